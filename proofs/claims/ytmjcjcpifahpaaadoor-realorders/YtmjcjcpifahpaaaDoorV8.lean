/-
  RealOrders: math's Ldexp of a whole number, nought too: the walk.
-/
import Derived.Test.YtmjcjcpifahpaaaDoorV4
namespace Go.Proofs.YtmjcjcpifahpaaaDoor
open Go.RowKit
set_option linter.unusedVariables false

theorem ldexp_zero (w : World) (e : Int) : Calls Tryd.prog 58 #[.float .f64 0, .int .i64 e] w fun r w' => r = .returned (.float .f64 0) ∧ w' = w := by
  have hz : (FloatKind.f64.format.order 0 0 == some .eq) = true := by
    have h9 : (FloatKind.f64.format.order 0 0 == some .eq) = decide (0 % 9223372036854775808 = 0) := eq_zero (by omega)
    rw [h9]; rfl
  go_enter Tryd.func58, Tryd.ntmps58
  go_wp2_with fail
  go_ret
  exact ⟨rfl, rfl⟩
theorem bigLdexp_any (w : World) {m : Nat} {e : Int} (h0 : 0 < m) (hm : m < 9007199254740992) (h1 : -1100 ≤ e) (h2 : e ≤ 1100) : Calls Tryd.prog 38 #[.float .f64 (jn m 0), .int .i64 e] w fun r w' => ∃ z, r = .returned (.float .f64 z) ∧ z < 18446744073709551616 ∧ (-1074 ≤ e → e + (Lib.bitLen m : Int) ≤ 1024 → z = jn m e) ∧ w' = w := by
  have hl := ldexp_any w h0 hm h1 h2
  generalize jn m 0 = b at *
  go_enter Tryd.func38, Tryd.ntmps38
  go_wp2_with fail
  refine hl.mono ?_
  rintro r w1 ⟨z, rfl, hz1, hz2, rfl⟩
  go_wp2_with fail
  go_ret
  exact ⟨z, rfl, hz1, hz2, rfl⟩
theorem bigLdexp_zero (w : World) (e : Int) : Calls Tryd.prog 38 #[.float .f64 0, .int .i64 e] w fun r w' => r = .returned (.float .f64 0) ∧ w' = w := by
  have hl := ldexp_zero w e
  go_enter Tryd.func38, Tryd.ntmps38
  go_wp2_with fail
  refine hl.mono ?_
  rintro r w1 ⟨rfl, rfl⟩
  go_wp2_with fail
  go_ret
  exact ⟨rfl, rfl⟩
theorem of_int_zero : floatOfInt .f64 0 = 0 := by decide +kernel
end Go.Proofs.YtmjcjcpifahpaaaDoor
