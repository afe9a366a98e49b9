/-
  RealOrders: the document's Read of any text.
-/
import Derived.Test.YtmjcjcpifahpaaaDoorVE
import Derived.Test.YtmjcjcpifahpaaaDoorVF
namespace Go.Proofs.YtmjcjcpifahpaaaDoor
open Go.RowKit
set_option linter.unusedVariables false

section
variable (DD : World → Prop) (hDg : ∀ W W', DD W → W.grownBy W' none → DD W')
  (C45 : ∀ W u, u < 18446744073709551616 → DD W → Calls Tryd.prog 45 #[.int .u64 (u : Nat), .int .i64 10] W fun e w' => e = .returned (.string ⟨(Lib.decDigits u).toArray⟩) ∧ W.grownBy w' none)
  (C46 : ∀ W n, -9223372036854775808 ≤ n → n ≤ 9223372036854775807 → DD W → Calls Tryd.prog 46 #[.int .i64 n] W fun e w' => e = .returned (.string ⟨(Lib.itoa n).toArray⟩) ∧ W.grownBy w' none)
include hDg C45 C46

theorem rread_any (w : World) (hD : DD w) (L : List UInt8) (hL : L.length ≤ 4611686018427387904) :
    Calls Tryd.prog 11 #[.string (sb L)] w fun e w' => ∃ d h, e = .returned (.tuple #[.float .f64 d, .int .i64 h]) ∧ RdA L d h ∧ w.grownBy w' none := by
  cases L with
  | nil => exact rread_nil w
  | cons c l =>
    by_cases h : c = 45
    · exact rread_neg DD hDg C45 C46 w hD (c :: l) l hL (by rw [h]; rfl) c l rfl h rfl
    · exact rread_pos DD hDg C45 C46 w hD (c :: l) (c :: l) hL (by simp [cut, h]) c l rfl h rfl

end
end Go.Proofs.YtmjcjcpifahpaaaDoor
