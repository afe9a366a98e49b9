/-
  Keys: the walks.
-/
import Derived.Test.YtmjcjcpifahpaaaDoorG2
import Derived.Test.YtmjcjcpifahpaaaDoorRev
namespace Go.Proofs.YtmjcjcpifahpaaaDoor
open Go.RowKit
set_option linter.unusedVariables false

theorem u64_nat {x : Nat} (h : x < 18446744073709551616) : IntKind.u64.wrap (x : Int) = (x : Int) := by rw [IntKind.wrap_u64]; omega

theorem and64 {a : Nat} (b : Nat) {A B : Int} (hA : A = (a : Int)) (hB : B = (b : Int)) (ha : a < 18446744073709551616) (hb : b < 18446744073709551616) : bits .and .u64 A B = ((a &&& b : Nat) : Int) := by
  subst hA; subst hB; exact bits_and_u64_nat a b ha hb
theorem or64 {a b : Nat} {A B : Int} (hA : A = (a : Int)) (hB : B = (b : Int)) (ha : a < 18446744073709551616) (hb : b < 18446744073709551616) : bits .or .u64 A B = ((a ||| b : Nat) : Int) := by
  subst hA; subst hB; exact bits_or_u64_nat a b ha hb

theorem rb1_int {x : Nat} (hx : x < 18446744073709551616) : bits .or .u64 (bits .and .u64 ((x : Int) / 256) 71777214294589695) (IntKind.u64.wrap (bits .and .u64 (x : Int) 71777214294589695 * 256)) = (rb1 x : Int) := by
  have h1 := and64 71777214294589695 (show (x : Int) / 256 = ((x / 256 : Nat) : Int) by omega) (show (71777214294589695 : Int) = ((71777214294589695 : Nat) : Int) from rfl) (by omega) (by omega)
  have h2 := and64 71777214294589695 (rfl : (x : Int) = (x : Int)) (show (71777214294589695 : Int) = ((71777214294589695 : Nat) : Int) from rfl) hx (by omega)
  rw [h1, h2]
  refine or64 rfl ?_ (rb1_a x) (rb1_b x)
  have := rb1_b x
  rw [IntKind.wrap_u64]
  omega
theorem rb2_int {x : Nat} (hx : x < 18446744073709551616) : bits .or .u64 (bits .and .u64 ((x : Int) / 65536) 281470681808895) (IntKind.u64.wrap (bits .and .u64 (x : Int) 281470681808895 * 65536)) = (rb2 x : Int) := by
  have h1 := and64 281470681808895 (show (x : Int) / 65536 = ((x / 65536 : Nat) : Int) by omega) (show (281470681808895 : Int) = ((281470681808895 : Nat) : Int) from rfl) (by omega) (by omega)
  have h2 := and64 281470681808895 (rfl : (x : Int) = (x : Int)) (show (281470681808895 : Int) = ((281470681808895 : Nat) : Int) from rfl) hx (by omega)
  rw [h1, h2]
  refine or64 rfl ?_ (rb2_a x) (rb2_b x)
  have := rb2_b x
  rw [IntKind.wrap_u64]
  omega
theorem rb3_int {x : Nat} (hx : x < 18446744073709551616) : bits .or .u64 ((x : Int) / 4294967296) (IntKind.u64.wrap ((x : Int) * 4294967296)) = (rb3 x : Int) := by
  refine or64 (show (x : Int) / 4294967296 = ((x / 4294967296 : Nat) : Int) by omega) ?_ (by omega) (Nat.mod_lt _ (by omega))
  rw [IntKind.wrap_u64]
  omega

set_option maxHeartbeats 1000000 in
theorem reverse_any (w : World) (x : Nat) (hx : x < 18446744073709551616) :
    Calls Tryd.prog 49 #[.int .u64 x] w fun e w' => e = .returned (.int .u64 (rb x)) ∧ w' = w := by
  have h1 := rb1_int hx
  have h2 := rb2_int (rb1_lt x)
  have h3 := rb3_int (rb2_lt (rb1 x))
  go_enter Tryd.func49, Tryd.ntmps49
  go_wp2
  go_ret
  exact ⟨rfl, rfl⟩

set_option maxHeartbeats 400000 in
theorem appendKey_any (w : World) (ao : Option Addr) (n cap x : Nat) (l : List UInt8) (hb : Bs w ao n cap l) (hx : x < 18446744073709551616) (hsz : n + 8 ≤ 140737488355328) :
    Calls Tryd.prog 20 #[.slice ao n cap, .float .f64 x] w fun e w' => ∃ ao' cap', e = .returned (.slice ao' (n + 8) cap') ∧ Ow w' w.heap.size 5 ao' (n + 8) cap' (l ++ kyl (plc x)) ∧ w.grownBy w' none := by
  go_enter Tryd.func20, Tryd.ntmps20
  go_wp2_with (first
    | (go_at_call 41; refine (place_any _ _ hx).mono ?_; rintro e w' ⟨rfl, rfl⟩)
    | (go_at_call 49; refine (reverse_any _ _ (plc_lt hx)).mono ?_; rintro e w' ⟨rfl, rfl⟩)
    | (go_at_call 48; refine (appendU64_any _ ao n cap (rb (plc x)) l hb (rb_lt _) hsz).mono ?_; rintro e w' ⟨ao', cap', rfl, ho, hg⟩))
  go_ret
  rw [low_rb] at ho
  exact ⟨_, _, rfl, ho, hg⟩

/-- A list of bytes as an array's numbers. -/
def nth (l : List UInt8) (i : Nat) : Nat := (l.getD i 0).toNat

theorem info23 : (Tryd.prog.info? 23).map (·.size) = some 8 := by kernel_rfl

section
variable {P : Program} (w : World)
/-- 'copy(k[:], s)' into a whole array of bytes. -/
theorem run_copy_arr (ty t e : TypeId) (ht : P.underlying t = some (.slice e)) (hsz : (P.info? e).map (·.size) = some 1)
    {g n : Nat} {T : TypeId} {k0 : Nat} {F : Nat → Nat} (hT : Tb w g T n k0 F) (hn : 0 < n) {xo : Option Addr} {c : Nat} {k : List UInt8} (hb : Bs w xo n c k) :
    ∃ w', (Builtin.copy_ #[t, t] ty #[.slice (some ⟨g, 0, none⟩) n n, .slice xo n c]).run P w = .ok (.int .i64 n) w' ∧ Tb w' g T n n (nth k) ∧ w.grownBy w' (some g) := by
  obtain ⟨cur, hg, hcn, _⟩ := hT
  obtain ⟨b, o', rfl, _⟩ := hb.addr hn
  have hkl : (k.map bv).length = n := by simp [hb.len]
  have hrun := run_copy_row (P := P) w t t ty e g 0 n n ⟨b, o', none⟩ n c cur T (k.map bv) ht hsz hg (by simp [hb.len]) (hb.cells _ rfl) (by rw [hkl]; omega) (bv_one k)
  have hput : (goInt (k.map bv).length : Value) = .int .i64 n := by rw [hkl]; rfl
  rw [hput] at hrun
  refine ⟨_, hrun, ⟨_, setRow_heap w g cur _ T _ hg, ?_, ?_⟩, setRow_grown _ _ _⟩
  · simp [hb.len, hcn]
  · intro j hj
    have hjk : j < k.length := by rw [hb.len]; exact hj
    simp [hb.len, hcn, nth, bv, List.getD_eq_getElem?_getD, hj]
end

end Go.Proofs.YtmjcjcpifahpaaaDoor
