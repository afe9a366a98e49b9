/-
  RealHolds: the walk, for any three floats.
-/
import Derived.Test.YtmjcjcpifahpaaaDoorK2
namespace Go.Proofs.YtmjcjcpifahpaaaDoor
open Go.RowKit
set_option linter.unusedVariables false

theorem lt_ord {x y : Nat} (hx : x < 18446744073709551616) (hy : y < 18446744073709551616) (h : (FloatKind.f64.format.order x y == some .lt) = true) : ¬ 0 ≤ ordF x y := by
  have h0 : FloatKind.f64.format.order x y = some .lt := by simpa using h
  have h1 : Ieee.double.order x y = some .lt := h0
  have h2 := lt_plc hx hy h1
  have h3 := ord_neg x y
  have h4 : decide (plc x < plc y) = true := by simpa using h2
  rw [h4] at h3
  simp at h3
  omega

theorem realHolds_walk (w : World) (hD : Dt w) (x y z : Nat) (hx : x < 18446744073709551616) (hy : y < 18446744073709551616) (hz : z < 18446744073709551616) :
    Calls Tryd.prog 5 #[.float .f64 x, .float .f64 y, .float .f64 z] w fun e w' => e = .returned (.bool true) ∧ w.grownBy w' none := by
  refine holds_core w hD x y z hx hy hz (ordF x y) (ordF y z) (ordF x z) _ _ _ _ _ _ _ rfl (ord_anti x y) rfl rfl (ord_eq x y) rfl (ord_neg x y) rfl rfl rfl rfl rfl rfl (ord_bd x y).1 (ord_bd x y).2 ⟨?_, ?_⟩
  · by_cases hA : ordF x y ≤ 0
    · by_cases hB : ordF y z ≤ 0
      · refine Or.inr (Or.inr ⟨by simpa using hA, by simpa using hB, ?_⟩)
        have h1 := (ord_le x y).1 hA
        have h2 := (ord_le y z).1 hB
        have h3 : ordF x z ≤ 0 := (ord_le x z).2 (by omega)
        simp; omega
      · exact Or.inr (Or.inl ⟨by simpa using hA, by simpa using hB⟩)
    · exact Or.inl (by simpa using hA)
  · cases hl : (FloatKind.f64.format.order x y == some .lt) with
    | false => exact Or.inl rfl
    | true => exact Or.inr ⟨rfl, by have := lt_ord hx hy hl; simpa using this⟩
end Go.Proofs.YtmjcjcpifahpaaaDoor
