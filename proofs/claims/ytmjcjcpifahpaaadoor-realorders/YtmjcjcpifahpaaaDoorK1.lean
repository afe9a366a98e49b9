/-
  What the orders of three floats are to one another.
-/
import Derived.Test.YtmjcjcpifahpaaaDoorH7
import Derived.Test.YtmjcjcpifahpaaaDoorO1
namespace Go.Proofs.YtmjcjcpifahpaaaDoor
open Go.RowKit Go.Shelf Go.Sort Go.Lib
set_option linter.unusedVariables false

theorem ord_anti (x y : Nat) : ordF y x = -ordF x y := by
  unfold ordF cmpN
  by_cases h : plc x < plc y
  · have h2 : ¬ plc y < plc x := by omega
    simp [h, h2]
  · by_cases h2 : plc y < plc x <;> simp [h, h2]
theorem ord_neg (x y : Nat) : decide (ordF x y < 0) = decide (plc x < plc y) := by
  unfold ordF cmpN
  by_cases h : plc x < plc y
  · simp [h]
  · by_cases h2 : plc y < plc x <;> simp [h, h2]
theorem ord_le (x y : Nat) : ordF x y ≤ 0 ↔ plc x ≤ plc y := by
  unfold ordF cmpN
  by_cases h : plc x < plc y
  · simp [h]; omega
  · by_cases h2 : plc y < plc x
    · simp [h, h2]
    · simp [h, h2]; omega
theorem ord_bd (x y : Nat) : -1 ≤ ordF x y ∧ ordF x y ≤ 1 := by
  unfold ordF cmpN
  split
  · omega
  · split <;> omega
theorem ord_eq (x y : Nat) : (ordF x y == 0) = decide (plc x = plc y) := ord_zero x y

/-- A key's array as a string. -/
theorem tab_bs {w : World} {g : Nat} {l : List UInt8} (h : Tb w g 23 8 8 (nth l)) (hl : l.length = 8) : Bs w (some ⟨g, 0, none⟩) 8 8 l := by
  refine ⟨hl, Nat.le_refl _, by decide, (by simp), fun a ha j u hu => ?_⟩
  obtain rfl := Option.some.inj ha
  rw [Addr.add_lit, Nat.zero_add]
  have hj : j < 8 := by
    have := (List.getElem?_eq_some_iff.1 hu).1
    simp [hl] at this; exact this
  have hjl : j < l.length := by omega
  rw [h.cell j hj]
  rw [List.getElem?_map, List.getElem?_eq_getElem hjl] at hu
  simp only [Option.map_some, Option.some.injEq] at hu
  rw [← hu]
  simp [nth, bv, hjl]
end Go.Proofs.YtmjcjcpifahpaaaDoor
