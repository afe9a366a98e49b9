/-
  The document's Copy.
-/
import Derived.Test.YtlfgikhjcimppabE3
import Derived.Deep.AppendLies
namespace Go.Proofs.Ytlfgikhjcimppab
open Go.RowKit
set_option linter.unusedVariables false

/-- A record in new memory, away from the row in which it lies. -/
structure Aw (w : World) (base : Nat) (row : Option Nat) (r : Rc) : Prop where
  rk : Rk w r
  kin : ∀ a, r.ko = some a → base ≤ a.block ∧ a.block < w.heap.size ∧ some a.block ≠ row
  vin : ∀ a, r.vo = some a → base ≤ a.block ∧ a.block < w.heap.size ∧ some a.block ≠ row
/-- Behind an append to the row, which made a new block or none. -/
theorem Aw.append {w w' : World} {base : Nat} {row row' : Option Nat} {r : Rc} (h : Aw w base row r) (hg : w.grownBy w' row) (hr : row' = row ∨ row' = some w.heap.size) : Aw w' base row' r := by
  refine ⟨⟨h.rk.low, h.rk.high, h.rk.key.kept hg (fun a ha => (h.kin a ha).2.2), h.rk.value.kept hg (fun a ha => (h.vin a ha).2.2), h.rk.kb, h.rk.vb⟩, fun a ha => ?_, fun a ha => ?_⟩
  · obtain ⟨h1, h2, h3⟩ := h.kin a ha
    refine ⟨h1, Nat.lt_of_lt_of_le h2 hg.size, ?_⟩
    rcases hr with rfl | rfl
    · exact h3
    · simp; omega
  · obtain ⟨h1, h2, h3⟩ := h.vin a ha
    refine ⟨h1, Nat.lt_of_lt_of_le h2 hg.size, ?_⟩
    rcases hr with rfl | rfl
    · exact h3
    · simp; omega
theorem Aw.kept {w w' : World} {base : Nat} {row : Option Nat} {r : Rc} (h : Aw w base row r) (hg : w.grownBy w' row) : Aw w' base row r := h.append hg (Or.inl rfl)
theorem Aw.grown {w w' : World} {base : Nat} {row : Option Nat} {r : Rc} (h : Aw w base row r) (hg : w.grownBy w' none) : Aw w' base row r := h.kept (grown_any hg row)
end Go.Proofs.Ytlfgikhjcimppab
