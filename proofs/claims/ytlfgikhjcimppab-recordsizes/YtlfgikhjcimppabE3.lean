/-
  The document's body: all behind the sum.
-/
import Derived.Test.YtlfgikhjcimppabD8
import Derived.Deep.RegionHeld3
namespace Go.Proofs.Ytlfgikhjcimppab
open Go.RowKit
set_option linter.unusedVariables false

section
variable {P : Program}
end

theorem heap_kept {w w' : World} {row : Option Nat} {g : Nat} {x : Obj} (hg : w.grownBy w' row) (h : w.heap[g]? = some x) (hne : some g ≠ row) : w'.heap[g]? = some x := by
  rw [hg.block g (by rcases Nat.lt_or_ge g w.heap.size with h9 | h9; exact h9; rw [Array.getElem?_eq_none h9] at h; cases h) hne]; exact h
/-- A row of bytes is no block of another kind. -/
theorem Ow.apart {w : World} {base : Nat} {ao : Option Addr} {n cap : Nat} {l : List UInt8} {g : Nat} {cs : Array Value} {fr : Nat × Nat} (h : Ow w base 5 ao n cap l) (hh : w.heap[g]? = some (.cells cs 37 fr)) : some g ≠ blk ao := by
  intro e
  rcases h.row.2 with ⟨hv, _⟩ | ⟨g', c, cur, hv, _, hg, _⟩
  · simp only [Value.slice.injEq] at hv
    rw [hv.1] at e
    cases e
  · simp only [Value.slice.injEq] at hv
    rw [hv.1] at e
    obtain rfl : g = g' := by simpa [blk] using e
    rw [hh] at hg
    simp at hg
end Go.Proofs.Ytlfgikhjcimppab
