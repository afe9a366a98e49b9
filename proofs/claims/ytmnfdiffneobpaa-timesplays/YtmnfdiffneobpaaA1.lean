/-
  Blocks, boxes, a rise in its box.
-/
import Derived.Test.YtmnfdiffneobpaaV
import Derived.Test.YtmnfdiffneobpaaW1
import Derived.Test.YtmnfdiffneobpaaRows
import Derived.Deep.QuietTactic
import Derived.BigQuiet
import Derived.Deep.RegionHeld3
namespace Go.Proofs.Ytmnfdiffneobpaa
open Go.RowKit Go.Shelf
set_option linter.unusedVariables false

theorem alloc_grown (w : World) (o : Obj) : w.grownBy (w.alloc o) none := World.grownBy_alloc w o none
theorem cell_at {w : World} {b : Nat} {c : Array Value} {e : TypeId} {fr : Nat × Nat} (h : w.heap[b]? = some (.cells c e fr)) {i : Nat} : w.cell? ⟨b, i, none⟩ = c[i]? := by simp [World.cell?, h]
theorem cell_of {w : World} {b i : Nat} {c : Array Value} {e : TypeId} {fr : Nat × Nat} {v : Value} (h : w.heap[b]? = some (.cells c e fr)) (hi : c[i]? = some v) : w.cell? ⟨b, i, none⟩ = some v := by rw [cell_at h, hi]
theorem lt_of_heap {w : World} {k : Nat} {o : Obj} (h : w.heap[k]? = some o) : k < w.heap.size := (Array.getElem?_eq_some_iff.1 h).1
theorem heap_kept {w w' : World} {k : Nat} {o : Obj} {row : Option Nat} (hg : w.grownBy w' row) (h : w.heap[k]? = some o) (hne : some k ≠ row) : w'.heap[k]? = some o := (hg.block k (lt_of_heap h) hne).trans h
theorem box_own {A B : World} {row : Option Nat} {b : Nat} {t : TypeId} {v : Value} (h : Boxed A b t v) (hg : A.grownBy B row) (hr : ∀ r, row = some r → ∃ o : Obj, A.heap[r]? = some o ∧ o.isCells = false) : Boxed B b t v :=
  boxed_own (β := Unit) b t (fun _ => v) () A B row h hg hr
theorem hmf (fn : Fn) (first cap : Array Value) (w : World) : (Instr.makeFunc fn first cap).run Try.prog w = .ok (.func fn first cap) w := rfl
/-- A rise in its box. -/
def Sb (w : World) (g : Nat) (x y : Int) : Prop := w.heap[g]? = some (.cells #[.int .i64 x, .int .i64 y] 64)
theorem Sb.c0 {w : World} {g : Nat} {x y : Int} (h : Sb w g x y) : w.cell? ⟨g, 0, none⟩ = some (.int .i64 x) := cell_of h rfl
theorem Sb.c1 {w : World} {g : Nat} {x y : Int} (h : Sb w g x y) : w.cell? ⟨g, 1, none⟩ = some (.int .i64 y) := cell_of h rfl
theorem Sb.fz {w : World} {g : Nat} {x y : Int} (h : Sb w g x y) (i : Nat) : w.frozen? ⟨g, i, none⟩ = false := by
  unfold Sb at h
  unfold World.frozen?
  rw [h]
  simp
theorem Sb.new (w : World) (x y : Int) : Sb (w.alloc (.cells #[.int .i64 x, .int .i64 y] 64)) w.heap.size x y := World.alloc_heap_new _ _
theorem Sb.kept {w w' : World} {g : Nat} {x y : Int} {row : Option Nat} (h : Sb w g x y) (hg : w.grownBy w' row) (hne : some g ≠ row) : Sb w' g x y := heap_kept hg h hne
theorem Sb.grown {w w' : World} {g : Nat} {x y : Int} (h : Sb w g x y) (hg : w.grownBy w' none) : Sb w' g x y := h.kept hg (by simp)
theorem heap_set {w : World} {b : Nat} {c : Array Value} {e : TypeId} (h : w.heap[b]? = some (.cells c e)) (i : Nat) (v : Value) : (w.setCell ⟨b, i, none⟩ v).heap[b]? = some (.cells (c.setIfInBounds i v) e) := by
  rw [setCell_eq_setRow w b i c e (0, 0) v h]
  exact setRow_heap w b _ _ e _ h
theorem Sb.set {w : World} {g : Nat} {x y : Int} (h : Sb w g x y) (x' y' : Int) : Sb ((w.setCell ⟨g, 0, none⟩ (.int .i64 x')).setCell ⟨g, 1, none⟩ (.int .i64 y')) g x' y' := heap_set (heap_set h 0 _) 1 _
theorem Sb.lt {w : World} {g : Nat} {x y : Int} (h : Sb w g x y) : g < w.heap.size := lt_of_heap h
theorem set2_chg (w : World) (g : Nat) (u v : Value) : Chg w ((w.setCell ⟨g, 0, none⟩ u).setCell ⟨g, 1, none⟩ v) (fun k => k = g) := (setCell_chg w g 0 u).trans (setCell_chg _ g 1 v)

end Go.Proofs.Ytmnfdiffneobpaa
