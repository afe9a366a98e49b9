/-
  Arrays of numbers in memory. Nothing here speaks of the program.
-/
import Derived.Test.YtmjcjcpifahpaaaDoorMem
import Derived.Laws.BitsAllLaws
import Derived.Laws.Tables
import Derived.Laws.Rows
namespace Go.Proofs.YtmjcjcpifahpaaaDoor
open Go.RowKit
set_option linter.unusedVariables false


/-- An array of n numbers. -/
def tab (F : Nat → Nat) (n : Nat) : Array Value := ((List.range n).map fun i => Value.int .u8 (F i)).toArray
theorem tab_size (F : Nat → Nat) (n : Nat) : (tab F n).size = n := by simp [tab]
theorem tab_at (F : Nat → Nat) (n j : Nat) (h : j < n) : (tab F n)[j]? = some (.int .u8 (F j)) := by simp [tab, h]
theorem tab_one (F : Nat → Nat) (n : Nat) : (tab F n).all (·.oneCell') = true := by
  rw [Array.all_eq_true_iff_forall_mem]
  intro x hx
  simp only [tab, List.mem_toArray, List.mem_map] at hx
  obtain ⟨i, _, rfl⟩ := hx
  rfl
theorem tab_congr {F G : Nat → Nat} {n : Nat} (h : ∀ i, i < n → F i = G i) : tab F n = tab G n := by
  unfold tab
  congr 1
  apply List.map_congr_left
  intro i hi
  rw [h i (by simpa using hi)]

/-- A block that is an array of n numbers, of which the first k are F's. -/
def Tb (w : World) (g : Nat) (t : TypeId) (n k : Nat) (F : Nat → Nat) : Prop :=
  ∃ c, w.heap[g]? = some (.cells c t (0, 0)) ∧ c.size = n ∧ ∀ j, j < k → c[j]? = some (.int .u8 (F j))

theorem Tb.new (w : World) (c : Array Value) (t : TypeId) (n : Nat) (F : Nat → Nat) (h : c.size = n) : Tb (w.alloc (.cells c t)) w.heap.size t n 0 F :=
  ⟨c, heap_alloc_new w _, h, fun j hj => by omega⟩

theorem Tb.lt {w : World} {g : Nat} {t : TypeId} {n k : Nat} {F : Nat → Nat} (h : Tb w g t n k F) : g < w.heap.size := by
  obtain ⟨c, hc, _⟩ := h
  exact (Array.getElem?_eq_some_iff.1 hc).1

theorem Tb.cell {w : World} {g : Nat} {t : TypeId} {n k : Nat} {F : Nat → Nat} (h : Tb w g t n k F) (j : Nat) (hj : j < k) : w.cell? ⟨g, j, none⟩ = some (.int .u8 (F j)) := by
  obtain ⟨c, hc, _, hf⟩ := h
  rw [cell_of_row w g j c t (0, 0) hc]
  exact hf j hj

theorem Tb.any {w : World} {g : Nat} {t : TypeId} {n k : Nat} {F : Nat → Nat} (h : Tb w g t n k F) (j : Nat) (hj : j < n) : ∃ v, w.cell? ⟨g, j, none⟩ = some v := by
  obtain ⟨c, hc, hn, hf⟩ := h
  rw [cell_of_row w g j c t (0, 0) hc]
  exact ⟨c[j], by simp [hn, hj]⟩

theorem Tb.there {w : World} {g : Nat} {t : TypeId} {n k : Nat} {F : Nat → Nat} (h : Tb w g t n k F) (j : Nat) : w.frozen? ⟨g, j, none⟩ = false := by
  obtain ⟨c, hc, _⟩ := h
  simp [World.frozen?, hc]

theorem Tb.kept {w w' : World} {g : Nat} {t : TypeId} {n k : Nat} {F : Nat → Nat} {row : Option Nat} (h : Tb w g t n k F) (hg : w.grownBy w' row) (hne : some g ≠ row) : Tb w' g t n k F := by
  have hl := h.lt
  obtain ⟨c, hc, r⟩ := h
  exact ⟨c, by rw [hg.block g hl hne]; exact hc, r⟩

theorem Tb.grown {w w' : World} {g : Nat} {t : TypeId} {n k : Nat} {F : Nat → Nat} (h : Tb w g t n k F) (hg : w.grownBy w' none) : Tb w' g t n k F := h.kept hg (by simp)

theorem Tb.set {w : World} {g : Nat} {t : TypeId} {n k : Nat} {F : Nat → Nat} (h : Tb w g t n k F) (hk : k < n) {x : Int} (hx : x = (F k : Int)) : Tb (w.setCell ⟨g, k, none⟩ (.int .u8 x)) g t n (k + 1) F := by
  obtain ⟨c, hc, hn, hf⟩ := h
  refine ⟨c.setIfInBounds k (.int .u8 x), ?_, by simp [hn], fun j hj => ?_⟩
  · rw [setCell_eq_setRow w g k c t (0, 0) _ hc]
    exact setRow_heap w g _ _ t _ hc
  · by_cases e : j = k
    · subst e
      simp [hn, hk, hx]
    · rw [Array.getElem?_setIfInBounds_ne (fun h => e h.symm)]
      exact hf j (by omega)

theorem Tb.whole {w : World} {g : Nat} {t : TypeId} {n : Nat} {F : Nat → Nat} (h : Tb w g t n n F) : w.heap[g]? = some (.cells (tab F n) t (0, 0)) := by
  obtain ⟨c, hc, hn, hf⟩ := h
  rw [hc]
  congr 2
  apply Array.ext_getElem?
  intro j
  by_cases hj : j < n
  · rw [hf j hj, tab_at F n j hj]
  · rw [Array.getElem?_eq_none (by omega), Array.getElem?_eq_none (by rw [tab_size]; omega)]

theorem Tb.put {w : World} {g : Nat} {t : TypeId} {n k : Nat} {F G : Nat → Nat} (h : Tb w g t n k F) : Tb (w.setRow g (tab G n)) g t n n G := by
  obtain ⟨c, hc, hn, hf⟩ := h
  exact ⟨tab G n, setRow_heap w g _ _ t _ hc, tab_size G n, fun j hj => tab_at G n j hj⟩

theorem setRow_grown (w : World) (g : Nat) (c : Array Value) : w.grownBy (w.setRow g c) (some g) :=
  ⟨rfl, rfl, rfl, by simp [World.setRow], fun j _ hne => setRow_other w g j _ (fun e' => hne (by rw [e']))⟩

theorem below_of_new {w w' w'' : World} {g : Nat} (h : w.grownBy w' none) (h2 : w'.grownBy w'' (some g)) (hg : w.heap.size ≤ g) : w.grownBy w'' none :=
  grown_trans h h2 (fun k hk => by cases hk; exact Or.inr hg)

theorem alloc_grown (w : World) (o : Obj) : w.grownBy (w.alloc o) none := World.grownBy_alloc w o none

section
variable {P : Program} {w : World}
/-- A whole array is stored. -/
theorem wpList_store_tab {ops : Array Oper} {rest : List Oper} {o : Oper} {a : Act} {Q : Exit → Act → World → Prop} (hgd : o.guard = none) (ty : TypeId) (x y : Operand) (ho : o.op = .store ty x y)
    (g : Nat) (F : Nat → Nat) (n : Nat) (hx : a.eval x = .pointer (some ⟨g, 0, none⟩)) (hy : a.eval y = .agg (tab F n)) (t : TypeId) {k : Nat} {G : Nat → Nat} (hT : Tb w g t n k G) (hi : (P.info? ty).map (·.size) = some n)
    (h : ∀ w', Tb w' g t n n F → w.grownBy w' (some g) → wpList P ops Q rest (a.put o.dst undef) w') : wpList P ops Q (o :: rest) a w := by
  have h2 := h _ (hT.put (G := F)) (setRow_grown _ _ _)
  obtain ⟨c, hc, hn, _⟩ := hT
  exact wpList_store_row hgd ty x y ho g (tab F n) hx hy t c hc (by rw [tab_size]; exact hi) (by rw [tab_size]; exact hn) (tab_one _ _) h2
/-- A whole array is loaded. -/
theorem wpList_load_tab {ops : Array Oper} {rest : List Oper} {o : Oper} {a : Act} {Q : Exit → Act → World → Prop} (hgd : o.guard = none) (ty : TypeId) (x : Operand) (ho : o.op = .load ty x)
    (g : Nat) (F : Nat → Nat) (n : Nat) (hx : a.eval x = .pointer (some ⟨g, 0, none⟩)) (t : TypeId) (hT : Tb w g t n n F) (d : TypeDesc)
    (hu : P.underlying ty = some d) (hd : (match d with | .struct _ | .array _ _ => true | _ => false) = true) (hi : (P.info? ty).map (·.size) = some n)
    (h : wpList P ops Q rest (a.put o.dst (.agg (tab F n))) w) : wpList P ops Q (o :: rest) a w :=
  wpList_load_row hgd ty x ho g hx t (tab F n) (0, 0) d hT.whole hu hd (by rw [tab_size]; exact hi) h
theorem results_tab {fn : Func} {p : Tmp} {ty : TypeId} (h : fn.results = #[.cell p ty]) (tmps : Array Value) (g : Nat) (t : TypeId) (F : Nat → Nat) (n : Nat) (d : TypeDesc)
    (hp : tmps.getD p undef = .pointer (some ⟨g, 0, none⟩)) (hT : Tb w g t n n F)
    (hu : P.underlying ty = some d) (hd : (match d with | .struct _ | .array _ _ => true | _ => false) = true) (hi : (P.info? ty).map (·.size) = some n) :
    (results fn tmps).run P w = .ok (.agg (tab F n)) w :=
  results_cell_row h tmps w g t (tab F n) (0, 0) d hp hT.whole hu hd (by rw [tab_size]; exact hi)
end
end Go.Proofs.YtmjcjcpifahpaaaDoor
