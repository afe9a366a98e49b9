/-
  A disk that is not there: All, Names.
-/
import Derived.Test.YthkbakaodbceiaaD5
namespace Go.Proofs.Ythkbakaodbceiaa
open Go.RowKit Go.Shelf
set_option linter.unusedVariables false
attribute [local go_sem] Oper.semAt_some

theorem lt_of_heap {w : World} {k : Nat} {o : Obj} (h : w.heap[k]? = some o) : k < w.heap.size := (Array.getElem?_eq_some_iff.1 h).1
theorem heap_kept {w w' : World} {k : Nat} {o : Obj} {row : Option Nat} (hg : w.grownBy w' row) (h : w.heap[k]? = some o) (hne : some k ≠ row) : w'.heap[k]? = some o := (hg.block k (lt_of_heap h) hne).trans h
theorem box_own {A B : World} {row : Option Nat} {b : Nat} {t : TypeId} {v : Value} (h : Boxed A b t v) (hg : A.grownBy B row) (hr : ∀ r, row = some r → ∃ o : Obj, A.heap[r]? = some o ∧ o.isCells = false) : Boxed B b t v :=
  boxed_own (β := Unit) b t (fun _ => v) () A B row h hg hr

set_option maxRecDepth 100000 in
theorem all_no (w : World) (p : Option Addr) (h : No w p) : Calls Try.prog 39 #[.pointer p] w fun e w' => e = .returned (.func (.func 63) #[] #[.pointer (some ⟨w.heap.size, 0, none⟩)]) ∧ Boxed w' w.heap.size 75 (.slice none 0 0) ∧ w.grownBy w' none := by
  have hmf : ∀ (fn : Fn) (first cap : Array Value) (w : World), (Instr.makeFunc fn first cap).run Try.prog w = .ok (.func fn first cap) w := fun _ _ _ _ => rfl
  have hbx := Boxed.new w 75 (.slice none 0 0)
  have hg := alloc_grown w (.cells #[.slice none 0 0] 75)
  go_enter Try.func39, Try.ntmps39
  go_wp2_with fail
  refine (made_no _ _ (h.grown hg)).mono ?_
  rintro e w1 ⟨rfl, rfl⟩
  go_wp2
  go_ret
  exact ⟨rfl, hbx, hg⟩

set_option maxRecDepth 100000 in
set_option maxHeartbeats 1000000 in
theorem all1_none (n : Nat) (w : World) (z : Nat) (hz : Boxed w z 75 (.slice none 0 0)) :
    SeqTold (α := Empty) Fence.wide n Try.prog 63 #[.pointer (some ⟨z, 0, none⟩)] Empty.elim (fun _ _ _ _ => True) (fun _ _ => True) (fun _ => True) (fun _ => False) w := by
  intro l J Jx W hB _ _ _ h0
  have hb := hz.cell
  have hb2 := (hB.cell (p := ⟨z, 0, none⟩) hz.lt).trans hb
  show CallsIn Fence.wide n Try.prog 63 #[.func (.yield l) #[] #[], .pointer (some ⟨z, 0, none⟩)] W _
  refine callsIn_of_wp Try.func63 rfl trivial ?_
  simp only [Try.ntmps63, List.size_toArray, List.length_cons, List.length_nil, Nat.reduceAdd, Nat.reduceSub, Array.replicate_succ, Array.replicate_zero, List.push_toArray, List.append_toArray, List.nil_append, List.cons_append]
  gi_wp2
  gi_loopw [4, 7] (fun _ i wr => i = .int .i64 0 ∧ wr = W) (fun _ _ _ => 0)
  case atStart =>
    exact ⟨rfl, rfl⟩
  case round =>
    obtain ⟨rfl, rfl⟩ := hrel
    gi_wp2
    go_end0
    exact ⟨⟨_, rfl⟩, .inl ⟨[], trivial, h0⟩⟩
end Go.Proofs.Ythkbakaodbceiaa
