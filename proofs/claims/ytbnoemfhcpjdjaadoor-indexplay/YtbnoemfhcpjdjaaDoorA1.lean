/-
  An index that is not there: what each call answers.
-/
import Derived.Test.YtbnoemfhcpjdjaaDoorV
import Derived.Test.YtbnoemfhcpjdjaaDoorW1
import Derived.Test.YtbnoemfhcpjdjaaDoorRows
import Derived.Deep.QuietTactic
import Derived.BigQuiet
import Derived.Deep.RegionHeld3
namespace Go.Proofs.YtbnoemfhcpjdjaaDoor
open Go.RowKit Go.Shelf
set_option linter.unusedVariables false

/-- Nil, or a zero one. -/
def No (w : World) (p : Option Addr) : Prop := p = none ∨ ∃ b, p = some ⟨b, 0, none⟩ ∧ w.cell? ⟨b, 0, none⟩ = some (.int .i64 0)
theorem No.grown {w w' : World} {p : Option Addr} (h : No w p) (hg : w.grownBy w' none) : No w' p := by
  rcases h with h | ⟨b, h, hc⟩
  · exact .inl h
  · exact .inr ⟨b, h, hg.cell hc (by simp)⟩
theorem alloc_grown (w : World) (o : Obj) : w.grownBy (w.alloc o) none := World.grownBy_alloc w o none
theorem cell_at {w : World} {b : Nat} {c : Array Value} {e : TypeId} {fr : Nat × Nat} (h : w.heap[b]? = some (.cells c e fr)) {i : Nat} : w.cell? ⟨b, i, none⟩ = c[i]? := by simp [World.cell?, h]
theorem cell_of {w : World} {b i : Nat} {c : Array Value} {e : TypeId} {fr : Nat × Nat} {v : Value} (h : w.heap[b]? = some (.cells c e fr)) (hi : c[i]? = some v) : w.cell? ⟨b, i, none⟩ = some v := by rw [cell_at h, hi]
theorem No.zero (w : World) (s : Value) (t : TypeId) : No (w.alloc (.cells #[.int .i64 0, s] t)) (some ⟨w.heap.size, 0, none⟩) :=
  .inr ⟨w.heap.size, rfl, by rw [cell_at (World.alloc_heap_new w _)]; rfl⟩
theorem lt_of_heap {w : World} {k : Nat} {o : Obj} (h : w.heap[k]? = some o) : k < w.heap.size := (Array.getElem?_eq_some_iff.1 h).1
theorem heap_kept {w w' : World} {k : Nat} {o : Obj} {row : Option Nat} (hg : w.grownBy w' row) (h : w.heap[k]? = some o) (hne : some k ≠ row) : w'.heap[k]? = some o := (hg.block k (lt_of_heap h) hne).trans h
theorem box_own {A B : World} {row : Option Nat} {b : Nat} {t : TypeId} {v : Value} (h : Boxed A b t v) (hg : A.grownBy B row) (hr : ∀ r, row = some r → ∃ o : Obj, A.heap[r]? = some o ∧ o.isCells = false) : Boxed B b t v :=
  boxed_own (β := Unit) b t (fun _ => v) () A B row h hg hr
theorem hmf (fn : Fn) (first cap : Array Value) (w : World) : (Instr.makeFunc fn first cap).run Tryd.prog w = .ok (.func fn first cap) w := rfl
/-- A spot in its box. -/
def Sb (w : World) (g : Nat) (x y : Int) : Prop := w.heap[g]? = some (.cells #[.int .i64 x, .int .i64 y] 33)
theorem Sb.c0 {w : World} {g : Nat} {x y : Int} (h : Sb w g x y) : w.cell? ⟨g, 0, none⟩ = some (.int .i64 x) := cell_of h rfl
theorem Sb.c1 {w : World} {g : Nat} {x y : Int} (h : Sb w g x y) : w.cell? ⟨g, 1, none⟩ = some (.int .i64 y) := cell_of h rfl
theorem Sb.fz {w : World} {g : Nat} {x y : Int} (h : Sb w g x y) (i : Nat) : w.frozen? ⟨g, i, none⟩ = false := by
  unfold Sb at h
  unfold World.frozen?
  rw [h]
  simp
theorem Sb.new (w : World) (x y : Int) : Sb (w.alloc (.cells #[.int .i64 x, .int .i64 y] 33)) w.heap.size x y := World.alloc_heap_new _ _
theorem Sb.kept {w w' : World} {g : Nat} {x y : Int} {row : Option Nat} (h : Sb w g x y) (hg : w.grownBy w' row) (hne : some g ≠ row) : Sb w' g x y := heap_kept hg h hne
theorem Sb.grown {w w' : World} {g : Nat} {x y : Int} (h : Sb w g x y) (hg : w.grownBy w' none) : Sb w' g x y := h.kept hg (by simp)
theorem heap_set {w : World} {b : Nat} {c : Array Value} {e : TypeId} (h : w.heap[b]? = some (.cells c e)) (i : Nat) (v : Value) : (w.setCell ⟨b, i, none⟩ v).heap[b]? = some (.cells (c.setIfInBounds i v) e) := by
  rw [setCell_eq_setRow w b i c e (0, 0) v h]
  exact setRow_heap w b _ _ e _ h
theorem Sb.set {w : World} {g : Nat} {x y : Int} (h : Sb w g x y) (x' y' : Int) : Sb ((w.setCell ⟨g, 0, none⟩ (.int .i64 x')).setCell ⟨g, 1, none⟩ (.int .i64 y')) g x' y' := heap_set (heap_set h 0 _) 1 _
theorem Sb.lt {w : World} {g : Nat} {x y : Int} (h : Sb w g x y) : g < w.heap.size := lt_of_heap h
theorem set2_chg (w : World) (g : Nat) (u v : Value) : Chg w ((w.setCell ⟨g, 0, none⟩ u).setCell ⟨g, 1, none⟩ v) (fun k => k = g) := (setCell_chg w g 0 u).trans (setCell_chg _ g 1 v)

set_option maxRecDepth 100000 in
theorem made_no (w : World) (p : Option Addr) (h : No w p) : Calls Tryd.prog 26 #[.pointer p] w fun e w' => e = .returned (.bool false) ∧ w' = w := by
  rcases h with rfl | ⟨b, rfl, hc⟩
  · go_enter Tryd.func26, Tryd.ntmps26
    go_wp2
    go_ret
    exact ⟨rfl, rfl⟩
  · go_enter Tryd.func26, Tryd.ntmps26
    go_wp2
    go_ret
    exact ⟨rfl, rfl⟩

set_option maxRecDepth 100000 in
theorem add_no (w : World) (p : Option Addr) (x y : Int) (h : No w p) : Calls Tryd.prog 10 #[.pointer p, .agg #[.int .i64 x, .int .i64 y]] w fun e w' => e = .returned (.tuple #[.bool false, .int .i64 1]) ∧ w.grownBy w' none := by
  go_enter Tryd.func10, Tryd.ntmps10
  go_wp2_with fail
  refine (made_no _ _ (h.grown (alloc_grown _ _))).mono ?_
  rintro e w1 ⟨rfl, rfl⟩
  go_wp2
  go_ret2
  exact ⟨rfl, alloc_grown _ _⟩

set_option maxRecDepth 100000 in
theorem last_no (w : World) (p : Option Addr) (f : Value) (h : No w p) : Calls Tryd.prog 29 #[.pointer p, f] w fun e w' => e = .returned (.tuple #[.agg #[.int .i64 0, .int .i64 0], .bool false]) ∧ w.grownBy w' none := by
  have hg := alloc_grown w (.cells #[.int .i64 0, .int .i64 0] 33)
  have hs := Sb.new w 0 0
  have v0 := hs.c0
  have v1 := hs.c1
  go_enter Tryd.func29, Tryd.ntmps29
  go_wp2_with fail
  refine (made_no _ _ (h.grown hg)).mono ?_
  rintro e w1 ⟨rfl, rfl⟩
  go_wp2
  exact bodyPost_ret (v := .tuple #[.agg #[.int .i64 0, .int .i64 0], .bool false]) (by simp [results, Tryd.results29, go_sem, v0, v1]) rfl ⟨rfl, hg⟩

set_option maxRecDepth 100000 in
theorem find_no (w : World) (p : Option Addr) (n : Int) (h : No w p) : Calls Tryd.prog 12 #[.pointer p, .int .i64 n] w fun e w' => e = .returned (.tuple #[.agg #[.int .i64 0, .int .i64 0], .bool false]) ∧ w.grownBy w' none := by
  have hmf := hmf
  have hg := grown_trans (alloc_grown w (.cells #[.int .i64 n] 2)) (alloc_grown _ (.cells #[.int .i64 0, .int .i64 0] 33)) (by simp)
  have hs := Sb.new (w.alloc (.cells #[.int .i64 n] 2)) 0 0
  rw [World.size_alloc] at hs
  have hla := last_no _ p (.func (.func 30) #[] #[.pointer (some ⟨w.heap.size, 0, none⟩)]) (h.grown hg)
  go_enter Tryd.func12, Tryd.ntmps12
  go_wp2_with fail
  refine hla.mono ?_
  rintro e w1 ⟨rfl, hg1⟩
  replace hs := hs.grown hg1
  replace hg := grown_trans hg hg1 (by simp)
  have c0 := hs.c0
  have c1 := hs.c1
  have f0 := hs.fz 0
  have f1 := hs.fz 1
  have hw := hs.set 0 0
  have hgw : w.grownBy _ none := ((Chg.of_grown hg _).trans (set2_chg w1 (w.heap.size + 1) (.int .i64 0) (.int .i64 0))).grown (fun k hk e => by omega)
  have v0 := hw.c0
  have v1 := hw.c1
  clear hla hg1 hs hw
  go_wp2
  exact bodyPost_ret (v := .tuple #[.agg #[.int .i64 0, .int .i64 0], .bool false]) (by simp [results, Tryd.results12, go_sem, v0, v1]) rfl ⟨rfl, hgw⟩

set_option maxRecDepth 100000 in
theorem at_no (w : World) (p : Option Addr) (n : Int) (h : No w p) : Calls Tryd.prog 14 #[.pointer p, .int .i64 n] w fun e w' => e = .returned (.tuple #[.agg #[.int .i64 0, .int .i64 0], .bool false]) ∧ w.grownBy w' none := by
  have hmf := hmf
  have hg := grown_trans (alloc_grown w (.cells #[.int .i64 n] 3)) (alloc_grown _ (.cells #[.int .i64 0, .int .i64 0] 33)) (by simp)
  have hs := Sb.new (w.alloc (.cells #[.int .i64 n] 3)) 0 0
  rw [World.size_alloc] at hs
  have hla := last_no _ p (.func (.func 31) #[] #[.pointer (some ⟨w.heap.size, 0, none⟩)]) (h.grown hg)
  go_enter Tryd.func14, Tryd.ntmps14
  go_wp2_with fail
  refine hla.mono ?_
  rintro e w1 ⟨rfl, hg1⟩
  replace hs := hs.grown hg1
  replace hg := grown_trans hg hg1 (by simp)
  have c0 := hs.c0
  have c1 := hs.c1
  have f0 := hs.fz 0
  have f1 := hs.fz 1
  have hw := hs.set 0 0
  have hgw : w.grownBy _ none := ((Chg.of_grown hg _).trans (set2_chg w1 (w.heap.size + 1) (.int .i64 0) (.int .i64 0))).grown (fun k hk e => by omega)
  have v0 := hw.c0
  have v1 := hw.c1
  clear hla hg1 hs hw
  go_wp2
  exact bodyPost_ret (v := .tuple #[.agg #[.int .i64 0, .int .i64 0], .bool false]) (by simp [results, Tryd.results14, go_sem, v0, v1]) rfl ⟨rfl, hgw⟩

set_option maxRecDepth 100000 in
theorem cut_no (w : World) (p : Option Addr) (n : Int) (h : No w p) : Calls Tryd.prog 16 #[.pointer p, .int .i64 n] w fun e w' => e = .returned (.int .i64 0) ∧ w.grownBy w' none := by
  go_enter Tryd.func16, Tryd.ntmps16
  go_wp2_with fail
  refine (made_no _ _ (h.grown (alloc_grown _ _))).mono ?_
  rintro e w1 ⟨rfl, rfl⟩
  go_wp2
  go_ret
  exact ⟨rfl, alloc_grown _ _⟩

set_option maxRecDepth 100000 in
theorem len_no (w : World) (p : Option Addr) (h : No w p) : Calls Tryd.prog 23 #[.pointer p] w fun e w' => e = .returned (.int .i64 0) ∧ w' = w := by
  go_enter Tryd.func23, Tryd.ntmps23
  go_wp2_with fail
  refine (made_no _ _ h).mono ?_
  rintro e w1 ⟨rfl, rfl⟩
  go_wp2
  go_ret
  exact ⟨rfl, rfl⟩

set_option maxRecDepth 100000 in
theorem copy_no (w : World) (p : Option Addr) (h : No w p) : Calls Tryd.prog 18 #[.pointer p] w fun e w' => e = .returned (.pointer none) ∧ w' = w := by
  go_enter Tryd.func18, Tryd.ntmps18
  go_wp2_with fail
  refine (made_no _ _ h).mono ?_
  rintro e w1 ⟨rfl, rfl⟩
  go_wp2
  go_ret
  exact ⟨rfl, rfl⟩

set_option maxRecDepth 100000 in
theorem bytes_no (w : World) (p : Option Addr) (h : No w p) : Calls Tryd.prog 20 #[.pointer p] w fun e w' => e = .returned (.tuple #[.slice none 0 0, .int .i64 1]) ∧ w' = w := by
  go_enter Tryd.func20, Tryd.ntmps20
  go_wp2_with fail
  refine (made_no _ _ h).mono ?_
  rintro e w1 ⟨rfl, rfl⟩
  go_wp2
  go_ret2
  exact ⟨rfl, rfl⟩

set_option maxRecDepth 100000 in
theorem all_no (w : World) (p : Option Addr) (h : No w p) : Calls Tryd.prog 25 #[.pointer p] w fun e w' => e = .returned (.func (.func 43) #[] #[.pointer (some ⟨w.heap.size, 0, none⟩)]) ∧ Boxed w' w.heap.size 29 (.slice none 0 0) ∧ w.grownBy w' none := by
  have hmf := hmf
  have hbx := Boxed.new w 29 (.slice none 0 0)
  have hg := alloc_grown w (.cells #[.slice none 0 0] 29)
  go_enter Tryd.func25, Tryd.ntmps25
  go_wp2_with fail
  refine (made_no _ _ (h.grown hg)).mono ?_
  rintro e w1 ⟨rfl, rfl⟩
  go_wp2
  go_ret
  exact ⟨rfl, hbx, hg⟩

set_option maxRecDepth 100000 in
set_option maxHeartbeats 1000000 in
theorem all1_none (n : Nat) (w : World) (z : Nat) (hz : Boxed w z 29 (.slice none 0 0)) :
    SeqTold (α := Empty) Fence.wide n Tryd.prog 43 #[.pointer (some ⟨z, 0, none⟩)] Empty.elim (fun _ _ _ _ => True) (fun _ _ => True) (fun _ => True) (fun _ => False) w := by
  intro l J Jx W hB _ _ _ h0
  have hb := hz.cell
  have hb2 := (hB.cell (p := ⟨z, 0, none⟩) hz.lt).trans hb
  show CallsIn Fence.wide n Tryd.prog 43 #[.func (.yield l) #[] #[], .pointer (some ⟨z, 0, none⟩)] W _
  refine callsIn_of_wp Tryd.func43 rfl trivial ?_
  simp only [Tryd.ntmps43, List.size_toArray, List.length_cons, List.length_nil, Nat.reduceAdd, Nat.reduceSub, Array.replicate_succ, Array.replicate_zero, List.push_toArray, List.append_toArray, List.nil_append, List.cons_append]
  gi_wp2
  gi_loopw [4, 7] (fun _ i wr => i = .int .i64 0 ∧ wr = W) (fun _ _ _ => 0)
  case atStart =>
    exact ⟨rfl, rfl⟩
  case round =>
    obtain ⟨rfl, rfl⟩ := hrel
    gi_wp2
    go_end0
    exact ⟨⟨_, rfl⟩, .inl ⟨[], trivial, h0⟩⟩
end Go.Proofs.YtbnoemfhcpjdjaaDoor
