/-
  A segment that is not there has no batches.
-/
import Derived.Test.YtlghcboenkglnaaGreatDoorG1
namespace Go.Proofs.YtlghcboenkglnaaGreatDoor
open Go.RowKit Go.Shelf
set_option linter.unusedVariables false

theorem hmf (fn : Fn) (first cap : Array Value) (w : World) : (Instr.makeFunc fn first cap).run Tryz.prog w = .ok (.func fn first cap) w := rfl
theorem box_own {A B : World} {row : Option Nat} {b : Nat} {t : TypeId} {v : Value} (h : Boxed A b t v) (hg : A.grownBy B row) (hr : ∀ r, row = some r → ∃ o : Obj, A.heap[r]? = some o ∧ o.isCells = false) : Boxed B b t v :=
  boxed_own (β := Unit) b t (fun _ => v) () A B row h hg hr

set_option maxRecDepth 100000 in
theorem fresh_nil (w : World) : Calls Tryz.prog 121 #[.slice none 0 0] w fun e w' => ∃ o, e = .returned (.slice o 0 0) ∧ w.grownBy w' none := by
  go_enter Tryz.func121, Tryz.ntmps121
  go_wp2_with (at_make; refine wpList_make_bs _ rfl _ _ 48 rfl w.heap.size 5 Tryz.underlying48 info5 0 0 rfl rfl rfl rfl (Nat.le_refl _) (by omega) (Nat.le_refl _) ?_)
  intro g w1 ho1 hg1
  have hb1 := Bs.empty w1
  go_wp2_with (refine wpList_copy_bs _ rfl (.tmp 7) (.tmp 8) 48 rfl w.heap.size 5 Tryz.underlying48 info5 rfl ho1 rfl hb1 ?_)
  intro w2 ho2 hg2
  go_wp2
  go_ret
  exact ⟨_, rfl, grown_trans hg1 hg2 (fun k hk => Or.inr (ho1.from_base k hk).1)⟩

set_option maxRecDepth 100000 in
theorem extent_nil (w : World) (o : Option Addr) : Calls Tryz.prog 164 #[.slice o 0 0, .int .i64 0] w fun e w' => e = .returned (.tuple #[.int .i64 0, .int .i64 150]) ∧ w' = w := by
  go_enter Tryz.func164, Tryz.ntmps164
  go_wp2
  go_ret2
  exact ⟨rfl, rfl⟩

abbrev Zw : Obj := .cells #[.int .i64 0, .slice none 0 0, .int .i64 0] 226
set_option maxRecDepth 100000 in
theorem find_nil (w : World) (o : Option Addr) : Calls Tryz.prog 146 #[.slice o 0 0, .int .i64 0] w fun e w' => e = .returned (.tuple #[.agg #[.int .i64 0, .slice none 0 0, .int .i64 0], .int .i64 150]) ∧ w.grownBy w' none := by
  have hk := World.alloc_heap_new w Zw
  have hg := alloc_grown w Zw
  have v0 := cell_at hk (i := 0)
  have v1 := cell_at hk (i := 1)
  have v2 := cell_at hk (i := 2)
  simp only [List.getElem?_toArray, List.getElem?_cons_zero, List.getElem?_cons_succ] at v0 v1 v2
  have f0 := fz_at hk 0
  have f1 := fz_at hk 1
  have f2 := fz_at hk 2
  go_enter Tryz.func146, Tryz.ntmps146
  go_wp2_with fail
  refine (extent_nil _ _).mono ?_
  rintro e w1 ⟨rfl, rfl⟩
  go_wp2
  generalize w.alloc Zw = W at *
  exact bodyPost_ret (v := .tuple #[.agg #[.int .i64 0, .slice none 0 0, .int .i64 0], .int .i64 150]) (by simp [results, Tryz.results146, go_sem, v0, v1, v2]) rfl ⟨rfl, hg⟩

set_option maxRecDepth 100000 in
theorem wholes_nil (w : World) (o : Option Addr) : Calls Tryz.prog 123 #[.slice o 0 0, .int .i64 0] w fun e w' => e = .returned (.func (.func 150) #[] #[.pointer (some ⟨w.heap.size + 1, 0, none⟩), .pointer (some ⟨w.heap.size, 0, none⟩)]) ∧ Boxed w' w.heap.size 48 (.slice o 0 0) ∧ Boxed w' (w.heap.size + 1) 3 (.int .i64 0) ∧ w.grownBy w' none := by
  have hmf := hmf
  have h1 := Boxed.new w 48 (.slice o 0 0)
  have g1 := alloc_grown w (.cells #[.slice o 0 0] 48)
  have h2 := Boxed.new (w.alloc (.cells #[.slice o 0 0] 48)) 3 (.int .i64 0)
  have g2 := alloc_grown (w.alloc (.cells #[.slice o 0 0] 48)) (.cells #[.int .i64 0] 3)
  rw [World.size_alloc] at h2
  go_enter Tryz.func123, Tryz.ntmps123
  go_wp2
  go_ret
  exact ⟨rfl, box_own h1 g2 (fun r e => by cases e), h2, grown_trans g1 g2 (by simp)⟩

set_option maxRecDepth 100000 in
set_option maxHeartbeats 1000000 in
theorem wholes1_none (n : Nat) (w : World) (z y : Nat) (o : Option Addr) (hz : Boxed w z 48 (.slice o 0 0)) (hy : Boxed w y 3 (.int .i64 0)) :
    SeqTold (α := Empty) Fence.wide n Tryz.prog 150 #[.pointer (some ⟨y, 0, none⟩), .pointer (some ⟨z, 0, none⟩)] Empty.elim (fun _ _ _ _ => True) (fun _ _ => True) (fun _ => True) (fun _ => False) w := by
  intro l J Jx W hB hJ _ _ h0
  have cz := (hB.cell (p := ⟨z, 0, none⟩) hz.lt).trans hz.cell
  have cy := (hB.cell (p := ⟨y, 0, none⟩) hy.lt).trans hy.cell
  show CallsIn Fence.wide n Tryz.prog 150 #[.func (.yield l) #[] #[], .pointer (some ⟨y, 0, none⟩), .pointer (some ⟨z, 0, none⟩)] W _
  refine callsIn_of_wp Tryz.func150 rfl trivial ?_
  simp only [Tryz.ntmps150, List.size_toArray, List.length_cons, List.length_nil, Nat.reduceAdd, Nat.reduceSub, Array.replicate_succ, Array.replicate_zero, List.push_toArray, List.append_toArray, List.nil_append, List.cons_append]
  gi_wp2
  gi_loopw [4] (fun v4 wr => v4 = .int .i64 0 ∧ wr = W) (fun _ _ => 0)
  case atStart =>
    exact ⟨rfl, rfl⟩
  case round =>
    obtain ⟨rfl, rfl⟩ := hrel
    gi_wp2_with fail
    refine ⟨trivial, fun e => (Bool.false_ne_true e).elim, callsIn_wide.2 ((find_nil _ _).mono ?_)⟩
    rintro e w1 ⟨rfl, hg1⟩
    have hg2 := grown_trans hg1 (alloc_grown w1 Zw) (by simp)
    have h9 := hJ [] _ _ none h0 hg2 (fun q e => by cases e)
    clear hg1 hg2
    gi_wp2_with fail
    refine ⟨(fun f hf => nomatch hf), ?_⟩
    gi_wp2
    refine bodyPost_ret (results_none rfl _ _ _) rfl ?_
    exact ⟨⟨_, rfl⟩, .inl ⟨[], trivial, h9⟩⟩

set_option maxRecDepth 100000 in
set_option maxHeartbeats 2000000 in
theorem all1_none (m : Nat) (hm : 3 ≤ m) (w : World) (z : Nat) (o : Option Addr) (hz : Boxed w z 48 (.slice o 0 0)) :
    SeqOwn (α := Empty) Fence.wide m Tryz.prog 122 #[.pointer (some ⟨z, 0, none⟩)] Empty.elim (fun _ _ _ _ => True) (fun _ _ => True) (fun _ => True) (fun _ => False) w := by
  intro l J Jx W hB hJ _ _ h0
  have hbz : Boxed W z 48 (.slice o 0 0) := (hB.block z hz.lt).trans hz
  have g1 := alloc_grown W (.cells #[.func (.yield l) #[] #[]] 221)
  have cz := (box_own hbz g1 (fun r e => by cases e)).cell
  have hwh := wholes_nil (W.alloc (.cells #[.func (.yield l) #[] #[]] 221)) o
  show CallsIn Fence.wide m Tryz.prog 122 #[.func (.yield l) #[] #[], .pointer (some ⟨z, 0, none⟩)] W _
  refine callsIn_of_wp_marks Tryz.func122 rfl trivial ?_
  simp only [Tryz.ntmps122, List.size_toArray, List.length_cons, List.length_nil, Nat.reduceAdd, Nat.reduceSub, Array.replicate_succ, Array.replicate_zero, List.push_toArray, List.append_toArray, List.nil_append, List.cons_append]
  gi_wp2_with fail
  generalize W.alloc (.cells #[.func (.yield l) #[] #[]] 221) = W1 at *
  refine ⟨trivial, fun e => (Bool.false_ne_true e).elim, callsIn_wide.2 (hwh.mono ?_)⟩
  clear hwh
  rintro e w3 ⟨rfl, kb, ka, hg3⟩
  have hG3 := grown_trans g1 hg3 (by simp)
  have hJ3 := hJ [] _ _ none h0 hG3 (fun q e => by cases e)
  have hs3 := hG3.size
  clear cz
  gi_wp2_with fail
  apply wpIn_rangeFunc_told (α := Empty) (encs := Empty.elim) (Kp := fun _ _ => True) (w0 := w3) rfl (by omega) (gf := 150) (lb := #[.pointer (some ⟨W1.heap.size + 1, 0, none⟩), .pointer (some ⟨W1.heap.size, 0, none⟩)]) rfl trivial (enters_of Tryz.func150 (by kernel_rfl) rfl)
    (wholes1_none (m - 1) w3 _ _ o kb ka) (fun _ _ => trivial) (fun _ _ _ _ _ _ _ _ => trivial) (Below.refl _ _) (fun x => x.elim)
    (fun pre W' => J [] W')
    (fun _ _ _ => False)
    (fun s A B row hs hg hr => hJ [] A B row hs hg (fun r e => ⟨by have := (hr r e).1; omega, (hr r e).2⟩))
    (fun cd s A B row hs hg hr => hs.elim)
    hJ3
    (fun _ _ _ _ => False)
  case hAx => intro pre x; exact x.elim
  case hassign => intro pre x; exact x.elim
  case hbody => intro pre x; exact x.elim
  case hstop =>
    intro D c pre W' _ hf
    exact hf.elim
  case hdone =>
    rintro D xs W' hD _ hI hK
    gi_wp2_with fail
    refine ⟨by simp, .inl ⟨_, _, rfl, run_takeDeferred hK, ?_⟩⟩
    exact ⟨_, results_none rfl _ _ _, ⟨_, rfl⟩, .inl ⟨[], trivial, hJ [] W' _ (some D) hI (grownBy_putObj' W' D (.deferred none)) (fun r e => by cases e; exact ⟨by omega, _, hK, rfl⟩)⟩⟩

set_option maxRecDepth 100000 in
theorem all92_nil (w : World) : Calls Tryz.prog 92 #[.slice none 0 0] w fun e w' => ∃ z o, e = .returned (.func (.func 122) #[] #[.pointer (some ⟨z, 0, none⟩)]) ∧ Boxed w' z 48 (.slice o 0 0) ∧ w.grownBy w' none := by
  have hmf := hmf
  go_enter Tryz.func92, Tryz.ntmps92
  go_wp2_with fail
  refine (fresh_nil w).mono ?_
  rintro e w1 ⟨o, rfl, hg1⟩
  have hb := Boxed.new w1 48 (.slice o 0 0)
  have hg2 := alloc_grown w1 (.cells #[.slice o 0 0] 48)
  go_wp2
  go_ret
  exact ⟨_, o, rfl, hb, grown_trans hg1 hg2 (by simp)⟩

set_option maxRecDepth 100000 in
theorem batches_no (w : World) (p : Option Addr) (h : No w p) : Calls Tryz.prog 42 #[.pointer p] w fun e w' => ∃ z o, e = .returned (.func (.func 122) #[] #[.pointer (some ⟨z, 0, none⟩)]) ∧ Boxed w' z 48 (.slice o 0 0) ∧ w.grownBy w' none := by
  go_enter Tryz.func42, Tryz.ntmps42
  go_wp2_with fail
  refine (told_no w p h).mono ?_
  unfold file0
  rintro e w1 ⟨rfl, hg1⟩
  have hg2 := alloc_grown w1 Z8
  have hk := World.alloc_heap_new w1 Z8
  have v2 := cell_at hk (i := 2)
  have v4 := cell_at hk (i := 4)
  have v5 := cell_at hk (i := 5)
  simp only [List.getElem?_toArray, List.getElem?_cons_zero, List.getElem?_cons_succ] at v2 v4 v5
  go_wp2_with fail
  refine (read91_nil _ _ _ _).mono ?_
  rintro e w2 ⟨rfl, rfl⟩
  go_wp2_with fail
  refine (all92_nil _).mono ?_
  rintro e w3 ⟨z, o, rfl, hb, hg3⟩
  go_wp2
  go_ret
  exact ⟨z, o, rfl, hb, grown_trans (grown_trans hg1 hg2 (by simp)) hg3 (by simp)⟩

set_option maxRecDepth 100000 in
theorem made129_nil (w : World) : Calls Tryz.prog 129 #[.pointer none] w fun e w' => e = .returned (.bool false) ∧ w' = w := by
  go_enter Tryz.func129, Tryz.ntmps129
  go_wp2
  go_ret
  exact ⟨rfl, rfl⟩
set_option maxRecDepth 100000 in
theorem all99_nil (w : World) : Calls Tryz.prog 99 #[.pointer none] w fun e w' => e = .returned (.func (.func 131) #[] #[.pointer (some ⟨w.heap.size, 0, none⟩)]) ∧ Boxed w' w.heap.size 123 (.slice none 0 0) ∧ w.grownBy w' none := by
  have hmf := hmf
  have hbx := Boxed.new w 123 (.slice none 0 0)
  have hg := alloc_grown w (.cells #[.slice none 0 0] 123)
  go_enter Tryz.func99, Tryz.ntmps99
  go_wp2_with fail
  refine (made129_nil _).mono ?_
  rintro e w1 ⟨rfl, rfl⟩
  go_wp2
  go_ret
  exact ⟨rfl, hbx, hg⟩
set_option maxRecDepth 100000 in
set_option maxHeartbeats 1000000 in
theorem iter131_none (n : Nat) (w : World) (z : Nat) (hz : Boxed w z 123 (.slice none 0 0)) :
    SeqTold (α := Empty) Fence.wide n Tryz.prog 131 #[.pointer (some ⟨z, 0, none⟩)] Empty.elim (fun _ _ _ _ => True) (fun _ _ => True) (fun _ => True) (fun _ => False) w := by
  intro l J Jx W hB _ _ _ h0
  have hb := hz.cell
  have hb2 := (hB.cell (p := ⟨z, 0, none⟩) hz.lt).trans hb
  show CallsIn Fence.wide n Tryz.prog 131 #[.func (.yield l) #[] #[], .pointer (some ⟨z, 0, none⟩)] W _
  refine callsIn_of_wp Tryz.func131 rfl trivial ?_
  simp only [Tryz.ntmps131, List.size_toArray, List.length_cons, List.length_nil, Nat.reduceAdd, Nat.reduceSub, Array.replicate_succ, Array.replicate_zero, List.push_toArray, List.append_toArray, List.nil_append, List.cons_append]
  gi_wp2
  gi_loopw [4, 7] (fun _ i wr => i = .int .i64 0 ∧ wr = W) (fun _ _ _ => 0)
  case atStart =>
    exact ⟨rfl, rfl⟩
  case round =>
    obtain ⟨rfl, rfl⟩ := hrel
    gi_wp2
    go_end0
    exact ⟨⟨_, rfl⟩, .inl ⟨[], trivial, h0⟩⟩

set_option maxRecDepth 100000 in
set_option maxHeartbeats 2000000 in
theorem seq128_none (w : World) (z : Nat) (hz : Boxed w z 123 (.slice none 0 0)) : Calls Tryz.prog 128 #[.slice none 0 0, .func (.func 131) #[] #[.pointer (some ⟨z, 0, none⟩)]] w fun e w' => e = .returned (.slice none 0 0) ∧ w.grownBy w' none := by
  have hbx := Boxed.new w 123 (.slice none 0 0)
  have hg := alloc_grown w (.cells #[.slice none 0 0] 123)
  have hz1 := box_own hz hg (fun r e => by cases e)
  refine (callsIn_wide (n := 5)).1 ?_
  refine callsIn_of_wp_marks Tryz.func128 rfl trivial ?_
  simp only [Tryz.ntmps128, List.size_toArray, List.length_cons, List.length_nil, Nat.reduceAdd, Nat.reduceSub, Array.replicate_succ, Array.replicate_zero, List.push_toArray, List.append_toArray, List.nil_append, List.cons_append]
  gi_wp2_with fail
  have hs1 : (w.alloc (.cells #[.slice none 0 0] 123)).heap.size = w.heap.size + 1 := by simp
  generalize w.alloc (.cells #[.slice none 0 0] 123) = w1 at *
  apply wpIn_rangeFunc_told (α := Empty) (encs := Empty.elim) (Kp := fun _ _ => True) (w0 := w1) rfl (by decide) (gf := 131) (lb := #[.pointer (some ⟨z, 0, none⟩)]) rfl trivial (enters_of Tryz.func131 (by kernel_rfl) rfl)
    (iter131_none 4 w1 _ hz1) (fun _ _ => trivial) (fun _ _ _ _ _ _ _ _ => trivial) (Below.refl _ _) (fun x => x.elim)
    (fun pre W => Boxed W w.heap.size 123 (.slice none 0 0) ∧ Below w.heap.size w W)
    (fun _ _ _ => False)
    (fun s A B row hs hg hr => ⟨box_own hs.1 hg (fun r e => (hr r e).2), (ownFrom_below (β := Unit) (Nat.le_refl _) (by omega)) () A B row hs.2 hg hr⟩)
    (fun cd s A B row hs hg hr => hs.elim)
    ⟨hbx, grownBy_below hg⟩
    (fun _ _ _ _ => False)
  case hAx => intro pre x; exact x.elim
  case hassign => intro pre x; exact x.elim
  case hbody => intro pre x; exact x.elim
  case hstop =>
    intro D c pre W _ hf
    exact hf.elim
  case hdone =>
    rintro D xs W hD _ ⟨hX, hB⟩ hK
    have c0 := hX.cell
    gi_wp2_with fail
    refine ⟨by simp, .inl ⟨_, _, rfl, run_takeDeferred hK, ?_⟩⟩
    have hpo := grownBy_putObj' W D (.deferred none)
    exact ⟨_, results_tmp rfl _ _ _, rfl, below_grownBy (hB.grown hpo hB.size (fun k hk => by cases hk; omega))⟩

set_option maxRecDepth 100000 in
theorem spots_no (w : World) (p : Option Addr) (h : No w p) : Calls Tryz.prog 56 #[.pointer p] w fun e w' => e = .returned (.slice none 0 0) ∧ w.grownBy w' none := by
  have q4 := fl4
  go_enter Tryz.func56, Tryz.ntmps56
  go_wp2_with fail
  refine (told_no w p h).mono ?_
  unfold file0
  rintro e w1 ⟨rfl, hg1⟩
  go_wp2_with fail
  refine (all99_nil w1).mono ?_
  rintro e w2 ⟨rfl, hb2, hg2⟩
  have hco : Calls Tryz.prog 98 #[.func (.func 131) #[] #[.pointer (some ⟨w1.heap.size, 0, none⟩)]] w2 fun e w' => e = .returned (.slice none 0 0) ∧ w2.grownBy w' none := by
    go_enter Tryz.func98, Tryz.ntmps98
    go_wp2_with fail
    refine (seq128_none w2 _ hb2).mono ?_
    rintro e w3 ⟨rfl, hg3⟩
    go_wp2
    go_ret
    exact ⟨rfl, hg3⟩
  go_wp2_with fail
  refine hco.mono ?_
  rintro e w3 ⟨rfl, hg3⟩
  go_wp2
  go_ret
  exact ⟨rfl, grown_trans (grown_trans hg1 hg2 (by simp)) hg3 (by simp)⟩
end Go.Proofs.YtlghcboenkglnaaGreatDoor
