/-
  The law's look at a segment that is not there; SegmentNil: the walk.
-/
import Derived.Test.YtlghcboenkglnaaGreatDoorG3
namespace Go.Proofs.YtlghcboenkglnaaGreatDoor
open Go.RowKit Go.Shelf
set_option linter.unusedVariables false

theorem run_equalIn_fn (w : World) (d : Nat) (t : TypeId) (ps rs : Array TypeId) (vd : Bool) (ht : Tryz.prog.underlying t = some (.func ps rs vd)) (fn : Fn) (fi ca : Array Value) : (Op.equalIn (d + 1) t (.func fn fi ca) .nilFunc).run Tryz.prog w = .ok false w := by
  simp [Op.equalIn, run_underlying ht]
theorem run_equal_fn (w : World) (t : TypeId) (ps rs : Array TypeId) (vd : Bool) (ht : Tryz.prog.underlying t = some (.func ps rs vd)) (fn : Fn) (fi ca : Array Value) : (Op.equal t (.func fn fi ca) .nilFunc).run Tryz.prog w = .ok false w := run_equalIn_fn w 9999 t ps rs vd ht fn fi ca
theorem run_eql_fn (w : World) (t : TypeId) (ps rs : Array TypeId) (vd : Bool) (ht : Tryz.prog.underlying t = some (.func ps rs vd)) (fn : Fn) (fi ca : Array Value) : (binOp .eql t (.func fn fi ca) .nilFunc).run Tryz.prog w = .ok (.bool false) w := by
  simp only [binOp]
  simp [run_equal_fn w t ps rs vd ht fn fi ca]
theorem results_bool {fn : Func} {p : Tmp} (h : fn.results = #[.cell p 4]) (tmps : Array Value) (w : World) (g : Nat) (b : Bool) (hp : tmps.getD p undef = .pointer (some ⟨g, 0, none⟩)) (hc : w.cell? ⟨g, 0, none⟩ = some (.bool b)) : (results fn tmps).run Tryz.prog w = .ok (.bool b) w := by
  simp only [results, h]
  have hp' : tmps[p]?.getD undef = .pointer (some ⟨g, 0, none⟩) := by simpa using hp
  simp [Sem.run_bind, Result.andThen, hp', asAddr, loadVar, go_sem, hc]
theorem No.below {w W : World} {p : Option Addr} (h : No w p) (hB : Below w.heap.size w W) : No W p := by
  rcases h with h | ⟨b, h, hc⟩
  · exact .inl h
  · exact .inr ⟨b, h, (hB.block b (lt_of_heap hc)).trans hc⟩

/-- A batch in its box. -/
def Bx (w : World) (g : Nat) (x : Int) (o : Option Addr) (n c : Nat) : Prop := w.heap[g]? = some (.cells #[.int .i64 x, .slice o n c] 54)
theorem Bx.c0 {w : World} {g : Nat} {x : Int} {o : Option Addr} {n c : Nat} (h : Bx w g x o n c) : w.cell? ⟨g, 0, none⟩ = some (.int .i64 x) := (cell_at h (i := 0)).trans rfl
theorem Bx.c1 {w : World} {g : Nat} {x : Int} {o : Option Addr} {n c : Nat} (h : Bx w g x o n c) : w.cell? ⟨g, 1, none⟩ = some (.slice o n c) := (cell_at h (i := 1)).trans rfl
theorem Bx.own {A B : World} {row : Option Nat} {g : Nat} {x : Int} {o : Option Addr} {n c : Nat} (h : Bx A g x o n c) (hg : A.grownBy B row) (hr : ∀ r, row = some r → ∃ o : Obj, A.heap[r]? = some o ∧ o.isCells = false) : Bx B g x o n c :=
  heap_kept hg h (fun e => by
    obtain ⟨o, h1, h2⟩ := hr _ e.symm
    unfold Bx at h
    rw [h] at h1
    cases h1
    cases h2)
theorem Bx.grown {A B : World} {g : Nat} {x : Int} {o : Option Addr} {n c : Nat} (h : Bx A g x o n c) (hg : A.grownBy B none) : Bx B g x o n c := h.own hg (fun r e => by cases e)

set_option maxRecDepth 100000 in
set_option maxHeartbeats 4000000 in
theorem none44_any (w : World) (p : Option Addr) (h : No w p) (x : Int) (o : Option Addr) (k c : Nat) (n : Int) :
    Calls Tryz.prog 44 #[.pointer p, .agg #[.int .i64 x, .slice o k c], .int .i64 n] w fun e w' => e = .returned (.bool true) ∧ w.grownBy w' none := by
  have hg := grown_trans (alloc_grown w (.cells #[.int .i64 x, .slice o k c] 54)) (alloc_grown _ (.cells #[.bool false] 4)) (by simp)
  have hbb : Bx _ w.heap.size x o k c := Bx.grown (World.alloc_heap_new w (.cells #[.int .i64 x, .slice o k c] 54)) (alloc_grown _ (.cells #[.bool false] 4))
  have hbx := Boxed.new (w.alloc (.cells #[.int .i64 x, .slice o k c] 54)) 4 (.bool false)
  rw [World.size_alloc] at hbx
  refine (callsIn_wide (n := 6)).1 ?_
  refine callsIn_of_wp_marks Tryz.func44 rfl trivial ?_
  simp only [Tryz.ntmps44, List.size_toArray, List.length_cons, List.length_nil, Nat.reduceAdd, Nat.reduceSub, Array.replicate_succ, Array.replicate_zero, List.push_toArray, List.append_toArray, List.nil_append, List.cons_append]
  gi_wp2_with fail
  generalize (w.alloc (.cells #[.int .i64 x, .slice o k c] 54)).alloc (.cells #[.bool false] 4) = w2 at *
  refine ⟨trivial, callsIn_wide.2 ((read_no _ p (h.grown hg) n n 1).mono ?_)⟩
  rintro e w3 ⟨rfl, hg3⟩
  replace hbx := box_own hbx hg3 (fun r e => by cases e)
  replace hbb := hbb.grown hg3
  replace hg := grown_trans hg hg3 (by simp)
  clear hg3
  gi_wp2_with fail
  refine ⟨trivial, callsIn_wide.2 ((batches_no _ p (h.grown hg)).mono ?_)⟩
  rintro e w4 ⟨z, zo, rfl, hz, hg4⟩
  replace hbx := box_own hbx hg4 (fun r e => by cases e)
  replace hbb := hbb.grown hg4
  replace hg := grown_trans hg hg4 (by simp)
  clear hg4
  have heq := fun W => run_eql_fn W 96 _ _ _ Tryz.underlying96 (.func 122) #[] #[.pointer (some ⟨z, 0, none⟩)]
  gi_wp2_with fail
  clear heq
  have hs4 := hg.size
  apply wpIn_rangeFunc_keeps (α := Empty) (encs := Empty.elim) (Kp := fun _ _ => True) (w0 := w4) rfl (by decide) (gf := 122) (lb := #[.pointer (some ⟨z, 0, none⟩)]) rfl trivial (enters_of Tryz.func122 (by kernel_rfl) rfl)
    (all1_none 5 (by decide) w4 z zo hz) (fun _ _ => trivial) (fun _ _ _ _ _ _ _ _ => trivial) (Below.refl _ _) (fun x => x.elim)
    (fun pre W => Boxed W (w.heap.size + 1) 4 (.bool false) ∧ Bx W w.heap.size x o k c ∧ Below w.heap.size w W)
    (fun _ _ _ => False)
    (fun s A B row hs hg hr => ⟨box_own hs.1 hg (fun r e => (hr r e).2), hs.2.1.own hg (fun r e => (hr r e).2), (ownFrom_below (β := Unit) (Nat.le_refl _) (by omega)) () A B row hs.2.2 hg hr⟩)
    (fun cd s A B row hs hg hr => hs.elim)
    ⟨hbx, hbb, grownBy_below hg⟩
    (fun _ _ _ _ => False)
  case hAx => intro pre x; exact x.elim
  case hassign => intro pre x; exact x.elim
  case hbody => intro pre x; exact x.elim
  case hstop =>
    intro D c pre W _ hf
    exact hf.elim
  case hdone =>
    rintro D xs W hD _ ⟨hX, hY, hB⟩ hK
    clear hbx hbb hg hz
    have hNo := h.below hB
    have a0 := hY.c0
    have a1 := hY.c1
    gi_wp2_with fail
    refine ⟨trivial, callsIn_wide.2 ((append_no _ p hNo x o k c).mono ?_)⟩
    rintro e W1 ⟨rfl, hg1⟩
    clear a0 a1
    gi_wp2_with fail
    refine ⟨trivial, callsIn_wide.2 ((sync_no _ p (hNo.grown hg1)).mono ?_)⟩
    rintro e W2 ⟨rfl, hg2⟩
    replace hg2 := grown_trans hg1 hg2 (by simp)
    gi_wp2_with fail
    refine ⟨trivial, callsIn_wide.2 ((base_no _ p (hNo.grown hg2)).mono ?_)⟩
    rintro e W3 ⟨rfl, hg3⟩
    replace hg3 := grown_trans hg2 hg3 (by simp)
    gi_wp2_with fail
    refine ⟨trivial, callsIn_wide.2 ((end_no _ p (hNo.grown hg3)).mono ?_)⟩
    rintro e W4 ⟨rfl, hg4⟩
    replace hg4 := grown_trans hg3 hg4 (by simp)
    gi_wp2_with fail
    refine ⟨trivial, callsIn_wide.2 ((size_no _ p (hNo.grown hg4)).mono ?_)⟩
    rintro e W5 ⟨rfl, hg5⟩
    replace hg5 := grown_trans hg4 hg5 (by simp)
    gi_wp2_with fail
    refine ⟨trivial, callsIn_wide.2 ((spots_no _ p (hNo.grown hg5)).mono ?_)⟩
    rintro e W6 ⟨rfl, hg6⟩
    replace hg6 := grown_trans hg5 hg6 (by simp)
    replace hX := box_own hX hg6 (fun r e => by cases e)
    replace hB := hB.grown hg6 (by have := hB.size; omega) (fun k hk => by cases hk)
    replace hK := heap_kept hg6 hK (by simp)
    clear hg1 hg2 hg3 hg4 hg5 hg6 hNo hY
    have c0 := hX.cell
    have f0 := hX.frozen
    have hb9 := hX.set (.bool true)
    have hB9 : Below w.heap.size w (W6.setCell ⟨w.heap.size + 1, 0, none⟩ (.bool true)) := hB.trans ⟨rfl, rfl, rfl, by simp, fun k hk => Below.heap_setCell _ _ _ _ (by show k ≠ w.heap.size + 1; omega)⟩
    have hK9 : (W6.setCell ⟨w.heap.size + 1, 0, none⟩ (.bool true)).heap[D]? = some (.deferred (some [])) := (Below.heap_setCell _ _ _ _ (by show D ≠ w.heap.size + 1; intro e; subst e; rw [show W6.heap[w.heap.size + 1]? = _ from hX] at hK; cases hK)).trans hK
    clear hX hB hK
    gi_wp2_with fail
    refine ⟨by simp, .inl ⟨_, _, rfl, run_takeDeferred hK9, ?_⟩⟩
    have hpo := grownBy_putObj' (W6.setCell ⟨w.heap.size + 1, 0, none⟩ (.bool true)) D (.deferred none)
    refine ⟨_, results_bool rfl _ _ (w.heap.size + 1) true rfl ?_, rfl, below_grownBy (hB9.grown hpo hB9.size (fun k hk => by cases hk; omega))⟩
    exact (box_own hb9 hpo (fun r e => by cases e; exact ⟨_, hK9, rfl⟩)).cell

set_option maxRecDepth 100000 in
set_option maxHeartbeats 4000000 in
theorem segmentNil_any (w : World) (x : Int) (o : Option Addr) (k c : Nat) (n : Int) (s : ByteArray) : Calls Tryz.prog 5 #[.agg #[.int .i64 x, .slice o k c], .int .i64 n, .string s] w fun e w' => e = .returned (.bool true) ∧ w.grownBy w' none := by
  have q43 : ∀ W : World, (binOp .eql 43 (.agg #[.int .i64 0, .int .i64 0, .int .i64 0, .int .i64 0]) (.agg #[.int .i64 0, .int .i64 0, .int .i64 0, .int .i64 0])).run Tryz.prog W = .ok (.bool true) W := fun _ => by kernel_rfl
  have hg0 := alloc_grown w (.cells #[.int .i64 x, .slice o k c] 54)
  have hb0 : Bx _ w.heap.size x o k c := World.alloc_heap_new w (.cells #[.int .i64 x, .slice o k c] 54)
  go_enter Tryz.func5, Tryz.ntmps5
  go_wp2_with fail
  generalize w.alloc (.cells #[.int .i64 x, .slice o k c] 54) = w0 at *
  refine (look34_nil w0 s).mono ?_
  unfold found0
  rintro e w1 ⟨rfl, hg1⟩
  have ga := alloc_grown w1 Z4
  have kf := World.alloc_heap_new w1 Z4
  replace hg1 := grown_trans hg1 ga (by simp)
  clear ga
  go_wp2_with fail
  generalize w1.alloc Z4 = w2 at *
  generalize w1.heap.size = zf' at *
  refine (open30_nil w2 s 1).mono ?_
  rintro e w3 ⟨rfl, hg3⟩
  replace kf := heap_kept hg3 kf (by simp)
  replace hg3 := grown_trans hg1 hg3 (by simp)
  go_wp2_with fail
  refine (mend28_nil w3 s).mono ?_
  unfold found0
  rintro e w4 ⟨rfl, hg4⟩
  have gb := alloc_grown w4 Z4
  have km := World.alloc_heap_new w4 Z4
  replace kf := heap_kept gb (heap_kept hg4 kf (by simp)) (by simp)
  replace hg4 := grown_trans (grown_trans hg3 hg4 (by simp)) gb (by simp)
  replace hb0 := hb0.grown hg4
  have hG := grown_trans hg0 hg4 (by simp)
  clear hg1 hg3 gb hg4 hg0
  have a0 := hb0.c0
  have a1 := hb0.c1
  go_wp2_with fail
  generalize w4.alloc Z4 = w5 at *
  generalize w4.heap.size = zm at *
  refine (none44_any w5 none (.inl rfl) x o k c n).mono ?_
  rintro e w6 ⟨rfl, hg6⟩
  clear a0 a1
  have gc := alloc_grown w6 (.cells #[.int .i64 0, .int .i64 0, .int .i64 0, .int .i64 0, .pointer none, .string ⟨#[]⟩, .int .i64 0, .pointer none] 104)
  have ks := World.alloc_heap_new w6 (.cells #[.int .i64 0, .int .i64 0, .int .i64 0, .int .i64 0, .pointer none, .string ⟨#[]⟩, .int .i64 0, .pointer none] 104)
  replace hg6 := grown_trans hg6 gc (by simp)
  have hb1 := hb0.grown hg6
  have a0 := hb1.c0
  have a1 := hb1.c1
  clear gc
  go_wp2_with fail
  generalize w6.alloc (.cells #[.int .i64 0, .int .i64 0, .int .i64 0, .int .i64 0, .pointer none, .string ⟨#[]⟩, .int .i64 0, .pointer none] 104) = w7 at *
  generalize w6.heap.size = zs at *
  refine (none44_any w7 (some ⟨zs, 0, none⟩) (.inr ⟨zs, rfl, ks⟩) x o k c n).mono ?_
  rintro e w8 ⟨rfl, hg8⟩
  clear a0 a1
  replace hg8 := grown_trans hg6 hg8 (by simp)
  replace kf := heap_kept hg8 kf (by simp)
  replace km := heap_kept hg8 km (by simp)
  replace hG := grown_trans hG hg8 (by simp)
  clear hg6 hg8 hb0 hb1 ks
  have b0 := cell_at kf (i := 0)
  have b1 := cell_at kf (i := 1)
  have b2 := cell_at kf (i := 2)
  have b3 := cell_at kf (i := 3)
  have d0 := cell_at km (i := 0)
  have d1 := cell_at km (i := 1)
  have d2 := cell_at km (i := 2)
  have d3 := cell_at km (i := 3)
  simp only [List.getElem?_toArray, List.getElem?_cons_zero, List.getElem?_cons_succ] at b0 b1 b2 b3 d0 d1 d2 d3
  go_wp2_with fail
  refine (known_any _).mono ?_
  rintro e w9 ⟨rfl, hg9⟩
  replace hG := grown_trans hG hg9 (by simp)
  go_wp2
  go_ret
  exact ⟨rfl, hG⟩
end Go.Proofs.YtlghcboenkglnaaGreatDoor
