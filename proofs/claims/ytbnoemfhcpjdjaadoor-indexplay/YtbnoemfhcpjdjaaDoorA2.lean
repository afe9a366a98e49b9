/-
  The law's look at an index that is not there.
-/
import Derived.Test.YtbnoemfhcpjdjaaDoorA1
namespace Go.Proofs.YtbnoemfhcpjdjaaDoor
open Go.RowKit Go.Shelf
set_option linter.unusedVariables false

theorem run_equalIn_fn (w : World) (d : Nat) (t : TypeId) (ps rs : Array TypeId) (vd : Bool) (ht : Tryd.prog.underlying t = some (.func ps rs vd)) (fn : Fn) (fi ca : Array Value) : (Op.equalIn (d + 1) t (.func fn fi ca) .nilFunc).run Tryd.prog w = .ok false w := by
  simp [Op.equalIn, run_underlying ht]
theorem run_equal_fn (w : World) (t : TypeId) (ps rs : Array TypeId) (vd : Bool) (ht : Tryd.prog.underlying t = some (.func ps rs vd)) (fn : Fn) (fi ca : Array Value) : (Op.equal t (.func fn fi ca) .nilFunc).run Tryd.prog w = .ok false w := run_equalIn_fn w 9999 t ps rs vd ht fn fi ca
theorem run_eql_fn (w : World) (t : TypeId) (ps rs : Array TypeId) (vd : Bool) (ht : Tryd.prog.underlying t = some (.func ps rs vd)) (fn : Fn) (fi ca : Array Value) : (binOp .eql t (.func fn fi ca) .nilFunc).run Tryd.prog w = .ok (.bool false) w := by
  simp only [binOp]
  simp [run_equal_fn w t ps rs vd ht fn fi ca]
theorem results_bool {fn : Func} {p : Tmp} (h : fn.results = #[.cell p 4]) (tmps : Array Value) (w : World) (g : Nat) (b : Bool) (hp : tmps.getD p undef = .pointer (some ⟨g, 0, none⟩)) (hc : w.cell? ⟨g, 0, none⟩ = some (.bool b)) : (results fn tmps).run Tryd.prog w = .ok (.bool b) w := by
  simp only [results, h]
  have hp' : tmps[p]?.getD undef = .pointer (some ⟨g, 0, none⟩) := by simpa using hp
  simp [Sem.run_bind, Result.andThen, hp', asAddr, loadVar, go_sem, hc]
theorem No.below {w W : World} {p : Option Addr} (h : No w p) (hB : Below w.heap.size w W) : No W p := by
  rcases h with h | ⟨b, h, hc⟩
  · exact .inl h
  · exact .inr ⟨b, h, (hB.cell (p := ⟨b, 0, none⟩) (World.block_lt_of_cell? w _ hc)).trans hc⟩

/-- The boxes: the answer, two spots. -/
structure Nx (W : World) (z y1 y2 : Nat) : Prop where
  b0 : Boxed W z 4 (.bool false)
  s1 : Sb W y1 0 0
  s2 : Sb W y2 0 0
theorem Sb.own {A B : World} {row : Option Nat} {g : Nat} {x y : Int} (h : Sb A g x y) (hg : A.grownBy B row) (hr : ∀ r, row = some r → ∃ o : Obj, A.heap[r]? = some o ∧ o.isCells = false) : Sb B g x y :=
  h.kept hg (fun e => by
    obtain ⟨o, h1, h2⟩ := hr _ e.symm
    unfold Sb at h
    rw [h] at h1
    cases h1
    cases h2)
theorem Nx.own {A B : World} {row : Option Nat} {z y1 y2 : Nat} (h : Nx A z y1 y2) (hg : A.grownBy B row) (hr : ∀ r, row = some r → ∃ o : Obj, A.heap[r]? = some o ∧ o.isCells = false) : Nx B z y1 y2 :=
  ⟨box_own h.b0 hg hr, h.s1.own hg hr, h.s2.own hg hr⟩
theorem Nx.grown {A B : World} {z y1 y2 : Nat} (h : Nx A z y1 y2) (hg : A.grownBy B none) : Nx B z y1 y2 := h.own hg (fun r e => by cases e)

set_option maxRecDepth 100000 in
set_option maxHeartbeats 4000000 in
theorem nothing_any (w : World) (p : Option Addr) (n x y : Int) (h : No w p) :
    Calls Tryd.prog 24 #[.pointer p, .int .i64 n, .agg #[.int .i64 x, .int .i64 y]] w fun e w' => e = .returned (.bool true) ∧ w.grownBy w' none := by
  have q33 : ∀ W : World, (binOp .eql 33 (.agg #[.int .i64 0, .int .i64 0]) (.agg #[.int .i64 0, .int .i64 0])).run Tryd.prog W = .ok (.bool true) W := fun _ => by kernel_rfl
  have hg := grown_trans (alloc_grown w (.cells #[.int .i64 x, .int .i64 y] 33)) (alloc_grown _ (.cells #[.bool false] 4)) (by simp)
  have hsb := (Sb.new w x y).grown (alloc_grown _ (.cells #[.bool false] 4))
  have hbx := Boxed.new (w.alloc (.cells #[.int .i64 x, .int .i64 y] 33)) 4 (.bool false)
  rw [World.size_alloc] at hbx
  have s0 := hsb.c0
  have s1 := hsb.c1
  refine (callsIn_wide (n := 5)).1 ?_
  refine callsIn_of_wp_marks Tryd.func24 rfl trivial ?_
  simp only [Tryd.ntmps24, List.size_toArray, List.length_cons, List.length_nil, Nat.reduceAdd, Nat.reduceSub, Array.replicate_succ, Array.replicate_zero, List.push_toArray, List.append_toArray, List.nil_append, List.cons_append]
  gi_wp2_with fail
  generalize (w.alloc (.cells #[.int .i64 x, .int .i64 y] 33)).alloc (.cells #[.bool false] 4) = w0 at *
  refine ⟨trivial, callsIn_wide.2 ((add_no _ p x y (h.grown hg)).mono ?_)⟩
  rintro e w1 ⟨rfl, hg1⟩
  replace hbx := box_own hbx hg1 (fun r e => by cases e)
  replace hg := grown_trans hg hg1 (by simp)
  clear s0 s1 hsb hg1
  gi_wp2_with fail
  refine ⟨trivial, callsIn_wide.2 ((find_no _ p n (h.grown hg)).mono ?_)⟩
  rintro e w2 ⟨rfl, hg2⟩
  replace hbx := box_own hbx hg2 (fun r e => by cases e)
  replace hg := grown_trans hg hg2 (by simp)
  gi_wp2_with fail
  have hs1 := Sb.new w2 0 0
  have ga := alloc_grown w2 (.cells #[.int .i64 0, .int .i64 0] 33)
  obtain ⟨y1, hy1⟩ : ∃ y1, w2.heap.size = y1 := ⟨_, rfl⟩
  rw [hy1] at hs1 ⊢
  replace hbx := box_own hbx ga (fun r e => by cases e)
  replace hg := grown_trans hg ga (by simp)
  clear hy1 ga hg2
  generalize w2.alloc (.cells #[.int .i64 0, .int .i64 0] 33) = w3 at *
  refine ⟨trivial, callsIn_wide.2 ((at_no _ p n (h.grown hg)).mono ?_)⟩
  rintro e w4 ⟨rfl, hg4⟩
  replace hbx := box_own hbx hg4 (fun r e => by cases e)
  replace hg := grown_trans hg hg4 (by simp)
  replace hs1 := hs1.grown hg4
  gi_wp2_with fail
  have hs2 := Sb.new w4 0 0
  have ga := alloc_grown w4 (.cells #[.int .i64 0, .int .i64 0] 33)
  obtain ⟨y2, hy2⟩ : ∃ y2, w4.heap.size = y2 := ⟨_, rfl⟩
  rw [hy2] at hs2 ⊢
  replace hbx := box_own hbx ga (fun r e => by cases e)
  replace hg := grown_trans hg ga (by simp)
  replace hs1 := hs1.grown ga
  clear hy2 ga hg4
  generalize w4.alloc (.cells #[.int .i64 0, .int .i64 0] 33) = w5 at *
  have hN : Nx w5 (w.heap.size + 1) y1 y2 := ⟨hbx, hs1, hs2⟩
  clear hbx hs1 hs2
  refine ⟨trivial, callsIn_wide.2 ((bytes_no _ p (h.grown hg)).mono ?_)⟩
  rintro e w6 ⟨rfl, rfl⟩
  gi_wp2_with fail
  refine ⟨trivial, callsIn_wide.2 ((all_no _ p (h.grown hg)).mono ?_)⟩
  rintro e w7 ⟨rfl, hz, hg7⟩
  obtain ⟨y3, hy3⟩ : ∃ y3, w6.heap.size = y3 := ⟨_, rfl⟩
  rw [hy3] at hz ⊢
  clear hy3
  replace hN := hN.grown hg7
  replace hg := grown_trans hg hg7 (by simp)
  clear hg7
  have heq := fun W => run_eql_fn W 62 _ _ _ Tryd.underlying62 (.func 43) #[] #[.pointer (some ⟨y3, 0, none⟩)]
  gi_wp2_with fail
  clear heq
  have hs5 := hg.size
  apply wpIn_rangeFunc_told (α := Empty) (encs := Empty.elim) (Kp := fun _ _ => True) (w0 := w7) rfl (by decide) (gf := 43) (lb := #[.pointer (some ⟨y3, 0, none⟩)]) rfl trivial (enters_of Tryd.func43 (by kernel_rfl) rfl)
    (all1_none 4 w7 _ hz) (fun _ _ => trivial) (fun _ _ _ _ _ _ _ _ => trivial) (Below.refl _ _) (fun x => x.elim)
    (fun pre W => Nx W (w.heap.size + 1) y1 y2 ∧ Below w.heap.size w W)
    (fun _ _ _ => False)
    (fun s A B row hs hg hr => ⟨hs.1.own hg (fun r e => (hr r e).2), (ownFrom_below (β := Unit) (Nat.le_refl _) (by omega)) () A B row hs.2 hg hr⟩)
    (fun cd s A B row hs hg hr => hs.elim)
    ⟨hN, grownBy_below hg⟩
    (fun _ _ _ _ => False)
  case hAx => intro pre x; exact x.elim
  case hassign => intro pre x; exact x.elim
  case hbody => intro pre x; exact x.elim
  case hstop =>
    intro D c pre W _ hf
    exact hf.elim
  case hdone =>
    rintro D xs W hD _ ⟨hX, hB⟩ hK
    clear hN hg hz
    have hNo := h.below hB
    have a0 := hX.s1.c0
    have a1 := hX.s1.c1
    have b0 := hX.s2.c0
    have b1 := hX.s2.c1
    gi_wp2_with fail
    refine ⟨trivial, callsIn_wide.2 ((cut_no _ p n hNo).mono ?_)⟩
    rintro e W1 ⟨rfl, hg1⟩
    replace hX := hX.grown hg1
    replace hB := hB.grown hg1 (by have := hB.size; omega) (fun k hk => by cases hk)
    replace hK := heap_kept hg1 hK (by simp)
    replace hNo := h.below hB
    clear a0 a1 b0 b1 hg1
    gi_wp2_with fail
    refine ⟨trivial, callsIn_wide.2 ((len_no _ p hNo).mono ?_)⟩
    rintro e W2 ⟨rfl, rfl⟩
    gi_wp2_with fail
    refine ⟨trivial, callsIn_wide.2 ((copy_no _ p hNo).mono ?_)⟩
    rintro e W2 ⟨rfl, rfl⟩
    have c0 := hX.b0.cell
    have f0 := hX.b0.frozen
    have hb9 := hX.b0.set (.bool true)
    have hB9 : Below w.heap.size w (W2.setCell ⟨w.heap.size + 1, 0, none⟩ (.bool true)) := hB.trans ⟨rfl, rfl, rfl, by simp, fun k hk => Below.heap_setCell _ _ _ _ (by show k ≠ w.heap.size + 1; omega)⟩
    have hK9 : (W2.setCell ⟨w.heap.size + 1, 0, none⟩ (.bool true)).heap[D]? = some (.deferred (some [])) := (Below.heap_setCell _ _ _ _ (by show D ≠ w.heap.size + 1; intro e; subst e; rw [show W2.heap[w.heap.size + 1]? = _ from hX.b0] at hK; cases hK)).trans hK
    clear hX hB hK hNo
    gi_wp2_with fail
    refine ⟨by simp, .inl ⟨_, _, rfl, run_takeDeferred hK9, ?_⟩⟩
    have hpo := grownBy_putObj' (W2.setCell ⟨w.heap.size + 1, 0, none⟩ (.bool true)) D (.deferred none)
    refine ⟨_, results_bool rfl _ _ (w.heap.size + 1) true rfl ?_, rfl, below_grownBy (hB9.grown hpo hB9.size (fun k hk => by cases hk; omega))⟩
    exact (box_own hb9 hpo (fun r e => by cases e; exact ⟨_, hK9, rfl⟩)).cell
end Go.Proofs.YtbnoemfhcpjdjaaDoor
