/-
  nothing: a disk that is not there, asked all.
-/
import Derived.Test.YthkbakaodbceiaaD7
import Derived.Test.YthkbakaodbceiaaD3
namespace Go.Proofs.Ythkbakaodbceiaa
open Go.RowKit Go.Shelf
set_option linter.unusedVariables false
attribute [local go_sem] Oper.semAt_some
theorem run_equalIn_fn (w : World) (d : Nat) (t : TypeId) (ps rs : Array TypeId) (vd : Bool) (ht : Try.prog.underlying t = some (.func ps rs vd)) (fn : Fn) (fi ca : Array Value) : (Op.equalIn (d + 1) t (.func fn fi ca) .nilFunc).run Try.prog w = .ok false w := by
  simp [Op.equalIn, run_underlying ht]
theorem run_equal_fn (w : World) (t : TypeId) (ps rs : Array TypeId) (vd : Bool) (ht : Try.prog.underlying t = some (.func ps rs vd)) (fn : Fn) (fi ca : Array Value) : (Op.equal t (.func fn fi ca) .nilFunc).run Try.prog w = .ok false w := run_equalIn_fn w 9999 t ps rs vd ht fn fi ca
/-- 'f == nil' of a function that is there. -/
theorem run_eql_fn (w : World) (t : TypeId) (ps rs : Array TypeId) (vd : Bool) (ht : Try.prog.underlying t = some (.func ps rs vd)) (fn : Fn) (fi ca : Array Value) : (binOp .eql t (.func fn fi ca) .nilFunc).run Try.prog w = .ok (.bool false) w := by
  simp only [binOp]
  simp [run_equal_fn w t ps rs vd ht fn fi ca]
theorem results_bool {fn : Func} {p : Tmp} (h : fn.results = #[.cell p 4]) (tmps : Array Value) (w : World) (g : Nat) (b : Bool) (hp : tmps.getD p undef = .pointer (some ⟨g, 0, none⟩)) (hc : w.cell? ⟨g, 0, none⟩ = some (.bool b)) : (results fn tmps).run Try.prog w = .ok (.bool b) w := by
  simp only [results, h]
  have hp' : tmps[p]?.getD undef = .pointer (some ⟨g, 0, none⟩) := by simpa using hp
  simp [Sem.run_bind, Result.andThen, hp', asAddr, loadVar, go_sem, hc]
theorem No.below {w W : World} {p : Option Addr} (h : No w p) (hB : Below w.heap.size w W) : No W p := by
  rcases h with h | ⟨b, h, hc⟩
  · exact .inl h
  · exact .inr ⟨b, h, (hB.cell (p := ⟨b, 0, none⟩) (World.block_lt_of_cell? w _ hc)).trans hc⟩

/-- The boxes of nothing: the answer, the file. -/
structure Nx (W : World) (z y : Nat) : Prop where
  b0 : Boxed W z 4 (.bool false)
  bf : W.heap[y]? = some (.cells #[.string ⟨#[]⟩, .int .i64 0, .int .i64 0, .bool false, .bool false] 55)
theorem Nx.own {A B : World} {row : Option Nat} {z y : Nat} (h : Nx A z y) (hg : A.grownBy B row) (hr : ∀ r, row = some r → ∃ o : Obj, A.heap[r]? = some o ∧ o.isCells = false) : Nx B z y :=
  ⟨box_own h.b0 hg hr, heap_kept hg h.bf (fun e => by
    obtain ⟨o, h1, h2⟩ := hr _ e.symm
    rw [h.bf] at h1
    cases h1
    cases h2)⟩
theorem Nx.grown {A B : World} {z y : Nat} (h : Nx A z y) (hg : A.grownBy B none) : Nx B z y := h.own hg (fun r e => by cases e)

set_option maxRecDepth 100000 in
set_option maxHeartbeats 4000000 in
theorem nothing_any (w : World) (p : Option Addr) (s : ByteArray) (z : Int) (bo : Option Addr) (bn bc : Nat) (h : No w p) :
    Calls Try.prog 41 #[.pointer p, .string s, .int .i64 z, .slice bo bn bc] w fun e w' => e = .returned (.bool true) ∧ w.grownBy w' none := by
  have q55 : ∀ W : World, (binOp .eql 55 (.agg #[.string ⟨#[]⟩, .int .i64 0, .int .i64 0, .bool false, .bool false]) (.agg #[.string ⟨#[]⟩, .int .i64 0, .int .i64 0, .bool false, .bool false])).run Try.prog W = .ok (.bool true) W := fun _ => by kernel_rfl
  have hbx := Boxed.new w 4 (.bool false)
  have hg := alloc_grown w (.cells #[.bool false] 4)
  refine (callsIn_wide (n := 5)).1 ?_
  refine callsIn_of_wp_marks Try.func41 rfl trivial ?_
  simp only [Try.ntmps41, List.size_toArray, List.length_cons, List.length_nil, Nat.reduceAdd, Nat.reduceSub, Array.replicate_succ, Array.replicate_zero, List.push_toArray, List.append_toArray, List.nil_append, List.cons_append]
  gi_wp2_with fail
  refine ⟨trivial, callsIn_wide.2 ((read_no _ p s z z (h.grown hg)).mono ?_)⟩
  rintro e w1 ⟨rfl, rfl⟩
  gi_wp2_with fail
  refine ⟨trivial, callsIn_wide.2 ((file_no _ p s (h.grown hg)).mono ?_)⟩
  rintro e w1 ⟨rfl, hg1⟩
  unfold told0
  have hN1 : Nx (w1.alloc (.cells #[.string ⟨#[]⟩, .int .i64 0, .int .i64 0, .bool false, .bool false] 55)) w.heap.size w1.heap.size := ⟨box_own (box_own hbx hg1 (fun r e => by cases e)) (alloc_grown _ _) (fun r e => by cases e), World.alloc_heap_new _ _⟩
  have hG1 := grown_trans (grown_trans hg hg1 (by simp)) (alloc_grown w1 (.cells #[.string ⟨#[]⟩, .int .i64 0, .int .i64 0, .bool false, .bool false] 55)) (by simp)
  obtain ⟨y, hy⟩ : ∃ y, w1.heap.size = y := ⟨_, rfl⟩
  rw [hy] at hN1
  gi_wp2_with fail
  clear hy hg1 hg hbx
  generalize w1.alloc (.cells #[.string ⟨#[]⟩, .int .i64 0, .int .i64 0, .bool false, .bool false] 55) = w2 at *
  refine ⟨trivial, callsIn_wide.2 ((crash_no _ p none 0 0 (h.grown hG1)).mono ?_)⟩
  rintro e w3 ⟨rfl, hg3⟩
  replace hN1 := hN1.grown hg3
  replace hG1 := grown_trans hG1 hg3 (by simp)
  clear hg3
  gi_wp2_with fail
  refine ⟨trivial, callsIn_wide.2 ((steps_no _ p (h.grown hG1)).mono ?_)⟩
  rintro e w4 ⟨rfl, rfl⟩
  gi_wp2_with fail
  refine ⟨trivial, callsIn_wide.2 ((all_no _ p (h.grown hG1)).mono ?_)⟩
  rintro e w5 ⟨rfl, hz, hg5⟩
  obtain ⟨y2, hy2⟩ : ∃ y2, w4.heap.size = y2 := ⟨_, rfl⟩
  rw [hy2] at hz ⊢
  clear hy2
  replace hN1 := hN1.grown hg5
  replace hG1 := grown_trans hG1 hg5 (by simp)
  clear hg5
  have heq := fun W => run_eql_fn W 73 _ _ _ Try.underlying73 (.func 63) #[] #[.pointer (some ⟨y2, 0, none⟩)]
  gi_wp2_with fail
  clear heq
  have hs5 := hG1.size
  apply wpIn_rangeFunc_told (α := Empty) (encs := Empty.elim) (Kp := fun _ _ => True) (w0 := w5) rfl (by decide) (gf := 63) (lb := #[.pointer (some ⟨y2, 0, none⟩)]) rfl trivial (enters_of Try.func63 (by kernel_rfl) rfl)
    (all1_none 4 w5 _ hz) (fun _ _ => trivial) (fun _ _ _ _ _ _ _ _ => trivial) (Below.refl _ _) (fun x => x.elim)
    (fun pre W => Nx W w.heap.size y ∧ Below w.heap.size w W)
    (fun _ _ _ => False)
    (fun s A B row hs hg hr => ⟨hs.1.own hg (fun r e => (hr r e).2), (ownFrom_below (β := Unit) (Nat.le_refl _) (by omega)) () A B row hs.2 hg hr⟩)
    (fun cd s A B row hs hg hr => hs.elim)
    ⟨hN1, grownBy_below hG1⟩
    (fun _ _ _ _ => False)
  case hAx => intro pre x; exact x.elim
  case hassign => intro pre x; exact x.elim
  case hbody => intro pre x; exact x.elim
  case hstop =>
    intro D c pre W _ hf
    exact hf.elim
  case hdone =>
    rintro D xs W hD _ ⟨hX, hB⟩ hK
    clear hN1 hG1 hz
    gi_wp2_with fail
    refine ⟨trivial, callsIn_wide.2 ((new_none _).mono ?_)⟩
    rintro e W1 ⟨rfl, hm, hd, hgW⟩
    replace hX := hX.grown hgW
    replace hB := hB.grown hgW (by have := hB.size; omega) (fun k hk => by cases hk)
    replace hK := heap_kept hgW hK (by simp)
    have hN := h.below hB
    obtain ⟨m, hm9⟩ : ∃ m, W.heap.size = m := ⟨_, rfl⟩
    rw [hm9] at hd ⊢
    have d0 := hd.c0
    have v0 := cell_at hX.bf (i := 0)
    have v1 := cell_at hX.bf (i := 1)
    have v2 := cell_at hX.bf (i := 2)
    have v3 := cell_at hX.bf (i := 3)
    have v4 := cell_at hX.bf (i := 4)
    simp only [List.getElem?_toArray, List.getElem?_cons_zero, List.getElem?_cons_succ] at v0 v1 v2 v3 v4
    clear hm hm9 hgW
    gi_wp2_with fail
    refine ⟨trivial, callsIn_wide.2 ((create_no _ p s hN).mono ?_)⟩
    rintro e W2 ⟨rfl, rfl⟩
    gi_wp2_with fail
    refine ⟨trivial, callsIn_wide.2 ((append_no _ p s bo bn bc hN).mono ?_)⟩
    rintro e W2 ⟨rfl, rfl⟩
    gi_wp2_with fail
    refine ⟨trivial, callsIn_wide.2 ((sync_no _ p s hN).mono ?_)⟩
    rintro e W2 ⟨rfl, rfl⟩
    gi_wp2_with fail
    refine ⟨trivial, callsIn_wide.2 ((syncDir_no _ p hN).mono ?_)⟩
    rintro e W2 ⟨rfl, rfl⟩
    gi_wp2_with fail
    refine ⟨trivial, callsIn_wide.2 ((cut_no _ p s z hN).mono ?_)⟩
    rintro e W2 ⟨rfl, rfl⟩
    gi_wp2_with fail
    refine ⟨trivial, callsIn_wide.2 ((remove_no _ p s hN).mono ?_)⟩
    rintro e W2 ⟨rfl, rfl⟩
    gi_wp2_with fail
    refine ⟨trivial, callsIn_wide.2 ((feed_no _ p none 0 0 hN).mono ?_)⟩
    rintro e W2 ⟨rfl, rfl⟩
    gi_wp2_with fail
    refine ⟨trivial, callsIn_wide.2 ((names_no _ p hN).mono ?_)⟩
    rintro e W3 ⟨rfl, hg3⟩
    clear v0 v1 v2 v3 v4 d0 q55 hN
    replace hX := hX.grown hg3
    replace hB := hB.grown hg3 (by have := hB.size; omega) (fun k hk => by cases hk)
    replace hK := heap_kept hg3 hK (by simp)
    replace hd := hd.grown hg3
    have hN := h.below hB
    have d0 := hd.c0
    clear hg3
    gi_wp2_with fail
    refine ⟨trivial, callsIn_wide.2 ((copy_no _ p hN).mono ?_)⟩
    rintro e W2 ⟨rfl, rfl⟩
    gi_wp2_with fail
    refine ⟨trivial, callsIn_wide.2 ((same_no _ p none hN (.inl rfl)).mono ?_)⟩
    rintro e W2 ⟨rfl, rfl⟩
    gi_wp2_with fail
    refine ⟨trivial, callsIn_wide.2 ((same_no_yes _ p (m + 1) m hN d0).mono ?_)⟩
    rintro e W2 ⟨rfl, rfl⟩
    gi_wp2_with fail
    refine ⟨trivial, callsIn_wide.2 ((same_yes_no _ p (m + 1) m hN d0).mono ?_)⟩
    rintro e W2 ⟨rfl, rfl⟩
    have k0 := hX.b0.cell
    have f0 := hX.b0.frozen
    have hb2 := hX.b0.set (.bool true)
    have hB2 := hB.setCell (p := ⟨w.heap.size, 0, none⟩) (Nat.le_refl _) (.bool true)
    have hK2 := (KeepsOthers.setCell W2 ⟨w.heap.size, 0, none⟩ (.bool true)).same D _ hK rfl
    gi_wp2_with fail
    refine ⟨by simp, .inl ⟨_, _, rfl, run_takeDeferred hK2, ?_⟩⟩
    have hc := (box_own hb2 (grownBy_putObj' _ D (.deferred none)) (fun r e => by cases e; exact ⟨_, hK2, rfl⟩)).cell
    exact ⟨_, results_bool (fn := Try.f41) rfl _ _ _ _ rfl hc, rfl, below_grownBy (hB2.grown (grownBy_putObj' _ D (.deferred none)) hB2.size (fun k hk => by cases hk; omega))⟩
end Go.Proofs.Ythkbakaodbceiaa
