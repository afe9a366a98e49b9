/-
  goes: the walk.
-/
import Derived.Test.YtkcgpjmjaedlbaaN5
import Derived.Test.YtkcgpjmjaedlbaaW3
namespace Go.Proofs.Ytkcgpjmjaedlbaa
open Go.RowKit Go.Shelf
set_option linter.unusedVariables false
attribute [local go_sem] Oper.semAt_some
theorem run_equalIn_fn (w : World) (d : Nat) (t : TypeId) (ps rs : Array TypeId) (vd : Bool) (ht : Try.prog.underlying t = some (.func ps rs vd)) (fn : Fn) (fi ca : Array Value) : (Op.equalIn (d + 1) t (.func fn fi ca) .nilFunc).run Try.prog w = .ok false w := by
  simp [Op.equalIn, run_underlying ht]
theorem run_equal_fn (w : World) (t : TypeId) (ps rs : Array TypeId) (vd : Bool) (ht : Try.prog.underlying t = some (.func ps rs vd)) (fn : Fn) (fi ca : Array Value) : (Op.equal t (.func fn fi ca) .nilFunc).run Try.prog w = .ok false w := run_equalIn_fn w 9999 t ps rs vd ht fn fi ca
/-- 'f == nil' of a function that is there. -/
theorem run_eql_fn (w : World) (t : TypeId) (ps rs : Array TypeId) (vd : Bool) (ht : Try.prog.underlying t = some (.func ps rs vd)) (fn : Fn) (fi ca : Array Value) : (binOp .eql t (.func fn fi ca) .nilFunc).run Try.prog w = .ok (.bool false) w := by
  simp only [binOp]
  simp [run_equal_fn w t ps rs vd ht fn fi ca]
theorem results_bool {fn : Func} {p : Tmp} (h : fn.results = #[.cell p 4]) (tmps : Array Value) (w : World) (g : Nat) (b : Bool) (hp : tmps.getD p undef = .pointer (some ⟨g, 0, none⟩)) (hc : w.cell? ⟨g, 0, none⟩ = some (.bool b)) : (results fn tmps).run Try.prog w = .ok (.bool b) w := by
  simp only [results, h]
  have hp' : tmps[p]?.getD undef = .pointer (some ⟨g, 0, none⟩) := by simpa using hp
  simp [Sem.run_bind, Result.andThen, hp', asAddr, loadVar, go_sem, hc]
theorem box_own {A B : World} {row : Option Nat} {b : Nat} {t : TypeId} {v : Value} (h : Boxed A b t v) (hg : A.grownBy B row) (hr : ∀ r, row = some r → ∃ o : Obj, A.heap[r]? = some o ∧ o.isCells = false) : Boxed B b t v :=
  boxed_own (β := Unit) b t (fun _ => v) () A B row h hg hr

/-- goes' boxes. -/
structure Gx (W : World) (z : Nat) (pv : Value) (b : Int) (lv : Value) (leave : Int) (r : Bool) (n f : Int) : Prop where
  b0 : Boxed W z 29 pv
  b1 : Boxed W (z + 1) 2 (.int .i64 b)
  b2 : Boxed W (z + 1 + 1) 22 lv
  b3 : Boxed W (z + 1 + 1 + 1) 3 (.int .i64 leave)
  b4 : Boxed W (z + 1 + 1 + 1 + 1) 4 (.bool r)
  b5 : Boxed W (z + 1 + 1 + 1 + 1 + 1) 3 (.int .i64 n)
  b6 : Boxed W (z + 1 + 1 + 1 + 1 + 1 + 1) 3 (.int .i64 f)
section
variable {W W' : World} {z : Nat} {pv lv : Value} {b leave n f : Int} {r : Bool}
theorem Gx.own {row : Option Nat} (h : Gx W z pv b lv leave r n f) (hg : W.grownBy W' row) (hr : ∀ r, row = some r → ∃ o : Obj, W.heap[r]? = some o ∧ o.isCells = false) : Gx W' z pv b lv leave r n f :=
  ⟨box_own h.b0 hg hr, box_own h.b1 hg hr, box_own h.b2 hg hr, box_own h.b3 hg hr, box_own h.b4 hg hr, box_own h.b5 hg hr, box_own h.b6 hg hr⟩
theorem Gx.grown (h : Gx W z pv b lv leave r n f) (hg : W.grownBy W' none) : Gx W' z pv b lv leave r n f := h.own hg (fun r e => by cases e)
theorem Gx.setB (h : Gx W z pv b lv leave r n f) (k : Int) : Gx (W.setCell ⟨z + 1, 0, none⟩ (.int .i64 k)) z pv k lv leave r n f :=
  ⟨h.b0.other (by omega) _, h.b1.set _, h.b2.other (by omega) _, h.b3.other (by omega) _, h.b4.other (by omega) _, h.b5.other (by omega) _, h.b6.other (by omega) _⟩
theorem Gx.setN (h : Gx W z pv b lv leave r n f) (k : Int) : Gx (W.setCell ⟨z + 1 + 1 + 1 + 1 + 1, 0, none⟩ (.int .i64 k)) z pv b lv leave r k f :=
  ⟨h.b0.other (by omega) _, h.b1.other (by omega) _, h.b2.other (by omega) _, h.b3.other (by omega) _, h.b4.other (by omega) _, h.b5.set _, h.b6.other (by omega) _⟩
theorem Gx.setF (h : Gx W z pv b lv leave r n f) (k : Int) : Gx (W.setCell ⟨z + 1 + 1 + 1 + 1 + 1 + 1, 0, none⟩ (.int .i64 k)) z pv b lv leave r n k :=
  ⟨h.b0.other (by omega) _, h.b1.other (by omega) _, h.b2.other (by omega) _, h.b3.other (by omega) _, h.b4.other (by omega) _, h.b5.other (by omega) _, h.b6.set _⟩
theorem Gx.chg {S : Nat → Prop} (h : Gx W z pv b lv leave r n f) (hc : Chg W W' S) (hS : ∀ k, S k → z + 7 ≤ k) : Gx W' z pv b lv leave r n f := by
  have h1 := h.b6.lt
  have q : ∀ k, k < z + 7 → W'.heap[k]? = W.heap[k]? := fun k hk => hc.block k (by omega) (fun e => by have := hS k e; omega)
  exact ⟨(q _ (by omega)).trans h.b0, (q _ (by omega)).trans h.b1, (q _ (by omega)).trans h.b2, (q _ (by omega)).trans h.b3, (q _ (by omega)).trans h.b4, (q _ (by omega)).trans h.b5, (q _ (by omega)).trans h.b6⟩
theorem Gx.lt (h : Gx W z pv b lv leave r n f) : z + 7 ≤ W.heap.size := by have := h.b6.lt; omega
end
theorem Gx.first (w : World) (pv : Value) (b : Int) (lv : Value) (leave : Int) :
    Gx (((((((w.alloc (.cells #[pv] 29)).alloc (.cells #[.int .i64 b] 2)).alloc (.cells #[lv] 22)).alloc (.cells #[.int .i64 leave] 3)).alloc (.cells #[.bool false] 4)).alloc (.cells #[.int .i64 0] 3)).alloc (.cells #[.int .i64 0] 3)) w.heap.size pv b lv leave false 0 0 := by
  have a1 := Boxed.new w 29 pv
  have a2 := Boxed.new (w.alloc (.cells #[pv] 29)) 2 (.int .i64 b)
  have a3 := Boxed.new ((w.alloc (.cells #[pv] 29)).alloc (.cells #[.int .i64 b] 2)) 22 lv
  have a4 := Boxed.new (((w.alloc (.cells #[pv] 29)).alloc (.cells #[.int .i64 b] 2)).alloc (.cells #[lv] 22)) 3 (.int .i64 leave)
  have a5 := Boxed.new ((((w.alloc (.cells #[pv] 29)).alloc (.cells #[.int .i64 b] 2)).alloc (.cells #[lv] 22)).alloc (.cells #[.int .i64 leave] 3)) 4 (.bool false)
  have a6 := Boxed.new (((((w.alloc (.cells #[pv] 29)).alloc (.cells #[.int .i64 b] 2)).alloc (.cells #[lv] 22)).alloc (.cells #[.int .i64 leave] 3)).alloc (.cells #[.bool false] 4)) 3 (.int .i64 0)
  have a7 := Boxed.new ((((((w.alloc (.cells #[pv] 29)).alloc (.cells #[.int .i64 b] 2)).alloc (.cells #[lv] 22)).alloc (.cells #[.int .i64 leave] 3)).alloc (.cells #[.bool false] 4)).alloc (.cells #[.int .i64 0] 3)) 3 (.int .i64 0)
  simp only [World.size_alloc] at a2 a3 a4 a5 a6 a7
  exact ⟨(((((a1.alloc _).alloc _).alloc _).alloc _).alloc _).alloc _, ((((a2.alloc _).alloc _).alloc _).alloc _).alloc _, (((a3.alloc _).alloc _).alloc _).alloc _, ((a4.alloc _).alloc _).alloc _, (a5.alloc _).alloc _, a6.alloc _, a7⟩
theorem Pn.fit {take : Int} {L : List Rl} {ps : List Nat} (h : Pn take L ps) : ∀ j p, ps[j]? = some p → Fit ((L.drop (ps.take j).sum).take p) := by
  induction h with
  | nil => intro j p hp; cases hp
  | @cons L n ps h1 h2 h3 ih =>
    intro j p hp
    cases j with
    | zero =>
      obtain rfl : n = p := by simpa using hp
      simpa using h2.fit
    | succ j =>
      have := ih j p (by simpa using hp)
      rw [List.drop_drop] at this
      simpa [List.take_succ_cons, List.sum_cons] using this
theorem Below.chg {B : Nat} {a V V' : World} {S : Nat → Prop} (h : Below B a V) (hc : Chg V V' S) (hS : ∀ k, S k → B ≤ k) (hB : B ≤ V.heap.size) : Below B a V' :=
  ⟨hc.os.trans h.os, hc.tape.trans h.tape, hc.output.trans h.output, Nat.le_trans h.size hc.size, fun k hk => (hc.block k (by omega) (fun e => by have := hS k e; omega)).trans (h.block k hk)⟩
theorem Wb.far {A V : World} {g H n : Nat} {ao : Option Addr} (hV : ∀ k, g ≤ k → V.heap[k]? = A.heap[k]?) (h : Wb A g H ao n) : Wb V g H ao n := fun i hi => by
  obtain ⟨b, o, z, h1, h2, h3, h4⟩ := h i hi
  have e := hV b (by omega)
  exact ⟨b, o, z, h1, h2, by rw [World.cell?_of_block (a := ⟨b, o + i, none⟩) e]; exact h3, by rw [World.frozen?_of_block (a := ⟨b, o + i, none⟩) e]; exact h4⟩
theorem Sp.far {A V : World} {g H n : Nat} {rs : List Rc} (hV : ∀ k, g ≤ k → V.heap[k]? = A.heap[k]?) (h : Sp A g H n rs) : Sp V g H n rs := by
  have e := hV g (Nat.le_refl _)
  have c : ∀ i v, A.cell? ⟨g, i, none⟩ = some v → V.cell? ⟨g, i, none⟩ = some v := fun i v hc => by rw [World.cell?_of_block (a := ⟨g, i, none⟩) e]; exact hc
  exact ⟨h.len, h.top, fun j hj => by obtain ⟨z, hz⟩ := h.t j hj; exact ⟨z, c _ _ hz⟩, fun j r hr => c _ _ (h.k j r hr), fun j r hr => c _ _ (h.v j r hr), fun i => by rw [World.frozen?_of_block (a := ⟨g, i, none⟩) e]; exact h.fz i, fun r hr => (h.kb r hr).far hV, fun r hr => (h.vb r hr).far hV⟩
theorem Hand.spoil2 {A V : World} {B : Nat} {y : Rl} (h : Hand B y A) (hV : ∀ k, B ≤ k → V.heap[k]? = A.heap[k]?) (hn : y.n ≤ 100000) :
    Calls Try.prog 21 #[.slice y.o y.n y.c] V fun e w' => e = .returned (.bool true) ∧ Chg V w' (fun k => B ≤ k) ∧ KeepsOthers V w' := by
  obtain ⟨g, H, h1, h2, h3⟩ := h.ex
  rw [h1]
  by_cases h0 : y.n = 0
  · rw [h0]
    refine (spoil_nil V _ _).mono ?_
    rintro e w' ⟨rfl, hw⟩
    subst hw
    exact ⟨rfl, Chg.refl _ _, KeepsOthers.refl _⟩
  · refine (spoil_kept V g H y.n y.c y.l ((h3 (by omega)).far (fun k hk => hV k (by omega))) hn (fun r hr => ⟨(h.rs.shows r hr).kb, (h.rs.shows r hr).vb⟩)).mono ?_
    rintro e w' ⟨rfl, hb, hk⟩
    exact ⟨rfl, hb.mono fun k _ hk => by omega, hk⟩
set_option maxRecDepth 100000 in
set_option maxHeartbeats 8000000 in
theorem goes_ok (w : World) (hi bb bp : Nat) (ps : List Nat) (bs : List (Int × Rl)) (pl : Nat) (hps : ps.length = pl) (hpl : pl ≤ 100000) (hhi : hi ≤ w.heap.size)
    (hseq : ∀ w3, w.grownBy w3 none → SeqTold Fence.wide 4 Try.prog 48 #[.pointer (some ⟨bb, 0, none⟩), .pointer (some ⟨bp, 0, none⟩)] benc (fun B => Btold B ps bs) (Below hi) (fun xs => xs.length = pl) (fun _ => True) w3)
    (qo : Option Addr) (qc : Nat) (hQ : Vs w qo pl qc (ps.map iv)) (take base : Int) (hb0 : 0 ≤ base) (ao : Option Addr) (n cap : Nat) (L : List Rl) (hL : Ls w ao n cap L) (hn3 : n ≤ 300) (hPn : Pn take L ps) (hsay : Bsay base L ps bs) (hle : base + ((flat L).length : Nat) ≤ 9007199254740993) (leave : Int) :
    Calls Try.prog 34 #[.func (.func 48) #[] #[.pointer (some ⟨bb, 0, none⟩), .pointer (some ⟨bp, 0, none⟩)], .slice qo pl qc, .int .i64 base, .slice ao n cap, .int .i64 leave] w fun e w' => e = .returned (.bool true) ∧ w.grownBy w' none := by
  have hG0 := Gx.first w (.slice qo pl qc) base (.slice ao n cap) leave
  have hg0 : w.grownBy (((((((w.alloc (.cells #[.slice qo pl qc] 29)).alloc (.cells #[.int .i64 base] 2)).alloc (.cells #[.slice ao n cap] 22)).alloc (.cells #[.int .i64 leave] 3)).alloc (.cells #[.bool false] 4)).alloc (.cells #[.int .i64 0] 3)).alloc (.cells #[.int .i64 0] 3)) none :=
    grown_trans (grown_trans (grown_trans (grown_trans (grown_trans (grown_trans (alloc_grown _ _) (alloc_grown _ _) (by simp)) (alloc_grown _ _) (by simp)) (alloc_grown _ _) (by simp)) (alloc_grown _ _) (by simp)) (alloc_grown _ _) (by simp)) (alloc_grown _ _) (by simp)
  have hsz0 : ((((((((w.alloc (.cells #[.slice qo pl qc] 29)).alloc (.cells #[.int .i64 base] 2)).alloc (.cells #[.slice ao n cap] 22)).alloc (.cells #[.int .i64 leave] 3)).alloc (.cells #[.bool false] 4)).alloc (.cells #[.int .i64 0] 3)).alloc (.cells #[.int .i64 0] 3))).heap.size = w.heap.size + 7 := by simp
  refine (callsIn_wide (n := 5)).1 ?_
  refine callsIn_of_wp_marks Try.func34 rfl trivial ?_
  simp only [Try.ntmps34, List.size_toArray, List.length_cons, List.length_nil, Nat.reduceAdd, Nat.reduceSub, Array.replicate_succ, Array.replicate_zero, List.push_toArray, List.append_toArray, List.nil_append, List.cons_append]
  have heq := fun W => run_eql_fn W 69 _ _ _ Try.underlying69 (.func 48) #[] #[.pointer (some ⟨bb, 0, none⟩), .pointer (some ⟨bp, 0, none⟩)]
  gi_wp2
  clear heq
  generalize (((((((w.alloc (.cells #[.slice qo pl qc] 29)).alloc (.cells #[.int .i64 base] 2)).alloc (.cells #[.slice ao n cap] 22)).alloc (.cells #[.int .i64 leave] 3)).alloc (.cells #[.bool false] 4)).alloc (.cells #[.int .i64 0] 3)).alloc (.cells #[.int .i64 0] 3)) = w3 at *
  apply wpIn_rangeFunc_told (encs := benc) (Kp := Below hi) (w0 := w3) rfl (by decide) (gf := 48) (lb := #[.pointer (some ⟨bb, 0, none⟩), .pointer (some ⟨bp, 0, none⟩)]) rfl trivial (enters_of Try.func48 (by kernel_rfl) rfl)
    (hseq w3 hg0) belowK_t (belowK_b (by omega)) (Below.refl _ _) (fun _ => rfl)
    (fun pre W => Gx W w.heap.size (.slice qo pl qc) (base + ((flat (L.take (ps.take pre.length).sum)).length : Nat)) (.slice ao n cap) leave false (pre.length : Nat) ((ps.take pre.length).sum : Nat) ∧ Below w.heap.size w W)
    (fun cd pre W => cd = .ret ∧ Boxed W (w.heap.size + 1 + 1 + 1 + 1) 4 (.bool true) ∧ Below w.heap.size w W)
    (fun s A B row hs hg hr => ⟨hs.1.own hg (fun r e => (hr r e).2), (ownFrom_below (β := Unit) (Nat.le_refl _) (by omega)) () A B row hs.2 hg hr⟩)
    (fun cd s A B row hs hg hr => ⟨hs.1, box_own hs.2.1 hg (fun r e => (hr r e).2), (ownFrom_below (β := Unit) (Nat.le_refl _) (by omega)) () A B row hs.2.2 hg hr⟩)
    ⟨by simpa [flat] using hG0, by exact grownBy_below hg0⟩
    (fun pre x a' W => ∃ g9, W.heap[g9]? = some (.cells #[.int .i64 x.b, .slice x.y.o x.y.n x.y.c] 94) ∧ w3.heap.size + 2 ≤ g9 ∧ Hand (w3.heap.size + 2) x.y W ∧ ps[pre.length]? = some x.p ∧ (∃ q : Rl, bs[pre.length]? = some (x.b, q) ∧ x.y.n = q.n ∧ ds x.y.l = ds q.l) ∧ a' = { tmps := #[.func (.func 48) #[] #[.pointer (some ⟨bb, 0, none⟩), .pointer (some ⟨bp, 0, none⟩)], .slice qo pl qc, .int .i64 base, .slice ao n cap, .int .i64 leave, undef, .pointer (some ⟨w.heap.size, 0, none⟩), .pointer (some ⟨w.heap.size + 1, 0, none⟩), .pointer (some ⟨w.heap.size + 1 + 1, 0, none⟩), .pointer (some ⟨w.heap.size + 1 + 1 + 1, 0, none⟩), .pointer (some ⟨w.heap.size + 1 + 1 + 1 + 1, 0, none⟩), .pointer (some ⟨w.heap.size + 1 + 1 + 1 + 1 + 1, 0, none⟩), .pointer (some ⟨w.heap.size + 1 + 1 + 1 + 1 + 1 + 1, 0, none⟩), .int .i64 x.p, .pointer (some ⟨g9, 0, none⟩), .func (.func 48) #[] #[.pointer (some ⟨bb, 0, none⟩), .pointer (some ⟨bp, 0, none⟩)], .bool false, .func (.func 48) #[] #[.pointer (some ⟨bb, 0, none⟩), .pointer (some ⟨bp, 0, none⟩)], .int .i64 x.p, .agg #[.int .i64 x.b, .slice x.y.o x.y.n x.y.c], undef, undef, undef, undef, undef, undef, undef, undef, undef, undef, undef, undef, undef, undef, undef, undef, undef, undef, undef, undef, undef, undef, undef, undef, undef, undef, undef, undef, undef, undef, undef, undef, undef, undef, undef, undef, undef, undef, undef, undef, undef, undef, undef, undef, undef, undef, undef, undef, undef, undef, undef], defers := [] })
  case hAx =>
    rintro pre x a' ⟨⟩ A B row ⟨g9, h1, h2, h3, h4, h5, h6⟩ hg hr
    have hcs := Cs.of_row hg (fun q e => (hr q e).2)
    exact ⟨g9, hcs.same _ _ h1 rfl, h2, h3.cs hcs, h4, h5, h6⟩
  case hassign =>
    intro pre x W K hI hT hK
    obtain ⟨t1, q, t2, t3, t4, g, t5, t6, t7, t8, t9⟩ := hT
    have hH := Hand.of t5 t6 t7 t8 t9
    have hgl := (t8.from_base g rfl).2
    simp only [benc]
    have ga := alloc_grown W (.cells #[.int .i64 x.b, .slice x.y.o x.y.n x.y.c] 94)
    have k9 := heap_alloc_new W (.cells #[.int .i64 x.b, .slice x.y.o x.y.n x.y.c] 94)
    have hH2 := hH.cs (Cs.of_row ga (fun q e => by cases e))
    have hq2 : ∃ q : Rl, bs[pre.length]? = some (x.b, q) ∧ x.y.n = q.n ∧ ds x.y.l = ds q.l := ⟨q, t2, t3, t4⟩
    have hsW : w3.heap.size + 2 ≤ W.heap.size := by omega
    clear t8 t9 hH t2 t3 t4 t5 t6 t7
    gi_wp2
    exact hK _ _ ((KeepsOthers.alloc W _).from _) ((grownBy_below ga).mono (by omega)) ⟨hI.1.grown ga, hI.2.grown ga (by omega) (fun k hk => by cases hk)⟩ ⟨W.heap.size, k9, hsW, hH2, t1, hq2, rfl⟩
  case hbody =>
    rintro pre x a' W ⟨rr, hrr⟩ ⟨hG, hBl⟩ ⟨g9, h9, hg9, hH, hp, ⟨q, hbq, hyn, hyd⟩, rfl⟩
    obtain ⟨s1, s2, s3⟩ := hsay pre.length (x.b, q) x.p hbq hp
    simp only at s1 s2 s3
    have hfit := hPn.fit _ _ hp
    have hj : pre.length < ps.length := (List.getElem?_eq_some_iff.1 hp).1
    have hpe : ps[pre.length] = x.p := (List.getElem?_eq_some_iff.1 hp).2
    have hst := sum_take_succ hj
    have hsl := sum_take_le ps (pre.length + 1)
    have hsum := hPn.sum
    have hp1 := hPn.pos x.p (List.mem_of_getElem? hp)
    have hln := hL.vs.len
    rw [List.length_map] at hln
    have hft := flat_next L (ps.take pre.length).sum x.p
    rw [hpe] at hst
    rw [← s1] at hG
    have hfl : (flat (L.take ((ps.take pre.length).sum + x.p))).length ≤ (flat L).length := by
      have h8 := flat_append (L.take ((ps.take pre.length).sum + x.p)) (L.drop ((ps.take pre.length).sum + x.p))
      rw [List.take_append_drop] at h8
      rw [h8, List.length_append]
      omega
    have hxn : x.b + (x.y.n : Int) = base + ((flat (L.take ((ps.take pre.length).sum + x.p))).length : Nat) := by
      rw [hft, List.length_append, s1, hyn, s2]
      push_cast
      omega
    have hnx : (base + ((flat (L.take (ps.take (pre ++ [x]).length).sum)).length : Nat) = x.b + (x.y.n : Int)) ∧ (ps.take (pre ++ [x]).length).sum = (ps.take pre.length).sum + x.p := by
      have e : (pre ++ [x]).length = pre.length + 1 := by simp
      rw [e, hst]
      exact ⟨hxn.symm, rfl⟩
    have hU0 : 0 ≤ x.b := by rw [s1]; omega
    have hU1 : x.b + (x.y.n : Int) ≤ 9007199254740993 := by omega
    have hy1 : x.y.n ≤ 100000 := by rw [hyn, s2]; have := hfit.1; omega
    have hNN : x.y.n = (flat ((L.drop (ps.take pre.length).sum).take x.p)).length := by rw [hyn, s2]
    have hdd : sameAllB x.y.l (flat ((L.drop (ps.take pre.length).sum).take x.p)) = true := by unfold sameAllB; rw [decide_eq_true_eq, hyd, s3]
    have hsp : (ps.take pre.length).sum + x.p ≤ n := by omega
    have hfN : (flat ((L.drop (ps.take pre.length).sum).take x.p)).length ≤ 100000 := by have := hfit.1; omega
    generalize (ps.take pre.length).sum = s at *
    have hnext : Hid _ := hnx
    clear hnx hxn s1 s2 s3 hfit hft hfl hst hsl hsum hyn hyd hbq
    obtain ⟨ab, af, hao, _⟩ := hL.vs.addr (by omega)
    subst hao
    have hGw : w.grownBy W none := below_grownBy hBl
    obtain ⟨qb, qf, hq0, _⟩ := hQ.addr (by omega)
    subst hq0
    have hgd : W.grownBy W.drew none := grown_drewN W 1 none
    have hGd := hG.grown hgd
    have h9d := heap_kept hgd h9 (by simp)
    have k0 := hGd.b0.cell
    have k1 := hGd.b1.cell
    have k2 := hGd.b2.cell
    have k5 := hGd.b5.cell
    have k6 := hGd.b6.cell
    have kq : W.drew.cell? ⟨qb, qf + pre.length, none⟩ = some (.int .i64 (x.p : Int)) := (hQ.grown (grown_trans hGw hgd (by simp))).at (j := pre.length) (u := iv x.p) (by rw [List.getElem?_map, hp]; rfl)
    have y0 := cell_of (i := 0) (v := .int .i64 x.b) h9d rfl
    have y1 := cell_of (i := 1) (v := .slice x.y.o x.y.n x.y.c) h9d rfl
    have hsame : ∀ V, W.grownBy V none → Calls Try.prog 17 #[.slice (some ⟨ab, af + s, none⟩) x.p (cap - s)] V fun e w' => ∃ ro rc, e = .returned (.slice ro x.y.n rc) ∧ V.grownBy w' none ∧ Hid (Calls Try.prog 20 #[.slice x.y.o x.y.n x.y.c, .slice ro x.y.n rc] w' fun e w' => e = .returned (.bool true) ∧ W.grownBy w' none) := fun V hV => by
      have hLV := hL.grown (grown_trans hGw hV (by simp))
      have hcut := hLV.part (hLV.vs.cut s x.p hsp (af + s) (Or.inr rfl) (cap - s) (by have := hL.vs.room; omega) (by have := hLV.vs.top; omega)) (Or.inr ⟨_, _, rfl⟩)
      refine (rtogether_any V _ _ _ _ hcut (by omega) hfN).mono ?_
      rintro e w7 ⟨ro, rc, rfl, hR7, hg7⟩
      rw [← hNN] at hR7 ⊢
      have hgW7 := grown_trans hV hg7 (by simp)
      have hH7 := hH.cs (Cs.of_row hgW7 (fun q e => by cases e))
      have hc7 := (hcut.grown hg7).shows
      refine ⟨ro, rc, rfl, hg7, ?_⟩
      have h8 := rsame_any w7 x.y.o ro x.y.n x.y.n x.y.c rc x.y.l _ (by rw [hH.c]; exact hH7.rs) (hR7.shows (fun r hr => by
        unfold flat at hr
        obtain ⟨l9, hl9, hr9⟩ := List.mem_flatten.1 hr
        obtain ⟨X, hX, rfl⟩ := List.mem_map.1 hl9
        exact (hc7 X hX).shows r hr9))
      rw [hdd] at h8
      exact h8.mono fun e w8 h => ⟨h.1, grown_trans hgW7 h.2 (by simp)⟩
    clear hNN hdd hfN
    have kqW : ∀ V, W.grownBy V none → V.cell? ⟨qb, qf + pre.length, none⟩ = some (.int .i64 (x.p : Int)) := fun V hV => (hQ.grown (grown_trans hGw hV (by simp))).at (j := pre.length) (u := iv x.p) (by rw [List.getElem?_map, hp]; rfl)
    obtain ⟨T, hT, hTw, t0, t1, t2⟩ : ∃ T : Nat, (s : Int) + (x.p : Int) = (T : Int) ∧ IntKind.i64.wrap (T : Int) = (T : Int) ∧ (0 : Int) ≤ (T : Int) ∧ (s : Int) ≤ (T : Int) ∧ (T : Int) ≤ (cap : Int) := ⟨s + x.p, by push_cast; rfl, by rw [IntWalk.i64_in _ (by push_cast; omega)], by omega, by push_cast; omega, by have := hL.vs.room; push_cast; omega⟩
    have hTs : T - s = x.p := by omega
    have hcs0 : ¬ cap = s := by have := hL.vs.room; omega
    have i1 : (0 : Int) ≤ (pre.length : Int) := by omega
    have i2 : (pre.length : Int) < (pl : Int) := by omega
    have s1 : (0 : Int) ≤ (s : Int) := by omega
    have g1 : decide ((pl : Int) ≤ (pre.length : Int)) = false := by simp; omega
    have g2 : decide (pl ≤ pre.length) = false := by simp; omega
    gi_wp2_with fail
    refine wpIn_region_round (S := fun w' => w'.cell? ⟨w.heap.size + 1 + 1 + 1 + 1 + 1, 0, none⟩ = some (.int .i64 pre.length) ∧ w'.cell? ⟨w.heap.size, 0, none⟩ = some (.slice (some ⟨qb, qf, none⟩) pl qc) ∧ w'.cell? ⟨qb, qf + pre.length, none⟩ = some (.int .i64 x.p) ∧ w'.cell? ⟨g9, 0, none⟩ = some (.int .i64 x.b) ∧ w'.cell? ⟨w.heap.size + 1, 0, none⟩ = some (.int .i64 x.b) ∧ w'.cell? ⟨g9, 1, none⟩ = some (.slice x.y.o x.y.n x.y.c) ∧ w'.cell? ⟨w.heap.size + 1 + 1, 0, none⟩ = some (.slice (some ⟨ab, af, none⟩) n cap) ∧ w'.cell? ⟨w.heap.size + 1 + 1 + 1 + 1 + 1 + 1, 0, none⟩ = some (.int .i64 s)) (by kernel_rfl) (by kernel_rfl) (by rintro ⟨_, _, h⟩; exact h) ⟨k5, k0, kq, y0, k1, y1, k2, k6⟩ (fun hHeld => ?_)
    refine wpAnyH_take (i := 0) (oi := { dst := some 20, op := Op.load 3 (Operand.tmp 11), type := 3, pos := "law.go:228", after := #[], guard := none }) (v := ?_) rfl (by kernel_rfl) (by kernel_rfl) (by kernel_rfl) (fun _ _ _ h => h) (Or.inl ⟨by rfl, ?_⟩) (by assumption) ?_
    rotate_left
    · intro w hSw; (try dsimp only at hSw); go_simp
      try with_reducible rfl
    try simp only [Act.put, List.setIfInBounds_toArray, List.set_cons_zero, List.set_cons_succ]
    refine wpAnyH_take (i := 1) (oi := { dst := some 21, op := Op.load 29 (Operand.tmp 6), type := 29, pos := "law.go:228", after := #[], guard := none }) (v := ?_) rfl (by kernel_rfl) (by kernel_rfl) (by kernel_rfl) (fun _ _ _ h => h) (Or.inl ⟨by rfl, ?_⟩) (by assumption) ?_
    rotate_left
    · intro w hSw; (try dsimp only at hSw); go_simp
      try with_reducible rfl
    try simp only [Act.put, List.setIfInBounds_toArray, List.set_cons_zero, List.set_cons_succ]
    refine wpAnyH_take (i := 2) (oi := { dst := some 22, op := Op.call { callee := Callee.builtin Builtin.len, args := #[Operand.tmp 21], argTypes := #[29] }, type := 3, pos := "law.go:228", after := #[{ on := 1, ground := Ground.data }], guard := none }) (v := ?_) rfl (by kernel_rfl) (by kernel_rfl) (by kernel_rfl) (fun _ _ _ h => h) (Or.inl ⟨by rfl, ?_⟩) (by assumption) ?_
    rotate_left
    · intro w hSw; (try dsimp only at hSw); go_simp
      try with_reducible rfl
    try simp only [Act.put, List.setIfInBounds_toArray, List.set_cons_zero, List.set_cons_succ]
    refine wpAnyH_take (i := 3) (oi := { dst := some 23, op := Op.binOp BinOp.geq 3 (Operand.tmp 20) (Operand.tmp 22) 3, type := 4, pos := "law.go:228", after := #[{ on := 0, ground := Ground.data }, { on := 2, ground := Ground.data }], guard := none }) (v := ?_) rfl (by kernel_rfl) (by kernel_rfl) (by kernel_rfl) (fun _ _ _ h => h) (Or.inl ⟨by rfl, ?_⟩) (by assumption) ?_
    rotate_left
    · intro w hSw; (try dsimp only at hSw); go_simp
      try with_reducible rfl
    try simp only [Act.put, List.setIfInBounds_toArray, List.set_cons_zero, List.set_cons_succ]
    refine wpAnyH_take (i := 4) (oi := { dst := some 24, op := Op.move (Operand.tmp 23), type := 4, pos := "law.go:228", after := #[{ on := 3, ground := Ground.data }], guard := none }) (v := ?_) rfl (by kernel_rfl) (by kernel_rfl) (by kernel_rfl) (fun _ _ _ h => h) (Or.inl ⟨by rfl, ?_⟩) (by assumption) ?_
    rotate_left
    · intro w hSw; (try dsimp only at hSw); go_simp
      try with_reducible rfl
    try simp only [Act.put, List.setIfInBounds_toArray, List.set_cons_zero, List.set_cons_succ]
    refine wpAnyH_take (i := 5) (oi := { dst := some 25, op := Op.move (Operand.tmp 13), type := 3, pos := "law.go:228", after := #[{ on := 4, ground := Ground.guard }], guard := some (4, false) }) (v := ?_) rfl (by kernel_rfl) (by kernel_rfl) (by kernel_rfl) (fun _ _ _ h => h) (Or.inl ⟨by rfl, ?_⟩) (by assumption) ?_
    rotate_left
    · intro w hSw; (try dsimp only at hSw); go_simp
      try with_reducible rfl
    try simp only [Act.put, List.setIfInBounds_toArray, List.set_cons_zero, List.set_cons_succ]
    refine wpAnyH_take (i := 6) (oi := { dst := some 26, op := Op.load 29 (Operand.tmp 6), type := 29, pos := "law.go:228", after := #[{ on := 4, ground := Ground.guard }], guard := some (4, false) }) (v := ?_) rfl (by kernel_rfl) (by kernel_rfl) (by kernel_rfl) (fun _ _ _ h => h) (Or.inl ⟨by rfl, ?_⟩) (by assumption) ?_
    rotate_left
    · intro w hSw; (try dsimp only at hSw); go_simp
      try with_reducible rfl
    try simp only [Act.put, List.setIfInBounds_toArray, List.set_cons_zero, List.set_cons_succ]
    refine wpAnyH_take (i := 7) (oi := { dst := some 27, op := Op.load 3 (Operand.tmp 11), type := 3, pos := "law.go:228", after := #[{ on := 4, ground := Ground.guard }], guard := some (4, false) }) (v := ?_) rfl (by kernel_rfl) (by kernel_rfl) (by kernel_rfl) (fun _ _ _ h => h) (Or.inl ⟨by rfl, ?_⟩) (by assumption) ?_
    rotate_left
    · intro w hSw; (try dsimp only at hSw); go_simp
      try with_reducible rfl
    try simp only [Act.put, List.setIfInBounds_toArray, List.set_cons_zero, List.set_cons_succ]
    refine wpAnyH_take (i := 8) (oi := { dst := some 28, op := Op.indexAddr 29 (Operand.tmp 26) (Operand.tmp 27), type := 0, pos := "law.go:228", after := #[{ on := 6, ground := Ground.data }, { on := 7, ground := Ground.data }, { on := 4, ground := Ground.guard }], guard := some (4, false) }) (v := ?_) rfl (by kernel_rfl) (by kernel_rfl) (by kernel_rfl) (fun _ _ _ h => h) (Or.inl ⟨by rfl, ?_⟩) (by assumption) ?_
    rotate_left
    · intro w hSw; (try dsimp only at hSw); go_simp
      try with_reducible rfl
    try simp only [Act.put, List.setIfInBounds_toArray, List.set_cons_zero, List.set_cons_succ]
    refine wpAnyH_take (i := 9) (oi := { dst := some 29, op := Op.load 3 (Operand.tmp 28), type := 3, pos := "law.go:228", after := #[{ on := 8, ground := Ground.data }, { on := 4, ground := Ground.guard }], guard := some (4, false) }) (v := ?_) rfl (by kernel_rfl) (by kernel_rfl) (by kernel_rfl) (fun _ _ _ h => h) (Or.inl ⟨by rfl, ?_⟩) (by assumption) ?_
    rotate_left
    · intro w hSw; (try dsimp only at hSw); go_simp
      try with_reducible rfl
    try simp only [Act.put, List.setIfInBounds_toArray, List.set_cons_zero, List.set_cons_succ]
    refine wpAnyH_take (i := 10) (oi := { dst := some 30, op := Op.binOp BinOp.neq 3 (Operand.tmp 25) (Operand.tmp 29) 3, type := 4, pos := "law.go:228", after := #[{ on := 5, ground := Ground.data }, { on := 9, ground := Ground.data }, { on := 4, ground := Ground.guard }], guard := some (4, false) }) (v := ?_) rfl (by kernel_rfl) (by kernel_rfl) (by kernel_rfl) (fun _ _ _ h => h) (Or.inl ⟨by rfl, ?_⟩) (by assumption) ?_
    rotate_left
    · intro w hSw; (try dsimp only at hSw); go_simp
      try with_reducible rfl
    try simp only [Act.put, List.setIfInBounds_toArray, List.set_cons_zero, List.set_cons_succ]
    refine wpAnyH_take (i := 11) (oi := { dst := some 31, op := Op.pick (Operand.tmp 24) (Operand.const (Value.bool true)) (Operand.tmp 30), type := 4, pos := "law.go:228", after := #[{ on := 4, ground := Ground.data }, { on := 10, ground := Ground.data }], guard := none }) (v := ?_) rfl (by kernel_rfl) (by kernel_rfl) (by kernel_rfl) (fun _ _ _ h => h) (Or.inl ⟨by rfl, ?_⟩) (by assumption) ?_
    rotate_left
    · intro w hSw; (try dsimp only at hSw); go_simp
      try with_reducible rfl
    try simp only [Act.put, List.setIfInBounds_toArray, List.set_cons_zero, List.set_cons_succ]
    refine wpAnyH_take (i := 12) (oi := { dst := some 32, op := Op.move (Operand.tmp 31), type := 4, pos := "law.go:228", after := #[{ on := 11, ground := Ground.data }, { on := 4, ground := Ground.chain }], guard := none }) (v := ?_) rfl (by kernel_rfl) (by kernel_rfl) (by kernel_rfl) (fun _ _ _ h => h) (Or.inl ⟨by rfl, ?_⟩) (by assumption) ?_
    rotate_left
    · intro w hSw; (try dsimp only at hSw); go_simp
      try with_reducible rfl
    try simp only [Act.put, List.setIfInBounds_toArray, List.set_cons_zero, List.set_cons_succ]
    refine wpAnyH_take (i := 13) (oi := { dst := some 33, op := Op.fieldAddr 94 (Operand.tmp 14) 0, type := 0, pos := "law.go:228", after := #[{ on := 12, ground := Ground.guard }], guard := some (12, false) }) (v := ?_) rfl (by kernel_rfl) (by kernel_rfl) (by kernel_rfl) (fun _ _ _ h => h) (Or.inl ⟨by rfl, ?_⟩) (by assumption) ?_
    rotate_left
    · intro w hSw; (try dsimp only at hSw); go_simp
      try with_reducible rfl
    try simp only [Act.put, List.setIfInBounds_toArray, List.set_cons_zero, List.set_cons_succ]
    refine wpAnyH_take (i := 14) (oi := { dst := some 34, op := Op.load 2 (Operand.tmp 33), type := 2, pos := "law.go:228", after := #[{ on := 13, ground := Ground.data }, { on := 12, ground := Ground.guard }], guard := some (12, false) }) (v := ?_) rfl (by kernel_rfl) (by kernel_rfl) (by kernel_rfl) (fun _ _ _ h => h) (Or.inl ⟨by rfl, ?_⟩) (by assumption) ?_
    rotate_left
    · intro w hSw; (try dsimp only at hSw); go_simp
      try with_reducible rfl
    try simp only [Act.put, List.setIfInBounds_toArray, List.set_cons_zero, List.set_cons_succ]
    refine wpAnyH_take (i := 15) (oi := { dst := some 35, op := Op.load 2 (Operand.tmp 7), type := 2, pos := "law.go:228", after := #[{ on := 12, ground := Ground.guard }], guard := some (12, false) }) (v := ?_) rfl (by kernel_rfl) (by kernel_rfl) (by kernel_rfl) (fun _ _ _ h => h) (Or.inl ⟨by rfl, ?_⟩) (by assumption) ?_
    rotate_left
    · intro w hSw; (try dsimp only at hSw); go_simp
      try with_reducible rfl
    try simp only [Act.put, List.setIfInBounds_toArray, List.set_cons_zero, List.set_cons_succ]
    refine wpAnyH_take (i := 16) (oi := { dst := some 36, op := Op.binOp BinOp.neq 2 (Operand.tmp 34) (Operand.tmp 35) 2, type := 4, pos := "law.go:228", after := #[{ on := 14, ground := Ground.data }, { on := 15, ground := Ground.data }, { on := 12, ground := Ground.guard }], guard := some (12, false) }) (v := ?_) rfl (by kernel_rfl) (by kernel_rfl) (by kernel_rfl) (fun _ _ _ h => h) (Or.inl ⟨by rfl, ?_⟩) (by assumption) ?_
    rotate_left
    · intro w hSw; (try dsimp only at hSw); go_simp
      try with_reducible rfl
    try simp only [Act.put, List.setIfInBounds_toArray, List.set_cons_zero, List.set_cons_succ]
    refine wpAnyH_take (i := 17) (oi := { dst := some 37, op := Op.pick (Operand.tmp 32) (Operand.const (Value.bool true)) (Operand.tmp 36), type := 4, pos := "law.go:228", after := #[{ on := 12, ground := Ground.data }, { on := 16, ground := Ground.data }], guard := none }) (v := ?_) rfl (by kernel_rfl) (by kernel_rfl) (by kernel_rfl) (fun _ _ _ h => h) (Or.inl ⟨by rfl, ?_⟩) (by assumption) ?_
    rotate_left
    · intro w hSw; (try dsimp only at hSw); go_simp
      try with_reducible rfl
    try simp only [Act.put, List.setIfInBounds_toArray, List.set_cons_zero, List.set_cons_succ]
    refine wpAnyH_take (i := 18) (oi := { dst := some 38, op := Op.move (Operand.tmp 37), type := 4, pos := "law.go:228", after := #[{ on := 17, ground := Ground.data }, { on := 12, ground := Ground.chain }], guard := none }) (v := ?_) rfl (by kernel_rfl) (by kernel_rfl) (by kernel_rfl) (fun _ _ _ h => h) (Or.inl ⟨by rfl, ?_⟩) (by assumption) ?_
    rotate_left
    · intro w hSw; (try dsimp only at hSw); go_simp
      try with_reducible rfl
    try simp only [Act.put, List.setIfInBounds_toArray, List.set_cons_zero, List.set_cons_succ]
    refine wpAnyH_take (i := 19) (oi := { dst := some 39, op := Op.fieldAddr 94 (Operand.tmp 14) 1, type := 0, pos := "law.go:228", after := #[{ on := 18, ground := Ground.guard }], guard := some (18, false) }) (v := ?_) rfl (by kernel_rfl) (by kernel_rfl) (by kernel_rfl) (fun _ _ _ h => h) (Or.inl ⟨by rfl, ?_⟩) (by assumption) ?_
    rotate_left
    · intro w hSw; (try dsimp only at hSw); go_simp
      try with_reducible rfl
    try simp only [Act.put, List.setIfInBounds_toArray, List.set_cons_zero, List.set_cons_succ]
    refine wpAnyH_take (i := 20) (oi := { dst := some 40, op := Op.load 32 (Operand.tmp 39), type := 32, pos := "law.go:228", after := #[{ on := 19, ground := Ground.data }, { on := 18, ground := Ground.guard }], guard := some (18, false) }) (v := ?_) rfl (by kernel_rfl) (by kernel_rfl) (by kernel_rfl) (fun _ _ _ h => h) (Or.inl ⟨by rfl, ?_⟩) (by assumption) ?_
    rotate_left
    · intro w hSw; (try dsimp only at hSw); go_simp
      try with_reducible rfl
    try simp only [Act.put, List.setIfInBounds_toArray, List.set_cons_zero, List.set_cons_succ]
    refine wpAnyH_take (i := 21) (oi := { dst := some 41, op := Op.load 22 (Operand.tmp 8), type := 22, pos := "law.go:228", after := #[{ on := 18, ground := Ground.guard }], guard := some (18, false) }) (v := ?_) rfl (by kernel_rfl) (by kernel_rfl) (by kernel_rfl) (fun _ _ _ h => h) (Or.inl ⟨by rfl, ?_⟩) (by assumption) ?_
    rotate_left
    · intro w hSw; (try dsimp only at hSw); go_simp
      try with_reducible rfl
    try simp only [Act.put, List.setIfInBounds_toArray, List.set_cons_zero, List.set_cons_succ]
    refine wpAnyH_take (i := 22) (oi := { dst := some 42, op := Op.load 3 (Operand.tmp 12), type := 3, pos := "law.go:228", after := #[{ on := 18, ground := Ground.guard }], guard := some (18, false) }) (v := ?_) rfl (by kernel_rfl) (by kernel_rfl) (by kernel_rfl) (fun _ _ _ h => h) (Or.inl ⟨by rfl, ?_⟩) (by assumption) ?_
    rotate_left
    · intro w hSw; (try dsimp only at hSw); go_simp
      try with_reducible rfl
    try simp only [Act.put, List.setIfInBounds_toArray, List.set_cons_zero, List.set_cons_succ]
    refine wpAnyH_take (i := 23) (oi := { dst := some 43, op := Op.load 3 (Operand.tmp 12), type := 3, pos := "law.go:228", after := #[{ on := 18, ground := Ground.guard }], guard := some (18, false) }) (v := ?_) rfl (by kernel_rfl) (by kernel_rfl) (by kernel_rfl) (fun _ _ _ h => h) (Or.inl ⟨by rfl, ?_⟩) (by assumption) ?_
    rotate_left
    · intro w hSw; (try dsimp only at hSw); go_simp
      try with_reducible rfl
    try simp only [Act.put, List.setIfInBounds_toArray, List.set_cons_zero, List.set_cons_succ]
    refine wpAnyH_take (i := 24) (oi := { dst := some 44, op := Op.move (Operand.tmp 13), type := 3, pos := "law.go:228", after := #[{ on := 18, ground := Ground.guard }], guard := some (18, false) }) (v := ?_) rfl (by kernel_rfl) (by kernel_rfl) (by kernel_rfl) (fun _ _ _ h => h) (Or.inl ⟨by rfl, ?_⟩) (by assumption) ?_
    rotate_left
    · intro w hSw; (try dsimp only at hSw); go_simp
      try with_reducible rfl
    try simp only [Act.put, List.setIfInBounds_toArray, List.set_cons_zero, List.set_cons_succ]
    refine wpAnyH_take (i := 25) (oi := { dst := some 45, op := Op.binOp BinOp.add 3 (Operand.tmp 43) (Operand.tmp 44) 3, type := 3, pos := "law.go:228", after := #[{ on := 23, ground := Ground.data }, { on := 24, ground := Ground.data }, { on := 18, ground := Ground.guard }], guard := some (18, false) }) (v := ?_) rfl (by kernel_rfl) (by kernel_rfl) (by kernel_rfl) (fun _ _ _ h => h) (Or.inl ⟨by rfl, ?_⟩) (by assumption) ?_
    rotate_left
    · intro w hSw; (try dsimp only at hSw); go_simp
      try with_reducible rfl
    try simp only [Act.put, List.setIfInBounds_toArray, List.set_cons_zero, List.set_cons_succ]
    refine wpAnyH_take (i := 26) (oi := { dst := some 46, op := Op.slice 22 (Operand.tmp 41) (some (Operand.tmp 42)) (some (Operand.tmp 45)) none, type := 22, pos := "law.go:228", after := #[{ on := 21, ground := Ground.data }, { on := 22, ground := Ground.data }, { on := 25, ground := Ground.data }, { on := 18, ground := Ground.guard }], guard := some (18, false) }) (v := ?_) rfl (by kernel_rfl) (by kernel_rfl) (by kernel_rfl) (fun _ _ _ h => h) (Or.inl ⟨by rfl, ?_⟩) (by assumption) ?_
    rotate_left
    · intro w hSw; (try dsimp only at hSw); go_simp
      try with_reducible rfl
    try simp only [Act.put, List.setIfInBounds_toArray, List.set_cons_zero, List.set_cons_succ]
    refine wpAnyH_ready (rs := [27]) (by kernel_rfl) (by simp) ?_
    refine AllReadyH.cons (o := { dst := some 47, op := Op.call { callee := Callee.value (Operand.func 17), args := #[Operand.tmp 46], argTypes := #[22] }, type := 32, pos := "law.go:228", after := #[{ on := 26, ground := Ground.data }, { on := 18, ground := Ground.chain }, { on := 18, ground := Ground.guard }], guard := some (18, false) }) rfl (fun K hK => ?_) AllReadyH.nil
    go_simp
    go_at_call 17; refine (hsame _ hgd).mono ?_; rintro e w7 ⟨ro, rc, rfl, hg7, h20⟩; go_simp
    refine hK.out _ _ ⟨hg7.cell k5 (by simp), hg7.cell k0 (by simp), hg7.cell kq (by simp), hg7.cell y0 (by simp), hg7.cell k1 (by simp), hg7.cell y1 (by simp), hg7.cell k2 (by simp), hg7.cell k6 (by simp)⟩ (fun hHeld => ?_)
    clear hK K
    try simp only [Act.put, List.setIfInBounds_toArray, List.set_cons_zero, List.set_cons_succ]
    obtain ⟨k5, k0, kq, y0, k1, y1, k2, k6⟩ := hHeld
    have hHeld : (fun w' : World => w'.cell? ⟨w.heap.size + 1 + 1 + 1 + 1 + 1, 0, none⟩ = some (.int .i64 pre.length) ∧ w'.cell? ⟨w.heap.size, 0, none⟩ = some (.slice (some ⟨qb, qf, none⟩) pl qc) ∧ w'.cell? ⟨qb, qf + pre.length, none⟩ = some (.int .i64 x.p) ∧ w'.cell? ⟨g9, 0, none⟩ = some (.int .i64 x.b) ∧ w'.cell? ⟨w.heap.size + 1, 0, none⟩ = some (.int .i64 x.b) ∧ w'.cell? ⟨g9, 1, none⟩ = some (.slice x.y.o x.y.n x.y.c) ∧ w'.cell? ⟨w.heap.size + 1 + 1, 0, none⟩ = some (.slice (some ⟨ab, af, none⟩) n cap) ∧ w'.cell? ⟨w.heap.size + 1 + 1 + 1 + 1 + 1 + 1, 0, none⟩ = some (.int .i64 s)) w7 := ⟨k5, k0, kq, y0, k1, y1, k2, k6⟩
    refine wpAnyH_ready (rs := [28]) (by kernel_rfl) (by simp) ?_
    refine AllReadyH.cons (o := { dst := some 48, op := Op.call { callee := Callee.value (Operand.func 20), args := #[Operand.tmp 40, Operand.tmp 47], argTypes := #[32, 32] }, type := 4, pos := "law.go:228", after := #[{ on := 20, ground := Ground.data }, { on := 27, ground := Ground.data }, { on := 27, ground := Ground.chain }, { on := 18, ground := Ground.guard }], guard := some (18, false) }) rfl (fun K hK => ?_) AllReadyH.nil
    go_simp
    go_at_call 20; refine h20.out.mono ?_; rintro e w8 ⟨rfl, hg8⟩; go_simp
    refine hK.out _ _ ⟨(hG.grown hg8).b5.cell, (hG.grown hg8).b0.cell, kqW _ hg8, cell_of (i := 0) (v := .int .i64 x.b) (heap_kept hg8 h9 (by simp)) rfl, (hG.grown hg8).b1.cell, cell_of (i := 1) (v := .slice x.y.o x.y.n x.y.c) (heap_kept hg8 h9 (by simp)) rfl, (hG.grown hg8).b2.cell, (hG.grown hg8).b6.cell⟩ (fun hHeld => ?_)
    clear hK K
    try simp only [Act.put, List.setIfInBounds_toArray, List.set_cons_zero, List.set_cons_succ]
    refine wpAnyH_take (i := 29) (oi := { dst := some 49, op := Op.unOp UnOp.not 4 (Operand.tmp 48), type := 4, pos := "law.go:228", after := #[{ on := 28, ground := Ground.data }, { on := 18, ground := Ground.guard }], guard := some (18, false) }) (v := ?_) rfl (by kernel_rfl) (by kernel_rfl) (by kernel_rfl) (fun _ _ _ h => h) (Or.inl ⟨by rfl, ?_⟩) (by assumption) ?_
    rotate_left
    · intro w hSw; (try dsimp only at hSw); go_simp
      try with_reducible rfl
    try simp only [Act.put, List.setIfInBounds_toArray, List.set_cons_zero, List.set_cons_succ]
    refine wpAnyH_take (i := 30) (oi := { dst := some 50, op := Op.pick (Operand.tmp 38) (Operand.const (Value.bool true)) (Operand.tmp 49), type := 4, pos := "law.go:228", after := #[{ on := 18, ground := Ground.data }, { on := 29, ground := Ground.data }], guard := none }) (v := ?_) rfl (by kernel_rfl) (by kernel_rfl) (by kernel_rfl) (fun _ _ _ h => h) (Or.inl ⟨by rfl, ?_⟩) (by assumption) ?_
    rotate_left
    · intro w hSw; (try dsimp only at hSw); go_simp
      try with_reducible rfl
    try simp only [Act.put, List.setIfInBounds_toArray, List.set_cons_zero, List.set_cons_succ]
    refine wpAnyH_done (by kernel_rfl) ?_ _
    have hG8 := hG.grown hg8
    have h98 := heap_kept hg8 h9 (by simp)
    obtain ⟨U, hU, hUw⟩ : ∃ U : Int, x.b + (x.y.n : Int) = U ∧ IntKind.i64.wrap U = U := ⟨_, rfl, by rw [IntWalk.i64_in _ (by omega)]⟩
    have hG9 := hG8.setB U
    have h99 := heap_kept (setCell_grown w8 (w.heap.size + 1) 0 (.int .i64 U)) h98 (by simp; omega)
    have hH8 := hH.cs (Cs.of_row hg8 (fun q e => by cases e))
    have hsp9 := hH8.spoil2 (V := w8.setCell ⟨w.heap.size + 1, 0, none⟩ (.int .i64 U)) (fun k hk => Below.heap_setCell _ _ _ _ (by show k ≠ w.heap.size + 1; omega)) hy1
    have e1 := hG8.b1.cell
    have f1 := hG8.b1.frozen
    have y8 := cell_of (i := 1) (v := .slice x.y.o x.y.n x.y.c) h98 rfl
    have y9 := cell_of (i := 1) (v := .slice x.y.o x.y.n x.y.c) h99 rfl
    clear hHeld k0 k1 k2 k5 k6 kq y0 y1 hGd h9d hsame kqW h20 hg7
    gi_wp2_with fail
    refine ⟨trivial, callsIn_round (hsp9.mono ?_)⟩
    rintro e W9 ⟨rfl, hC, hKO⟩
    have hG10 := hG9.chg hC (fun k hk => by omega)
    have hG11 := hG10.setF (T : Int)
    have hG12 := hG11.setN ((pre.length : Int) + 1)
    have c6 := hG10.b6.cell
    have f6 := hG10.b6.frozen
    have c5 := hG11.b5.cell
    have f5 := hG11.b5.frozen
    have d5 := hG12.b5.cell
    have d3 := hG12.b3.cell
    have d4 := hG12.b4.frozen
    have d4c := hG12.b4.cell
    have hNw : IntKind.i64.wrap ((pre.length : Int) + 1) = (pre.length : Int) + 1 := by rw [IntWalk.i64_in _ (by omega)]
    have chain : ∀ B0 a, Below B0 a W → B0 ≤ w.heap.size → Below B0 a ((W9.setCell ⟨w.heap.size + 1 + 1 + 1 + 1 + 1 + 1, 0, none⟩ (.int .i64 (T : Int))).setCell ⟨w.heap.size + 1 + 1 + 1 + 1 + 1, 0, none⟩ (.int .i64 ((pre.length : Int) + 1))) := fun B0 a h hB => by
      have hw := hG.lt
      have hw9 := hG9.lt
      have j8 := h.grown hg8 (by omega) (fun k hk => by cases hk)
      have j9 := j8.setCell (p := ⟨w.heap.size + 1, 0, none⟩) (by show B0 ≤ w.heap.size + 1; omega) (.int .i64 U)
      have j10 := Below.chg j9 hC (fun k hk => by omega) (by omega)
      exact (j10.setCell (p := ⟨w.heap.size + 1 + 1 + 1 + 1 + 1 + 1, 0, none⟩) (by show B0 ≤ w.heap.size + 1 + 1 + 1 + 1 + 1 + 1; omega) _).setCell (p := ⟨w.heap.size + 1 + 1 + 1 + 1 + 1, 0, none⟩) (by show B0 ≤ w.heap.size + 1 + 1 + 1 + 1 + 1; omega) _
    have hko : KeepsOthers W ((W9.setCell ⟨w.heap.size + 1 + 1 + 1 + 1 + 1 + 1, 0, none⟩ (.int .i64 (T : Int))).setCell ⟨w.heap.size + 1 + 1 + 1 + 1 + 1, 0, none⟩ (.int .i64 ((pre.length : Int) + 1))) :=
      ((((KeepsOthers.of_grownBy hg8 (fun j o e => by cases e)).trans (KeepsOthers.setCell _ _ _)).trans hKO).trans (KeepsOthers.setCell _ _ _)).trans (KeepsOthers.setCell _ _ _)
    have hC1 := chain _ _ hBl (Nat.le_refl _)
    have hC2 := chain hi W (Below.refl _ _) hhi
    have hIn : Hid (Gx ((W9.setCell ⟨w.heap.size + 1 + 1 + 1 + 1 + 1 + 1, 0, none⟩ (.int .i64 (T : Int))).setCell ⟨w.heap.size + 1 + 1 + 1 + 1 + 1, 0, none⟩ (.int .i64 ((pre.length : Int) + 1))) w.heap.size (.slice (some ⟨qb, qf, none⟩) pl qc) (base + ((flat (L.take (ps.take (pre ++ [x]).length).sum)).length : Nat)) (.slice (some ⟨ab, af, none⟩) n cap) leave false ((pre ++ [x]).length : Nat) ((ps.take (pre ++ [x]).length).sum : Nat)) := by
      have e2 : (((pre ++ [x]).length : Nat) : Int) = (pre.length : Int) + 1 := by simp
      have e3 : ((s + x.p : Nat) : Int) = (T : Int) := by push_cast; exact hT
      rw [hnext.out.1, hnext.out.2, hU, e3, e2]
      exact hG12
    have hb4 := hG12.b4.set (.bool true)
    clear chain hnext hsp9 hG8 hG9 hG10 hG11 hG12 hG h98 h99 hH8 hH
    by_cases hlv : (pre.length : Int) + 1 = leave
    · have hlb : ((pre.length : Int) + 1 == leave) = true := by simpa using hlv
      have HL : Hid ((pre.length : Int) + 1 = leave) := hlv
      clear hlv
      gi_wp2
      exact ⟨(hko.trans (KeepsOthers.setCell _ _ _)).from _, rfl, hb4, hC1.setCell (by show w.heap.size ≤ w.heap.size + 1 + 1 + 1 + 1; omega) _⟩
    · have hlb : ((pre.length : Int) + 1 == leave) = false := by simpa using hlv
      gi_wp2
      exact ⟨hko.from _, hC2, hIn.out, hC1⟩
  case hdone =>
    rintro D ys W hD hlen ⟨hG, hB⟩ hK
    have e1 : ((ys.length : Nat) : Int) = (pl : Int) := by rw [hlen]
    rw [e1] at hG
    have k0 := hG.b0.cell
    have k5 := hG.b5.cell
    have k4 := hG.b4.cell
    have f4 := hG.b4.frozen
    gi_wp2
    have hb4 := hG.b4.set (.bool true)
    have hB2 : Below w.heap.size w (W.setCell ⟨w.heap.size + 1 + 1 + 1 + 1, 0, none⟩ (.bool true)) := hB.setCell (by show w.heap.size ≤ w.heap.size + 1 + 1 + 1 + 1; omega) _
    have hK2 := (KeepsOthers.setCell W ⟨w.heap.size + 1 + 1 + 1 + 1, 0, none⟩ (.bool true)).same D _ hK rfl
    refine ⟨by simp, .inl ⟨_, _, rfl, run_takeDeferred hK2, ?_⟩⟩
    have hb2 := (box_own hb4 (grownBy_putObj' _ D (.deferred none)) (fun r e => by cases e; exact ⟨_, hK2, rfl⟩)).cell
    exact ⟨_, results_bool (fn := Try.f34) rfl _ _ _ _ rfl hb2, rfl, below_grownBy (hB2.trans (belowK_b (w := w) (Nat.le_refl _) _ D _ _ (by omega) hK2 rfl rfl))⟩
  case hstop =>
    rintro D cd pre W hD _ ⟨rfl, hb4, hB⟩ hK
    gi_wp2
    refine ⟨by simp, .inl ⟨_, _, rfl, run_takeDeferred hK, ?_⟩⟩
    have hb2 := (box_own hb4 (grownBy_putObj' W D (.deferred none)) (fun r e => by cases e; exact ⟨_, hK, rfl⟩)).cell
    exact ⟨_, results_bool (fn := Try.f34) rfl _ _ _ _ rfl hb2, rfl, below_grownBy (hB.trans (belowK_b (w := w) (Nat.le_refl _) W D _ _ (by omega) hK rfl rfl))⟩
end Go.Proofs.Ytkcgpjmjaedlbaa
