/-
  Rises: slices.AppendSeq and slices.Collect of All.
-/
import Derived.Test.YtmnfdiffneobpaaE2
namespace Go.Proofs.Ytmnfdiffneobpaa
open Go.RowKit Go.Shelf
set_option linter.unusedVariables false
attribute [local go_sem] Oper.semAt_some

theorem Chg.ext {w A B : World} {S : Nat → Prop} {row : Option Nat} (h : Chg w A S) (hg : A.grownBy B row) (hr : ∀ q, row = some q → w.heap.size ≤ q) : Chg w B S :=
  ⟨hg.os.trans h.os, hg.tape.trans h.tape, hg.output.trans h.output, Nat.le_trans h.size hg.size, fun k hk hn => (hg.block k (Nat.lt_of_lt_of_le hk h.size) (fun e => by have := hr k e.symm; omega)).trans (h.block k hk hn)⟩
theorem Chg.then' {w A B : World} {S T : Nat → Prop} (h : Chg w A S) (h2 : Chg A B T) (hT : ∀ q, T q → S q ∨ w.heap.size ≤ q) : Chg w B S :=
  ⟨h2.os.trans h.os, h2.tape.trans h.tape, h2.output.trans h.output, Nat.le_trans h.size h2.size, fun k hk hn => (h2.block k (Nat.lt_of_lt_of_le hk h.size) (fun e => by rcases hT k e with e | e; exact hn e; omega)).trans (h.block k hk hn)⟩
theorem Sw.cells {w : World} {base : Nat} {ao : Option Addr} {n cap : Nat} {l : List Sd} (h : Sw w base ao n cap l) (q : Nat) (hq : blk ao = some q) : ∃ cs t fr, w.heap[q]? = some (.cells cs t fr) := by
  rcases h.row.2 with ⟨hv, _⟩ | ⟨g, c, cur, hv, hg, r, r2⟩
  · cases hv; cases hq
  · cases hv
    cases hq
    exact ⟨_, _, _, r⟩
theorem KeepsFrom.of_chg' {B : Nat} {W V : World} {S : Nat → Prop} (hc : Chg W V S) (hS : ∀ k, S k → k < B ∨ ∃ cs t fr, W.heap[k]? = some (.cells cs t fr)) : KeepsFrom B W V :=
  ⟨hc.size, fun k o hB hk ho => (hc.block k (lt_of_heap hk) (fun e => by
    rcases hS k e with h | ⟨cs, t, fr, h⟩
    · omega
    · rw [hk] at h
      cases h
      cases ho)).trans hk⟩
/-- The body of the range over a function whose first region has this number. -/
def findBodyR (r : Nat) : Code → Option Code
  | .rangeFunc _ _ (.region id _ _) b => if id = r then some b else none
  | .seq a b => (findBodyR r a).or (findBodyR r b)
  | .cond _ a b => (findBodyR r a).or (findBodyR r b)
  | .block _ a => findBodyR r a
  | .loop a => findBodyR r a
  | .scope a => findBodyR r a
  | _ => none


theorem wpListIn_append_sds {F : Fence} {N : Nat} {w : World} {ops : Array Oper} {rest : List Oper} {o : Oper} {a : Act} {Q : Exit → Act → World → Prop} (hgd : o.guard = none) (hty : o.type = 33) (s x : Operand)
    (ho : o.op = .call { callee := .builtin .append, args := #[s, x], argTypes := #[33, 33] })
    (base : Nat) {ao : Option Addr} {n cap : Nat} {l : List Sd} (hs : a.eval s = .slice ao n cap) (hown : Sw w base ao n cap l)
    {xo : Option Addr} {m c : Nat} {k : List Sd} (hx : a.eval x = .slice xo m c) (hb : Ss w xo m k) (hc : xo = none → c = 0)
    (hsum : n + m ≤ 200000) (hbase : base ≤ w.heap.size)
    (h : ∀ ao' cap' w', Sw w' base ao' (n + m) cap' (l ++ k) → w.grownBy w' (blk ao) → ((ao' = ao ∧ cap' = cap) ∨ blk ao' = some w.heap.size) → Sw w' base ao n cap l → wpListIn F N Try.prog ops Q rest (a.put o.dst (.slice ao' (n + m) cap')) w') : wpListIn F N Try.prog ops Q (o :: rest) a w := by
  refine wpListIn_plain hgd fun K hK' => ?_
  obtain ⟨ao', cap', w', hrun, r1, r2, r3, r4⟩ := run_append_sds w base hown hb hc hsum hbase
  unfold Oper.wpIn
  refine ⟨?_, ?_⟩
  · simp [Oper.about, ho, resolve, Target.leads, Sem.run_pure]
  · rw [Oper.semAt_plain F _ _ (by rw [ho]; intro c hc'; cases hc')]
    simp [execOp, ho, resolve, invoke, builtin, hs, hx, hty, hrun, Result.andThen]
    exact hK' _ _ (h _ _ w' r1 r2 r3 r4)

theorem Sb.own {A B : World} {row : Option Nat} {g : Nat} {x y : Int} (h : Sb A g x y) (hg : A.grownBy B row) (hr : ∀ r, row = some r → ∃ o : Obj, A.heap[r]? = some o ∧ o.isCells = false) : Sb B g x y :=
  h.kept hg (fun e => by
    obtain ⟨o, h8, h7⟩ := hr g e.symm
    rw [show A.heap[g]? = _ from h] at h8
    cases h8
    cases h7)
/-- Between two rounds. -/
def BtwS (w9 : World) (z2 : Nat) (pre : List Sd) (W : World) : Prop :=
  ∃ po pc, Boxed W z2 33 (.slice po pre.length pc) ∧ Sw W w9.heap.size po pre.length pc pre ∧ Chg w9 W (fun q => q = z2)
theorem BtwS.own {w9 : World} {z2 : Nat} : OwnFrom w9.heap.size (BtwS w9 z2) := by
  rintro s A V row ⟨ro, rc, h1, h2, h3⟩ hg hr
  refine ⟨ro, rc, box_own h1 hg (fun r e => (hr r e).2), h2.chg (S := fun k => row = some k) ⟨hg.os, hg.tape, hg.output, hg.size, fun k hk hn => hg.block k hk (fun e => hn e.symm)⟩ (fun k hk e => ?_), h3.ext hg (fun q e => (hr q e).1)⟩
  obtain ⟨cs, t, fr, h9⟩ := h2.cells k hk
  obtain ⟨o, h8, h7⟩ := (hr k e).2
  rw [h9] at h8
  cases h8
  cases h7

set_option maxRecDepth 100000 in
set_option maxHeartbeats 4000000 in
theorem roundS {code : Code} (hcode : Try.f69.body.bind (findBodyR 2) = some code) (r : Nat) (w9 W : World) (z2 zf : Nat) (po : Option Addr) (pc : Nat) (pre : List Sd) (t : Sd)
    (b2 : Boxed W z2 33 (.slice po pre.length pc)) (hs : Sw W w9.heap.size po pre.length pc pre) (hB : w9.heap.size ≤ W.heap.size) (hz : z2 < w9.heap.size) (hf : Sb W zf t.o t.p) (hlen : pre.length ≤ 65536) (v0 v1 v3 v4 v6 v7 v8 v9 v10 v11 v12 : Value) :
    code.wpIn (Fence.wide.inRound r) 3 Try.prog (fun e _ V => e = .normal ∧ ∃ po' pc', Boxed V z2 33 (.slice po' (pre ++ [t]).length pc') ∧ Sw V w9.heap.size po' (pre ++ [t]).length pc' (pre ++ [t]) ∧ Chg W V (fun q => q = z2 ∨ blk po = some q)) { tmps := #[v0, v1, .pointer (some ⟨z2, 0, none⟩), v3, v4, .pointer (some ⟨zf, 0, none⟩), v6, v7, v8, v9, v10, v11, v12], defers := [] } W := by
  have hcode2 : ∃ code', Try.f69.body.bind (findBodyR 2) = some code' ∧ code'.wpIn (Fence.wide.inRound r) 3 Try.prog (fun e _ V => e = .normal ∧ ∃ po' pc', Boxed V z2 33 (.slice po' (pre ++ [t]).length pc') ∧ Sw V w9.heap.size po' (pre ++ [t]).length pc' (pre ++ [t]) ∧ Chg W V (fun q => q = z2 ∨ blk po = some q)) { tmps := #[v0, v1, .pointer (some ⟨z2, 0, none⟩), v3, v4, .pointer (some ⟨zf, 0, none⟩), v6, v7, v8, v9, v10, v11, v12], defers := [] } W := by
    refine ⟨_, rfl, ?_⟩
    have k2 := b2.cell
    have c0 := hf.c0
    have c1 := hf.c1
    have ga := alloc_grown W (.cells #[.int .i64 t.o, .int .i64 t.p] 64)
    have kf := (Sb.new W t.o t.p).shows
    have hs1 := hs.chg (Chg.of_grown ga (fun _ => False)) (fun _ _ e => e)
    gi_wp2_with (gi_at_builtin; (refine wpListIn_append_sds rfl rfl _ _ rfl w9.heap.size rfl hs1 rfl kf (by simp) (by omega) (by simp; omega) ?_))
    intro po' pc' w3 hs3 hg3 hat _
    have hc3 : Chg (W.alloc (.cells #[.int .i64 t.o, .int .i64 t.p] 64)) w3 (fun q => blk po = some q) := ⟨hg3.os, hg3.tape, hg3.output, hg3.size, fun q hq hn => hg3.block q hq (fun e => hn e.symm)⟩
    have hC3 : Chg W w3 (fun q => q = z2 ∨ blk po = some q) := (Chg.of_grown ga _).trans (hc3.mono (fun q _ e => Or.inr e))
    have hzr : blk po ≠ some z2 := hs.not64 b2 (by decide)
    have b3 : Boxed w3 z2 33 (.slice po pre.length pc) := (hc3.block z2 (by simp; have := b2.lt; omega) hzr).trans (box_own b2 ga (fun r e => by cases e))
    have q3 := b3.cell
    have f3 := b3.frozen
    have b4 := b3.set (.slice po' (pre.length + 1) pc')
    have hc4 := setCell_chg w3 z2 0 (.slice po' (pre.length + 1) pc')
    have hs4 := hs3.chg hc4 (fun k hk e => by have := (hs3.from_base k hk).1; omega)
    have hC4 := hC3.trans (hc4.mono (fun q _ e => Or.inl e))
    clear b3 hs3 hC3 hc3 hc4 hs1 ga kf hg3 hf hs b2
    gi_wp2
    exact ⟨po', pc', b4, hs4⟩
  obtain ⟨code', h1, h2⟩ := hcode2
  rw [hcode] at h1
  cases h1
  exact h2

set_option maxRecDepth 100000 in
set_option maxHeartbeats 4000000 in
theorem seq_any (w : World) (z : Nat) (ro : Option Addr) (n rc : Nat) (l : List Sd) (hz : Boxed w z 33 (.slice ro n rc)) (hs : Sw w 0 ro n rc l) (hn : n ≤ 65536) :
    Calls Try.prog 69 #[.slice none 0 0, .func (.func 63) #[] #[.pointer (some ⟨z, 0, none⟩)]] w fun e w' => ∃ ro' rc', e = .returned (.slice ro' n rc') ∧ Sw w' w.heap.size ro' n rc' l ∧ w.grownBy w' none := by
  have hbx := Boxed.new w 33 (.slice none 0 0)
  have hg := alloc_grown w (.cells #[.slice none 0 0] 33)
  have hz1 := box_own hz hg (fun r e => by cases e)
  have hs1 := hs.chg (Chg.of_grown hg (fun _ => False)) (fun _ _ e => e)
  have hlen := hs.len
  have hzl := hz.lt
  have hrl : ∀ k, blk ro = some k → k < w.heap.size := fun k e => (hs.from_base k e).2
  refine (callsIn_wide (n := 5)).1 ?_
  refine callsIn_of_wp_marks Try.func69 rfl trivial ?_
  simp only [Try.ntmps69, List.size_toArray, List.length_cons, List.length_nil, Nat.reduceAdd, Nat.reduceSub, Array.replicate_succ, Array.replicate_zero, List.push_toArray, List.append_toArray, List.nil_append, List.cons_append]
  gi_wp2_with fail
  have hsz : (w.alloc (.cells #[.slice none 0 0] 33)).heap.size = w.heap.size + 1 := by simp
  generalize w.alloc (.cells #[.slice none 0 0] 33) = w1 at *
  have hKl : ∀ q, (q = z ∨ blk ro = some q) → q < w.heap.size := fun q e => by
    rcases e with rfl | e
    · exact hzl
    · exact hrl q e
  apply wpIn_rangeFunc_told (α := Sd) (encs := fun t => #[t.val]) (Kp := Stay (fun q => q = z ∨ blk ro = some q)) (w0 := w1) rfl (by decide) (gf := 63) (lb := #[.pointer (some ⟨z, 0, none⟩)]) rfl trivial (enters_of Try.func63 (by kernel_rfl) rfl)
    (all1_stay 4 (by decide) w1 z 0 (fun q => q = z ∨ blk ro = some q) ro n rc l hz1 hs1 (Or.inl rfl) (fun q e => Or.inr e) (fun q e => by have := hKl q e; omega) (by omega)) (fun h1 h2 => h1.trans h2)
    (fun W q o1 o2 hq h1 h2 h3 => ⟨by simp, fun i hi => World.putObj_heap_other (by have := hKl i hi; omega)⟩) (Below.refl _ _) (fun t => rfl)
    (BtwS w1 w.heap.size)
    (fun _ _ _ => False)
    BtwS.own
    (fun cd s A V row hs hg hr => hs.elim)
    ⟨none, 0, hbx, Sw.nil _ _, Chg.refl _ _⟩
    (fun pre t a' W => l[pre.length]? = some t ∧ ∃ zf, Sb W zf t.o t.p ∧ ∃ v0 v1 v3 v4 v6 v7 v8 v9 v10 v11 v12 : Value, a' = { tmps := #[v0, v1, .pointer (some ⟨w.heap.size, 0, none⟩), v3, v4, .pointer (some ⟨zf, 0, none⟩), v6, v7, v8, v9, v10, v11, v12], defers := [] })
  case hAx =>
    rintro pre t a' _ A V row ⟨t1, zf, t2, t3⟩ hg hr
    exact ⟨t1, zf, t2.own hg (fun r e => (hr r e).2), t3⟩
  case hassign =>
    intro pre t W K hI hT hK
    simp only [Sd.val]
    have ga := alloc_grown W (.cells #[.int .i64 t.o, .int .i64 t.p] 64)
    have kf := Sb.new W t.o t.p
    have hI2 := BtwS.own pre _ _ none hI ga (fun q e => by cases e)
    have hst : Stay (fun q => q = z ∨ blk ro = some q) W (W.alloc (.cells #[.int .i64 t.o, .int .i64 t.p] 64)) := Stay.grown ga (fun q hq => by obtain ⟨_, _, _, _, hc⟩ := hI; have := hKl q hq; have := hc.size; omega)
    clear hI
    gi_wp2
    exact hK _ _ ((KeepsOthers.alloc W _).from _) hst hI2 ⟨hT, _, kf, _, _, _, _, _, _, _, _, _, _, _, rfl⟩
  case hbody =>
    rintro pre t a' W hq ⟨po, pc, j1, j2, j3⟩ ⟨t1, zf, t2, v0, v1, v3, v4, v6, v7, v8, v9, v10, v11, v12, rfl⟩
    have hpl : pre.length < l.length := (List.getElem?_eq_some_iff.1 t1).1
    refine wpIn_mono (roundS (by kernel_rfl) _ w1 W w.heap.size zf po pc pre t j1 j2 j3.size (by omega) t2 (by omega) _ _ _ _ _ _ _ _ _ _ _) ?_
    rintro e a'' V ⟨rfl, po', pc', r1, r2, r3⟩
    refine ⟨KeepsFrom.of_chg' r3 (fun q e => ?_), Stay.chg r3 (fun q e => by have := hKl q e; have := j3.size; omega) (fun q e h9 => ?_), po', pc', r1, r2, ?_⟩
    · rcases e with e | e
      · left; omega
      · right; exact j2.cells q e
    · have := hKl q e
      rcases h9 with h9 | h9
      · omega
      · have := (j2.from_base q h9).1; omega
    · exact j3.then' r3 (fun q e => by
        rcases e with e | e
        · exact Or.inl e
        · exact Or.inr (j2.from_base q e).1)
  case hstop =>
    intro Dd c pre W _ _ hf
    exact hf.elim
  case hdone =>
    rintro D1 xs W hD1 hxs ⟨po, pc, j1, j2, j3⟩ hK1
    subst hxs
    have kz := j1.cell
    have hpo := grownBy_putObj' W D1 (.deferred none)
    have j2' := (j2.rebase (by omega : w.heap.size ≤ w1.heap.size)).kept hpo (by
      cases hq : blk po with
      | none => exact .inl rfl
      | some q =>
        right
        intro e
        cases e
        obtain ⟨cs, t, fr, h9⟩ := j2.cells D1 hq
        rw [hK1] at h9
        cases h9)
    have hgf : w.grownBy W none := ((Chg.of_grown hg _).trans j3).grown (fun q hq e => by omega)
    have hgf' := grown_trans hgf hpo (fun k e => Or.inr (by cases e; omega))
    rw [hlen] at j2'
    gi_wp2_with fail
    refine ⟨by simp, .inl ⟨_, _, rfl, run_takeDeferred hK1, ?_⟩⟩
    exact ⟨_, results_tmp rfl _ _ _, po, pc, rfl, j2', hgf'⟩

section
variable {w w' : World} {b : Nat} {bs en : Int} {ro : Option Addr} {rc : Nat} {l : List Sd}
set_option maxRecDepth 100000 in
theorem rises_any (h : Xd w b ro rc bs en l) : Calls Try.prog 27 #[.pointer (some ⟨b, 0, none⟩)] w fun e w' => ∃ ro' rc', e = .returned (.slice ro' l.length rc') ∧ Sw w' w.heap.size ro' l.length rc' l ∧ w.grownBy w' none := by
  go_enter Try.func27, Try.ntmps27
  go_wp2_with fail
  refine (all_any h).mono ?_
  rintro e w1 ⟨rfl, hb1, hg1⟩
  have hse := seq_any w1 w.heap.size ro l.length rc l hb1 (h.grown hg1).sw h.few
  have hco : Calls Try.prog 62 #[.func (.func 63) #[] #[.pointer (some ⟨w.heap.size, 0, none⟩)]] w1 fun e w' => ∃ ro' rc', e = .returned (.slice ro' l.length rc') ∧ Sw w' w1.heap.size ro' l.length rc' l ∧ w1.grownBy w' none := by
    go_enter Try.func62, Try.ntmps62
    go_wp2_with fail
    refine hse.mono ?_
    rintro e w2 ⟨ro', rc', rfl, h2, hg2⟩
    go_wp2
    go_ret
    exact ⟨ro', rc', rfl, h2, hg2⟩
  clear hse
  go_wp2_with fail
  refine hco.mono ?_
  rintro e w2 ⟨ro', rc', rfl, h2, hg2⟩
  have hG := grown_trans hg1 hg2 (by simp)
  go_wp2
  go_ret
  exact ⟨ro', rc', rfl, h2.rebase hg1.size, hG⟩
end
end Go.Proofs.Ytmnfdiffneobpaa
