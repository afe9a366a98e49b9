/-
  records: so many from an offset on.
-/
import Derived.Test.YtlghcboenkglnaaGreatDoorZbs
import Derived.WalkMore
namespace Go.Proofs.YtlghcboenkglnaaGreatDoor
open Go.RowKit Go.Shelf
set_option linter.unusedVariables false
attribute [local go_sem] Oper.semAt_some

theorem frame2 (l : List Value) (p q : Tmp) (a b : Value) : ((#[p, q] : Array Tmp).zip #[a, b]).foldl (fun t (p, v) => t.setIfInBounds p v) l.toArray = ((l.set p a).set q b).toArray := by
  simp
/-- What stands while records are gathered: the boxes of from, count, the results; and the records so far. -/
structure Gi (w : World) (q4 q5 q6 q7 q8 : Nat) (fr : Int) (ct : Nat) (D : List Rec.Dr) (n : Nat) (W : World) : Prop where
  b4 : W.heap[q4]? = some (.cells #[.int .i64 fr] 2)
  b5 : W.heap[q5]? = some (.cells #[.int .i64 ct] 2)
  b6 : W.heap[q6]? = some (.cells #[.slice none 0 0] 47)
  b7 : W.heap[q7]? = some (.cells #[.int .i64 0] 30)
  ex : ∃ ro rc rs, W.heap[q8]? = some (.cells #[.slice ro n rc] 47) ∧ Gt W w.heap.size ro n rc rs ∧ Rec.ds rs = D
  gr : w.grownBy W none
theorem Gi.own {w : World} {q4 q5 q6 q7 q8 : Nat} {fr : Int} {ct : Nat} {D : List Rec.Dr} {n : Nat} {W V : World} {row : Option Nat} (h : Gi w q4 q5 q6 q7 q8 fr ct D n W) (hg : W.grownBy V row) (hr : ∀ r, row = some r → w.heap.size ≤ r ∧ ∃ o : Obj, W.heap[r]? = some o ∧ o.isCells = false) : Gi w q4 q5 q6 q7 q8 fr ct D n V := by
  have hr2 := fun r e => (hr r e).2
  obtain ⟨ro, rc, rs, h1, h2, h3⟩ := h.ex
  exact ⟨heap_kept hg h.b4 (fun e => not_cell h.b4 hr2 e.symm), heap_kept hg h.b5 (fun e => not_cell h.b5 hr2 e.symm), heap_kept hg h.b6 (fun e => not_cell h.b6 hr2 e.symm), heap_kept hg h.b7 (fun e => not_cell h.b7 hr2 e.symm), ⟨ro, rc, rs, heap_kept hg h1 (fun e => not_cell h1 hr2 e.symm), h2.own hg hr2, h3⟩, grown_trans h.gr hg (fun k e => .inr (hr k e).1)⟩
theorem Btold.own {Q : List (Nat × Int × List Rec.Dr)} {pre : List Bx} {x : Bx} {W V : World} {row : Option Nat} (h : Btold Q pre x W) (hg : W.grownBy V row) (hr : ∀ r, row = some r → ∃ o : Obj, W.heap[r]? = some o ∧ o.isCells = false) : Btold Q pre x V :=
  ⟨h.1, h.2.1.cs (Rec.Cs.of_row hg hr), h.2.2.1.kept hg (fun k e hb => by
    obtain ⟨c, hc⟩ := hb
    exact not_cell hc hr e), h.2.2.2⟩
/-- A box turns: what was gathered stands. -/
theorem Gt.box {W V : World} {base : Nat} {ro : Option Addr} {n rc b : Nat} {rs : List Rec.Rc} {c : Array Value} {t : TypeId} (h : Gt W base ro n rc rs) (hc : Chg W V (fun k => k = b)) (hb : W.heap[b]? = some (.cells c t)) (h5 : t ≠ 5) (h148 : t ≠ 148) : Gt V base ro n rc rs := by
  have hg : W.grownBy V (some b) := ⟨hc.os, hc.tape, hc.output, hc.size, fun k hk hne => hc.block k hk (fun e => hne (by rw [e]))⟩
  have hby : ∀ k, some b = some k → ¬ Rec.ByR W k := fun k e hx => by
    obtain ⟨c2, hc2⟩ := hx
    cases e
    rw [hb] at hc2
    cases hc2
    exact h5 rfl
  refine ⟨h.rw.kept hg ?_, fun r hx => rk_kept (h.rk r hx) (h.nr r hx) hg hby, h.nr.kept hg hby⟩
  cases hk : blk ro with
  | none => exact .inl rfl
  | some k =>
    right
    rcases h.rw.row.2 with ⟨hv, _⟩ | ⟨g, c2, cur, hv, _, hg2, _⟩
    · cases hv
      cases hk
    · cases hv
      cases hk
      intro e
      cases e
      rw [hb] at hg2
      cases hg2
      exact h148 rfl
/-- The round's frame. -/
def Fm9 (q4 q5 q6 q7 q8 gx : Nat) (a : Act) : Prop := ∃ v0 v1 v2 v3 v9 v10 v13 v14 v15 v16 v17 v18 v19 v20 v21 v22 v23 v24 v25 v26 v27 v28 v29 v30 v31 v32 v33 v34 v35 v36 v37 v38 v39 v40 v41 v42 v43 v44 v45 v46 v47 v48 v49 v50 v51 v52 v53 v54 v55 v56 : Value, a = { tmps := #[v0, v1, v2, v3, .pointer (some ⟨q4, 0, none⟩), .pointer (some ⟨q5, 0, none⟩), .pointer (some ⟨q6, 0, none⟩), .pointer (some ⟨q7, 0, none⟩), .pointer (some ⟨q8, 0, none⟩), v9, v10, .pointer (some ⟨gx, 0, none⟩), .int .i64 0, v13, v14, v15, v16, v17, v18, v19, v20, v21, v22, v23, v24, v25, v26, v27, v28, v29, v30, v31, v32, v33, v34, v35, v36, v37, v38, v39, v40, v41, v42, v43, v44, v45, v46, v47, v48, v49, v50, v51, v52, v53, v54, v55, v56], defers := [] }
set_option maxRecDepth 100000 in
set_option maxHeartbeats 1000000 in
theorem batches111 (w : World) (f : Fi) (p : Int) : Calls Tryz.prog 111 #[f.val, .int .i64 p] w fun e w' => e = .returned (.func (.func 144) #[] #[.pointer (some ⟨w.heap.size + 1, 0, none⟩), .pointer (some ⟨w.heap.size, 0, none⟩)]) ∧ Lf w' w.heap.size 102 f ∧ w'.heap[w.heap.size + 1]? = some (.cells #[.int .i64 p] 3) ∧ w.grownBy w' none := by
  have hmf : ∀ (fn : Fn) (first cap : Array Value) (w : World), (Instr.makeFunc fn first cap).run Tryz.prog w = .ok (.func fn first cap) w := fun _ _ _ _ => rfl
  unfold Lf Fi.val Fi.cells
  obtain ⟨k, e, z, y, d, nm, ba, x⟩ := f
  dsimp only
  go_enter Tryz.func111, Tryz.ntmps111
  go_wp2
  go_ret
  have h1 := World.alloc_heap_new w (.cells #[.int .i64 k, .int .i64 e, .int .i64 z, .int .i64 y, .pointer (some ⟨d, 0, none⟩), .string nm, .int .i64 ba, .pointer (some ⟨x, 0, none⟩)] 102)
  have g1 := alloc_grown w (.cells #[.int .i64 k, .int .i64 e, .int .i64 z, .int .i64 y, .pointer (some ⟨d, 0, none⟩), .string nm, .int .i64 ba, .pointer (some ⟨x, 0, none⟩)] 102)
  have hs : (w.alloc (.cells #[.int .i64 k, .int .i64 e, .int .i64 z, .int .i64 y, .pointer (some ⟨d, 0, none⟩), .string nm, .int .i64 ba, .pointer (some ⟨x, 0, none⟩)] 102)).heap.size = w.heap.size + 1 := by simp
  generalize w.alloc (.cells #[.int .i64 k, .int .i64 e, .int .i64 z, .int .i64 y, .pointer (some ⟨d, 0, none⟩), .string nm, .int .i64 ba, .pointer (some ⟨x, 0, none⟩)] 102) = W at *
  have h2 := World.alloc_heap_new W (.cells #[.int .i64 p] 3)
  have g2 := alloc_grown W (.cells #[.int .i64 p] 3)
  exact ⟨rfl, heap_kept g2 h1 (by simp), by rw [← hs]; exact h2, grown_trans g1 g2 (by simp)⟩
section
variable {w w' : World} {i : Nat} {fs : List (Int × Int)} {st : Int} {T U : Nat → Prop} {L : List Dsk.Rf} {s : Nat} {f : Fi} {step : Int} {l : List Idx.Sd}
set_option maxRecDepth 100000 in
set_option maxHeartbeats 4000000 in
theorem records_any (hpv : Dsk.Pv w T f.d L fs st i) (hi : i ≤ 4000) (hX : Xu w U f.x step l) (hl5 : l.length ≤ 100000) (hD : Idx.Dt w) (h1 : 1 ≤ step) (hgood : Idx.Good l) (hsrt : Idx.Srt l) (fr : Int) (ct : Nat) (hct : 0 < ct)
    (sp : Idx.Sd) (hsp : (Idx.findR fr l).1 = sp) (Z0 : Nat) (hZ0 : sp.p = Z0) (b0 : Int) (K : Nat) (hK0 : fr = b0 + K) (B : List UInt8) (Q : List (Nat × Int × List Rec.Dr)) (hrd : ∀ a : Nat, a ≤ B.length → Dsk.readL L f.nm (a : Int) 65536 = ((B.drop a).take 65536, 0)) (hz : f.z = B.length) (hBl : B.length ≤ 16777216) (hch : Rec.Chn B Z0 Q) (hbs : Bases b0 Q) (hb0 : 0 ≤ b0 ∧ b0 ≤ 1000000000000000000) (hfl : (flat Q).length ≤ 1000000000)
    (hct2 : ct ≤ 100000) :
    Calls Tryz.prog 67 #[f.val, .int .i64 fr, .int .i64 ct] w fun e w' => ∃ ro n rc rs, e = .returned (.tuple #[.slice ro n rc, .int .i64 0]) ∧ Gt w' w.heap.size ro n rc rs ∧ Rec.ds rs = ((flat Q).drop K).take ct ∧ w.grownBy w' none := by
  have hfd := fun W (hW : w.grownBy W none) => Idx.find_any ((hX.grown hW).xd hl5) (hD.grown hW) h1 hgood hsrt fr
  rw [hsp] at hfd
  have hcz : ((ct : Int) == 0) = false := by simp; omega
  have HK : Hid (fr = b0 + K) := hK0
  clear hK0 hsp
  obtain ⟨k, e, z, y, d, nm, ba, x⟩ := f
  obtain ⟨so, sp⟩ := sp
  unfold Fi.val Fi.cells
  unfold Idx.Sd.val at hfd
  dsimp only at hfd hpv hX hrd hz hZ0 ⊢
  subst hz hZ0
  obtain ⟨W5, hW5, b3, b4, b5, b6, b7, hg5, hs5⟩ := five w (.cells #[.int .i64 k, .int .i64 e, .int .i64 (B.length : Nat), .int .i64 y, .pointer (some ⟨d, 0, none⟩), .string nm, .int .i64 ba, .pointer (some ⟨x, 0, none⟩)] 102) (.cells #[.int .i64 fr] 2) (.cells #[.int .i64 ct] 2) (.cells #[.slice none 0 0] 47) (.cells #[.int .i64 0] 30)
  refine (callsIn_wide (n := 5)).1 ?_
  refine callsIn_of_wp_marks Tryz.func67 rfl trivial ?_
  simp only [Tryz.ntmps67, List.size_toArray, List.length_cons, List.length_nil, Nat.reduceAdd, Nat.reduceSub, Array.replicate_succ, Array.replicate_zero, List.push_toArray, List.append_toArray, List.nil_append, List.cons_append]
  have c5 := cell_at b5 (i := 0)
  simp only [List.getElem?_toArray, List.getElem?_cons_zero] at c5
  gi_wp2_with fail
  rw [← hW5]
  have HS5 : Hid (W5.heap.size = w.heap.size + 1 + 1 + 1 + 1 + 1) := hs5
  clear hW5 hs5
  refine wpIn_wide.2 ?_
  apply wp_scope_straight
  obtain ⟨W6, hW6⟩ : ∃ W6, W5.alloc (.cells #[.slice none 0 0] 47) = W6 := ⟨_, rfl⟩
  have hg6 : W5.grownBy W6 none := by rw [← hW6]; exact alloc_grown _ _
  have b8 : W6.heap[W5.heap.size]? = some (.cells #[.slice none 0 0] 47) := by rw [← hW6]; exact World.alloc_heap_new _ _
  have p3 := heap_kept hg6 b3 (by simp)
  have p4 := heap_kept hg6 b4 (by simp)
  have p5 := heap_kept hg6 b5 (by simp)
  have p6 := heap_kept hg6 b6 (by simp)
  have p7 := heap_kept hg6 b7 (by simp)
  have hG6 := grown_trans hg5 hg6 (by simp)
  have c7 := cell_at p3 (i := 7)
  have c4 := cell_at p4 (i := 0)
  simp only [List.getElem?_toArray, List.getElem?_cons_zero, List.getElem?_cons_succ] at c7 c4
  clear b3 b4 b5 b6 b7
  go_wp2_with fail
  clear hW6
  refine (hfd _ hG6).mono ?_
  clear hfd
  rintro e9 w7 ⟨rfl, hg7⟩
  have ga := alloc_grown w7 (.cells #[.int .i64 so, .int .i64 Z0] 138)
  have b9 := World.alloc_heap_new w7 (.cells #[.int .i64 so, .int .i64 Z0] 138)
  have r3 := heap_kept ga (heap_kept hg7 p3 (by simp)) (by simp)
  have r4 := heap_kept ga (heap_kept hg7 p4 (by simp)) (by simp)
  have r5 := heap_kept ga (heap_kept hg7 p5 (by simp)) (by simp)
  have r6 := heap_kept ga (heap_kept hg7 p6 (by simp)) (by simp)
  have r7 := heap_kept ga (heap_kept hg7 p7 (by simp)) (by simp)
  have r8 := heap_kept ga (heap_kept hg7 b8 (by simp)) (by simp)
  have d0 := cell_at r3 (i := 0)
  have d1 := cell_at r3 (i := 1)
  have d2 := cell_at r3 (i := 2)
  have d3 := cell_at r3 (i := 3)
  have d4 := cell_at r3 (i := 4)
  have d5 := cell_at r3 (i := 5)
  have d6 := cell_at r3 (i := 6)
  have d7 := cell_at r3 (i := 7)
  have d9 := cell_at b9 (i := 1)
  simp only [List.getElem?_toArray, List.getElem?_cons_zero, List.getElem?_cons_succ] at d0 d1 d2 d3 d4 d5 d6 d7 d9
  clear c4 c7 c5 p3 p4 p5 p6 p7 b8
  go_wp2_with fail
  apply wp_label
  have hb1 := batches111 (w7.alloc (.cells #[.int .i64 so, .int .i64 Z0] 138)) ⟨k, e, (B.length : Nat), y, d, nm, ba, x⟩ Z0
  unfold Fi.val Fi.cells at hb1
  dsimp only at hb1
  go_wp2_with fail
  refine hb1.mono ?_
  clear hb1
  rintro e9 w8 ⟨rfl, h2b, h3b, hg8⟩
  go_wp2_with fail
  have hg9 := grown_trans (grown_trans hG6 hg7 (by simp)) (grown_trans ga hg8 (by simp)) (by simp)
  have e4 := heap_kept hg8 r4 (by simp)
  have e5 := heap_kept hg8 r5 (by simp)
  have e6 := heap_kept hg8 r6 (by simp)
  have e7 := heap_kept hg8 r7 (by simp)
  have e8 := heap_kept hg8 r8 (by simp)
  have hz3 := cell_at h3b (i := 0)
  simp only [List.getElem?_toArray, List.getElem?_cons_zero] at hz3
  have hs5 := HS5.out
  have hs7 := (grown_trans hg6 hg7 (by simp)).size
  have hl8 := lt_of_heap e8
  have hz2 : w7.heap.size + 1 = (w7.alloc (.cells #[.int .i64 so, .int .i64 Z0] 138)).heap.size := by simp
  rw [← hz2] at h2b h3b hz3
  have hit := iter_told (T := T) (L := L) (fs := fs) (st := st) (i := i) w.heap.size 4 (by decide) (w7.heap.size + 1 + 1) (w7.heap.size + 1) W5.heap.size Z0 ⟨k, e, (B.length : Nat), y, d, nm, ba, x⟩ B Q w8 hi hz3 h2b (by omega) hl8 (hpv.grown hg9) (fun k hk => ⟨hpv.lt k hk, by have := hpv.lt k hk; omega⟩) hrd rfl hBl hch
  clear hs5 hz2
  refine (wpIn_wide (n := 5)).1 ?_
  have hQ0 : (flat (Q.take 0)).drop K = [] := by simp [flat]
  apply wpIn_rangeFunc_fresh (encs := benc) (gx := fun x => x.g) (Tx := fun _ => Btold Q) (Kp := Rec.Kr w.heap.size W5.heap.size) (S := fun ys => ys.length = Q.length) (Sp := fun _ => True) (w0 := w8) rfl (by decide) (gf := 144) (lb := #[.pointer (some ⟨w7.heap.size + 1 + 1, 0, none⟩), .pointer (some ⟨w7.heap.size + 1, 0, none⟩)]) rfl trivial (enters_of Tryz.func144 (by kernel_rfl) rfl)
    hit (fun h h' => h.trans h')
    (fun W l o o' hl ho hc _ => ⟨rfl, rfl, rfl, by simp, fun k x hk hx hq _ => heap_kept (grownBy_putObj' W l o') hk (fun e => by
      obtain rfl : k = l := by simpa using e
      rw [ho] at hk
      cases hk
      rcases hx with hx | hx
      · rw [hc] at hx
        cases hx
      · have := hg9.size
        omega)⟩) (Below.refl _ _) (fun _ => rfl)
    (fun pre W => ∃ n, Gi w (w.heap.size + 1) (w.heap.size + 1 + 1) (w.heap.size + 1 + 1 + 1) (w.heap.size + 1 + 1 + 1 + 1) W5.heap.size fr ct ((flat (Q.take pre.length)).drop K) n W ∧ n < ct)
    (fun cd pre W => cd = .exit 0 ∧ ∃ n, Gi w (w.heap.size + 1) (w.heap.size + 1 + 1) (w.heap.size + 1 + 1 + 1) (w.heap.size + 1 + 1 + 1 + 1) W5.heap.size fr ct (((flat Q).drop K).take ct) n W)
    (fun s A V row hs hg hr => by
      obtain ⟨n, h1, h2⟩ := hs
      exact ⟨n, h1.own hg (fun r e => ⟨Nat.le_trans hg9.size (hr r e).1, (hr r e).2⟩), h2⟩)
    (fun cd s A V row hs hg hr => by
      obtain ⟨h0, n, h1⟩ := hs
      exact ⟨h0, n, h1.own hg (fun r e => ⟨Nat.le_trans hg9.size (hr r e).1, (hr r e).2⟩)⟩)
    ⟨0, ⟨e4, e5, e6, e7, ⟨none, 0, [], e8, Gt.nil _ _, hQ0.symm⟩, hg9⟩, hct⟩
    (fun pre x a' W => Btold Q pre x W ∧ ∃ gx, W.heap[gx]? = some (.cells #[.int .i64 x.b, .slice (some ⟨x.g, 0, none⟩) x.c x.c] 54) ∧ Fm9 (w.heap.size + 1) (w.heap.size + 1 + 1) (w.heap.size + 1 + 1 + 1) (w.heap.size + 1 + 1 + 1 + 1) W5.heap.size gx a' ∧ (∃ ro n rc, W.heap[W5.heap.size]? = some (.cells #[.slice ro n rc] 47) ∧ blk ro ≠ some x.g))
  case hAx =>
    rintro pre x a' _ A V row ⟨t1, gx, t2, t3, t4⟩ hg hr
    have hr2 := fun r e => (hr r e).2
    obtain ⟨ro, n, rc, t5, t6⟩ := t4
    exact ⟨t1.own hg hr2, gx, heap_kept hg t2 (fun e => not_cell t2 hr2 e.symm), t3, ro, n, rc, heap_kept hg t5 (fun e => not_cell t5 hr2 e.symm), t6⟩
  case hassign =>
    intro pre x W0 W K' hI0 hgn hgx hT9 hK'
    simp only [benc]
    have ga9 := alloc_grown W (.cells #[.int .i64 x.b, .slice (some ⟨x.g, 0, none⟩) x.c x.c] 54)
    have k9 := World.alloc_heap_new W (.cells #[.int .i64 x.b, .slice (some ⟨x.g, 0, none⟩) x.c x.c] 54)
    obtain ⟨n, hI0, hn⟩ := hI0
    rw [frame2]
    simp only [List.set_cons_zero, List.set_cons_succ]
    gi_wp2
    have hI9 := (hI0.own hgn (fun r e => by cases e)).own ga9 (fun r e => by cases e)
    obtain ⟨ro0, rc0, rs0, h8, h9, _⟩ := hI0.ex
    refine hK' _ _ ((KeepsOthers.alloc W _).from _) (Rec.Kr.of ga9) ⟨n, hI9, hn⟩ ⟨hT9.own ga9 (fun r e => by cases e), W.heap.size, k9, ?_, ro0, n, rc0, heap_kept (grown_trans hgn ga9 (by simp)) h8 (by simp), fun e => ?_⟩
    · exact ⟨_, _, _, _, _, _, _, _, _, _, _, _, _, _, _, _, _, _, _, _, _, _, _, _, _, _, _, _, _, _, _, _, _, _, _, _, _, _, _, _, _, _, _, _, _, _, _, _, _, _, rfl⟩
    · have := (h9.rw.from_base _ e).2
      omega
  case hbody =>
    rintro pre x a' W ⟨qq, hqq⟩ ⟨n, hI9, hn⟩ ⟨⟨⟨y9, hQy, hyb, hyd⟩, hRs, hNR, hxc⟩, gx, hgx, ⟨v0, v1, v2, v3, v9, v10, v13, v14, v15, v16, v17, v18, v19, v20, v21, v22, v23, v24, v25, v26, v27, v28, v29, v30, v31, v32, v33, v34, v35, v36, v37, v38, v39, v40, v41, v42, v43, v44, v45, v46, v47, v48, v49, v50, v51, v52, v53, v54, v55, v56, rfl⟩, ro0, n0, rc0, h80, hne⟩
    have x1 := cell_at hgx (i := 1)
    simp only [List.getElem?_toArray, List.getElem?_cons_zero, List.getElem?_cons_succ] at x1
    gi_wp2
    gi_loopw [13, 14, 36] (fun _ _ j' wr => ∃ (j n : Nat), j' = .int .i64 j ∧ j ≤ x.c ∧ Gi w (w.heap.size + 1) (w.heap.size + 1 + 1) (w.heap.size + 1 + 1 + 1) (w.heap.size + 1 + 1 + 1 + 1) W5.heap.size fr ct ((flat (Q.take pre.length) ++ (Rec.ds x.rs).take j).drop K) n wr ∧ n < ct ∧ Rec.Kr w.heap.size W5.heap.size W wr ∧ KeepsFrom w8.heap.size W wr ∧ Rec.Rs wr (some ⟨x.g, 0, none⟩) x.c x.c x.rs ∧ Rec.NR wr x.rs ∧ (∃ ro n rc, wr.heap[W5.heap.size]? = some (.cells #[.slice ro n rc] 47) ∧ blk ro ≠ some x.g)) (fun _ _ j' _ => x.c - (intOf j').toNat)
    case atStart =>
      exact ⟨0, n, rfl, Nat.zero_le _, by simpa using hI9, hn, Rec.Kr.refl _ _ _, (KeepsOthers.refl W).from _, hRs, hNR, ro0, n0, rc0, h80, hne⟩
    case round =>
      obtain ⟨j, n1, rfl, hj, hGi, hn1, hKr1, hKF1, hRs1, hNR1, ro9, n9, rc9, h81, hne1⟩ := hrel
      have hgq : gx ≠ W5.heap.size := fun e => by rw [e, h80] at hgx; cases hgx
      have hgx1 := hKr1.heap hgx hgq
      have hxl := hRs1.len
      have hgxl := lt_of_heap hgx1
      have hbx : x.b = b0 + ((flat (Q.take pre.length)).length : Nat) := by rw [← hyb]; exact hbs _ _ hQy
      have hfs : (flat (Q.take pre.length)).length + (flat (Q.drop pre.length)).length = (flat Q).length := by rw [flat_split Q pre.length, List.length_append]
      by_cases hlt : j < x.c
      · have hjl : j < x.rs.length := by omega
        obtain ⟨a1, a2, a3, ak⟩ := hRs1.at hjl
        simp only [Nat.zero_add] at a1 a2 a3
        have anr : Rec.NR wr [x.rs[j]] := fun r hr => by
          obtain rfl : r = x.rs[j] := by simpa using hr
          exact hNR1 _ (List.getElem_mem hjl)
        have hd : decide ((j : Int) < (x.c : Int)) = true := by simp; omega
        obtain ⟨ro, rc, rs, h8, h9, h10⟩ := hGi.ex
        have hst := drop_step (flat (Q.take pre.length)) (Rec.ds x.rs) K j (by rw [Rec.ds_len]; exact hjl)
        have hdr : (Rec.ds x.rs)[j]'(by rw [Rec.ds_len]; exact hjl) = (x.rs[j]).d := by simp [Rec.ds]
        rw [hdr] at hst
        have Hst : Hid _ := hst
        clear hst hdr
        have Hen : Hid (∀ P, P = flat (Q.take pre.length) ++ (Rec.ds x.rs).take (j + 1) → (P.drop K).length = ct → (P.drop K) = ((flat Q).drop K).take ct) := fun P e1 e2 => by
          have h11 := flat_round hQy hyd (j + 1)
          rw [← e1] at h11
          rw [h11, drop_enough P _ K ct e2 hct]
        generalize x.rs[j] = r at *
        obtain ⟨V1, hV1⟩ : ∃ V1, wr.alloc (.cells #[.int .i64 r.t, .slice r.ko r.kn r.kc, .slice r.vo r.vn r.vc] 148) = V1 := ⟨_, rfl⟩
        have g1 : wr.grownBy V1 none := by rw [← hV1]; exact alloc_grown _ _
        have k1 : V1.heap[wr.heap.size]? = some (.cells #[.int .i64 r.t, .slice r.ko r.kn r.kc, .slice r.vo r.vn r.vc] 148) := by rw [← hV1]; exact World.alloc_heap_new _ _
        have hGi1 := hGi.own g1 (fun r e => by cases e)
        have m4 := cell_at hGi1.b4 (i := 0)
        have m5 := cell_at hGi1.b5 (i := 0)
        have m8 := cell_at (heap_kept g1 h8 (by simp)) (i := 0)
        have mx := cell_at (heap_kept g1 hgx1 (by simp)) (i := 0)
        have n0 := cell_at k1 (i := 0)
        have n1' := cell_at k1 (i := 1)
        have n2' := cell_at k1 (i := 2)
        simp only [List.getElem?_toArray, List.getElem?_cons_zero, List.getElem?_cons_succ] at m4 m5 m8 mx n0 n1' n2'
        have hw : wrap64 (x.b + (j : Int)) = x.b + (j : Int) := wrap_in (by omega)
        have hps := past (j := j) HK.out hbx
        rw [← hw] at hps
        clear hw
        by_cases hge : K ≤ (flat (Q.take pre.length)).length + j
        · have hd2 := hps.1 hge
          clear hps
          clear hbx hfs
          obtain ⟨V2, hV2⟩ : ∃ V2, V1.alloc (.cells #[.int .i64 r.t, .slice r.ko r.kn r.kc, .slice r.vo r.vn r.vc] 148) = V2 := ⟨_, rfl⟩
          have g2 : V1.grownBy V2 none := by rw [← hV2]; exact alloc_grown _ _
          have k2 : V2.heap[V1.heap.size]? = some (.cells #[.int .i64 r.t, .slice r.ko r.kn r.kc, .slice r.vo r.vn r.vc] 148) := by rw [← hV2]; exact World.alloc_heap_new _ _
          have h9V := (h9.grown g1).grown g2
          have hV2s := (grown_trans g1 g2 (by simp)).size
          have hws := hGi.gr.size
          have q2 : ∀ (j : Nat) u, (Rec.rcells [r])[j]? = some u → V2.cell? ((⟨V1.heap.size, 0, none⟩ : Addr).add j) = some u := fun j u hu => by
            rw [Addr.add_lit, Nat.zero_add, cell_at k2]
            simpa [Rec.rcells, Rec.Rc.cells] using hu
          gi_wp2_with (gi_at_builtin; (refine wpListIn_append_recs _ rfl _ _ rfl w.heap.size ro n1 rc rs rfl h9V.rw [r] ⟨V1.heap.size, 0, none⟩ 1 1 rfl rfl q2 (by omega) (by omega) ?_))
          intro ro' rc' w2 hRw2 hg2 hat
          have hGt2 := h9V.more hRw2 hg2 (fun q hq => by
            obtain rfl : q = r := by simpa using hq
            exact (ak.grown g1).grown g2) ((anr.grown g1).grown g2)
          have hG2 := hGi1.own g2 (fun r e => by cases e)
          have b4w := heap_kept hg2 hG2.b4 (not_row h9V.rw hG2.b4 (by decide))
          have b5w := heap_kept hg2 hG2.b5 (not_row h9V.rw hG2.b5 (by decide))
          have b6w := heap_kept hg2 hG2.b6 (not_row h9V.rw hG2.b6 (by decide))
          have b7w := heap_kept hg2 hG2.b7 (not_row h9V.rw hG2.b7 (by decide))
          have b8V := heap_kept g2 (heap_kept g1 h8 (by simp)) (by simp)
          have b8w := heap_kept hg2 b8V (not_row h9V.rw b8V (by decide))
          obtain ⟨V3, i3, h3v, c3v⟩ := put1 (.slice ro' (n1 + 1) rc') b8w (i := 0) rfl
          simp only [List.setIfInBounds_toArray, List.set_cons_zero] at h3v
          have i4 := i3.symm
          have hq8 : w.heap.size + 1 + 1 + 1 + 1 < W5.heap.size := by have := HS5.out; omega
          have b4v := (c3v.block _ (lt_of_heap b4w) (by omega)).trans b4w
          have b5v := (c3v.block _ (lt_of_heap b5w) (by omega)).trans b5w
          have b6v := (c3v.block _ (lt_of_heap b6w) (by omega)).trans b6w
          have b7v := (c3v.block _ (lt_of_heap b7w) (by omega)).trans b7w
          have gw2 : w.grownBy w2 none := grown_trans hG2.gr hg2 (fun k e => .inr (row_cells h9V.rw e).1)
          have gV3 : w.grownBy V3 none := grown_trans gw2 (grown_box c3v) (fun k e => by cases e; exact .inr (by omega))
          have hKr3 : Rec.Kr w.heap.size W5.heap.size W V3 := hKr1.trans ((Rec.Kr.of (grown_trans g1 g2 (by simp))).trans (kr_round h9V.rw hg2 c3v))
          have hKF3 : KeepsFrom w8.heap.size W V3 := hKF1.trans (KeepsFrom.trans ⟨(grown_trans g1 g2 (by simp)).size, fun k o _ hk _ => heap_kept (grown_trans g1 g2 (by simp)) hk (by simp)⟩ (keeps_round _ h9V.rw hg2 c3v b8V))
          have hro : ro9 = ro := by
            rw [h8] at h81
            simp only [Option.some.injEq, Obj.cells.injEq, Array.mk.injEq, List.cons.injEq, Value.slice.injEq] at h81
            exact h81.1.1.1.symm
          have hxg : blk ro ≠ some x.g := by rw [← hro]; exact hne1
          have hxq : x.g ≠ W5.heap.size := rs_box hRs1 (Nat.lt_of_le_of_lt (Nat.zero_le _) hlt) h8
          have hNV := (hNR1.grown g1).grown g2
          have hNR3 : Rec.NR V3 x.rs := (hNV.kept hg2 (fun k e hb => row_of h9V.rw e hb.no)).kept (grown_box c3v) (fun k e => by cases e; exact not_byr b8w (by decide))
          have hRs3 : Rec.Rs V3 (some ⟨x.g, 0, none⟩) x.c x.c x.rs := rs_kept (rs_kept ((hRs1.grown g1).grown g2) hNV hg2 (fun k e => ⟨fun e2 => hxg (by rw [e, e2]), fun hb => row_of h9V.rw e hb.no⟩)) (hNV.kept hg2 (fun k e hb => row_of h9V.rw e hb.no)) (grown_box c3v) (fun k e => by cases e; exact ⟨fun e2 => hxq e2.symm, not_byr b8w (by decide)⟩)
          have hD3 : Rec.ds (rs ++ [r]) = (flat (Q.take pre.length) ++ (Rec.ds x.rs).take (j + 1)).drop K := by
            have h12 := Hst.out
            rw [if_pos hge] at h12
            rw [h12, ← h10]
            simp [Rec.ds]
          have hGi3 : Gi w (w.heap.size + 1) (w.heap.size + 1 + 1) (w.heap.size + 1 + 1 + 1) (w.heap.size + 1 + 1 + 1 + 1) W5.heap.size fr ct ((flat (Q.take pre.length) ++ (Rec.ds x.rs).take (j + 1)).drop K) (n1 + 1) V3 :=
            ⟨b4v, b5v, b6v, b7v, ⟨ro', rc', rs ++ [r], h3v, hGt2.box c3v b8w (by decide) (by decide), hD3⟩, gV3⟩
          have hne3 : blk ro' ≠ some x.g := fun e => by
            rcases hat with h12 | h12
            · exact hxg (by rw [← h12, e])
            · rw [h12] at e
              have h14 := Option.some.inj e
              have h13 := rs_lt hRs1 (Nat.lt_of_le_of_lt (Nat.zero_le _) hlt)
              omega
          have y8 := cell_at b8w (i := 0)
          have z8 := fz_at b8w 0
          have x8 := cell_at h3v (i := 0)
          have x5 := cell_at b5v (i := 0)
          simp only [List.getElem?_toArray, List.getElem?_cons_zero] at y8 x8 x5
          have HB := hid (And.intro hGi3 (And.intro hKr3 (And.intro hKF3 (And.intro hRs3 (And.intro hNR3 hne3)))))
          have HX := hid h3v
          clear hGi3 hKr3 hKF3 hRs3 hNR3 hne3 hat hNV hxq hxg gV3 gw2 hq8 b8w b8V hG2 q2 hws hV2s h9V
          clear hD3 b4v b6v b7v hGt2 hRw2 hro h81 h10 hV1 hV2
          by_cases hcq : n1 + 1 = ct
          · have hq2 : (((n1 : Int) + 1) == (ct : Int)) = true := int_eq hcq
            have HC : Hid (n1 + 1 = ct) := hcq
            clear i3 hcq
            gi_wp2_with fail
            obtain ⟨hGi3, hKr3, hKF3, _⟩ := HB.out
            have hln : ((flat (Q.take pre.length) ++ (Rec.ds x.rs).take (j + 1)).drop K).length = ct := by
              obtain ⟨ro2, rc2, rs2, _, e2, e3⟩ := hGi3.ex
              rw [← e3, Rec.ds_len, e2.rw.len]
              exact HC.out
            rw [Hen.out _ rfl hln] at hGi3
            exact ⟨hKF3, rfl, n1 + 1, hGi3⟩
          · have hq2 : (((n1 : Int) + 1) == (ct : Int)) = false := int_ne hcq
            have hlt9 : n1 + 1 < ct := Nat.lt_of_le_of_ne hn1 hcq
            clear i3 hcq
            gi_wp2_with fail
            obtain ⟨hGi3, hKr3, hKF3, hRs3, hNR3, hne3⟩ := HB.out
            exact ⟨⟨j + 1, n1 + 1, int_succ j, hlt, hGi3, hlt9, hKr3, hKF3, hRs3, hNR3, ro', n1 + 1, rc', HX.out, hne3⟩, meas_lt hlt⟩
        · have hd2 := hps.2 hge
          clear hps hbx hfs
          have hq2 : ((n1 : Int) == (ct : Int)) = false := int_ne0 hn1
          have hD3 : (flat (Q.take pre.length) ++ (Rec.ds x.rs).take (j + 1)).drop K = (flat (Q.take pre.length) ++ (Rec.ds x.rs).take j).drop K := by
            have h12 := Hst.out
            rw [if_neg hge] at h12
            exact h12
          have HD := hid hD3
          have h8V := heap_kept g1 h8 (by simp)
          have hro : blk ro ≠ some x.g := by
            rw [h8] at h81
            simp only [Option.some.injEq, Obj.cells.injEq, Array.mk.injEq, List.cons.injEq, Value.slice.injEq] at h81
            rw [h81.1.1.1]
            exact hne1
          have HX := hid h8V
          clear hD3 h81 h10
          gi_wp2_with fail
          rw [← HD.out] at hGi1
          exact ⟨⟨j + 1, n1, int_succ j, hlt, hGi1, hn1, hKr1.trans (Rec.Kr.of g1), hKF1.trans ⟨g1.size, fun k o _ hk _ => heap_kept g1 hk (by simp)⟩, hRs1.grown g1, hNR1.grown g1, ro, n1, rc, HX.out, hro⟩, meas_lt hlt⟩
      · have hjc : j = x.c := Nat.le_antisymm hj (Nat.le_of_not_lt hlt)
        have hd : decide ((j : Int) < (x.c : Int)) = false := by simp; omega
        have hD3 : flat (Q.take (pre ++ [x]).length) = flat (Q.take pre.length) ++ (Rec.ds x.rs).take j := by
          rw [List.length_append, List.length_singleton, flat_next hQy hyd, show (Rec.ds x.rs).take j = Rec.ds x.rs from List.take_of_length_le (by rw [Rec.ds_len]; omega)]
        have HD := hid hD3
        clear hD3 hjc hbx hfs
        gi_wp2_with fail
        refine ⟨hKF1, hKr1, n1, ?_, hn1⟩
        rw [HD.out]
        exact hGi
  case hdone =>
    rintro Dd xs W hDd hxs ⟨n, hI9, hn⟩ hDf
    rw [hxs, List.take_length] at hI9
    obtain ⟨ro, rc, rs, h8, h9, h10⟩ := hI9.ex
    have hres : Rec.ds rs = ((flat Q).drop K).take ct := by
      rw [h10, List.take_of_length_le]
      have h11 := congrArg List.length h10
      rw [Rec.ds_len, h9.rw.len] at h11
      omega
    have y8 := cell_at h8 (i := 0)
    have y6 := cell_at hI9.b6 (i := 0)
    have y7 := cell_at hI9.b7 (i := 0)
    simp only [List.getElem?_toArray, List.getElem?_cons_zero] at y6 y7 y8
    have z6 := fz_at hI9.b6 0
    have z7 := fz_at hI9.b7 0
    gi_wp2_with fail
    go_wp2
    have hD8 := hg9.size
    have l7 := lt_of_heap e7
    obtain ⟨V1, i1, h1v, c1v⟩ := put1 (.slice ro n rc) hI9.b6 (i := 0) rfl
    rw [← i1]
    have b7v := (c1v.block _ (lt_of_heap hI9.b7) (by omega)).trans hI9.b7
    obtain ⟨V2, i2, h2v, c2v⟩ := put1 (.int .i64 0) b7v (i := 0) rfl
    rw [← i2]
    clear i1 i2
    have hD1 := (c1v.block _ (lt_of_heap hDf) (by omega)).trans hDf
    have hD2 := (c2v.block _ (lt_of_heap hD1) (by omega)).trans hD1
    have b6v := (c2v.block _ (lt_of_heap h1v) (by omega)).trans h1v
    have hpo := grownBy_putObj' V2 Dd (.deferred none)
    have b6w := heap_kept hpo b6v (by simp; omega)
    have b7w := heap_kept hpo h2v (by simp; omega)
    have x6 := cell_at b6w (i := 0)
    have x7 := cell_at b7w (i := 0)
    have hgW : w.grownBy (V2.putObj Dd (.deferred none)) none := grown_trans (((Chg.of_grown hI9.gr (fun k => w.heap.size ≤ k)).trans ((c1v.mono (fun k _ e => by omega)).trans (c2v.mono (fun k _ e => by omega)))).grown (fun k hk e => by omega)) hpo (fun k e => by cases e; exact .inr (by omega))
    have hgt := ((h9.box c1v hI9.b6 (by decide) (by decide)).box c2v b7v (by decide) (by decide)).own hpo (fun r e => by cases e; exact ⟨_, hD2, rfl⟩)
    simp only [List.getElem?_toArray, List.getElem?_cons_zero, List.setIfInBounds_toArray, List.set_cons_zero] at x6 x7
    simp only [Exit.noGoto_ret]
    refine ⟨by simp, .inl ⟨_, _, rfl, run_takeDeferred hD2, ?_⟩⟩
    exact ⟨.tuple #[.slice ro n rc, .int .i64 0], by simp [results, Tryz.results67, go_sem, x6, x7], ro, n, rc, rs, rfl, hgt, hres, hgW⟩
  case hstop =>
    rintro Dd cd pre W hDd _ ⟨rfl, n, hI9⟩ hDf
    obtain ⟨ro, rc, rs, h8, h9, hres⟩ := hI9.ex
    have y8 := cell_at h8 (i := 0)
    have y6 := cell_at hI9.b6 (i := 0)
    have y7 := cell_at hI9.b7 (i := 0)
    simp only [List.getElem?_toArray, List.getElem?_cons_zero] at y6 y7 y8
    have z6 := fz_at hI9.b6 0
    have z7 := fz_at hI9.b7 0
    gi_wp2_with fail
    go_wp2
    have hD8 := hg9.size
    have l7 := lt_of_heap e7
    obtain ⟨V1, i1, h1v, c1v⟩ := put1 (.slice ro n rc) hI9.b6 (i := 0) rfl
    rw [← i1]
    have b7v := (c1v.block _ (lt_of_heap hI9.b7) (by omega)).trans hI9.b7
    obtain ⟨V2, i2, h2v, c2v⟩ := put1 (.int .i64 0) b7v (i := 0) rfl
    rw [← i2]
    clear i1 i2
    have hD1 := (c1v.block _ (lt_of_heap hDf) (by omega)).trans hDf
    have hD2 := (c2v.block _ (lt_of_heap hD1) (by omega)).trans hD1
    have b6v := (c2v.block _ (lt_of_heap h1v) (by omega)).trans h1v
    have hpo := grownBy_putObj' V2 Dd (.deferred none)
    have b6w := heap_kept hpo b6v (by simp; omega)
    have b7w := heap_kept hpo h2v (by simp; omega)
    have x6 := cell_at b6w (i := 0)
    have x7 := cell_at b7w (i := 0)
    have hgW : w.grownBy (V2.putObj Dd (.deferred none)) none := grown_trans (((Chg.of_grown hI9.gr (fun k => w.heap.size ≤ k)).trans ((c1v.mono (fun k _ e => by omega)).trans (c2v.mono (fun k _ e => by omega)))).grown (fun k hk e => by omega)) hpo (fun k e => by cases e; exact .inr (by omega))
    have hgt := ((h9.box c1v hI9.b6 (by decide) (by decide)).box c2v b7v (by decide) (by decide)).own hpo (fun r e => by cases e; exact ⟨_, hD2, rfl⟩)
    simp only [List.getElem?_toArray, List.getElem?_cons_zero, List.setIfInBounds_toArray, List.set_cons_zero] at x6 x7
    simp only [Exit.noGoto_ret]
    refine ⟨by simp, .inl ⟨_, _, rfl, run_takeDeferred hD2, ?_⟩⟩
    exact ⟨.tuple #[.slice ro n rc, .int .i64 0], by simp [results, Tryz.results67, go_sem, x6, x7], ro, n, rc, rs, rfl, hgt, hres, hgW⟩
end
end Go.Proofs.YtlghcboenkglnaaGreatDoor
