/-
  An index and the document's, side by side: each call on both.
-/
import Derived.Test.YtbnoemfhcpjdjaaDoorT2
import Derived.Test.YtbnoemfhcpjdjaaDoorB7
namespace Go.Proofs.YtbnoemfhcpjdjaaDoor
open Go.RowKit
set_option linter.unusedVariables false

theorem Puts.add {st : Int} {l : List Sd} (h : Puts st l) (s : Sd) : Puts st (addR st l s).2.2 := by
  by_cases hb : badB l s = true
  · unfold addR; rw [if_pos hb]; exact h
  · by_cases hn : nearB st l s = true
    · unfold addR; rw [if_neg hb, if_pos hn]; exact h
    · have he : addR st l s = (true, 0, l ++ [s]) := by unfold addR; rw [if_neg hb, if_neg hn]
      rw [he]
      exact h.snoc he
theorem Puts.cut {st : Int} {l : List Sd} (h : Puts st l) (c : Nat) : Puts st (l.take c) := by
  intro k hk
  have hk2 : k < c ∧ k < l.length := by simp at hk; omega
  have e := h k hk2.2
  rw [List.take_take, Nat.min_eq_left (by omega), List.take_take, Nat.min_eq_left (by omega), List.getElem_take]
  exact e
theorem Srt.add {st : Int} {l : List Sd} (h : Srt l) (s : Sd) : Srt (addR st l s).2.2 := by
  by_cases hb : badB l s = true
  · unfold addR; rw [if_pos hb]; exact h
  · by_cases hn : nearB st l s = true
    · unfold addR; rw [if_neg hb, if_pos hn]; exact h
    · have he : addR st l s = (true, 0, l ++ [s]) := by unfold addR; rw [if_neg hb, if_neg hn]
      rw [he]
      rw [Bool.not_eq_true] at hb
      unfold badB risesB at hb
      simp only [Bool.or_eq_false_iff, Bool.not_eq_false', Bool.and_eq_true, decide_eq_true_eq] at hb
      exact last_max h hb.1.1.1 hb.1.1.2

section
variable {w w' : World} {base b : Nat} {st : Int} {l : List Sd}
set_option maxRecDepth 100000 in
set_option maxHeartbeats 1000000 in
theorem cut_anyL {ro : Option Addr} {rc : Nat} (hi0 : Ix w b st ro l.length rc) (hr0 : Sw w base ro l.length rc l) (hge : base ≤ b) (hlen : l.length ≤ 100000) (h1 : 1 ≤ st) (hsrt : Srt l) (n : Int) : Calls Tryd.prog 16 #[.pointer (some ⟨b, 0, none⟩), .int .i64 n] w fun e w' => e = .returned (.int .i64 ((l.length - cutR n l : Nat) : Int)) ∧ Ix w' b st ro (l.take (cutR n l)).length rc ∧ Sw w' base ro (l.take (cutR n l)).length rc (l.take (cutR n l)) ∧ Chg w w' (fun k => k = b) := by
  have h : Xd w base b st l := ⟨⟨ro, rc, hi0, hr0⟩, hge, hlen⟩
  have hmf := hmf
  have hg := alloc_grown w (.cells #[.int .i64 n] 3)
  have hz := (Boxed.new w 3 (.int .i64 n)).cell
  have hma : Calls Tryd.prog 26 _ _ _ := made_yes (st := st) (b := b) (w := w.alloc (.cells #[.int .i64 n] 3)) (by obtain ⟨⟨_, _, hi, _⟩, _, _⟩ := h.grown hg; exact hi.c0) h1
  have hco := count_any (h.grown hg) 33 w.heap.size (fun s => decide (n ≤ s.p)) (fun W s hW => clo33 W s _ n (hW.cell hz (by simp))) (enters_of Tryd.func33 (by kernel_rfl) rfl) (mono_of (pB := fun s => decide (n ≤ s.p)) hsrt (fun s t _ h1 h2 => by simp at h2 ⊢; omega))
  rw [show cnt (fun s => decide (n ≤ s.p)) l = cutR n l from rfl] at hco
  have hkl : cutR n l ≤ l.length := cnt_le _ _
  generalize cutR n l = k at *
  go_enter Tryd.func16, Tryd.ntmps16
  go_wp2_with fail
  refine hma.mono ?_
  rintro e w1 ⟨rfl, rfl⟩
  go_wp2_with fail
  generalize w.alloc (.cells #[.int .i64 n] 3) = w1 at *
  refine hco.mono ?_
  rintro e w2 ⟨rfl, hg2⟩
  have hG2 := grown_trans hg hg2 (by simp)
  have hi := hi0.chg (Chg.of_grown hG2 (fun _ => False)) (fun e => e)
  have hr := hr0.chg (Chg.of_grown hG2 (fun _ => False)) (fun _ _ e => e)
  have c1 := hi.c1
  have f1 := hi.fz 1
  have hroom : l.length ≤ rc := by
    rcases hr.row.2 with ⟨hv, h0⟩ | ⟨g, cap, cur, hv, hb, hg, hn, hm, hs, ht⟩
    · omega
    · simp only [Value.slice.injEq] at hv
      obtain ⟨_, _, rfl⟩ := hv
      exact hn
  have hS := setCell_chg w2 b 1 (.slice ro k rc)
  have hl : (l.take k).length = k := by simp; omega
  have hX1 : Ix (w2.setCell ⟨b, 1, none⟩ (.slice ro k rc)) b st ro (l.take k).length rc := by rw [hl]; exact hi.set ro k rc
  have hX2 : Sw (w2.setCell ⟨b, 1, none⟩ (.slice ro k rc)) base ro (l.take k).length rc (l.take k) := by rw [hl]; exact (hr.take k hkl).chg hS (fun q hq e => hr.not59 hi (by decide) (by rw [hq, e]))
  have hC : Chg w (w2.setCell ⟨b, 1, none⟩ (.slice ro k rc)) (fun q => q = b) := (Chg.of_grown hG2 _).trans hS
  have i1 : (0 : Int) ≤ (k : Int) := by omega
  have i2 : (k : Int) ≤ (rc : Int) := by omega
  have i3 : (k : Int) ≤ (l.length : Int) := by omega
  have hwr : IntKind.i64.wrap ((l.length : Int) - (k : Int)) = ((l.length - k : Nat) : Int) := by rw [IntWalk.i64_in _ (by omega)]; omega
  have q1 : Hid _ := hX1
  have q2 : Hid _ := hX2
  clear hX1 hX2 hi hr hS hl hma hco h hi0 hr0 hz
  go_wp2
  go_ret
  exact ⟨rfl, q1.out, q2.out, hC⟩
end

/-- Steps of a script stay. -/
def K35 (w w' : World) : Prop := ∀ (k : Nat) (cs : Array Value) (fr : Nat × Nat), w.heap[k]? = some (.cells cs 35 fr) → w'.heap[k]? = some (.cells cs 35 fr)
theorem K35.of {w w' : World} {S : Nat → Prop} (hc : Chg w w' S) (hS : ∀ k, S k → ∃ cs t fr, w.heap[k]? = some (.cells cs t fr) ∧ t ≠ 35) : K35 w w' := fun k cs fr hk => (hc.block k (lt_of_heap hk) (fun e => by
  obtain ⟨cs2, t, fr2, h1, h2⟩ := hS k e
  rw [hk] at h1
  cases h1
  exact h2 rfl)).trans hk
theorem K35.grown {w w' : World} (hg : w.grownBy w' none) : K35 w w' := fun k cs fr hk => heap_kept hg hk (by simp)
theorem K35.trans {a b c : World} (h : K35 a b) (h2 : K35 b c) : K35 a c := fun k cs fr hk => h2 k cs fr (h k cs fr hk)
theorem Sw.ty33 {w : World} {base : Nat} {ao : Option Addr} {n cap : Nat} {l : List Sd} (h : Sw w base ao n cap l) {k : Nat} (hk : blk ao = some k) : ∃ cs t fr, w.heap[k]? = some (.cells cs t fr) ∧ t ≠ 35 := by
  rcases h.row.2 with ⟨hv, _⟩ | ⟨g, c, cur, hv, hg, r, r2⟩
  · cases hv; cases hk
  · cases hv
    cases hk
    exact ⟨_, _, _, r, by decide⟩
theorem Ix.ty {w : World} {b : Nat} {st : Int} {ro : Option Addr} {n rc : Nat} (h : Ix w b st ro n rc) : ∃ cs t fr, w.heap[b]? = some (.cells cs t fr) ∧ t ≠ 35 := ⟨_, _, _, h, by decide⟩
theorem Rx.ty {w : World} {b : Nat} {st : Int} {ro : Option Addr} {n rc : Nat} (h : Rx w b st ro n rc) : ∃ cs t fr, w.heap[b]? = some (.cells cs t fr) ∧ t ≠ 35 := ⟨_, _, _, h, by decide⟩

/-- Both, with rows that lie apart, in blocks from B on. -/
structure Tw (w : World) (B bx rb st : Nat) (l : List Sd) : Prop where
  ex : ∃ ro rc go gc, Ix w bx st ro l.length rc ∧ Sw w B ro l.length rc l ∧ Rx w rb st go l.length gc ∧ Sw w B go l.length gc l ∧ ∀ q, blk ro = some q → blk go = some q → False
  gx : B ≤ bx
  gr : B ≤ rb
theorem ix_rx {w : World} {b rb : Nat} {st st2 : Int} {ro go : Option Addr} {n m rc gc : Nat} (h : Ix w b st ro n rc) (h2 : Rx w rb st2 go m gc) : b ≠ rb := by
  intro e
  subst e
  unfold Ix at h
  unfold Rx at h2
  rw [h] at h2
  simp at h2
theorem Tw.x {w : World} {B bx rb st : Nat} {l : List Sd} (h : Tw w B bx rb st l) (hl : l.length ≤ 100000) : Xd w B bx st l := by
  obtain ⟨ro, rc, go, gc, h1, h2, _⟩ := h.ex
  exact ⟨⟨ro, rc, h1, h2⟩, h.gx, hl⟩
theorem Tw.r {w : World} {B bx rb st : Nat} {l : List Sd} (h : Tw w B bx rb st l) : Ry w B rb st l := by
  obtain ⟨ro, rc, go, gc, _, _, h1, h2, _⟩ := h.ex
  exact ⟨go, gc, h1, h2⟩
theorem Tw.chg {w w' : World} {B bx rb st : Nat} {l : List Sd} {S : Nat → Prop} (h : Tw w B bx rb st l) (hc : Chg w w' S) (hS : ∀ k, B ≤ k → k < w.heap.size → ¬ S k) : Tw w' B bx rb st l := by
  obtain ⟨ro, rc, go, gc, h1, h2, h3, h4, h5⟩ := h.ex
  refine ⟨⟨ro, rc, go, gc, h1.chg hc (hS _ h.gx h1.lt), h2.chg hc (fun k hk => hS k (h2.from_base k hk).1 (h2.from_base k hk).2), ?_, h4.chg hc (fun k hk => hS k (h4.from_base k hk).1 (h4.from_base k hk).2), h5⟩, h.gx, h.gr⟩
  exact (hc.block rb (lt_of_heap h3) (hS _ h.gr (lt_of_heap h3))).trans h3
theorem Tw.grown {w w' : World} {B bx rb st : Nat} {l : List Sd} (h : Tw w B bx rb st l) (hg : w.grownBy w' none) : Tw w' B bx rb st l := h.chg (Chg.of_grown hg (fun _ => False)) (fun _ _ _ e => e)

/-- Bytes are written. -/
theorem Tw.bytes {w w' : World} {B bx rb st : Nat} {l : List Sd} {S : Nat → Prop} (h : Tw w B bx rb st l) (hc : Chg w w' S) (hS : ∀ k, S k → T5 w k) : Tw w' B bx rb st l := by
  obtain ⟨ro, rc, go, gc, h1, h2, h3, h4, h5⟩ := h.ex
  have n5 : ∀ k, S k → ∃ cs t fr, w.heap[k]? = some (.cells cs t fr) ∧ t = 5 := fun k e => by
    obtain ⟨cs, fr, h⟩ := hS k e
    exact ⟨cs, 5, fr, h, rfl⟩
  have not : ∀ {k : Nat} {cs : Array Value} {t : TypeId} {fr : Nat × Nat}, w.heap[k]? = some (.cells cs t fr) → t ≠ 5 → ¬ S k := fun hk ht e => by
    obtain ⟨cs2, t2, fr2, h6, h7⟩ := n5 _ e
    rw [hk] at h6
    cases h6
    exact ht h7
  have row : ∀ {ao : Option Addr} {n cap : Nat}, Sw w B ao n cap l → ∀ k, blk ao = some k → ¬ S k := fun hs k hk e => by
    obtain ⟨cs2, t2, fr2, h6, h7⟩ := n5 _ e
    subst h7
    exact hs.not59 h6 (by decide) hk
  exact ⟨⟨ro, rc, go, gc, h1.chg hc (not h1 (by decide)), h2.chg hc (row h2), (hc.block rb (lt_of_heap h3) (not h3 (by decide))).trans h3, h4.chg hc (row h4), h5⟩, h.gx, h.gr⟩

/-- The index is another one, in new blocks. -/
theorem Tw.turn {w w' : World} {B B2 bx rb st bx2 : Nat} {l : List Sd} (h : Tw w B bx rb st l) (hg : w.grownBy w' none) (hX : Xd w' B2 bx2 st l) (hB : B ≤ w.heap.size) (hB2 : w.heap.size ≤ B2) : Tw w' B bx2 rb st l := by
  obtain ⟨ro, rc, go, gc, h1, h2, h3, h4, h5⟩ := (h.grown hg).ex
  obtain ⟨⟨ro2, rc2, k1, k2⟩, k3, _⟩ := hX
  refine ⟨⟨ro2, rc2, go, gc, k1, k2.rebase (Nat.le_trans hB hB2), h3, h4, fun q hq hq2 => ?_⟩, by omega, h.gr⟩
  obtain ⟨ro0, rc0, go0, gc0, _, _, m3, m4, _⟩ := h.ex
  have e3 : Rx w' rb st go0 l.length gc0 := heap_kept hg m3 (by simp)
  unfold Rx at h3 e3
  rw [h3] at e3
  simp at e3
  have h9 := (m4.from_base q (by rw [← e3.1]; exact hq2)).2
  have := (k2.from_base q hq).1
  omega

/-- Add on the index: then the document's is as it was. -/
structure Mid (w : World) (B bx rb st : Nat) (l l2 : List Sd) : Prop where
  ex : ∃ ro rc go gc, Ix w bx st ro l2.length rc ∧ Sw w B ro l2.length rc l2 ∧ Rx w rb st go l.length gc ∧ Sw w B go l.length gc l ∧ ∀ q, blk ro = some q → blk go = some q → False
  gx : B ≤ bx
  gr : B ≤ rb
theorem add_tw {w : World} {B bx rb st : Nat} {l : List Sd} (h : Tw w B bx rb st l) (hD : Dt w) (hgood : Good l) (h1 : 1 ≤ st) (hlen : l.length < 100000) (s : Sd) :
    Calls Tryd.prog 10 #[.pointer (some ⟨bx, 0, none⟩), s.val] w fun e w' => e = .returned (.tuple #[.bool (addR st l s).1, .int .i64 (addR st l s).2.1]) ∧ Mid w' B bx rb st l (addR st l s).2.2 ∧ Chg w w' (fun k => B ≤ k) ∧ K35 w w' := by
  obtain ⟨ro, rc, go, gc, i1, i2, i3, i4, i5⟩ := h.ex
  refine (add_anyL i1 i2 h.gx hD hgood (by omega) hlen s).mono ?_
  rintro e w' ⟨he, ⟨ro', rc', k1, k2, k3⟩, hc⟩
  have hbx : ¬ (rb = bx ∨ blk ro = some rb) := by
    rintro (e | e)
    · exact ix_rx i1 i3 e.symm
    · exact i2.not59 i3 (by decide) e
  refine ⟨he, ⟨⟨ro', rc', go, gc, k1, k2, (hc.block rb (lt_of_heap i3) hbx).trans i3, i4.chg hc (fun q hq e => ?_), fun q hq hq2 => ?_⟩, h.gx, h.gr⟩, hc.mono (fun q _ e => ?_), K35.of hc (fun q e => ?_)⟩
  · rcases e with rfl | e
    · exact i4.not59 i1 (by decide) hq
    · exact i5 q e hq
  · rcases k3 with k3 | k3
    · exact i5 q (by rw [← k3]; exact hq) hq2
    · have := k3 q hq
      have := (i4.from_base q hq2).2
      omega
  · rcases e with rfl | e
    · exact h.gx
    · exact (i2.from_base q e).1
  · rcases e with rfl | e
    · exact i1.ty
    · exact i2.ty33 e
theorem radd_mid {w : World} {B bx rb st : Nat} {l l2 : List Sd} (h : Mid w B bx rb st l l2) (hB : B ≤ w.heap.size) (hgood : Good l) (hl : l.length ≤ 80000) (s : Sd) (hl2 : l2 = (addR st l s).2.2) :
    Calls Tryd.prog 11 #[.pointer (some ⟨rb, 0, none⟩), s.val] w fun e w' => e = .returned (.tuple #[.bool (addR st l s).1, .int .i64 (addR st l s).2.1]) ∧ Tw w' B bx rb st l2 ∧ Chg w w' (fun k => B ≤ k) ∧ K35 w w' := by
  obtain ⟨ro, rc, go, gc, i1, i2, i3, i4, i5⟩ := h.ex
  have fin : ∀ w' : World, Chg w w' (fun k => k = rb) → ∀ go' gc', Rx w' rb st go' l2.length gc' → Sw w' B go' l2.length gc' l2 → (∀ q, blk go' = some q → blk go = some q ∨ w.heap.size ≤ q) → Tw w' B bx rb st l2 := fun w' hc go' gc' k1 k2 k3 =>
    ⟨⟨ro, rc, go', gc', i1.chg hc (fun e => ix_rx i1 i3 e), i2.chg hc (fun q hq e => by subst e; exact i2.not59 i3 (by decide) hq), k1, k2, fun q hq hq2 => by
      rcases k3 q hq2 with e | e
      · exact i5 q hq e
      · have := (i2.from_base q hq).2; omega⟩, h.gx, h.gr⟩
  have old : ∀ w' : World, w.grownBy w' none → l2 = l → Tw w' B bx rb st l2 := fun w' hg e => by
    subst e
    exact fin w' (Chg.of_grown hg _) go gc (heap_kept hg i3 (by simp)) (i4.chg (Chg.of_grown hg (fun _ => False)) (fun _ _ e => e)) (fun q hq => Or.inl hq)
  have new : ∀ w' : World, Chg w w' (fun k => k = rb) → Rz w w' rb st l2 → Tw w' B bx rb st l2 := fun w' hc ⟨go', gc', k1, k2⟩ => fin w' hc go' gc' k1 (k2.rebase hB) (fun q hq => Or.inr (k2.from_base q hq).1)
  have hcm : ∀ w' : World, Chg w w' (fun k => k = rb) → Chg w w' (fun k => B ≤ k) ∧ K35 w w' := fun w' hc => ⟨hc.mono (fun q _ e => by subst e; exact h.gr), K35.of hc (fun q e => by subst e; exact i3.ty)⟩
  obtain ⟨o, p⟩ := s
  unfold addR at hl2 ⊢
  unfold Sd.val
  simp only at hl2 ⊢
  by_cases hoff : o < 0 ∨ 9007199254740992 < o ∨ p < 0 ∨ 16777216 < p
  · have hb : badB l ⟨o, p⟩ = true := by
      rcases List.eq_nil_or_concat l with rfl | ⟨k, ⟨x, y⟩, rfl⟩
      · exact (bad_nil o p).2 hoff
      · rw [List.concat_eq_append] at hgood ⊢
        exact (bad_snoc k x y o p hgood).2 (Or.inl hoff)
    rw [if_pos hb] at hl2 ⊢
    exact (radd_off i3 o p hoff).mono fun e w' q => ⟨q.1, old w' q.2 hl2, Chg.of_grown q.2 _, K35.grown q.2⟩
  · have g1 : 0 ≤ o := by omega
    have g2 : o ≤ 9007199254740992 := by omega
    have g3 : 0 ≤ p := by omega
    have g4 : p ≤ 16777216 := by omega
    rcases List.eq_nil_or_concat l with rfl | ⟨k, ⟨x, y⟩, rfl⟩
    · have hb : ¬ badB [] ⟨o, p⟩ = true := fun e => hoff ((bad_nil o p).1 e)
      rw [if_neg hb, near_nil, if_neg (by simp)] at hl2 ⊢
      exact (radd_put0 i3 i4 o p g1 g2 g3 g4).mono fun e w' q => ⟨q.1, new w' q.2.2 (by rw [hl2]; exact q.2.1), hcm w' q.2.2⟩
    · rw [List.concat_eq_append] at *
      have hk : k.length ≤ 80000 := by simp at hl; omega
      have hy0 := (hgood ⟨x, y⟩ (by simp)).2.2.1
      simp only at hy0
      by_cases hnot : o ≤ x ∨ p ≤ y
      · rw [if_pos ((bad_snoc k x y o p hgood).2 (Or.inr hnot))] at hl2 ⊢
        exact (radd_not i3 i4 hk o p g1 g2 g3 g4 hnot).mono fun e w' q => ⟨q.1, old w' q.2 hl2, Chg.of_grown q.2 _, K35.grown q.2⟩
      · have hnb : ¬ badB (k ++ [⟨x, y⟩]) ⟨o, p⟩ = true := fun e => by
          rcases (bad_snoc k x y o p hgood).1 e with e | e
          · exact hoff e
          · exact hnot e
        rw [if_neg hnb] at hl2 ⊢
        by_cases hn : p - y < st
        · rw [if_pos ((near_snoc k st x y o p hgood).2 hn)] at hl2 ⊢
          exact (radd_near i3 i4 hk o p g1 g2 g3 g4 hy0 (fun e => hnot (Or.inl e)) (fun e => hnot (Or.inr e)) hn).mono fun e w' q => ⟨q.1, old w' q.2 hl2, Chg.of_grown q.2 _, K35.grown q.2⟩
        · rw [if_neg (fun e => hn ((near_snoc k st x y o p hgood).1 e))] at hl2 ⊢
          exact (radd_put i3 i4 hk o p g1 g2 g3 g4 hy0 (fun e => hnot (Or.inl e)) (fun e => hnot (Or.inr e)) hn).mono fun e w' q => ⟨q.1, new w' q.2.2 (by rw [hl2]; exact q.2.1), hcm w' q.2.2⟩
/-- Cut on the index, then on the document's. -/
theorem cut_tw {w : World} {B bx rb st : Nat} {l : List Sd} (h : Tw w B bx rb st l) (h1 : 1 ≤ st) (hlen : l.length ≤ 80000) (hsrt : Srt l) (n : Int) :
    Calls Tryd.prog 16 #[.pointer (some ⟨bx, 0, none⟩), .int .i64 n] w fun e w' => e = .returned (.int .i64 ((l.length - cutR n l : Nat) : Int)) ∧ Mid w' B bx rb st l (l.take (cutR n l)) ∧ Chg w w' (fun k => B ≤ k) ∧ K35 w w' := by
  obtain ⟨ro, rc, go, gc, i1, i2, i3, i4, i5⟩ := h.ex
  refine (cut_anyL i1 i2 h.gx (by omega) (by omega) hsrt n).mono ?_
  rintro e w' ⟨he, k1, k2, hc⟩
  exact ⟨he, ⟨⟨ro, rc, go, gc, k1, k2, (hc.block rb (lt_of_heap i3) (fun e => ix_rx i1 i3 e.symm)).trans i3, i4.chg hc (fun q hq e => by subst e; exact i4.not59 i1 (by decide) hq), i5⟩, h.gx, h.gr⟩, hc.mono (fun q _ e => by subst e; exact h.gx), K35.of hc (fun q e => by subst e; exact i1.ty)⟩
theorem rcut_mid {w : World} {B bx rb st : Nat} {l : List Sd} {n : Int} (h : Mid w B bx rb st l (l.take (cutR n l))) (hB : B ≤ w.heap.size) (hsrt : Srt l) (hl : l.length ≤ 80000) :
    Calls Tryd.prog 17 #[.pointer (some ⟨rb, 0, none⟩), .int .i64 n] w fun e w' => e = .returned (.int .i64 ((l.length - cutR n l : Nat) : Int)) ∧ Tw w' B bx rb st (l.take (cutR n l)) ∧ Chg w w' (fun k => B ≤ k) ∧ K35 w w' := by
  obtain ⟨ro, rc, go, gc, i1, i2, i3, i4, i5⟩ := h.ex
  refine (rcut_any i3 i4 hsrt hl n).mono ?_
  rintro e w' ⟨he, ⟨go', gc', k1, k2⟩, hc⟩
  exact ⟨he, ⟨⟨ro, rc, go', gc', i1.chg hc (fun e => ix_rx i1 i3 e), i2.chg hc (fun q hq e => by subst e; exact i2.not59 i3 (by decide) hq), k1, k2.rebase hB, fun q hq hq2 => by
    have := (k2.from_base q hq2).1
    have := (i2.from_base q hq).2
    omega⟩, h.gx, h.gr⟩, hc.mono (fun q _ e => by subst e; exact h.gr), K35.of hc (fun q e => by subst e; exact i3.ty)⟩
end Go.Proofs.YtbnoemfhcpjdjaaDoor
