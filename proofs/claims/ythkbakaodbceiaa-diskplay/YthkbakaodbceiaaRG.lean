/-
  Both disks side by side.
-/
import Derived.Test.YthkbakaodbceiaaRF
namespace Go.Proofs.Ythkbakaodbceiaa
open Go.RowKit Go.Maps
set_option linter.unusedVariables false

/-- Both disks, alike, their memory in M. -/
structure Pr (w : World) (M : Nat → Prop) (b rb : Nat) (L : List Rf) (fs : List (Int × Int)) (st : Int) (i : Nat) : Prop where
  ex : ∃ T U, Pv w T b L fs st i ∧ Rv w U rb L fs st ∧ (∀ k, T k → ¬ U k) ∧ ∀ k, M k ↔ T k ∨ U k
  gd : Gd L

section
variable {w w' w0 W W1 W2 : World} {M N T U T' : Nat → Prop} {b rb ob orb i : Nat} {L K : List Rf} {fs gs : List (Int × Int)} {st tt : Int}

theorem Pr.lt (h : Pr w M b rb L fs st i) : ∀ k, M k → k < w.heap.size := fun k hk => by
  obtain ⟨T, U, h1, h2, _, h4⟩ := h.ex
  rcases (h4 k).1 hk with h5 | h5
  · exact h1.lt k h5
  · exact h2.lt k h5
theorem Pr.chg {S : Nat → Prop} (h : Pr w M b rb L fs st i) (hc : Chg w w' S) (hS : ∀ k, M k → ¬ S k) : Pr w' M b rb L fs st i := by
  obtain ⟨T, U, h1, h2, h3, h4⟩ := h.ex
  exact ⟨⟨T, U, h1.chg hc (fun k hk => hS k ((h4 k).2 (.inl hk))), h2.chg hc (fun k hk => hS k ((h4 k).2 (.inr hk))), h3, h4⟩, h.gd⟩
theorem Pr.grown (h : Pr w M b rb L fs st i) (hg : w.grownBy w' none) : Pr w' M b rb L fs st i := h.chg (Chg.of_grown hg (fun _ => False)) (fun k _ e => e)
theorem Pr.mono (h : Pr w M b rb L fs st i) : Pr w M b rb L fs st (i + 1) := by
  obtain ⟨T, U, h1, h2, h3, h4⟩ := h.ex
  exact ⟨⟨T, U, h1.mono, h2, h3, h4⟩, h.gd⟩

/-- What a call on both leaves: its memory is theirs or new. -/
def Po (w w' : World) (M : Nat → Prop) (b rb : Nat) (A : An) (i : Nat) : Prop :=
  (∃ M', Pr w' M' b rb A.L A.fs A.st (i + 1) ∧ ∀ k, M' k → M k ∨ w.heap.size ≤ k) ∧ Chg w w' M

theorem two_pr {A : An} (hP : Pv W T b L fs st i) (hR : Rv W U rb L fs st) (hd : ∀ k, T k → ¬ U k) (hM : ∀ k, M k ↔ T k ∨ U k) (hA : Gd A.L) (h1 : Pn W W1 T b A.L A.fs A.st (i + 1)) (h2 : Rn W1 W2 U rb A.L A.fs A.st) : Po W W2 M b rb A i := by
  obtain ⟨⟨T1, p1, p2⟩, p3⟩ := h1
  obtain ⟨⟨U1, r1, r2⟩, r3⟩ := h2
  have hs := p3.size
  have d1 : ∀ k, T1 k → ¬ U k := fun k hk hu => by
    rcases p2 k hk with h | h
    · exact hd k h hu
    · have := hR.lt k hu; omega
  refine ⟨⟨fun k => T1 k ∨ U1 k, ⟨⟨T1, U1, p1.chg r3 d1, r1, fun k hk hu => ?_, fun k => Iff.rfl⟩, hA⟩, fun k hk => ?_⟩, (p3.mono (fun k _ h => (hM k).2 (.inl h))).trans (r3.mono (fun k _ h => (hM k).2 (.inr h)))⟩
  · rcases r2 k hu with h | h
    · exact d1 k hk h
    · have := p1.lt k hk; omega
  · rcases hk with h | h
    · exact (p2 k h).imp (fun h => (hM k).2 (.inl h)) id
    · exact (r2 k h).imp (fun h => (hM k).2 (.inr h)) (fun h => Nat.le_trans hs h)
/-- Where the loop stands: both disks, and the elder two. -/
structure St (w0 w : World) (b rb ob orb i : Nat) : Prop where
  ex : ∃ M N L fs st K gs tt, Pr w M b rb L fs st i ∧ Pr w N ob orb K gs tt i ∧ (∀ k, M k → ¬ N k) ∧ ∀ k, M k ∨ N k → w0.heap.size ≤ k
  gw : w0.grownBy w none
theorem St.mk' (h1 : Pr w M b rb L fs st i) (h2 : Pr w N ob orb K gs tt i) (hd : ∀ k, M k → ¬ N k) (hb : ∀ k, M k ∨ N k → w0.heap.size ≤ k) (hg : w0.grownBy w none) : St w0 w b rb ob orb i := ⟨⟨M, N, L, fs, st, K, gs, tt, h1, h2, hd, hb⟩, hg⟩
theorem St.grown (h : St w0 w b rb ob orb i) (hg : w.grownBy w' none) : St w0 w' b rb ob orb i := by
  obtain ⟨M, N, L, fs, st, K, gs, tt, h1, h2, h3, h4⟩ := h.ex
  exact .mk' (h1.grown hg) (h2.grown hg) h3 h4 (grown_trans h.gw hg (by simp))
theorem St.mono (h : St w0 w b rb ob orb i) : St w0 w b rb ob orb (i + 1) := by
  obtain ⟨M, N, L, fs, st, K, gs, tt, h1, h2, h3, h4⟩ := h.ex
  exact .mk' h1.mono h2.mono h3 h4 h.gw
theorem chg_up {S : Nat → Prop} (h : w0.grownBy w none) (hc : Chg w w' S) (hb : ∀ k, S k → w0.heap.size ≤ k) : w0.grownBy w' none :=
  ⟨hc.os.trans h.os, hc.tape.trans h.tape, hc.output.trans h.output, Nat.le_trans h.size hc.size, fun k hk _ => (hc.block k (Nat.lt_of_lt_of_le hk h.size) (fun e => by have := hb k e; omega)).trans (h.block k hk (by simp))⟩
/-- What is written elsewhere, from where we began on. -/
theorem St.chg {S : Nat → Prop} (h : St w0 w b rb ob orb i) (hg : w.grownBy W none) (hc : Chg W w' S) (hS : ∀ k, S k → w.heap.size ≤ k) : St w0 w' b rb ob orb i := by
  obtain ⟨M, N, L, fs, st, K, gs, tt, h1, h2, h3, h4⟩ := h.ex
  refine .mk' ((h1.grown hg).chg hc (fun k hk e => by have := h1.lt k hk; have := hS k e; omega)) ((h2.grown hg).chg hc (fun k hk e => by have := h2.lt k hk; have := hS k e; omega)) h3 h4 (chg_up (grown_trans h.gw hg (by simp)) hc (fun k e => by have := hS k e; have := h.gw.size; omega))
/-- A call on both disks. -/
theorem St.op {A : An} (h1 : Pr W M b rb L fs st i) (h2 : Pr W N ob orb K gs tt i) (hd : ∀ k, M k → ¬ N k) (hb : ∀ k, M k ∨ N k → w0.heap.size ≤ k) (hg : w0.grownBy W none) (h : Po W w' M b rb A i) : St w0 w' b rb ob orb (i + 1) := by
  obtain ⟨⟨M', p1, p2⟩, p3⟩ := h
  refine .mk' p1 (h2.chg p3 (fun k hk e => hd k e hk)).mono (fun k hk hn => ?_) (fun k hk => ?_) (chg_up hg p3 (fun k e => hb k (.inl e)))
  · rcases p2 k hk with h | h
    · exact hd k h hn
    · have := h2.lt k hn; omega
  · rcases hk with h | h
    · rcases p2 k h with h | h
      · exact hb k (.inl h)
      · have := hg.size; omega
    · exact hb k (.inr h)
/-- Two new ones; those in hand become the elder ones. -/
theorem St.push {L2 : List Rf} {fs2 : List (Int × Int)} {st2 : Int} {nb nr : Nat} {M2 : Nat → Prop} (h1 : Pr W M b rb L fs st i) (hb : ∀ k, M k → w0.heap.size ≤ k) (hg : w0.grownBy W none) (hg2 : W.grownBy w' none) (h2 : Pr w' M2 nb nr L2 fs2 st2 i) (hn : ∀ k, M2 k → W.heap.size ≤ k) : St w0 w' nb nr b rb (i + 1) := by
  refine .mk' h2.mono (h1.grown hg2).mono (fun k hk hm => ?_) (fun k hk => ?_) (grown_trans hg hg2 (by simp))
  · have := hn k hk; have := h1.lt k hm; omega
  · rcases hk with h | h
    · have := hn k h; have := hg.size; omega
    · exact hb k h
end
end Go.Proofs.Ythkbakaodbceiaa
