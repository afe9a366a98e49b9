/-
  RingPlays: what stands between two calls of its script.
-/
import Derived.Test.YtabnpgmkccmneaaQ9
import Derived.Test.YtabnpgmkccmneaaMem5
namespace Go.Proofs.Ytabnpgmkccmneaa
open Go.RowKit
set_option linter.unusedVariables false

/-- A queue that was put aside (p), and the list that it had (q); what may turn (T) is neither's. -/
def Aside (w : World) (T : Nat → Prop) (p q : Value) : Prop :=
  ∃ b g bnd f lo n c, ∃ L : List Int, p = .pointer (some ⟨b, 0, none⟩) ∧ q = .slice lo n c ∧ Rg w 3 b g bnd f (L.map (.int .i64)) ∧ Vs w lo n c (L.map (.int .i64)) ∧ Plain lo ∧ ¬ T b ∧ ¬ T g ∧ ∀ a, lo = some a → a.block < w.heap.size ∧ ¬ T a.block

theorem Aside.chg {w w' : World} {T T' : Nat → Prop} {p q : Value} (h : Aside w T p q) (hc : Chg w w' T) (ht : ∀ k, k < w.heap.size → T' k → T k) : Aside w' T' p q := by
  obtain ⟨b, g, bnd, f, lo, n, c, L, h1, h2, h3, h4, h5, h6, h7, h8⟩ := h
  exact ⟨b, g, bnd, f, lo, n, c, L, h1, h2, h3.chg hc h6 h7, h4.chg hc (fun a ha => (h8 a ha).2), h5, fun e => h6 (ht _ h3.lt e), fun e => h7 (ht _ h3.glt e), fun a ha => ⟨Nat.lt_of_lt_of_le (h8 a ha).1 hc.size, fun e => (h8 a ha).2 (ht _ (h8 a ha).1 e)⟩⟩

/-- What may turn: the queue in hand, the document's, and the two lists of what was put aside. -/
def touch (b g rb : Nat) (oo wo : Option Addr) (k : Nat) : Prop := k = b ∨ k = g ∨ k = rb ∨ blk oo = some k ∨ blk wo = some k

structure Mn (w0 w : World) (b g rb bnd f : Nat) (lo : Option Addr) (n c : Nat) (L : List Int) (oo wo : Option Addr) (k co cw : Nat) (os ws : List Value) : Prop where
  pr : As w b g rb bnd f lo n c L
  o : Vo w w0.heap.size 24 oo k co os
  d : Vo w w0.heap.size 30 wo k cw ws
  nb : w0.heap.size ≤ b
  ng : w0.heap.size ≤ g
  nr : w0.heap.size ≤ rb
  ao : ∀ x, blk oo = some x → x ≠ b ∧ x ≠ g ∧ x ≠ rb ∧ blk lo ≠ some x ∧ blk wo ≠ some x
  aw : ∀ x, blk wo = some x → x ≠ b ∧ x ≠ g ∧ x ≠ rb ∧ blk lo ≠ some x
  side : ∀ (j : Nat) (p q : Value), os[j]? = some p → ws[j]? = some q → Aside w (touch b g rb oo wo) p q
  chg : Chg w0 w (fun _ => False)

/-- What came in stands. -/
theorem Mn.keep {w0 w w' : World} {S : Nat → Prop} (h : Chg w0 w (fun _ => False)) (hc : Chg w w' S) (hs : ∀ k, S k → w0.heap.size ≤ k) : Chg w0 w' (fun _ => False) :=
  ⟨hc.os.trans h.os, hc.tape.trans h.tape, hc.output.trans h.output, Nat.le_trans h.size hc.size, fun k hk hn => (hc.block k (Nat.lt_of_lt_of_le hk h.size) (fun e => by have := hs k e; omega)).trans (h.block k hk hn)⟩

theorem blk_some {lo : Option Addr} {x : Nat} (h : blk lo = some x) : ∃ a, lo = some a ∧ a.block = x := by
  cases lo with
  | none => cases h
  | some a => exact ⟨a, rfl, Option.some.inj h⟩

/-- Behind a call. -/
theorem Mn.asked {w0 w w' : World} {b g rb bnd f : Nat} {lo : Option Addr} {n c : Nat} {L : List Int} {oo wo : Option Addr} {k co cw : Nat} {os ws : List Value} (h : Mn w0 w b g rb bnd f lo n c L oo wo k co cw os ws) (hd : Done w w' b g rb bnd lo) :
    ∃ f' lo' n' c' L', Mn w0 w' b g rb bnd f' lo' n' c' L' oo wo k co cw os ws := by
  obtain ⟨f', lo', n', c', L', h1, h2, h3⟩ := hd
  have ho := h.o.from_base
  have hw := h.d.from_base
  have fresh : ∀ x, x < w.heap.size → blk lo ≠ some x → blk lo' ≠ some x := by
    intro x hx hne he
    obtain ⟨a, ha, rfl⟩ := blk_some he
    rcases h2 a ha with h9 | h9
    · exact hne (by rw [h9]; rfl)
    · omega
  refine ⟨f', lo', n', c', L', h1, h.o.chg h3 ?_, h.d.chg h3 ?_, h.nb, h.ng, h.nr, ?_, ?_, ?_, Mn.keep h.chg h3 ?_⟩
  · intro a ha he
    have := h.ao a.block (by rw [ha]; rfl)
    rcases he with he | he | he
    · exact this.1 he
    · exact this.2.1 he
    · exact this.2.2.1 he
  · intro a ha he
    have := h.aw a.block (by rw [ha]; rfl)
    rcases he with he | he | he
    · exact this.1 he
    · exact this.2.1 he
    · exact this.2.2.1 he
  · intro x hx
    obtain ⟨a1, a2, a3, a4, a5⟩ := h.ao x hx
    exact ⟨a1, a2, a3, fresh x (ho x hx).2 a4, a5⟩
  · intro x hx
    obtain ⟨a1, a2, a3, a4⟩ := h.aw x hx
    exact ⟨a1, a2, a3, fresh x (hw x hx).2 a4⟩
  · intro j p q hp hq
    exact (h.side j p q hp hq).chg (h3.mono (fun k _ e => by rcases e with e | e | e; exact Or.inl e; exact Or.inr (Or.inl e); exact Or.inr (Or.inr (Or.inl e)))) (fun k _ e => e)
  · intro k e
    rcases e with rfl | rfl | rfl
    · exact h.nb
    · exact h.ng
    · exact h.nr

theorem chg_row {w w' : World} {row : Option Nat} {S : Nat → Prop} (h : w.grownBy w' row) (hs : ∀ k, row = some k → S k) : Chg w w' S :=
  ⟨h.os, h.tape, h.output, h.size, fun k hk hn => h.block k hk (fun e => hn (hs k e.symm))⟩

/-- It is put aside, and goes on as its Copy. -/
theorem Mn.aside {w0 w w2 w3 w4 w5 : World} {b g rb bnd f : Nat} {lo : Option Addr} {n c : Nat} {L : List Int} {oo wo : Option Addr} {k co cw : Nat} {os ws : List Value} (h : Mn w0 w b g rb bnd f lo n c L oo wo k co cw os ws)
    {w1 : World} (h1 : w.grownBy w1 none) (h2 : w1.grownBy w2 (blk oo)) {oo' : Option Addr} {co' : Nat} (hv : Vo w2 w0.heap.size 24 oo' (k + 1) co' (os ++ [.pointer (some ⟨b, 0, none⟩)])) (hb : blk oo' = blk oo ∨ blk oo' = some w1.heap.size)
    (h3 : w2.grownBy w3 none) (h4 : w3.grownBy w4 (blk wo)) {wo' : Option Addr} {cw' : Nat} (hv' : Vo w4 w0.heap.size 30 wo' (k + 1) cw' (ws ++ [.slice lo n c])) (hb' : blk wo' = blk wo ∨ blk wo' = some w3.heap.size)
    (h5 : w4.grownBy w5 none) {b' g' : Nat} (hr : Rg w5 3 b' g' bnd 0 (L.map (.int .i64))) (hlb : w4.heap.size ≤ b') (hlg : w4.heap.size ≤ g') :
    Mn w0 w5 b' g' rb bnd 0 lo n c L oo' wo' (k + 1) co' cw' (os ++ [.pointer (some ⟨b, 0, none⟩)]) (ws ++ [.slice lo n c]) := by
  have ho := h.o.from_base
  have hw := h.d.from_base
  have s1 := h1.size
  have s2 := h2.size
  have s3 := h3.size
  have s4 := h4.size
  have s5 := h5.size
  have lb := h.pr.r.lt
  have lg := h.pr.r.glt
  have lr := h.pr.d.lt
  have hc5 : Chg w w5 (fun k => blk oo = some k ∨ blk wo = some k) :=
    ((((Chg.of_grown h1 _).trans (chg_row h2 (fun k e => Or.inl e))).trans (Chg.of_grown h3 _)).trans (chg_row h4 (fun k e => Or.inr e))).trans (Chg.of_grown h5 _)
  have hT : Chg w w5 (touch b g rb oo wo) := hc5.mono (fun k _ e => Or.inr (Or.inr (Or.inr e)))
  -- where the new lists are
  have bo : ∀ x, blk oo' = some x → blk oo = some x ∨ x = w1.heap.size := by
    intro x hx
    rcases hb with e | e
    · exact Or.inl (e ▸ hx)
    · exact Or.inr (Option.some.inj (hx.symm.trans e))
  have bw : ∀ x, blk wo' = some x → blk wo = some x ∨ x = w3.heap.size := by
    intro x hx
    rcases hb' with e | e
    · exact Or.inl (e ▸ hx)
    · exact Or.inr (Option.some.inj (hx.symm.trans e))
  have llo : ∀ x, blk lo = some x → x < w.heap.size := by
    intro x hx
    obtain ⟨a, ha, rfl⟩ := blk_some hx
    exact h.pr.lo a ha
  have hv2 := hv.from_base
  have hrb : ¬ (blk oo = some rb ∨ blk wo = some rb) := by
    rintro (e | e)
    · exact (h.ao rb e).2.2.1 rfl
    · exact (h.aw rb e).2.2.1 rfl
  have hlo5 : ∀ a, lo = some a → ¬ (blk oo = some a.block ∨ blk wo = some a.block) := by
    rintro a ha (e | e)
    · exact (h.ao _ e).2.2.2.1 (by rw [ha]; rfl)
    · exact (h.aw _ e).2.2.2 (by rw [ha]; rfl)
  have hvo5 : Vo w5 w0.heap.size 24 oo' (k + 1) co' (os ++ [.pointer (some ⟨b, 0, none⟩)]) := by
    refine ((hv.grown h3).kept h4 ?_).grown h5
    by_cases he : blk oo' = none
    · exact Or.inl he
    · refine Or.inr fun e => ?_
      cases hq : blk wo with
      | none => rw [hq] at e; exact he e
      | some x =>
        rw [hq] at e
        rcases bo x e with e1 | e1
        · exact (h.ao x e1).2.2.2.2 hq
        · have := (hw x hq).2; omega
  have new : ∀ k, k < w.heap.size → touch b' g' rb oo' wo' k → touch b g rb oo wo k := by
    rintro k hk (e | e | e | e | e)
    · omega
    · omega
    · exact Or.inr (Or.inr (Or.inl e))
    · rcases bo k e with e1 | e1
      · exact Or.inr (Or.inr (Or.inr (Or.inl e1)))
      · omega
    · rcases bw k e with e1 | e1
      · exact Or.inr (Or.inr (Or.inr (Or.inr e1)))
      · omega
  refine ⟨⟨hr, h.pr.d.chg hc5 hrb hlo5, ⟨by omega, by omega, fun a ha => ?_⟩, fun a ha => ?_⟩, hvo5, hv'.grown h5, ?_, ?_, h.nr, ?_, ?_, ?_, Mn.keep h.chg hc5 ?_⟩
  · have := h.pr.lo a ha
    exact ⟨by omega, by omega⟩
  · have := h.pr.lo a ha
    omega
  · have := h.nb; omega
  · have := h.nb; omega
  · intro x hx
    have hx2 := (hv2 x hx).2
    have hx3 : blk wo' ≠ some x := by
      intro e
      rcases bw x e with e1 | e1
      · rcases bo x hx with e2 | e2
        · exact (h.ao x e2).2.2.2.2 e1
        · have := (hw x e1).2; omega
      · omega
    rcases bo x hx with e | e
    · obtain ⟨a1, a2, a3, a4, a5⟩ := h.ao x e
      exact ⟨by omega, by omega, a3, a4, hx3⟩
    · refine ⟨by omega, by omega, by omega, fun e2 => ?_, hx3⟩
      have := llo x e2; omega
  · intro x hx
    have hx2 := (hv'.from_base x hx).2
    rcases bw x hx with e | e
    · obtain ⟨a1, a2, a3, a4⟩ := h.aw x e
      exact ⟨by omega, by omega, a3, a4⟩
    · refine ⟨by omega, by omega, by omega, fun e2 => ?_⟩
      have := llo x e2; omega
  · intro j p q hp hq
    have l1 := h.o.len
    have l2 := h.d.len
    by_cases hj : j < k
    · rw [List.getElem?_append_left (by omega)] at hp
      rw [List.getElem?_append_left (by omega)] at hq
      exact (h.side j p q hp hq).chg hT new
    · have hj2 : j = k := by
        have := (List.getElem?_eq_some_iff.1 hp).1
        simp [l1] at this; omega
      subst hj2
      rw [List.getElem?_append_right (by omega), l1] at hp
      rw [List.getElem?_append_right (by omega), l2] at hq
      simp at hp hq
      subst hp hq
      have nb : ¬ (blk oo = some b ∨ blk wo = some b) := by
        rintro (e | e)
        · exact (h.ao b e).1 rfl
        · exact (h.aw b e).1 rfl
      have ng : ¬ (blk oo = some g ∨ blk wo = some g) := by
        rintro (e | e)
        · exact (h.ao g e).2.1 rfl
        · exact (h.aw g e).2.1 rfl
      obtain ⟨ap1, ap2, ap3⟩ := h.pr.ap
      have not : ∀ x, x < w.heap.size → x ≠ rb → ¬ (blk oo = some x ∨ blk wo = some x) → ¬ touch b' g' rb oo' wo' x := by
        rintro x hx hne hn (e | e | e | e | e)
        · omega
        · omega
        · exact hne e
        · rcases bo x e with e1 | e1
          · exact hn (Or.inl e1)
          · omega
        · rcases bw x e with e1 | e1
          · exact hn (Or.inr e1)
          · omega
      refine ⟨b, g, bnd, f, lo, n, c, L, rfl, rfl, h.pr.r.chg hc5 nb ng, h.pr.d.vs.chg hc5 hlo5, h.pr.d.pl, not b lb ap1.symm nb, not g lg ap2.symm ng, fun a ha => ⟨?_, not _ (h.pr.lo a ha) (h.pr.d.ap a ha) (hlo5 a ha)⟩⟩
      have := h.pr.lo a ha; omega
  · rintro x (e | e)
    · exact (ho x e).1
    · exact (hw x e).1
end Go.Proofs.Ytabnpgmkccmneaa
