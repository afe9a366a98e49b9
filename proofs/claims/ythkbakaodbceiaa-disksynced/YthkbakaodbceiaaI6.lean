/-
  A disk on which some calls were made: what is kept.
-/
import Derived.Test.YthkbakaodbceiaaI5
namespace Go.Proofs.Ythkbakaodbceiaa
open Go.RowKit Go.Maps Go.WideMaps
set_option linter.unusedVariables false

/-- A disk on which i calls were made, its memory from base on. -/
structure Iv (w : World) (b m base : Nat) (fs : List (Int × Int)) (st : Int) (n : Nat) (D : DataW Unit) (X : Nat → Fm) (B : Nat → List UInt8) (i : Nat) : Prop where
  ds : Ds w b m fs st n D
  st0 : 0 ≤ st
  st1 : st ≤ i
  fl : ∀ s g, at? D s (some g) → FlX w g (X g)
  ow : ∀ s g, at? D s (some g) → Ow w base 5 (X g).bo (X g).bn (X g).bc (B g)
  la : ∀ s g, at? D s (some g) → ∃ a : Nat, (X g).la = a ∧ a ≤ (X g).bn ∧ (X g).bn ≤ 3000 * i
  inj : ∀ s s' g, at? D s (some g) → at? D s' (some g) → s = s'
  ne : ∀ s g, at? D s (some g) → g ≠ b
  nb : ∀ s g, at? D s (some g) → blk (X g).bo ≠ some b
  lo : ∀ s g, at? D s (some g) → base ≤ g
  apart : ∀ s s' g g' q, at? D s (some g) → at? D s' (some g') → blk (X g).bo = some q → blk (X g').bo = some q → g = g'
  nz : Nz D
  sz : Maps.size D ≤ i
  sn : n ≤ i
  lb : base ≤ b
  lm : base ≤ m
  bs : base ≤ w.heap.size
  fsl : fs.length ≤ 100
  nm : ∀ s g, at? D s (some g) → nameB s = true

theorem at_del {D : DataW Unit} {s x : ByteArray} {g : Nat} (h : at? (D.del (.string x.data.toList)) s (some g)) : at? D s (some g) := by
  unfold at? at *
  by_cases e : s = x
  · subst e
    rw [atKey_del_same] at h
    cases h
  · rwa [atKey_del_other] at h
    intro e2
    apply e
    have e1 : s.data.toList = x.data.toList := by simpa using e2
    cases s; cases x
    simp only [ByteArray.mk.injEq]
    exact Array.toList_inj.1 e1
theorem Nz.del {D : DataW Unit} (h : Nz D) (k : Lit) : Nz (D.del k) := by
  intro kl d hd
  by_cases e : kl = k
  · subst e
    have h1 := hd .nil
    have h2 := hd (.agg [])
    rw [atKey_del_same] at h1 h2
    rw [← h1] at h2
    cases h2
  · exact h kl d (fun zd => by rw [← hd zd, atKey_del_other e])
theorem mem_filter_at {es : List (Lit × DataW Unit)} {p : Lit × DataW Unit → Bool} (hap : es.Pairwise (fun p q => p.1 ≠ q.1)) (hk : ∀ p ∈ es, WideAt.IsKeyLit p.1) {k : Lit} {d : DataW Unit} (h : ∀ zd, (DataW.map (es.filter p)).atKey k zd = d) : ∀ zd, (DataW.map es).atKey k zd = d := by
  have hm := came_mem (hap.filter p) (fun q hq => hk q (List.mem_filter.1 hq).1) h
  have hm' := (List.mem_filter.1 hm).1
  exact fun zd => WideAt.atKey_mem zd (hk _ hm') hap hm'
theorem at_filter {es : List (Lit × DataW Unit)} {p : Lit × DataW Unit → Bool} (hap : es.Pairwise (fun p q => p.1 ≠ q.1)) (hk : ∀ p ∈ es, WideAt.IsKeyLit p.1) {s : ByteArray} {g : Nat} (h : at? (.map (es.filter p)) s (some g)) : at? (.map es) s (some g) := by
  have hh := at_has h
  exact mem_filter_at hap hk (fun zd => (atKey_indep hh zd .nil).trans h) .nil

section
variable {w w' : World} {b m base : Nat} {fs fs' : List (Int × Int)} {st : Int} {n i : Nat} {D : DataW Unit} {X : Nat → Fm} {B : Nat → List UInt8}

theorem Iv.fb (h : Iv w b m base fs st n D X B i) (hi : i ≤ 300) : Fb w D X B :=
  ⟨h.fl, fun s g hg => (h.ow s g hg).rebase (Nat.zero_le _), fun s g hg => by obtain ⟨a, _, _, h3⟩ := h.la s g hg; omega, h.nz⟩

/-- What is not told changes. -/
theorem Iv.grown (h : Iv w b m base fs st n D X B i) (hg : w.grownBy w' none) : Iv w' b m base fs st n D X B i := by
  have hc := Chg.of_grown hg (fun _ => False)
  exact ⟨h.ds.chg hc (fun e => e) (fun e => e) (fun k e => e.elim), h.st0, h.st1, fun s g hg => (h.fl s g hg).chg hc (fun e => e), fun s g hg => (h.ow s g hg).beside hc (fun _ _ e => e), h.la, h.inj, h.ne, h.nb, h.lo, h.apart, h.nz, h.sz, h.sn, h.lb, h.lm, Nat.le_trans h.bs hg.size, h.fsl, h.nm⟩

/-- A step that changes no file. -/
theorem Iv.step (h : Iv w b m base fs st n D X B i) (hd : Ds w' b m fs.tail (st + 1) n D) (hc : Chg w w' (fun k => k = b)) : Iv w' b m base fs.tail (st + 1) n D X B (i + 1) := by
  exact ⟨hd, by have := h.st0; omega, by have := h.st1; push_cast; omega, fun s g hg => (h.fl s g hg).chg hc (h.ne s g hg), fun s g hg => (h.ow s g hg).beside hc (fun q hq e => h.nb s g hg (by rw [hq, e])), fun s g hg => by obtain ⟨a, h1, h2, h3⟩ := h.la s g hg; exact ⟨a, h1, h2, by omega⟩, h.inj, h.ne, h.nb, h.lo, h.apart, h.nz, by have := h.sz; omega, by have := h.sn; omega, h.lb, h.lm, Nat.le_trans h.bs hc.size, by have := h.fsl; simp; omega, h.nm⟩

/-- A step that changes one file. -/
theorem Iv.file (h : Iv w b m base fs st n D X B i) {s0 : ByteArray} {g : Nat} (hg : at? D s0 (some g)) (hd : Ds w' b m fs.tail (st + 1) n D) (x' : Fm) (l' : List UInt8) (hfl : FlX w' g x') (how : Ow w' base 5 x'.bo x'.bn x'.bc l') (hla : ∃ a : Nat, x'.la = a ∧ a ≤ x'.bn ∧ x'.bn ≤ 3000 * (i + 1)) (hl : Lies w (X g).bo x'.bo) (hc : Chg w w' (fun k => k = b ∨ k = g ∨ blk (X g).bo = some k)) :
    Iv w' b m base fs.tail (st + 1) n D (fun k => if k = g then x' else X k) (fun k => if k = g then l' else B k) (i + 1) := by
  have hbl : b < w.heap.size := by obtain ⟨⟨fo, fn, fc, h1, _⟩, _⟩ := h.ds; exact h1.lt
  have hrow : ∀ s g2 q, at? D s (some g2) → blk (X g2).bo = some q → Ty w q 5 := fun s g2 q hs hq => (h.ow s g2 hs).ty q hq
  refine ⟨hd, by have := h.st0; omega, by have := h.st1; push_cast; omega, fun s g2 hs => ?_, fun s g2 hs => ?_, fun s g2 hs => ?_, h.inj, h.ne, fun s g2 hs => ?_, h.lo, fun s s' g2 g3 q hs hs' h1 h2 => ?_, h.nz, by have := h.sz; omega, by have := h.sn; omega, h.lb, h.lm, Nat.le_trans h.bs hc.size, by have := h.fsl; simp; omega, h.nm⟩
  · by_cases e : g2 = g
    · subst e; simpa using hfl
    · rw [if_neg e]
      refine (h.fl s g2 hs).chg hc (fun k => ?_)
      rcases k with k | k | k
      · exact h.ne s g2 hs k
      · exact e k
      · exact (hrow s0 g _ hg k).ne (h.fl s g2 hs).ty (by decide) rfl
  · by_cases e : g2 = g
    · subst e; simpa using how
    · rw [if_neg e, if_neg e]
      refine (h.ow s g2 hs).beside hc (fun q hq k => ?_)
      rcases k with k | k | k
      · exact h.nb s g2 hs (by rw [hq, k])
      · subst k; exact (hrow s g2 _ hs hq).ne (h.fl s0 q hg).ty (by decide) rfl
      · exact e (h.apart s s0 g2 g q hs hg hq k)
  · by_cases e : g2 = g
    · subst e; simpa using hla
    · rw [if_neg e]
      obtain ⟨a, h1, h2, h3⟩ := h.la s g2 hs
      exact ⟨a, h1, h2, by omega⟩
  · by_cases e : g2 = g
    · subst e
      simp only [if_true]
      intro k
      rcases hl b k with k | k
      · exact h.nb s0 g2 hg k
      · omega
    · rw [if_neg e]; exact h.nb s g2 hs
  · have key : ∀ s g2, at? D s (some g2) → g2 ≠ g → blk x'.bo = some q → blk (X g2).bo = some q → False := fun s g2 hs e k1 k2 => by
      rcases hl q k1 with k | k
      · exact e (h.apart s s0 g2 g q hs hg k2 k)
      · have := (hrow s g2 q hs k2).lt
        omega
    by_cases e : g2 = g
    · by_cases e' : g3 = g
      · rw [e, e']
      · simp only [e, e', if_true, if_false] at h1 h2
        exact (key s' g3 hs' e' h1 h2).elim
    · by_cases e' : g3 = g
      · simp only [e, e', if_true, if_false] at h1 h2
        exact (key s g2 hs e h2 h1).elim
      · simp only [e, e', if_false] at h1 h2
        exact h.apart s s' g2 g3 q hs hs' h1 h2

/-- A step that makes a file. -/
theorem Iv.made (h : Iv w b m base fs st n D X B i) {s0 : ByteArray} {g : Nat} (hs0 : nameB s0 = true) (hg : w.heap.size ≤ g) (hk : WideAt.IsKeyLit (.string s0.data.toList)) (hn : at? D s0 none) (hd : Ds w' b m fs.tail (st + 1) (n + 1) (D.put (.string s0.data.toList) (.lit (.int .i64 g)))) (hfl : Fl w' g none 0 0 0 true false) (hc : Chg w w' (fun k => k = b ∨ k = m)) :
    Iv w' b m base fs.tail (st + 1) (n + 1) (D.put (.string s0.data.toList) (.lit (.int .i64 g))) (fun k => if k = g then ⟨none, 0, 0, 0, true, false⟩ else X k) (fun k => if k = g then [] else B k) (i + 1) := by
  have hbl : b < w.heap.size := by obtain ⟨⟨fo, fn, fc, h1, _⟩, _⟩ := h.ds; exact h1.lt
  obtain ⟨es, rfl, hap, hkeys⟩ := h.ds.mp.entries (string_keyed Try.underlying9)
  have hM : IsMap (.map es : DataW Unit) := ⟨es, rfl⟩
  have hT : Tidy (.map es : DataW Unit) := ⟨es, rfl, hap⟩
  have hcase : ∀ s g2, at? ((DataW.map es).put (.string s0.data.toList) (.lit (.int .i64 g))) s (some g2) → (s = s0 ∧ g2 = g) ∨ (s ≠ s0 ∧ at? (.map es) s (some g2) ∧ g2 ≠ g) := fun s g2 hs => by
    by_cases e : s = s0
    · subst e
      exact .inl ⟨rfl, by simpa using at_one hs (at_put_same hM hk g)⟩
    · have h1 := (at_put_other e _ _).1 hs
      exact .inr ⟨e, h1, fun e2 => by have := (h.fl s g2 h1).lt; omega⟩
  refine ⟨hd, by have := h.st0; omega, by have := h.st1; push_cast; omega, fun s g2 hs => ?_, fun s g2 hs => ?_, fun s g2 hs => ?_, fun s s' g2 hs hs' => ?_, fun s g2 hs => ?_, fun s g2 hs => ?_, fun s g2 hs => ?_, fun s s' g2 g3 q hs hs' h1 h2 => ?_, h.nz.put hM hk g, ?_, by have := h.sn; omega, h.lb, h.lm, Nat.le_trans h.bs hc.size, by have := h.fsl; simp; omega, fun s g2 hs => (hcase s g2 hs).elim (fun e => e.1 ▸ hs0) (fun e => h.nm s g2 e.2.1)⟩
  · rcases hcase s g2 hs with ⟨rfl, rfl⟩ | ⟨_, h1, e⟩
    · simpa using hfl
    · rw [if_neg e]
      exact (h.fl s g2 h1).chg hc (fun k => k.elim (h.ne s g2 h1) (h.ds.mp.row (h.fl s g2 h1).ty))
  · rcases hcase s g2 hs with ⟨rfl, rfl⟩ | ⟨_, h1, e⟩
    · simpa using Ow.nil w' base 5
    · rw [if_neg e, if_neg e]
      exact (h.ow s g2 h1).beside hc (fun q hq k => k.elim (fun k => h.nb s g2 h1 (by rw [hq, k])) (h.ds.mp.row ((h.ow s g2 h1).ty q hq)))
  · rcases hcase s g2 hs with ⟨rfl, rfl⟩ | ⟨_, h1, e⟩
    · simp
    · rw [if_neg e]
      obtain ⟨a, h1, h2, h3⟩ := h.la s g2 h1
      exact ⟨a, h1, h2, by omega⟩
  · rcases hcase s g2 hs with ⟨rfl, rfl⟩ | ⟨_, h1, e⟩ <;> rcases hcase s' _ hs' with ⟨rfl, e3⟩ | ⟨_, h2, e2⟩
    · rfl
    · exact absurd rfl e2
    · exact absurd e3 e
    · exact h.inj s s' g2 h1 h2
  · rcases hcase s g2 hs with ⟨rfl, rfl⟩ | ⟨_, h1, e⟩
    · omega
    · exact h.ne s g2 h1
  · rcases hcase s g2 hs with ⟨rfl, rfl⟩ | ⟨_, h1, e⟩
    · simp [blk]
    · rw [if_neg e]; exact h.nb s g2 h1
  · rcases hcase s g2 hs with ⟨rfl, rfl⟩ | ⟨_, h1, e⟩
    · have := h.bs; omega
    · exact h.lo s g2 h1
  · rcases hcase s g2 hs with ⟨rfl, rfl⟩ | ⟨_, k1, e⟩
    · simp [blk] at h1
    · rcases hcase s' g3 hs' with ⟨rfl, rfl⟩ | ⟨_, k2, e2⟩
      · simp [blk] at h2
      · rw [if_neg e] at h1
        rw [if_neg e2] at h2
        exact h.apart s s' g2 g3 q k1 k2 h1 h2
  · have hz := h.sz
    rw [size_put hT]
    split <;> omega

/-- A step that strikes files out of the map, or marks their names. -/
theorem Iv.less (h : Iv w b m base fs st n D X B i) (D' : DataW Unit) (X' : Nat → Fm) (hX : ∀ g, (X' g).bo = (X g).bo ∧ (X' g).bn = (X g).bn ∧ (X' g).bc = (X g).bc ∧ (X' g).la = (X g).la) (hat : ∀ s g, at? D' s (some g) → at? D s (some g)) (hd : Ds w' b m fs.tail (st + 1) n D') (hz : Nz D') (hs : Maps.size D' ≤ Maps.size D) (hf : ∀ s g, at? D' s (some g) → FlX w' g (X' g)) (hc : Chg w w' (fun k => k = b ∨ k = m ∨ ∃ s, at? D s (some k))) :
    Iv w' b m base fs.tail (st + 1) n D' X' B (i + 1) := by
  refine ⟨hd, by have := h.st0; omega, by have := h.st1; push_cast; omega, hf, fun s g hg => ?_, fun s g hg => ?_, fun s s' g h1 h2 => h.inj s s' g (hat _ _ h1) (hat _ _ h2), fun s g hg => h.ne s g (hat _ _ hg), fun s g hg => by rw [(hX g).1]; exact h.nb s g (hat _ _ hg), fun s g hg => h.lo s g (hat _ _ hg), fun s s' g g' q h1 h2 h3 h4 => ?_, hz, by have := h.sz; omega, by have := h.sn; omega, h.lb, h.lm, Nat.le_trans h.bs hc.size, by have := h.fsl; simp; omega, fun s g hg => h.nm s g (hat _ _ hg)⟩
  · rw [(hX g).1, (hX g).2.1, (hX g).2.2.1]
    have hg' := hat s g hg
    refine (h.ow s g hg').beside hc (fun q hq k => ?_)
    rcases k with k | k | ⟨s2, k⟩
    · exact h.nb s g hg' (by rw [hq, k])
    · exact h.ds.mp.row ((h.ow s g hg').ty q hq) k
    · exact ((h.ow s g hg').ty q hq).ne (h.fl s2 q k).ty (by decide) rfl
  · rw [(hX g).2.2.2, (hX g).2.1]
    obtain ⟨a, h1, h2, h3⟩ := h.la s g (hat s g hg)
    exact ⟨a, h1, h2, by omega⟩
  · rw [(hX g).1] at h3
    rw [(hX g').1] at h4
    exact h.apart s s' g g' q (hat _ _ h1) (hat _ _ h2) h3 h4
end
end Go.Proofs.Ythkbakaodbceiaa
