/-
  What goes, and why: what follows. Nothing here speaks of the program.
-/
import Derived.Test.YtkljmjpapkopbaaA4
namespace Go.Proofs.Ytkljmjpapkopbaa
open Go.RowKit
set_option linter.unusedVariables false

theorem whyR_le (r : Ru) (now : Int) (p : Pc) (t : List Pc) : whyR r now p t ≤ 5 := by
  cases t with
  | nil => simp [whyR]
  | cons q t => simp only [whyR]; repeat' split
                all_goals omega
theorem whyR_four (r : Ru) (now : Int) (p : Pc) (t : List Pc) : whyR r now p t = 4 ↔ t = [] := by
  cases t with
  | nil => simp [whyR]
  | cons q t =>
    simp only [whyR]
    constructor
    · intro h; repeat' split at h
      all_goals omega
    · intro h; cases h
theorem goB_iff (x : Nat) : goB x = true ↔ 1 ≤ x ∧ x ≤ 3 := by
  simp [goB]; omega
/-- Goes the piece at this place, for a reason of its own? -/
def goAt (r : Ru) (now : Int) (l : List Pc) (k : Nat) : Prop := ∃ p, l[k]? = some p ∧ goB (whyR r now p (l.drop (k + 1))) = true
theorem goes_iff (r : Ru) (now : Int) : ∀ (l : List Pc) (k : Nat), k < goesR r now l ↔ ∀ j, j ≤ k → goAt r now l j
  | [], k => by
    simp only [goesR]
    constructor
    · intro h; omega
    · intro h; obtain ⟨p, hp, _⟩ := h 0 (by omega); simp at hp
  | p :: t, k => by
    have h0 : goAt r now (p :: t) 0 ↔ goB (whyR r now p t) = true := by simp [goAt]
    have hs : ∀ j, goAt r now (p :: t) (j + 1) ↔ goAt r now t j := fun j => by simp [goAt]
    simp only [goesR]
    by_cases hg : goB (whyR r now p t) = true
    · rw [if_pos hg]
      cases k with
      | zero => exact ⟨fun _ j hj => by obtain rfl : j = 0 := by omega
                                        exact h0.2 hg, fun _ => by omega⟩
      | succ k =>
        have ih := goes_iff r now t k
        constructor
        · intro h j hj
          cases j with
          | zero => exact h0.2 hg
          | succ j => exact (hs j).2 (ih.1 (by omega) j (by omega))
        · intro h
          have := ih.2 fun j hj => (hs j).1 (h (j + 1) (by omega))
          omega
    · rw [if_neg hg]
      exact ⟨fun h => by omega, fun h => absurd (h0.1 (h 0 (by omega))) hg⟩
theorem goes_at {r : Ru} {now : Int} {l : List Pc} : ¬ goAt r now l (goesR r now l) := fun h => by
  have h1 := (goes_iff r now l (goesR r now l)).2 fun j hj => by
    rcases Nat.lt_or_ge j (goesR r now l) with h9 | h9
    · exact (goes_iff r now l j).1 h9 j (Nat.le_refl _)
    · obtain rfl : j = goesR r now l := by omega
      exact h
  omega
theorem goes_below {r : Ru} {now : Int} {l : List Pc} {k : Nat} (h : k < goesR r now l) : goAt r now l k := (goes_iff r now l k).1 h k (Nat.le_refl _)
/-- What goes by the one goes by the other. -/
theorem goes_mono {r r2 : Ru} {now now2 : Int} {l : List Pc} (h : ∀ k, goAt r now l k → goAt r2 now2 l k) : goesR r now l ≤ goesR r2 now2 l := by
  rcases Nat.lt_or_ge (goesR r2 now2 l) (goesR r now l) with h1 | h1
  · exact absurd (h _ (goes_below h1)) goes_at
  · exact h1
theorem go_why {r r2 : Ru} {now now2 : Int} {p : Pc} {t : List Pc} (hb : r.bel ≤ r2.bel) (hy : 0 < r.by' → 0 < r2.by' ∧ r2.by' ≤ r.by') (ha : 0 < r.age → 0 < r2.age ∧ r2.age ≤ r.age) (hp : 0 < r.pcs → 0 < r2.pcs ∧ r2.pcs ≤ r.pcs) (hn : now ≤ now2)
    (h : goB (whyR r now p t) = true) : goB (whyR r2 now2 p t) = true := by
  cases t with
  | nil => exact absurd h (by simp [whyR, goB])
  | cons q t =>
    rw [goB_iff] at h ⊢
    simp only [whyR] at h ⊢
    by_cases h5 : r.bel < q.b
    · rw [if_pos h5] at h; omega
    rw [if_neg h5] at h
    rw [if_neg (by omega)]
    by_cases h1 : 0 < r2.by' ∧ r2.by' ≤ sumB (q :: t)
    · rw [if_pos h1]; omega
    rw [if_neg h1]
    rw [if_neg (fun h9 : 0 < r.by' ∧ r.by' ≤ sumB (q :: t) => h1 (by have := hy h9.1; omega))] at h
    by_cases h2 : 0 < r2.age ∧ r2.age < now2 - p.t
    · rw [if_pos h2]; omega
    rw [if_neg h2]
    rw [if_neg (fun h9 : 0 < r.age ∧ r.age < now - p.t => h2 (by have := ha h9.1; omega))] at h
    by_cases h3 : 0 < r2.pcs ∧ r2.pcs ≤ ((q :: t).length : Int)
    · rw [if_pos h3]; omega
    rw [if_neg (fun h9 : 0 < r.pcs ∧ r.pcs ≤ ((q :: t).length : Int) => h3 (by have := hp h9.1; omega))] at h
    omega
theorem goAt_mono {r r2 : Ru} {now now2 : Int} {l : List Pc} (hb : r.bel ≤ r2.bel) (hy : 0 < r.by' → 0 < r2.by' ∧ r2.by' ≤ r.by') (ha : 0 < r.age → 0 < r2.age ∧ r2.age ≤ r.age) (hp : 0 < r.pcs → 0 < r2.pcs ∧ r2.pcs ≤ r.pcs) (hn : now ≤ now2) : goesR r now l ≤ goesR r2 now2 l :=
  goes_mono fun k => fun ⟨p, h1, h2⟩ => ⟨p, h1, go_why hb hy ha hp hn h2⟩
theorem goes_none {now b : Int} {l : List Pc} : goesR ⟨0, 0, 0, b⟩ now l = 0 := by
  rcases Nat.eq_zero_or_pos (goesR ⟨0, 0, 0, b⟩ now l) with h | h
  · exact h
  · obtain ⟨p, _, h2⟩ := goes_below h
    exfalso
    revert h2
    cases l.drop (0 + 1) with
    | nil => simp [whyR, goB]
    | cons q t => simp only [whyR]; split <;> simp [goB]
theorem goes_lt {r : Ru} {now : Int} {l : List Pc} (h : 0 < l.length) : goesR r now l < l.length := by
  rcases Nat.lt_or_ge (goesR r now l) l.length with h1 | h1
  · exact h1
  · obtain ⟨p, h2, h3⟩ := goes_below (r := r) (now := now) (l := l) (k := l.length - 1) (by omega)
    rw [List.drop_eq_nil_of_le (by omega)] at h3
    simp [whyR, goB] at h3
/-- Why, at each place. -/
theorem why_says {r : Ru} {now : Int} {l : List Pc} {k : Nat} (hk : k < l.length) : (goB (whyAt r now l k) = true ↔ k < goesR r now l) ∧ (k = goesR r now l → whyAt r now l k ≠ 6) ∧ (whyAt r now l k = 4 ↔ k + 1 = l.length) ∧ whyAt r now l k ≤ 6 := by
  obtain ⟨p, hp⟩ : ∃ p, l[k]? = some p := ⟨_, List.getElem?_eq_getElem hk⟩
  have h1 := whyAt_is (r := r) (now := now) hp
  have h2 := whyR_le r now p (l.drop (k + 1))
  have h4 := whyR_four r now p (l.drop (k + 1))
  have h5 : l.drop (k + 1) = [] ↔ k + 1 = l.length := by simp; omega
  have hga : goAt r now l k ↔ goB (whyR r now p (l.drop (k + 1))) = true := by
    constructor
    · rintro ⟨q, hq, h⟩; rw [hp] at hq; cases hq; exact h
    · intro h; exact ⟨p, hp, h⟩
  rw [h5] at h4
  rw [h1]
  generalize whyR r now p (l.drop (k + 1)) = x at *
  by_cases hg : goB x = true
  · have hx := (goB_iff x).1 hg
    have hne : k ≠ goesR r now l := fun e => goes_at (e ▸ hga.2 hg)
    by_cases hlt : goesR r now l < k
    · rw [if_pos ⟨hg, hlt⟩]
      exact ⟨⟨fun h => (by simp [goB] at h), fun h => (by omega)⟩, fun e => absurd e hne, ⟨fun h => (by omega), fun h => (by have := h4.2 h; omega)⟩, Nat.le_refl _⟩
    · rw [if_neg (fun h => hlt h.2)]
      exact ⟨⟨fun h => (by omega), fun h => hg⟩, fun e => absurd e hne, h4, (by omega)⟩
  · rw [if_neg (fun h => hg h.1)]
    exact ⟨⟨fun h => absurd h hg, fun h => absurd (hga.1 (goes_below h)) hg⟩, fun e => (by omega), h4, (by omega)⟩
theorem goes_drop {r : Ru} {now : Int} : ∀ {l : List Pc}, goesR r now (l.drop (goesR r now l)) = 0
  | [] => rfl
  | p :: t => by
    by_cases hg : goB (whyR r now p t) = true
    · have : goesR r now (p :: t) = goesR r now t + 1 := by simp only [goesR]; rw [if_pos hg]
      rw [this]
      simpa using goes_drop (l := t)
    · have : goesR r now (p :: t) = 0 := by simp only [goesR]; rw [if_neg hg]
      rw [this, List.drop_zero, this]
theorem goes_base {r : Ru} {now : Int} {l : List Pc} {q : Pc} (h : 0 < goesR r now l) (hq : l[goesR r now l]? = some q) : q.b ≤ r.bel := by
  obtain ⟨p, h2, h3⟩ := goes_below (r := r) (now := now) (l := l) (k := goesR r now l - 1) (by omega)
  rw [show goesR r now l - 1 + 1 = goesR r now l by omega, drop_cons hq] at h3
  apply Decidable.byContradiction
  intro hn
  simp only [whyR] at h3
  rw [if_pos (by omega)] at h3
  simp [goB] at h3
theorem ordR_drop : ∀ {l : List Pc} {z : Int} (k : Nat), ordR z l = true → z ≥ -1 → ordR (-1) (l.drop k) = true
  | [], z, k, _, _ => by simp [ordR]
  | p :: t, z, 0, h, hz => by
    simp only [ordR, Bool.and_eq_true, decide_eq_true_eq, List.drop_zero] at h ⊢
    exact ⟨⟨h.1.1, by have := (may_yes h.1.1).1; omega⟩, h.2⟩
  | p :: t, z, k + 1, h, hz => by
    simp only [ordR, Bool.and_eq_true, decide_eq_true_eq] at h
    simpa using ordR_drop k h.2 (by have := (may_yes h.1.1).1; omega)
/-- When more go. -/
theorem why_age {r : Ru} {now : Int} {p : Pc} {t : List Pc} (h : whyR r now p t = 0) (ha : 0 < r.age) : now - p.t ≤ r.age ∧ (∀ now2, now2 - p.t ≤ r.age → whyR r now2 p t = 0) ∧ (∀ now2, r.age < now2 - p.t → goB (whyR r now2 p t) = true) := by
  cases t with
  | nil => simp [whyR] at h
  | cons q t =>
    simp only [whyR] at h ⊢
    by_cases h5 : r.bel < q.b
    · rw [if_pos h5] at h; omega
    rw [if_neg h5] at h
    by_cases h1 : 0 < r.by' ∧ r.by' ≤ sumB (q :: t)
    · rw [if_pos h1] at h; omega
    rw [if_neg h1] at h
    by_cases h2 : 0 < r.age ∧ r.age < now - p.t
    · rw [if_pos h2] at h; omega
    rw [if_neg h2] at h
    refine ⟨by omega, fun n2 h9 => ?_, fun n2 h9 => ?_⟩
    · rw [if_neg h5, if_neg h1, if_neg (by omega)]; exact h
    · rw [if_neg h5, if_neg h1, if_pos ⟨ha, h9⟩]; simp [goB]
theorem why_ageless {r : Ru} {now now2 : Int} {p : Pc} {t : List Pc} (h : r.age = 0 ∨ ¬ whyR r now p t = 0) (hg : ¬ goB (whyR r now p t) = true) : ¬ goB (whyR r now2 p t) = true := by
  cases t with
  | nil => simp [whyR, goB]
  | cons q t =>
    rw [goB_iff] at hg ⊢
    simp only [whyR] at h hg ⊢
    by_cases h5 : r.bel < q.b
    · rw [if_pos h5]; omega
    rw [if_neg h5] at h hg ⊢
    by_cases h1 : 0 < r.by' ∧ r.by' ≤ sumB (q :: t)
    · rw [if_pos h1] at hg; omega
    rw [if_neg h1] at h hg ⊢
    by_cases h2 : 0 < r.age ∧ r.age < now - p.t
    · rw [if_pos h2] at hg; omega
    rw [if_neg h2] at h hg
    by_cases h3 : 0 < r.pcs ∧ r.pcs ≤ ((q :: t).length : Int)
    · rw [if_pos h3] at hg; omega
    rw [if_neg h3] at h hg
    rcases h with h | h
    · rw [if_neg (by omega), if_neg h3]; omega
    · omega
/-- As many go at both times, where the first that stays does not go then. -/
theorem goes_same {r : Ru} {now now2 : Int} {l : List Pc} (hn : now ≤ now2) (h : ¬ goAt r now2 l (goesR r now l)) : goesR r now2 l = goesR r now l := by
  have h1 : goesR r now l ≤ goesR r now2 l := goAt_mono (Int.le_refl _) (fun h => ⟨h, Int.le_refl _⟩) (fun h => ⟨h, Int.le_refl _⟩) (fun h => ⟨h, Int.le_refl _⟩) hn
  rcases Nat.lt_or_ge (goesR r now l) (goesR r now2 l) with h2 | h2
  · exact absurd (goes_below h2) h
  · omega
theorem goes_more {r : Ru} {now now2 : Int} {l : List Pc} (hn : now ≤ now2) (h : goAt r now2 l (goesR r now l)) : goesR r now l < goesR r now2 l := by
  have h1 : goesR r now l ≤ goesR r now2 l := goAt_mono (Int.le_refl _) (fun h => ⟨h, Int.le_refl _⟩) (fun h => ⟨h, Int.le_refl _⟩) (fun h => ⟨h, Int.le_refl _⟩) hn
  rcases Nat.eq_or_lt_of_le h1 with h2 | h2
  · rw [h2] at h; exact absurd h goes_at
  · exact h2
theorem next_none {r : Ru} {now later : Int} {l : List Pc} (h : nextR r now l = none) (ha : 0 ≤ r.age) (hn : now ≤ later) (hl : later ≤ 9007199254740992) : goesR r later l = goesR r now l := by
  refine goes_same hn ?_
  rintro ⟨p, hp, hg⟩
  unfold nextR at h
  rw [drop_cons hp] at h
  simp only at h
  split at h
  · rename_i h9
    have hng : ¬ goB (whyR r now p (l.drop (goesR r now l + 1))) = true := fun e => goes_at ⟨p, hp, e⟩
    by_cases h8 : r.age = 0 ∨ ¬ whyR r now p (l.drop (goesR r now l + 1)) = 0
    · exact why_ageless h8 hng hg
    · have h7 : ¬ r.age = 0 := fun e => h8 (Or.inl e)
      have h6 : whyR r now p (l.drop (goesR r now l + 1)) = 0 := Decidable.byContradiction fun e => h8 (Or.inr e)
      have h5 : 9007199254740992 < p.t + r.age + 1 := by
        rcases h9 with h9 | h9 | h9
        · exact absurd h9 h7
        · exact absurd h6 h9
        · exact h9
      have := (why_age h6 (by omega)).2.1 later (by omega)
      rw [this] at hg
      simp [goB] at hg
  · cases h
theorem next_some {r : Ru} {now z : Int} {l : List Pc} (h : nextR r now l = some z) (ha : 0 ≤ r.age) : now < z ∧ z ≤ 9007199254740992 ∧ (∀ t, z ≤ t → goesR r now l < goesR r t l) ∧ (∀ t, now ≤ t → t < z → goesR r t l = goesR r now l) := by
  unfold nextR at h
  split at h
  · cases h
  · rename_i p t ht
    split at h
    · cases h
    · rename_i h9
      cases h
      have hp : l[goesR r now l]? = some p := by
        have := congrArg (fun x => x[0]?) ht
        simpa using this
      have ht2 : l.drop (goesR r now l + 1) = t := by
        have := congrArg (fun x => x.drop 1) ht
        simpa [List.drop_drop, Nat.add_comm] using this
      have h7 : ¬ r.age = 0 := fun e => h9 (Or.inl e)
      have h6 : whyR r now p t = 0 := Decidable.byContradiction fun e => h9 (Or.inr (Or.inl e))
      have h5 : ¬ 9007199254740992 < p.t + r.age + 1 := fun e => h9 (Or.inr (Or.inr e))
      obtain ⟨k1, k2, k3⟩ := why_age h6 (by omega)
      refine ⟨by omega, by omega, fun u hu => goes_more (by omega) ⟨p, hp, by rw [ht2]; exact k3 u (by omega)⟩, fun u hu1 hu2 => goes_same hu1 ?_⟩
      rintro ⟨q, hq, hg⟩
      rw [hp] at hq
      cases hq
      rw [ht2, k2 u (by omega)] at hg
      simp [goB] at hg
end Go.Proofs.Ytkljmjpapkopbaa
