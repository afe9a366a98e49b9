/-
  By a fair choice nobody is passed over too often: numbers.
-/
import Derived.Test.YtfhbnkfpbjloeaaD3
import Derived.Test.YtfhbnkfpbjloeaaB1
namespace Go.Proofs.Ytfhbnkfpbjloeaa
open Go.RowKit
set_option linter.unusedVariables false

/-- How many of the first n are so. -/
def cn : Nat → (Nat → Bool) → Nat
  | 0, _ => 0
  | n + 1, p => cn n p + if p n then 1 else 0
theorem cn_le {p q : Nat → Bool} : ∀ {n}, (∀ x, x < n → p x = true → q x = true) → cn n p ≤ cn n q
  | 0, _ => Nat.le_refl _
  | n + 1, h => by
    have h1 := cn_le (n := n) fun x hx => h x (by omega)
    have h2 := h n (by omega)
    show cn n p + _ ≤ cn n q + _
    cases hp : p n
    · simp; omega
    · rw [h2 hp]; simp; omega
theorem cn_lt {p q : Nat → Bool} {i : Nat} (hq : q i = true) (hp : p i = false) : ∀ {n}, i < n → (∀ x, x < n → p x = true → q x = true) → cn n p + 1 ≤ cn n q
  | 0, hi, _ => absurd hi (by omega)
  | n + 1, hi, h => by
    show cn n p + _ + 1 ≤ cn n q + _
    by_cases e : i = n
    · subst e
      have h1 := cn_le (n := i) fun x hx => h x (by omega)
      rw [hp, hq]
      simp; omega
    · have h1 := cn_lt hq hp (n := n) (by omega) fun x hx => h x (by omega)
      have h2 := h n (by omega)
      cases hp : p n
      · simp; omega
      · rw [h2 hp]; simp; omega
theorem cn_all : ∀ n, cn n (fun _ => true) = n
  | 0 => rfl
  | n + 1 => by show cn n _ + 1 = _; rw [cn_all n]
theorem cn_none {p : Nat → Bool} : ∀ {n}, (∀ x, x < n → p x = false) → cn n p = 0
  | 0, _ => rfl
  | n + 1, h => by show cn n p + _ = _; rw [cn_none fun x hx => h x (by omega), h n (by omega)]; rfl
theorem cn_pos {p : Nat → Bool} {n i : Nat} (hi : i < n) (h : p i = true) : 1 ≤ cn n p := by
  have := cn_lt (p := fun _ => false) (q := p) h rfl hi (fun x _ h => by cases h)
  omega
/-- Of n tasks few were passed over often. -/
def Few (n M : Nat) (f : Nat → Nat) : Prop := ∀ j, cn n (fun x => decide (M + j ≤ f x)) ≤ n - 1 - j
theorem few_zero {n M : Nat} (hM : 0 < M) : Few n M (fun _ => 0) := fun j => by
  rw [cn_none fun x _ => by simp; omega]
  omega
theorem few_step {n k M p i : Nat} {f : Nat → Nat} {c : List Bool} (hM : M = max k 1) (h : Few n M f) (hi : i < n) (hw : Who f n k c p i) (hc : c.length = n) : Few n M (pv f c i) := by
  have hv : ∀ x, 1 ≤ pv f c i x → c[x]? = some true ∧ x ≠ i ∧ pv f c i x = f x + 1 := fun x hx => by
    unfold pv at hx ⊢
    split at hx
    · rename_i h9
      rw [if_pos h9]
      exact ⟨h9.1, fun e => h9.2 (by rw [e]), rfl⟩
    · omega
  have hii : pv f c i i = 0 := by unfold pv; rw [if_neg]; simp
  intro j
  cases j with
  | zero =>
    have := cn_lt (p := fun x => decide (M + 0 ≤ pv f c i x)) (q := fun _ => true) (i := i) rfl (by rw [hii]; simp; omega) hi (fun _ _ _ => rfl)
    rw [cn_all] at this
    omega
  | succ j =>
    by_cases hx : ∃ x, x < n ∧ M + (j + 1) ≤ pv f c i x
    · obtain ⟨x, hxn, hx⟩ := hx
      obtain ⟨h1, h2, h3⟩ := hv x (by omega)
      have hfi : M + j ≤ f i := by
        rcases hw with (⟨a, -⟩ | ⟨-, -, -, -, a5⟩) | ⟨⟨-, -, a3⟩ | ⟨a, -⟩, -⟩
        · cases a
        · have := (a5 x hxn h1).1; omega
        · have := a3 x hxn h1; omega
        · cases a
      have h4 := cn_lt (p := fun x => decide (M + (j + 1) ≤ pv f c i x)) (q := fun x => decide (M + j ≤ f x)) (i := i) (by simp; omega) (by rw [hii]; simp <;> omega) hi (fun y hy h => by
        simp only [decide_eq_true_eq] at h ⊢
        have := (hv y (by omega)).2.2
        omega)
      have := h j
      omega
    · rw [cn_none fun x hxn => by
        rw [decide_eq_false_iff_not]
        exact fun e => hx ⟨x, hxn, e⟩]
      omega
theorem few_le {n M : Nat} {f : Nat → Nat} (h : Few n M f) {x : Nat} (hx : x < n) : f x < M + (n - 1) := by
  apply Decidable.byContradiction
  intro hn
  have h1 := cn_pos (p := fun x => decide (M + (n - 1) ≤ f x)) hx (by simp; omega)
  have := h (n - 1)
  omega

/-- The bound. -/
def bnd (n k : Nat) : Nat := if n = 1 then 0 else max k 1 + (n - 2)
theorem cnts_app (l : List Int) (L : List (List Bool)) (t : Int) (c : List Bool) (hl : l.length = L.length) : ∀ k, k ≤ l.length → cnts (l ++ [t]) (L ++ [c]) k = cnts l L k
  | 0, _ => rfl
  | k + 1, h => by
    show pv _ _ _ = pv _ _ _
    rw [cnts_app l L t c hl k (by omega)]
    simp only [List.getD_eq_getElem?_getD]
    rw [List.getElem?_append_left (by omega), List.getElem?_append_left (by omega)]
theorem mostM_app (l : List Int) (L : List (List Bool)) (t : Int) (c : List Bool) (n : Nat) (hl : l.length = L.length) : ∀ k, k ≤ l.length → mostM (l ++ [t]) (L ++ [c]) n k = mostM l L n k
  | 0, _ => rfl
  | k + 1, h => by
    show max _ _ = max _ _
    rw [mostM_app l L t c n hl k (by omega), cnts_app l L t c hl (k + 1) h]
/-- What stands between two turns. -/
structure Sb (n k : Nat) (ws : List Int) (Ls : List (List Bool)) (f : Nat → Nat) : Prop where
  len : ws.length = Ls.length
  ok : ∀ (i : Nat) (t : Int) (c : List Bool), ws[i]? = some t → Ls[i]? = some c → OkAt n t c
  cnt : cnts ws Ls ws.length = f
  most : mostM ws Ls n ws.length ≤ bnd n k
  few : Few n (max k 1) f
  one : n = 1 → f 0 = 0
theorem Sb.nil (n k : Nat) : Sb n k [] [] (fun _ => 0) := ⟨rfl, (fun i t c h => by simp at h), rfl, Nat.zero_le _, few_zero (by omega), fun _ => rfl⟩
theorem Sb.next {n k p i : Nat} {ws : List Int} {Ls : List (List Bool)} {f : Nat → Nat} {c : List Bool} (h : Sb n k ws Ls f) (hn : 0 < n) (hc : c.length = n) (hw : Who f n k c p i) : Sb n k (ws ++ [(i : Int)]) (Ls ++ [c]) (pv f c i) := by
  have hi : i < n := by have := (List.getElem?_eq_some_iff.1 hw.on).1; omega
  have hok : OkAt n i c := ⟨hc, by omega, by omega, by simpa using hw.on⟩
  have hfew := few_step rfl h.few hi hw hc
  have hone : n = 1 → pv f c i 0 = 0 := fun e => by
    obtain rfl : i = 0 := by omega
    unfold pv; rw [if_neg]; simp
  have hcnt : cnts (ws ++ [(i : Int)]) (Ls ++ [c]) (ws.length + 1) = pv f c i := by
    rw [cnts_step (t := (i : Int)) (c := c) (by simp) (by rw [h.len]; simp), cnts_app ws Ls _ _ h.len _ (Nat.le_refl _), h.cnt]
  refine ⟨by simp [h.len], fun j t d h1 h2 => ?_, by simpa using hcnt, ?_, hfew, hone⟩
  · rcases Nat.lt_or_ge j ws.length with hj | hj
    · rw [List.getElem?_append_left hj] at h1
      rw [List.getElem?_append_left (by have := h.len; omega)] at h2
      exact h.ok j t d h1 h2
    · have hj2 := (List.getElem?_eq_some_iff.1 h1).1
      obtain rfl : j = ws.length := by simp at hj2; omega
      rw [List.getElem?_append_right (Nat.le_refl _)] at h1
      rw [h.len, List.getElem?_append_right (Nat.le_refl _)] at h2
      simp at h1 h2
      subst h1 h2
      exact hok
  · have e : (ws ++ [(i : Int)]).length = ws.length + 1 := by simp
    rw [e]
    show max (mostM _ _ n ws.length) (maxF n (cnts _ _ (ws.length + 1))) ≤ _
    rw [mostM_app ws Ls _ _ n h.len _ (Nat.le_refl _), hcnt]
    have h1 := h.most
    have h2 : maxF n (pv f c i) ≤ bnd n k := by
      apply maxF_le
      intro x hx
      unfold bnd
      by_cases e1 : n = 1
      · rw [if_pos e1]
        obtain rfl : x = 0 := by omega
        rw [hone e1]
        exact Nat.le_refl _
      · rw [if_neg e1]
        have := few_le hfew hx
        omega
    omega
theorem Sb.wid {n k : Nat} {ws : List Int} {Ls : List (List Bool)} {f : Nat → Nat} (h : Sb n k ws Ls f) (h0 : 0 < ws.length) : wid Ls = n := by
  obtain ⟨t, ht⟩ : ∃ t, ws[0]? = some t := ⟨_, List.getElem?_eq_getElem h0⟩
  obtain ⟨c, hc⟩ : ∃ c, Ls[0]? = some c := ⟨_, List.getElem?_eq_getElem (by have := h.len; omega)⟩
  rw [wid_of hc]
  exact (h.ok 0 t c ht hc).1
theorem Sb.res {n k : Nat} {ws : List Int} {Ls : List (List Bool)} {f : Nat → Nat} (h : Sb n k ws Ls f) (h0 : 0 < ws.length) {v e : Int} (hr : MostR ws Ls v e) : e = 0 ∧ 0 ≤ v ∧ v ≤ bnd n k := by
  have hw := h.wid h0
  have hok : OkM ws Ls := ⟨h.len, fun i t c _ h1 h2 => by rw [hw]; exact h.ok i t c h1 h2⟩
  rcases hr with ⟨a, -, -⟩ | ⟨-, b, c⟩
  · exact absurd hok a
  · rw [hw] at b
    have := h.most
    exact ⟨c, by omega, by omega⟩
end Go.Proofs.Ytfhbnkfpbjloeaa
