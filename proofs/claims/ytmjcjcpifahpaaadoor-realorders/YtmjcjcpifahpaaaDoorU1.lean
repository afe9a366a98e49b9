/-
  Lists in order: a float put in, the one bound, the least and the greatest.
-/
import Derived.Test.YtmjcjcpifahpaaaDoorS2
namespace Go.Proofs.YtmjcjcpifahpaaaDoor
open Go.RowKit Go.Shelf Go.Sort Go.Lib
set_option linter.unusedVariables false

theorem bnd_lt {l : List Fl} (h : Srt l) {i j : Nat} {x : Fl} (hi : Bnd l i x) (hj : Bnd l j x) (hjl : j ≤ l.length) : ¬ i < j := by
  intro hlt
  have h1 : j - 1 < l.length := by omega
  have a1 := hj.1 _ (by omega) (List.getElem?_eq_getElem h1)
  have a2 := hi.2 _ (List.getElem?_eq_getElem (show i < l.length by omega))
  have a3 := srt_get h (show i ≤ j - 1 by omega) h1
  omega

/-- In a list in order there is one such place. -/
theorem bnd_one {l : List Fl} (h : Srt l) {i j : Nat} {x : Fl} (hi : Bnd l i x) (hj : Bnd l j x) (hil : i ≤ l.length) (hjl : j ≤ l.length) : i = j := by
  have := bnd_lt h hi hj hjl
  have := bnd_lt h hj hi hil
  omega

/-- c, put into s at k. -/
def mid (s : List Fl) (k : Nat) (c : Fl) : List Fl := s.take k ++ c :: s.drop k

theorem mid_len {s : List Fl} {k : Nat} (c : Fl) (hk : k ≤ s.length) : (mid s k c).length = s.length + 1 := by
  unfold mid; simp; omega
theorem mid_end (s : List Fl) (c : Fl) : mid s s.length c = s ++ [c] := by unfold mid; simp
theorem mid_perm (s : List Fl) (k : Nat) (c : Fl) : (mid s k c).Perm (c :: s) := by
  unfold mid
  refine List.perm_middle.trans ?_
  rw [List.take_append_drop]
theorem mid_prev {s : List Fl} {k : Nat} (c : Fl) (hk : k < s.length) : (mid s (k + 1) c)[k]? = s[k]? := by
  unfold mid
  rw [List.getElem?_append_left (by simp; omega), List.getElem?_take]
  simp
theorem mid_set {s : List Fl} {k : Nat} (c d : Fl) (hk : k ≤ s.length) : (mid s k c).set k d = mid s k d := by
  unfold mid
  rw [List.set_append_right _ _ (by simp; omega)]
  have : k - (s.take k).length = 0 := by simp; omega
  rw [this]; rfl
theorem mid_down {s : List Fl} {k : Nat} (hk : k < s.length) : mid s (k + 1) s[k] = mid s k s[k] := by
  unfold mid
  rw [List.take_succ_eq_append_getElem hk, List.append_assoc]
  simp

/-- Behind k all are behind x. -/
def Up (s : List Fl) (k : Nat) (x : Fl) : Prop := ∀ y ∈ s.drop k, pl x < pl y
theorem up_end (s : List Fl) (x : Fl) : Up s s.length x := fun y hy => by simp at hy
theorem up_down {s : List Fl} {k : Nat} {x : Fl} (hk : k < s.length) (h : Up s (k + 1) x) (hx : pl x < pl s[k]) : Up s k x := by
  intro y hy
  rw [List.drop_eq_getElem_cons hk] at hy
  rcases List.mem_cons.1 hy with rfl | hy
  · exact hx
  · exact h y hy

theorem mid_srt {s : List Fl} (h : Srt s) {k : Nat} {x : Fl} (hk : k ≤ s.length) (hlow : ∀ h0 : 0 < k, pl (s[k - 1]'(by omega)) ≤ pl x) (hup : Up s k x) : Srt (mid s k x) := by
  unfold mid Srt
  rw [List.pairwise_append]
  refine ⟨List.Pairwise.sublist (List.take_sublist _ _) h, List.pairwise_cons.2 ⟨fun y hy => Nat.le_of_lt (hup y hy), List.Pairwise.sublist (List.drop_sublist _ _) h⟩, ?_⟩
  intro a ha b hb
  obtain ⟨i, hi, rfl⟩ := List.getElem_of_mem ha
  have hik : i < k ∧ i < s.length := by simp at hi; omega
  have e1 : (s.take k)[i] = s[i]'hik.2 := by simp
  rw [e1]
  have a1 := srt_get h (show i ≤ k - 1 by omega) (show k - 1 < s.length by omega)
  have a2 := hlow (by omega)
  rcases List.mem_cons.1 hb with rfl | hb
  · omega
  · have := hup b hb
    omega

theorem srt_nil : Srt [] := List.Pairwise.nil

theorem take_more {l : List Fl} {i : Nat} (hi : i < l.length) {s : List Fl} (h : s.Perm (l.take i)) (k : Nat) : (mid s k l[i]).Perm (l.take (i + 1)) := by
  refine (mid_perm s k _).trans ?_
  rw [List.take_succ_eq_append_getElem hi]
  exact (List.Perm.cons _ h).trans (List.perm_append_comm (l₁ := [l[i]]))

/-- The outermost of the first i: to the side -1 no other is ahead of it, to 1 none behind. -/
def Om (side : Int) (l : List Fl) (i : Nat) (y : Fl) : Prop := y ∈ l ∧ ∀ z ∈ l.take i, if side = 1 then pl z ≤ pl y else pl y ≤ pl z

theorem cmpN_neg {a b : Nat} : cmpN a b = -1 ↔ a < b := by
  unfold cmpN
  split
  · simp [*]
  · split <;> simp [*]
theorem cmpN_pos {a b : Nat} : cmpN a b = 1 ↔ b < a := by
  unfold cmpN
  split
  · simp; omega
  · split <;> simp [*]

theorem om_start {side : Int} {l : List Fl} (h : 0 < l.length) : Om side l 0 l[0] := ⟨List.getElem_mem h, fun z hz => by simp at hz⟩
theorem om_turn {side : Int} (hs : side = -1 ∨ side = 1) {l : List Fl} {i : Nat} (hi : i < l.length) {y : Fl} (h : Om side l i y) (ho : ordF (l[i]).b y.b = side) : Om side l (i + 1) l[i] := by
  refine ⟨List.getElem_mem hi, fun z hz => ?_⟩
  rw [List.take_succ_eq_append_getElem hi] at hz
  have hz2 := fun hm => h.2 z hm
  rcases List.mem_append.1 hz with hz | hz
  · have := hz2 hz
    unfold ordF at ho
    rcases hs with rfl | rfl
    · rw [cmpN_neg] at ho
      simp at this ⊢
      unfold pl at *
      omega
    · rw [cmpN_pos] at ho
      simp at this ⊢
      unfold pl at *
      omega
  · obtain rfl : z = l[i] := by simpa using hz
    split <;> exact Nat.le_refl _
theorem om_stay {side : Int} (hs : side = -1 ∨ side = 1) {l : List Fl} {i : Nat} (hi : i < l.length) {y : Fl} (h : Om side l i y) (ho : ordF (l[i]).b y.b ≠ side) : Om side l (i + 1) y := by
  refine ⟨h.1, fun z hz => ?_⟩
  rw [List.take_succ_eq_append_getElem hi] at hz
  rcases List.mem_append.1 hz with hz | hz
  · exact h.2 z hz
  · obtain rfl : z = l[i] := by simpa using hz
    unfold ordF at ho
    rcases hs with rfl | rfl
    · rw [Ne, cmpN_neg] at ho
      simp
      unfold pl at *
      omega
    · rw [Ne, cmpN_pos] at ho
      simp
      unfold pl at *
      omega

/-- The least is like the first of the list in order. -/
theorem om_least {l s : List Fl} (hp : s.Perm l) (hs : Srt s) {y : Fl} (h : Om (-1) l l.length y) (h0 : 0 < s.length) : likeF y.b (s[0]).b = true := by
  rw [like_iff]
  have a1 := h.2 s[0] (by rw [List.take_length]; exact hp.mem_iff.1 (List.getElem_mem h0))
  simp at a1
  obtain ⟨i, hi, e⟩ := List.getElem_of_mem (hp.mem_iff.2 h.1)
  have a2 := srt_get hs (Nat.zero_le i) hi
  rw [e] at a2
  omega
theorem om_greatest {l s : List Fl} (hp : s.Perm l) (hs : Srt s) {y : Fl} (h : Om 1 l l.length y) (h0 : s.length - 1 < s.length) : likeF y.b (s[s.length - 1]).b = true := by
  rw [like_iff]
  have a1 := h.2 s[s.length - 1] (by rw [List.take_length]; exact hp.mem_iff.1 (List.getElem_mem h0))
  simp at a1
  obtain ⟨i, hi, e⟩ := List.getElem_of_mem (hp.mem_iff.2 h.1)
  have a2 := srt_get hs (show i ≤ s.length - 1 by omega) h0
  rw [e] at a2
  omega
end Go.Proofs.YtmjcjcpifahpaaaDoor
