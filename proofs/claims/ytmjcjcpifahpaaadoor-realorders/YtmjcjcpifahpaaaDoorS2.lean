/-
  Sorted lists: what Search and the counts tell.
-/
import Derived.Test.YtmjcjcpifahpaaaDoorS1
namespace Go.Proofs.YtmjcjcpifahpaaaDoor
open Go.RowKit Go.Shelf Go.Sort Go.Lib
set_option linter.unusedVariables false

theorem srt_get {l : List Fl} (h : Srt l) {i j : Nat} (hij : i ≤ j) (hj : j < l.length) : pl (l[i]'(by omega)) ≤ pl l[j] := by
  by_cases he : i = j
  · subst he; exact Nat.le_refl _
  · exact List.pairwise_iff_getElem.1 h i j (by omega) hj (by omega)

theorem like_iff (x y : Fl) : likeF x.b y.b = true ↔ pl x = pl y := by unfold likeF pl; simp
theorem like_not (x y : Fl) : likeF x.b y.b = false ↔ pl x ≠ pl y := by unfold likeF pl; simp

/-- Behind a search for one that is there. -/
theorem bnd_in {l : List Fl} (h : Srt l) {i : Nat} {x : Fl} (hB : Bnd l i x) (hx : x ∈ l) (hi : i ≤ l.length) :
    ∃ h : i < l.length, likeF (l[i]).b x.b = true ∧ fnd l i x = true ∧ ∀ (h0 : 0 < i), likeF (l[i - 1]).b x.b = false := by
  obtain ⟨j, hj, rfl⟩ := List.getElem_of_mem hx
  have hji : i ≤ j := by
    by_cases hlt : j < i
    · have h1 := hB.1 (l[i - 1]) (by omega) (List.getElem?_eq_getElem (by omega))
      have h2 := srt_get h (show j ≤ i - 1 by omega) (by omega)
      omega
    · omega
  have hil : i < l.length := by omega
  have h3 := hB.2 (l[i]) (List.getElem?_eq_getElem hil)
  have h4 := srt_get h hji hj
  have h5 : likeF (l[i]).b (l[j]).b = true := (like_iff _ _).2 (by omega)
  refine ⟨hil, h5, ?_, fun h0 => ?_⟩
  · unfold fnd; rw [List.getElem?_eq_getElem hil]; exact h5
  · have h6 := hB.1 (l[i - 1]) h0 (List.getElem?_eq_getElem (by omega))
    exact (like_not _ _).2 (by omega)

theorem ord_not_pos {x y : Fl} (h : pl x ≤ pl y) : ordF x.b y.b ≤ 0 := by
  have : ordL x y ≤ 0 := by
    by_cases h9 : pl x = pl y
    · have := ordL_zero x y
      rw [(like_iff x y).2 h9] at this
      have h2 : ordL x y = 0 := by simpa using this
      omega
    · have := (ordL_neg x y).2 (by omega); omega
  exact this
theorem ord_not_neg {x y : Fl} (h : pl y ≤ pl x) : 0 ≤ ordF x.b y.b := by
  have : ¬ ordL x y < 0 := fun h9 => by have := (ordL_neg x y).1 h9; omega
  have h2 : ¬ ordF x.b y.b < 0 := this
  omega
theorem ord_is_neg {x y : Fl} (h : pl x < pl y) : ordF x.b y.b < 0 := (ordL_neg x y).2 h

/-- How many of the first k are like z? -/
def cnt (l : List Fl) (k : Nat) (z : Fl) : Nat := (l.take k).countP fun y => likeF y.b z.b
theorem cnt_zero (l : List Fl) (z : Fl) : cnt l 0 z = 0 := by simp [cnt]
theorem cnt_succ {l : List Fl} {k : Nat} (h : k < l.length) (z : Fl) : cnt l (k + 1) z = cnt l k z + if likeF (l[k]).b z.b = true then 1 else 0 := by
  unfold cnt
  rw [List.take_succ_eq_append_getElem h, List.countP_append, List.countP_singleton]
theorem cnt_le (l : List Fl) (k : Nat) (z : Fl) : cnt l k z ≤ k := by
  unfold cnt
  refine Nat.le_trans List.countP_le_length ?_
  simp; omega
theorem cnt_all {l l' : List Fl} (hp : l'.Perm l) {n : Nat} (h : l.length = n) (z : Fl) : cnt l n z = cnt l' n z := by
  unfold cnt
  rw [← h, List.take_length, ← hp.length_eq, List.take_length]
  exact (hp.countP_eq _).symm

/-- Two orders of one list have like elements at each place. -/
theorem two_sorted {l1 l2 : List Fl} (h : l1.Perm l2) (h1 : Srt l1) (h2 : Srt l2) {i : Nat} (hi1 : i < l1.length) (hi2 : i < l2.length) : likeF (l1[i]).b (l2[i]).b = true := by
  have he : l1.map pl = l2.map pl := by
    refine List.Perm.eq_of_pairwise (le := fun a b : Nat => a ≤ b) (fun a b _ _ h h' => Nat.le_antisymm h h') ?_ ?_ (h.map pl)
    · exact List.pairwise_map.2 h1
    · exact List.pairwise_map.2 h2
  rw [like_iff]
  have h3 : (l1.map pl)[i]? = (l2.map pl)[i]? := by rw [he]
  rw [List.getElem?_map, List.getElem?_map, List.getElem?_eq_getElem hi1, List.getElem?_eq_getElem hi2] at h3
  simpa using h3
end Go.Proofs.YtmjcjcpifahpaaaDoor
