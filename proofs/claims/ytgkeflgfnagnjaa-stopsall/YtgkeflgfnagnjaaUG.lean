/-
  StopsNumbers: what the law says of the numbers. No word of the program but its answers.
-/
import Derived.Test.YtgkeflgfnagnjaaUF
namespace Go.Proofs.Ytgkeflgfnagnjaa
open Go.RowKit
set_option linter.unusedVariables false

theorem stp_in : ∀ {U : List (Bool × Nat)} {ys : List Int} (h : Wy U ys) (hb : ∀ y ∈ ys, 0 ≤ y ∧ y ≤ 1000002), ∀ x ∈ stpL U ys, 0 ≤ x ∧ x ≤ 1000002
  | [], [], _, _, x, hx => by simp [stpL] at hx
  | u :: t, y :: ys, h, hb, x, hx => by
    simp only [stpL, List.mem_append] at hx
    rcases hx with hx | hx
    · have := pkL_in (modL u.1 u.2) (fun m hm => (modL_in hm).1) y (hb y (by simp)).1 x hx
      have := (hb y (by simp)).2
      omega
    · exact stp_in h.2 (fun y hy => hb y (by simp [hy])) x hx
theorem stpL_len : ∀ (U : List (Bool × Nat)) (ys : List Int), (stpL U ys).length ≤ 2 * U.length
  | [], _ => by simp [stpL]
  | u :: t, [] => by simp [stpL]
  | u :: t, y :: ys => by
    have h1 := pkL_len (modL u.1 u.2) y
    have h2 := modL_len u.1 u.2
    have h3 := stpL_len t ys
    simp only [stpL, List.length_append, List.length_cons]
    omega
theorem negB_of {l : List Int} (h : ∀ x ∈ l, 0 ≤ x) : negB l = false := by
  unfold negB
  rw [List.any_eq_false]
  intro x hx
  have := h x hx
  simpa using this
/-- A number within the ways, there and back. -/
theorem at_back {L : List Rf} {i : Nat} {fs : List (Int × Int)} {st : Int} (hw : Lw L fs st i) (hi : i ≤ 300) (hg : Gd L) {N : Nat} (hE : cntE (unsF L) = 0) (hN : N < prodW (unsF L)) :
    atE N L = 0 ∧ negB (atV N L) = false ∧ (cgs (atV N L) L).1 = atV N L ∧ nmV (atV N L) L = (N : Int) ∧ nmE (atV N L) L = 0 ∧ (∀ x ∈ atV N L, x < 9223372036854775808) ∧ (atV N L).length ≤ 600 := by
  have h0 : atE N L = 0 := by
    unfold atE
    rw [if_neg (by omega), if_neg (by simp [hE]), if_neg (by omega)]
  have hV : atV N L = stpL (unsF L) (atW (unsF L) N) := by unfold atV; rw [if_pos h0, Int.toNat_natCast]
  have hwy := atW_wy (unsF L) N
  have hin := stp_in hwy (way_few (uns_few hw hi) hwy)
  have hn : negB (atV N L) = false := by rw [hV]; exact negB_of (fun x hx => (hin x hx).1)
  have hb := wb_stp0 hwy
  refine ⟨h0, hn, ?_, ?_, ?_, ?_, ?_⟩
  · rw [cgs_plain _ (by rw [hV]; exact fun x hx => (hin x hx).1) hg]
    show stpL (unsF L) (wbL (atV N L) (unsF L) 0) = _
    rw [hV, hb]
  · unfold nmV
    rw [if_neg (by simp [hn]), if_pos hE, hV, hb, numW_at]
    rw [Nat.mod_eq_of_lt hN]
    omega
  · unfold nmE
    rw [if_neg (by simp [hn]), hE]
  · rw [hV]
    intro x hx
    have := hin x hx
    omega
  · rw [hV]
    have := stpL_len (unsF L) (atW (unsF L) N)
    have := uns_len hw
    omega
/-- The number of picks lies within the ways. -/
theorem nm_in {L : List Rf} {l : List Int} (hb : negB l = false) (hE : cntE (unsF L) = 0) : 0 ≤ nmV l L ∧ nmV l L < (prodW (unsF L) : Int) := by
  unfold nmV
  rw [if_neg (by simp [hb]), if_pos hE]
  have := numW_in (wb_wy0 l (negB_no hb) (unsF L)) 0 (Int.le_refl _)
  omega
end Go.Proofs.Ytgkeflgfnagnjaa
