/-
  What more bytes change in what is read first, and what not. Nothing here speaks of the program.
-/
import Derived.Test.YtocicepnlepfeaaW9
namespace Go.Proofs.Ytocicepnlepfeaa
open Go.RowKit
set_option linter.unusedVariables false

theorem sErr_codes (l : List UInt8) (m : Nat) : sErr l m = 0 ∨ sErr l m = 110 ∨ sErr l m = 111 := by
  unfold sErr
  split
  · simp
  · split
    · simp
    · split <;> simp

theorem sErr_more (l t : List UInt8) (m : Nat) (h : sErr l m ≠ 111) : sErr (l ++ t) m = sErr l m ∧ (sErr l m = 0 → sItem (l ++ t) = sItem l ∧ sRest (l ++ t) = sRest l ++ t) := by
  have h4 : 4 ≤ l.length := by
    by_cases h4 : l.length < 4
    · exact absurd (by unfold sErr; rw [if_pos h4]) h
    · omega
  have ht : (l ++ t).take 4 = l.take 4 := List.take_append_of_le_length h4
  have hd : (l ++ t).drop 4 = l.drop 4 ++ t := List.drop_append_of_le_length h4
  have hn4 : ¬ l.length < 4 := by omega
  by_cases hm : m < val (l.take 4)
  · have e1 : sErr l m = 110 := by unfold sErr; rw [if_neg hn4, if_pos hm]
    refine ⟨?_, fun h0 => by rw [e1] at h0; cases h0⟩
    rw [e1]
    unfold sErr
    rw [ht, if_neg (by simp; omega), if_pos hm]
  · by_cases hv : l.length - 4 < val (l.take 4)
    · exact absurd (by unfold sErr; rw [if_neg hn4, if_neg hm, if_pos hv]) h
    · have e1 : sErr l m = 0 := by unfold sErr; rw [if_neg hn4, if_neg hm, if_neg hv]
      refine ⟨?_, fun _ => ⟨?_, ?_⟩⟩
      · rw [e1]
        unfold sErr
        rw [ht, if_neg (by simp; omega), if_neg hm, if_neg (by simp; omega)]
      · unfold sItem
        rw [ht, hd, List.take_append_of_le_length (by rw [List.length_drop]; omega)]
      · unfold sRest
        rw [ht, hd, List.drop_append_of_le_length (by rw [List.length_drop]; omega)]

theorem lErr_codes (m k : Nat) (l : List UInt8) : lErr m k l = 0 ∨ lErr m k l = 110 ∨ lErr m k l = 111 := by
  induction k with
  | zero => exact Or.inl rfl
  | succ k ih =>
    rw [lErr]
    split
    · exact ih
    · exact sErr_codes _ _

theorem lErr_more (m k : Nat) (l t : List UInt8) (h : lErr m k l ≠ 111) : lErr m k (l ++ t) = lErr m k l ∧ (lErr m k l = 0 → its k (l ++ t) = its k l ∧ rst k (l ++ t) = rst k l ++ t) := by
  induction k with
  | zero => exact ⟨rfl, fun _ => ⟨rfl, rfl⟩⟩
  | succ k ih =>
    by_cases h0 : lErr m k l = 0
    · have ih2 := ih (by rw [h0]; decide)
      obtain ⟨hi, hr⟩ := ih2.2 h0
      have e : lErr m (k + 1) l = sErr (rst k l) m := by rw [lErr, if_neg (by simp [h0])]
      rw [e] at h
      have hs := sErr_more (rst k l) t m h
      have e2 : lErr m (k + 1) (l ++ t) = sErr (rst k l ++ t) m := by rw [lErr, ih2.1, if_neg (by simp [h0]), hr]
      rw [e, e2]
      refine ⟨hs.1, fun hz => ?_⟩
      obtain ⟨ha, hb⟩ := hs.2 hz
      exact ⟨by rw [its, its, hi, hr, ha], by rw [rst, rst, hr, hb]⟩
    · have e : lErr m (k + 1) l = lErr m k l := by rw [lErr, if_pos h0]
      rw [e] at h ⊢
      have ih2 := ih h
      have e2 : lErr m (k + 1) (l ++ t) = lErr m k (l ++ t) := by rw [lErr, if_pos (by rw [ih2.1]; exact h0)]
      rw [e2, ih2.1]
      exact ⟨rfl, fun hz => absurd hz h0⟩

def numF (sz : Nat) (b : List UInt8) : List UInt8 × Nat := if b.length < sz then (low 0 sz, 111) else (low (val (b.take sz)) sz, 0)
def strF (M : Int) (b : List UInt8) : List UInt8 × Nat := if M < 0 then ([], 2) else if sErr b M.toNat ≠ 0 then ([], sErr b M.toNat) else (sItem b, 0)
def joinF (ls : List (List UInt8)) : List UInt8 := ls.flatMap fun s => s ++ [124]
def lstF (N M : Int) (b : List UInt8) : List UInt8 × Nat :=
  if N < 0 ∨ M < 0 then ([], 2) else if b.length < 4 then ([], 111) else if N.toNat < val (b.take 4) then ([], 110)
  else if lErr M.toNat (val (b.take 4)) (b.drop 4) ≠ 0 then ([], lErr M.toNat (val (b.take 4)) (b.drop 4)) else (joinF (its (val (b.take 4)) (b.drop 4)), 0)
def skipF (N : Int) (b : List UInt8) : List UInt8 × Nat := if N < 0 then ([], 2) else if (b.length : Int) < N then ([], 111) else ([], 0)

/-- What goes well, and what can never be, stays so with more behind; where more was wanted, no other error is told. -/
def Stays (x y : List UInt8 × Nat) : Prop := (x.2 = 111 → y.2 = 0 ∨ y.2 = 110 ∨ y.2 = 111) ∧ (x.2 ≠ 111 → x = y)

theorem numF_stays (sz : Nat) (b t : List UInt8) : Stays (numF sz b) (numF sz (b ++ t)) := by
  unfold numF
  by_cases h : b.length < sz
  · rw [if_pos h]
    refine ⟨fun _ => ?_, fun h1 => absurd rfl h1⟩
    split <;> simp
  · rw [if_neg h, if_neg (by simp; omega), List.take_append_of_le_length (by omega)]
    exact ⟨fun h1 => by simp at h1, fun _ => rfl⟩

theorem strF_stays (M : Int) (b t : List UInt8) : Stays (strF M b) (strF M (b ++ t)) := by
  unfold strF
  by_cases hM : M < 0
  · rw [if_pos hM, if_pos hM]
    exact ⟨fun h1 => by simp at h1, fun _ => rfl⟩
  · rw [if_neg hM, if_neg hM]
    by_cases h : sErr b M.toNat = 111
    · rw [if_pos (by rw [h]; decide)]
      refine ⟨fun _ => ?_, fun h1 => absurd h h1⟩
      split
      · exact sErr_codes _ _
      · exact Or.inl rfl
    · have hs := sErr_more b t M.toNat h
      rw [hs.1]
      by_cases h0 : sErr b M.toNat = 0
      · rw [if_neg (by simp [h0]), if_neg (by simp [h0]), (hs.2 h0).1]
        exact ⟨fun h1 => by simp at h1, fun _ => rfl⟩
      · rw [if_pos h0, if_pos h0]
        exact ⟨fun h1 => absurd h1 h, fun _ => rfl⟩

theorem lstF_stays (N M : Int) (b t : List UInt8) : Stays (lstF N M b) (lstF N M (b ++ t)) := by
  unfold lstF
  by_cases hM : N < 0 ∨ M < 0
  · rw [if_pos hM, if_pos hM]
    exact ⟨fun h1 => by simp at h1, fun _ => rfl⟩
  · rw [if_neg hM, if_neg hM]
    by_cases h4 : b.length < 4
    · rw [if_pos h4]
      refine ⟨fun _ => ?_, fun h1 => absurd rfl h1⟩
      split
      · simp
      · split
        · simp
        · split
          · exact lErr_codes _ _ _
          · exact Or.inl rfl
    · have ht : (b ++ t).take 4 = b.take 4 := List.take_append_of_le_length (by omega)
      have hd : (b ++ t).drop 4 = b.drop 4 ++ t := List.drop_append_of_le_length (by omega)
      have h4' : ¬ (b ++ t).length < 4 := by simp; omega
      rw [if_neg h4, if_neg h4', ht, hd]
      by_cases hv : N.toNat < val (b.take 4)
      · rw [if_pos hv, if_pos hv]
        exact ⟨fun h1 => by simp at h1, fun _ => rfl⟩
      · rw [if_neg hv, if_neg hv]
        by_cases h : lErr M.toNat (val (b.take 4)) (b.drop 4) = 111
        · rw [if_pos (by rw [h]; decide)]
          refine ⟨fun _ => ?_, fun h1 => absurd h h1⟩
          split
          · exact lErr_codes _ _ _
          · exact Or.inl rfl
        · have hs := lErr_more M.toNat (val (b.take 4)) (b.drop 4) t h
          rw [hs.1]
          by_cases h0 : lErr M.toNat (val (b.take 4)) (b.drop 4) = 0
          · rw [if_neg (by simp [h0]), if_neg (by simp [h0]), (hs.2 h0).1]
            exact ⟨fun h1 => by simp at h1, fun _ => rfl⟩
          · rw [if_pos h0, if_pos h0]
            exact ⟨fun h1 => absurd h1 h, fun _ => rfl⟩

theorem skipF_stays (N : Int) (b t : List UInt8) : Stays (skipF N b) (skipF N (b ++ t)) := by
  unfold skipF
  by_cases hN : N < 0
  · rw [if_pos hN, if_pos hN]
    exact ⟨fun h1 => by simp at h1, fun _ => rfl⟩
  · rw [if_neg hN, if_neg hN]
    by_cases h : (b.length : Int) < N
    · rw [if_pos h]
      refine ⟨fun _ => ?_, fun h1 => absurd rfl h1⟩
      split <;> simp
    · rw [if_neg h, if_neg (by simp; omega)]
      exact ⟨fun h1 => by simp at h1, fun _ => rfl⟩

/-- What a call answers at the beginning of bytes. -/
def firstF (K N M : Int) (b : List UInt8) : List UInt8 × Nat :=
  if K = 0 then numF 1 b else if K = 1 then numF 2 b else if K = 2 then numF 4 b else if K = 3 then numF 8 b else if K = 4 then numF 8 b else if K = 6 then strF M b else if K = 7 then lstF N M b else skipF N b

theorem firstF_stays (K N M : Int) (b t : List UInt8) : Stays (firstF K N M b) (firstF K N M (b ++ t)) := by
  unfold firstF
  repeat' split
  all_goals first | exact numF_stays _ _ _ | exact strF_stays _ _ _ | exact lstF_stays _ _ _ _ | exact skipF_stays _ _ _

end Go.Proofs.Ytocicepnlepfeaa
