/-
  StopsAll: the next way in the document's words, of picks and of what they were taken modulo: it is the next number's.
-/
import Derived.Test.YtgkeflgfnagnjaaYH
namespace Go.Proofs.Ytgkeflgfnagnjaa
open Go.RowKit
set_option linter.unusedVariables false

/-- What the picks of a way are taken modulo. -/
def mdL : List Int → Int → List Int
  | [], _ => []
  | m :: t, y => if y ≤ m - 1 then (if y = 0 then [m] else m :: mdL t 0) else m :: mdL t (y - (m - 1))
def mdS : List (Bool × Nat) → List Int → List Int
  | u :: t, y :: ys => mdL (modL u.1 u.2) y ++ mdS t ys
  | _, _ => []
/-- The last pick that can be more is one more, and what is behind it is away. -/
def nxt : List Int → List Int → Option (List Int)
  | p :: ps, m :: ms => match nxt ps ms with
    | some q => some (p :: q)
    | none => if p < m - 1 then some [p + 1] else none
  | _, _ => none
def sucW : List (Bool × Nat) → List Int → Option (List Int)
  | u :: t, y :: ys => match sucW t ys with
    | some zs => some (y :: zs)
    | none => if y + 1 < (wayN u.1 u.2 : Int) then some ((y + 1) :: t.map (fun _ => (0 : Int))) else none
  | _, _ => none
theorem mdL_len : ∀ (M : List Int) (y : Int), (mdL M y).length = (pkL M y).length
  | [], _ => rfl
  | m :: t, y => by
    simp only [mdL, pkL]
    split
    · split
      · rfl
      · simp [mdL_len t 0]
    · simp [mdL_len t (y - (m - 1))]
theorem mdS_len : ∀ (U : List (Bool × Nat)) (ys : List Int), (mdS U ys).length = (stpL U ys).length
  | [], ys => by simp [mdS, stpL]
  | u :: t, [] => by simp [mdS, stpL]
  | u :: t, y :: ys => by simp [mdS, stpL, mdL_len, mdS_len t ys]
theorem nxt_app : ∀ (a ma b mb : List Int), ma.length = a.length → nxt (a ++ b) (ma ++ mb) = match nxt b mb with | some q => some (a ++ q) | none => nxt a ma
  | [], [], b, mb, _ => by
    simp only [List.nil_append]
    cases nxt b mb <;> simp [nxt]
  | p :: a, m :: ma, b, mb, h => by
    have ih := nxt_app a ma b mb (by simpa using h)
    simp only [List.cons_append, nxt]
    rw [ih]
    cases nxt b mb <;> simp
theorem modL_pos {nm : Bool} {k : Nat} : ∀ m ∈ modL nm k, 2 ≤ m := by
  intro m hm
  unfold modL at hm
  rcases List.mem_append.1 hm with h | h
  · split at h <;> simp at h; omega
  · split at h <;> simp at h; omega
theorem nxt_file (nm : Bool) (k : Nat) (y : Int) (h0 : 0 ≤ y) (h1 : y < (wayN nm k : Int)) :
    (y + 1 < (wayN nm k : Int) → ∃ q z, nxt (pkL (modL nm k) y) (mdL (modL nm k) y) = some q ∧ q ++ List.replicate z 0 = pkL (modL nm k) (y + 1)) ∧ (¬ y + 1 < (wayN nm k : Int) → nxt (pkL (modL nm k) y) (mdL (modL nm k) y) = none) := by
  unfold wayN at h1
  unfold wayN
  cases nm with
  | false =>
    by_cases hk : k = 0
    · subst hk
      exact ⟨fun h => by simp at h; omega, fun _ => rfl⟩
    · have e : modL false k = [(k : Int) + 1] := by simp [modL, hk]
      rw [e]
      simp only [Bool.false_eq_true, if_false] at h1 ⊢
      have hy : y ≤ (k : Int) + 1 - 1 := by omega
      have e1 : pkL [(k : Int) + 1] y = [y] := by
        simp only [pkL, if_pos hy]
        split
        · rename_i h; rw [h]
        · rfl
      have e2 : mdL [(k : Int) + 1] y = [(k : Int) + 1] := by
        simp only [mdL, if_pos hy]
        split <;> rfl
      rw [e1, e2]
      refine ⟨fun h => ⟨[y + 1], 0, ?_, ?_⟩, fun h => ?_⟩
      · simp only [nxt]
        rw [if_pos (by omega)]
      · simp only [pkL]
        rw [if_pos (by omega), if_neg (by omega)]
        simp
      · simp only [nxt]
        rw [if_neg (by omega)]
  | true =>
    by_cases hk : k = 0
    · subst hk
      have e : modL true 0 = [2] := by simp [modL]
      rw [e]
      simp only [if_true] at h1 ⊢
      by_cases hy : y = 0
      · subst hy
        exact ⟨fun _ => ⟨[1], 0, by simp [nxt, pkL, mdL], by simp [pkL]⟩, fun h => by omega⟩
      · obtain rfl : y = 1 := by omega
        exact ⟨fun h => by omega, fun _ => by simp [nxt, pkL, mdL]⟩
    · have e : modL true k = [2, (k : Int) + 1] := by simp [modL, hk]
      rw [e]
      simp only [if_true] at h1 ⊢
      by_cases hy : y = 0
      · subst hy
        refine ⟨fun _ => ⟨[1], 1, by simp [nxt, pkL, mdL], ?_⟩, fun h => by omega⟩
        have hk0 : (0 : Int) ≤ (k : Int) + 1 - 1 := by omega
        simp [pkL]
      · obtain ⟨z, rfl⟩ : ∃ z, y = z + 1 := ⟨y - 1, by omega⟩
        have e1 : ∀ x : Int, 0 ≤ x → x ≤ k → pkL [2, (k : Int) + 1] (x + 1) = [1, x] := fun x hx hk' => by
          simp only [pkL]
          by_cases hx0 : x = 0
          · subst hx0
            simp
          · rw [if_neg (by omega), if_pos (by omega), if_neg (by omega)]
            have : x + 1 - (2 - 1) = x := by omega
            rw [this]
            rfl
        have e2 : mdL [2, (k : Int) + 1] (z + 1) = [2, (k : Int) + 1] := by
          simp only [mdL]
          by_cases hx0 : z = 0
          · subst hx0
            simp
          · rw [if_neg (by omega), if_pos (by omega), if_neg (by omega)]
        rw [e1 z (by omega) (by omega), e2]
        refine ⟨fun h => ⟨[1, z + 1], 0, ?_, ?_⟩, fun h => ?_⟩
        · simp only [nxt]
          rw [if_pos (by omega)]
        · rw [e1 (z + 1) (by omega) (by omega)]
          simp
        · simp only [nxt]
          rw [if_neg (by omega)]
          simp
theorem stp_zero : ∀ U : List (Bool × Nat), ∃ z, stpL U (U.map (fun _ => (0 : Int))) = List.replicate z 0
  | [] => ⟨0, rfl⟩
  | u :: t => by
    obtain ⟨z, hz⟩ := stp_zero t
    simp only [List.map_cons, stpL]
    rw [hz]
    have hp := @modL_pos u.1 u.2
    cases hM : modL u.1 u.2 with
    | nil => exact ⟨z, by simp [pkL]⟩
    | cons m r =>
      have h2 := hp m (by rw [hM]; exact List.mem_cons_self)
      refine ⟨z + 1, ?_⟩
      simp only [pkL]
      rw [if_pos (by omega)]
      simp [List.replicate_succ]
theorem nxt_stp : ∀ (U : List (Bool × Nat)) (ys : List Int), Wy U ys →
    (∀ zs, sucW U ys = some zs → ∃ q z, nxt (stpL U ys) (mdS U ys) = some q ∧ q ++ List.replicate z 0 = stpL U zs) ∧ (sucW U ys = none → nxt (stpL U ys) (mdS U ys) = none)
  | [], [], _ => ⟨fun zs h => by simp [sucW] at h, fun _ => rfl⟩
  | u :: t, y :: ys, h => by
    obtain ⟨i1, i2⟩ := nxt_stp t ys h.2
    obtain ⟨f1, f2⟩ := nxt_file u.1 u.2 y h.1.1 h.1.2
    have ha := nxt_app (pkL (modL u.1 u.2) y) (mdL (modL u.1 u.2) y) (stpL t ys) (mdS t ys) (mdL_len _ _)
    simp only [stpL, mdS]
    rw [ha]
    cases hs : sucW t ys with
    | some ws =>
      obtain ⟨q, z, e1, e2⟩ := i1 ws hs
      rw [e1]
      refine ⟨fun zs hz => ?_, fun hz => by simp [sucW, hs] at hz⟩
      simp only [sucW, hs, Option.some.injEq] at hz
      subst hz
      exact ⟨_, z, rfl, by simp only [stpL]; rw [← e2, List.append_assoc]⟩
    | none =>
      rw [i2 hs]
      by_cases hy : y + 1 < (wayN u.1 u.2 : Int)
      · refine ⟨fun zs hz => ?_, fun hz => (by simp only [sucW, hs] at hz; rw [if_pos hy] at hz; cases hz)⟩
        simp only [sucW, hs] at hz
        rw [if_pos hy] at hz
        simp only [Option.some.injEq] at hz
        subst hz
        obtain ⟨q, z, e1, e2⟩ := f1 hy
        obtain ⟨z2, e3⟩ := stp_zero t
        refine ⟨q, z + z2, e1, ?_⟩
        simp only [stpL]
        rw [e3, ← e2, List.append_assoc, List.replicate_append_replicate]
      · exact ⟨fun zs hz => (by simp only [sucW, hs] at hz; rw [if_neg hy] at hz; cases hz), fun _ => f2 hy⟩
/-- Noughts behind picks say nothing. -/
theorem pickR_zeros (l : List Int) (z k k' : Nat) (m : Int) (h : k = k' ∨ (k' = l.length ∧ l.length ≤ k)) : pickR (l ++ List.replicate z 0) k m = pickR l k' m := by
  unfold pickR
  rcases h with rfl | ⟨rfl, h2⟩
  · by_cases hk : k < l.length
    · rw [List.getElem?_append_left hk]
    · rw [List.getElem?_append_right (by omega), List.getElem?_eq_none (l := l) (by omega)]
      by_cases hz : k - l.length < z
      · rw [List.getElem?_replicate_of_lt hz]; simp
      · rw [List.getElem?_eq_none (by simp; omega)]
  · rw [List.getElem?_append_right (by omega), List.getElem?_eq_none (l := l) (Nat.le_refl _)]
    by_cases hz : k - l.length < z
    · rw [List.getElem?_replicate_of_lt hz]; simp
    · rw [List.getElem?_eq_none (by simp; omega)]
theorem tkW_zeros (l : List Int) (z : Nat) : ∀ (M : List Int) (k k' : Nat) (y : Int), (k = k' ∨ (k' = l.length ∧ l.length ≤ k)) →
    (tkW (l ++ List.replicate z 0) M k y).1 = (tkW l M k' y).1 ∧ ((tkW (l ++ List.replicate z 0) M k y).2 = (tkW l M k' y).2 ∨ ((tkW l M k' y).2 = l.length ∧ l.length ≤ (tkW (l ++ List.replicate z 0) M k y).2))
  | [], k, k', y, h => ⟨rfl, h⟩
  | m :: t, k, k', y, h => by
    have hp := pickR_zeros l z k k' m h
    have hn : min (k + 1) (l ++ List.replicate z 0).length = min (k' + 1) l.length ∨ (min (k' + 1) l.length = l.length ∧ l.length ≤ min (k + 1) (l ++ List.replicate z 0).length) := by
      rw [List.length_append, List.length_replicate]
      rcases h with rfl | ⟨rfl, h2⟩ <;> omega
    simp only [tkW]
    rw [hp]
    split
    · exact ⟨rfl, hn⟩
    · exact tkW_zeros l z t _ _ _ hn
theorem wbL_zeros (l : List Int) (z : Nat) : ∀ (U : List (Bool × Nat)) (k k' : Nat), (k = k' ∨ (k' = l.length ∧ l.length ≤ k)) → wbL (l ++ List.replicate z 0) U k = wbL l U k'
  | [], _, _, _ => rfl
  | u :: t, k, k', h => by
    obtain ⟨h1, h2⟩ := tkW_zeros l z (modL u.1 u.2) k k' 0 h
    simp only [wbL]
    rw [h1, wbL_zeros l z t _ _ h2]
theorem plnL_zeros (l : List Int) (z : Nat) (L : List Rf) : plnL (l ++ List.replicate z 0) L = plnL l L := by
  unfold plnL
  rw [wbL_zeros l z _ 0 0 (.inl rfl)]
theorem atW_zero : ∀ U : List (Bool × Nat), atW U 0 = U.map (fun _ => (0 : Int))
  | [] => rfl
  | u :: t => by simp [atW, atW_zero t]
/-- The next number's way. -/
theorem suc_at : ∀ (U : List (Bool × Nat)) (k : Nat), k < prodW U → (k + 1 < prodW U → sucW U (atW U k) = some (atW U (k + 1))) ∧ (¬ k + 1 < prodW U → sucW U (atW U k) = none)
  | [], k, h => ⟨fun h2 => by simp only [prodW] at h2; omega, fun _ => rfl⟩
  | u :: t, k, h => by
    have hP := prodW_pos t
    have hprod : prodW (u :: t) = wayN u.1 u.2 * prodW t := rfl
    rw [hprod] at h ⊢
    have hr : k % prodW t < prodW t := Nat.mod_lt _ (by omega)
    have hk : k = (k / prodW t) * prodW t + k % prodW t := by rw [Nat.mul_comm]; exact (Nat.div_add_mod _ _).symm
    have hy : k / prodW t < wayN u.1 u.2 := (Nat.div_lt_iff_lt_mul (by omega)).2 h
    obtain ⟨i1, i2⟩ := suc_at t (k % prodW t) hr
    have ha : atW t k = atW t (k % prodW t) := by
      conv => lhs; rw [hk]
      exact atW_add t _ _
    have hsu : sucW (u :: t) (atW (u :: t) k) = match sucW t (atW t (k % prodW t)) with
        | some zs => some (((k / prodW t % wayN u.1 u.2 : Nat) : Int) :: zs)
        | none => if ((k / prodW t % wayN u.1 u.2 : Nat) : Int) + 1 < (wayN u.1 u.2 : Int) then some ((((k / prodW t % wayN u.1 u.2 : Nat) : Int) + 1) :: t.map (fun _ => (0 : Int))) else none := by rw [← ha]; rfl
    have hat : atW (u :: t) (k + 1) = (((k + 1) / prodW t % wayN u.1 u.2 : Nat) : Int) :: atW t (k + 1) := rfl
    rw [hsu, hat]
    by_cases hc : k % prodW t + 1 < prodW t
    · rw [i1 hc]
      have hlt : k + 1 < wayN u.1 u.2 * prodW t := by
        have : (k / prodW t + 1) * prodW t ≤ wayN u.1 u.2 * prodW t := Nat.mul_le_mul_right _ hy
        rw [Nat.succ_mul] at this
        omega
      have hk1 : k + 1 = (k / prodW t) * prodW t + (k % prodW t + 1) := by omega
      have hd : (k + 1) / prodW t = k / prodW t := by
        conv => lhs; rw [hk1]
        rw [Nat.add_comm, Nat.add_mul_div_right _ _ (by omega), Nat.div_eq_of_lt hc, Nat.zero_add]
      have ha1 : atW t (k + 1) = atW t (k % prodW t + 1) := by
        conv => lhs; rw [hk1]
        exact atW_add t _ _
      rw [hd, ha1]
      exact ⟨fun _ => rfl, fun h2 => (h2 hlt).elim⟩
    · rw [i2 hc]
      have hk1 : k + 1 = (k / prodW t + 1) * prodW t + 0 := by rw [Nat.succ_mul]; omega
      have hd : (k + 1) / prodW t = k / prodW t + 1 := by
        conv => lhs; rw [hk1]
        rw [Nat.add_zero, Nat.mul_div_cancel _ (by omega)]
      have ha1 : atW t (k + 1) = t.map (fun _ => (0 : Int)) := by
        rw [← atW_zero t]
        conv => lhs; rw [hk1]
        exact atW_add t _ _
      rw [hd, ha1, Nat.mod_eq_of_lt hy]
      by_cases hw : k / prodW t + 1 < wayN u.1 u.2
      · have hlt : k + 1 < wayN u.1 u.2 * prodW t := by
          have : (k / prodW t + 1 + 1) * prodW t ≤ wayN u.1 u.2 * prodW t := Nat.mul_le_mul_right _ hw
          rw [Nat.succ_mul] at this
          omega
        have hi : ((k / prodW t : Nat) : Int) + 1 < (wayN u.1 u.2 : Int) := by omega
        rw [Nat.mod_eq_of_lt hw]
        simp only [if_pos hi]
        exact ⟨fun _ => by simp, fun h2 => (h2 hlt).elim⟩
      · have hge : ¬ k + 1 < wayN u.1 u.2 * prodW t := by
          have e : wayN u.1 u.2 = k / prodW t + 1 := by omega
          rw [e]
          omega
        have hi : ¬ ((k / prodW t : Nat) : Int) + 1 < (wayN u.1 u.2 : Int) := by omega
        simp only [if_neg hi]
        exact ⟨fun h2 => (hge h2).elim, fun _ => by trivial⟩
/-- The next plain stop, in the document's words: the last pick that can be more is one more, and the crash fills the rest. -/
theorem nxt_at {L : List Rf} {i : Nat} {fs : List (Int × Int)} {st : Int} (hw : Lw L fs st i) (hi : i ≤ 300) {k : Nat} (hk : k < prodW (unsF L)) :
    (k + 1 < prodW (unsF L) → ∃ q, nxt (stpL (unsF L) (atW (unsF L) k)) (mdS (unsF L) (atW (unsF L) k)) = some q ∧ plnL q L = plnL (stpL (unsF L) (atW (unsF L) (k + 1))) L) ∧
    (¬ k + 1 < prodW (unsF L) → nxt (stpL (unsF L) (atW (unsF L) k)) (mdS (unsF L) (atW (unsF L) k)) = none) := by
  obtain ⟨s1, s2⟩ := suc_at (unsF L) k hk
  obtain ⟨n1, n2⟩ := nxt_stp (unsF L) _ (atW_wy (unsF L) k)
  refine ⟨fun h => ?_, fun h => n2 (s2 h)⟩
  obtain ⟨q, z, e1, e2⟩ := n1 _ (s1 h)
  exact ⟨q, e1, by rw [← plnL_zeros q z L, e2]⟩
end Go.Proofs.Ytgkeflgfnagnjaa
