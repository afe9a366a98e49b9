/-
  RealOrders: the document's Read, in numbers: where the first p stands, what is taken out, its candidate. Nothing here speaks of the program.
-/
import Derived.Test.YtmjcjcpifahpaaaDoorVB
namespace Go.Proofs.YtmjcjcpifahpaaaDoor
open Go
set_option linter.unusedVariables false

theorem pre_take {T : List UInt8} {i : Nat} (h1 : ∀ j, j < i → ∀ c, T[j]? = some c → c ≠ 112) (h2 : i = T.length ∨ T[i]? = some 112) : pre112 T = T.take i := by
  have h3 : ∀ c ∈ T.take i, decide (c ≠ 112) = true := fun c hc => by
    obtain ⟨j, hj, e⟩ := List.getElem_of_mem hc
    have hj2 : j < i := by simp at hj; omega
    refine decide_eq_true (h1 j hj2 c ?_)
    rw [← e, List.getElem_take]
    exact (List.getElem?_eq_some_iff.2 ⟨by simp at hj; omega, rfl⟩)
  have h4 : (T.drop i).takeWhile (fun c => decide (c ≠ 112)) = [] := by
    rcases h2 with e | e
    · rw [List.drop_of_length_le (by omega)]; rfl
    · have hi : i < T.length := (List.getElem?_eq_some_iff.1 e).1
      rw [List.drop_eq_getElem_cons hi]
      have : T[i] = 112 := (List.getElem?_eq_some_iff.1 e).2
      rw [this]; rfl
  unfold pre112
  conv => lhs; rw [← List.take_append_drop i T]
  rw [List.takeWhile_append_of_pos h3, h4, List.append_nil]
theorem rxm_no {T : List UInt8} (h1 : ∀ j, j < T.length → ∀ c, T[j]? = some c → c ≠ 112) : rxm T = none := by
  have := pre_take h1 (Or.inl rfl)
  unfold rxm
  rw [if_pos (by rw [this, List.take_length])]
theorem rxm_at {T : List UInt8} {i : Nat} (h1 : ∀ j, j < i → ∀ c, T[j]? = some c → c ≠ 112) (h2 : T[i]? = some 112) : rxm T =
  (match dgx (T.take i) with
  | none => none
  | some m =>
    match dgx (cut 45 (T.drop (i + 1))).1 with
    | none => none
    | some e => if m < 9007199254740992 ∧ e ≤ 1100 then some (m, if (cut 45 (T.drop (i + 1))).2 then -(e : Int) else e) else none) := by
  have hi : i < T.length := (List.getElem?_eq_some_iff.1 h2).1
  have hp := pre_take h1 (Or.inr h2)
  have hl : (pre112 T).length = i := by rw [hp, List.length_take]; omega
  unfold rxm
  rw [if_neg (by omega), hl, hp]
  cases dgx (T.take i) with
  | none => rfl
  | some m => cases dgx (cut 45 (T.drop (i + 1))).1 <;> rfl
theorem rxm_none1 {T : List UInt8} {i : Nat} (h1 : ∀ j, j < i → ∀ c, T[j]? = some c → c ≠ 112) (h2 : T[i]? = some 112) (h : dgx (T.take i) = none) : rxm T = none := by rw [rxm_at h1 h2, h]
theorem rxm_none2 {T P : List UInt8} {i : Nat} {b : Bool} (h1 : ∀ j, j < i → ∀ c, T[j]? = some c → c ≠ 112) (h2 : T[i]? = some 112) (hc : cut 45 (T.drop (i + 1)) = (P, b)) (h : dgx P = none) : rxm T = none := by
  rw [rxm_at h1 h2, hc]
  simp only [h]
  split <;> rfl
theorem rxm_none3 {T P : List UInt8} {i m e : Nat} {b : Bool} (h1 : ∀ j, j < i → ∀ c, T[j]? = some c → c ≠ 112) (h2 : T[i]? = some 112) (hc : cut 45 (T.drop (i + 1)) = (P, b)) (hm : dgx (T.take i) = some m) (he : dgx P = some e) (h : ¬ (m < 9007199254740992 ∧ e ≤ 1100)) : rxm T = none := by
  rw [rxm_at h1 h2, hc, hm]
  simp only [he]
  rw [if_neg h]
theorem rxm_some {T P : List UInt8} {i m e : Nat} {b : Bool} (h1 : ∀ j, j < i → ∀ c, T[j]? = some c → c ≠ 112) (h2 : T[i]? = some 112) (hc : cut 45 (T.drop (i + 1)) = (P, b)) (hm : dgx (T.take i) = some m) (he : dgx P = some e) (h : m < 9007199254740992 ∧ e ≤ 1100) : rxm T = some (m, if b then -(e : Int) else e) := by
  rw [rxm_at h1 h2, hc, hm]
  simp only [he]
  rw [if_pos h]

theorem jn_lt {m : Nat} {p : Int} (h0 : 0 < m) (hm : m < 9007199254740992) (hp : -1074 ≤ p) (ht : p + (Lib.bitLen m : Int) ≤ 1024) : jn m p < 9223372036854775808 := by
  obtain ⟨hb53, hb1, -, -⟩ := full h0 hm
  have hj0 : 0 ≤ jsh m p := by unfold jsh; omega
  obtain ⟨j, hj⟩ : ∃ j : Nat, jsh m p = j := ⟨(jsh m p).toNat, by omega⟩
  have hbig : m * 2 ^ j < 9007199254740992 := by
    have h1 := (bl_mul (s := j) (m := m) (by omega) (by omega)).2
    have h2 : Lib.bitLen m + j ≤ 53 := by unfold jsh at hj; omega
    have h3 := Nat.pow_le_pow_right (n := 2) (by omega) h2
    rw [two53] at h3
    omega
  have hq : (p - (j : Int) + 1074).toNat ≤ 2045 := by
    have : p - jsh m p ≤ 971 := by unfold jsh; omega
    omega
  unfold jn
  rw [hj, Int.toNat_natCast]
  obtain ⟨x, hx⟩ : ∃ x, (p - (j : Int) + 1074).toNat = x := ⟨_, rfl⟩
  obtain ⟨y, hy⟩ : ∃ y, m * 2 ^ j = y := ⟨_, rfl⟩
  rw [hx] at hq ⊢
  rw [hy] at hbig ⊢
  omega
theorem cand_zero {L T : List UInt8} {neg : Bool} (hc : cut 45 L = (T, neg)) (h : T = [48]) : Cand L (sgd neg 0) := by
  have e1 : (cut 45 L).1 = T := by rw [hc]
  have e2 : (cut 45 L).2 = neg := by rw [hc]
  refine ⟨by cases neg <;> decide, fun _ => by rw [e2], fun h9 => ?_, fun m e h8 => ?_⟩
  · rw [e1, h] at h9; cases h9
  · rw [e1] at h8; exact absurd h h8
theorem cand_inf {L T : List UInt8} {neg : Bool} (hc : cut 45 L = (T, neg)) (h : T = [105, 110, 102]) : Cand L (sgd neg 9218868437227405312) := by
  have e1 : (cut 45 L).1 = T := by rw [hc]
  have e2 : (cut 45 L).2 = neg := by rw [hc]
  refine ⟨by cases neg <;> decide, fun h9 => ?_, fun _ => by rw [e2], fun m e h8 h7 => ?_⟩
  · rw [e1, h] at h9; cases h9
  · rw [e1] at h7; exact absurd h h7
/-- A float with a sign laid on it. -/
def sgx (neg : Bool) (z : Nat) : Nat := if neg then z % 9223372036854775808 + 9223372036854775808 else z
theorem cand_def {L T : List UInt8} {neg : Bool} {z m : Nat} {e : Int} (hc : cut 45 L = (T, neg)) (h1 : T ≠ [48]) (h2 : T ≠ [105, 110, 102]) (hr : rxm T = some (m, e)) (hz : z < 18446744073709551616)
    (hj : 0 < m → -1074 ≤ e → e + (Lib.bitLen m : Int) ≤ 1024 → z = jn m e) : Cand L (sgx neg z) := by
  have e1 : (cut 45 L).1 = T := by rw [hc]
  have e2 : (cut 45 L).2 = neg := by rw [hc]
  refine ⟨by unfold sgx; split <;> omega, fun h9 => absurd (e1 ▸ h9) h1, fun h9 => absurd (e1 ▸ h9) h2, fun m' e' _ _ h6 h5 h4 h3 h2' => ?_⟩
  rw [e1, hr] at h6
  cases h6
  have g1 := hj h5 h3 h2'
  have g2 : z < 9223372036854775808 := by rw [g1]; exact jn_lt h5 h4 h3 h2'
  rw [e2, ← g1]
  unfold sgx sgd
  cases neg
  · rfl
  · simp only [if_true]
    rw [Nat.mod_eq_of_lt g2]
    omega
end Go.Proofs.YtmjcjcpifahpaaaDoor
