/-
  Floats by their bits: NaN, the place in the order, and what the model's comparisons say. Nothing here speaks of the program.
-/
import Derived.Laws.FloatArith
namespace Go.Proofs.YtmjcjcpifahpaaaDoor
set_option linter.unusedVariables false

/-- Is it a NaN? -/
def isN (b : Nat) : Bool := decide (9218868437227405312 < b % 9223372036854775808)
/-- A float's place in the order. -/
def plc (b : Nat) : Nat := if isN b then 18446744073709551615 else if b < 9223372036854775808 then b + 9223372036854775808 else 18446744073709551615 - b

/-- A finite rung's number, in units of the least one. -/
def mg (r : Nat) : Nat := if r < 4503599627370496 then r else (4503599627370496 + r % 4503599627370496) * 2 ^ (r / 4503599627370496 - 1)

theorem mg_mono {r s : Nat} (h : r ≤ s) : mg r ≤ mg s := by
  unfold mg
  by_cases hr : r < 4503599627370496
  · rw [if_pos hr]
    split
    · exact h
    · have : 1 ≤ 2 ^ (s / 4503599627370496 - 1) := Nat.one_le_two_pow
      have := Nat.mul_le_mul_left (4503599627370496 + s % 4503599627370496) this
      omega
  · rw [if_neg hr, if_neg (by omega)]
    by_cases hq : r / 4503599627370496 = s / 4503599627370496
    · rw [hq]
      exact Nat.mul_le_mul_right _ (by omega)
    · have h1 : r / 4503599627370496 ≤ s / 4503599627370496 - 1 := by omega
      have h2 : 2 ^ (r / 4503599627370496) ≤ 2 ^ (s / 4503599627370496 - 1) := Nat.pow_le_pow_right (by omega) h1
      have h3 : 2 ^ (r / 4503599627370496) = 2 * 2 ^ (r / 4503599627370496 - 1) := by
        rw [← Nat.pow_succ']; congr 1; omega
      have h4 : (4503599627370496 + r % 4503599627370496) * 2 ^ (r / 4503599627370496 - 1) ≤ (4503599627370496 * 2) * 2 ^ (r / 4503599627370496 - 1) := Nat.mul_le_mul_right _ (by omega)
      have h5 : 4503599627370496 * 2 ^ (s / 4503599627370496 - 1) ≤ (4503599627370496 + s % 4503599627370496) * 2 ^ (s / 4503599627370496 - 1) := Nat.mul_le_mul_right _ (by omega)
      have h6 : 4503599627370496 * 2 ^ (r / 4503599627370496) ≤ 4503599627370496 * 2 ^ (s / 4503599627370496 - 1) := Nat.mul_le_mul_left _ h2
      rw [h3] at h6
      omega
theorem mg_lt {r s : Nat} (h : mg r < mg s) : r < s := by
  rcases Nat.lt_or_ge r s with h1 | h1
  · exact h1
  · have := mg_mono h1; omega

/-- The sign of a word. -/
def sgn (b : Nat) : Bool := decide (9223372036854775808 ≤ b)
/-- The signed number of a word of a finite float. -/
def sv (b : Nat) : Int := if sgn b then -(mg (b % 9223372036854775808) : Int) else (mg (b % 9223372036854775808) : Int)

theorem rd_sign {b : Nat} (hb : b < 18446744073709551616) : (b / 9223372036854775808 % 2 == 1) = sgn b := by
  unfold sgn
  rw [Bool.eq_iff_iff]; simp; omega

theorem rd_num {b : Nat} (hb : b < 18446744073709551616) (hf : b % 9223372036854775808 < 9218868437227405312) :
    ∃ m i, Ieee.double.read b = .number (sgn b) m i ∧ -1074 ≤ i ∧ m * 2 ^ (i + 1074).toNat = mg (b % 9223372036854775808) := by
  have e := rd_sign hb
  by_cases h : b % 9223372036854775808 < 4503599627370496
  · refine ⟨b % 9223372036854775808, -1074, ?_, by omega, ?_⟩
    · rw [← e]
      have h' : b % Ieee.double.signWeight < Ieee.double.binade := h
      unfold Ieee.Format.read
      simp only [h', if_true]
      rfl
    · unfold mg; rw [if_pos h]; simp
  · refine ⟨4503599627370496 + b % 9223372036854775808 % 4503599627370496, -1074 + (b % 9223372036854775808 / 4503599627370496 - 1 : Nat), ?_, by omega, ?_⟩
    · rw [← e]
      have h' : ¬ (b % Ieee.double.signWeight < Ieee.double.binade) := h
      have h2 : b % Ieee.double.signWeight < Ieee.double.infRung := hf
      unfold Ieee.Format.read
      simp only [h', if_false, h2, if_true]
      rfl
    · unfold mg; rw [if_neg h]; congr 2; omega
theorem rd_inf {b : Nat} (hb : b < 18446744073709551616) (hf : b % 9223372036854775808 = 9218868437227405312) : Ieee.double.read b = .infinity (sgn b) := by
  rw [← rd_sign hb]
  have h1 : ¬ (b % Ieee.double.signWeight < Ieee.double.binade) := by show ¬ (b % 9223372036854775808 < 4503599627370496); omega
  have h2 : ¬ (b % Ieee.double.signWeight < Ieee.double.infRung) := by show ¬ (b % 9223372036854775808 < 9218868437227405312); omega
  have h3 : b % Ieee.double.signWeight = Ieee.double.infRung := hf
  unfold Ieee.Format.read
  simp only [h3, if_true]
  rfl
theorem rd_nan {b : Nat} (hb : b < 18446744073709551616) (hf : 9218868437227405312 < b % 9223372036854775808) : Ieee.double.read b = .nan (sgn b) (b % 9223372036854775808 - 9218868437227405312) := by
  rw [← rd_sign hb]
  have h1 : ¬ (b % Ieee.double.signWeight < Ieee.double.binade) := by show ¬ (b % 9223372036854775808 < 4503599627370496); omega
  have h2 : ¬ (b % Ieee.double.signWeight < Ieee.double.infRung) := by show ¬ (b % 9223372036854775808 < 9218868437227405312); omega
  have h3 : ¬ (b % Ieee.double.signWeight = Ieee.double.infRung) := by show ¬ (b % 9223372036854775808 = 9218868437227405312); omega
  unfold Ieee.Format.read
  simp only [h1, if_false, h2, h3]
  rfl

theorem signed_scale (s : Bool) (m u v : Nat) (h : u ≤ v) : Ieee.signed s m v = Ieee.signed s m u * 2 ^ (v - u) := by
  unfold Ieee.signed
  have e : m <<< v = m <<< u * 2 ^ (v - u) := by
    rw [Nat.shiftLeft_eq, Nat.shiftLeft_eq, Nat.mul_assoc, ← Nat.pow_add]; congr 2; omega
  rw [e]
  split <;> simp [Int.natCast_mul, Int.neg_mul]

theorem cmp_scale (a b : Int) (c : Nat) : compare (a * 2 ^ c) (b * 2 ^ c) = compare a b := by
  have hc : (0 : Int) < 2 ^ c := Int.pow_pos (by omega)
  rcases Int.lt_trichotomy a b with h | h | h
  · rw [Int.compare_eq_lt.2 h, Int.compare_eq_lt.2 (Int.mul_lt_mul_of_pos_right h hc)]
  · subst h; simp
  · rw [Int.compare_eq_gt.2 h, Int.compare_eq_gt.2 (Int.mul_lt_mul_of_pos_right h hc)]

theorem sv_eq {b m : Nat} {i : Int} (h1 : -1074 ≤ i) (h2 : m * 2 ^ (i + 1074).toNat = mg (b % 9223372036854775808)) : Ieee.signed (sgn b) m (i + 1074).toNat = sv b := by
  unfold Ieee.signed sv
  rw [Nat.shiftLeft_eq, h2]

/-- How two finite words stand to each other. -/
theorem ord_num {a b : Nat} (ha : a < 18446744073709551616) (hb : b < 18446744073709551616) (fa : a % 9223372036854775808 < 9218868437227405312) (fb : b % 9223372036854775808 < 9218868437227405312) :
    Ieee.double.order a b = some (compare (sv a) (sv b)) := by
  obtain ⟨m, i, e1, hi, hm⟩ := rd_num ha fa
  obtain ⟨n, j, e2, hj, hn⟩ := rd_num hb fb
  unfold Ieee.Format.order
  rw [e1, e2]
  simp only [Ieee.Datum.order]
  have k1 := sv_eq hi hm
  have k2 := sv_eq hj hn
  rw [← cmp_scale _ _ (min i j + 1074).toNat]
  rw [signed_scale _ m (i - min i j).toNat (i + 1074).toNat (by omega)] at k1
  rw [signed_scale _ n (j - min i j).toNat (j + 1074).toNat (by omega)] at k2
  rw [← k1, ← k2]
  congr 3 <;> congr 2 <;> omega

theorem isN_eq (b : Nat) : isN b = true ↔ 9218868437227405312 < b % 9223372036854775808 := by unfold isN; simp
theorem isN_neq (b : Nat) : isN b = false ↔ b % 9223372036854775808 ≤ 9218868437227405312 := by unfold isN; simp

theorem ord_nan_left {a b : Nat} (ha : a < 18446744073709551616) (h : isN a = true) : Ieee.double.order a b = none := by
  rw [isN_eq] at h
  unfold Ieee.Format.order
  rw [rd_nan ha h]
  rfl
theorem ord_nan_right {a b : Nat} (hb : b < 18446744073709551616) (h : isN b = true) : Ieee.double.order a b = none := by
  rw [isN_eq] at h
  unfold Ieee.Format.order
  rw [rd_nan hb h]
  cases Ieee.double.read a <;> rfl

/-- 'x != x': just of a NaN. -/
theorem self_neq {b : Nat} (hb : b < 18446744073709551616) : (Ieee.double.order b b != some .eq) = isN b := by
  by_cases h : isN b = true
  · rw [ord_nan_left hb h, h]; rfl
  · have h' : isN b = false := by simpa using h
    rw [h']
    rw [isN_neq] at h'
    by_cases hf : b % 9223372036854775808 < 9218868437227405312
    · rw [ord_num hb hb hf hf]; simp
    · unfold Ieee.Format.order
      rw [rd_inf hb (by omega)]
      simp [Ieee.Datum.order]

/-- Where '<' holds the places rise. -/
theorem lt_plc {a b : Nat} (ha : a < 18446744073709551616) (hb : b < 18446744073709551616) (h : Ieee.double.order a b = some .lt) : plc a < plc b := by
  have na : isN a = false := by
    cases e : isN a with
    | false => rfl
    | true => rw [ord_nan_left ha e] at h; cases h
  have nb : isN b = false := by
    cases e : isN b with
    | false => rfl
    | true => rw [ord_nan_right hb e] at h; cases h
  unfold plc
  rw [na, nb]
  rw [isN_neq] at na nb
  by_cases fa : a % 9223372036854775808 < 9218868437227405312
  · by_cases fb : b % 9223372036854775808 < 9218868437227405312
    · rw [ord_num ha hb fa fb] at h
      have h1 : sv a < sv b := Int.compare_eq_lt.1 (Option.some.inj h)
      unfold sv sgn at h1
      by_cases sa : 9223372036854775808 ≤ a <;> by_cases sb : 9223372036854775808 ≤ b
      · simp only [sa, sb, decide_true, if_true] at h1
        have h2 : mg (b % 9223372036854775808) < mg (a % 9223372036854775808) := by omega
        have := mg_lt h2
        (simp only [Bool.false_eq_true, if_false]; split <;> split <;> omega)
      · (simp only [Bool.false_eq_true, if_false]; split <;> split <;> omega)
      · simp only [sa, sb, decide_true, if_true, decide_false] at h1
        simp at h1
        omega
      · simp only [sa, sb, decide_false] at h1
        have h2 : mg (a % 9223372036854775808) < mg (b % 9223372036854775808) := by simpa using h1
        have := mg_lt h2
        (simp only [Bool.false_eq_true, if_false]; split <;> split <;> omega)
    · obtain ⟨m, i, e1, hi, hm⟩ := rd_num ha fa
      unfold Ieee.Format.order at h
      rw [rd_inf hb (by omega), e1] at h
      simp only [Ieee.Datum.order] at h
      unfold sgn at h
      by_cases sb : 9223372036854775808 ≤ b
      · simp [sb] at h
      · (simp only [Bool.false_eq_true, if_false]; split <;> split <;> omega)
  · by_cases fb : b % 9223372036854775808 < 9218868437227405312
    · obtain ⟨m, i, e1, hi, hm⟩ := rd_num hb fb
      unfold Ieee.Format.order at h
      rw [rd_inf ha (by omega), e1] at h
      simp only [Ieee.Datum.order] at h
      unfold sgn at h
      by_cases sb : 9223372036854775808 ≤ a
      · (simp only [Bool.false_eq_true, if_false]; split <;> split <;> omega)
      · simp [sb] at h
    · unfold Ieee.Format.order at h
      rw [rd_inf ha (by omega), rd_inf hb (by omega)] at h
      simp only [Ieee.Datum.order] at h
      unfold sgn at h
      by_cases sa : 9223372036854775808 ≤ a <;> by_cases sb : 9223372036854775808 ≤ b
      · simp [sa, sb] at h
      · (simp only [Bool.false_eq_true, if_false]; split <;> split <;> omega)
      · simp [sa, sb] at h
        exact absurd h (by decide)
      · simp [sa, sb] at h

theorem plc_lt {b : Nat} (hb : b < 18446744073709551616) : plc b < 18446744073709551616 := by
  unfold plc
  split
  · omega
  · split <;> omega

/-- '== +0': just of the noughts. -/
theorem eq_zero {b : Nat} (hb : b < 18446744073709551616) : (Ieee.double.order b 0 == some .eq) = decide (b % 9223372036854775808 = 0) := by
  by_cases h : isN b = true
  · rw [ord_nan_left hb h]
    rw [isN_eq] at h
    have : ¬ b % 9223372036854775808 = 0 := by omega
    simp [this]
  · have h' : isN b = false := by simpa using h
    rw [isN_neq] at h'
    by_cases hf : b % 9223372036854775808 < 9218868437227405312
    · rw [ord_num hb (by omega) hf (by omega)]
      have z0 : sv 0 = 0 := by simp [sv, sgn, mg]
      rw [z0]
      by_cases hz : b % 9223372036854775808 = 0
      · have : sv b = 0 := by unfold sv; rw [hz]; simp [mg]
        rw [this, hz]; simp
      · have hm : mg (b % 9223372036854775808) ≠ 0 := by
          intro e
          have : mg (b % 9223372036854775808) < mg 1 := by rw [e]; simp [mg]
          have := mg_lt this
          omega
        have hs : sv b ≠ 0 := by unfold sv; split <;> omega
        have : compare (sv b) 0 ≠ .eq := by rw [Ne, Int.compare_eq_eq]; exact hs
        simp [hz, this]
    · unfold Ieee.Format.order
      rw [rd_inf hb (by omega)]
      have hz : ¬ b % 9223372036854775808 = 0 := by omega
      have : Ieee.double.read 0 = .number false 0 (-1074) := by rfl
      rw [this]
      simp only [Ieee.Datum.order]
      cases sgn b <;> simp [hz]
end Go.Proofs.YtmjcjcpifahpaaaDoor
