/-
  A number's eight bytes turned round; keys as lists of bytes, and their order. Nothing here speaks of the program.
-/
import Derived.Test.YtmjcjcpifahpaaaDoorMem
import Derived.Test.YtmjcjcpifahpaaaDoorFlt
import Derived.Laws.Bits64
import Derived.Laws.Bits64b
namespace Go.Proofs.YtmjcjcpifahpaaaDoor
open Go.RowKit
set_option linter.unusedVariables false

def rb1 (x : Nat) : Nat := (x / 256 &&& 71777214294589695) ||| (x &&& 71777214294589695) * 256
def rb2 (x : Nat) : Nat := (x / 65536 &&& 281470681808895) ||| (x &&& 281470681808895) * 65536
def rb3 (x : Nat) : Nat := x / 4294967296 ||| x * 4294967296 % 18446744073709551616
def rb (x : Nat) : Nat := rb3 (rb2 (rb1 x))

theorem m0_bit : ∀ i, i < 64 → Nat.testBit 71777214294589695 i = decide (i / 8 % 2 = 0) := by decide +kernel
theorem m1_bit : ∀ i, i < 64 → Nat.testBit 281470681808895 i = decide (i / 16 % 2 = 0) := by decide +kernel
theorem m0_hi (i : Nat) (h : 56 ≤ i) : Nat.testBit 71777214294589695 i = false :=
  Nat.testBit_lt_two_pow (Nat.lt_of_lt_of_le (by decide : 71777214294589695 < 2 ^ 56) (Nat.pow_le_pow_right (by omega) h))
theorem m1_hi (i : Nat) (h : 48 ≤ i) : Nat.testBit 281470681808895 i = false :=
  Nat.testBit_lt_two_pow (Nat.lt_of_lt_of_le (by decide : 281470681808895 < 2 ^ 48) (Nat.pow_le_pow_right (by omega) h))

theorem rb1_bit (x i : Nat) (h : i < 64) : (rb1 x).testBit i = x.testBit (if i / 8 % 2 = 0 then i + 8 else i - 8) := by
  unfold rb1
  have e1 : x / 256 = x >>> 8 := by rw [Nat.shiftRight_eq_div_pow]
  have e2 : (x &&& 71777214294589695) * 256 = (x &&& 71777214294589695) <<< 8 := by rw [Nat.shiftLeft_eq]
  rw [e1, e2, Nat.testBit_or, Nat.testBit_and, Nat.testBit_shiftRight, Nat.testBit_shiftLeft, Nat.testBit_and, m0_bit i h]
  by_cases hp : i / 8 % 2 = 0
  · rw [if_pos hp]
    by_cases h8 : 8 ≤ i
    · rw [m0_bit (i - 8) (by omega)]
      have : ¬ (i - 8) / 8 % 2 = 0 := by omega
      simp [hp, this, Nat.add_comm]
    · simp [hp, h8, Nat.add_comm]
  · rw [if_neg hp]
    have h8 : 8 ≤ i := by omega
    rw [m0_bit (i - 8) (by omega)]
    have : (i - 8) / 8 % 2 = 0 := by omega
    simp [hp, this, h8]
theorem rb2_bit (x i : Nat) (h : i < 64) : (rb2 x).testBit i = x.testBit (if i / 16 % 2 = 0 then i + 16 else i - 16) := by
  unfold rb2
  have e1 : x / 65536 = x >>> 16 := by rw [Nat.shiftRight_eq_div_pow]
  have e2 : (x &&& 281470681808895) * 65536 = (x &&& 281470681808895) <<< 16 := by rw [Nat.shiftLeft_eq]
  rw [e1, e2, Nat.testBit_or, Nat.testBit_and, Nat.testBit_shiftRight, Nat.testBit_shiftLeft, Nat.testBit_and, m1_bit i h]
  by_cases hp : i / 16 % 2 = 0
  · rw [if_pos hp]
    by_cases h8 : 16 ≤ i
    · rw [m1_bit (i - 16) (by omega)]
      have : ¬ (i - 16) / 16 % 2 = 0 := by omega
      simp [hp, this, Nat.add_comm]
    · simp [hp, h8, Nat.add_comm]
  · rw [if_neg hp]
    have h8 : 16 ≤ i := by omega
    rw [m1_bit (i - 16) (by omega)]
    have : (i - 16) / 16 % 2 = 0 := by omega
    simp [hp, this, h8]
theorem rb3_bit (x i : Nat) (hx : x < 18446744073709551616) (h : i < 64) : (rb3 x).testBit i = x.testBit (if i < 32 then i + 32 else i - 32) := by
  unfold rb3
  have e1 : x / 4294967296 = x >>> 32 := by rw [Nat.shiftRight_eq_div_pow]
  have e2 : x * 4294967296 % 18446744073709551616 = (x <<< 32) % 2 ^ 64 := by rw [Nat.shiftLeft_eq]
  rw [e1, e2, Nat.testBit_or, Nat.testBit_shiftRight, Nat.testBit_mod_two_pow, Nat.testBit_shiftLeft]
  by_cases hp : i < 32
  · have : ¬ 32 ≤ i := by omega
    rw [if_pos hp]; simp [this, Nat.add_comm]
  · have h1 : 32 ≤ i := by omega
    have h2 : x.testBit (32 + i) = false := Nat.testBit_lt_two_pow (Nat.lt_of_lt_of_le hx (Nat.pow_le_pow_right (n := 2) (i := 64) (by omega) (by omega)))
    rw [if_neg hp, h2]; simp [h, h1]

theorem and_lt_l {a b c : Nat} (h : b < c) : a &&& b < c := Nat.lt_of_le_of_lt Nat.and_le_right h
theorem rb1_a (x : Nat) : x / 256 &&& 71777214294589695 < 18446744073709551616 := and_lt_l (by omega)
theorem rb1_b (x : Nat) : (x &&& 71777214294589695) * 256 < 18446744073709551616 := by have := and_lt_l (a := x) (b := 71777214294589695) (c := 71777214294589696) (by omega); omega
theorem rb2_a (x : Nat) : x / 65536 &&& 281470681808895 < 18446744073709551616 := and_lt_l (by omega)
theorem rb2_b (x : Nat) : (x &&& 281470681808895) * 65536 < 18446744073709551616 := by have := and_lt_l (a := x) (b := 281470681808895) (c := 281470681808896) (by omega); omega
theorem or_lt {a b : Nat} (ha : a < 18446744073709551616) (hb : b < 18446744073709551616) : a ||| b < 18446744073709551616 := Nat.or_lt_two_pow (n := 64) ha hb
theorem rb1_lt (x : Nat) : rb1 x < 18446744073709551616 := or_lt (rb1_a x) (rb1_b x)
theorem rb2_lt (x : Nat) : rb2 x < 18446744073709551616 := or_lt (rb2_a x) (rb2_b x)
theorem rb3_lt (x : Nat) (h : x < 18446744073709551616) : rb3 x < 18446744073709551616 := or_lt (by omega) (Nat.mod_lt _ (by omega))
theorem rb_lt (x : Nat) : rb x < 18446744073709551616 := rb3_lt _ (rb2_lt _)

theorem rb_bit (x k j : Nat) (hk : k < 8) (hj : j < 8) : (rb x).testBit (8 * k + j) = x.testBit (8 * (7 - k) + j) := by
  unfold rb
  rw [rb3_bit _ _ (rb2_lt _) (by omega), rb2_bit _ _ (by split <;> omega), rb1_bit _ _ (by split <;> split <;> omega)]
  congr 1
  split <;> split <;> split <;> omega

theorem byte_bit (x k j : Nat) : (x / 256 ^ k % 256).testBit j = (decide (j < 8) && x.testBit (8 * k + j)) := by
  rw [show (256 : Nat) = 2 ^ 8 from rfl, Nat.testBit_mod_two_pow, ← Nat.pow_mul, ← Nat.shiftRight_eq_div_pow, Nat.testBit_shiftRight]

theorem rb_byte (x k : Nat) (hk : k < 8) : rb x / 256 ^ k % 256 = x / 256 ^ (7 - k) % 256 := by
  apply Nat.eq_of_testBit_eq
  intro j
  rw [byte_bit, byte_bit]
  by_cases hj : j < 8
  · rw [rb_bit x k j hk hj]
  · simp [hj]

/-- A key's bytes: the highest first. -/
def kyl (p : Nat) : List UInt8 := (low p 8).reverse
theorem kyl_len (p : Nat) : (kyl p).length = 8 := by simp [kyl, low_length]
theorem low_at (x n i : Nat) (h : i < n) : (low x n)[i]? = some (UInt8.ofNat (x / 256 ^ i)) := by simp [low, h]
theorem low_rb (x : Nat) : low (rb x) 8 = kyl x := by
  apply List.ext_getElem?
  intro i
  by_cases hi : i < 8
  · rw [low_at _ _ _ hi]
    unfold kyl
    rw [List.getElem?_reverse (by rw [low_length]; exact hi), low_length, low_at _ _ _ (by omega)]
    congr 1
    apply UInt8.toNat.inj
    have := rb_byte x i hi
    simp only [UInt8.toNat_ofNat']
    rw [show 8 - 1 - i = 7 - i from by omega]
    exact this
  · rw [List.getElem?_eq_none (by rw [low_length]; omega), List.getElem?_eq_none (by rw [kyl_len]; omega)]

/-- The highest byte first. -/
theorem low_rev_succ (x n : Nat) : (low x (n + 1)).reverse = UInt8.ofNat (x / 256 ^ n) :: (low x n).reverse := by rw [low_succ]; simp

theorem rev_lt (n : Nat) : ∀ x y, x < 256 ^ n → y < 256 ^ n → Op.bytesLess (low x n).reverse (low y n).reverse = decide (x < y) := by
  induction n with
  | zero => intro x y hx hy; simp at hx hy; subst hx; subst hy; rfl
  | succ n ih =>
    intro x y hx hy
    rw [low_rev_succ, low_rev_succ]
    have hp : 0 < 256 ^ n := Nat.pow_pos (by omega)
    have hx2 : x / 256 ^ n < 256 := by rw [Nat.div_lt_iff_lt_mul hp, Nat.mul_comm, ← Nat.pow_succ]; exact hx
    have hy2 : y / 256 ^ n < 256 := by rw [Nat.div_lt_iff_lt_mul hp, Nat.mul_comm, ← Nat.pow_succ]; exact hy
    have e1 : low x n = low (x % 256 ^ n) n := (low_mod x n (256 ^ n) (Nat.dvd_refl _)).symm
    have e2 : low y n = low (y % 256 ^ n) n := (low_mod y n (256 ^ n) (Nat.dvd_refl _)).symm
    have hi := ih (x % 256 ^ n) (y % 256 ^ n) (Nat.mod_lt _ hp) (Nat.mod_lt _ hp)
    rw [e1, e2]
    simp only [Op.bytesLess]
    rw [hi]
    have dx := Nat.div_add_mod x (256 ^ n)
    have dy := Nat.div_add_mod y (256 ^ n)
    have mx := Nat.mod_lt x hp
    have my := Nat.mod_lt y hp
    have a1 : (UInt8.ofNat (x / 256 ^ n) < UInt8.ofNat (y / 256 ^ n)) ↔ x / 256 ^ n < y / 256 ^ n := by
      rw [UInt8.lt_iff_toNat_lt]; simp only [UInt8.toNat_ofNat']; rw [Nat.mod_eq_of_lt hx2, Nat.mod_eq_of_lt hy2]
    have a2 : (UInt8.ofNat (x / 256 ^ n) = UInt8.ofNat (y / 256 ^ n)) ↔ x / 256 ^ n = y / 256 ^ n := by
      rw [← UInt8.toNat_inj]; simp only [UInt8.toNat_ofNat']; rw [Nat.mod_eq_of_lt hx2, Nat.mod_eq_of_lt hy2]
    rw [Bool.eq_iff_iff]
    simp only [Bool.or_eq_true, Bool.and_eq_true, decide_eq_true_eq, beq_iff_eq, a1, a2]
    generalize x / 256 ^ n = q at *
    generalize y / 256 ^ n = r at *
    generalize x % 256 ^ n = s at *
    generalize y % 256 ^ n = t at *
    generalize 256 ^ n = B at *
    constructor
    · rintro (h | ⟨h1, h2⟩)
      · have : B * (q + 1) ≤ B * r := Nat.mul_le_mul_left _ h
        rw [Nat.mul_add] at this
        omega
      · subst h1; omega
    · intro h
      rcases Nat.lt_trichotomy q r with h1 | h1 | h1
      · exact Or.inl h1
      · subst h1; exact Or.inr ⟨rfl, by omega⟩
      · have : B * (r + 1) ≤ B * q := Nat.mul_le_mul_left _ h1
        rw [Nat.mul_add] at this
        omega
theorem kyl_less {p q : Nat} (hp : p < 18446744073709551616) (hq : q < 18446744073709551616) : Op.bytesLess (kyl p) (kyl q) = decide (p < q) := rev_lt 8 p q hp hq
theorem kyl_inj {p q : Nat} (hp : p < 18446744073709551616) (hq : q < 18446744073709551616) (h : kyl p = kyl q) : p = q := by
  have h1 : low p 8 = low q 8 := by simpa [kyl] using h
  have h2 := val_low p 8
  have h3 := val_low q 8
  rw [h1, h3] at h2
  rw [Nat.mod_eq_of_lt (a := p) hp, Nat.mod_eq_of_lt (a := q) hq] at h2
  exact h2.symm
end Go.Proofs.YtmjcjcpifahpaaaDoor
