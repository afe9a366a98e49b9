/-
  RealOrders: a number times a power of two is written exactly; what math's ldexp multiplies is exact. Nothing here speaks of the program.
-/
import Derived.Test.YtmjcjcpifahpaaaDoorTxt
import Derived.Test.YtmjcjcpifahpaaaDoorFlt
namespace Go.Proofs.YtmjcjcpifahpaaaDoor
open Go
set_option linter.unusedVariables false

theorem log2_bl {m a : Nat} (h0 : m ≠ 0) (hm : m < 18446744073709551616) : (m * 2 ^ a).log2 = Lib.bitLen m - 1 + a := by
  obtain ⟨h1, h2, h3⟩ := bl h0 hm
  have hne : m * 2 ^ a ≠ 0 := Nat.mul_ne_zero h0 (Nat.ne_of_gt (Nat.two_pow_pos _))
  obtain ⟨g1, g2⟩ := bl_mul (s := a) h0 hm
  rw [Nat.log2_eq_iff hne]
  refine ⟨g1, ?_⟩
  have e : Lib.bitLen m - 1 + a + 1 = Lib.bitLen m + a := by omega
  rw [e]
  exact g2
theorem cut_none (neg : Bool) (n : Nat) : Ieee.Toward.even.cut neg n 0 = n := by
  simp [Ieee.Toward.cut, Nat.mod_one]
theorem cut_exact (neg : Bool) (n k d : Nat) (hn : n = k * 2 ^ d) (hd : d ≤ n.log2 + 2) : Ieee.Toward.even.cut neg n d = k := by
  have hp := Nat.two_pow_pos d
  have e : min d (n.log2 + 2) = d := Nat.min_eq_left hd
  simp only [Ieee.Toward.cut, e, Nat.shiftLeft_eq, Nat.one_mul]
  rw [hn, Nat.mul_div_cancel _ hp, Nat.mul_mod_left]
  have h1 : ¬ (2 ^ d < 2 * 0) := by omega
  have h2 : (2 ^ d == 2 * 0) = false := by simp
  simp [h2]
/-- The number m times two to the p, however it is said, is written as the rung jn m p. -/
theorem nearest_jn (neg : Bool) (m a : Nat) (p : Int) (h0 : 0 < m) (hm : m < 9007199254740992) (hp : -1074 ≤ p) (ht : p + (Lib.bitLen m : Int) ≤ 1024) :
    Ieee.double.nearest neg (m * 2 ^ a) (p - a) = Ieee.double.word neg (jn m p) := by
  have hb := bl (m := m) (by omega) (by omega)
  have hb53 : Lib.bitLen m ≤ 53 := by
    have := pow_le_of (a := Lib.bitLen m - 1) (b := 53) hb.2.1 (by rw [two53]; exact hm)
    omega
  have hlog := log2_bl (a := a) (m := m) (by omega) (by omega)
  have hne : m * 2 ^ a ≠ 0 := Nat.mul_ne_zero (by omega) (Nat.ne_of_gt (Nat.two_pow_pos _))
  have hj0 : 0 ≤ jsh m p := by unfold jsh; omega
  obtain ⟨j, hj⟩ : ∃ j : Nat, jsh m p = j := ⟨(jsh m p).toNat, by omega⟩
  have hlast : max (p - (a : Int) + ((m * 2 ^ a).log2 : Nat) - 52) (-1074) = p - j := by
    rw [hlog, ← hj]
    unfold jsh
    omega
  have hkept : Ieee.Toward.even.cut neg ((m * 2 ^ a) <<< (p - (a : Int) - (p - j)).toNat) (p - j - (p - (a : Int))).toNat = m * 2 ^ j := by
    rcases Nat.le_total a j with h | h
    · have e1 : (p - (a : Int) - (p - j)).toNat = j - a := by omega
      have e2 : (p - j - (p - (a : Int))).toNat = 0 := by omega
      rw [e1, e2, cut_none, Nat.shiftLeft_eq, Nat.mul_assoc, ← Nat.pow_add]
      congr 2
      omega
    · have e1 : (p - (a : Int) - (p - j)).toNat = 0 := by omega
      have e2 : (p - j - (p - (a : Int))).toNat = a - j := by omega
      rw [e1, e2, Nat.shiftLeft_zero]
      refine cut_exact neg _ _ _ ?_ ?_
      · rw [Nat.mul_assoc, ← Nat.pow_add]
        congr 2
        omega
      · rw [hlog]; omega
  have hbig : m * 2 ^ j < 9007199254740992 := by
    have h1 := (bl_mul (s := j) (m := m) (by omega) (by omega)).2
    have h2 : Lib.bitLen m + j ≤ 53 := by unfold jsh at hj; omega
    have h3 := Nat.pow_le_pow_right (n := 2) (by omega) h2
    rw [two53] at h3
    omega
  have hq : (p - (j : Int) + 1074).toNat ≤ 2045 := by
    have : p - jsh m p ≤ 971 := by unfold jsh; omega
    omega
  unfold Ieee.Format.nearest
  rw [if_neg hne]
  show Ieee.double.word neg (min ((max (p - (a : Int) + ((m * 2 ^ a).log2 : Nat) - 52) (-1074) - -1074).toNat * 4503599627370496 + Ieee.Toward.even.cut neg ((m * 2 ^ a) <<< (p - (a : Int) - max (p - (a : Int) + ((m * 2 ^ a).log2 : Nat) - 52) (-1074)).toNat) (max (p - (a : Int) + ((m * 2 ^ a).log2 : Nat) - 52) (-1074) - (p - (a : Int))).toNat) 9218868437227405312) = _
  rw [hlast, hkept]
  have e : (p - (j : Int) - -1074).toNat = (p - (j : Int) + 1074).toNat := by omega
  have hle : (p - (j : Int) + 1074).toNat * 4503599627370496 + m * 2 ^ j ≤ 9218868437227405312 := by
    obtain ⟨x, hx⟩ : ∃ x, (p - (j : Int) + 1074).toNat = x := ⟨_, rfl⟩
    obtain ⟨y, hy⟩ : ∃ y, m * 2 ^ j = y := ⟨_, rfl⟩
    rw [hx] at hq ⊢
    rw [hy] at hbig ⊢
    omega
  rw [e, Nat.min_eq_left hle]
  have e3 : jn m p = (p - (j : Int) + 1074).toNat * 4503599627370496 + m * 2 ^ j := by
    unfold jn
    rw [hj, Int.toNat_natCast, Nat.add_comm]
  rw [e3]
/-- The full significand of a number. -/
theorem full {m : Nat} (h0 : 0 < m) (hm : m < 9007199254740992) : Lib.bitLen m ≤ 53 ∧ 1 ≤ Lib.bitLen m ∧ 4503599627370496 ≤ m * 2 ^ (53 - Lib.bitLen m) ∧ m * 2 ^ (53 - Lib.bitLen m) < 9007199254740992 := by
  have hb := bl (m := m) (by omega) (by omega)
  have hb53 : Lib.bitLen m ≤ 53 := by
    have := pow_le_of (a := Lib.bitLen m - 1) (b := 53) hb.2.1 (by rw [two53]; exact hm)
    omega
  have h1 := bl_mul (s := 53 - Lib.bitLen m) (m := m) (by omega) (by omega)
  have e1 : Lib.bitLen m - 1 + (53 - Lib.bitLen m) = 52 := by omega
  have e2 : Lib.bitLen m + (53 - Lib.bitLen m) = 53 := by omega
  rw [e1, e2, two52, two53] at h1
  exact ⟨hb53, hb.1, h1.1, h1.2⟩
theorem jn_full {m : Nat} {q : Int} (h0 : 0 < m) (hm : m < 9007199254740992) (hq : -1021 ≤ q + (Lib.bitLen m : Int)) (ht : q + (Lib.bitLen m : Int) ≤ 1024) :
    ∃ X : Nat, (X : Int) = q + (Lib.bitLen m : Int) + 1021 ∧ X ≤ 2045 ∧ jn m q = m * 2 ^ (53 - Lib.bitLen m) + X * 4503599627370496 := by
  obtain ⟨h53, h1, h2, h3⟩ := full h0 hm
  have e1 : jsh m q = ((53 - Lib.bitLen m : Nat) : Int) := by unfold jsh; omega
  refine ⟨(q + (Lib.bitLen m : Int) + 1021).toNat, by omega, by omega, ?_⟩
  unfold jn
  rw [e1, Int.toNat_natCast]
  congr 2
  congr 1
  omega
theorem rd_jn {m : Nat} {q : Int} (h0 : 0 < m) (hm : m < 9007199254740992) (hq : -1021 ≤ q + (Lib.bitLen m : Int)) (ht : q + (Lib.bitLen m : Int) ≤ 1024) :
    Ieee.double.read (jn m q) = .number false (m * 2 ^ (53 - Lib.bitLen m)) (q - (53 - Lib.bitLen m : Nat)) := by
  obtain ⟨h53, h1, h2, h3⟩ := full h0 hm
  obtain ⟨X, hX, hX2, e⟩ := jn_full h0 hm hq ht
  rw [e]
  obtain ⟨M, hM⟩ : ∃ M, m * 2 ^ (53 - Lib.bitLen m) = M := ⟨_, rfl⟩
  rw [hM] at h2 h3 ⊢
  have r1 : (M + X * 4503599627370496) % 9223372036854775808 = M + X * 4503599627370496 := by omega
  have r2 : (M + X * 4503599627370496) / 9223372036854775808 = 0 := by omega
  have r3 : ¬ (M + X * 4503599627370496 < 4503599627370496) := by omega
  have r4 : M + X * 4503599627370496 < 9218868437227405312 := by omega
  have r5 : (M + X * 4503599627370496) % 4503599627370496 = M - 4503599627370496 := by omega
  have r6 : (M + X * 4503599627370496) / 4503599627370496 = X + 1 := by omega
  show (if (M + X * 4503599627370496) % 9223372036854775808 < 4503599627370496 then Ieee.Datum.number ((M + X * 4503599627370496) / 9223372036854775808 % 2 == 1) ((M + X * 4503599627370496) % 9223372036854775808) (-1074) else if (M + X * 4503599627370496) % 9223372036854775808 < 9218868437227405312 then Ieee.Datum.number ((M + X * 4503599627370496) / 9223372036854775808 % 2 == 1) (4503599627370496 + (M + X * 4503599627370496) % 9223372036854775808 % 4503599627370496) (-1074 + ((M + X * 4503599627370496) % 9223372036854775808 / 4503599627370496 - 1 : Nat)) else _) = _
  rw [r1, r2, if_neg r3, if_pos r4, r5, r6]
  have e1 : 4503599627370496 + (M - 4503599627370496) = M := by omega
  have e2 : -1074 + ((X + 1 - 1 : Nat) : Int) = q - (53 - Lib.bitLen m : Nat) := by omega
  rw [e1, e2]
  rfl
theorem word_pos (r : Nat) : Ieee.double.word false r = r := rfl
/-- A whole number as a float. -/
theorem of_int {m : Nat} (h0 : 0 < m) (hm : m < 9007199254740992) : floatOfInt .f64 (m : Int) = jn m 0 := by
  obtain ⟨h53, h1, _, _⟩ := full h0 hm
  have h := nearest_jn false m 0 0 h0 hm (by omega) (by omega)
  rw [word_pos] at h
  rw [← h]
  show Ieee.double.nearest (decide ((m : Int) < 0)) (m : Int).natAbs 0 = _
  have e1 : decide ((m : Int) < 0) = false := by simp
  rw [e1, Int.natAbs_natCast]
  simp
theorem rd_one : Ieee.double.read 4607182418800017408 = .number false 4503599627370496 (-52) := by decide +kernel
theorem rd_53 : Ieee.double.read 4368491638549381120 = .number false 4503599627370496 (-105) := by decide +kernel
/-- Times one. -/
theorem mul_one' {m : Nat} {q : Int} (h0 : 0 < m) (hm : m < 9007199254740992) (hq : -1021 ≤ q + (Lib.bitLen m : Int)) (ht : q + (Lib.bitLen m : Int) ≤ 1024) :
    Ieee.double.mul 4607182418800017408 (jn m q) = some (jn m q) := by
  obtain ⟨h53, h1, _, _⟩ := full h0 hm
  have hp : -1074 ≤ q := by omega
  unfold Ieee.Format.mul
  rw [rd_one, rd_jn h0 hm hq ht]
  show some (Ieee.double.nearest (false ^^ false) (4503599627370496 * (m * 2 ^ (53 - Lib.bitLen m))) (-52 + (q - (53 - Lib.bitLen m : Nat)))) = _
  have h := nearest_jn false m (53 - Lib.bitLen m + 52) q h0 hm hp ht
  have e1 : 4503599627370496 * (m * 2 ^ (53 - Lib.bitLen m)) = m * 2 ^ (53 - Lib.bitLen m + 52) := by
    rw [Nat.pow_add, two52, Nat.mul_comm, Nat.mul_assoc]
  have e2 : -52 + (q - (53 - Lib.bitLen m : Nat)) = q - ((53 - Lib.bitLen m + 52 : Nat) : Int) := by omega
  rw [e1, e2, Bool.xor_false, h, word_pos]
/-- Times two to the minus fifty-third. -/
theorem mul_53 {m : Nat} {q : Int} (h0 : 0 < m) (hm : m < 9007199254740992) (hq : -1074 ≤ q) (ht : q + 53 + (Lib.bitLen m : Int) ≤ 1024) :
    Ieee.double.mul 4368491638549381120 (jn m (q + 53)) = some (jn m q) := by
  obtain ⟨h53, h1, _, _⟩ := full h0 hm
  unfold Ieee.Format.mul
  rw [rd_53, rd_jn h0 hm (by omega) ht]
  show some (Ieee.double.nearest (false ^^ false) (4503599627370496 * (m * 2 ^ (53 - Lib.bitLen m))) (-105 + (q + 53 - (53 - Lib.bitLen m : Nat)))) = _
  have h := nearest_jn false m (53 - Lib.bitLen m + 52) q h0 hm hq (by omega)
  have e1 : 4503599627370496 * (m * 2 ^ (53 - Lib.bitLen m)) = m * 2 ^ (53 - Lib.bitLen m + 52) := by
    rw [Nat.pow_add, two52, Nat.mul_comm, Nat.mul_assoc]
  have e2 : -105 + (q + 53 - (53 - Lib.bitLen m : Nat)) = q - ((53 - Lib.bitLen m + 52 : Nat) : Int) := by omega
  rw [e1, e2, Bool.xor_false, h, word_pos]
/-- The fields of a whole number's float, and a float made of them again at another place. -/
theorem jn0_div {m : Nat} (h0 : 0 < m) (hm : m < 9007199254740992) : jn m 0 / 4503599627370496 = 1022 + Lib.bitLen m ∧ jn m 0 % 4503599627370496 = m * 2 ^ (53 - Lib.bitLen m) - 4503599627370496 ∧ jn m 0 < 9218868437227405312 := by
  obtain ⟨h53, h1, h2, h3⟩ := full h0 hm
  obtain ⟨X, hX, hX2, e⟩ := jn_full (q := 0) h0 hm (by omega) (by omega)
  rw [e]
  obtain ⟨M, hM⟩ : ∃ M, m * 2 ^ (53 - Lib.bitLen m) = M := ⟨_, rfl⟩
  rw [hM] at h2 h3 ⊢
  omega
theorem jn_made {m : Nat} {q : Int} (h0 : 0 < m) (hm : m < 9007199254740992) (hq : -1021 ≤ q + (Lib.bitLen m : Int)) (ht : q + (Lib.bitLen m : Int) ≤ 1024) :
    jn m q = jn m 0 % 4503599627370496 + (q + (Lib.bitLen m : Int) - 1 + 1023).toNat * 4503599627370496 := by
  obtain ⟨h53, h1, h2, h3⟩ := full h0 hm
  obtain ⟨X, hX, hX2, e⟩ := jn_full h0 hm hq ht
  rw [e, (jn0_div h0 hm).2.1]
  obtain ⟨M, hM⟩ : ∃ M, m * 2 ^ (53 - Lib.bitLen m) = M := ⟨_, rfl⟩
  rw [hM] at h2 h3 ⊢
  have e1 : (q + (Lib.bitLen m : Int) - 1 + 1023).toNat = X + 1 := by omega
  rw [e1]
  omega
end Go.Proofs.YtmjcjcpifahpaaaDoor
