/-
  RealOrders: x - x, of a finite float and of an infinity; the loop that takes twos out of a number. Nothing here speaks of the program.
-/
import Derived.Test.YtmjcjcpifahpaaaDoorV1
namespace Go.Proofs.YtmjcjcpifahpaaaDoor
open Go
set_option linter.unusedVariables false

/-- A finite float less itself is nought. -/
theorem sub_fin {b : Nat} (hb : b < 18446744073709551616) (hf : b % 9223372036854775808 < 9218868437227405312) : Ieee.double.sub b b = some 0 := by
  obtain ⟨m, i, e, _, _⟩ := rd_num hb hf
  unfold Ieee.Format.sub
  rw [e]
  have h : Ieee.signed (sgn b) m 0 + Ieee.signed (!(sgn b)) m 0 = 0 := by
    unfold Ieee.signed
    cases sgn b <;> simp <;> omega
  show some (Ieee.double.write (.number (if Ieee.signed (sgn b) m (i - min i i).toNat + Ieee.signed (!(sgn b)) m (i - min i i).toNat = 0 then sgn b && !(sgn b) else _) (Ieee.signed (sgn b) m (i - min i i).toNat + Ieee.signed (!(sgn b)) m (i - min i i).toNat).natAbs (min i i))) = _
  have e1 : (i - min i i).toNat = 0 := by omega
  rw [e1, h]
  have e2 : (sgn b && !(sgn b)) = false := by cases sgn b <;> rfl
  simp only [if_true, e2]
  rfl
/-- An infinity less itself is no number; which NaN comes of it the tape says. -/
theorem sub_inf {b : Nat} (hb : b < 18446744073709551616) (hf : b % 9223372036854775808 = 9218868437227405312) : Ieee.double.sub b b = none := by
  unfold Ieee.Format.sub
  rw [rd_inf hb hf]
  show Option.map Ieee.double.write (if sgn b = !(sgn b) then _ else none) = none
  rw [if_neg (by cases sgn b <;> simp)]
  rfl
theorem run_sub_fin {P : Program} (w : World) (t : TypeId) {b : Nat} (hb : b < 18446744073709551616) (hf : b % 9223372036854775808 < 9218868437227405312) : (binOp .sub t (.float .f64 b) (.float .f64 b)).run P w = .ok (.float .f64 0) w :=
  run_float_arith w .sub t .f64 b b 0 (sub_fin hb hf)
theorem run_sub_inf {P : Program} (w : World) (t : TypeId) {b : Nat} (hb : b < 18446744073709551616) (hf : b % 9223372036854775808 = 9218868437227405312) : ∃ n, n < 18446744073709551616 ∧ isN n = true ∧ (binOp .sub t (.float .f64 b) (.float .f64 b)).run P w = .ok (.float .f64 n) w.drew := by
  have h : FloatKind.f64.format.sub b b = none := sub_inf hb hf
  refine ⟨(w.tape w.drawn (.nanBits .f64 b b) % 2) * 9223372036854775808 + 9218868437227405312 + 1 + (w.tape w.drawn (.nanBits .f64 b b) / 2) % 4503599627370495, ?_, ?_, ?_⟩
  · have := Nat.mod_lt (w.tape w.drawn (.nanBits .f64 b b)) (by decide : 0 < 2)
    have := Nat.mod_lt (w.tape w.drawn (.nanBits .f64 b b) / 2) (by decide : 0 < 4503599627370495)
    omega
  · rw [isN_eq]
    have h1 := Nat.mod_lt (w.tape w.drawn (.nanBits .f64 b b)) (by decide : 0 < 2)
    have h2 := Nat.mod_lt (w.tape w.drawn (.nanBits .f64 b b) / 2) (by decide : 0 < 4503599627370495)
    generalize w.tape w.drawn (.nanBits .f64 b b) % 2 = a at *
    generalize w.tape w.drawn (.nanBits .f64 b b) / 2 % 4503599627370495 = c at *
    omega
  · simp [binOp, Op.floatArith, h, Question.forced, Question.cut]
/-- No number is like another thing, nought among them: '!='. -/
theorem nan_neq {n : Nat} (hn : n < 18446744073709551616) (h : isN n = true) : (Ieee.double.order n 0 != some .eq) = true := by
  rw [ord_nan_left hn h]; rfl
/-- What the loop that takes twos out of m, and counts them on e, comes to. -/
theorem twos {r : Nat} (h : 0 < r) (k : Nat) (hk : k ≤ Lib.ctz 64 (fm r)) : (fm r / 2 ^ k) % 2 = (if k = Lib.ctz 64 (fm r) then 1 else 0) ∧ fm r / 2 ^ k / 2 = fm r / 2 ^ (k + 1) ∧ 0 < fm r / 2 ^ k := by
  have hm := spM_mul h
  have ho := spM_odd h
  obtain ⟨c, hc⟩ : ∃ c, Lib.ctz 64 (fm r) = c := ⟨_, rfl⟩
  obtain ⟨s, hs⟩ : ∃ s, spM r = s := ⟨_, rfl⟩
  rw [hc] at hm hk ⊢
  rw [hs] at hm ho
  have e : fm r / 2 ^ k = s * 2 ^ (c - k) := by
    rw [← hm, show 2 ^ c = 2 ^ (c - k) * 2 ^ k by rw [← Nat.pow_add]; congr 1; omega, ← Nat.mul_assoc, Nat.mul_div_cancel _ (Nat.two_pow_pos _)]
  refine ⟨?_, ?_, ?_⟩
  · rw [e]
    split
    · rename_i hkc
      rw [hkc, Nat.sub_self, Nat.pow_zero, Nat.mul_one]
      exact ho
    · obtain ⟨d, hd⟩ : ∃ d, c - k = d + 1 := ⟨c - k - 1, by omega⟩
      rw [hd, Nat.pow_succ, ← Nat.mul_assoc]
      omega
  · rw [Nat.div_div_eq_div_mul, ← Nat.pow_succ]
  · rw [e]
    exact Nat.mul_pos (by omega) (Nat.two_pow_pos _)
end Go.Proofs.YtmjcjcpifahpaaaDoor
