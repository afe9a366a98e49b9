/-
  A text is a number; bits of it that are turned; what of it a sum tells. Nothing here speaks of the program.
-/
import Derived.Test.YtkfpgmpjimnleaaDoorMath
import Derived.Test.YtkfpgmpjimnleaaDoorMem
namespace Go.Proofs.YtkfpgmpjimnleaaDoor
set_option linter.unusedVariables false

theorem mul_xor (k a b : Nat) : 2 ^ k * (a ^^^ b) = 2 ^ k * a ^^^ 2 ^ k * b := by
  apply Nat.eq_of_testBit_eq
  intro i
  simp only [Nat.testBit_two_pow_mul, Nat.testBit_xor]
  by_cases h : k ≤ i <;> simp [h]

theorem val_cons (c : UInt8) (r : List UInt8) : val (c :: r) = c.toNat ^^^ 256 * val r := by
  have h := xor_parts (c.toNat + 256 * val r) 8
  have hc := c.toNat_lt
  rw [show (2 : Nat) ^ 8 = 256 from rfl, show (c.toNat + 256 * val r) / 256 = val r from by omega, show (c.toNat + 256 * val r) % 256 = c.toNat from by omega] at h
  rw [val, ← h, Nat.xor_comm]

/-- What goes into a number, at once. -/
theorem gin_val (l : List UInt8) : ∀ x, gin x l = stps (8 * l.length) (x ^^^ val l) := by
  induction l with
  | nil => intro x; simp [gin, val, stps]
  | cons c r ih =>
    intro x
    show gin (stps 8 (x ^^^ c.toNat)) r = _
    have hu := stps_up 8 (val r)
    rw [show (2 : Nat) ^ 8 = 256 from rfl] at hu
    rw [ih, val_cons, ← Nat.xor_assoc, show 8 * (c :: r).length = 8 + 8 * r.length from by simp; omega, stps_add, stps_xor 8 (x ^^^ c.toNat) (256 * val r), hu]

/-- A bit of a text is turned. -/
theorem val_flip (l : List UInt8) : ∀ (i r : Nat) (hi : i < l.length), r < 8 → val (l.set i (UInt8.ofNat (l[i].toNat ^^^ 2 ^ r))) = val l ^^^ 2 ^ (8 * i + r) := by
  induction l with
  | nil => intro i r hi; simp at hi
  | cons c t ih =>
    intro i r hi hr
    have h256 : 2 ^ r < 256 := Nat.pow_lt_pow_right (a := 2) (m := r) (n := 8) (by omega) hr
    cases i with
    | zero =>
      have hx : c.toNat ^^^ 2 ^ r < 256 := Nat.xor_lt_two_pow (n := 8) c.toNat_lt h256
      simp only [List.set_cons_zero, List.getElem_cons_zero, Nat.mul_zero, Nat.zero_add]
      rw [val_cons, val_cons, UInt8.toNat_ofNat', Nat.mod_eq_of_lt hx, Nat.xor_assoc, Nat.xor_assoc, Nat.xor_comm (2 ^ r)]
    | succ i =>
      have hi' : i < t.length := by simpa using hi
      simp only [List.set_cons_succ, List.getElem_cons_succ]
      have hm := mul_xor 8 (val t) (2 ^ (8 * i + r))
      rw [show (2 : Nat) ^ 8 = 256 from rfl] at hm
      rw [val_cons, ih i r hi' hr, hm, val_cons, ← Nat.xor_assoc, show 256 * 2 ^ (8 * i + r) = 2 ^ (8 * (i + 1) + r) from by rw [show 8 * (i + 1) + r = 8 + (8 * i + r) from by omega, Nat.pow_add 2 8]]

theorem stp_inj {x : Nat} (hx : x < 4294967296) (h : stp x = 0) : x = 0 := by
  unfold stp at h
  by_cases ho : x % 2 = 1
  · rw [if_pos ho] at h
    have h2 := congrArg (fun z => z ^^^ 2197175160) h
    simp only [Nat.xor_assoc, Nat.xor_self, Nat.xor_zero, Nat.zero_xor] at h2
    omega
  · rw [if_neg ho, Nat.xor_zero] at h
    omega
theorem stps_inj (n : Nat) : ∀ {x : Nat}, x < 4294967296 → stps n x = 0 → x = 0 := by
  induction n with
  | zero => intro x _ h; exact h
  | succ n ih => intro x hx h; exact stp_inj hx (ih (stp_lt hx) h)

/-- What goes into all bits of a text whose last four bytes are the sum of those ahead. -/
theorem sealed_rest (t : List UInt8) (n : Nat) (hl : t.length = n + 4) (h : sm (t.take n) = val (t.drop n)) : gin 4294967295 t = stps 32 4294967295 := by
  have h1 : t = t.take n ++ t.drop n := (List.take_append_drop n t).symm
  have hg := gin_lt (t.take n) (x := 4294967295) (by omega)
  have h2 : gin 4294967295 t = gin (gin 4294967295 (t.take n)) (t.drop n) := by
    conv => lhs; rw [h1]
    exact gin_append _ _ _
  have h3 : sm (t.take n) = 4294967295 ^^^ gin 4294967295 (t.take n) := by
    show 4294967295 - gin 4294967295 (t.take n) = _
    exact turn_eq hg
  rw [h2, gin_val (t.drop n), ← h, h3, show 8 * (t.drop n).length = 32 from by simp [hl], xor_swap, Nat.xor_self, Nat.xor_zero]

/-- Bits within 32 that follow each other, turned: the sum tells. -/
theorem burst_told (s t : List UInt8) (n k E : Nat) (hs : s.length = n + 4) (ht : t.length = n + 4) (hk : k ≤ 8 * (n + 4)) (hE : E < 4294967296) (hE0 : E ≠ 0)
    (hv : val t = val s ^^^ 2 ^ k * E) (h1 : sm (s.take n) = val (s.drop n)) : sm (t.take n) ≠ val (t.drop n) := by
  intro h2
  have e1 := sealed_rest s n hs h1
  have e2 := sealed_rest t n ht h2
  rw [gin_val, hs] at e1
  rw [gin_val, ht, hv, ← Nat.xor_assoc, stps_xor, e1] at e2
  have e3 : stps (8 * (n + 4)) (2 ^ k * E) = 0 := by
    have h3 := congrArg (fun z => stps 32 4294967295 ^^^ z) e2
    simp only [xor_twice, Nat.xor_self] at h3
    exact h3
  rw [show 8 * (n + 4) = k + (8 * (n + 4) - k) from by omega, stps_add, stps_up] at e3
  exact hE0 (stps_inj _ hE e3)

end Go.Proofs.YtkfpgmpjimnleaaDoor
