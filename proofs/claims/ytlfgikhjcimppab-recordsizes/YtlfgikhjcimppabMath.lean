/-
  The numbers of a CRC: steps, how they go over a xor, and sums. Nothing here speaks of the program.
-/
import Derived.WalkKit
namespace Go.Proofs.Ytlfgikhjcimppab
set_option linter.unusedVariables false

/-- A step. -/
def stp (x : Nat) : Nat := x / 2 ^^^ (if x % 2 = 1 then 2197175160 else 0)
theorem xor_lt {x y : Nat} (hx : x < 4294967296) (hy : y < 4294967296) : x ^^^ y < 4294967296 := Nat.xor_lt_two_pow (n := 32) hx hy
theorem stp_lt {x : Nat} (hx : x < 4294967296) : stp x < 4294967296 := by
  unfold stp
  refine xor_lt (by omega) ?_
  split <;> omega
theorem xor_half (x y : Nat) : (x ^^^ y) / 2 = x / 2 ^^^ y / 2 := by
  apply Nat.eq_of_testBit_eq
  intro i
  simp [Nat.testBit_div_two]
theorem xor_odd (x y : Nat) : (x ^^^ y) % 2 = (x % 2 + y % 2) % 2 := by
  have h := Nat.testBit_xor x y 0
  simp only [Nat.testBit_zero] at h
  have a := Nat.mod_two_eq_zero_or_one x
  have b := Nat.mod_two_eq_zero_or_one y
  have c := Nat.mod_two_eq_zero_or_one (x ^^^ y)
  rcases a with a | a <;> rcases b with b | b <;> rcases c with c | c <;> simp [a, b, c] at h ⊢
theorem stp_xor (x y : Nat) : stp (x ^^^ y) = stp x ^^^ stp y := by
  unfold stp
  rw [xor_half, xor_odd]
  rcases Nat.mod_two_eq_zero_or_one x with a | a <;> rcases Nat.mod_two_eq_zero_or_one y with b | b <;> simp only [a, b] <;> simp
  · rw [Nat.xor_assoc]
  · rw [Nat.xor_assoc, Nat.xor_comm (y / 2), Nat.xor_assoc]
  · rw [Nat.xor_assoc (x / 2), ← Nat.xor_assoc 2197175160, Nat.xor_comm 2197175160 (y / 2), Nat.xor_assoc (y / 2), Nat.xor_self, Nat.xor_zero]
/-- Some steps. -/
def stps : Nat → Nat → Nat
  | 0, x => x
  | n + 1, x => stps n (stp x)
theorem stps_lt (n : Nat) : ∀ {x : Nat}, x < 4294967296 → stps n x < 4294967296 := by
  induction n with
  | zero => intro x h; exact h
  | succ n ih => intro x h; exact ih (stp_lt h)
theorem stps_xor (n : Nat) : ∀ x y, stps n (x ^^^ y) = stps n x ^^^ stps n y := by
  induction n with
  | zero => intro x y; rfl
  | succ n ih => intro x y; show stps n (stp _) = _; rw [stp_xor, ih]; rfl
theorem stps_add (m n : Nat) : ∀ x, stps (m + n) x = stps n (stps m x) := by
  induction m with
  | zero => intro x; simp [stps]
  | succ m ih => intro x; rw [Nat.succ_add]; exact ih _
theorem stps_succ (n x : Nat) : stps (n + 1) x = stp (stps n x) := stps_add n 1 x
theorem stp_double (y : Nat) : stp (2 * y) = y := by
  unfold stp
  rw [if_neg (by omega), Nat.xor_zero]
  omega
theorem stps_up (n : Nat) : ∀ y, stps n (2 ^ n * y) = y := by
  induction n with
  | zero => intro y; simp [stps]
  | succ n ih =>
    intro y
    show stps n (stp _) = _
    rw [Nat.pow_succ, Nat.mul_comm (2 ^ n) 2, Nat.mul_assoc, stp_double, ih]
/-- A number is its low part, xor its high part. -/
theorem xor_parts (x k : Nat) : 2 ^ k * (x / 2 ^ k) ^^^ x % 2 ^ k = x := by
  have h := Nat.div_add_mod x (2 ^ k)
  have h2 := Nat.two_pow_add_eq_or_of_lt (Nat.mod_lt x (Nat.two_pow_pos k)) (x / 2 ^ k)
  rw [h] at h2
  apply Nat.eq_of_testBit_eq
  intro i
  rw [Nat.testBit_xor, Nat.testBit_two_pow_mul, Nat.testBit_mod_two_pow, Nat.testBit_div_two_pow]
  by_cases hi : i < k
  · simp [hi, Nat.not_le.2 hi]
  · have : k ≤ i := by omega
    simp [hi, this]
/-- Some steps, looked up by the low bits. -/
theorem stps_look (k x : Nat) : x / 2 ^ k ^^^ stps k (x % 2 ^ k) = stps k x := by
  have h : stps k (2 ^ k * (x / 2 ^ k) ^^^ x % 2 ^ k) = x / 2 ^ k ^^^ stps k (x % 2 ^ k) := by rw [stps_xor, stps_up]
  rw [xor_parts] at h
  exact h.symm
theorem four_look (x : Nat) : x / 16 ^^^ stps 4 (x % 16) = stps 4 x := stps_look 4 x
/-- Bytes that go into a number. -/
def gin (x : Nat) : List UInt8 → Nat
  | [] => x
  | c :: r => gin (stps 8 (x ^^^ c.toNat)) r
theorem gin_append (l k : List UInt8) : ∀ x, gin x (l ++ k) = gin (gin x l) k := by
  induction l with
  | nil => intro x; rfl
  | cons c r ih => intro x; exact ih _
theorem gin_snoc (x : Nat) (l : List UInt8) (c : UInt8) : gin x (l ++ [c]) = stps 8 (gin x l ^^^ c.toNat) := gin_append l [c] x
theorem gin_lt (l : List UInt8) : ∀ {x : Nat}, x < 4294967296 → gin x l < 4294967296 := by
  induction l with
  | nil => intro x h; exact h
  | cons c r ih => intro x h; exact ih (stps_lt 8 (xor_lt h (by have := c.toNat_lt; omega)))
/-- All bits turned. -/
theorem turn_eq {x : Nat} (h : x < 4294967296) : 4294967295 - x = 4294967295 ^^^ x := by
  apply Nat.eq_of_testBit_eq
  intro i
  have h2 := Nat.testBit_two_pow_sub_succ (n := 32) h i
  rw [Nat.testBit_xor, show (4294967295 : Nat) = 2 ^ 32 - 1 from rfl, Nat.testBit_two_pow_sub_one]
  rw [show (2 : Nat) ^ 32 - 1 - x = 2 ^ 32 - (x + 1) from by omega, h2]
  by_cases hi : i < 32
  · simp [hi]
  · have : x.testBit i = false := Nat.testBit_lt_two_pow (Nat.lt_of_lt_of_le h (Nat.pow_le_pow_right (n := 2) (i := 32) (by omega) (by omega)))
    simp [hi, this]
/-- The sum that goes on. -/
def mor (s : Nat) (l : List UInt8) : Nat := 4294967295 - gin (4294967295 - s) l
def sm (l : List UInt8) : Nat := mor 0 l
theorem mor_lt (s : Nat) (l : List UInt8) : mor s l < 4294967296 := by unfold mor; omega
theorem sm_lt (l : List UInt8) : sm l < 4294967296 := mor_lt 0 l
/-- What goes over a xor. -/
def Lin (F : Nat → Nat) : Prop := ∀ x y, F (x ^^^ y) = F x ^^^ F y
theorem Lin.zero {F : Nat → Nat} (h : Lin F) : F 0 = 0 := by
  have := h 0 0
  simpa using this
end Go.Proofs.Ytlfgikhjcimppab
