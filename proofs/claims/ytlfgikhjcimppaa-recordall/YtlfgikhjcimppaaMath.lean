/-
  The numbers of a CRC: steps, how they go over a xor, and sums. Nothing here speaks of the program.
-/
import Derived.WalkKit
namespace Go.Proofs.Ytlfgikhjcimppaa
set_option linter.unusedVariables false

/-- A step. -/
def stp (x : Nat) : Nat := x / 2 ^^^ (if x % 2 = 1 then 2197175160 else 0)

theorem xor_lt {x y : Nat} (hx : x < 4294967296) (hy : y < 4294967296) : x ^^^ y < 4294967296 := Nat.xor_lt_two_pow (n := 32) hx hy

theorem stp_lt {x : Nat} (hx : x < 4294967296) : stp x < 4294967296 := by
  unfold stp
  refine xor_lt (by omega) ?_
  split <;> omega

theorem stp_zero : stp 0 = 0 := rfl

theorem xor_half (x y : Nat) : (x ^^^ y) / 2 = x / 2 ^^^ y / 2 := by
  apply Nat.eq_of_testBit_eq
  intro i
  simp [Nat.testBit_div_two]

theorem xor_odd (x y : Nat) : (x ^^^ y) % 2 = (x % 2 + y % 2) % 2 := by
  have h := Nat.testBit_xor x y 0
  simp only [Nat.testBit_zero] at h
  have a := Nat.mod_two_eq_zero_or_one x
  have b := Nat.mod_two_eq_zero_or_one y
  have c := Nat.mod_two_eq_zero_or_one (x ^^^ y)
  rcases a with a | a <;> rcases b with b | b <;> rcases c with c | c <;> simp [a, b, c] at h ⊢

theorem stp_xor (x y : Nat) : stp (x ^^^ y) = stp x ^^^ stp y := by
  unfold stp
  rw [xor_half, xor_odd]
  rcases Nat.mod_two_eq_zero_or_one x with a | a <;> rcases Nat.mod_two_eq_zero_or_one y with b | b <;> simp only [a, b] <;> simp
  · rw [Nat.xor_assoc]
  · rw [Nat.xor_assoc, Nat.xor_comm (y / 2), Nat.xor_assoc]
  · rw [Nat.xor_assoc (x / 2), ← Nat.xor_assoc 2197175160, Nat.xor_comm 2197175160 (y / 2), Nat.xor_assoc (y / 2), Nat.xor_self, Nat.xor_zero]

/-- Some steps. -/
def stps : Nat → Nat → Nat
  | 0, x => x
  | n + 1, x => stps n (stp x)

theorem stps_lt (n : Nat) : ∀ {x : Nat}, x < 4294967296 → stps n x < 4294967296 := by
  induction n with
  | zero => intro x h; exact h
  | succ n ih => intro x h; exact ih (stp_lt h)

theorem stps_xor (n : Nat) : ∀ x y, stps n (x ^^^ y) = stps n x ^^^ stps n y := by
  induction n with
  | zero => intro x y; rfl
  | succ n ih => intro x y; show stps n (stp _) = _; rw [stp_xor, ih]; rfl

theorem stps_add (m n : Nat) : ∀ x, stps (m + n) x = stps n (stps m x) := by
  induction m with
  | zero => intro x; simp [stps]
  | succ m ih => intro x; rw [Nat.succ_add]; exact ih _

theorem stps_zero (n : Nat) : stps n 0 = 0 := by
  induction n with
  | zero => rfl
  | succ n ih => exact ih

theorem stps_succ (n x : Nat) : stps (n + 1) x = stp (stps n x) := stps_add n 1 x

theorem stps_comm (m n x : Nat) : stps m (stps n x) = stps n (stps m x) := by rw [← stps_add, ← stps_add, Nat.add_comm]

theorem stp_double (y : Nat) : stp (2 * y) = y := by
  unfold stp
  rw [if_neg (by omega), Nat.xor_zero]
  omega

theorem stps_up (n : Nat) : ∀ y, stps n (2 ^ n * y) = y := by
  induction n with
  | zero => intro y; simp [stps]
  | succ n ih =>
    intro y
    show stps n (stp _) = _
    rw [Nat.pow_succ, Nat.mul_comm (2 ^ n) 2, Nat.mul_assoc, stp_double, ih]

/-- A number is its low part, xor its high part. -/
theorem xor_parts (x k : Nat) : 2 ^ k * (x / 2 ^ k) ^^^ x % 2 ^ k = x := by
  have h := Nat.div_add_mod x (2 ^ k)
  have h2 := Nat.two_pow_add_eq_or_of_lt (Nat.mod_lt x (Nat.two_pow_pos k)) (x / 2 ^ k)
  rw [h] at h2
  apply Nat.eq_of_testBit_eq
  intro i
  rw [Nat.testBit_xor, Nat.testBit_two_pow_mul, Nat.testBit_mod_two_pow, Nat.testBit_div_two_pow]
  by_cases hi : i < k
  · simp [hi, Nat.not_le.2 hi]
  · have : k ≤ i := by omega
    simp [hi, this]

/-- Some steps, looked up by the low bits. -/
theorem stps_look (k x : Nat) : x / 2 ^ k ^^^ stps k (x % 2 ^ k) = stps k x := by
  have h : stps k (2 ^ k * (x / 2 ^ k) ^^^ x % 2 ^ k) = x / 2 ^ k ^^^ stps k (x % 2 ^ k) := by rw [stps_xor, stps_up]
  rw [xor_parts] at h
  exact h.symm

theorem four_look (x : Nat) : x / 16 ^^^ stps 4 (x % 16) = stps 4 x := stps_look 4 x

/-- Bytes that go into a number. -/
def gin (x : Nat) : List UInt8 → Nat
  | [] => x
  | c :: r => gin (stps 8 (x ^^^ c.toNat)) r

theorem gin_append (l k : List UInt8) : ∀ x, gin x (l ++ k) = gin (gin x l) k := by
  induction l with
  | nil => intro x; rfl
  | cons c r ih => intro x; exact ih _

theorem gin_snoc (x : Nat) (l : List UInt8) (c : UInt8) : gin x (l ++ [c]) = stps 8 (gin x l ^^^ c.toNat) := gin_append l [c] x

theorem gin_lt (l : List UInt8) : ∀ {x : Nat}, x < 4294967296 → gin x l < 4294967296 := by
  induction l with
  | nil => intro x h; exact h
  | cons c r ih => intro x h; exact ih (stps_lt 8 (xor_lt h (by have := c.toNat_lt; omega)))

theorem gin_far (l : List UInt8) : ∀ x y, gin (x ^^^ y) l = stps (8 * l.length) x ^^^ gin y l := by
  induction l with
  | nil => intro x y; rfl
  | cons c r ih =>
    intro x y
    show gin (stps 8 (x ^^^ y ^^^ c.toNat)) r = _
    rw [Nat.xor_assoc, stps_xor, ih, ← stps_add, show 8 + 8 * r.length = 8 * (c :: r).length from by simp; omega]
    rfl

theorem gin_split (l : List UInt8) (x : Nat) : gin x l = stps (8 * l.length) x ^^^ gin 0 l := by
  have := gin_far l x 0
  rwa [Nat.xor_zero] at this

/-- All bits turned. -/
theorem turn_eq {x : Nat} (h : x < 4294967296) : 4294967295 - x = 4294967295 ^^^ x := by
  apply Nat.eq_of_testBit_eq
  intro i
  have h2 := Nat.testBit_two_pow_sub_succ (n := 32) h i
  rw [Nat.testBit_xor, show (4294967295 : Nat) = 2 ^ 32 - 1 from rfl, Nat.testBit_two_pow_sub_one]
  rw [show (2 : Nat) ^ 32 - 1 - x = 2 ^ 32 - (x + 1) from by omega, h2]
  by_cases hi : i < 32
  · simp [hi]
  · have : x.testBit i = false := Nat.testBit_lt_two_pow (Nat.lt_of_lt_of_le h (Nat.pow_le_pow_right (n := 2) (i := 32) (by omega) (by omega)))
    simp [hi, this]

/-- The sum that goes on. -/
def mor (s : Nat) (l : List UInt8) : Nat := 4294967295 - gin (4294967295 - s) l
def sm (l : List UInt8) : Nat := mor 0 l

theorem mor_lt (s : Nat) (l : List UInt8) : mor s l < 4294967296 := by unfold mor; omega
theorem sm_lt (l : List UInt8) : sm l < 4294967296 := mor_lt 0 l

theorem mor_nil {s : Nat} (h : s < 4294967296) : mor s [] = s := by unfold mor gin; omega

theorem mor_append (s : Nat) (l k : List UInt8) : mor s (l ++ k) = mor (mor s l) k := by
  have h := gin_lt l (x := 4294967295 - s) (by omega)
  unfold mor
  rw [gin_append, show 4294967295 - (4294967295 - gin (4294967295 - s) l) = gin (4294967295 - s) l from by omega]

theorem xor_swap (a b c : Nat) : a ^^^ (b ^^^ c) = b ^^^ (a ^^^ c) := by rw [← Nat.xor_assoc, Nat.xor_comm a b, Nat.xor_assoc]
theorem xor_twice (a b : Nat) : a ^^^ (a ^^^ b) = b := by rw [← Nat.xor_assoc, Nat.xor_self, Nat.zero_xor]

/-- How sums are put together. -/
theorem sm_append (l k : List UInt8) : stps (8 * k.length) (sm l) ^^^ sm k = sm (l ++ k) := by
  have h1 := gin_lt l (x := 4294967295) (by omega)
  have h2 := gin_lt k (x := 4294967295) (by omega)
  have h3 := gin_lt (l ++ k) (x := 4294967295) (by omega)
  show stps (8 * k.length) (4294967295 - gin 4294967295 l) ^^^ (4294967295 - gin 4294967295 k) = 4294967295 - gin 4294967295 (l ++ k)
  rw [turn_eq h1, turn_eq h2, turn_eq h3, stps_xor, gin_append, gin_split k 4294967295, gin_split k (gin _ _)]
  simp only [Nat.xor_assoc]
  rw [xor_swap 4294967295 (stps _ 4294967295), xor_swap (stps _ (gin _ _)) (stps _ 4294967295), xor_twice, xor_swap (stps _ (gin _ _))]

/-- The xor of three texts. -/
def xor3 : List UInt8 → List UInt8 → List UInt8 → List UInt8
  | a :: r, b :: s, c :: t => (a ^^^ b ^^^ c) :: xor3 r s t
  | _, _, _ => []

theorem gin_xor3 (a : List UInt8) : ∀ (b c : List UInt8) (x y z : Nat), a.length = b.length → a.length = c.length → gin (x ^^^ y ^^^ z) (xor3 a b c) = gin x a ^^^ gin y b ^^^ gin z c := by
  induction a with
  | nil =>
    intro b c x y z hb hc
    obtain rfl := List.eq_nil_of_length_eq_zero hb.symm
    obtain rfl := List.eq_nil_of_length_eq_zero hc.symm
    rfl
  | cons u r ih =>
    intro b c x y z hb hc
    match b, c, hb, hc with
    | v :: s, t :: q, hb, hc =>
      show gin (stps 8 (x ^^^ y ^^^ z ^^^ (u ^^^ v ^^^ t).toNat)) (xor3 r s q) = gin (stps 8 (x ^^^ u.toNat)) r ^^^ gin (stps 8 (y ^^^ v.toNat)) s ^^^ gin (stps 8 (z ^^^ t.toNat)) q
      rw [← ih s q _ _ _ (by simpa using hb) (by simpa using hc), ← stps_xor, ← stps_xor]
      congr 2
      simp only [UInt8.toNat_xor, Nat.xor_assoc]
      rw [xor_swap z u.toNat, xor_swap y u.toNat, xor_swap z v.toNat]

theorem xor3_length (a : List UInt8) : ∀ (b c : List UInt8), a.length = b.length → a.length = c.length → (xor3 a b c).length = a.length := by
  induction a with
  | nil => intro b c _ _; cases b <;> cases c <;> rfl
  | cons u r ih =>
    intro b c hb hc
    match b, c, hb, hc with
    | v :: s, t :: q, hb, hc => simp [xor3, ih s q (by simpa using hb) (by simpa using hc)]

theorem xor3_at (a : List UInt8) : ∀ (b c : List UInt8) (i : Nat) (ha : i < a.length) (hb : i < b.length) (hc : i < c.length), (xor3 a b c)[i]? = some (a[i] ^^^ b[i] ^^^ c[i]) := by
  induction a with
  | nil => intro b c i ha; simp at ha
  | cons u r ih =>
    intro b c i ha hb hc
    match b, c, hb, hc with
    | v :: s, t :: q, hb, hc =>
      cases i with
      | zero => rfl
      | succ i => exact ih s q i (by simpa using ha) (by simpa using hb) (by simpa using hc)

theorem xor_three (f a b c : Nat) : f ^^^ (a ^^^ b ^^^ c) = f ^^^ a ^^^ (f ^^^ b) ^^^ (f ^^^ c) := by
  apply Nat.eq_of_testBit_eq
  intro i
  simp only [Nat.testBit_xor]
  cases f.testBit i <;> cases a.testBit i <;> cases b.testBit i <;> cases c.testBit i <;> rfl

theorem sm_xor3 (a b c : List UInt8) (hb : a.length = b.length) (hc : a.length = c.length) : sm (xor3 a b c) = sm a ^^^ sm b ^^^ sm c := by
  have h1 := gin_lt a (x := 4294967295) (by omega)
  have h2 := gin_lt b (x := 4294967295) (by omega)
  have h3 := gin_lt c (x := 4294967295) (by omega)
  have h4 := gin_lt (xor3 a b c) (x := 4294967295) (by omega)
  show 4294967295 - gin 4294967295 (xor3 a b c) = (4294967295 - gin 4294967295 a) ^^^ (4294967295 - gin 4294967295 b) ^^^ (4294967295 - gin 4294967295 c)
  have h := gin_xor3 a b c 4294967295 4294967295 4294967295 hb hc
  rw [show (4294967295 : Nat) ^^^ 4294967295 ^^^ 4294967295 = 4294967295 from rfl] at h
  rw [turn_eq h1, turn_eq h2, turn_eq h3, turn_eq h4, h]
  exact xor_three _ _ _ _

/-- What goes over a xor. -/
def Lin (F : Nat → Nat) : Prop := ∀ x y, F (x ^^^ y) = F x ^^^ F y
theorem Lin.zero {F : Nat → Nat} (h : Lin F) : F 0 = 0 := by
  have := h 0 0
  simpa using this
theorem lin_stps (n : Nat) : Lin (stps n) := stps_xor n

theorem up_odd (i x : Nat) : 2 ^ i * x = 2 ^ (i + 1) * (x / 2) ^^^ (2 ^ i * (x % 2)) := by
  have h := xor_parts (2 ^ i * x) (i + 1)
  rw [show 2 ^ i * x / 2 ^ (i + 1) = x / 2 from by rw [Nat.pow_succ, Nat.mul_div_mul_left _ _ (Nat.two_pow_pos i)], show 2 ^ i * x % 2 ^ (i + 1) = 2 ^ i * (x % 2) from by rw [Nat.pow_succ, Nat.mul_mod_mul_left]] at h
  exact h.symm

/-- The lowest bit of a number. -/
theorem low_bit {x t q : Nat} (h : x = 2 ^ t * (2 * q + 1)) : x &&& (x - 1) = 2 ^ (t + 1) * q ∧ x = 2 ^ (t + 1) * q ^^^ 2 ^ t := by
  have e1 : x = 2 ^ (t + 1) * q ^^^ 2 ^ t := by
    have h1 := up_odd t (2 * q + 1)
    rw [← h, show (2 * q + 1) / 2 = q from by omega, show (2 * q + 1) % 2 = 1 from by omega, Nat.mul_one] at h1
    exact h1
  refine ⟨?_, e1⟩
  have hp := Nat.two_pow_pos t
  have e2 : x - 1 = 2 ^ (t + 1) * q + (2 ^ t - 1) := by
    rw [h, Nat.pow_succ, Nat.mul_add, Nat.mul_assoc]; omega
  apply Nat.eq_of_testBit_eq
  intro i
  rw [Nat.testBit_and, e2, Nat.testBit_two_pow_mul_add _ (by rw [Nat.pow_succ]; omega), e1, Nat.testBit_xor, Nat.testBit_two_pow_mul, Nat.testBit_two_pow_sub_one, Nat.testBit_two_pow]
  by_cases h1 : i < t + 1
  · by_cases h2 : i = t
    · subst h2; simp; omega
    · have h3 : ¬ t = i := fun e => h2 e.symm
      simp [h1, h3, Nat.not_le.2 h1]
  · have h2 : t + 1 ≤ i := by omega
    have h3 : ¬ t = i := by omega
    simp [h1, h2, h3]

end Go.Proofs.Ytlfgikhjcimppaa
