/-
  Place, Order, Like: the walks.
-/
import Derived.Test.YtmjcjcpifahpaaaDoorRows
import Derived.Test.YtmjcjcpifahpaaaDoorMem
import Derived.Test.YtmjcjcpifahpaaaDoorFlt
import Derived.Laws.Bits64
import Derived.Laws.Bits64b
import Derived.Laws.Cover2
namespace Go.Proofs.YtmjcjcpifahpaaaDoor
open Go.RowKit
set_option linter.unusedVariables false

theorem ret_int {k : IntKind} {a b : Int} (h : a = b) : Ending.returned (.int k a) = .returned (.int k b) := by rw [h]
theorem ret_bool {a b : Bool} (h : a = b) : Ending.returned (.bool a) = .returned (.bool b) := by rw [h]

theorem Tryd.call43 (f : Nat) (w : World) : (callFunc 43 #[.float .f64 f]).run Tryd.prog w = .ok (.value (.int .u64 f)) w := by kernel_rfl
theorem Tryd.call31 (n : Int) (w : World) : (callFunc 31 #[.int .u64 n]).run Tryd.prog w = .ok (.value (.float .f64 n.toNat)) w := by kernel_rfl

theorem and_top {b : Nat} (hb : b < 18446744073709551616) : bits .and .u64 (b : Int) 9223372036854775808 = if 9223372036854775808 ≤ b then 9223372036854775808 else 0 := by
  have h := bits_and_u64_nat b 9223372036854775808 hb (by omega)
  have e : b &&& 9223372036854775808 = if 9223372036854775808 ≤ b then 9223372036854775808 else 0 := by
    have ht : b.testBit 63 = decide (9223372036854775808 ≤ b) := by
      rw [Nat.testBit_eq_decide_div_mod_eq, show (2 : Nat) ^ 63 = 9223372036854775808 from by decide]
      rw [Bool.eq_iff_iff]; simp; omega
    apply Nat.eq_of_testBit_eq
    intro i
    rw [Nat.testBit_and, show (9223372036854775808 : Nat) = 2 ^ 63 from by decide, Nat.testBit_two_pow]
    rw [show (9223372036854775808 : Nat) = 2 ^ 63 from by decide] at ht
    by_cases hi : 63 = i
    · subst hi
      rw [ht]
      by_cases h : 2 ^ 63 ≤ b
      · rw [if_pos h, Nat.testBit_two_pow]; simp [h]
      · rw [if_neg h]; simp [h]
    · split
      · rw [Nat.testBit_two_pow]; simp [hi]
      · simp [hi]
  rw [e] at h
  rw [show (9223372036854775808 : Int) = ((9223372036854775808 : Nat) : Int) from rfl, h]
  split <;> rfl
theorem turn64 {b : Nat} (hb : b < 18446744073709551616) : bits .xor .u64 (b : Int) 18446744073709551615 = ((18446744073709551615 - b : Nat) : Int) := by
  have h := bits_xor_u64_nat b 18446744073709551615 hb (by omega)
  rw [show (18446744073709551615 : Int) = ((18446744073709551615 : Nat) : Int) from rfl, h]
  congr 1
  have := BitVec.toNat_not (x := BitVec.ofNat 64 b)
  have e : (BitVec.ofNat 64 b ^^^ BitVec.allOnes 64).toNat = 18446744073709551615 - b := by
    rw [BitVec.xor_allOnes, BitVec.toNat_not, BitVec.toNat_ofNat]
    omega
  rw [BitVec.toNat_xor, BitVec.toNat_ofNat, BitVec.toNat_allOnes] at e
  rw [← e]
  congr 1
  omega
theorem or_top {b : Nat} (hb : b < 9223372036854775808) : bits .or .u64 (b : Int) 9223372036854775808 = ((b + 9223372036854775808 : Nat) : Int) := by
  have h := bits_or_u64_nat b 9223372036854775808 (by omega) (by omega)
  rw [show (9223372036854775808 : Int) = ((9223372036854775808 : Nat) : Int) from rfl, h]
  congr 1
  have := Nat.two_pow_add_eq_or_of_lt (i := 63) (b := b) hb 1
  rw [Nat.mul_one, Nat.or_comm] at this
  rw [show (9223372036854775808 : Nat) = 2 ^ 63 from by decide, ← this, Nat.add_comm]

theorem plc_nan {b : Nat} (h : isN b = true) : plc b = 18446744073709551615 := by unfold plc; rw [h]; rfl
theorem plc_neg {b : Nat} (h : isN b = false) (hs : 9223372036854775808 ≤ b) : plc b = 18446744073709551615 - b := by unfold plc; rw [h]; simp; omega
theorem plc_pos {b : Nat} (h : isN b = false) (hs : b < 9223372036854775808) : plc b = b + 9223372036854775808 := by unfold plc; rw [h]; simp; omega

set_option maxHeartbeats 400000 in
theorem place_any (w : World) (x : Nat) (hx : x < 18446744073709551616) :
    Calls Tryd.prog 41 #[.float .f64 x] w fun e w' => e = .returned (.int .u64 (plc x)) ∧ w' = w := by
  have hn : (FloatKind.f64.format.order x x != some .eq) = isN x := self_neq hx
  have hc := Tryd.call43
  cases h : isN x with
  | true =>
    rw [h] at hn
    have hp : Hid (plc x = 18446744073709551615) := plc_nan h
    go_enter Tryd.func41, Tryd.ntmps41
    go_wp2
    go_ret
    exact ⟨ret_int (by rw [hp.out]; rfl), rfl⟩
  | false =>
    rw [h] at hn
    have ht := and_top hx
    by_cases hs : 9223372036854775808 ≤ x
    · rw [if_pos hs] at ht
      have hp : Hid (plc x = 18446744073709551615 - x) := plc_neg h hs
      have hX := turn64 hx
      go_enter Tryd.func41, Tryd.ntmps41
      go_wp2
      go_ret
      exact ⟨ret_int (by rw [hp.out]), rfl⟩
    · rw [if_neg hs] at ht
      have hp : Hid (plc x = x + 9223372036854775808) := plc_pos h (by omega)
      have hX := or_top (b := x) (by omega)
      go_enter Tryd.func41, Tryd.ntmps41
      go_wp2
      go_ret
      exact ⟨ret_int (by rw [hp.out]; omega), rfl⟩

/-- -1, 0, 1. -/
def cmpN (a b : Nat) : Int := if a < b then -1 else if b < a then 1 else 0

set_option maxHeartbeats 400000 in
theorem compare_any (w : World) (a b : Nat) :
    Calls Tryd.prog 40 #[.int .u64 a, .int .u64 b] w fun e w' => e = .returned (.int .i64 (cmpN a b)) ∧ w' = w := by
  by_cases h1 : a < b
  · have hp : Hid (cmpN a b = -1) := by show _ = _; unfold cmpN; rw [if_pos h1]
    go_enter Tryd.func40, Tryd.ntmps40
    go_wp2
    go_ret
    exact ⟨ret_int (by rw [hp.out]), rfl⟩
  · by_cases h2 : b < a
    · have hp : Hid (cmpN a b = 1) := by show _ = _; unfold cmpN; rw [if_neg h1, if_pos h2]
      go_enter Tryd.func40, Tryd.ntmps40
      go_wp2
      go_ret
      exact ⟨ret_int (by rw [hp.out]), rfl⟩
    · have hp : Hid (cmpN a b = 0) := by show _ = _; unfold cmpN; rw [if_neg h1, if_neg h2]
      go_enter Tryd.func40, Tryd.ntmps40
      go_wp2
      go_ret
      exact ⟨ret_int (by rw [hp.out]), rfl⟩

/-- The order of two floats. -/
def ordF (x y : Nat) : Int := cmpN (plc x) (plc y)

set_option maxHeartbeats 400000 in
theorem order_any (w : World) (x y : Nat) (hx : x < 18446744073709551616) (hy : y < 18446744073709551616) :
    Calls Tryd.prog 12 #[.float .f64 x, .float .f64 y] w fun e w' => e = .returned (.int .i64 (ordF x y)) ∧ w' = w := by
  go_enter Tryd.func12, Tryd.ntmps12
  go_wp2_with (first
    | (go_at_call 41; refine (place_any _ _ (by assumption)).mono ?_; rintro e w' ⟨rfl, rfl⟩)
    | (go_at_call 40; refine (compare_any _ _ _).mono ?_; rintro e w' ⟨rfl, rfl⟩))
  go_ret
  exact ⟨rfl, rfl⟩

/-- Are two floats like? -/
def likeF (x y : Nat) : Bool := decide (plc x = plc y)
theorem ord_zero (x y : Nat) : (ordF x y == 0) = likeF x y := by
  unfold ordF cmpN likeF
  rw [Bool.eq_iff_iff]
  split
  · simp; omega
  · split
    · simp; omega
    · simp; omega

set_option maxHeartbeats 400000 in
theorem like_any (w : World) (x y : Nat) (hx : x < 18446744073709551616) (hy : y < 18446744073709551616) :
    Calls Tryd.prog 14 #[.float .f64 x, .float .f64 y] w fun e w' => e = .returned (.bool (likeF x y)) ∧ w' = w := by
  have hz := ord_zero x y
  go_enter Tryd.func14, Tryd.ntmps14
  go_wp2_with (go_at_call 12; refine (order_any _ _ _ hx hy).mono ?_; rintro e w' ⟨rfl, rfl⟩)
  go_ret
  exact ⟨rfl, rfl⟩

end Go.Proofs.YtmjcjcpifahpaaaDoor
