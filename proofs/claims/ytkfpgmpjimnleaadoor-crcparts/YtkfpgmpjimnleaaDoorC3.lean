/-
  carry, Zeros, Combine: the walks of the code.
-/
import Derived.Test.YtkfpgmpjimnleaaDoorC2
namespace Go.Proofs.YtkfpgmpjimnleaaDoor
open Go.RowKit
set_option linter.unusedVariables false

theorem i64_and1 (n : Int) : bits .and .i64 n 1 = n % 2 := by
  have h127 : (BitVec.ofInt 64 1).toNat = 2 ^ 1 - 1 := by decide
  have key : (BitVec.ofInt 64 n &&& BitVec.ofInt 64 1).toNat = (n % ((2 ^ 64 : Nat) : Int)).toNat % 2 ^ 1 := by
    rw [BitVec.toNat_and, BitVec.toNat_ofInt, h127, Nat.and_two_pow_sub_one_eq_mod]
  show IntKind.i64.wrap ((BitVec.ofInt 64 n &&& BitVec.ofInt 64 1).toNat : Nat) = n % 2
  rw [key, IntKind.wrap_i64]
  omega

theorem carry_odd (j y z : Nat) (h : y % 2 = 1) : stps (8 * 2 ^ (j + 1) * (y / 2)) (stps (8 * 2 ^ j) z) = stps (8 * 2 ^ j * y) z := by
  rw [← stps_add]
  congr 1
  obtain ⟨q, rfl⟩ : ∃ q, y = 2 * q + 1 := ⟨y / 2, by omega⟩
  rw [show (2 * q + 1) / 2 = q from by omega, Nat.pow_succ, Nat.mul_add, Nat.mul_one, Nat.add_comm]
  congr 1
  simp only [Nat.mul_assoc]
theorem carry_even (j y z : Nat) (h : y % 2 = 0) : stps (8 * 2 ^ (j + 1) * (y / 2)) z = stps (8 * 2 ^ j * y) z := by
  congr 1
  obtain ⟨q, rfl⟩ : ∃ q, y = 2 * q := ⟨y / 2, by omega⟩
  rw [show (2 * q) / 2 = q from by omega, Nat.pow_succ]
  simp only [Nat.mul_assoc]
theorem twice_eq (j : Nat) : (fun i => stps (8 * 2 ^ j) (stps (8 * 2 ^ j) (2 ^ i))) = fun i => stps (8 * 2 ^ (j + 1)) (2 ^ i) := by
  funext i
  rw [← stps_add]
  congr 1
  rw [Nat.pow_succ]; omega

set_option maxRecDepth 100000 in
set_option maxHeartbeats 1000000 in
theorem carry_any (w : World) (x : Nat) (n : Int) (hx : x < 4294967296) (hn : n < 9223372036854775808) (hn0 : -9223372036854775808 ≤ n) (hD : Dt w) :
    Calls Tryd.prog 40 #[.int .u32 x, .int .i64 n] w fun e w' => e = .returned (.int .u32 (stps (8 * n.toNat) x)) ∧ w.grownBy w' none := by
  go_enter Tryd.func40, Tryd.ntmps40
  go_wp2_with (first
    | (go_at_call 48; refine (byteMoves_any _).mono ?_; rintro e w1 ⟨rfl, hg1⟩)
    | (refine wpList_store_tab rfl 74 (.tmp 5) (.tmp 6) rfl w1.heap.size (fun i => stps 8 (2 ^ i)) 32 rfl rfl 74 (Tb.new w1 _ 74 32 (fun i => stps 8 (2 ^ i)) rfl) info74 ?_; intro w2 hT2 hG2))
  have hGa : w.grownBy w2 none := below_of_new (grown_trans hg1 (alloc_grown w1 _) (by simp)) hG2 hg1.size
  have hg1s := hg1.size
  clear hG2 hg1
  try go_simp
  go_loopw [0, 1] (fun z' y' wr => ∃ (j z : Nat) (y : Int), z' = .int .u32 z ∧ y' = .int .i64 y ∧ z < 4294967296 ∧ y ≤ n ∧ -9223372036854775808 ≤ y ∧ Tb wr w1.heap.size 74 32 32 (fun i => stps (8 * 2 ^ j) (2 ^ i)) ∧ Hid (stps (8 * 2 ^ j * y.toNat) z = stps (8 * n.toNat) x) ∧ w.grownBy wr none)
    (fun _ y' _ => (intOf y').toNat)
  case atStart => exact ⟨0, x, n, rfl, rfl, hx, Int.le_refl _, hn0, hT2, (show _ = _ by simp), hGa⟩
  case round =>
    obtain ⟨j, z, y, rfl, rfl, hz, hy, hy0, hT, hI, hg⟩ := hrel
    by_cases hpos : 0 < y
    · obtain ⟨Y, rfl⟩ := Int.eq_ofNat_of_zero_le (Int.le_of_lt hpos)
      have hD2 := hD.grown hg
      have h1 := i64_and1 (Y : Int)
      have hI' : Hid (stps (8 * 2 ^ j * Y) z = stps (8 * n.toNat) x) := hI
      clear hI
      rcases Nat.mod_two_eq_zero_or_one Y with hpar | hpar
      · rw [show (Y : Int) % 2 = 0 from by omega] at h1
        have hnext : Hid (stps (8 * 2 ^ (j + 1) * ((Y : Int) / 2).toNat) z = stps (8 * n.toNat) x) := by
          show _ = _
          rw [show ((Y : Int) / 2).toNat = Y / 2 from by omega, carry_even j Y z hpar, hI'.out]
        clear hpar
        go_wp2_with fail
        refine (twice_any _ _ (stps (8 * 2 ^ j)) (lin_stps _) (fun y hy => stps_lt _ hy) hT hD2).mono ?_
        rw [twice_eq]
        rintro e w3 ⟨rfl, hg3⟩
        have hT3 := hT.grown hg3
        have hG3 := grown_trans hg hg3 (by simp)
        clear hT hg hD2 hg3
        go_wp2_with (refine wpList_store_tab rfl 74 (.tmp 5) (.tmp 16) rfl w1.heap.size (fun i => stps (8 * 2 ^ (j + 1)) (2 ^ i)) 32 rfl rfl 74 hT3 info74 ?_; intro w4 hT4 hG4)
        have hG5 := below_of_new hG3 hG4 hg1s
        go_roundw
        case rel => exact ⟨j + 1, z, (Y : Int) / 2, rfl, rfl, hz, by omega, by omega, hT4, hnext, hG5⟩
        case measure => simp [intOf]; omega
      · rw [show (Y : Int) % 2 = 1 from by omega] at h1
        have hzl : stps (8 * 2 ^ j) z < 4294967296 := stps_lt _ hz
        have hnext : Hid (stps (8 * 2 ^ (j + 1) * ((Y : Int) / 2).toNat) (stps (8 * 2 ^ j) z) = stps (8 * n.toNat) x) := by
          show _ = _
          rw [show ((Y : Int) / 2).toNat = Y / 2 from by omega, carry_odd j Y z hpar, hI'.out]
        clear hpar
        go_wp2_with fail
        refine (of_any _ _ _ (stps (8 * 2 ^ j)) hz (lin_stps _) (fun y hy => stps_lt _ hy) hT hD2).mono ?_
        rintro e w3 ⟨rfl, hg3⟩
        have hT3 := hT.grown hg3
        have hG3 := grown_trans hg hg3 (by simp)
        have hD3 := hD2.grown hg3
        clear hT hg hD2 hg3
        go_wp2_with fail
        refine (twice_any _ _ (stps (8 * 2 ^ j)) (lin_stps _) (fun y hy => stps_lt _ hy) hT3 hD3).mono ?_
        rw [twice_eq]
        rintro e w4 ⟨rfl, hg4⟩
        have hT4 := hT3.grown hg4
        have hG4 := grown_trans hG3 hg4 (by simp)
        clear hT3 hG3 hg4
        go_wp2_with (refine wpList_store_tab rfl 74 (.tmp 5) (.tmp 16) rfl w1.heap.size (fun i => stps (8 * 2 ^ (j + 1)) (2 ^ i)) 32 rfl rfl 74 hT4 info74 ?_; intro w5 hT5 hG5)
        have hG6 := below_of_new hG4 hG5 hg1s
        go_roundw
        case rel => exact ⟨j + 1, _, (Y : Int) / 2, rfl, rfl, hzl, by omega, by omega, hT5, hnext, hG6⟩
        case measure => simp [intOf]; omega
    · have h0 : y.toNat = 0 := by omega
      go_wp2
      go_ret
      refine ⟨ret_int ?_, hg⟩
      rw [← hI.out, h0]
      rfl

set_option maxHeartbeats 400000 in
theorem zeros_any (w : World) (n : Int) (hn : n < 9223372036854775808) (hn0 : -9223372036854775808 ≤ n) (hD : Dt w) :
    Calls Tryd.prog 18 #[.int .i64 n] w fun e w' => e = .returned (.int .u32 (4294967295 - stps (8 * n.toNat) 4294967295 : Nat)) ∧ w.grownBy w' none := by
  have hl : stps (8 * n.toNat) 4294967295 < 4294967296 := stps_lt _ (by omega)
  have hT := turn_bits hl
  go_enter Tryd.func18, Tryd.ntmps18
  go_wp2_with fail
  refine (carry_any _ 4294967295 n (by omega) hn hn0 hD).mono ?_
  rintro e w1 ⟨rfl, hg1⟩
  go_wp2
  go_ret
  exact ⟨rfl, hg1⟩

set_option maxHeartbeats 400000 in
theorem combine_any (w : World) (a b : Nat) (n : Int) (ha : a < 4294967296) (hb : b < 4294967296) (hn : n < 9223372036854775808) (hn0 : -9223372036854775808 ≤ n) (hD : Dt w) :
    Calls Tryd.prog 20 #[.int .u32 a, .int .u32 b, .int .i64 n] w fun e w' => e = .returned (.int .u32 (stps (8 * n.toNat) a ^^^ b : Nat)) ∧ w.grownBy w' none := by
  have hl : stps (8 * n.toNat) a < 4294967296 := stps_lt _ ha
  have hX := u32_xor_nat _ _ hl hb
  go_enter Tryd.func20, Tryd.ntmps20
  go_wp2_with fail
  refine (carry_any _ a n ha hn hn0 hD).mono ?_
  rintro e w1 ⟨rfl, hg1⟩
  go_wp2
  go_ret
  exact ⟨rfl, hg1⟩

end Go.Proofs.YtkfpgmpjimnleaaDoor
