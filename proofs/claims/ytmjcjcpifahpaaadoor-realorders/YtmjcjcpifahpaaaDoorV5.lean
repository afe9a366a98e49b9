/-
  RealOrders: the document's Parts: the walk.
-/
import Derived.Test.YtmjcjcpifahpaaaDoorV4
namespace Go.Proofs.YtmjcjcpifahpaaaDoor
open Go.RowKit
set_option linter.unusedVariables false

theorem val_int {k : IntKind} {a b : Int} (h : a = b) : Value.int k a = .int k b := by rw [h]
set_option maxHeartbeats 4000000 in
theorem parts_any (w : World) {b : Nat} (hb : b < 18446744073709551616) (h0 : 0 < b % 9223372036854775808) (hr : b % 9223372036854775808 < 9218868437227405312) : Calls Tryd.prog 47 #[.float .f64 b] w fun e w' => e = .returned (.tuple #[.int .u64 (spM (b % 9223372036854775808) : Nat), .int .i64 (spE (b % 9223372036854775808))]) ∧ w' = w := by
  obtain ⟨r, hrr⟩ : ∃ r, b % 9223372036854775808 = r := ⟨_, rfl⟩
  rw [hrr] at h0 hr ⊢
  have hrm : (b : Int) % 9223372036854775808 = (r : Int) := by omega
  have htw := fun k => twos (r := r) h0 k
  have hfl := fm_lt r
  have hcz : Lib.ctz 64 (fm r) < 64 := by
    obtain ⟨j, _, h9⟩ := ctz_odd (fm_pos h0) (by omega)
    exact h9
  have hfe : fe r ≤ 2046 := by unfold fe; omega
  have hM : Hid (spM r = fm r / 2 ^ Lib.ctz 64 (fm r)) := rfl
  have hE : Hid (spE r = -1074 + ((fe r + Lib.ctz 64 (fm r) : Nat) : Int)) := rfl
  have hsm : Hid (r < 4503599627370496 → fm r = r ∧ fe r = 0) := fun h => ⟨fm_small h, by unfold fe; omega⟩
  have hbg : Hid (¬ r < 4503599627370496 → fm r = 4503599627370496 + r % 4503599627370496 ∧ (fe r : Int) = (r / 4503599627370496 : Nat) - 1) := fun h => ⟨fm_big h, by unfold fe; omega⟩
  obtain ⟨c, hc⟩ : ∃ c, Lib.ctz 64 (fm r) = c := ⟨_, rfl⟩
  simp only [hc] at htw hM hE
  obtain ⟨F, hF⟩ : ∃ F, fm r = F := ⟨_, rfl⟩
  obtain ⟨E0, hE0⟩ : ∃ E0, fe r = E0 := ⟨_, rfl⟩
  simp only [hF] at htw hM hsm hbg
  simp only [hE0] at hE hsm hbg
  rw [hc] at hcz
  rw [hF] at hfl
  rw [hE0] at hfe
  have HT : Hid _ := htw
  have c43 := Tryd.call43
  clear htw hF hE0 hc hrr
  by_cases hs : r < 4503599627370496
  · have hs2 := hsm.out hs
    have k1 : decide ((4503599627370496 : Int) ≤ (r : Int)) = false := by simp; omega
    have k1b : decide (4503599627370496 ≤ r) = false := by simp; omega
    have HS2 : Hid _ := hs2
    clear hs2
    go_enter Tryd.func47, Tryd.ntmps47
    go_wp2_with fail
    go_loopw [5, 6] (fun v5 v6 wr => ∃ k : Nat, v5 = .int .u64 ((F / 2 ^ k : Nat) : Int) ∧ v6 = .int .i64 (-1074 + ((E0 + k : Nat) : Int)) ∧ k ≤ c ∧ wr = w) (fun _ v6 _ => (1200 + (c : Int) + (E0 : Int) - intOf v6).toNat)
    case atStart =>
      exact ⟨0, val_int (by have := HS2.out; rw [Nat.pow_zero, Nat.div_one]; omega), val_int (by have := HS2.out; omega), Nat.zero_le _, rfl⟩
    case round =>
      obtain ⟨k, rfl, rfl, hk, rfl⟩ := hrel
      obtain ⟨t1, t2, t3⟩ := HT.out k hk
      have hle : F / 2 ^ k ≤ F := Nat.div_le_self _ _
      obtain ⟨M, hMM⟩ : ∃ M, F / 2 ^ k = M := ⟨_, rfl⟩
      have HMM : Hid (F / 2 ^ k = M) := hMM
      have HN : Hid (M / 2 = F / 2 ^ (k + 1)) := by
        show _ = _
        rw [← t2, hMM]
      rw [hMM] at t1 t3 hle
      simp only [hMM]
      clear hMM t2
      by_cases hkc : k = c
      · rw [if_pos hkc] at t1
        have k2 : (((M : Int) % 2) == 0) = false := by simp; omega
        have HK : Hid (k = c) := hkc
        clear hkc
        go_wp2_with fail
        refine bodyPost_ret (v := .tuple #[.int .u64 (M : Nat), .int .i64 (-1074 + ((E0 + k : Nat) : Int))]) (by simp [results, Tryd.results47, go_sem]) rfl ?_
        refine ⟨?_, rfl⟩
        rw [hM.out, hE.out, ← HK.out, HMM.out]
      · rw [if_neg hkc] at t1
        have k2 : (((M : Int) % 2) == 0) = true := by simp; omega
        go_wp2_with fail
        go_roundw
        case rel => exact ⟨k + 1, val_int (by rw [← HN.out]; omega), val_int (by omega), by omega, trivial⟩
        case measure => simp [intOf]; omega
  · have hs2 := hbg.out hs
    have k1 : decide ((4503599627370496 : Int) ≤ (r : Int)) = true := by simp; omega
    have k1b : decide (4503599627370496 ≤ r) = true := by simp; omega
    have HS2 : Hid _ := hs2
    clear hs2
    go_enter Tryd.func47, Tryd.ntmps47
    go_wp2_with fail
    go_loopw [5, 6] (fun v5 v6 wr => ∃ k : Nat, v5 = .int .u64 ((F / 2 ^ k : Nat) : Int) ∧ v6 = .int .i64 (-1074 + ((E0 + k : Nat) : Int)) ∧ k ≤ c ∧ wr = w) (fun _ v6 _ => (1200 + (c : Int) + (E0 : Int) - intOf v6).toNat)
    case atStart =>
      exact ⟨0, val_int (by have := HS2.out; rw [Nat.pow_zero, Nat.div_one]; omega), val_int (by have := HS2.out; omega), Nat.zero_le _, rfl⟩
    case round =>
      obtain ⟨k, rfl, rfl, hk, rfl⟩ := hrel
      obtain ⟨t1, t2, t3⟩ := HT.out k hk
      have hle : F / 2 ^ k ≤ F := Nat.div_le_self _ _
      obtain ⟨M, hMM⟩ : ∃ M, F / 2 ^ k = M := ⟨_, rfl⟩
      have HMM : Hid (F / 2 ^ k = M) := hMM
      have HN : Hid (M / 2 = F / 2 ^ (k + 1)) := by
        show _ = _
        rw [← t2, hMM]
      rw [hMM] at t1 t3 hle
      simp only [hMM]
      clear hMM t2
      by_cases hkc : k = c
      · rw [if_pos hkc] at t1
        have k2 : (((M : Int) % 2) == 0) = false := by simp; omega
        have HK : Hid (k = c) := hkc
        clear hkc
        go_wp2_with fail
        refine bodyPost_ret (v := .tuple #[.int .u64 (M : Nat), .int .i64 (-1074 + ((E0 + k : Nat) : Int))]) (by simp [results, Tryd.results47, go_sem]) rfl ?_
        refine ⟨?_, rfl⟩
        rw [hM.out, hE.out, ← HK.out, HMM.out]
      · rw [if_neg hkc] at t1
        have k2 : (((M : Int) % 2) == 0) = true := by simp; omega
        go_wp2_with fail
        go_roundw
        case rel => exact ⟨k + 1, val_int (by rw [← HN.out]; omega), val_int (by omega), by omega, trivial⟩
        case measure => simp [intOf]; omega
end Go.Proofs.YtmjcjcpifahpaaaDoor
