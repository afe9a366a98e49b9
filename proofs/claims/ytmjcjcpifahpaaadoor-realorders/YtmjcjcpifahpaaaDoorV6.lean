/-
  RealOrders: the document's digits: the walk.
-/
import Derived.Test.YtmjcjcpifahpaaaDoorV3
import Derived.Test.YtmjcjcpifahpaaaDoorV5
namespace Go.Proofs.YtmjcjcpifahpaaaDoor
open Go.RowKit
set_option linter.unusedVariables false

theorem ba_take' (s : ByteArray) (i : Nat) (h : i < s.size) : s.data.toList.take (i + 1) = s.data.toList.take i ++ [s[i]] := by
  have h2 : i < s.data.toList.length := by simpa using h
  rw [List.take_succ_eq_append_getElem h2]
  congr 2
theorem ba_mem' (s : ByteArray) (i : Nat) (h : i < s.size) : s[i] ∈ s.data.toList := by
  have h2 : i < s.data.toList.length := by simpa using h
  have h3 := List.getElem_mem h2
  exact h3
set_option maxHeartbeats 4000000 in
theorem digits_any (w : World) (s : ByteArray) (hs : s.size ≤ 4611686018427387904) : Calls Tryd.prog 37 #[.string s] w fun e w' => ∃ (v : Nat) (ok : Bool), e = .returned (.tuple #[.int .i64 v, .bool ok]) ∧ (∀ m, dgx s.data.toList = some m → ok = true ∧ v = m) ∧ (dgx s.data.toList = none → ok = false) ∧ v < 1000000000000000000 ∧ w' = w := by
  go_enter Tryd.func37, Tryd.ntmps37
  go_wp2_with fail
  go_loopw [4, 5] (fun v4 v5 wr => ∃ i n : Nat, v4 = .int .i64 n ∧ v5 = .int .i64 i ∧ i ≤ s.size ∧ i ≤ 18 ∧ n < 10 ^ i ∧ wr = w ∧ Hid (n = dval 0 (s.data.toList.take i) ∧ (s.data.toList.take i).all dv = true)) (fun _ v5 _ => s.size - (intOf v5).toNat)
  case atStart => exact ⟨0, 0, val_int (by rfl), val_int (by rfl), Nat.zero_le _, by omega, by decide, rfl, (⟨rfl, rfl⟩ : _ ∧ _)⟩
  case round =>
    obtain ⟨i, n, rfl, rfl, hi, h18, hn, rfl, hA⟩ := hrel
    have hp : 10 ^ i ≤ 1000000000000000000 := Nat.pow_le_pow_right (n := 10) (j := 18) (by omega) h18
    by_cases hlt : i < s.size
    · by_cases hl18 : i < 18
      · have k1 : decide ((i : Int) < (s.size : Int)) = true := by simp; omega
        have k2 : decide ((i : Int) < 18) = true := by simp; omega
        have hi1 : (0 : Int) ≤ (i : Int) := by omega
        have hi2 : (i : Int) < (s.size : Int) := by omega
        have hp17 : 10 ^ i ≤ 100000000000000000 := Nat.pow_le_pow_right (n := 10) (j := 17) (by omega) (by omega)
        have hgood : dv s[i] = true → Hid (10 * n + (s[i].toNat - 48) = dval 0 (s.data.toList.take (i + 1)) ∧ (s.data.toList.take (i + 1)).all dv = true) := fun h => by
          show _ ∧ _
          rw [ba_take' s i hlt, List.all_append, dval_snoc, ← hA.out.1, hA.out.2]
          simp [h]
        have hbad : dv s[i] = false → Hid (dgx s.data.toList = none) := fun h => by
          show _ = _
          unfold dgx
          rw [if_neg]
          rintro ⟨_, _, h9⟩
          have := List.all_eq_true.1 h9 _ (ba_mem' s i hlt)
          rw [h] at this
          cases this
        obtain ⟨x, hx⟩ : ∃ x, s[i].toNat = x := ⟨_, rfl⟩
        have hpw : 10 ^ (i + 1) = 10 * 10 ^ i := by rw [Nat.pow_succ, Nat.mul_comm]
        have hn2 : 10 * n + 10 ≤ 10 ^ (i + 1) := by omega
        have HN2 : Hid _ := hn2
        have hn3 : n < 100000000000000000 := by omega
        rcases (by omega : (x < 48) ∨ (57 < x) ∨ (48 ≤ x ∧ x ≤ 57)) with hc | hc | hc
        · have d1 : decide ((s[i].toNat : Int) < 48) = true := by simp; omega
          replace hbad := hbad (by unfold dv; simp; omega)
          clear hgood hx hp hp17 hpw hn2 hn
          go_wp2_with fail
          refine bodyPost_ret (v := .tuple #[.int .i64 0, .bool false]) (by simp [results, Tryd.results37, go_sem]) rfl ?_
          exact ⟨0, false, rfl, fun m h => (by rw [hbad.out] at h; cases h), fun _ => rfl, by omega, rfl⟩
        · have d1 : decide ((s[i].toNat : Int) < 48) = false := by simp; omega
          have d2 : decide ((57 : Int) < (s[i].toNat : Int)) = true := by simp; omega
          replace hbad := hbad (by unfold dv; simp; omega)
          clear hgood hx hp hp17 hpw hn2 hn
          go_wp2_with fail
          refine bodyPost_ret (v := .tuple #[.int .i64 0, .bool false]) (by simp [results, Tryd.results37, go_sem]) rfl ?_
          exact ⟨0, false, rfl, fun m h => (by rw [hbad.out] at h; cases h), fun _ => rfl, by omega, rfl⟩
        · have d1 : decide ((s[i].toNat : Int) < 48) = false := by simp; omega
          have d2 : decide ((57 : Int) < (s[i].toNat : Int)) = false := by simp; omega
          replace hgood := hgood (by unfold dv; simp; omega)
          have b1 : 48 ≤ s[i].toNat := by omega
          have b2 : s[i].toNat ≤ 57 := by omega
          clear hbad hx hp hp17 hpw hn2 hn hc
          go_wp2_with fail
          go_roundw
          case rel => exact ⟨i + 1, 10 * n + (s[i].toNat - 48), val_int (by omega), val_int (by omega), by omega, by omega, by have := HN2.out; omega, trivial, hgood⟩
          case measure => simp [intOf]; omega
      · obtain rfl : i = 18 := by omega
        have k1 : decide ((18 : Int) < (s.size : Int)) = true := by simp; omega
        have k3 : decide ((0 : Int) < (s.size : Int)) = true := by simp; omega
        have k4 : decide ((s.size : Int) < 18) = false := by simp; omega
        have hno : Hid (dgx s.data.toList = none) := by
          show _ = _
          unfold dgx
          rw [if_neg]
          rintro ⟨_, h9, _⟩
          have : s.data.toList.length = s.size := by simp
          omega
        have hn9 : n < 1000000000000000000 := by omega
        clear hp hn
        go_wp2_with fail
        refine bodyPost_ret (v := .tuple #[.int .i64 n, .bool false]) (by simp [results, Tryd.results37, go_sem]) rfl ?_
        exact ⟨n, false, rfl, fun m h => (by rw [hno.out] at h; cases h), fun _ => rfl, hn9, rfl⟩
    · obtain rfl : i = s.size := by omega
      have k1 : decide ((s.size : Int) < (s.size : Int)) = false := by simp
      have hn9 : n < 1000000000000000000 := by omega
      have hlen : s.data.toList.length = s.size := by simp
      have hAll : Hid (n = dval 0 s.data.toList ∧ s.data.toList.all dv = true) := by
        have h9 := hA.out
        rw [List.take_of_length_le (by omega)] at h9
        exact h9
      have hval : Hid (∀ m, dgx s.data.toList = some m → (decide (0 < s.size) && decide (s.size < 18)) = true ∧ n = m) := fun m h => by
        unfold dgx at h
        split at h
        · rename_i hh
          cases h
          obtain ⟨g1, g2, _⟩ := hh
          have : s.data.toList.length ≠ 0 := fun e => g1 (List.length_eq_zero_iff.1 e)
          exact ⟨by simp; omega, hAll.out.1⟩
        · cases h
      have hnon : Hid (dgx s.data.toList = none → (decide (0 < s.size) && decide (s.size < 18)) = false) := fun h => by
        unfold dgx at h
        split at h
        · cases h
        · rename_i hh
          cases hq : (decide (0 < s.size) && decide (s.size < 18)) with
          | false => rfl
          | true =>
            simp at hq
            refine (hh ⟨fun e => ?_, by omega, hAll.out.2⟩).elim
            rw [e] at hlen
            simp at hlen
            omega
      clear hp hn hlen
      by_cases h0 : 0 < s.size
      · have k2 : decide ((0 : Int) < (s.size : Int)) = true := by simp; omega
        go_wp2_with fail
        refine bodyPost_ret (v := .tuple #[.int .i64 n, .bool (decide ((s.size : Int) < 18))]) (by simp [results, Tryd.results37, go_sem]) rfl ?_
        have e9 : decide ((s.size : Int) < 18) = (decide (0 < s.size) && decide (s.size < 18)) := by
          rw [show decide (0 < s.size) = true by simpa using h0, Bool.true_and]
          exact decide_eq_decide.2 (by omega)
        exact ⟨n, _, rfl, fun m h => by rw [e9]; exact hval.out m h, fun h => by rw [e9]; exact hnon.out h, hn9, rfl⟩
      · have k2 : decide ((0 : Int) < (s.size : Int)) = false := decide_eq_false (by omega)
        go_wp2_with fail
        refine bodyPost_ret (v := .tuple #[.int .i64 n, .bool false]) (by simp [results, Tryd.results37, go_sem]) rfl ?_
        have e9 : (decide (0 < s.size) && decide (s.size < 18)) = false := by
          rw [show decide (0 < s.size) = false by simpa using h0]; rfl
        exact ⟨n, false, rfl, fun m h => by rw [← e9]; exact hval.out m h, fun h => rfl, hn9, rfl⟩
end Go.Proofs.YtmjcjcpifahpaaaDoor
