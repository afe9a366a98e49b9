/-
  The document's Parse.
-/
import Derived.Test.YtlghcboenkglnaaN7
namespace Go.Proofs.Ytlghcboenkglnaa
open Go.RowKit
set_option linter.unusedVariables false

theorem noV {s : ByteArray} (h : parseR s = none) : parseV s = .tuple #[.string ⟨#[]⟩, .int .i64 0, .bool false] := by unfold parseV; rw [h]
theorem ba_drop (s : ByteArray) (c i : Nat) (h : c + i < s.size) : (s.data.toList.drop c).take (i + 1) = (s.data.toList.drop c).take i ++ [s[c + i]] := by
  rw [List.take_succ_eq_append_getElem (by simp; omega)]
  congr 2
  rw [List.getElem_drop]
  rfl

set_option maxRecDepth 100000 in
set_option maxHeartbeats 2000000 in
theorem rparse_any (w : World) (s : ByteArray) (hs : s.size ≤ maxLen) : Calls Try.prog 6 #[.string s] w fun e w' => e = .returned (parseV s) ∧ w' = w := by
  unfold maxLen at hs
  by_cases h16 : s.size < 16
  · have d1 : decide ((s.size : Int) < 16) = true := by simp; omega
    have hno : Hid (parseV s = .tuple #[.string ⟨#[]⟩, .int .i64 0, .bool false]) := noV (by unfold parseR; rw [if_pos h16])
    go_enter Try.func6, Try.ntmps6
    go_wp2
    go_ret3
    exact ⟨congrArg Ending.returned hno.out.symm, rfl⟩
  · have d1 : decide ((s.size : Int) < 16) = false := by simp; omega
    obtain ⟨c, hc⟩ : ∃ c, Hid (s.size - 15 = c) := ⟨_, (rfl : s.size - 15 = s.size - 15)⟩
    have hc2 := hc.out
    have hw1 : IntKind.i64.wrap ((s.size : Int) - 15) = (c : Int) := by rw [IntWalk.i64_in _ (by omega)]; omega
    have hw2 : IntKind.i64.wrap ((c : Int) + 1) = ((c + 1 : Nat) : Int) := by rw [IntWalk.i64_in _ (by omega)]; omega
    have hcs : Hid (s.size = c + 15) := (by omega : s.size = c + 15)
    have hpr : Hid (parseR s = match numP (s.data.toList.drop (c + 1)) with | none => none | some x => if logB (s.extract 0 c) = true ∧ s.data.toList[c]? = some 45 ∧ x ≤ 9007199254740992 then some (s.extract 0 c, x) else none) := by
      show _ = _
      unfold parseR
      rw [if_neg h16, hc2, show s.size - 14 = c + 1 by omega]
      rfl
    have hlen : Hid ((s.data.toList.drop (c + 1)).length = 14) := by
      show _ = _
      have : s.data.toList.length = s.size := rfl
      rw [List.length_drop]
      omega
    clear hc2
    go_enter Try.func6, Try.ntmps6
    go_wp2_with fail
    clear hw1 hw2
    go_loop [6, 7] (fun v6 v7 => ∃ i x : Nat, i ≤ 14 ∧ v7 = .int .i64 (c + 1 + i : Nat) ∧ v6 = .int .i64 x ∧ Hid (numP ((s.data.toList.drop (c + 1)).take i) = some x)) (fun _ v7 => s.size - (intOf v7).toNat)
    case atStart => exact ⟨0, 0, by omega, rfl, rfl, (rfl : numP [] = some 0)⟩
    case round =>
      obtain ⟨i, x, hi, rfl, rfl, hnum⟩ := hrel
      have hcs2 := hcs.out
      have hxl : x < 16 ^ i := by have := numP_lt hnum.out; rw [List.length_take, hlen.out, Nat.min_eq_left hi] at this; exact this
      by_cases hlt : i < 14
      · have hxl2 : x < 4503599627370496 := Nat.lt_of_lt_of_le hxl (Nat.le_trans (Nat.pow_le_pow_right (by decide) (by omega : i ≤ 13)) (by decide))
        obtain ⟨j, hj⟩ : ∃ j, Hid (c + 1 + i = j) := ⟨_, (rfl : c + 1 + i = c + 1 + i)⟩
        have hjs : j < s.size := by have := hj.out; omega
        have d1 : decide ((j : Int) < (s.size : Int)) = true := by simp; omega
        have hi1 : (0 : Int) ≤ (j : Int) := by omega
        have hi2 : (j : Int) < (s.size : Int) := by omega
        have htk := ba_drop s (c + 1) i (by omega)
        have hst := numP_snoc ((s.data.toList.drop (c + 1)).take i) (s[c + 1 + i]'(by omega))
        rw [← htk, hnum.out] at hst
        have hsj : Hid (s[c + 1 + i]'(by omega) = s[j]) := by show _ = _; congr 1
        rw [hsj.out] at hst
        have hwj : IntKind.i64.wrap ((j : Int) + 1) = ((c + 1 + (i + 1) : Nat) : Int) := by rw [IntWalk.i64_in _ (by omega)]; have := hj.out; omega
        have hme : s.size - (c + 1 + (i + 1)) < s.size - j := by have := hj.out; omega
        rw [hj.out]
        have hst2 : Hid _ := hst
        clear htk hxl hst hsj
        clear hcs2
        obtain ⟨b, hb⟩ : ∃ b, Hid (s[j].toNat = b) := ⟨_, (rfl : s[j].toNat = s[j].toNat)⟩
        have hbl : b < 256 := by rw [← hb.out]; exact UInt8.toNat_lt _
        have hb2 := hb.out
        have hnoall : hv s[j] = none → Hid (parseV s = .tuple #[.string ⟨#[]⟩, .int .i64 0, .bool false]) := fun hd => by
          have e1 : numP (s.data.toList.drop (c + 1)) = none := by
            rw [← List.take_append_drop (i + 1) (s.data.toList.drop (c + 1))]
            exact numP_none _ (by rw [hst2.out]; simp [stepN, hd])
          have e2 := hpr.out
          rw [e1] at e2
          exact noV e2
        have hnx : ∀ d, hv s[j] = some d → Hid (numP ((s.data.toList.drop (c + 1)).take (i + 1)) = some (16 * x + d)) := fun d hd => by
          show _ = _
          rw [hst2.out]; simp [stepN, hd]
        have hws : IntKind.i64.wrap (16 * (x : Int)) = ((16 * x : Nat) : Int) := by rw [IntWalk.i64_in _ (by omega)]; omega
        clear hst2
        by_cases h0 : 48 ≤ b ∧ b ≤ 57
        · have hd : hv s[j] = some (b - 48) := by unfold hv; rw [hb2, if_pos h0]
          replace hnx := hnx _ hd
          obtain ⟨d, hdd⟩ : ∃ d, Hid (b - 48 = d) := ⟨_, (rfl : b - 48 = b - 48)⟩
          rw [hdd.out] at hnx
          have hd2 := hdd.out
          have t1 : decide ((48 : Int) ≤ (b : Int)) = true := by simp; omega
          have t2 : decide ((b : Int) ≤ 57) = true := by simp; omega
          have hw5 : IntKind.u8.wrap ((b : Int) - 48) = (d : Int) := by rw [IntWalk.u8_in _ (by omega)]; omega
          have hw6 : IntKind.i64.wrap (d : Int) = (d : Int) := by rw [IntWalk.i64_in _ (by omega)]
          have hwt : IntKind.i64.wrap (((16 * x : Nat) : Int) + (d : Int)) = ((16 * x + d : Nat) : Int) := by rw [IntWalk.i64_in _ (by omega)]; omega
          have hd16 : d < 16 := by omega
          clear hd hnoall hd2
          go_wp2
          go_round
          case rel => exact ⟨i + 1, 16 * x + d, by omega, by go_num, by go_num, hnx⟩
          case measure => simp [intOf]; omega
        by_cases h1 : 97 ≤ b ∧ b ≤ 102
        · have hd : hv s[j] = some (b - 87) := by unfold hv; rw [hb2, if_neg h0, if_pos h1]
          replace hnx := hnx _ hd
          obtain ⟨d, hdd⟩ : ∃ d, Hid (b - 87 = d) := ⟨_, (rfl : b - 87 = b - 87)⟩
          rw [hdd.out] at hnx
          have hd2 := hdd.out
          have t1 : decide ((48 : Int) ≤ (b : Int)) = true := by simp; omega
          have t2 : decide ((b : Int) ≤ 57) = false := by simp; omega
          have t3 : decide ((97 : Int) ≤ (b : Int)) = true := by simp; omega
          have t4 : decide ((b : Int) ≤ 102) = true := by simp; omega
          obtain ⟨f, hf⟩ : ∃ f, Hid (b - 97 = f) := ⟨_, (rfl : b - 97 = b - 97)⟩
          have hf2 := hf.out
          have hw5 : IntKind.u8.wrap ((b : Int) - 97) = (f : Int) := by rw [IntWalk.u8_in _ (by omega)]; omega
          have hw6 : IntKind.i64.wrap (f : Int) = (f : Int) := by rw [IntWalk.i64_in _ (by omega)]
          have hw7 : IntKind.i64.wrap ((f : Int) + 10) = (d : Int) := by rw [IntWalk.i64_in _ (by omega)]; omega
          have hd16 : d < 16 := by omega
          clear hd hnoall hd2 hf2
          go_wp2
          go_round
          case rel => exact ⟨i + 1, 16 * x + d, by omega, by go_num, by go_num, hnx⟩
          case measure => simp [intOf]; omega
        · have hno := hnoall (by unfold hv; rw [hb2, if_neg h0, if_neg h1])
          clear hnx hws hnoall
          rcases (by omega : (b < 48) ∨ (57 < b ∧ b < 97) ∨ (102 < b)) with h | h | h
          · have t1 : decide ((48 : Int) ≤ (b : Int)) = false := by simp; omega
            have t3 : decide ((97 : Int) ≤ (b : Int)) = false := by simp; omega
            go_wp2
            go_ret3
            exact ⟨congrArg Ending.returned hno.out.symm, rfl⟩
          · have t1 : decide ((48 : Int) ≤ (b : Int)) = true := by simp; omega
            have t2 : decide ((b : Int) ≤ 57) = false := by simp; omega
            have t3 : decide ((97 : Int) ≤ (b : Int)) = false := by simp; omega
            go_wp2
            go_ret3
            exact ⟨congrArg Ending.returned hno.out.symm, rfl⟩
          · have t1 : decide ((48 : Int) ≤ (b : Int)) = true := by simp; omega
            have t2 : decide ((b : Int) ≤ 57) = false := by simp; omega
            have t3 : decide ((97 : Int) ≤ (b : Int)) = true := by simp; omega
            have t4 : decide ((b : Int) ≤ 102) = false := by simp; omega
            go_wp2
            go_ret3
            exact ⟨congrArg Ending.returned hno.out.symm, rfl⟩
      · obtain rfl : i = 14 := by omega
        rw [show c + 1 + 14 = s.size by omega]
        have d1 : decide ((s.size : Int) < (s.size : Int)) = false := by simp
        have e1 := hnum.out
        rw [List.take_of_length_le (by rw [hlen.out]; exact Nat.le_refl _)] at e1
        have e2 := hpr.out
        rw [e1] at e2
        simp only at e2
        have hc1 : (c : Int) ≤ (s.size : Int) := by omega
        have hc3 : (0 : Int) ≤ (c : Int) := by omega
        have hc4 : (c : Int) < (s.size : Int) := by omega
        have hcc : c < s.size := by omega
        have hlo := logged_any w (s.extract 0 c)
        have hat : s.data.toList[c]? = some s[c] := by rw [List.getElem?_eq_getElem (by show c < s.data.toList.length; exact hcc)]; rfl
        rw [hat] at e2
        obtain ⟨a, ha⟩ : ∃ a, Hid (s.extract 0 c = a) := ⟨_, (rfl : s.extract 0 c = s.extract 0 c)⟩
        have hx1 := ha.out
        rw [hx1] at e2 hlo
        have e3 : Hid _ := e2
        clear e1 e2 hat hcs2
        go_wp2_with fail
        refine hlo.mono ?_
        rintro e w3 ⟨rfl, rfl⟩
        cases hl : logB a
        · have hno : Hid (parseV s = .tuple #[.string ⟨#[]⟩, .int .i64 0, .bool false]) := noV (by rw [e3.out, hl]; simp)
          go_wp2
          go_ret3
          exact ⟨congrArg Ending.returned hno.out.symm, rfl⟩
        · by_cases h45 : s[c].toNat = 45
          · have t1 : ((s[c].toNat : Int) != 45) = false := by simp; omega
            by_cases hx : x ≤ 9007199254740992
            · have d2 : decide ((9007199254740992 : Int) < (x : Int)) = false := by simp; omega
              have hyv : Hid (parseV s = .tuple #[.string a, .int .i64 (x : Int), .bool true]) := by
                show _ = _
                unfold parseV
                rw [e3.out, hl, show s[c] = 45 from UInt8.toNat.inj h45]
                simp [hx]
              clear h45
              go_wp2
              go_ret3
              exact ⟨congrArg Ending.returned hyv.out.symm, rfl⟩
            · have d2 : decide ((9007199254740992 : Int) < (x : Int)) = true := by simp; omega
              have hno : Hid (parseV s = .tuple #[.string ⟨#[]⟩, .int .i64 0, .bool false]) := noV (by rw [e3.out]; simp [hx])
              clear h45
              go_wp2
              go_ret3
              exact ⟨congrArg Ending.returned hno.out.symm, rfl⟩
          · have t1 : ((s[c].toNat : Int) != 45) = true := by simp; omega
            have hno : Hid (parseV s = .tuple #[.string ⟨#[]⟩, .int .i64 0, .bool false]) := noV (by
              rw [e3.out, if_neg]
              rintro ⟨_, h2, _⟩
              apply h45
              rw [Option.some.inj h2]
              rfl)
            go_wp2
            go_ret3
            exact ⟨congrArg Ending.returned hno.out.symm, rfl⟩
end Go.Proofs.Ytlghcboenkglnaa
