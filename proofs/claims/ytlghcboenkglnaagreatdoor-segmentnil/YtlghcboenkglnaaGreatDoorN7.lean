/-
  Parse, the program's.
-/
import Derived.Test.YtlghcboenkglnaaGreatDoorN6
namespace Go.Proofs.YtlghcboenkglnaaGreatDoor
open Go.RowKit
set_option linter.unusedVariables false

theorem digit_any (w : World) (b : UInt8) : Calls Tryz.prog 95 #[.string ⟨#[48, 49, 50, 51, 52, 53, 54, 55, 56, 57, 97, 98, 99, 100, 101, 102]⟩, .int .u8 b.toNat] w fun e w' => e = .returned (.int .i64 (hvI b)) ∧ w' = w := by
  have h := place12 ⟨#[48, 49, 50, 51, 52, 53, 54, 55, 56, 57, 97, 98, 99, 100, 101, 102]⟩ (b.toNat : Int) w
  have e : ((b.toNat : Int).toNat.toUInt8) = b := by simp
  rw [e] at h
  have e2 := hv_idx b
  rw [← e2]
  exact h
theorem fold_lt (l : List UInt8) : ∀ (a x : Nat), l.foldl stepN (some a) = some x → x < (a + 1) * 16 ^ l.length := by
  induction l with
  | nil => intro a x h; simp at h; subst h; simp
  | cons b t ih =>
    intro a x h
    rw [List.foldl_cons] at h
    cases hd : hv b with
    | none =>
      have e : stepN (some a) b = none := by simp [stepN, hd]
      rw [e, fold_none] at h
      cases h
    | some d =>
      have e : stepN (some a) b = some (16 * a + d) := by simp [stepN, hd]
      rw [e] at h
      have h1 := ih _ _ h
      have h2 := hv_lt hd
      have h3 : (16 * a + d + 1) * 16 ^ t.length ≤ (16 * (a + 1)) * 16 ^ t.length := Nat.mul_le_mul_right _ (by omega)
      rw [List.length_cons, Nat.pow_succ, Nat.mul_comm (16 ^ t.length) 16, ← Nat.mul_assoc, Nat.mul_comm (a + 1) 16]
      omega
theorem numP_lt {l : List UInt8} {x : Nat} (h : numP l = some x) : x < 16 ^ l.length := by
  have := fold_lt l 0 x h
  simpa using this

set_option maxRecDepth 100000 in
set_option maxHeartbeats 2000000 in
theorem parse_any (w : World) (s : ByteArray) (hs : s.size ≤ maxLen) : Calls Tryz.prog 47 #[.string s] w fun e w' => e = .returned (parseV s) ∧ w.grownBy w' none := by
  go_enter Tryz.func47, Tryz.ntmps47
  go_wp2_with fail
  refine (cut11 s w hs).mono ?_
  rintro e w1 ⟨(⟨k, hk, hk2, rfl⟩ | ⟨hk, rfl⟩), hg⟩
  · have hlo := isLog_any w1 (s.extract 0 k)
    obtain ⟨a, ha⟩ : ∃ a, Hid (s.extract 0 k = a) := ⟨_, (rfl : s.extract 0 k = s.extract 0 k)⟩
    obtain ⟨t, ht⟩ : ∃ t, Hid (s.extract (k + 1) s.size = t) := ⟨_, (rfl : s.extract (k + 1) s.size = s.extract (k + 1) s.size)⟩
    have hts : t.size = s.size - (k + 1) := by rw [← ht.out, ByteArray.size_extract]; omega
    have htl : t.data.toList = s.data.toList.drop (k + 1) := by rw [← ht.out, ext_list, List.take_of_length_le (by show s.data.toList.length ≤ _; exact Nat.le_refl _)]
    rw [ha.out] at hlo ⊢
    rw [ht.out]
    cases hl : logB a
    · have hno : Hid (parseV s = .tuple #[.string ⟨#[]⟩, .int .i64 0, .bool false]) := by
        show _ = _
        unfold parseV
        rw [parse_no (fun j hj hl2 => by
          obtain rfl : j = k := by have := hk.symm.trans hj; omega
          rw [ha.out, hl] at hl2
          cases hl2)]
      rw [hl] at hlo
      clear hk hts htl
      go_wp2_with fail
      refine hlo.mono ?_
      rintro e w2 ⟨rfl, rfl⟩
      go_wp2
      go_ret3
      exact ⟨congrArg Ending.returned hno.out.symm, hg⟩
    · rw [hl] at hlo
      by_cases h14 : s.size - (k + 1) = 14
      · have hyes := parse_yes hk (by rw [ha.out]; exact hl) (by omega) h14
        rw [ha.out, ← htl] at hyes
        have hy2 : Hid _ := hyes
        have hts2 : t.size = 14 := by omega
        have hlen : Hid (t.data.toList.length = 14) := hts2
        have dt : ((t.size : Int) != 14) = false := by simp; omega
        clear hk hts htl hyes h14
        go_wp2_with fail
        refine hlo.mono ?_
        clear hlo
        rintro e w2 ⟨rfl, rfl⟩
        go_wp2_with fail
        go_loop [8, 25] (fun v8 v25 => ∃ i x : Nat, i ≤ 14 ∧ v25 = .int .i64 i ∧ v8 = .int .i64 x ∧ Hid (numP (t.data.toList.take i) = some x)) (fun _ v25 => 14 - (intOf v25).toNat)
        case atStart => exact ⟨0, 0, by omega, rfl, rfl, (rfl : numP [] = some 0)⟩
        case round =>
          obtain ⟨i, x, hi, rfl, rfl, hnum⟩ := hrel
          have hxl : x < 16 ^ i := by have := numP_lt hnum.out; rw [List.length_take, hlen.out, Nat.min_eq_left hi] at this; exact this
          by_cases hlt : i < 14
          · have hxl2 : x < 4503599627370496 := Nat.lt_of_lt_of_le hxl (Nat.le_trans (Nat.pow_le_pow_right (by decide) (by omega : i ≤ 13)) (by decide))
            have d1 : decide ((i : Int) < 14) = true := by simp; omega
            have hi1 : (0 : Int) ≤ (i : Int) := by omega
            have hi2 : (i : Int) < (t.size : Int) := by omega
            have hi3 : (i : Int) < 14 := by omega
            have hit : i < t.size := by omega
            have hdi := digit_any w2 t[i]
            have htk := ba_take t i hit
            have hst := numP_snoc (t.data.toList.take i) t[i]
            rw [← htk, hnum.out] at hst
            clear htk hxl
            cases hd : hv t[i] with
            | none =>
              have hno : Hid (parseV s = .tuple #[.string ⟨#[]⟩, .int .i64 0, .bool false]) := by
                show _ = _
                have e1 : numP t.data.toList = none := by
                  rw [← List.take_append_drop (i + 1) t.data.toList]
                  exact numP_none _ (by rw [hst]; simp [stepN, hd])
                have e2 := hy2.out
                rw [e1] at e2
                unfold parseV
                rw [e2]
              have hv1 : hvI t[i] = -1 := by simp [hvI, hd]
              rw [hv1] at hdi
              clear hst hd hv1
              go_wp2_with fail
              refine hdi.mono ?_
              rintro e w3 ⟨rfl, rfl⟩
              go_wp2
              go_ret3
              exact ⟨congrArg Ending.returned hno.out.symm, hg⟩
            | some d =>
              have hdl := hv_lt hd
              have hv1 : hvI t[i] = (d : Int) := by simp [hvI, hd]
              rw [hv1] at hdi
              have hnx : Hid (numP (t.data.toList.take (i + 1)) = some (16 * x + d)) := by show _ = _; rw [hst]; simp [stepN, hd]
              have d2 : decide ((d : Int) < 0) = false := by simp
              have hws : IntKind.i64.wrap ((x : Int) * 16) = ((16 * x : Nat) : Int) := by rw [IntWalk.i64_in _ (by omega)]; omega
              have hwt : IntKind.i64.wrap (((16 * x : Nat) : Int) + (d : Int)) = ((16 * x + d : Nat) : Int) := by rw [IntWalk.i64_in _ (by omega)]; omega
              clear hst hd hv1
              go_wp2_with fail
              refine hdi.mono ?_
              rintro e w3 ⟨rfl, rfl⟩
              go_wp2
              go_round
              case rel => exact ⟨i + 1, 16 * x + d, by omega, by go_num, by go_num, hnx⟩
              case measure => simp [intOf]; omega
          · obtain rfl : i = 14 := by omega
            have d1 : decide ((14 : Int) < 14) = false := by decide
            have e1 := hnum.out
            rw [List.take_of_length_le (by rw [hlen.out]; exact Nat.le_refl _)] at e1
            have e2 := hy2.out
            rw [e1] at e2
            by_cases hx : x ≤ 9007199254740992
            · have d2 : decide ((9007199254740992 : Int) < (x : Int)) = false := by simp; omega
              have hyv : Hid (parseV s = .tuple #[.string a, .int .i64 (x : Int), .bool true]) := by
                show _ = _
                unfold parseV
                rw [e2]
                simp [hx]
              clear e1 e2
              go_wp2
              go_ret3
              exact ⟨congrArg Ending.returned hyv.out.symm, hg⟩
            · have d2 : decide ((9007199254740992 : Int) < (x : Int)) = true := by simp; omega
              have hno : Hid (parseV s = .tuple #[.string ⟨#[]⟩, .int .i64 0, .bool false]) := by
                show _ = _
                unfold parseV
                rw [e2]
                simp [hx]
              clear e1 e2
              go_wp2
              go_ret3
              exact ⟨congrArg Ending.returned hno.out.symm, hg⟩
      · have hno : Hid (parseV s = .tuple #[.string ⟨#[]⟩, .int .i64 0, .bool false]) := by
          show _ = _
          unfold parseV
          rw [parse_no (fun j hj hl2 => by
            obtain rfl : j = k := by have := hk.symm.trans hj; omega
            exact h14)]
        have dt : ((t.size : Int) != 14) = true := by simp; omega
        clear hk hts htl
        go_wp2_with fail
        refine hlo.mono ?_
        rintro e w2 ⟨rfl, rfl⟩
        go_wp2
        go_ret3
        exact ⟨congrArg Ending.returned hno.out.symm, hg⟩
  · have hno : Hid (parseV s = .tuple #[.string ⟨#[]⟩, .int .i64 0, .bool false]) := by
      show _ = _
      unfold parseV
      rw [parse_no (fun j hj hl2 => by omega)]
    have hlo := isLog_any w1 s
    clear hk
    go_wp2_with fail
    refine hlo.mono ?_
    rintro e w2 ⟨rfl, rfl⟩
    cases hl : logB s
    · go_wp2
      go_ret3
      exact ⟨congrArg Ending.returned hno.out.symm, hg⟩
    · go_wp2
      go_ret3
      exact ⟨congrArg Ending.returned hno.out.symm, hg⟩
end Go.Proofs.YtlghcboenkglnaaGreatDoor
