/-
  The law that with rising picks all come in turn, walked.
-/
import Derived.Test.YtfhbnkfpbjloeaaB3
namespace Go.Proofs.Ytfhbnkfpbjloeaa
open Go.RowKit
set_option linter.unusedVariables false

theorem next_turn {l : List Bool} {P c r i : Nat} {t e : Int} (h : NextE l P t e) (hc : cnt l = c) (hP : P = r * c + cnt (l.take i)) (hi : l[i]? = some true) : t = i ∧ e = 0 := by
  refine h.one ?_
  unfold NextE
  rw [if_neg (by omega)]
  have h1 := cnt_take hi
  have h2 := cnt_take_le l (i + 1)
  simp only [if_true] at h1
  refine Or.inr ⟨by omega, rfl, i, rfl, hi, ?_⟩
  rw [Int.toNat_natCast, hP, hc, Nat.add_comm, Nat.add_mul_mod_self_right, Nat.mod_eq_of_lt (by omega)]

set_option maxRecDepth 100000 in
set_option maxHeartbeats 4000000 in
theorem schedTurns_any (w : World) (so : Option Addr) (n sc : Nat) (l : List Bool) (hP : Vs w so n sc (l.map bo)) (rs : Int) :
    Calls Try.prog 7 #[.slice so n sc, .int .i64 rs] w fun e w' => e = .returned (.bool true) ∧ w.grownBy w' none := by
  have hlen : l.length = n := by simpa using hP.len
  have hk := known_any w
  by_cases hbig : 200 < n
  · have d1 : decide ((200 : Int) < (n : Int)) = true := by simp; omega
    have d1' : decide (200 < n) = true := by simp; omega
    go_enter Try.func7, Try.ntmps7
    go_wp2_with fail
    refine hk.mono ?_
    rintro e w1 ⟨rfl, hg1⟩
    go_wp2
    go_ret
    exact ⟨rfl, hg1⟩
  have d1 : decide ((200 : Int) < (n : Int)) = false := by simp; omega
  have d1' : decide (200 < n) = false := by simp; omega
  by_cases hr : 20 < rs
  · have d2 : decide ((20 : Int) < rs) = true := by simpa using hr
    go_enter Try.func7, Try.ntmps7
    go_wp2_with fail
    refine hk.mono ?_
    rintro e w1 ⟨rfl, hg1⟩
    go_wp2
    go_ret
    exact ⟨rfl, hg1⟩
  have d2 : decide ((20 : Int) < rs) = false := by simpa using hr
  have hn : n ≤ 200 := by omega
  have hr2 : rs ≤ 20 := by omega
  go_enter Try.func7, Try.ntmps7
  go_wp2_with fail
  clear hk d1 d1' d2 hbig hr
  go_loopw [5, 6] (fun v5 v6 wr => ∃ (k z : Nat), v6 = .int .i64 k ∧ v5 = .int .i64 z ∧ k ≤ n ∧ Hid (z = cnt (l.take k)) ∧ wr = w) (fun _ v6 _ => n - (intOf v6).toNat)
  case atStart => exact ⟨0, 0, rfl, rfl, Nat.zero_le _, rfl, rfl⟩
  case round =>
    obtain ⟨k, z, rfl, rfl, hk, hO, hw⟩ := hrel
    replace hw := hw.symm
    subst hw
    by_cases hlt : k < n
    · have d2 : decide ((k : Int) < (n : Int)) = true := by simp; omega
      obtain ⟨g, o, rfl, -⟩ := hP.addr (by omega)
      obtain ⟨b, hb⟩ : ∃ b, l[k]? = some b := ⟨_, List.getElem?_eq_getElem (by omega)⟩
      have c0 := hP.at (bo_at hb)
      have i1 : (0 : Int) ≤ (k : Int) := by omega
      have i2 : (k : Int) < (n : Int) := by omega
      have ht := cnt_take hb
      have hz : z ≤ k := by have := cnt_le (l.take k); have := hO.out; simp at *; omega
      cases b
      · have hO3 : Hid (z = cnt (l.take (k + 1))) := by show _ = _; rw [ht, hO.out]; simp
        clear hO ht hb
        go_wp2
        go_roundw
        case rel => exact ⟨k + 1, z, by go_num, rfl, by omega, hO3, trivial⟩
        case measure => simp [intOf]; omega
      · have hO3 : Hid (z + 1 = cnt (l.take (k + 1))) := by show _ = _; rw [ht, hO.out]; simp
        clear hO ht hb
        go_wp2
        go_roundw
        case rel => exact ⟨k + 1, z + 1, by go_num, by go_num, by omega, hO3, trivial⟩
        case measure => simp [intOf]; omega
    · have d2 : decide ((k : Int) < (n : Int)) = false := by simp; omega
      have hc : cnt l = z := by
        rw [hO.out, List.take_of_length_le (by omega)]
      clear hO
      by_cases hz : z = 0
      · subst hz
        have hnx := next_any so n sc l hP 0
        have hR : Hid (∀ t e, NextE l 0 t e → t = 0 ∧ e = 250) := fun t e h => h.one (by unfold NextE; rw [if_neg (by decide)]; exact Or.inl ⟨hc, rfl, rfl⟩)
        clear hc
        go_wp2_with fail
        refine hnx.mono ?_
        rintro e w1 ⟨t, er, rfl, hE, hg1⟩
        obtain ⟨rfl, rfl⟩ := hR.out _ _ hE
        have hk := known_any w1
        clear hE hR hnx
        go_wp2_with fail
        refine hk.mono ?_
        rintro e w2 ⟨rfl, hg2⟩
        have hG := grown_trans hg1 hg2 (by simp)
        go_wp2
        go_ret
        exact ⟨rfl, hG⟩
      · have hcH : Hid (cnt l = z) := hc
        have hzn : z ≤ 200 := by have := cnt_le l; omega
        obtain ⟨Z, hZ⟩ : ∃ Z : Int, (z : Int) = Z := ⟨_, rfl⟩
        have d3 : ¬ Z = 0 := by omega
        have d4 : (Z == 0) = false := by simpa using d3
        rw [hZ]
        clear hc hz hZ
        go_wp2_with fail
        clear d4 d3 d2 hlt hk
        go_loopw [9, 10] (fun v9 v10 wr2 => ∃ (r P : Nat), v10 = .int .i64 r ∧ v9 = .int .i64 P ∧ r ≤ 20 ∧ P ≤ 4000 ∧ Hid (P = r * z) ∧ w.grownBy wr2 none) (fun _ v10 _ => 20 - (intOf v10).toNat)
        case atStart => exact ⟨0, 0, rfl, rfl, Nat.zero_le _, by omega, by show _ = _; omega, grown_refl _ _⟩
        case round =>
          obtain ⟨r, P, rfl, rfl, hr, hPb, hPr, hg⟩ := hrel
          by_cases hlr : (r : Int) < rs
          · have d3 : decide ((r : Int) < rs) = true := by simpa using hlr
            go_wp2_with fail
            go_loopw [9, 11] (fun v9 v11 wr3 => ∃ (i P : Nat), v11 = .int .i64 i ∧ v9 = .int .i64 P ∧ i ≤ n ∧ P ≤ 5000 ∧ Hid (P = r * z + cnt (l.take i)) ∧ w.grownBy wr3 none) (fun _ v11 _ => n - (intOf v11).toNat)
            case atStart => exact ⟨0, P, rfl, rfl, Nat.zero_le _, by omega, by show _ = _; rw [hPr.out]; rfl, hg⟩
            case round =>
              obtain ⟨i, P, rfl, rfl, hi, hPb2, hPi, hg3⟩ := hrel
              by_cases hlt : i < n
              · have d4 : decide ((i : Int) < (n : Int)) = true := by simp; omega
                have hPw := hP.grown hg3
                obtain ⟨g, o, rfl, -⟩ := hP.addr (by omega)
                obtain ⟨b, hb⟩ : ∃ b, l[i]? = some b := ⟨_, List.getElem?_eq_getElem (by omega)⟩
                have c0 := hPw.at (bo_at hb)
                have i1 : (0 : Int) ≤ (i : Int) := by omega
                have i2 : (i : Int) < (n : Int) := by omega
                have ht := cnt_take hb
                cases b
                · have hO3 : Hid (P = r * z + cnt (l.take (i + 1))) := by show _ = _; rw [ht, hPi.out]; simp
                  clear hPi ht hb hPw
                  go_wp2
                  go_roundw
                  case rel => exact ⟨i + 1, P, by go_num, rfl, by omega, hPb2, hO3, hg3⟩
                  case measure => simp [intOf]; omega
                · have hO3 : Hid (P + 1 = r * z + cnt (l.take (i + 1))) := by show _ = _; rw [ht, hPi.out]; simp; omega
                  have hPz : P + 1 ≤ 5000 := by
                    have h1 : r * z ≤ 20 * z := Nat.mul_le_mul_right _ hr
                    have h2 := cnt_le (l.take (i + 1))
                    have h3 := hO3.out
                    simp at h2
                    omega
                  have hnx := next_any (some ⟨g, o, none⟩) n sc l hPw P
                  have hR : Hid (∀ t e, NextE l P t e → t = i ∧ e = 0) := fun t e h => next_turn h hcH.out hPi.out hb
                  clear hPi ht hb
                  go_wp2_with fail
                  refine hnx.mono ?_
                  rintro e w1 ⟨t, er, rfl, hE, hg1⟩
                  obtain ⟨rfl, rfl⟩ := hR.out _ _ hE
                  have hG := grown_trans hg3 hg1 (by simp)
                  clear hE hR hnx hg1 hPw
                  go_wp2
                  go_roundw
                  case rel => exact ⟨i + 1, P + 1, by go_num, by go_num, by omega, hPz, hO3, hG⟩
                  case measure => simp [intOf]; omega
              · have d4 : decide ((i : Int) < (n : Int)) = false := by simp; omega
                have hO3 : Hid (P = (r + 1) * z) := by
                  show _ = _
                  rw [hPi.out, List.take_of_length_le (by omega), hcH.out, Nat.add_mul, Nat.one_mul]
                have hr3 : r + 1 ≤ 20 := by omega
                have hP4 : P ≤ 4000 := by
                  have h1 : (r + 1) * z ≤ 20 * z := Nat.mul_le_mul_right _ hr3
                  have h3 := hO3.out
                  omega
                clear hPi
                go_wp2
                go_roundw
                case rel => exact ⟨r + 1, P, by go_num, rfl, hr3, hP4, hO3, hg3⟩
                case measure => simp [intOf]; omega
          · have d3 : decide ((r : Int) < rs) = false := by simpa using hlr
            have hk := known_any wr
            clear hPr
            go_wp2_with fail
            refine hk.mono ?_
            rintro e w1 ⟨rfl, hg1⟩
            have hG := grown_trans hg hg1 (by simp)
            go_wp2
            go_ret
            exact ⟨rfl, hG⟩
end Go.Proofs.Ytfhbnkfpbjloeaa
