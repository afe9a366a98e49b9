/-
  The document's Next and Pick; sched's Pick.
-/
import Derived.Test.YtfhbnkfpbjloeaaA3
namespace Go.Proofs.Ytfhbnkfpbjloeaa
open Go.RowKit
set_option linter.unusedVariables false

set_option maxRecDepth 100000 in
set_option maxHeartbeats 2000000 in
theorem rnext_any {w : World} (so : Option Addr) (n sc : Nat) (l : List Bool) (hP : Vs w so n sc (l.map bo)) (p : Int) :
    Calls Try.prog 10 #[.slice so n sc, .int .i64 p] w fun e w' => ∃ t er, e = .returned (.tuple #[.int .i64 t, .int .i64 er]) ∧ NextE l p t er ∧ w' = w := by
  by_cases h0 : p < 0
  · have hM : Hid (NextE l p 0 2) := by show NextE _ _ _ _; unfold NextE; rw [if_pos h0]; exact ⟨rfl, rfl⟩
    go_enter Try.func10, Try.ntmps10
    go_wp2
    go_ret2
    exact ⟨0, 2, rfl, hM, rfl⟩
  obtain ⟨q, rfl⟩ : ∃ q : Nat, p = q := ⟨p.toNat, by omega⟩
  have hM : Hid (∀ t e, NextR l q t e → NextE l q t e) := fun t e h => by show NextE _ _ _ _; unfold NextE; rw [if_neg h0]; exact h
  have hlen : l.length = n := by simpa using hP.len
  have hmax : n ≤ maxLen := Nat.le_trans hP.room hP.top
  unfold maxLen at hmax
  have q0 : (0 : Int) ≤ (q : Int) := by omega
  go_enter Try.func10, Try.ntmps10
  go_wp2_with fail
  go_loopw [6, 7] (fun v6 v7 wr => ∃ (k z : Nat), v7 = .int .i64 k ∧ v6 = .int .i64 z ∧ k ≤ n ∧ Hid (z = cnt (l.take k)) ∧ wr = w) (fun _ v7 _ => n - (intOf v7).toNat)
  case atStart => exact ⟨0, 0, rfl, rfl, Nat.zero_le _, rfl, rfl⟩
  case round =>
    obtain ⟨k, z, rfl, rfl, hk, hO, rfl⟩ := hrel
    by_cases hlt : k < n
    · have d2 : decide ((k : Int) < (n : Int)) = true := by simp; omega
      obtain ⟨g, o, rfl, -⟩ := hP.addr (by omega)
      obtain ⟨b, hb⟩ : ∃ b, l[k]? = some b := ⟨_, List.getElem?_eq_getElem (by omega)⟩
      have c0 := hP.at (bo_at hb)
      have i1 : (0 : Int) ≤ (k : Int) := by omega
      have i2 : (k : Int) < (n : Int) := by omega
      have ht := cnt_take hb
      have hz : z ≤ k := by have := cnt_le (l.take k); have := hO.out; simp at *; omega
      cases b
      · have hO3 : Hid (z = cnt (l.take (k + 1))) := by show _ = _; rw [ht, hO.out]; simp
        clear hO ht hb
        go_wp2
        go_roundw
        case rel => exact ⟨k + 1, z, by go_num, rfl, by omega, hO3, trivial⟩
        case measure => simp [intOf]; omega
      · have hO3 : Hid (z + 1 = cnt (l.take (k + 1))) := by show _ = _; rw [ht, hO.out]; simp
        clear hO ht hb
        go_wp2
        go_roundw
        case rel => exact ⟨k + 1, z + 1, by go_num, by go_num, by omega, hO3, trivial⟩
        case measure => simp [intOf]; omega
    · have d2 : decide ((k : Int) < (n : Int)) = false := by simp; omega
      have hc : z = cnt l := by
        rw [hO.out, List.take_of_length_le (by omega)]
      clear hO
      by_cases hz : z = 0
      · have hR : Hid (NextE l q 0 250) := hM.out _ _ (Or.inl ⟨by omega, rfl, rfl⟩)
        subst hz
        clear hc
        go_wp2
        go_ret2
        exact ⟨0, 250, rfl, hR, rfl⟩
      · have hre : (q : Int) % (z : Int) = ((q % z : Nat) : Int) := by simp
        obtain ⟨y, hy⟩ : ∃ y, q % z = y := ⟨_, rfl⟩
        have hyz : y < z := by rw [← hy]; exact Nat.mod_lt _ (by omega)
        rw [hy] at hre
        have hR : Hid (∀ i, Kth l y i → NextE l q i 0) := fun i hi => hM.out _ _ (Or.inr ⟨by omega, rfl, i, rfl, by rw [← hc, hy]; exact hi⟩)
        have hcy : Hid (y < cnt l) := by show _ < _; omega
        obtain ⟨Z, hZ⟩ : ∃ Z : Int, (z : Int) = Z := ⟨_, rfl⟩
        rw [hZ] at hre ⊢
        have d3 : ¬ Z = 0 := by omega
        have d4 : (Z == 0) = false := by simpa using d3
        have d5 : (0 : Int) < Z := by omega
        have hyn : y ≤ n := by have := cnt_le l; omega
        clear hc hyz hy hz hZ hM h0
        go_wp2_with fail
        rw [hre]
        have d6 : decide ((0 : Int) ≤ (y : Int)) = true := by simp
        clear hre d3 d4 d5 d2 hlt hk
        go_loopw [8, 9] (fun v8 v9 wr2 => ∃ (k z : Nat) (Z : Int), v9 = .int .i64 k ∧ v8 = .int .i64 Z ∧ Z = z ∧ k ≤ n ∧ Hid (z + cnt (l.take k) = y) ∧ wr2 = wr) (fun _ v9 _ => n - (intOf v9).toNat)
        case atStart => exact ⟨0, y, y, rfl, rfl, rfl, Nat.zero_le _, (rfl : y + 0 = y), rfl⟩
        case round =>
          obtain ⟨k, z, Z, rfl, rfl, hZz, hk, hO, rfl⟩ := hrel
          by_cases hlt : k < n
          · have d2 : decide ((k : Int) < (n : Int)) = true := by simp; omega
            obtain ⟨g, o, rfl, -⟩ := hP.addr (by omega)
            obtain ⟨b, hb⟩ : ∃ b, l[k]? = some b := ⟨_, List.getElem?_eq_getElem (by omega)⟩
            have c0 := hP.at (bo_at hb)
            have i1 : (0 : Int) ≤ (k : Int) := by omega
            have i2 : (k : Int) < (n : Int) := by omega
            have ht := cnt_take hb
            have hz : z ≤ y := by have := hO.out; omega
            cases b
            · have hO3 : Hid (z + cnt (l.take (k + 1)) = y) := by show _ = _; rw [ht]; exact hO.out
              have hZ2 : Hid (Z = z) := hZz
              clear hO hb ht hZz
              go_wp2
              go_roundw
              case rel => exact ⟨k + 1, z, Z, by go_num, rfl, hZ2, by omega, hO3, trivial⟩
              case measure => simp [intOf]; omega
            · by_cases hz0 : 0 < z
              · obtain ⟨x, hx⟩ : ∃ x, z = x + 1 := ⟨z - 1, by omega⟩
                have hO3 : Hid (x + cnt (l.take (k + 1)) = y) := by show _ = _; rw [ht]; have := hO.out; simp; omega
                have d3 : (Z == 0) = false := by simp; omega
                have d4 : Hid (Z - 1 = (x : Int)) := by show _ = _; omega
                have d5 : 0 < Z ∧ Z ≤ 9223372036854775807 := by omega
                obtain ⟨d5a, d5b⟩ := d5
                clear hO hb ht hx hZz
                go_wp2
                go_roundw
                case rel => exact ⟨k + 1, x, Z - 1, by go_num, rfl, d4.out, by omega, hO3, trivial⟩
                case measure => simp [intOf]; omega
              · obtain rfl : z = 0 := by omega
                have hK : Kth l y k := ⟨hb, by have := hO.out; omega⟩
                have hR2 : Hid (NextE l q k 0) := hR.out k hK
                obtain rfl : Z = 0 := by omega
                clear hO hb ht hZz hK
                go_wp2
                go_ret2
                exact ⟨k, 0, rfl, hR2, rfl⟩
          · exact absurd hcy.out (by have := hO.out; rw [List.take_of_length_le (by omega)] at this; omega)
end Go.Proofs.Ytfhbnkfpbjloeaa
