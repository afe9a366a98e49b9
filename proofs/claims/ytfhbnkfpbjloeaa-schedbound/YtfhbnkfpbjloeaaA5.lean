/-
  Pick: sched's and the document's.
-/
import Derived.Test.YtfhbnkfpbjloeaaA4
namespace Go.Proofs.Ytfhbnkfpbjloeaa
open Go.RowKit
set_option linter.unusedVariables false

/-- What Pick answers. -/
def pickT (l : List Bool) (t : Int) : Int := if 0 ≤ t ∧ t < (l.length : Int) ∧ l[t.toNat]? = some true then (cnt (l.take t.toNat) : Int) else 0
def pickC (l : List Bool) (t : Int) : Int := if 0 ≤ t ∧ t < (l.length : Int) then (if l[t.toNat]? = some true then 0 else 250) else 2

theorem size4o : (Try.prog.info? 4).map (·.size) = some 1 := by kernel_rfl

set_option maxRecDepth 100000 in
set_option maxHeartbeats 2000000 in
theorem pick_any {w : World} (so : Option Addr) (n sc : Nat) (l : List Bool) (hP : Vs w so n sc (l.map bo)) (t : Int) :
    Calls Try.prog 11 #[.slice so n sc, .int .i64 t] w fun e w' => e = .returned (.tuple #[.int .i64 (pickT l t), .int .i64 (pickC l t)]) ∧ w' = w := by
  have hlen : l.length = n := by simpa using hP.len
  have hit := isThere_any w so n sc t
  by_cases h0 : 0 ≤ t ∧ t < (n : Int)
  · obtain ⟨k, rfl⟩ : ∃ k : Nat, t = k := ⟨t.toNat, by omega⟩
    have hkn : k < n := by omega
    have e1 : (decide (0 ≤ (k : Int)) && decide ((k : Int) < (n : Int))) = true := by simp; omega
    rw [e1] at hit
    obtain ⟨b, hb⟩ : ∃ b, l[k]? = some b := ⟨_, List.getElem?_eq_getElem (by omega)⟩
    obtain ⟨g, o, rfl, -⟩ := hP.addr (by omega)
    have c0 := hP.at (bo_at hb)
    have i1 : (0 : Int) ≤ (k : Int) := by omega
    have i2 : (k : Int) < (n : Int) := by omega
    have hroom := hP.room
    have htop := hP.top
    cases b
    · have hT : Hid (pickT l k = 0) := by show _ = _; unfold pickT; rw [if_neg]; simp [hb]
      have hC : Hid (pickC l k = 250) := by show _ = _; unfold pickC; rw [if_pos (by omega), if_neg]; simp [hb]
      rw [hT.out, hC.out]
      clear hb hroom htop hlen h0 e1
      go_enter Try.func11, Try.ntmps11
      go_wp2_with fail
      refine hit.mono ?_
      rintro e w1 ⟨rfl, rfl⟩
      go_wp2
      go_ret2
      exact ⟨rfl, rfl⟩
    · have hT : Hid (pickT l k = (cnt (l.take k) : Int)) := by show _ = _; unfold pickT; rw [if_pos ⟨by omega, by omega, by simpa using hb⟩]; rfl
      have hC : Hid (pickC l k = 0) := by show _ = _; unfold pickC; rw [if_pos (by omega), if_pos (by simpa using hb)]
      rw [hT.out, hC.out]
      have hv : Vs w (some ⟨g, o, none⟩) k sc ((l.take k).map bo) := by
        have h9 := hP.cut 0 k (by omega) o (Or.inr rfl) sc (by omega) htop
        simpa [List.map_take] using h9
      have hr := ready_any (some ⟨g, o, none⟩) k sc (l.take k) hv
      clear hb hlen h0 e1
      go_enter Try.func11, Try.ntmps11
      go_wp2_with fail
      refine hit.mono ?_
      rintro e w1 ⟨rfl, rfl⟩
      go_wp2_with (refine wpList_slice_hi _ rfl _ _ 22 rfl 4 Try.underlying22 size4o rfl (Or.inr ⟨_, _, rfl⟩) k rfl rfl (by omega) ?_)
      refine hr.mono ?_
      rintro e w1 ⟨rfl, rfl⟩
      go_wp2
      go_ret2
      exact ⟨rfl, rfl⟩
  · have hT : Hid (pickT l t = 0) := by show _ = _; unfold pickT; rw [if_neg]; rw [hlen]; omega
    have hC : Hid (pickC l t = 2) := by show _ = _; unfold pickC; rw [if_neg]; rw [hlen]; omega
    rw [hT.out, hC.out]
    have e1 : (decide (0 ≤ t) && decide (t < (n : Int))) = false := by
      rw [Bool.eq_false_iff]; simp; omega
    rw [e1] at hit
    clear e1
    go_enter Try.func11, Try.ntmps11
    go_wp2_with fail
    refine hit.mono ?_
    rintro e w1 ⟨rfl, rfl⟩
    go_wp2
    go_ret2
    exact ⟨rfl, rfl⟩

set_option maxRecDepth 100000 in
set_option maxHeartbeats 2000000 in
theorem rpick_any {w : World} (so : Option Addr) (n sc : Nat) (l : List Bool) (hP : Vs w so n sc (l.map bo)) (t : Int) :
    Calls Try.prog 12 #[.slice so n sc, .int .i64 t] w fun e w' => e = .returned (.tuple #[.int .i64 (pickT l t), .int .i64 (pickC l t)]) ∧ w' = w := by
  have hlen : l.length = n := by simpa using hP.len
  by_cases h0 : 0 ≤ t ∧ t < (n : Int)
  · obtain ⟨k, rfl⟩ : ∃ k : Nat, t = k := ⟨t.toNat, by omega⟩
    have hkn : k < n := by omega
    obtain ⟨b, hb⟩ : ∃ b, l[k]? = some b := ⟨_, List.getElem?_eq_getElem (by omega)⟩
    obtain ⟨g, o, rfl, -⟩ := hP.addr (by omega)
    have c0 := hP.at (bo_at hb)
    have i1 : (0 : Int) ≤ (k : Int) := by omega
    have i2 : (k : Int) < (n : Int) := by omega
    have i3 : decide ((k : Int) < 0) = false := by simp
    have i4 : decide ((n : Int) ≤ (k : Int)) = false := by simp; omega
    have i5 : decide (n ≤ k) = false := by simp; omega
    have hmax : n ≤ maxLen := Nat.le_trans hP.room hP.top
    unfold maxLen at hmax
    cases b
    · have hT : Hid (pickT l k = 0) := by show _ = _; unfold pickT; rw [if_neg]; simp [hb]
      have hC : Hid (pickC l k = 250) := by show _ = _; unfold pickC; rw [if_pos (by omega), if_neg]; simp [hb]
      rw [hT.out, hC.out]
      clear hb hlen h0
      go_enter Try.func12, Try.ntmps12
      go_wp2
      go_ret2
      exact ⟨rfl, rfl⟩
    · have hT : Hid (pickT l k = (cnt (l.take k) : Int)) := by show _ = _; unfold pickT; rw [if_pos ⟨by omega, by omega, by simpa using hb⟩]; rfl
      have hC : Hid (pickC l k = 0) := by show _ = _; unfold pickC; rw [if_pos (by omega), if_pos (by simpa using hb)]
      rw [hT.out, hC.out]
      clear hb h0
      go_enter Try.func12, Try.ntmps12
      go_wp2_with fail
      clear c0
      go_loopw [6, 7] (fun v6 v7 wr => ∃ (j z : Nat), v7 = .int .i64 j ∧ v6 = .int .i64 z ∧ j ≤ k ∧ Hid (z = cnt (l.take j)) ∧ wr = w) (fun _ v7 _ => k - (intOf v7).toNat)
      case atStart => exact ⟨0, 0, rfl, rfl, Nat.zero_le _, rfl, rfl⟩
      case round =>
        obtain ⟨j, z, rfl, rfl, hj, hO, rfl⟩ := hrel
        by_cases hlt : j < k
        · have d2 : decide ((j : Int) < (k : Int)) = true := by simp; omega
          obtain ⟨b, hb⟩ : ∃ b, l[j]? = some b := ⟨_, List.getElem?_eq_getElem (by omega)⟩
          have c0 := hP.at (bo_at hb)
          have j1 : (0 : Int) ≤ (j : Int) := by omega
          have j2 : (j : Int) < (n : Int) := by omega
          have ht := cnt_take hb
          have hz : z ≤ j := by have := cnt_le (l.take j); have := hO.out; simp at *; omega
          cases b
          · have hO3 : Hid (z = cnt (l.take (j + 1))) := by show _ = _; rw [ht, hO.out]; simp
            clear hO ht hb
            go_wp2
            go_roundw
            case rel => exact ⟨j + 1, z, by go_num, rfl, by omega, hO3, trivial⟩
            case measure => simp [intOf]; omega
          · have hO3 : Hid (z + 1 = cnt (l.take (j + 1))) := by show _ = _; rw [ht, hO.out]; simp
            clear hO ht hb
            go_wp2
            go_roundw
            case rel => exact ⟨j + 1, z + 1, by go_num, by go_num, by omega, hO3, trivial⟩
            case measure => simp [intOf]; omega
        · obtain rfl : j = k := by omega
          have d2 : decide ((j : Int) < (j : Int)) = false := by simp
          have hM : Hid ((z : Int) = cnt (l.take j)) := by show _ = _; rw [hO.out]
          clear hO
          go_wp2
          go_ret2
          exact ⟨by have h9 := hM.out; rw [h9]; simp, rfl⟩
  · have hT : Hid (pickT l t = 0) := by show _ = _; unfold pickT; rw [if_neg]; rw [hlen]; omega
    have hC : Hid (pickC l t = 2) := by show _ = _; unfold pickC; rw [if_neg]; rw [hlen]; omega
    rw [hT.out, hC.out]
    by_cases h1 : t < 0
    · have d1 : decide (t < 0) = true := by simpa using h1
      go_enter Try.func12, Try.ntmps12
      go_wp2
      go_ret2
      exact ⟨rfl, rfl⟩
    · have d1 : decide (t < 0) = false := by simpa using h1
      have d2 : decide ((n : Int) ≤ t) = true := by simp; omega
      go_enter Try.func12, Try.ntmps12
      go_wp2
      go_ret2
      exact ⟨rfl, rfl⟩
end Go.Proofs.Ytfhbnkfpbjloeaa
