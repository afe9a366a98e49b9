/-
  isName.
-/
import Derived.Test.YthkbakaodbceiaaD5
namespace Go.Proofs.Ythkbakaodbceiaa
open Go.RowKit
set_option linter.unusedVariables false

/-- A byte that may stand in a name. -/
def okc (c : UInt8) : Bool := (97 ≤ c.toNat && c.toNat ≤ 122) || (48 ≤ c.toNat && c.toNat ≤ 57) || c.toNat == 46 || c.toNat == 45
/-- What is a name. -/
def nameB (s : ByteArray) : Bool := 1 ≤ s.size && s.size ≤ 32 && s.data.toList.all okc

theorem ba_take (s : ByteArray) (i : Nat) (h : i < s.size) : s.data.toList.take (i + 1) = s.data.toList.take i ++ [s[i]] := by
  rw [List.take_succ_eq_append_getElem (by simpa using h)]
  rfl
theorem ba_mem (s : ByteArray) (i : Nat) (h : i < s.size) : s[i] ∈ s.data.toList := by
  have : s.data.toList[i]? = some s[i] := by rw [List.getElem?_eq_getElem (by simpa using h)]; rfl
  exact List.mem_of_getElem? this

set_option maxRecDepth 100000 in
set_option maxHeartbeats 2000000 in
theorem isName_any (w : World) (s : ByteArray) : Calls Try.prog 64 #[.string s] w fun e w' => e = .returned (.bool (nameB s)) ∧ w' = w := by
  by_cases h1 : s.size < 1
  · have d1 : decide ((s.size : Int) < 1) = true := by simp; omega
    have hn : nameB s = false := by unfold nameB; simp; omega
    go_enter Try.func64, Try.ntmps64
    go_wp2
    go_ret
    exact ⟨congrArg (fun b => Ending.returned (.bool b)) hn.symm, rfl⟩
  · have d1 : decide ((s.size : Int) < 1) = false := by simp; omega
    by_cases h2 : 32 < s.size
    · have d2 : decide ((32 : Int) < (s.size : Int)) = true := by simp; omega
      have hn : nameB s = false := by unfold nameB; simp; omega
      go_enter Try.func64, Try.ntmps64
      go_wp2
      go_ret
      exact ⟨congrArg (fun b => Ending.returned (.bool b)) hn.symm, rfl⟩
    · have d2 : decide ((32 : Int) < (s.size : Int)) = false := by simp; omega
      go_enter Try.func64, Try.ntmps64
      go_wp2
      go_loop [2, 3, 4, 15] (fun _ _ _ i' => ∃ i : Nat, i ≤ s.size ∧ i' = .int .i64 i ∧ Hid ((s.data.toList.take i).all okc = true)) (fun _ _ _ i' => s.size - (intOf i').toNat)
      case atStart => exact ⟨0, Nat.zero_le _, rfl, (rfl : _ = _)⟩
      case round =>
        obtain ⟨i, hi, rfl, hA⟩ := hrel
        by_cases hlt : i < s.size
        · have hd : decide ((i : Int) < (s.size : Int)) = true := by simp; omega
          have hi1 : (0 : Int) ≤ (i : Int) := by omega
          have hi2 : (i : Int) < (s.size : Int) := by omega
          have hgood : okc s[i] = true → Hid ((s.data.toList.take (i + 1)).all okc = true) := fun h => by
            show _ = _
            rw [ba_take s i hlt, List.all_append, hA.out]
            simp [h]
          have hbad : okc s[i] = false → nameB s = false := fun h => by
            unfold nameB
            have : s.data.toList.all okc = false := by
              rw [List.all_eq_false]
              exact ⟨s[i], ba_mem s i hlt, by simp [h]⟩
            rw [this]; simp
          obtain ⟨x, hx⟩ : ∃ x, s[i].toNat = x := ⟨_, rfl⟩
          rcases (by omega : (x < 45) ∨ (x = 45) ∨ (x = 46) ∨ (x = 47) ∨ (48 ≤ x ∧ x ≤ 57) ∨ (58 ≤ x ∧ x ≤ 96) ∨ (97 ≤ x ∧ x ≤ 122) ∨ (122 < x)) with hc | hc | hc | hc | hc | hc | hc | hc
          · have d1 : decide ((s[i].toNat : Int) < 97) = true := by simp; omega
            have d2 : decide ((122 : Int) < (s[i].toNat : Int)) = false := by simp; omega
            have d3 : decide ((s[i].toNat : Int) < 48) = true := by simp; omega
            have d4 : decide ((57 : Int) < (s[i].toNat : Int)) = false := by simp; omega
            have d5 : ((s[i].toNat : Int) != 46) = true := by simp; omega
            have d6 : ((s[i].toNat : Int) != 45) = true := by simp; omega
            replace hbad := hbad (by unfold okc; simp; omega)
            clear hgood hx
            go_wp2
            go_ret
            exact ⟨rfl, rfl⟩
          · have d1 : decide ((s[i].toNat : Int) < 97) = true := by simp; omega
            have d2 : decide ((122 : Int) < (s[i].toNat : Int)) = false := by simp; omega
            have d3 : decide ((s[i].toNat : Int) < 48) = true := by simp; omega
            have d4 : decide ((57 : Int) < (s[i].toNat : Int)) = false := by simp; omega
            have d5 : ((s[i].toNat : Int) != 46) = true := by simp; omega
            have d6 : ((s[i].toNat : Int) != 45) = false := by simp; omega
            replace hgood := hgood (by unfold okc; simp; omega)
            clear hbad hx
            go_wp2
            go_round
            case rel => exact ⟨i + 1, by omega, by go_num, hgood⟩
            case measure => simp [intOf]; omega
          · have d1 : decide ((s[i].toNat : Int) < 97) = true := by simp; omega
            have d2 : decide ((122 : Int) < (s[i].toNat : Int)) = false := by simp; omega
            have d3 : decide ((s[i].toNat : Int) < 48) = true := by simp; omega
            have d4 : decide ((57 : Int) < (s[i].toNat : Int)) = false := by simp; omega
            have d5 : ((s[i].toNat : Int) != 46) = false := by simp; omega
            have d6 : ((s[i].toNat : Int) != 45) = true := by simp; omega
            replace hgood := hgood (by unfold okc; simp; omega)
            clear hbad hx
            go_wp2
            go_round
            case rel => exact ⟨i + 1, by omega, by go_num, hgood⟩
            case measure => simp [intOf]; omega
          · have d1 : decide ((s[i].toNat : Int) < 97) = true := by simp; omega
            have d2 : decide ((122 : Int) < (s[i].toNat : Int)) = false := by simp; omega
            have d3 : decide ((s[i].toNat : Int) < 48) = true := by simp; omega
            have d4 : decide ((57 : Int) < (s[i].toNat : Int)) = false := by simp; omega
            have d5 : ((s[i].toNat : Int) != 46) = true := by simp; omega
            have d6 : ((s[i].toNat : Int) != 45) = true := by simp; omega
            replace hbad := hbad (by unfold okc; simp; omega)
            clear hgood hx
            go_wp2
            go_ret
            exact ⟨rfl, rfl⟩
          · have d1 : decide ((s[i].toNat : Int) < 97) = true := by simp; omega
            have d2 : decide ((122 : Int) < (s[i].toNat : Int)) = false := by simp; omega
            have d3 : decide ((s[i].toNat : Int) < 48) = false := by simp; omega
            have d4 : decide ((57 : Int) < (s[i].toNat : Int)) = false := by simp; omega
            have d5 : ((s[i].toNat : Int) != 46) = true := by simp; omega
            have d6 : ((s[i].toNat : Int) != 45) = true := by simp; omega
            replace hgood := hgood (by unfold okc; simp; omega)
            clear hbad hx
            go_wp2
            go_round
            case rel => exact ⟨i + 1, by omega, by go_num, hgood⟩
            case measure => simp [intOf]; omega
          · have d1 : decide ((s[i].toNat : Int) < 97) = true := by simp; omega
            have d2 : decide ((122 : Int) < (s[i].toNat : Int)) = false := by simp; omega
            have d3 : decide ((s[i].toNat : Int) < 48) = false := by simp; omega
            have d4 : decide ((57 : Int) < (s[i].toNat : Int)) = true := by simp; omega
            have d5 : ((s[i].toNat : Int) != 46) = true := by simp; omega
            have d6 : ((s[i].toNat : Int) != 45) = true := by simp; omega
            replace hbad := hbad (by unfold okc; simp; omega)
            clear hgood hx
            go_wp2
            go_ret
            exact ⟨rfl, rfl⟩
          · have d1 : decide ((s[i].toNat : Int) < 97) = false := by simp; omega
            have d2 : decide ((122 : Int) < (s[i].toNat : Int)) = false := by simp; omega
            have d3 : decide ((s[i].toNat : Int) < 48) = false := by simp; omega
            have d4 : decide ((57 : Int) < (s[i].toNat : Int)) = true := by simp; omega
            have d5 : ((s[i].toNat : Int) != 46) = true := by simp; omega
            have d6 : ((s[i].toNat : Int) != 45) = true := by simp; omega
            replace hgood := hgood (by unfold okc; simp; omega)
            clear hbad hx
            go_wp2
            go_round
            case rel => exact ⟨i + 1, by omega, by go_num, hgood⟩
            case measure => simp [intOf]; omega
          · have d1 : decide ((s[i].toNat : Int) < 97) = false := by simp; omega
            have d2 : decide ((122 : Int) < (s[i].toNat : Int)) = true := by simp; omega
            have d3 : decide ((s[i].toNat : Int) < 48) = false := by simp; omega
            have d4 : decide ((57 : Int) < (s[i].toNat : Int)) = true := by simp; omega
            have d5 : ((s[i].toNat : Int) != 46) = true := by simp; omega
            have d6 : ((s[i].toNat : Int) != 45) = true := by simp; omega
            replace hbad := hbad (by unfold okc; simp; omega)
            clear hgood hx
            go_wp2
            go_ret
            exact ⟨rfl, rfl⟩
        · have hd : decide ((i : Int) < (s.size : Int)) = false := by simp; omega
          have hn : nameB s = true := by
            have := hA.out
            rw [List.take_of_length_le (by have : s.data.toList.length = s.size := Array.length_toList; omega)] at this
            unfold nameB
            rw [this]; simp; omega
          go_wp2
          go_ret
          exact ⟨rfl, rfl⟩
end Go.Proofs.Ythkbakaodbceiaa
