/-
  What is a log's name: the program's answer and the document's.
-/
import Derived.Test.YtlghcboenkglnaaGreatDoorN1
namespace Go.Proofs.YtlghcboenkglnaaGreatDoor
open Go.RowKit
set_option linter.unusedVariables false

/-- A letter; a log's name. -/
def okl (c : UInt8) : Bool := 97 ≤ c.toNat && c.toNat ≤ 122
def logB (s : ByteArray) : Bool := 1 ≤ s.size && s.size ≤ 8 && s.data.toList.all okl

theorem ba_take (s : ByteArray) (i : Nat) (h : i < s.size) : s.data.toList.take (i + 1) = s.data.toList.take i ++ [s[i]] := by
  rw [List.take_succ_eq_append_getElem (by simpa using h)]
  rfl
theorem ba_mem (s : ByteArray) (i : Nat) (h : i < s.size) : s[i] ∈ s.data.toList := by
  have : s.data.toList[i]? = some s[i] := by rw [List.getElem?_eq_getElem (by simpa using h)]; rfl
  exact List.mem_of_getElem? this

set_option maxRecDepth 100000 in
set_option maxHeartbeats 2000000 in
theorem isLog_any (w : World) (s : ByteArray) : Calls Tryz.prog 90 #[.string s] w fun e w' => e = .returned (.bool (logB s)) ∧ w' = w := by
  by_cases h1 : s.size < 1
  · have d1 : decide ((s.size : Int) < 1) = true := by simp; omega
    have hn : logB s = false := by unfold logB; simp; omega
    go_enter Tryz.func90, Tryz.ntmps90
    go_wp2
    go_ret
    exact ⟨congrArg (fun b => Ending.returned (.bool b)) hn.symm, rfl⟩
  · have d1 : decide ((s.size : Int) < 1) = false := by simp; omega
    by_cases h2 : 8 < s.size
    · have d2 : decide ((8 : Int) < (s.size : Int)) = true := by simp; omega
      have hn : logB s = false := by unfold logB; simp; omega
      go_enter Tryz.func90, Tryz.ntmps90
      go_wp2
      go_ret
      exact ⟨congrArg (fun b => Ending.returned (.bool b)) hn.symm, rfl⟩
    · have d2 : decide ((8 : Int) < (s.size : Int)) = false := by simp; omega
      go_enter Tryz.func90, Tryz.ntmps90
      go_wp2
      go_loop [2, 3, 14] (fun _ _ i' => ∃ i : Nat, i ≤ s.size ∧ i' = .int .i64 i ∧ Hid ((s.data.toList.take i).all okl = true)) (fun _ _ i' => s.size - (intOf i').toNat)
      case atStart => exact ⟨0, Nat.zero_le _, rfl, (rfl : _ = _)⟩
      case round =>
        obtain ⟨i, hi, rfl, hA⟩ := hrel
        by_cases hlt : i < s.size
        · have hd : decide ((i : Int) < (s.size : Int)) = true := by simp; omega
          have hi1 : (0 : Int) ≤ (i : Int) := by omega
          have hi2 : (i : Int) < (s.size : Int) := by omega
          have hgood : okl s[i] = true → Hid ((s.data.toList.take (i + 1)).all okl = true) := fun h => by
            show _ = _
            rw [ba_take s i hlt, List.all_append, hA.out]
            simp [h]
          have hbad : okl s[i] = false → logB s = false := fun h => by
            unfold logB
            have : s.data.toList.all okl = false := by
              rw [List.all_eq_false]
              exact ⟨s[i], ba_mem s i hlt, by simp [h]⟩
            rw [this]; simp
          obtain ⟨x, hx⟩ : ∃ x, s[i].toNat = x := ⟨_, rfl⟩
          rcases (by omega : (x < 97) ∨ (97 ≤ x ∧ x ≤ 122) ∨ (122 < x)) with hc | hc | hc
          · have d1 : decide ((s[i].toNat : Int) < 97) = true := by simp; omega
            replace hbad := hbad (by unfold okl; simp; omega)
            clear hgood hx
            go_wp2
            go_ret
            exact ⟨rfl, rfl⟩
          · have d1 : decide ((s[i].toNat : Int) < 97) = false := by simp; omega
            have d2 : decide ((122 : Int) < (s[i].toNat : Int)) = false := by simp; omega
            replace hgood := hgood (by unfold okl; simp; omega)
            clear hbad hx
            go_wp2
            go_round
            case rel => exact ⟨i + 1, by omega, by go_num, hgood⟩
            case measure => simp [intOf]; omega
          · have d1 : decide ((s[i].toNat : Int) < 97) = false := by simp; omega
            have d2 : decide ((122 : Int) < (s[i].toNat : Int)) = true := by simp; omega
            replace hbad := hbad (by unfold okl; simp; omega)
            clear hgood hx
            go_wp2
            go_ret
            exact ⟨rfl, rfl⟩
        · have hd : decide ((i : Int) < (s.size : Int)) = false := by simp; omega
          have hn : logB s = true := by
            have := hA.out
            rw [List.take_of_length_le (by have : s.data.toList.length = s.size := Array.length_toList; omega)] at this
            unfold logB
            rw [this]; simp; omega
          go_wp2
          go_ret
          exact ⟨rfl, rfl⟩

end Go.Proofs.YtlghcboenkglnaaGreatDoor
