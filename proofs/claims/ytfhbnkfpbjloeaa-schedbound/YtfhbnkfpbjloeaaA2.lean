/-
  sched: byPick and its function, first of one way, Next, Pick.
-/
import Derived.Test.YtfhbnkfpbjloeaaA1
namespace Go.Proofs.Ytfhbnkfpbjloeaa
open Go.RowKit
set_option linter.unusedVariables false

/-- What is told by a pick. -/
def PickR (l : List Bool) (p : Nat) (t : Int) (ok : Bool) : Prop := (cnt l = 0 ∧ t = 0 ∧ ok = false) ∨ (0 < cnt l ∧ ok = true ∧ ∃ i : Nat, t = i ∧ Kth l (p % cnt l) i)

set_option maxRecDepth 100000 in
theorem byPick_any (w : World) (p : Int) : Calls Try.prog 23 #[.int .i64 p] w fun e w' => e = .returned (.func (.func 32) #[] #[.pointer (some ⟨w.heap.size, 0, none⟩)]) ∧ w' = w.alloc (.cells #[.int .i64 p] 3) := by
  have hmf : ∀ (fn : Fn) (first cap : Array Value) (w : World), (Instr.makeFunc fn first cap).run Try.prog w = .ok (.func fn first cap) w := fun _ _ _ _ => rfl
  go_enter Try.func23, Try.ntmps23
  go_wp2
  go_ret
  exact ⟨rfl, rfl⟩

set_option maxRecDepth 100000 in
set_option maxHeartbeats 1000000 in
theorem clo32 {w : World} (so : Option Addr) (n sc : Nat) (l : List Bool) (hP : Vs w so n sc (l.map bo)) (z p : Nat) (hz : w.cell? ⟨z, 0, none⟩ = some (.int .i64 p)) :
    Calls Try.prog 32 #[.slice so n sc, .pointer (some ⟨z, 0, none⟩)] w fun e w' => ∃ t ok, e = .returned (.tuple #[.int .i64 t, .bool ok]) ∧ PickR l p t ok ∧ w' = w := by
  have hlen : l.length = n := by simpa using hP.len
  have hr := ready_any so n sc l hP
  have hcn := cnt_le l
  have hmax : n ≤ maxLen := Nat.le_trans hP.room hP.top
  unfold maxLen at hmax
  by_cases h0 : cnt l = 0
  · rw [h0] at hr
    have hM : Hid (PickR l p 0 false) := Or.inl ⟨h0, rfl, rfl⟩
    clear h0 hcn
    go_enter Try.func32, Try.ntmps32
    go_wp2_with fail
    refine hr.mono ?_
    rintro e w1 ⟨rfl, rfl⟩
    go_wp2
    go_ret2
    exact ⟨0, false, rfl, hM, rfl⟩
  · have ht := taskAt_any so n sc l hP (p % cnt l) (Nat.mod_lt _ (by omega))
    have hM : Hid (∀ i : Nat, Kth l (p % cnt l) i → PickR l p i true) := fun i hi => Or.inr ⟨by omega, rfl, i, rfl, hi⟩
    have hre : (p : Int) % (cnt l : Int) = ((p % cnt l : Nat) : Int) := by simp
    obtain ⟨q, hq⟩ : ∃ q : Nat, p % cnt l = q := ⟨_, rfl⟩
    rw [hq] at hre ht hM
    clear hq
    have d0 : (0 : Int) < (cnt l : Int) := by omega
    generalize (cnt l : Int) = C at *
    have d2 : ¬ C = 0 := by omega
    have d1 : (C == 0) = false := by simpa using d2
    have d3 : (0 : Int) ≤ (p : Int) := by omega
    clear hcn h0
    go_enter Try.func32, Try.ntmps32
    go_wp2_with fail
    refine hr.mono ?_
    rintro e w1 ⟨rfl, rfl⟩
    go_wp2_with fail
    rw [hre]
    refine ht.mono ?_
    rintro e w1 ⟨i, rfl, hK, rfl⟩
    go_wp2
    go_ret2
    exact ⟨i, true, rfl, hM.out i hK, rfl⟩
end Go.Proofs.Ytfhbnkfpbjloeaa
