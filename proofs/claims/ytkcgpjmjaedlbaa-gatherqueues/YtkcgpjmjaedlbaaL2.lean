/-
  many, taken: the walks.
-/
import Derived.Test.YtkcgpjmjaedlbaaL1
namespace Go.Proofs.Ytkcgpjmjaedlbaa
open Go.RowKit
set_option linter.unusedVariables false

/-- What many answers. -/
def ManyE (n : Nat) (L : List Rl) (e : Ending) : Prop := ∃ B, e = .returned (.bool B) ∧ (B = false → n ≤ 300 ∧ ∀ x ∈ L, x.n ≤ 3000)
theorem ManyE.of {n : Nat} {L : List Rl} (B : Bool) (h : B = false → n ≤ 300 ∧ ∀ x ∈ L, x.n ≤ 3000) : ManyE n L (.returned (.bool B)) := ⟨B, rfl, h⟩

set_option maxRecDepth 100000 in
set_option maxHeartbeats 2000000 in
theorem many_any (w : World) (ao : Option Addr) (n cap : Nat) (L : List Rl) (ha : Ls w ao n cap L) :
    Calls Try.prog 8 #[.slice ao n cap] w fun e w' => ManyE n L e ∧ w' = w := by
  have hlen := ha.len
  have htop := Nat.le_trans ha.vs.room ha.vs.top
  unfold maxLen at htop
  go_enter Try.func8, Try.ntmps8
  go_wp2_with fail
  go_loop [3, 4] (fun t i' => ∃ i T : Nat, i ≤ n ∧ i ≤ 301 ∧ t = .int .i64 T ∧ i' = .int .i64 i ∧ T ≤ i * 3001 ∧ Hid (T ≤ 3000 → ∀ x ∈ L.take i, x.n ≤ 3000)) (fun _ i' => n - (intOf i').toNat)
  case atStart => exact ⟨0, 0, Nat.zero_le _, Nat.zero_le _, rfl, rfl, Nat.zero_le _, (fun _ x hx => by simp at hx)⟩
  case round =>
    obtain ⟨i, T, hi, hi3, rfl, rfl, hT, hA⟩ := hrel
    by_cases hlt : i < n
    · have hd : decide ((i : Int) < (n : Int)) = true := by simp; omega
      by_cases h301 : i < 301
      · have hd3 : decide (i < 301) = true := by simpa using h301
        have h1 : i < L.length := by omega
        obtain ⟨b, o, rfl, hbl⟩ := ha.vs.addr (by omega)
        obtain ⟨a1, ak⟩ := ha.at h1
        have hstep : Hid (∀ T' : Nat, T' ≤ 3000 → T' = T + min (L[i]).n 3001 → ∀ x ∈ L.take (i + 1), x.n ≤ 3000) := fun T' h9 e x hx => by
          rw [List.take_succ_eq_append_getElem h1] at hx
          rcases List.mem_append.1 hx with hx | hx
          · exact hA.out (by omega) x hx
          · obtain rfl : x = L[i] := by simpa using hx
            omega
        have hkr := ak.room
        have hkt := ak.top
        clear ak hA
        generalize L[i] = x at *
        by_cases hm : x.n ≤ 3001
        · have hmm : min (x.n : Int) 3001 = (x.n : Int) := by omega
          have hmn : min x.n 3001 = x.n := by omega
          rw [hmn] at hstep
          go_wp2
          go_round
          case rel => exact ⟨i + 1, T + x.n, by omega, by omega, by go_num, by go_num, by omega, fun h9 => hstep.out _ h9 rfl⟩
          case measure => simp [intOf]; omega
        · have hmm : min (x.n : Int) 3001 = 3001 := by omega
          have hmn : min x.n 3001 = 3001 := by omega
          rw [hmn] at hstep
          go_wp2
          go_round
          case rel => exact ⟨i + 1, T + 3001, by omega, by omega, by go_num, by go_num, by omega, fun h9 => hstep.out _ h9 rfl⟩
          case measure => simp [intOf]; omega
      · have hd3 : decide (i < 301) = false := by simpa using h301
        have hd4 : decide (300 < n) = true := by simp; omega
        go_wp2
        go_ret
        exact ⟨ManyE.of true (fun h => (by cases h)), rfl⟩
    · obtain rfl : i = n := by omega
      have hd : decide ((i : Int) < (i : Int)) = false := by simp
      by_cases h300 : 300 < i
      · have hd4 : decide (300 < i) = true := by simpa using h300
        go_wp2
        go_ret
        exact ⟨ManyE.of true (fun h => (by cases h)), rfl⟩
      · have hd4 : decide (300 < i) = false := by simpa using h300
        have hE : Hid (T ≤ 3000 → ∀ x ∈ L, x.n ≤ 3000) := by
          have h9 := hA.out
          rwa [List.take_of_length_le (by omega)] at h9
        go_wp2
        go_ret
        exact ⟨ManyE.of _ (fun h => ⟨by omega, hE.out (by simp at h; omega)⟩), rfl⟩
end Go.Proofs.Ytkcgpjmjaedlbaa
