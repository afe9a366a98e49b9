/-
  A nil reader and a zero one.
-/
import Derived.Test.YtocicepnlepfeaaR4
namespace Go.Proofs.Ytocicepnlepfeaa
open Go.RowKit
set_option linter.unusedVariables false

/-- A pointer to no reader: nil, or to a zero one. -/
def No (w : World) (p : Value) : Prop := p = .pointer none ∨ ∃ z, p = .pointer (some ⟨z, 0, none⟩) ∧ w.cell? ⟨z, 2, none⟩ = some (.bool false)

set_option maxRecDepth 100000 in
set_option maxHeartbeats 400000 in
theorem there_not (w : World) (p : Value) (h : No w p) : Calls Try.prog 46 #[p] w fun e w' => e = .returned (.bool false) ∧ w' = w := by
  rcases h with rfl | ⟨z, rfl, hz⟩
  · go_enter Try.func46, Try.ntmps46
    go_wp2
    go_ret
    exact ⟨rfl, rfl⟩
  · go_enter Try.func46, Try.ntmps46
    go_wp2
    go_ret
    exact ⟨rfl, rfl⟩

set_option maxRecDepth 100000 in
set_option maxHeartbeats 400000 in
theorem number_not (w : World) (p : Value) (sz : Nat) (h : No w p) : Calls Try.prog 57 #[p, .int .i64 sz] w fun e w' => e = .returned (.tuple #[.int .u64 0, .int .i64 1]) ∧ w' = w := by
  go_enter Try.func57, Try.ntmps57
  go_wp2_with fail
  refine (there_not _ p h).mono ?_
  rintro e w1 ⟨rfl, rfl⟩
  go_wp2
  go_ret2
  exact ⟨rfl, rfl⟩

set_option maxRecDepth 100000 in
set_option maxHeartbeats 400000 in
theorem piece_not (w : World) (p : Value) (sz : Int) (h : No w p) : Calls Try.prog 58 #[p, .int .i64 sz] w fun e w' => e = .returned (.tuple #[.slice none 0 0, .int .i64 1]) ∧ w' = w := by
  go_enter Try.func58, Try.ntmps58
  go_wp2_with fail
  refine (there_not _ p h).mono ?_
  rintro e w1 ⟨rfl, rfl⟩
  go_wp2
  go_ret2
  exact ⟨rfl, rfl⟩

set_option maxRecDepth 100000 in
set_option maxHeartbeats 400000 in
theorem u8_not (w : World) (p : Value) (h : No w p) : Calls Try.prog 40 #[p] w fun e w' => e = .returned (.tuple #[.int .u8 0, .int .i64 1]) ∧ w' = w := by
  go_enter Try.func40, Try.ntmps40
  go_wp2_with fail
  refine (number_not _ p 1 h).mono ?_
  rintro e w1 ⟨rfl, rfl⟩
  go_wp2
  go_ret2
  exact ⟨rfl, rfl⟩

set_option maxRecDepth 100000 in
set_option maxHeartbeats 400000 in
theorem u64_not (w : World) (p : Value) (h : No w p) : Calls Try.prog 53 #[p] w fun e w' => e = .returned (.tuple #[.int .u64 0, .int .i64 1]) ∧ w' = w := by
  go_enter Try.func53, Try.ntmps53
  go_wp2_with fail
  refine (number_not _ p 8 h).mono ?_
  rintro e w1 ⟨rfl, rfl⟩
  go_wp2
  go_ret2
  exact ⟨rfl, rfl⟩

set_option maxRecDepth 100000 in
set_option maxHeartbeats 400000 in
theorem f64_not (w : World) (p : Value) (h : No w p) : Calls Try.prog 54 #[p] w fun e w' => e = .returned (.tuple #[.float .f64 0, .int .i64 1]) ∧ w' = w := by
  have hc := Try.call19
  go_enter Try.func54, Try.ntmps54
  go_wp2_with fail
  refine (number_not _ p 8 h).mono ?_
  rintro e w1 ⟨rfl, rfl⟩
  go_wp2
  go_ret2
  exact ⟨rfl, rfl⟩

set_option maxRecDepth 100000 in
set_option maxHeartbeats 400000 in
theorem string_not (w : World) (p : Value) (h : No w p) : Calls Try.prog 42 #[p, .int .i64 (-1)] w fun e w' => e = .returned (.tuple #[.slice none 0 0, .int .i64 1]) ∧ w' = w := by
  go_enter Try.func42, Try.ntmps42
  go_wp2_with fail
  refine (piece_not _ p (-1) h).mono ?_
  rintro e w1 ⟨rfl, rfl⟩
  go_wp2
  go_ret2
  exact ⟨rfl, rfl⟩

set_option maxRecDepth 100000 in
set_option maxHeartbeats 400000 in
theorem list_not (w : World) (p : Value) (h : No w p) : Calls Try.prog 49 #[p, .int .i64 0, .int .i64 0] w fun e w' => e = .returned (.tuple #[.slice none 0 0, .int .i64 1]) ∧ w' = w := by
  go_enter Try.func49, Try.ntmps49
  go_wp2_with fail
  refine (there_not _ p h).mono ?_
  rintro e w1 ⟨rfl, rfl⟩
  go_wp2
  go_ret2
  exact ⟨rfl, rfl⟩

set_option maxRecDepth 100000 in
set_option maxHeartbeats 400000 in
theorem skip_not (w : World) (p : Value) (h : No w p) : Calls Try.prog 51 #[p, .int .i64 0] w fun e w' => e = .returned (.int .i64 1) ∧ w' = w := by
  go_enter Try.func51, Try.ntmps51
  go_wp2_with fail
  refine (there_not _ p h).mono ?_
  rintro e w1 ⟨rfl, rfl⟩
  go_wp2
  go_ret
  exact ⟨rfl, rfl⟩

set_option maxRecDepth 100000 in
set_option maxHeartbeats 400000 in
theorem end_not (w : World) (p : Value) (h : No w p) : Calls Try.prog 34 #[p] w fun e w' => e = .returned (.int .i64 1) ∧ w' = w := by
  go_enter Try.func34, Try.ntmps34
  go_wp2_with fail
  refine (there_not _ p h).mono ?_
  rintro e w1 ⟨rfl, rfl⟩
  go_wp2
  go_ret
  exact ⟨rfl, rfl⟩

set_option maxRecDepth 100000 in
set_option maxHeartbeats 400000 in
theorem at_not (w : World) (p : Value) (h : No w p) : Calls Try.prog 32 #[p] w fun e w' => e = .returned (.int .i64 0) ∧ w' = w := by
  go_enter Try.func32, Try.ntmps32
  go_wp2_with fail
  refine (there_not _ p h).mono ?_
  rintro e w1 ⟨rfl, rfl⟩
  go_wp2
  go_ret
  exact ⟨rfl, rfl⟩

set_option maxRecDepth 100000 in
set_option maxHeartbeats 400000 in
theorem left_not (w : World) (p : Value) (h : No w p) : Calls Try.prog 33 #[p] w fun e w' => e = .returned (.int .i64 0) ∧ w' = w := by
  go_enter Try.func33, Try.ntmps33
  go_wp2_with fail
  refine (there_not _ p h).mono ?_
  rintro e w1 ⟨rfl, rfl⟩
  go_wp2
  go_ret
  exact ⟨rfl, rfl⟩

set_option maxRecDepth 100000 in
set_option maxHeartbeats 400000 in
theorem rest_not (w : World) (p : Value) (h : No w p) : Calls Try.prog 35 #[p] w fun e w' => e = .returned (.slice none 0 0) ∧ w' = w := by
  go_enter Try.func35, Try.ntmps35
  go_wp2_with fail
  refine (there_not _ p h).mono ?_
  rintro e w1 ⟨rfl, rfl⟩
  go_wp2
  go_ret
  exact ⟨rfl, rfl⟩

set_option maxRecDepth 100000 in
set_option maxHeartbeats 400000 in
theorem copy_not (w : World) (p : Value) (h : No w p) : Calls Try.prog 30 #[p] w fun e w' => e = .returned (.pointer none) ∧ w' = w := by
  go_enter Try.func30, Try.ntmps30
  go_wp2_with fail
  refine (there_not _ p h).mono ?_
  rintro e w1 ⟨rfl, rfl⟩
  go_wp2
  go_ret
  exact ⟨rfl, rfl⟩

/-- One round of 'nothing': all calls of one that is none. -/
theorem No.nil (w : World) : No w (.pointer none) := Or.inl rfl
theorem No.zero (w : World) (z : Nat) (h : w.cell? ⟨z, 2, none⟩ = some (.bool false)) : No w (.pointer (some ⟨z, 0, none⟩)) := Or.inr ⟨z, rfl, h⟩

set_option maxRecDepth 100000 in
set_option maxHeartbeats 4000000 in
theorem nothing_any (w : World) : Calls Try.prog 36 #[] w fun e w' => e = .returned (.bool true) ∧ w.grownBy w' none := by
  go_enter Try.func36, Try.ntmps36
  go_wp2_with fail
  go_loopw [2, 3, 4, 5, 6, 7, 8, 9, 10, 11, 12, 17] (fun _ _ _ _ _ _ _ _ _ _ _ i wr => ∃ k : Nat, (k = 0 ∨ k = 1 ∨ k = 2) ∧ i = .int .i64 k ∧ wr.cell? ⟨w.heap.size + 1, 0, none⟩ = some (.pointer none) ∧ wr.cell? ⟨w.heap.size + 1, 1, none⟩ = some (.pointer (some ⟨w.heap.size, 0, none⟩)) ∧ wr.cell? ⟨w.heap.size, 2, none⟩ = some (.bool false) ∧ w.grownBy wr none)
    (fun _ _ _ _ _ _ _ _ _ _ _ i _ => 2 - (intOf i).toNat)
  case atStart => exact ⟨0, Or.inl rfl, rfl, by simp, by simp, by simp, grown_trans (World.grownBy_alloc _ _ none) (World.grownBy_alloc _ _ none) (by simp)⟩
  case round =>
    obtain ⟨k, hk, rfl, h0, h1, hz, hg⟩ := hrel
    rcases hk with rfl | rfl | rfl
    · have hN := No.nil wr
      go_wp2_with ((first | (go_at_call 27; refine (num_any _ _).mono ?_; rintro e w' ⟨rfl, rfl⟩) | (go_at_call 40; refine (u8_not _ _ hN).mono ?_; rintro e w' ⟨rfl, rfl⟩) | (go_at_call 53; refine (u64_not _ _ hN).mono ?_; rintro e w' ⟨rfl, rfl⟩) | (go_at_call 54; refine (f64_not _ _ hN).mono ?_; rintro e w' ⟨rfl, rfl⟩) | (go_at_call 42; refine (string_not _ _ hN).mono ?_; rintro e w' ⟨rfl, rfl⟩) | (go_at_call 49; refine (list_not _ _ hN).mono ?_; rintro e w' ⟨rfl, rfl⟩) | (go_at_call 51; refine (skip_not _ _ hN).mono ?_; rintro e w' ⟨rfl, rfl⟩) | (go_at_call 34; refine (end_not _ _ hN).mono ?_; rintro e w' ⟨rfl, rfl⟩) | (go_at_call 32; refine (at_not _ _ hN).mono ?_; rintro e w' ⟨rfl, rfl⟩) | (go_at_call 33; refine (left_not _ _ hN).mono ?_; rintro e w' ⟨rfl, rfl⟩) | (go_at_call 35; refine (rest_not _ _ hN).mono ?_; rintro e w' ⟨rfl, rfl⟩) | (go_at_call 30; refine (copy_not _ _ hN).mono ?_; rintro e w' ⟨rfl, rfl⟩)))
      go_roundw
      case rel => exact ⟨1, Or.inr (Or.inl rfl), by go_num, h0, h1, hz, hg⟩
      case measure => simp [intOf]
    · have hN := No.zero wr _ hz
      go_wp2_with ((first | (go_at_call 27; refine (num_any _ _).mono ?_; rintro e w' ⟨rfl, rfl⟩) | (go_at_call 40; refine (u8_not _ _ hN).mono ?_; rintro e w' ⟨rfl, rfl⟩) | (go_at_call 53; refine (u64_not _ _ hN).mono ?_; rintro e w' ⟨rfl, rfl⟩) | (go_at_call 54; refine (f64_not _ _ hN).mono ?_; rintro e w' ⟨rfl, rfl⟩) | (go_at_call 42; refine (string_not _ _ hN).mono ?_; rintro e w' ⟨rfl, rfl⟩) | (go_at_call 49; refine (list_not _ _ hN).mono ?_; rintro e w' ⟨rfl, rfl⟩) | (go_at_call 51; refine (skip_not _ _ hN).mono ?_; rintro e w' ⟨rfl, rfl⟩) | (go_at_call 34; refine (end_not _ _ hN).mono ?_; rintro e w' ⟨rfl, rfl⟩) | (go_at_call 32; refine (at_not _ _ hN).mono ?_; rintro e w' ⟨rfl, rfl⟩) | (go_at_call 33; refine (left_not _ _ hN).mono ?_; rintro e w' ⟨rfl, rfl⟩) | (go_at_call 35; refine (rest_not _ _ hN).mono ?_; rintro e w' ⟨rfl, rfl⟩) | (go_at_call 30; refine (copy_not _ _ hN).mono ?_; rintro e w' ⟨rfl, rfl⟩)))
      go_roundw
      case rel => exact ⟨2, Or.inr (Or.inr rfl), by go_num, h0, h1, hz, hg⟩
      case measure => simp [intOf]
    · go_wp2
      go_ret
      exact ⟨rfl, hg⟩

end Go.Proofs.Ytocicepnlepfeaa
