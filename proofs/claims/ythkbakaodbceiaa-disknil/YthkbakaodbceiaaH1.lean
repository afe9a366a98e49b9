/-
  DiskNil: the walk.
-/
import Derived.Test.YthkbakaodbceiaaG5
import Derived.Test.YthkbakaodbceiaaD8
import Derived.Test.YthkbakaodbceiaaD3
namespace Go.Proofs.Ythkbakaodbceiaa
open Go.RowKit
set_option linter.unusedVariables false

theorem No.zero (w : World) (s : Value) (z : Value) : No (w.alloc (.cells #[.map none, s, z] 83)) (some ⟨w.heap.size, 0, none⟩) :=
  .inr ⟨w.heap.size, rfl, by rw [cell_at (World.alloc_heap_new w _)]; rfl⟩

set_option maxRecDepth 100000 in
set_option maxHeartbeats 1000000 in
theorem diskNil_any (w : World) (s : ByteArray) (z : Int) (bo : Option Addr) (bn bc : Nat) : Calls Try.prog 6 #[.string s, .int .i64 z, .slice bo bn bc] w fun e w' => e = .returned (.bool true) ∧ w.grownBy w' none := by
  go_enter Try.func6, Try.ntmps6
  go_wp2_with fail
  refine (nothing_any w none s z bo bn bc (.inl rfl)).mono ?_
  rintro e w1 ⟨rfl, hg1⟩
  go_wp2_with fail
  have hn2 := No.zero w1 (.slice none 0 0) (.int .i64 0)
  have hg2 := grown_trans hg1 (alloc_grown w1 (.cells #[.map none, .slice none 0 0, .int .i64 0] 83)) (by simp)
  obtain ⟨q, hq⟩ : ∃ q, w1.heap.size = q := ⟨_, rfl⟩
  rw [hq] at hn2 ⊢
  clear hq hg1
  generalize w1.alloc (.cells #[.map none, .slice none 0 0, .int .i64 0] 83) = w2 at *
  refine (nothing_any w2 (some ⟨q, 0, none⟩) s z bo bn bc hn2).mono ?_
  rintro e w3 ⟨rfl, hg3⟩
  have hg3' := grown_trans hg2 hg3 (by simp)
  clear hg3 hg2 hn2
  go_wp2_with fail
  have hn4 := No.zero w3 (.slice none 0 0) (.int .i64 0)
  have hg4 := grown_trans hg3' (alloc_grown w3 (.cells #[.map none, .slice none 0 0, .int .i64 0] 83)) (by simp)
  obtain ⟨q4, hq4⟩ : ∃ q, w3.heap.size = q := ⟨_, rfl⟩
  rw [hq4] at hn4 ⊢
  clear hq4 hg3'
  generalize w3.alloc (.cells #[.map none, .slice none 0 0, .int .i64 0] 83) = w4 at *
  refine (same_no w4 none (some ⟨q4, 0, none⟩) (.inl rfl) hn4).mono ?_
  rintro e w5 ⟨rfl, rfl⟩
  go_wp2_with fail
  refine (known_any _).mono ?_
  rintro e w6 ⟨rfl, hg6⟩
  have hgf := grown_trans hg4 hg6 (by simp)
  clear hg6 hg4 hn4
  go_wp2
  go_ret
  exact ⟨rfl, hgf⟩
end Go.Proofs.Ythkbakaodbceiaa
