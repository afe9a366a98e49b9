/-
  StopsNil: the walk.
-/
import Derived.Test.YtgkeflgfnagnjaaUD
namespace Go.Proofs.Ytgkeflgfnagnjaa
open Go.RowKit
set_option linter.unusedVariables false

theorem grownBy_below {w w' : World} (h : w.grownBy w' none) : Below w.heap.size w w' := ⟨h.os, h.tape, h.output, h.size, fun k hk => h.block k hk (by simp)⟩
theorem No.zero (w : World) (s : Value) (z : Value) : No (w.alloc (.cells #[.map none, s, z] 67)) (some ⟨w.heap.size, 0, none⟩) :=
  .inr ⟨w.heap.size, rfl, cellOf (i := 0) (heap_alloc_new w _) rfl⟩

set_option maxRecDepth 100000 in
set_option maxHeartbeats 1000000 in
theorem stopsNil_any (w : World) (o : Option Addr) (n c : Nat) (N : Int) : Calls Try.prog 6 #[.slice o n c, .int .i64 N] w fun e w' => e = .returned (.bool true) ∧ w.grownBy w' none := by
  go_enter Try.func6, Try.ntmps6
  go_wp2_with fail
  refine (none_any (w := w) (p := none) (.inl rfl) o n c N).mono ?_
  rintro e w1 ⟨rfl, hg1⟩
  go_wp2_with fail
  have hn2 := No.zero w1 (.slice none 0 0) (.int .i64 0)
  have hg2 := grown_trans hg1 (aGrown w1 (.cells #[.map none, .slice none 0 0, .int .i64 0] 67)) (by simp)
  obtain ⟨q, hq⟩ : ∃ q, w1.heap.size = q := ⟨_, rfl⟩
  rw [hq] at hn2 ⊢
  clear hq hg1
  generalize w1.alloc (.cells #[.map none, .slice none 0 0, .int .i64 0] 67) = w2 at *
  refine (none_any hn2 o n c N).mono ?_
  rintro e w3 ⟨rfl, hg3⟩
  have hg3' := grown_trans hg2 hg3 (by simp)
  clear hn2 hg2 hg3
  go_wp2_with fail
  refine (known_any w3).mono ?_
  rintro e w4 ⟨rfl, hg4⟩
  have hg4' := grown_trans hg3' hg4 (by simp)
  clear hg3' hg4
  go_wp2
  go_ret
  exact ⟨rfl, hg4'⟩
end Go.Proofs.Ytgkeflgfnagnjaa
