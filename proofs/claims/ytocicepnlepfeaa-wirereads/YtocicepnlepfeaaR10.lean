/-
  One call of a script on both readers: Rest, where nothing is left.
-/
import Derived.Test.YtocicepnlepfeaaR8
namespace Go.Proofs.Ytocicepnlepfeaa
open Go.RowKit
set_option linter.unusedVariables false

set_option maxRecDepth 100000 in
set_option maxHeartbeats 2000000 in
theorem ask_rest_nil (w : World) (b g o cp rb : Nat) (L : List UInt8) (h : Both w b g o cp rb none 0 0 L 0) (N M : Int) :
    Calls Try.prog 31 #[.pointer (some ⟨b, 0, none⟩), .pointer (some ⟨rb, 0, none⟩), .agg #[.int .i64 9, .int .i64 N, .int .i64 M]] w fun e w' => AskOk w w' b g rb none 0 0 L e := by
  have hga := World.grownBy_alloc w (.cells #[.int .i64 9, .int .i64 N, .int .i64 M] 59) none
  have hb := h.grown hga
  have hrl := h.rf.lt
  have hd0 : w.cell? ⟨rb, 0, none⟩ = some (.slice none 0 0) := h.rf.c0
  have hd1 : w.cell? ⟨rb, 1, none⟩ = some (.int .i64 0) := h.rf.c1
  have hne : ¬ w.heap.size = rb := by omega
  have hL : L.drop 0 = [] := by have := h.rf.bs.len; simpa using this
  go_enter Try.func31, Try.ntmps31
  go_wp2_with fail
  go_region_with ((first | (go_at_call 35; refine (rest_any _ b g o _ cp _ 0 (hb.grown (grown_drew _ none)).rd).mono ?_; rintro e w1 ⟨g1, rfl, ho1, hg1⟩; have k0 := ((hb.grown (grown_drew _ none)).grown hg1).rf.c0; have k1 : w1.cell? ⟨rb, 1, none⟩ = some (.int .i64 0) := ((hb.grown (grown_drew _ none)).grown hg1).rf.c1) | (go_at_call 18; refine (same_true _ _ _ _ _ _ _ (L.drop 0) ho1.shows (by rw [hL]; exact Bs.zero _ _ _ (by decide) (by simp))).mono ?_; rintro e w' ⟨rfl, rfl⟩)))
  all_goals go_wp2
  all_goals go_ret
  all_goals exact ⟨rfl, ⟨_, _, _, (hb.grown (grown_drew _ none)).grown hg1⟩, ((Gs.of hga (by simp)).then (grown_drew _ none) (by simp)).then hg1 (by simp)⟩

end Go.Proofs.Ytocicepnlepfeaa
