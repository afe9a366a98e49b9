/-
  works.
-/
import Derived.Test.YtkljmjpapkopbaaA4
namespace Go.Proofs.Ytkljmjpapkopbaa
open Go.RowKit
set_option linter.unusedVariables false

def three : List Pc := [⟨0, 100, 5⟩, ⟨10, 100, 9⟩, ⟨20, 50, 12⟩]
theorem three_ps (w : World) (g : Nat) (h : w.heap[g]? = some (.cells #[.int .i64 0, .int .i64 100, .int .i64 5, .int .i64 10, .int .i64 100, .int .i64 9, .int .i64 20, .int .i64 50, .int .i64 12] 29)) : Ps w (some ⟨g, 0, none⟩) 3 three := by
  refine ⟨rfl, fun _ => ⟨g, 0, rfl, fun j r hr => ?_⟩⟩
  match j, hr with
  | 0, hr => cases hr; exact ⟨cell_of h rfl, cell_of h rfl, cell_of h rfl⟩
  | 1, hr => cases hr; exact ⟨cell_of h rfl, cell_of h rfl, cell_of h rfl⟩
  | 2, hr => cases hr; exact ⟨cell_of h rfl, cell_of h rfl, cell_of h rfl⟩

set_option maxRecDepth 100000 in
theorem pieces_any (w : World) : Calls Try.prog 22 #[] w fun e w' => ∃ g, e = .returned (.slice (some ⟨g, 0, none⟩) 3 3) ∧ Ps w' (some ⟨g, 0, none⟩) 3 three ∧ w.grownBy w' none := by
  have ga := alloc_grown w (.cells #[.int .i64 0, .int .i64 100, .int .i64 5, .int .i64 10, .int .i64 100, .int .i64 9, .int .i64 20, .int .i64 50, .int .i64 12] 29)
  have hp := three_ps _ _ (heap_alloc_new w (.cells #[.int .i64 0, .int .i64 100, .int .i64 5, .int .i64 10, .int .i64 100, .int .i64 9, .int .i64 20, .int .i64 50, .int .i64 12] 29))
  go_enter Try.func22, Try.ntmps22
  go_wp2
  go_ret
  exact ⟨_, rfl, hp, ga⟩

theorem three_a : goE ⟨150, 0, 0, 99⟩ 12 three = 1 ∧ refE ⟨150, 0, 0, 99⟩ 12 three = 0 := by decide
theorem three_b : goE ⟨0, 2, 0, 99⟩ 12 three = 2 ∧ refE ⟨0, 2, 0, 99⟩ 12 three = 0 := by decide
theorem three_c : refE ⟨50, 0, 0, 10⟩ 12 three = 0 ∧ whyAt ⟨50, 0, 0, 10⟩ 12 three 1 = 5 := by decide

set_option maxRecDepth 100000 in
set_option maxHeartbeats 2000000 in
theorem works_any (w : World) : Calls Try.prog 7 #[] w fun e w' => e = .returned (.bool true) ∧ w.grownBy w' none := by
  have hp0 := pieces_any w
  go_enter Try.func7, Try.ntmps7
  go_wp2_with fail
  refine hp0.mono ?_
  rintro e w1 ⟨g1, rfl, hP1, hg1⟩
  have h1 := goes_any ⟨150, 0, 0, 99⟩ 12 _ 3 3 three hP1
  rw [three_a.1, three_a.2] at h1
  unfold Ru.val at h1
  clear hp0
  go_wp2_with fail
  refine h1.mono ?_
  rintro e w2 ⟨rfl, hg2⟩
  have hG2 := grown_trans hg1 hg2 (by simp)
  have hp2 := pieces_any w2
  clear h1 hP1
  go_wp2_with fail
  refine hp2.mono ?_
  rintro e w3 ⟨g3, rfl, hP3, hg3⟩
  have hG3 := grown_trans hG2 hg3 (by simp)
  have h3 := goes_any ⟨0, 2, 0, 99⟩ 12 _ 3 3 three hP3
  rw [three_b.1, three_b.2] at h3
  unfold Ru.val at h3
  clear hp2
  go_wp2_with fail
  refine h3.mono ?_
  rintro e w4 ⟨rfl, hg4⟩
  have hG4 := grown_trans hG3 hg4 (by simp)
  have hp4 := pieces_any w4
  clear h3 hP3
  go_wp2_with fail
  refine hp4.mono ?_
  rintro e w5 ⟨g5, rfl, hP5, hg5⟩
  have hG5 := grown_trans hG4 hg5 (by simp)
  have h5 := why_at ⟨50, 0, 0, 10⟩ 12 1 _ 3 3 three hP5 three_c.1 (by decide)
  rw [three_c.2] at h5
  unfold Ru.val at h5
  clear hp4
  go_wp2_with fail
  refine h5.mono ?_
  rintro e w6 ⟨rfl, hg6⟩
  have hG6 := grown_trans hG5 hg6 (by simp)
  clear h5 hP5
  have hn := num_any w6 0
  go_wp2_with fail
  refine hn.mono ?_
  rintro e w7 ⟨rfl, rfl⟩
  go_wp2_with fail
  refine hn.mono ?_
  rintro e w7 ⟨rfl, rfl⟩
  go_wp2_with fail
  refine hn.mono ?_
  rintro e w7 ⟨rfl, rfl⟩
  go_wp2
  go_ret
  exact ⟨rfl, hG6⟩
end Go.Proofs.Ytkljmjpapkopbaa
