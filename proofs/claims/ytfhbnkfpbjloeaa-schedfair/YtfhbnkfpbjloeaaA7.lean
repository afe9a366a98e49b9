/-
  A fair choice: Passed, Copy.
-/
import Derived.Test.YtfhbnkfpbjloeaaA6
namespace Go.Proofs.Ytfhbnkfpbjloeaa
open Go.RowKit
set_option linter.unusedVariables false

set_option maxRecDepth 100000 in
theorem passed_any {w : World} {b g n : Nat} {k : Int} {f : Nat → Nat} (h : Fr w b g n k f) : Calls Try.prog 18 #[.pointer (some ⟨b, 0, none⟩)] w fun e w' => ∃ z, e = .returned (.slice (some ⟨z, 0, none⟩) n n) ∧ Ro w' z 3 (fl n f) ∧ w.grownBy w' none ∧ w.heap.size ≤ z := by
  have h1 := there_yes h
  have h2 := copied_any w g n f h.row h.top
  have c0 := h.c0
  clear h
  go_enter Try.func18, Try.ntmps18
  go_wp2_with fail
  refine h1.mono ?_
  rintro e w1 ⟨rfl, rfl⟩
  go_wp2_with fail
  refine h2.mono ?_
  rintro e w2 ⟨z, rfl, hr, hg, hz⟩
  go_wp2
  go_ret
  exact ⟨z, rfl, hr, hg, hz⟩
set_option maxRecDepth 100000 in
theorem passed_nil (w : World) : Calls Try.prog 18 #[.pointer none] w fun e w' => e = .returned (.slice none 0 0) ∧ w' = w := by
  have h1 := there_nil w
  go_enter Try.func18, Try.ntmps18
  go_wp2_with fail
  refine h1.mono ?_
  rintro e w1 ⟨rfl, rfl⟩
  go_wp2
  go_ret
  exact ⟨rfl, rfl⟩
set_option maxRecDepth 100000 in
theorem copy_nil (w : World) : Calls Try.prog 15 #[.pointer none] w fun e w' => e = .returned (.pointer none) ∧ w' = w := by
  have h1 := there_nil w
  go_enter Try.func15, Try.ntmps15
  go_wp2_with fail
  refine h1.mono ?_
  rintro e w1 ⟨rfl, rfl⟩
  go_wp2
  go_ret
  exact ⟨rfl, rfl⟩
set_option maxRecDepth 100000 in
set_option maxHeartbeats 1000000 in
theorem copy_any {w : World} {b g n : Nat} {k : Int} {f : Nat → Nat} (h : Fr w b g n k f) : Calls Try.prog 15 #[.pointer (some ⟨b, 0, none⟩)] w fun e w' => ∃ b2 g2, e = .returned (.pointer (some ⟨b2, 0, none⟩)) ∧ Fr w' b2 g2 n k f ∧ w.grownBy w' none ∧ w.heap.size ≤ b2 ∧ w.heap.size ≤ g2 := by
  have h1 := there_yes h
  have hgd : w.grownBy w.drew none := grown_drewN w 1 none
  have h2 := copied_any w.drew g n f (h.row.grown hgd) h.top
  have k0 := h.c0
  have k1 := h.c1
  have d0 := hgd.cell k0 (by simp)
  have d1 := hgd.cell k1 (by simp)
  have hp := h.pos
  have ht := h.top
  clear h
  go_enter Try.func15, Try.ntmps15
  go_wp2_with fail
  refine h1.mono ?_
  rintro e w1 ⟨rfl, hw⟩
  replace hw := hw.symm
  subst hw
  go_wp2_with fail
  go_region_held3 (fun w' => w'.cell? ⟨b, 0, none⟩ = some (.slice (some ⟨g, 0, none⟩) n n) ∧ w'.cell? ⟨b, 1, none⟩ = some (.int .i64 k)) (first | exact ⟨k0, k1⟩ | exact ⟨d0, d1⟩ | exact ⟨x0, x1⟩ | exact ⟨y0, y1⟩ | exact ⟨z0, z1⟩)
    ((go_at_call 27; refine h2.mono ?_; rintro e w4 ⟨z, rfl, hr, hg, hz⟩; have x0 := hg.cell d0 (by simp); have x1 := hg.cell d1 (by simp); have y0 := (grown_drewN w4 1 none).cell x0 (by simp); have y1 := (grown_drewN w4 1 none).cell x1 (by simp); have z0 := (alloc_grown w4 (.cells #[.slice (some ⟨z, 0, none⟩) n n, .int .i64 k] 57)).cell x0 (by simp); have z1 := (alloc_grown w4 (.cells #[.slice (some ⟨z, 0, none⟩) n n, .int .i64 k] 57)).cell x1 (by simp)))
  have hF : Fr (w4.alloc (.cells #[.slice (some ⟨z, 0, none⟩) n n, .int .i64 k] 57)) w4.heap.size z n k f ∧ w.grownBy (w4.alloc (.cells #[.slice (some ⟨z, 0, none⟩) n n, .int .i64 k] 57)) none ∧ w.heap.size ≤ w4.heap.size ∧ w.heap.size ≤ z := by
    have ga := alloc_grown w4 (.cells #[.slice (some ⟨z, 0, none⟩) n n, .int .i64 k] 57)
    exact ⟨⟨heap_alloc_new w4 _, hr.grown ga, hp, ht⟩, grown_trans (grown_trans hgd hg (by simp)) ga (by simp), hg.size, hz⟩
  clear hr hg hz x0 x1 y0 y1 z0 z1 d0 d1 k0 k1 hgd
  go_wp2
  go_ret
  exact ⟨_, z, rfl, hF⟩
end Go.Proofs.Ytfhbnkfpbjloeaa
