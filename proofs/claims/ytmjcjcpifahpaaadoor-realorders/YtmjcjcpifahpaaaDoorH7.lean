/-
  Known rows: the walk of works.
-/
import Derived.Test.YtmjcjcpifahpaaaDoorH6
import Derived.Test.YtmjcjcpifahpaaaDoorEq8
namespace Go.Proofs.YtmjcjcpifahpaaaDoor
open Go.RowKit Go.Shelf Go.Sort Go.Lib
set_option linter.unusedVariables false

theorem sort_312 (w : World) : Calls Tryd.prog 23 #[.slice (some ⟨w.heap.size, 0, none⟩) 3 3] (w.alloc (.cells #[.float .f64 4613937818241073152, .float .f64 4607182418800017408, .float .f64 4611686018427387904] 22)) fun e w' => ∃ g, e = .returned (.tuple #[.slice (some ⟨g, 0, none⟩) 3 3, .int .i64 0]) ∧ Fo w' w.heap.size 22 (some ⟨g, 0, none⟩) 3 3 [f1, f2, f3] ∧ w.grownBy w' none := by
  have hF := Fs.new w [f3, f1, f2] 22 (by decide)
  refine Calls.mono (sort_any _ _ 3 3 [f3, f1, f2] hF (by omega)) ?_
  rintro e w' ⟨g, l', he, ho, hp, hs, hg⟩
  rw [three_sorted hp hs] at ho
  refine ⟨g, he, ho.rebase (by simp), ?_⟩
  exact grown_trans (alloc_grown _ _) hg (by simp)

theorem read_31 (w : World) : Calls Tryd.prog 10 #[.string ⟨#[51, 112, 49]⟩] w fun e w' => e = .returned (.tuple #[.float .f64 4618441417868443648, .int .i64 0]) ∧ w' = w := by
  have := read_any w [51, 112, 49] (by decide)
  rw [read_3p1] at this
  exact this
theorem key_1 (w : World) : Calls Tryd.prog 16 #[.float .f64 4607182418800017408] w fun e w' => e = .returned (.agg #[.int .u8 191, .int .u8 240, .int .u8 0, .int .u8 0, .int .u8 0, .int .u8 0, .int .u8 0, .int .u8 0]) ∧ w.grownBy w' none := by
  have := key_any w 4607182418800017408 (by omega)
  rw [key_one, tab_key] at this
  exact this
theorem text_075 (w : World) (hD : Dt w) : Calls Tryd.prog 18 #[.float .f64 4604930618986332160] w fun e w' => e = .returned (.string ⟨#[51, 112, 45, 50]⟩) ∧ w.grownBy w' none := by
  have := text_any w 4604930618986332160 (by omega) hD
  rw [text_34] at this
  exact this

set_option maxRecDepth 100000 in
set_option maxHeartbeats 2000000 in
theorem works_any (w : World) (hD : Dt w) : Calls Tryd.prog 22 #[] w fun e w' => e = .returned (.bool true) ∧ w.grownBy w' none := by
  have e1 := eq_1
  have e3 := eq_3
  have e6 := eq_6
  have eqk := fun W => eq23 191 240 0 0 0 0 0 0 191 240 0 0 0 0 0 0 W
  go_enter Tryd.func22, Tryd.ntmps22
  go_wp2_with (first
    | (go_at_call 23; refine (sort_312 _).mono ?_; rintro e w1 ⟨g, rfl, ho1, hg1⟩)
    | (go_at_call 10; refine (read_31 _).mono ?_; rintro e w2 ⟨rfl, rfl⟩)
    | (go_at_call 16; refine (key_1 _).mono ?_; rintro e w3 ⟨rfl, hg3⟩; have k0 : w3.cell? ⟨g, 0, none⟩ = some (.float .f64 4607182418800017408) := (ho1.grown hg3).shows.at (j := 0) (by simp); have k2 : w3.cell? ⟨g, 2, none⟩ = some (.float .f64 4613937818241073152) := (ho1.grown hg3).shows.at (j := 2) (by simp))
    | (go_at_call 21; refine (num_any' _ _).mono ?_; rintro e w4 ⟨rfl, rfl⟩)
    | (go_at_call 18; refine (text_075 _ ((hD.grown hg1).grown hg3)).mono ?_; rintro e w5 ⟨rfl, hg5⟩))
  go_ret
  exact ⟨rfl, grown_trans (grown_trans hg1 hg3 (by simp)) hg5 (by simp)⟩
end Go.Proofs.YtmjcjcpifahpaaaDoor
