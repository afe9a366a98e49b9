/-
  KeepHolds: the walk where the law asks nothing.
-/
import Derived.Test.YtkljmjpapkopbaaC1
import Derived.Deep.DeepCutAuto
namespace Go.Proofs.Ytkljmjpapkopbaa
open Go.RowKit
set_option linter.unusedVariables false

set_option maxRecDepth 100000 in
set_option maxHeartbeats 4000000 in
theorem keepHolds_not {w : World} (r : Ru) (now later at' : Int) (so : Option Addr) (n sc : Nat) (l : List Pc) (hP : Ps w so n l) (h : 60 < n ∨ ¬ refE r now l = 0 ∨ inB later 9007199254740992 = false) :
    Calls Try.prog 4 #[.agg #[.int .i64 r.by', .int .i64 r.age, .int .i64 r.pcs, .int .i64 r.bel, .int .i64 now, .int .i64 later, .int .i64 at', .slice so n sc]] w fun e w' => e = .returned (.bool true) ∧ w.grownBy w' none := by
  have ga := alloc_grown w (.cells #[.int .i64 r.by', .int .i64 r.age, .int .i64 r.pcs, .int .i64 r.bel, .int .i64 now, .int .i64 later, .int .i64 at', .slice so n sc] 26)
  have k9 := heap_alloc_new w (.cells #[.int .i64 r.by', .int .i64 r.age, .int .i64 r.pcs, .int .i64 r.bel, .int .i64 now, .int .i64 later, .int .i64 at', .slice so n sc] 26)
  have gd := grown_trans ga (grown_drew (w.alloc (.cells #[.int .i64 r.by', .int .i64 r.age, .int .i64 r.pcs, .int .i64 r.bel, .int .i64 now, .int .i64 later, .int .i64 at', .slice so n sc] 26)) none) (by simp)
  have c0 := (grown_drew (w.alloc (.cells #[.int .i64 r.by', .int .i64 r.age, .int .i64 r.pcs, .int .i64 r.bel, .int .i64 now, .int .i64 later, .int .i64 at', .slice so n sc] 26)) none).cell (cell_of (i := 0) (v := .int .i64 r.by') k9 rfl) (by simp)
  have c1 := (grown_drew (w.alloc (.cells #[.int .i64 r.by', .int .i64 r.age, .int .i64 r.pcs, .int .i64 r.bel, .int .i64 now, .int .i64 later, .int .i64 at', .slice so n sc] 26)) none).cell (cell_of (i := 1) (v := .int .i64 r.age) k9 rfl) (by simp)
  have c2 := (grown_drew (w.alloc (.cells #[.int .i64 r.by', .int .i64 r.age, .int .i64 r.pcs, .int .i64 r.bel, .int .i64 now, .int .i64 later, .int .i64 at', .slice so n sc] 26)) none).cell (cell_of (i := 2) (v := .int .i64 r.pcs) k9 rfl) (by simp)
  have c3 := (grown_drew (w.alloc (.cells #[.int .i64 r.by', .int .i64 r.age, .int .i64 r.pcs, .int .i64 r.bel, .int .i64 now, .int .i64 later, .int .i64 at', .slice so n sc] 26)) none).cell (cell_of (i := 3) (v := .int .i64 r.bel) k9 rfl) (by simp)
  have c4 := (grown_drew (w.alloc (.cells #[.int .i64 r.by', .int .i64 r.age, .int .i64 r.pcs, .int .i64 r.bel, .int .i64 now, .int .i64 later, .int .i64 at', .slice so n sc] 26)) none).cell (cell_of (i := 4) (v := .int .i64 now) k9 rfl) (by simp)
  have c5 := (grown_drew (w.alloc (.cells #[.int .i64 r.by', .int .i64 r.age, .int .i64 r.pcs, .int .i64 r.bel, .int .i64 now, .int .i64 later, .int .i64 at', .slice so n sc] 26)) none).cell (cell_of (i := 5) (v := .int .i64 later) k9 rfl) (by simp)
  have c6 := (grown_drew (w.alloc (.cells #[.int .i64 r.by', .int .i64 r.age, .int .i64 r.pcs, .int .i64 r.bel, .int .i64 now, .int .i64 later, .int .i64 at', .slice so n sc] 26)) none).cell (cell_of (i := 6) (v := .int .i64 at') k9 rfl) (by simp)
  have c7 := (grown_drew (w.alloc (.cells #[.int .i64 r.by', .int .i64 r.age, .int .i64 r.pcs, .int .i64 r.bel, .int .i64 now, .int .i64 later, .int .i64 at', .slice so n sc] 26)) none).cell (cell_of (i := 7) (v := .slice so n sc) k9 rfl) (by simp)
  go_enter Try.func4, Try.ntmps4
  go_wp2_with fail
  go_region_held3 (fun w' => w'.cell? ⟨w.heap.size, 0, none⟩ = some (.int .i64 r.by') ∧ w'.cell? ⟨w.heap.size, 1, none⟩ = some (.int .i64 r.age) ∧ w'.cell? ⟨w.heap.size, 2, none⟩ = some (.int .i64 r.pcs) ∧ w'.cell? ⟨w.heap.size, 3, none⟩ = some (.int .i64 r.bel) ∧ w'.cell? ⟨w.heap.size, 4, none⟩ = some (.int .i64 now) ∧ w'.cell? ⟨w.heap.size, 5, none⟩ = some (.int .i64 later) ∧ w'.cell? ⟨w.heap.size, 6, none⟩ = some (.int .i64 at') ∧ w'.cell? ⟨w.heap.size, 7, none⟩ = some (.slice so n sc)) (first | exact ⟨c0, c1, c2, c3, c4, c5, c6, c7⟩ | go_keep) (fail)
  have gd2 : w.grownBy ((w.alloc (.cells #[.int .i64 r.by', .int .i64 r.age, .int .i64 r.pcs, .int .i64 r.bel, .int .i64 now, .int .i64 later, .int .i64 at', .slice so n sc] 26)).alloc (.cells #[.int .i64 r.by', .int .i64 r.age, .int .i64 r.pcs, .int .i64 r.bel] 23)).drew none := grown_trans (grown_trans ga (alloc_grown _ _) (by simp)) (grown_drew _ none) (by simp)
  have hRb : Rb ((w.alloc (.cells #[.int .i64 r.by', .int .i64 r.age, .int .i64 r.pcs, .int .i64 r.bel, .int .i64 now, .int .i64 later, .int .i64 at', .slice so n sc] 26)).alloc (.cells #[.int .i64 r.by', .int .i64 r.age, .int .i64 r.pcs, .int .i64 r.bel] 23)).drew (w.heap.size + 1) r := Rb.grown (by have h9 := heap_alloc_new (w.alloc (.cells #[.int .i64 r.by', .int .i64 r.age, .int .i64 r.pcs, .int .i64 r.bel, .int .i64 now, .int .i64 later, .int .i64 at', .slice so n sc] 26)) (.cells #[.int .i64 r.by', .int .i64 r.age, .int .i64 r.pcs, .int .i64 r.bel] 23); rw [World.size_alloc] at h9; exact h9) (grown_drew _ none)
  clear ga k9 gd c0 c1 c2 c3 c4 c5 c6 c7
  generalize ((w.alloc (.cells #[.int .i64 r.by', .int .i64 r.age, .int .i64 r.pcs, .int .i64 r.bel, .int .i64 now, .int .i64 later, .int .i64 at', .slice so n sc] 26)).alloc (.cells #[.int .i64 r.by', .int .i64 r.age, .int .i64 r.pcs, .int .i64 r.bel] 23)).drew = wd at *
  generalize w.heap.size + 1 = bx at *
  obtain ⟨x0, x1, x2, x3⟩ := hRb.cs
  have hP1 := hP.grown gd2
  by_cases hn : 60 < n
  · have d1 : decide ((60 : Int) < (n : Int)) = true := by simp; omega
    clear h
    have hwk := works_any wd
    go_wp2_with fail
    refine hwk.mono ?_
    rintro e w9 ⟨rfl, hg9⟩
    have hG9 := grown_trans gd2 hg9 (by simp)
    go_wp2
    go_ret
    exact ⟨rfl, hG9⟩
  · have d1 : decide ((60 : Int) < (n : Int)) = false := by simp; omega
    have hck := check_any wd r
    unfold Ru.val at hck
    cases hr : r.ok
    · rw [hr] at hck
      unfold argE at hck
      simp only [Bool.false_eq_true, if_false] at hck
      clear h hr
      go_wp2_with fail
      refine hck.mono ?_
      rintro e w1 ⟨rfl, hg1⟩
      have hG1 := grown_trans gd2 hg1 (by simp)
      have hnu := num_any w1 2
      go_wp2_with fail
      refine hnu.mono ?_
      rintro e w2 ⟨rfl, rfl⟩
      have hwk := works_any w2
      go_wp2_with fail
      refine hwk.mono ?_
      rintro e w9 ⟨rfl, hg9⟩
      have hG9 := grown_trans hG1 hg9 (by simp)
      go_wp2
      go_ret
      exact ⟨rfl, hG9⟩
    · rw [hr] at hck
      unfold argE at hck
      simp only [if_true] at hck
      have hor := fun W (hg : wd.grownBy W none) => ordered_any so n sc l (hP1.grown hg)
      by_cases ho : ordE l = 0
      · rw [ho] at hor
        cases hnow : inB now 9007199254740992
        · clear h hr ho
          go_wp2_with fail
          refine hck.mono ?_
          rintro e w1 ⟨rfl, hg1⟩
          have hG1 := grown_trans gd2 hg1 (by simp)
          have hnu := num_any w1 0
          have hor1 := hor w1 hg1
          clear hor
          go_wp2_with fail
          refine hnu.mono ?_
          rintro e w2 ⟨rfl, rfl⟩
          go_wp2_with fail
          refine hor1.mono ?_
          rintro e w3 ⟨rfl, hg3⟩
          have hG3 := grown_trans hG1 hg3 (by simp)
          have hnu := num_any w3 0
          have hno := now_any w3 now
          rw [hnow] at hno
          clear hnow
          go_wp2_with fail
          refine hnu.mono ?_
          rintro e w4 ⟨rfl, rfl⟩
          go_wp2_with fail
          refine hno.mono ?_
          rintro e w5 ⟨rfl, rfl⟩
          have hwk := works_any w5
          go_wp2_with fail
          refine hwk.mono ?_
          rintro e w9 ⟨rfl, hg9⟩
          have hG9 := grown_trans hG3 hg9 (by simp)
          go_wp2
          go_ret
          exact ⟨rfl, hG9⟩
        · have hlat : inB later 9007199254740992 = false := by
            rcases h with h | h | h
            · omega
            · exact absurd (by unfold refE; rw [if_neg (by simp [hr, hnow]), ho]) h
            · exact h
          clear h hr ho
          go_wp2_with fail
          refine hck.mono ?_
          rintro e w1 ⟨rfl, hg1⟩
          have hG1 := grown_trans gd2 hg1 (by simp)
          have hnu := num_any w1 0
          have hor1 := hor w1 hg1
          clear hor
          go_wp2_with fail
          refine hnu.mono ?_
          rintro e w2 ⟨rfl, rfl⟩
          go_wp2_with fail
          refine hor1.mono ?_
          rintro e w3 ⟨rfl, hg3⟩
          have hG3 := grown_trans hG1 hg3 (by simp)
          have hnu := num_any w3 0
          have hno := now_any w3 now
          rw [hnow] at hno
          have hnl := now_any w3 later
          rw [hlat] at hnl
          clear hnow hlat
          go_wp2_with fail
          refine hnu.mono ?_
          rintro e w4 ⟨rfl, rfl⟩
          go_wp2_with fail
          refine hno.mono ?_
          rintro e w5 ⟨rfl, rfl⟩
          go_wp2_with fail
          refine hnl.mono ?_
          rintro e w6 ⟨rfl, rfl⟩
          have hwk := works_any w6
          go_wp2_with fail
          refine hwk.mono ?_
          rintro e w9 ⟨rfl, hg9⟩
          have hG9 := grown_trans hG3 hg9 (by simp)
          go_wp2
          go_ret
          exact ⟨rfl, hG9⟩
      · have d2 : (ordE l == 0) = false := by simpa using ho
        have d2b : (ordE l != 0) = true := by simpa using ho
        clear h hr ho
        generalize ordE l = E at *
        go_wp2_with fail
        refine hck.mono ?_
        rintro e w1 ⟨rfl, hg1⟩
        have hG1 := grown_trans gd2 hg1 (by simp)
        have hnu := num_any w1 0
        have hor1 := hor w1 hg1
        clear hor
        go_wp2_with fail
        refine hnu.mono ?_
        rintro e w2 ⟨rfl, rfl⟩
        go_wp2_with fail
        refine hor1.mono ?_
        rintro e w3 ⟨rfl, hg3⟩
        have hG3 := grown_trans hG1 hg3 (by simp)
        have hnu := num_any w3 E
        go_wp2_with fail
        refine hnu.mono ?_
        rintro e w4 ⟨rfl, rfl⟩
        have hwk := works_any w4
        go_wp2_with fail
        refine hwk.mono ?_
        rintro e w9 ⟨rfl, hg9⟩
        have hG9 := grown_trans hG3 hg9 (by simp)
        go_wp2
        go_ret
        exact ⟨rfl, hG9⟩
end Go.Proofs.Ytkljmjpapkopbaa
