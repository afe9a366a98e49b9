/-
  KeepWhy: the walk.
-/
import Derived.Test.YtkljmjpapkopbaaB1
import Derived.Test.YtkljmjpapkopbaaM1
namespace Go.Proofs.Ytkljmjpapkopbaa
open Go.RowKit
set_option linter.unusedVariables false

set_option maxRecDepth 100000 in
set_option maxHeartbeats 4000000 in
theorem keepWhy_not {w : World} (r : Ru) (now later at' : Int) (so : Option Addr) (n sc : Nat) (l : List Pc) (hP : Ps w so n l) (h : 60 < n ∨ ¬ refE r now l = 0) :
    Calls Try.prog 6 #[.agg #[.int .i64 r.by', .int .i64 r.age, .int .i64 r.pcs, .int .i64 r.bel, .int .i64 now, .int .i64 later, .int .i64 at', .slice so n sc]] w fun e w' => e = .returned (.bool true) ∧ w.grownBy w' none := by
  have ga := alloc_grown w (.cells #[.int .i64 r.by', .int .i64 r.age, .int .i64 r.pcs, .int .i64 r.bel, .int .i64 now, .int .i64 later, .int .i64 at', .slice so n sc] 26)
  have k9 := heap_alloc_new w (.cells #[.int .i64 r.by', .int .i64 r.age, .int .i64 r.pcs, .int .i64 r.bel, .int .i64 now, .int .i64 later, .int .i64 at', .slice so n sc] 26)
  have gd := grown_trans ga (grown_drew (w.alloc (.cells #[.int .i64 r.by', .int .i64 r.age, .int .i64 r.pcs, .int .i64 r.bel, .int .i64 now, .int .i64 later, .int .i64 at', .slice so n sc] 26)) none) (by simp)
  have c0 := (grown_drew (w.alloc (.cells #[.int .i64 r.by', .int .i64 r.age, .int .i64 r.pcs, .int .i64 r.bel, .int .i64 now, .int .i64 later, .int .i64 at', .slice so n sc] 26)) none).cell (cell_of (i := 0) (v := .int .i64 r.by') k9 rfl) (by simp)
  have c1 := (grown_drew (w.alloc (.cells #[.int .i64 r.by', .int .i64 r.age, .int .i64 r.pcs, .int .i64 r.bel, .int .i64 now, .int .i64 later, .int .i64 at', .slice so n sc] 26)) none).cell (cell_of (i := 1) (v := .int .i64 r.age) k9 rfl) (by simp)
  have c2 := (grown_drew (w.alloc (.cells #[.int .i64 r.by', .int .i64 r.age, .int .i64 r.pcs, .int .i64 r.bel, .int .i64 now, .int .i64 later, .int .i64 at', .slice so n sc] 26)) none).cell (cell_of (i := 2) (v := .int .i64 r.pcs) k9 rfl) (by simp)
  have c3 := (grown_drew (w.alloc (.cells #[.int .i64 r.by', .int .i64 r.age, .int .i64 r.pcs, .int .i64 r.bel, .int .i64 now, .int .i64 later, .int .i64 at', .slice so n sc] 26)) none).cell (cell_of (i := 3) (v := .int .i64 r.bel) k9 rfl) (by simp)
  have c4 := (grown_drew (w.alloc (.cells #[.int .i64 r.by', .int .i64 r.age, .int .i64 r.pcs, .int .i64 r.bel, .int .i64 now, .int .i64 later, .int .i64 at', .slice so n sc] 26)) none).cell (cell_of (i := 4) (v := .int .i64 now) k9 rfl) (by simp)
  have c5 := (grown_drew (w.alloc (.cells #[.int .i64 r.by', .int .i64 r.age, .int .i64 r.pcs, .int .i64 r.bel, .int .i64 now, .int .i64 later, .int .i64 at', .slice so n sc] 26)) none).cell (cell_of (i := 5) (v := .int .i64 later) k9 rfl) (by simp)
  have c6 := (grown_drew (w.alloc (.cells #[.int .i64 r.by', .int .i64 r.age, .int .i64 r.pcs, .int .i64 r.bel, .int .i64 now, .int .i64 later, .int .i64 at', .slice so n sc] 26)) none).cell (cell_of (i := 6) (v := .int .i64 at') k9 rfl) (by simp)
  have c7 := (grown_drew (w.alloc (.cells #[.int .i64 r.by', .int .i64 r.age, .int .i64 r.pcs, .int .i64 r.bel, .int .i64 now, .int .i64 later, .int .i64 at', .slice so n sc] 26)) none).cell (cell_of (i := 7) (v := .slice so n sc) k9 rfl) (by simp)
  go_enter Try.func6, Try.ntmps6
  go_wp2_with fail
  go_region_held3 (fun w' => w'.cell? ⟨w.heap.size, 0, none⟩ = some (.int .i64 r.by') ∧ w'.cell? ⟨w.heap.size, 1, none⟩ = some (.int .i64 r.age) ∧ w'.cell? ⟨w.heap.size, 2, none⟩ = some (.int .i64 r.pcs) ∧ w'.cell? ⟨w.heap.size, 3, none⟩ = some (.int .i64 r.bel) ∧ w'.cell? ⟨w.heap.size, 4, none⟩ = some (.int .i64 now) ∧ w'.cell? ⟨w.heap.size, 5, none⟩ = some (.int .i64 later) ∧ w'.cell? ⟨w.heap.size, 6, none⟩ = some (.int .i64 at') ∧ w'.cell? ⟨w.heap.size, 7, none⟩ = some (.slice so n sc)) (first | exact ⟨c0, c1, c2, c3, c4, c5, c6, c7⟩ | go_keep) (fail)
  have gd2 : w.grownBy ((w.alloc (.cells #[.int .i64 r.by', .int .i64 r.age, .int .i64 r.pcs, .int .i64 r.bel, .int .i64 now, .int .i64 later, .int .i64 at', .slice so n sc] 26)).alloc (.cells #[.int .i64 r.by', .int .i64 r.age, .int .i64 r.pcs, .int .i64 r.bel] 23)).drew none := grown_trans (grown_trans ga (alloc_grown _ _) (by simp)) (grown_drew _ none) (by simp)
  have hRb : Rb ((w.alloc (.cells #[.int .i64 r.by', .int .i64 r.age, .int .i64 r.pcs, .int .i64 r.bel, .int .i64 now, .int .i64 later, .int .i64 at', .slice so n sc] 26)).alloc (.cells #[.int .i64 r.by', .int .i64 r.age, .int .i64 r.pcs, .int .i64 r.bel] 23)).drew (w.heap.size + 1) r := Rb.grown (by have h9 := heap_alloc_new (w.alloc (.cells #[.int .i64 r.by', .int .i64 r.age, .int .i64 r.pcs, .int .i64 r.bel, .int .i64 now, .int .i64 later, .int .i64 at', .slice so n sc] 26)) (.cells #[.int .i64 r.by', .int .i64 r.age, .int .i64 r.pcs, .int .i64 r.bel] 23); rw [World.size_alloc] at h9; exact h9) (grown_drew _ none)
  clear ga k9 gd c0 c1 c2 c3 c4 c5 c6 c7
  generalize ((w.alloc (.cells #[.int .i64 r.by', .int .i64 r.age, .int .i64 r.pcs, .int .i64 r.bel, .int .i64 now, .int .i64 later, .int .i64 at', .slice so n sc] 26)).alloc (.cells #[.int .i64 r.by', .int .i64 r.age, .int .i64 r.pcs, .int .i64 r.bel] 23)).drew = wd at *
  generalize w.heap.size + 1 = bx at *
  obtain ⟨x0, x1, x2, x3⟩ := hRb.cs
  have hP1 := hP.grown gd2
  by_cases hn : 60 < n
  · have d1 : decide ((60 : Int) < (n : Int)) = true := by simp; omega
    clear h
    have hwk := works_any wd
    go_wp2_with fail
    refine hwk.mono ?_
    rintro e w9 ⟨rfl, hg9⟩
    have hG9 := grown_trans gd2 hg9 (by simp)
    go_wp2
    go_ret
    exact ⟨rfl, hG9⟩
  · have d1 : decide ((60 : Int) < (n : Int)) = false := by simp; omega
    have hck := check_any wd r
    unfold Ru.val at hck
    cases hr : r.ok
    · rw [hr] at hck
      unfold argE at hck
      simp only [Bool.false_eq_true, if_false] at hck
      clear h hr
      go_wp2_with fail
      refine hck.mono ?_
      rintro e w1 ⟨rfl, hg1⟩
      have hG1 := grown_trans gd2 hg1 (by simp)
      have hnu := num_any w1 2
      go_wp2_with fail
      refine hnu.mono ?_
      rintro e w2 ⟨rfl, rfl⟩
      have hwk := works_any w2
      go_wp2_with fail
      refine hwk.mono ?_
      rintro e w9 ⟨rfl, hg9⟩
      have hG9 := grown_trans hG1 hg9 (by simp)
      go_wp2
      go_ret
      exact ⟨rfl, hG9⟩
    · rw [hr] at hck
      unfold argE at hck
      simp only [if_true] at hck
      have hor := fun W (hg : wd.grownBy W none) => ordered_any so n sc l (hP1.grown hg)
      by_cases ho : ordE l = 0
      · rw [ho] at hor
        have hnow : inB now 9007199254740992 = false := by
          cases h9 : inB now 9007199254740992
          · rfl
          · exfalso
            rcases h with h | h
            · omega
            · exact h (by unfold refE; rw [if_neg (by simp [hr, h9]), ho])
        clear h hr ho
        go_wp2_with fail
        refine hck.mono ?_
        rintro e w1 ⟨rfl, hg1⟩
        have hG1 := grown_trans gd2 hg1 (by simp)
        have hnu := num_any w1 0
        have hor1 := hor w1 hg1
        clear hor
        go_wp2_with fail
        refine hnu.mono ?_
        rintro e w2 ⟨rfl, rfl⟩
        go_wp2_with fail
        refine hor1.mono ?_
        rintro e w3 ⟨rfl, hg3⟩
        have hG3 := grown_trans hG1 hg3 (by simp)
        have hnu := num_any w3 0
        have hno := now_any w3 now
        rw [hnow] at hno
        clear hnow
        go_wp2_with fail
        refine hnu.mono ?_
        rintro e w4 ⟨rfl, rfl⟩
        go_wp2_with fail
        refine hno.mono ?_
        rintro e w5 ⟨rfl, rfl⟩
        have hwk := works_any w5
        go_wp2_with fail
        refine hwk.mono ?_
        rintro e w9 ⟨rfl, hg9⟩
        have hG9 := grown_trans hG3 hg9 (by simp)
        go_wp2
        go_ret
        exact ⟨rfl, hG9⟩
      · have d2 : (ordE l == 0) = false := by simpa using ho
        have d2b : (ordE l != 0) = true := by simpa using ho
        clear h hr ho
        generalize ordE l = E at *
        go_wp2_with fail
        refine hck.mono ?_
        rintro e w1 ⟨rfl, hg1⟩
        have hG1 := grown_trans gd2 hg1 (by simp)
        have hnu := num_any w1 0
        have hor1 := hor w1 hg1
        clear hor
        go_wp2_with fail
        refine hnu.mono ?_
        rintro e w2 ⟨rfl, rfl⟩
        go_wp2_with fail
        refine hor1.mono ?_
        rintro e w3 ⟨rfl, hg3⟩
        have hG3 := grown_trans hG1 hg3 (by simp)
        have hnu := num_any w3 E
        go_wp2_with fail
        refine hnu.mono ?_
        rintro e w4 ⟨rfl, rfl⟩
        have hwk := works_any w4
        go_wp2_with fail
        refine hwk.mono ?_
        rintro e w9 ⟨rfl, hg9⟩
        have hG9 := grown_trans hG3 hg9 (by simp)
        go_wp2
        go_ret
        exact ⟨rfl, hG9⟩

theorem refE_of {r r2 : Ru} {now now2 : Int} {l : List Pc} (h : refE r now l = 0) (h2 : r2.ok = true) (hn : inB now2 9007199254740992 = true) : refE r2 now2 l = 0 := by
  have h1 := refE_zero h
  unfold refE at h ⊢
  rw [if_neg (by simp [h1.1, h1.2.1])] at h
  rw [if_neg (by simp [h2, hn])]
  exact h
theorem goE_of {r : Ru} {now : Int} {l : List Pc} (h : refE r now l = 0) : goE r now l = (goesR r now l : Int) := by unfold goE; rw [if_pos h]

set_option maxRecDepth 100000 in
set_option maxHeartbeats 8000000 in
theorem keepWhy_yes {w : World} (r : Ru) (now later at' : Int) (so : Option Addr) (n sc : Nat) (l : List Pc) (hP : Ps w so n l) (hn : n ≤ 60) (he : refE r now l = 0) :
    Calls Try.prog 6 #[.agg #[.int .i64 r.by', .int .i64 r.age, .int .i64 r.pcs, .int .i64 r.bel, .int .i64 now, .int .i64 later, .int .i64 at', .slice so n sc]] w fun e w' => e = .returned (.bool true) ∧ w.grownBy w' none := by
  obtain ⟨z1, z2, z3, z4, z5⟩ := refE_zero he
  have ho : ordE l = 0 := by
    have h9 := he
    unfold refE at h9
    rwa [if_neg (by simp [z1, z2])] at h9
  obtain ⟨b0, b1, a0, a1, q0, q1, e0, e1⟩ := ok_yes z1
  have ga := alloc_grown w (.cells #[.int .i64 r.by', .int .i64 r.age, .int .i64 r.pcs, .int .i64 r.bel, .int .i64 now, .int .i64 later, .int .i64 at', .slice so n sc] 26)
  have k9 := heap_alloc_new w (.cells #[.int .i64 r.by', .int .i64 r.age, .int .i64 r.pcs, .int .i64 r.bel, .int .i64 now, .int .i64 later, .int .i64 at', .slice so n sc] 26)
  have gd := grown_trans ga (grown_drew (w.alloc (.cells #[.int .i64 r.by', .int .i64 r.age, .int .i64 r.pcs, .int .i64 r.bel, .int .i64 now, .int .i64 later, .int .i64 at', .slice so n sc] 26)) none) (by simp)
  have c0 := (grown_drew (w.alloc (.cells #[.int .i64 r.by', .int .i64 r.age, .int .i64 r.pcs, .int .i64 r.bel, .int .i64 now, .int .i64 later, .int .i64 at', .slice so n sc] 26)) none).cell (cell_of (i := 0) (v := .int .i64 r.by') k9 rfl) (by simp)
  have c1 := (grown_drew (w.alloc (.cells #[.int .i64 r.by', .int .i64 r.age, .int .i64 r.pcs, .int .i64 r.bel, .int .i64 now, .int .i64 later, .int .i64 at', .slice so n sc] 26)) none).cell (cell_of (i := 1) (v := .int .i64 r.age) k9 rfl) (by simp)
  have c2 := (grown_drew (w.alloc (.cells #[.int .i64 r.by', .int .i64 r.age, .int .i64 r.pcs, .int .i64 r.bel, .int .i64 now, .int .i64 later, .int .i64 at', .slice so n sc] 26)) none).cell (cell_of (i := 2) (v := .int .i64 r.pcs) k9 rfl) (by simp)
  have c3 := (grown_drew (w.alloc (.cells #[.int .i64 r.by', .int .i64 r.age, .int .i64 r.pcs, .int .i64 r.bel, .int .i64 now, .int .i64 later, .int .i64 at', .slice so n sc] 26)) none).cell (cell_of (i := 3) (v := .int .i64 r.bel) k9 rfl) (by simp)
  have c4 := (grown_drew (w.alloc (.cells #[.int .i64 r.by', .int .i64 r.age, .int .i64 r.pcs, .int .i64 r.bel, .int .i64 now, .int .i64 later, .int .i64 at', .slice so n sc] 26)) none).cell (cell_of (i := 4) (v := .int .i64 now) k9 rfl) (by simp)
  have c5 := (grown_drew (w.alloc (.cells #[.int .i64 r.by', .int .i64 r.age, .int .i64 r.pcs, .int .i64 r.bel, .int .i64 now, .int .i64 later, .int .i64 at', .slice so n sc] 26)) none).cell (cell_of (i := 5) (v := .int .i64 later) k9 rfl) (by simp)
  have c6 := (grown_drew (w.alloc (.cells #[.int .i64 r.by', .int .i64 r.age, .int .i64 r.pcs, .int .i64 r.bel, .int .i64 now, .int .i64 later, .int .i64 at', .slice so n sc] 26)) none).cell (cell_of (i := 6) (v := .int .i64 at') k9 rfl) (by simp)
  have c7 := (grown_drew (w.alloc (.cells #[.int .i64 r.by', .int .i64 r.age, .int .i64 r.pcs, .int .i64 r.bel, .int .i64 now, .int .i64 later, .int .i64 at', .slice so n sc] 26)) none).cell (cell_of (i := 7) (v := .slice so n sc) k9 rfl) (by simp)
  go_enter Try.func6, Try.ntmps6
  go_wp2_with fail
  go_region_held3 (fun w' => w'.cell? ⟨w.heap.size, 0, none⟩ = some (.int .i64 r.by') ∧ w'.cell? ⟨w.heap.size, 1, none⟩ = some (.int .i64 r.age) ∧ w'.cell? ⟨w.heap.size, 2, none⟩ = some (.int .i64 r.pcs) ∧ w'.cell? ⟨w.heap.size, 3, none⟩ = some (.int .i64 r.bel) ∧ w'.cell? ⟨w.heap.size, 4, none⟩ = some (.int .i64 now) ∧ w'.cell? ⟨w.heap.size, 5, none⟩ = some (.int .i64 later) ∧ w'.cell? ⟨w.heap.size, 6, none⟩ = some (.int .i64 at') ∧ w'.cell? ⟨w.heap.size, 7, none⟩ = some (.slice so n sc)) (first | exact ⟨c0, c1, c2, c3, c4, c5, c6, c7⟩ | go_keep) (fail)
  have gd2 : w.grownBy ((w.alloc (.cells #[.int .i64 r.by', .int .i64 r.age, .int .i64 r.pcs, .int .i64 r.bel, .int .i64 now, .int .i64 later, .int .i64 at', .slice so n sc] 26)).alloc (.cells #[.int .i64 r.by', .int .i64 r.age, .int .i64 r.pcs, .int .i64 r.bel] 23)).drew none := grown_trans (grown_trans ga (alloc_grown _ _) (by simp)) (grown_drew _ none) (by simp)
  have hRb : Rb ((w.alloc (.cells #[.int .i64 r.by', .int .i64 r.age, .int .i64 r.pcs, .int .i64 r.bel, .int .i64 now, .int .i64 later, .int .i64 at', .slice so n sc] 26)).alloc (.cells #[.int .i64 r.by', .int .i64 r.age, .int .i64 r.pcs, .int .i64 r.bel] 23)).drew (w.heap.size + 1) r := Rb.grown (by have h9 := heap_alloc_new (w.alloc (.cells #[.int .i64 r.by', .int .i64 r.age, .int .i64 r.pcs, .int .i64 r.bel, .int .i64 now, .int .i64 later, .int .i64 at', .slice so n sc] 26)) (.cells #[.int .i64 r.by', .int .i64 r.age, .int .i64 r.pcs, .int .i64 r.bel] 23); rw [World.size_alloc] at h9; exact h9) (grown_drew _ none)
  clear ga k9 gd c0 c1 c2 c3 c4 c5 c6 c7
  generalize ((w.alloc (.cells #[.int .i64 r.by', .int .i64 r.age, .int .i64 r.pcs, .int .i64 r.bel, .int .i64 now, .int .i64 later, .int .i64 at', .slice so n sc] 26)).alloc (.cells #[.int .i64 r.by', .int .i64 r.age, .int .i64 r.pcs, .int .i64 r.bel] 23)).drew = wd at *
  generalize w.heap.size + 1 = bx at *
  obtain ⟨x0, x1, x2, x3⟩ := hRb.cs
  have hP1 := hP.grown gd2
  have d1 : decide ((60 : Int) < (n : Int)) = false := by simp; omega
  have hlen := hP.len
  have hck := check_any wd r
  rw [z1] at hck
  unfold Ru.val argE at hck
  simp only [if_true] at hck
  go_wp2_with fail
  refine hck.mono ?_
  rintro e w1 ⟨rfl, hg1⟩
  have hG1 := grown_trans gd2 hg1 (by simp)
  have hnu := num_any w1 0
  have hor := ordered_any so n sc l (hP1.grown hg1)
  rw [ho] at hor
  clear hck x0 x1 x2 x3
  go_wp2_with fail
  refine hnu.mono ?_
  rintro e w2 ⟨rfl, rfl⟩
  go_wp2_with fail
  refine hor.mono ?_
  rintro e w3 ⟨rfl, hg3⟩
  have hG3 := grown_trans hG1 hg3 (by simp)
  have hRb3 := (hRb.grown hg1).grown hg3
  have hnu := num_any w3 0
  have hno := now_any w3 now
  rw [z2] at hno
  clear hor hg1
  go_wp2_with fail
  refine hnu.mono ?_
  rintro e w4 ⟨rfl, rfl⟩
  go_wp2_with fail
  refine hno.mono ?_
  rintro e w5 ⟨rfl, rfl⟩
  clear hno hnu
  obtain ⟨x0, x1, x2, x3⟩ := hRb3.cs
  have hgo := goes_any r now so n sc l (hP.grown hG3)
  rw [he, goE_of he] at hgo
  unfold Ru.val at hgo
  have hsay := fun k (hk : k < n) => why_says (r := r) (now := now) (l := l) (k := k) (by omega)
  have hGl := goes_le r now l
  have hm1 : goesR ⟨r.by', 0, 0, r.bel⟩ now l ≤ goesR r now l := goAt_mono (Int.le_refl _) (fun h => ⟨h, Int.le_refl _⟩) (fun h => absurd h (Int.lt_irrefl 0)) (fun h => absurd h (Int.lt_irrefl 0)) (Int.le_refl _)
  have hm2 : goesR ⟨0, r.age, 0, r.bel⟩ now l ≤ goesR r now l := goAt_mono (Int.le_refl _) (fun h => absurd h (Int.lt_irrefl 0)) (fun h => ⟨h, Int.le_refl _⟩) (fun h => absurd h (Int.lt_irrefl 0)) (Int.le_refl _)
  have hm3 : goesR ⟨0, 0, r.pcs, r.bel⟩ now l ≤ goesR r now l := goAt_mono (Int.le_refl _) (fun h => absurd h (Int.lt_irrefl 0)) (fun h => absurd h (Int.lt_irrefl 0)) (fun h => ⟨h, Int.le_refl _⟩) (Int.le_refl _)
  generalize goesR r now l = G at *
  go_wp2_with fail
  refine hgo.mono ?_
  rintro e w6 ⟨rfl, hg6⟩
  have hG6 := grown_trans hG3 hg6 (by simp)
  have hRb6 := hRb3.grown hg6
  have hnu := num_any w6 0
  clear hgo x0 x1 x2 x3 hg6
  go_wp2_with fail
  refine hnu.mono ?_
  rintro e w7 ⟨rfl, rfl⟩
  clear hnu
  go_wp2_with fail
  go_loopw [8] (fun v8 wr => ∃ k : Nat, v8 = .int .i64 k ∧ k ≤ n ∧ w.grownBy wr none ∧ Rb wr bx r) (fun v8 _ => n - (intOf v8).toNat)
  case atStart => exact ⟨0, rfl, Nat.zero_le _, hG6, hRb6⟩
  case round =>
    obtain ⟨k, rfl, hk, hG, hRbr⟩ := hrel
    by_cases hlt : k < n
    · have d2 : decide ((k : Int) < (n : Int)) = true := by simp; omega
      obtain ⟨s1, s2, s3, s4⟩ := hsay k hlt
      have hwy := why_at r now k so n sc l (hP.grown hG) he hlt
      unfold Ru.val at hwy
      obtain ⟨x0, x1, x2, x3⟩ := hRbr.cs
      clear hsay hm1 hm2 hm3
      generalize whyAt r now l k = x at *
      have hd3 : decide (k < G) = goB x := by
        by_cases h9 : k < G
        · rw [s1.2 h9]; simpa using h9
        · have : ¬ goB x = true := fun e => h9 (s1.1 e)
          simp [h9, this]
      have hd4 : ((k : Int) == (n : Int) - 1) = (x == 4) := by
        have h9 : ((k : Int) = (n : Int) - 1) ↔ x = 4 := by rw [s3, hlen]; omega
        by_cases h8 : x = 4
        · simp [h8, h9.2 h8]
        · have h7 := fun e => h8 (h9.1 e)
          have e1 : ((k : Int) == (n : Int) - 1) = false := by simpa using h7
          rw [e1]; simp [h8]
      have hd6 : x = 6 → ((k : Int) == (G : Int)) = false := fun e => by
        have h9 : ¬ k = G := fun e2 => s2 e2 e
        simp; omega
      have hd7 : goB x = true → ((k : Int) == (G : Int)) = false := fun e => by
        have h9 := s1.1 e
        simp; omega
      have hx : x = 0 ∨ x = 1 ∨ x = 2 ∨ x = 3 ∨ x = 4 ∨ x = 5 ∨ x = 6 := by omega
      clear s1 s2 s3 s4
      rcases hx with rfl | rfl | rfl | rfl | rfl | rfl | rfl
      · have e3 : decide (k < G) = false := hd3
        have e4 : ((k : Int) == (n : Int) - 1) = false := hd4
        clear hd3 hd4 hd6 hd7
        cases e5 : ((k : Int) == (G : Int))
        · go_wp2_with fail
          refine hwy.mono ?_
          rintro e w8 ⟨rfl, hg8⟩
          have hG8 := grown_trans hG hg8 (by simp)
          have hRb8 := hRbr.grown hg8
          have hnu := num_any w8 0
          clear hwy x0 x1 x2 x3 hg8
          go_wp2_with fail
          refine hnu.mono ?_
          rintro e w9 ⟨rfl, rfl⟩
          clear hnu
          go_wp2
          go_roundw
          case rel => exact ⟨k + 1, by go_num, by omega, hG8, hRb8⟩
          case measure => simp [intOf]; omega
        · go_wp2_with fail
          refine hwy.mono ?_
          rintro e w8 ⟨rfl, hg8⟩
          have hG8 := grown_trans hG hg8 (by simp)
          have hRb8 := hRbr.grown hg8
          have hnu := num_any w8 0
          clear hwy x0 x1 x2 x3 hg8
          go_wp2_with fail
          refine hnu.mono ?_
          rintro e w9 ⟨rfl, rfl⟩
          clear hnu
          go_wp2
          go_roundw
          case rel => exact ⟨k + 1, by go_num, by omega, hG8, hRb8⟩
          case measure => simp [intOf]; omega
      · have e3 : decide (k < G) = true := hd3
        have e4 : ((k : Int) == (n : Int) - 1) = false := hd4
        have e5 := hd7 rfl
        clear hd3 hd4 hd6 hd7
        go_wp2_with fail
        refine hwy.mono ?_
        rintro e w8 ⟨rfl, hg8⟩
        have hG8 := grown_trans hG hg8 (by simp)
        have hRb8 := hRbr.grown hg8
        have hnu := num_any w8 0
        clear hwy x0 x1 x2 x3 hg8
        go_wp2_with fail
        refine hnu.mono ?_
        rintro e w9 ⟨rfl, rfl⟩
        clear hnu
        go_wp2
        go_roundw
        case rel => exact ⟨k + 1, by go_num, by omega, hG8, hRb8⟩
        case measure => simp [intOf]; omega
      · have e3 : decide (k < G) = true := hd3
        have e4 : ((k : Int) == (n : Int) - 1) = false := hd4
        have e5 := hd7 rfl
        clear hd3 hd4 hd6 hd7
        go_wp2_with fail
        refine hwy.mono ?_
        rintro e w8 ⟨rfl, hg8⟩
        have hG8 := grown_trans hG hg8 (by simp)
        have hRb8 := hRbr.grown hg8
        have hnu := num_any w8 0
        clear hwy x0 x1 x2 x3 hg8
        go_wp2_with fail
        refine hnu.mono ?_
        rintro e w9 ⟨rfl, rfl⟩
        clear hnu
        go_wp2
        go_roundw
        case rel => exact ⟨k + 1, by go_num, by omega, hG8, hRb8⟩
        case measure => simp [intOf]; omega
      · have e3 : decide (k < G) = true := hd3
        have e4 : ((k : Int) == (n : Int) - 1) = false := hd4
        have e5 := hd7 rfl
        clear hd3 hd4 hd6 hd7
        go_wp2_with fail
        refine hwy.mono ?_
        rintro e w8 ⟨rfl, hg8⟩
        have hG8 := grown_trans hG hg8 (by simp)
        have hRb8 := hRbr.grown hg8
        have hnu := num_any w8 0
        clear hwy x0 x1 x2 x3 hg8
        go_wp2_with fail
        refine hnu.mono ?_
        rintro e w9 ⟨rfl, rfl⟩
        clear hnu
        go_wp2
        go_roundw
        case rel => exact ⟨k + 1, by go_num, by omega, hG8, hRb8⟩
        case measure => simp [intOf]; omega
      · have e3 : decide (k < G) = false := hd3
        have e4 : ((k : Int) == (n : Int) - 1) = true := hd4
        clear hd3 hd4 hd6 hd7
        cases e5 : ((k : Int) == (G : Int))
        · go_wp2_with fail
          refine hwy.mono ?_
          rintro e w8 ⟨rfl, hg8⟩
          have hG8 := grown_trans hG hg8 (by simp)
          have hRb8 := hRbr.grown hg8
          have hnu := num_any w8 0
          clear hwy x0 x1 x2 x3 hg8
          go_wp2_with fail
          refine hnu.mono ?_
          rintro e w9 ⟨rfl, rfl⟩
          clear hnu
          go_wp2
          go_roundw
          case rel => exact ⟨k + 1, by go_num, by omega, hG8, hRb8⟩
          case measure => simp [intOf]; omega
        · go_wp2_with fail
          refine hwy.mono ?_
          rintro e w8 ⟨rfl, hg8⟩
          have hG8 := grown_trans hG hg8 (by simp)
          have hRb8 := hRbr.grown hg8
          have hnu := num_any w8 0
          clear hwy x0 x1 x2 x3 hg8
          go_wp2_with fail
          refine hnu.mono ?_
          rintro e w9 ⟨rfl, rfl⟩
          clear hnu
          go_wp2
          go_roundw
          case rel => exact ⟨k + 1, by go_num, by omega, hG8, hRb8⟩
          case measure => simp [intOf]; omega
      · have e3 : decide (k < G) = false := hd3
        have e4 : ((k : Int) == (n : Int) - 1) = false := hd4
        clear hd3 hd4 hd6 hd7
        cases e5 : ((k : Int) == (G : Int))
        · go_wp2_with fail
          refine hwy.mono ?_
          rintro e w8 ⟨rfl, hg8⟩
          have hG8 := grown_trans hG hg8 (by simp)
          have hRb8 := hRbr.grown hg8
          have hnu := num_any w8 0
          clear hwy x0 x1 x2 x3 hg8
          go_wp2_with fail
          refine hnu.mono ?_
          rintro e w9 ⟨rfl, rfl⟩
          clear hnu
          go_wp2
          go_roundw
          case rel => exact ⟨k + 1, by go_num, by omega, hG8, hRb8⟩
          case measure => simp [intOf]; omega
        · go_wp2_with fail
          refine hwy.mono ?_
          rintro e w8 ⟨rfl, hg8⟩
          have hG8 := grown_trans hG hg8 (by simp)
          have hRb8 := hRbr.grown hg8
          have hnu := num_any w8 0
          clear hwy x0 x1 x2 x3 hg8
          go_wp2_with fail
          refine hnu.mono ?_
          rintro e w9 ⟨rfl, rfl⟩
          clear hnu
          go_wp2
          go_roundw
          case rel => exact ⟨k + 1, by go_num, by omega, hG8, hRb8⟩
          case measure => simp [intOf]; omega
      · have e3 : decide (k < G) = false := hd3
        have e4 : ((k : Int) == (n : Int) - 1) = false := hd4
        have e5 := hd6 rfl
        clear hd3 hd4 hd6 hd7
        go_wp2_with fail
        refine hwy.mono ?_
        rintro e w8 ⟨rfl, hg8⟩
        have hG8 := grown_trans hG hg8 (by simp)
        have hRb8 := hRbr.grown hg8
        have hnu := num_any w8 0
        clear hwy x0 x1 x2 x3 hg8
        go_wp2_with fail
        refine hnu.mono ?_
        rintro e w9 ⟨rfl, rfl⟩
        clear hnu
        go_wp2
        go_roundw
        case rel => exact ⟨k + 1, by go_num, by omega, hG8, hRb8⟩
        case measure => simp [intOf]; omega
    · have d2 : decide ((k : Int) < (n : Int)) = false := by simp; omega
      clear hsay
      obtain ⟨x0, x1, x2, x3⟩ := hRbr.cs
      have f0 : refE ⟨0, 0, 0, r.bel⟩ now l = 0 := refE_of he (by simp [Ru.ok, inB, e0, e1]) z2
      have f1 : refE ⟨r.by', 0, 0, r.bel⟩ now l = 0 := refE_of he (by simp [Ru.ok, inB, e0, e1, b0, b1]) z2
      have f2 : refE ⟨0, r.age, 0, r.bel⟩ now l = 0 := refE_of he (by simp [Ru.ok, inB, e0, e1, a0, a1]) z2
      have f3 : refE ⟨0, 0, r.pcs, r.bel⟩ now l = 0 := refE_of he (by simp [Ru.ok, inB, e0, e1, q0, q1]) z2
      have hg0 := goes_any ⟨0, 0, 0, r.bel⟩ now so n sc l (hP.grown hG)
      rw [f0, goE_of f0, goes_none] at hg0
      unfold Ru.val at hg0
      go_wp2_with fail
      refine hg0.mono ?_
      rintro e v1 ⟨rfl, hgv1⟩
      have hGv1 := grown_trans hG hgv1 (by simp)
      have hRv1 := hRbr.grown hgv1
      clear x0 x1 x2 x3 hg0 hgv1
      obtain ⟨x0, x1, x2, x3⟩ := hRv1.cs
      have hg1 := goes_any ⟨r.by', 0, 0, r.bel⟩ now so n sc l (hP.grown hGv1)
      rw [f1, goE_of f1] at hg1
      unfold Ru.val at hg1
      generalize goesR ⟨r.by', 0, 0, r.bel⟩ now l = G1 at *
      have u1 : decide ((G1 : Int) ≤ (G : Int)) = true := by simp; omega
      have u1' : decide (G1 ≤ G) = true := by simpa using hm1
      go_wp2_with fail
      refine hg1.mono ?_
      rintro e v2 ⟨rfl, hgv2⟩
      have hGv2 := grown_trans hGv1 hgv2 (by simp)
      have hRv2 := hRv1.grown hgv2
      clear x0 x1 x2 x3 hg1 hgv2
      obtain ⟨x0, x1, x2, x3⟩ := hRv2.cs
      have hg2 := goes_any ⟨0, r.age, 0, r.bel⟩ now so n sc l (hP.grown hGv2)
      rw [f2, goE_of f2] at hg2
      unfold Ru.val at hg2
      generalize goesR ⟨0, r.age, 0, r.bel⟩ now l = G2 at *
      have u2 : decide ((G2 : Int) ≤ (G : Int)) = true := by simp; omega
      have u2' : decide (G2 ≤ G) = true := by simpa using hm2
      go_wp2_with fail
      refine hg2.mono ?_
      rintro e v3 ⟨rfl, hgv3⟩
      have hGv3 := grown_trans hGv2 hgv3 (by simp)
      have hRv3 := hRv2.grown hgv3
      clear x0 x1 x2 x3 hg2 hgv3
      obtain ⟨x0, x1, x2, x3⟩ := hRv3.cs
      have hg3 := goes_any ⟨0, 0, r.pcs, r.bel⟩ now so n sc l (hP.grown hGv3)
      rw [f3, goE_of f3] at hg3
      unfold Ru.val at hg3
      generalize goesR ⟨0, 0, r.pcs, r.bel⟩ now l = G3 at *
      have u3 : decide ((G3 : Int) ≤ (G : Int)) = true := by simp; omega
      have u3' : decide (G3 ≤ G) = true := by simpa using hm3
      go_wp2_with fail
      refine hg3.mono ?_
      rintro e v4 ⟨rfl, hgv4⟩
      have hGv4 := grown_trans hGv3 hgv4 (by simp)
      have hRv4 := hRv3.grown hgv4
      clear x0 x1 x2 x3 hg3 hgv4 hm1 hm2 hm3
      have hnu := num_any v4 0
      go_wp2_with fail
      refine hnu.mono ?_
      rintro e w9 ⟨rfl, rfl⟩
      go_wp2_with fail
      refine hnu.mono ?_
      rintro e w9 ⟨rfl, rfl⟩
      go_wp2_with fail
      refine hnu.mono ?_
      rintro e w9 ⟨rfl, rfl⟩
      go_wp2_with fail
      refine hnu.mono ?_
      rintro e w9 ⟨rfl, rfl⟩
      clear hnu
      have hwk := works_any w9
      go_wp2_with fail
      refine hwk.mono ?_
      rintro e wz ⟨rfl, hg9⟩
      have hG9 := grown_trans hGv4 hg9 (by simp)
      go_wp2
      go_ret
      exact ⟨rfl, hG9⟩

theorem keepWhy_any {w : World} (r : Ru) (now later at' : Int) (so : Option Addr) (n sc : Nat) (l : List Pc) (hP : Ps w so n l) :
    Calls Try.prog 6 #[.agg #[.int .i64 r.by', .int .i64 r.age, .int .i64 r.pcs, .int .i64 r.bel, .int .i64 now, .int .i64 later, .int .i64 at', .slice so n sc]] w fun e w' => e = .returned (.bool true) ∧ w.grownBy w' none := by
  by_cases hn : 60 < n
  · exact keepWhy_not r now later at' so n sc l hP (Or.inl hn)
  · by_cases he : refE r now l = 0
    · exact keepWhy_yes r now later at' so n sc l hP (by omega) he
    · exact keepWhy_not r now later at' so n sc l hP (Or.inr he)
end Go.Proofs.Ytkljmjpapkopbaa
