/-
  RingParts: the walk.
-/
import Derived.Test.YtabnpgmkccmneaaP0
import Derived.Test.YtabnpgmkccmneaaMem2
namespace Go.Proofs.Ytabnpgmkccmneaa
open Go.RowKit Go.Shelf
set_option linter.unusedVariables false

theorem getD_of {a : Array Value} {s : Nat} {v : Value} (h : a[s]? = some v) : a.getD s undef = v := by simp [h]

set_option maxRecDepth 100000 in
set_option maxHeartbeats 4000000 in
theorem ringParts_bad (w : World) (xo : Option Addr) (k cp : Nat) (ahead n m : Int) (hbad : 200 < k ∨ ahead < 0 ∨ 50 < ahead ∨ n < 0 ∨ m < 0 ∨ (k : Int) < n ∨ (k : Int) - n < m) :
    Calls Try.prog 5 #[.agg #[.slice xo k cp, .int .i64 ahead, .int .i64 n, .int .i64 m]] w fun e w' => e = .returned (.bool true) ∧ w.grownBy w' none := by
  refine (callsIn_wide (n := 5)).1 ?_
  refine callsIn_of_wp_marks Try.func5 rfl trivial ?_
  refine wpIn_wide.2 ?_
  simp only [Try.ntmps5, List.size_toArray, List.length_cons, List.length_nil, Nat.reduceAdd, Nat.reduceSub, Array.replicate_succ, Array.replicate_zero, List.push_toArray, List.append_toArray, List.nil_append, List.cons_append]
  go_wp2_with fail
  refine wp_region_any (by kernel_rfl) ?_
  change wpAny _ _ _ _ _ _ _ (World.drew _)
  obtain ⟨W0, hW0⟩ : ∃ W0, (World.drew ((w.alloc (.cells #[.slice xo k cp, .int .i64 ahead, .int .i64 n, .int .i64 m] 53)).alloc (.cells #[.bool false] 4))) = W0 := ⟨_, rfl⟩
  have hB0 : w.grownBy W0 none := by
    rw [← hW0]
    exact below_grownBy ((((Below.refl _ w).alloc (Nat.le_refl _) _).alloc (by simp) _)).drew
  have hp0 : W0.cell? ⟨w.heap.size, 0, none⟩ = some (.slice xo k cp) := by rw [← hW0]; simp
  have hp1 : W0.cell? ⟨w.heap.size, 1, none⟩ = some (.int .i64 ahead) := by rw [← hW0]; simp
  have hp2 : W0.cell? ⟨w.heap.size, 2, none⟩ = some (.int .i64 n) := by rw [← hW0]; simp
  have hp3 : W0.cell? ⟨w.heap.size, 3, none⟩ = some (.int .i64 m) := by rw [← hW0]; simp
  have hres0 : Boxed W0 (w.heap.size + 1) 4 (.bool false) := by
    rw [← hW0]
    have := Boxed.new (w.alloc (.cells #[.slice xo k cp, .int .i64 ahead, .int .i64 n, .int .i64 m] 53)) 4 (.bool false)
    rwa [World.size_alloc] at this
  rw [hW0]
  have hs0 : w.heap.size + 2 ≤ W0.heap.size := by rw [← hW0]; simp
  clear hW0
  refine reg1 (by kernel_rfl) hp0 hp1 hp2 hp3 rfl rfl rfl ?_
  rintro ⟨tm, df⟩ w1 b3 b5 b6 hsz hdf hsame t3 t4 t5 t6 hb3 hb5 hb6 hne hn3 hn5 hn6 hg1
  have e := frame_but _ hsz hsame
  have g3 : tm.getD 3 undef = _ := getD_of t3
  have g4 : tm.getD 4 undef = _ := getD_of t4
  have g5 : tm.getD 5 undef = _ := getD_of t5
  have g6 : tm.getD 6 undef = _ := getD_of t6
  obtain ⟨v28, g28⟩ : ∃ v, tm.getD 28 undef = v := ⟨_, rfl⟩
  obtain ⟨v29, g29⟩ : ∃ v, tm.getD 29 undef = v := ⟨_, rfl⟩
  obtain ⟨v30, g30⟩ : ∃ v, tm.getD 30 undef = v := ⟨_, rfl⟩
  obtain ⟨v31, g31⟩ : ∃ v, tm.getD 31 undef = v := ⟨_, rfl⟩
  obtain ⟨v32, g32⟩ : ∃ v, tm.getD 32 undef = v := ⟨_, rfl⟩
  obtain ⟨v33, g33⟩ : ∃ v, tm.getD 33 undef = v := ⟨_, rfl⟩
  obtain ⟨v34, g34⟩ : ∃ v, tm.getD 34 undef = v := ⟨_, rfl⟩
  obtain ⟨v35, g35⟩ : ∃ v, tm.getD 35 undef = v := ⟨_, rfl⟩
  simp only [List.foldl_cons, List.foldl_nil, g3, g4, g5, g6, g28, g29, g30, g31, g32, g33, g34, g35, List.setIfInBounds_toArray, List.set_cons_succ, List.set_cons_zero] at e
  obtain rfl : df = [] := hdf
  clear hsz hsame t3 t4 t5 t6 g3 g4 g5 g6 g28 g29 g30 g31 g32 g33 g34 g35
  subst e
  have hG1 := grown_trans hB0 hg1 (by simp)
  have hres1 := box_grown hres0 hg1
  have hs1 := hg1.size
  clear hp0 hp1 hp2 hp3 hres0 hB0 hg1
  have k3 := hb3.cell
  have k5 := hb5.cell
  have k6 := hb6.cell
  clear hb3 hb5 hb6
  by_cases c0 : 200 < k
  · have d0 : decide (200 < k) = true := by simp; omega
    go_wp2_with (go_at_call 6; refine (works_any _).mono ?_; rintro e w9 ⟨rfl, hg9⟩; have hres2 := box_grown hres1 hg9; have q1 := hres2.cell; have q2 := hres2.frozen)
    exact ⟨_, results_bool (fn := Try.f5) rfl _ _ _ _ rfl (hres2.set (.bool true)).cell, rfl, set_grown (grown_trans hG1 hg9 (by simp)) (b := w.heap.size + 1) (by omega) (.bool true)⟩
  have d0 : decide (200 < k) = false := by simp; omega
  by_cases c1 : ahead < 0
  · have d1 : decide (ahead < 0) = true := by simp; omega
    go_wp2_with (go_at_call 6; refine (works_any _).mono ?_; rintro e w9 ⟨rfl, hg9⟩; have hres2 := box_grown hres1 hg9; have q1 := hres2.cell; have q2 := hres2.frozen)
    exact ⟨_, results_bool (fn := Try.f5) rfl _ _ _ _ rfl (hres2.set (.bool true)).cell, rfl, set_grown (grown_trans hG1 hg9 (by simp)) (b := w.heap.size + 1) (by omega) (.bool true)⟩
  have d1 : decide (ahead < 0) = false := by simp; omega
  by_cases c2 : 50 < ahead
  · have d2 : decide (ahead > 50) = true := by simp; omega
    go_wp2_with (go_at_call 6; refine (works_any _).mono ?_; rintro e w9 ⟨rfl, hg9⟩; have hres2 := box_grown hres1 hg9; have q1 := hres2.cell; have q2 := hres2.frozen)
    exact ⟨_, results_bool (fn := Try.f5) rfl _ _ _ _ rfl (hres2.set (.bool true)).cell, rfl, set_grown (grown_trans hG1 hg9 (by simp)) (b := w.heap.size + 1) (by omega) (.bool true)⟩
  have d2 : decide (ahead > 50) = false := by simp; omega
  by_cases c3 : n < 0
  · have d3 : decide (n < 0) = true := by simp; omega
    go_wp2_with (go_at_call 6; refine (works_any _).mono ?_; rintro e w9 ⟨rfl, hg9⟩; have hres2 := box_grown hres1 hg9; have q1 := hres2.cell; have q2 := hres2.frozen)
    exact ⟨_, results_bool (fn := Try.f5) rfl _ _ _ _ rfl (hres2.set (.bool true)).cell, rfl, set_grown (grown_trans hG1 hg9 (by simp)) (b := w.heap.size + 1) (by omega) (.bool true)⟩
  have d3 : decide (n < 0) = false := by simp; omega
  by_cases c4 : m < 0
  · have d4 : decide (m < 0) = true := by simp; omega
    go_wp2_with (go_at_call 6; refine (works_any _).mono ?_; rintro e w9 ⟨rfl, hg9⟩; have hres2 := box_grown hres1 hg9; have q1 := hres2.cell; have q2 := hres2.frozen)
    exact ⟨_, results_bool (fn := Try.f5) rfl _ _ _ _ rfl (hres2.set (.bool true)).cell, rfl, set_grown (grown_trans hG1 hg9 (by simp)) (b := w.heap.size + 1) (by omega) (.bool true)⟩
  have d4 : decide (m < 0) = false := by simp; omega
  by_cases c5 : (k : Int) < n
  · have d5 : decide (n > (k : Int)) = true := by simp; omega
    go_wp2_with (go_at_call 6; refine (works_any _).mono ?_; rintro e w9 ⟨rfl, hg9⟩; have hres2 := box_grown hres1 hg9; have q1 := hres2.cell; have q2 := hres2.frozen)
    exact ⟨_, results_bool (fn := Try.f5) rfl _ _ _ _ rfl (hres2.set (.bool true)).cell, rfl, set_grown (grown_trans hG1 hg9 (by simp)) (b := w.heap.size + 1) (by omega) (.bool true)⟩
  have d5 : decide (n > (k : Int)) = false := by simp; omega
  have d6 : decide (m > (k : Int) - n) = true := by simp; omega
  go_wp2_with (go_at_call 6; refine (works_any _).mono ?_; rintro e w9 ⟨rfl, hg9⟩; have hres2 := box_grown hres1 hg9; have q1 := hres2.cell; have q2 := hres2.frozen)
  exact ⟨_, results_bool (fn := Try.f5) rfl _ _ _ _ rfl (hres2.set (.bool true)).cell, rfl, set_grown (grown_trans hG1 hg9 (by simp)) (b := w.heap.size + 1) (by omega) (.bool true)⟩

end Go.Proofs.Ytabnpgmkccmneaa
