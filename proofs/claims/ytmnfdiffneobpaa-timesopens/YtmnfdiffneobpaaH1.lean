/-
  TimesHold: the walk.
-/
import Derived.Test.YtmnfdiffneobpaaM1
import Derived.Test.YtmnfdiffneobpaaK2
import Derived.Test.YtmnfdiffneobpaaD2
namespace Go.Proofs.Ytmnfdiffneobpaa
open Go.RowKit Go.Shelf
set_option linter.unusedVariables false

/-- A number of any sign, brought into a row's places. -/
theorem into (a : Int) (n : Nat) (hn : 0 < n) : ∃ t : Int, a.tmod (n : Int) = t ∧ -(n : Int) < t ∧ t < (n : Int) := by
  refine ⟨_, rfl, ?_⟩
  have h1 := Int.lt_tmod_of_pos a (show (0 : Int) < n by omega)
  have h2 := Int.tmod_lt_of_pos a (show (0 : Int) < n by omega)
  omega
theorem into2 (v n : Nat) (hn : 0 < n) : ∃ k : Nat, (v : Int).tmod (n : Int) = (k : Int) ∧ k < n :=
  ⟨v % n, by rw [Int.tmod_eq_emod_of_nonneg (by omega)]; simp, Nat.mod_lt _ hn⟩

set_option maxRecDepth 100000 in
set_option maxHeartbeats 4000000 in
theorem timesHold_not (w : World) (bs at' tm : Int) (so : Option Addr) (n sc : Nat) (rl : List Rc) (hR : Rs w so n rl) (h : 300 < n ∨ rl.all Rc.may = false ∨ bs < 0 ∨ 1000000 < bs) :
    Calls Try.prog 5 #[.agg #[.int .i64 bs, .slice so n sc, .int .i64 at', .int .i64 tm]] w fun e w' => e = .returned (.bool true) ∧ w.grownBy w' none := by
  have ga := alloc_grown w (.cells #[.int .i64 bs, .slice so n sc, .int .i64 at', .int .i64 tm] 51)
  have k9 := World.alloc_heap_new w (.cells #[.int .i64 bs, .slice so n sc, .int .i64 at', .int .i64 tm] 51)
  have gd := grown_trans ga (grown_drew (w.alloc (.cells #[.int .i64 bs, .slice so n sc, .int .i64 at', .int .i64 tm] 51)) none) (by simp)
  have c0 := (grown_drew (w.alloc (.cells #[.int .i64 bs, .slice so n sc, .int .i64 at', .int .i64 tm] 51)) none).cell (cell_of (i := 0) (v := .int .i64 bs) k9 rfl) (by simp)
  have c1 := (grown_drew (w.alloc (.cells #[.int .i64 bs, .slice so n sc, .int .i64 at', .int .i64 tm] 51)) none).cell (cell_of (i := 1) (v := .slice so n sc) k9 rfl) (by simp)
  have c2 := (grown_drew (w.alloc (.cells #[.int .i64 bs, .slice so n sc, .int .i64 at', .int .i64 tm] 51)) none).cell (cell_of (i := 2) (v := .int .i64 at') k9 rfl) (by simp)
  have c3 := (grown_drew (w.alloc (.cells #[.int .i64 bs, .slice so n sc, .int .i64 at', .int .i64 tm] 51)) none).cell (cell_of (i := 3) (v := .int .i64 tm) k9 rfl) (by simp)
  go_enter Try.func5, Try.ntmps5
  go_wp2_with fail
  go_region_held3 (fun w' => w'.cell? ⟨w.heap.size, 0, none⟩ = some (.int .i64 bs) ∧ w'.cell? ⟨w.heap.size, 1, none⟩ = some (.slice so n sc) ∧ w'.cell? ⟨w.heap.size, 2, none⟩ = some (.int .i64 at') ∧ w'.cell? ⟨w.heap.size, 3, none⟩ = some (.int .i64 tm)) (first | exact ⟨c0, c1, c2, c3⟩ | go_keep) (fail)
  clear ga k9 c0 c1 c2 c3
  generalize (w.alloc (.cells #[.int .i64 bs, .slice so n sc, .int .i64 at', .int .i64 tm] 51)).drew = wd at *
  have hR1 := hR.grown gd
  by_cases hn : 300 < n
  · have d1 : decide ((300 : Int) < (n : Int)) = true := by simp; omega
    clear h
    have hwk := works_any wd
    go_wp2_with fail
    refine hwk.mono ?_
    rintro e w2 ⟨rfl, hg2⟩
    have hG := grown_trans gd hg2 (by simp)
    go_wp2
    go_ret
    exact ⟨rfl, hG⟩
  · have d1 : decide ((300 : Int) < (n : Int)) = false := by simp; omega
    have hma := mayAll_any so n sc rl hR1 (by omega)
    by_cases hm : rl.all Rc.may = true
    · rw [hm] at hma
      by_cases hb : bs < 0
      · have d2 : decide (bs < 0) = true := by simpa using hb
        clear h hm
        go_wp2_with fail
        refine hma.mono ?_
        rintro e w1 ⟨rfl, hg1⟩
        have hwk := works_any w1
        go_wp2_with fail
        refine hwk.mono ?_
        rintro e w2 ⟨rfl, hg2⟩
        have hG := grown_trans (grown_trans gd hg1 (by simp)) hg2 (by simp)
        go_wp2
        go_ret
        exact ⟨rfl, hG⟩
      · have d2 : decide (bs < 0) = false := by simpa using hb
        have d3 : decide (1000000 < bs) = true := by
          rcases h with h | h | h | h
          · omega
          · rw [hm] at h; cases h
          · omega
          · simpa using h
        clear h hm
        go_wp2_with fail
        refine hma.mono ?_
        rintro e w1 ⟨rfl, hg1⟩
        have hwk := works_any w1
        go_wp2_with fail
        refine hwk.mono ?_
        rintro e w2 ⟨rfl, hg2⟩
        have hG := grown_trans (grown_trans gd hg1 (by simp)) hg2 (by simp)
        go_wp2
        go_ret
        exact ⟨rfl, hG⟩
    · have hm' : rl.all Rc.may = false := by simpa using hm
      rw [hm'] at hma
      clear h hm hm'
      go_wp2_with fail
      refine hma.mono ?_
      rintro e w1 ⟨rfl, hg1⟩
      have hwk := works_any w1
      go_wp2_with fail
      refine hwk.mono ?_
      rintro e w2 ⟨rfl, hg2⟩
      have hG := grown_trans (grown_trans gd hg1 (by simp)) hg2 (by simp)
      go_wp2
      go_ret
      exact ⟨rfl, hG⟩
end Go.Proofs.Ytmnfdiffneobpaa
