/-
  Runs that may not be are refused.
-/
import Derived.Test.YtaijgfblceakaaaB3
namespace Go.Proofs.Ytaijgfblceakaaa
open Go.RowKit
set_option linter.unusedVariables false

/-- Why a run may not be. -/
def Bad (n R L : Int) : Prop := R < 0 ∨ (0 ≤ R ∧ 64 < R) ∨ (0 ≤ R ∧ R ≤ 64 ∧ 64 < n + R) ∨ (0 ≤ R ∧ R ≤ 64 ∧ n + R ≤ 64 ∧ L < 0) ∨ (0 ≤ R ∧ R ≤ 64 ∧ n + R ≤ 64 ∧ 0 ≤ L ∧ 65536 < L) ∨ (0 ≤ R ∧ R ≤ 64 ∧ n + R ≤ 64 ∧ 0 ≤ L ∧ L ≤ 65536 ∧ 65536 < R * L)

set_option maxRecDepth 100000 in
set_option maxHeartbeats 1000000 in
theorem may_no (w : World) (ao : Option Addr) (n c : Nat) (R L : Int) (hn : n ≤ 100) (h : Bad n R L) :
    Calls Try.prog 31 #[.agg #[.slice ao n c, .int .i64 R, .int .i64 L]] w fun e w' => e = .returned (.bool false) ∧ w.grownBy w' none := by
  have hg := fun X => alloc_grown w X
  rcases h with h1 | ⟨h1, h2⟩ | ⟨h1, h2, h3⟩ | ⟨h1, h2, h3, h4⟩ | ⟨h1, h2, h3, h4, h5⟩ | ⟨h1, h2, h3, h4, h5, h6⟩
  · go_enter Try.func31, Try.ntmps31
    go_wp2
    go_ret
    exact ⟨rfl, hg _⟩
  · have f1 : ¬ R < 0 := by omega
    go_enter Try.func31, Try.ntmps31
    go_wp2
    go_ret
    exact ⟨rfl, hg _⟩
  · have f1 : ¬ R < 0 := by omega
    have f2 : ¬ 64 < R := by omega
    go_enter Try.func31, Try.ntmps31
    go_wp2
    go_ret
    exact ⟨rfl, hg _⟩
  · have f1 : ¬ R < 0 := by omega
    have f2 : ¬ 64 < R := by omega
    have f3 : ¬ 64 < (n : Int) + R := by omega
    go_enter Try.func31, Try.ntmps31
    go_wp2
    go_ret
    exact ⟨rfl, hg _⟩
  · have f1 : ¬ R < 0 := by omega
    have f2 : ¬ 64 < R := by omega
    have f3 : ¬ 64 < (n : Int) + R := by omega
    have f4 : ¬ L < 0 := by omega
    go_enter Try.func31, Try.ntmps31
    go_wp2
    go_ret
    exact ⟨rfl, hg _⟩
  · have f1 : ¬ R < 0 := by omega
    have f2 : ¬ 64 < R := by omega
    have f3 : ¬ 64 < (n : Int) + R := by omega
    have f4 : ¬ L < 0 := by omega
    have f5 : ¬ 65536 < L := by omega
    have hm : R * L ≤ 64 * 65536 := Int.mul_le_mul h2 h5 h4 (by decide)
    obtain ⟨M, hM⟩ : ∃ M, R * L = M := ⟨_, rfl⟩
    have hw : IntKind.i64.wrap (R * L) = M := by rw [IntKind.wrap_i64, hM]; rw [hM] at hm h6; omega
    have f6 : decide (M ≤ 65536) = false := by rw [hM] at h6; simp; omega
    go_enter Try.func31, Try.ntmps31
    go_wp2
    go_ret
    exact ⟨rfl, hg _⟩

set_option maxRecDepth 100000 in
set_option maxHeartbeats 1000000 in
theorem run_no (w : World) (x : Int) (ao : Option Addr) (n c : Nat) (R L : Int) (hn : n ≤ 100) (h : Bad n R L) :
    Calls Try.prog 19 #[.int .i64 x, .agg #[.slice ao n c, .int .i64 R, .int .i64 L]] w fun e w' => e = .returned (.tuple #[.agg #[.slice none 0 0, .slice none 0 0, .int .i64 0], .int .i64 2]) ∧ w.grownBy w' none := by
  have hg := alloc_grown w (.cells #[.slice ao n c, .int .i64 R, .int .i64 L] 56)
  go_enter Try.func19, Try.ntmps19
  go_wp2_with fail
  refine (may_no _ ao n c R L hn h).mono ?_
  rintro e w1 ⟨rfl, hg1⟩
  have hg2 := grown_trans hg (alloc_grown _ (.cells #[.slice none 0 0, .slice none 0 0, .int .i64 0] 59)) (by simp)
  have hG := grown_trans hg2 hg1 (by simp)
  obtain ⟨z, hz⟩ : ∃ z, w.heap.size + 1 = z := ⟨_, rfl⟩
  have hb : w1.heap[z]? = some (.cells #[.slice none 0 0, .slice none 0 0, .int .i64 0] 59) := by
    rw [← hz]
    rw [hg1.block _ (by simp) (by simp)]
    have h9 := heap_alloc_new (w.alloc (.cells #[.slice ao n c, .int .i64 R, .int .i64 L] 56)) (.cells #[.slice none 0 0, .slice none 0 0, .int .i64 0] 59)
    simpa using h9
  have c0 : w1.cell? ⟨z, 0, none⟩ = some (.slice none 0 0) := cell_of hb rfl
  have c1 : w1.cell? ⟨z, 1, none⟩ = some (.slice none 0 0) := cell_of hb rfl
  have c2 : w1.cell? ⟨z, 2, none⟩ = some (.int .i64 0) := cell_of hb rfl
  have z0 : w1.frozen? ⟨z, 0, none⟩ = false := by simp [World.frozen?, hb]
  have z1 : w1.frozen? ⟨z, 1, none⟩ = false := by simp [World.frozen?, hb]
  have z2 : w1.frozen? ⟨z, 2, none⟩ = false := by simp [World.frozen?, hb]
  rw [hz]
  clear hg hg1 hg2
  go_wp2
  refine bodyPost_ret (v := .tuple #[.agg #[.slice none 0 0, .slice none 0 0, .int .i64 0], .int .i64 2]) (by simp [results, Try.results19, go_sem, c0, c1, c2]) rfl ⟨rfl, ?_⟩
  exact ((((Chg.of_grown hG (fun k => k = z)).trans (setCell_chg _ _ _ _)).trans (setCell_chg _ _ _ _)).trans (setCell_chg _ _ _ _)).grown (fun k hk e => by have h5 : k = z := e; omega)

set_option maxRecDepth 100000 in
set_option maxHeartbeats 1000000 in
theorem boards_no (w : World) (ao : Option Addr) (n c : Nat) (R L : Int) (hn : n ≤ 100) (h : Bad n R L) :
    Calls Try.prog 21 #[.agg #[.slice ao n c, .int .i64 R, .int .i64 L]] w fun e w' => e = .returned (.tuple #[.slice none 0 0, .slice none 0 0, .int .i64 2]) ∧ w.grownBy w' none := by
  have hg := alloc_grown w (.cells #[.slice ao n c, .int .i64 R, .int .i64 L] 56)
  go_enter Try.func21, Try.ntmps21
  go_wp2_with fail
  refine (may_no _ ao n c R L hn h).mono ?_
  rintro e w1 ⟨rfl, hg1⟩
  have hG := grown_trans hg hg1 (by simp)
  go_wp2
  refine bodyPost_ret (v := .tuple #[.slice none 0 0, .slice none 0 0, .int .i64 2]) (by simp [results, Try.results21, go_sem]) rfl ⟨rfl, hG⟩

/-- What MarksArg reads of the numbers. -/
theorem bad_of {n R L : Int} (hn : 0 ≤ n) (h : R < 0 ∨ L < 0 ∨ 64 - n < R ∨ (0 < R ∧ 65536 / R < L) ∨ 65536 < L) : Bad n R L := by
  unfold Bad
  by_cases h1 : R < 0
  · exact Or.inl h1
  by_cases h2 : 64 < R
  · exact Or.inr (Or.inl ⟨by omega, h2⟩)
  by_cases h3 : 64 < n + R
  · exact Or.inr (Or.inr (Or.inl ⟨by omega, by omega, h3⟩))
  by_cases h4 : L < 0
  · exact Or.inr (Or.inr (Or.inr (Or.inl ⟨by omega, by omega, by omega, h4⟩)))
  by_cases h5 : 65536 < L
  · exact Or.inr (Or.inr (Or.inr (Or.inr (Or.inl ⟨by omega, by omega, by omega, by omega, h5⟩))))
  refine Or.inr (Or.inr (Or.inr (Or.inr (Or.inr ⟨by omega, by omega, by omega, by omega, by omega, ?_⟩))))
  rcases h with h | h | h | ⟨h, h9⟩ | h
  · omega
  · omega
  · omega
  · have := (Int.ediv_lt_iff_lt_mul h).1 h9
    rw [Int.mul_comm]; exact this
  · omega
end Go.Proofs.Ytaijgfblceakaaa
