/-
  A script that the call makes itself: its row.
-/
import Derived.Test.YthkbakaodbceiaaI8
namespace Go.Proofs.Ythkbakaodbceiaa
open Go.RowKit Go.Maps Go.WideMaps
set_option linter.unusedVariables false

/-- The cells of one call. -/
def sxc (x : Sx) : List Value := [.int .i64 x.kd, .int .i64 x.pl, .int .i64 x.nn, .string x.nm, .slice x.bo x.bn x.bc, .slice x.fo x.fn x.fc, .slice x.po x.pn x.pc]
def sxs (l : List Sx) : List Value := l.flatMap sxc
theorem sxs_len (l : List Sx) : (sxs l).length = l.length * 7 := by
  induction l with
  | nil => rfl
  | cons x l ih => simp [sxs, sxc] at ih ⊢; omega
theorem sxs_snoc (l : List Sx) (x : Sx) : sxs (l ++ [x]) = sxs l ++ sxc x := by simp [sxs]
theorem sxs_get : ∀ (l : List Sx) (j k : Nat), k < 7 → (sxs l)[j * 7 + k]? = l[j]?.bind (fun x => (sxc x)[k]?)
  | [], j, k, _ => by simp [sxs]
  | x :: l, 0, k, hk => by
    simp only [sxs, List.flatMap_cons, Nat.zero_mul, Nat.zero_add, List.getElem?_cons_zero, Option.bind_some]
    rw [List.getElem?_append_left (by simp [sxc]; omega)]
  | x :: l, j + 1, k, hk => by
    have ih := sxs_get l j k hk
    simp only [sxs, List.flatMap_cons, List.getElem?_cons_succ] at ih ⊢
    rw [List.getElem?_append_right (by simp [sxc]; omega), ← ih]
    congr 1
    simp [sxc]
    omega
theorem sxc_one (x : Sx) : ∀ u ∈ sxc x, u.oneCell' = true := by
  intro u hu
  simp [sxc] at hu
  rcases hu with rfl | rfl | rfl | rfl | rfl | rfl | rfl <;> rfl

theorem info41 : (Try.prog.info? 41).map (fun i => (i.zero, i.size, i.bytes)) = some (some (.agg #[.int .i64 0, .int .i64 0, .int .i64 0, .string ⟨#[]⟩, .slice none 0 0, .slice none 0 0, .slice none 0 0]), 7, 112) := by kernel_rfl
theorem info41_parts : ∃ i, Try.prog.info? 41 = some i ∧ i.zero = some (.agg #[.int .i64 0, .int .i64 0, .int .i64 0, .string ⟨#[]⟩, .slice none 0 0, .slice none 0 0, .slice none 0 0]) ∧ i.size = 7 ∧ i.bytes = 112 := by
  have h := info41
  cases hi : Try.prog.info? 41 with
  | none => rw [hi] at h; cases h
  | some i => rw [hi] at h; simp at h; exact ⟨i, rfl, h.1, h.2.1, h.2.2⟩

theorem Sl.of_row {w : World} {base n : Nat} {l : List Sx} {v : Value} (hl : l.length = n) (h : w.ownsRow base 41 7 v n (sxs l)) (hb : ∀ x ∈ l, ∃ t, Bs w x.bo x.bn x.bc t) : ∃ o c, v = .slice o n c ∧ Sl w o n c l := by
  rcases h.2 with ⟨rfl, rfl⟩ | ⟨g, cap, cur, rfl, hbg, hg, h1, h2, h3, h4⟩
  · exact ⟨none, 0, rfl, ⟨hl, Nat.le_refl _, Nat.zero_le _, (fun a e => by cases e), (fun _ => rfl), (fun b i e => by cases e), hb⟩⟩
  · refine ⟨_, cap, rfl, ⟨hl, h1, h2, fun a e => by cases e; exact ⟨_, _, rfl⟩, (fun e => by cases e), fun b i e j x hx => ?_, hb⟩⟩
    cases e
    have hj : j < l.length := (List.getElem?_eq_some_iff.1 hx).1
    have key : ∀ k, k < 7 → w.cell? ⟨g, 0 + j * 7 + k, none⟩ = (sxc x)[k]? := fun k hk => by
      have g0 := sxs_get l j k hk
      rw [hx, ← h4, List.getElem?_take, if_pos (by omega)] at g0
      rw [cell_at hg]
      simpa using g0
    exact ⟨key 0 (by omega), key 1 (by omega), key 2 (by omega), key 3 (by omega), key 4 (by omega), key 5 (by omega), key 6 (by omega)⟩
end Go.Proofs.Ythkbakaodbceiaa
