/-
  A fair choice in memory: New, there, copied, Passed, Copy, pass.
-/
import Derived.Test.YtfhbnkfpbjloeaaA1
namespace Go.Proofs.Ytfhbnkfpbjloeaa
open Go.RowKit
set_option linter.unusedVariables false

/-- A row of n counts. -/
def fl (n : Nat) (f : Nat → Nat) : List Value := (List.range n).map fun i => .int .i64 (f i : Int)
theorem fl_len (n : Nat) (f : Nat → Nat) : (fl n f).length = n := by simp [fl]
theorem fl_at {n : Nat} (f : Nat → Nat) {i : Nat} (h : i < n) : (fl n f)[i]? = some (.int .i64 (f i : Int)) := by
  simp [fl, h]
theorem fl_one (n : Nat) (f : Nat → Nat) : ∀ u ∈ fl n f, u.oneCell' = true := by
  intro u hu
  obtain ⟨i, _, rfl⟩ := List.mem_map.1 hu
  rfl
theorem fl_ext {n : Nat} {f g : Nat → Nat} (h : ∀ i, i < n → f i = g i) : fl n f = fl n g := by
  unfold fl
  apply List.map_congr_left
  intro i hi
  rw [h i (List.mem_range.1 hi)]
theorem fl_set {n : Nat} (f g : Nat → Nat) {i : Nat} {v : Int} (hv : v = (g i : Int)) (h : ∀ j, j < n → j ≠ i → f j = g j) : (fl n f).set i (.int .i64 v) = fl n g := by
  subst hv
  apply List.ext_getElem?
  intro j
  rw [List.getElem?_set]
  by_cases hj : i = j
  · subst hj
    rw [if_pos rfl]
    by_cases hn : i < n
    · rw [if_pos (by rw [fl_len]; exact hn), fl_at _ hn]
    · rw [if_neg (by rw [fl_len]; exact hn), List.getElem?_eq_none (by rw [fl_len]; omega)]
  · rw [if_neg hj]
    by_cases hn : j < n
    · rw [fl_at _ hn, fl_at _ hn, h j hn (fun e => hj e.symm)]
    · rw [List.getElem?_eq_none (by rw [fl_len]; omega), List.getElem?_eq_none (by rw [fl_len]; omega)]
theorem fl_zero (n : Nat) : List.replicate n (Value.int .i64 0) = fl n (fun _ => 0) := by
  apply List.ext_getElem?
  intro j
  by_cases hn : j < n
  · rw [fl_at _ hn]; simp [hn]
  · rw [List.getElem?_eq_none (by simp; omega), List.getElem?_eq_none (by rw [fl_len]; omega)]
theorem info3o : (Try.prog.info? 3).map (fun i => (i.zero, i.size, i.bytes)) = some (some (.int .i64 0), 1, 8) := by kernel_rfl
theorem size3o : (Try.prog.info? 3).map (·.size) = some 1 := by kernel_rfl

/-- A row of counts shows them. -/
theorem Ro.fl {w : World} {g n : Nat} {f : Nat → Nat} (h : Ro w g 3 (fl n f)) (hn : n ≤ 5000) : Vs w (some ⟨g, 0, none⟩) n n (fl n f) := by
  have := h.shows (fl_one n f) (by rw [fl_len]; unfold maxLen; omega)
  rwa [fl_len] at this
/-- A fair choice among n tasks, with K k and the counts f; the row of its counts is g. -/
structure Fr (w : World) (b g n : Nat) (k : Int) (f : Nat → Nat) : Prop where
  cell : w.heap[b]? = some (.cells #[.slice (some ⟨g, 0, none⟩) n n, .int .i64 k] 57)
  row : Ro w g 3 (fl n f)
  pos : 0 < n
  top : n ≤ 5000
theorem Fr.chg {w w' : World} {b g n : Nat} {k : Int} {f : Nat → Nat} {S : Nat → Prop} (h : Fr w b g n k f) (hc : Chg w w' S) (h1 : ¬ S b) (h2 : ¬ S g) : Fr w' b g n k f :=
  ⟨by rw [hc.block b (lt_of_heap h.cell) h1]; exact h.cell, h.row.chg hc h2, h.pos, h.top⟩
theorem Fr.grown {w w' : World} {b g n : Nat} {k : Int} {f : Nat → Nat} (h : Fr w b g n k f) (hg : w.grownBy w' none) : Fr w' b g n k f := h.chg (Chg.of_grown hg (fun _ => False)) (fun e => e) (fun e => e)
theorem Fr.c0 {w : World} {b g n : Nat} {k : Int} {f : Nat → Nat} (h : Fr w b g n k f) : w.cell? ⟨b, 0, none⟩ = some (.slice (some ⟨g, 0, none⟩) n n) := cell_of h.cell rfl
theorem Fr.c1 {w : World} {b g n : Nat} {k : Int} {f : Nat → Nat} (h : Fr w b g n k f) : w.cell? ⟨b, 1, none⟩ = some (.int .i64 k) := cell_of h.cell rfl
theorem Fr.ne {w : World} {b g n : Nat} {k : Int} {f : Nat → Nat} (h : Fr w b g n k f) : b ≠ g := by
  rintro rfl
  have h1 := h.cell
  have h2 : w.heap[b]? = _ := h.row
  rw [h1] at h2
  simp at h2

set_option maxRecDepth 100000 in
theorem there_yes {w : World} {b g n : Nat} {k : Int} {f : Nat → Nat} (h : Fr w b g n k f) : Calls Try.prog 26 #[.pointer (some ⟨b, 0, none⟩)] w fun e w' => e = .returned (.bool true) ∧ w' = w := by
  have c0 := h.c0
  have hp := h.pos
  have d1 : decide ((0 : Int) < (n : Int)) = true := by simp; omega
  have d2 : decide (0 < n) = true := by simp; omega
  clear h
  go_enter Try.func26, Try.ntmps26
  go_wp2
  go_ret
  exact ⟨by first | rfl | simp [hp], rfl⟩
set_option maxRecDepth 100000 in
theorem there_nil (w : World) : Calls Try.prog 26 #[.pointer none] w fun e w' => e = .returned (.bool false) ∧ w' = w := by
  go_enter Try.func26, Try.ntmps26
  go_wp2
  go_ret
  exact ⟨rfl, rfl⟩

set_option maxRecDepth 100000 in
theorem new_bad (w : World) (t k : Int) (h : t < 1 ∨ 65536 < t ∨ k < 0) : Calls Try.prog 14 #[.int .i64 t, .int .i64 k] w fun e w' => e = .returned (.tuple #[.pointer none, .int .i64 2]) ∧ w' = w := by
  by_cases h1 : t < 1
  · have d1 : decide (t < 1) = true := by simpa using h1
    clear h
    go_enter Try.func14, Try.ntmps14
    go_wp2
    go_ret2
    exact ⟨rfl, rfl⟩
  have d1 : decide (t < 1) = false := by simpa using h1
  by_cases h2 : 65536 < t
  · have d2 : decide (65536 < t) = true := by simpa using h2
    clear h
    go_enter Try.func14, Try.ntmps14
    go_wp2
    go_ret2
    exact ⟨rfl, rfl⟩
  have d2 : decide (65536 < t) = false := by simpa using h2
  have d3 : decide (k < 0) = true := by simp; omega
  clear h
  go_enter Try.func14, Try.ntmps14
  go_wp2
  go_ret2
  exact ⟨rfl, rfl⟩

set_option maxRecDepth 100000 in
theorem new_ok (w : World) (n : Nat) (k : Int) (h1 : 0 < n) (h2 : n ≤ 5000) (h3 : 0 ≤ k) : Calls Try.prog 14 #[.int .i64 n, .int .i64 k] w fun e w' => ∃ b g, e = .returned (.tuple #[.pointer (some ⟨b, 0, none⟩), .int .i64 0]) ∧ Fr w' b g n k (fun _ => 0) ∧ w.grownBy w' none ∧ w.heap.size ≤ b ∧ w.heap.size ≤ g := by
  have d1 : decide ((n : Int) < 1) = false := by simp; omega
  have d2 : decide ((65536 : Int) < (n : Int)) = false := by simp; omega
  have d3 : decide (k < 0) = false := by simp; omega
  have d4 : decide (n < 1) = false := by simp; omega
  have d5 : decide (65536 < n) = false := by simp; omega
  have d6 : decide (n = 0) = false := by simp; omega
  have d7 : (n == 0) = false := by simp; omega
  go_enter Try.func14, Try.ntmps14
  go_wp2_with (at_make; refine wpList_make_ro _ rfl _ _ 36 rfl 3 (.int .i64 0) 8 Try.underlying36 info3o rfl (by decide) n rfl rfl rfl rfl h2 ?_)
  intro w1 hr hg hlt
  obtain ⟨g, hgz⟩ : ∃ g, w.heap.size = g := ⟨_, rfl⟩
  rw [hgz] at hr hlt ⊢
  have hs : g ≤ w1.heap.size := by have := hg.size; omega
  have fin : ∀ W b, w1.alloc (.cells #[.slice (some ⟨g, 0, none⟩) n n, .int .i64 k] 57) = W → w1.heap.size = b → Fr W b g n k (fun _ => 0) ∧ w.grownBy W none ∧ w.heap.size ≤ b ∧ w.heap.size ≤ g := by
    rintro W b rfl rfl
    have ga := alloc_grown w1 (.cells #[.slice (some ⟨g, 0, none⟩) n n, .int .i64 k] 57)
    rw [fl_zero] at hr
    exact ⟨⟨heap_alloc_new w1 _, hr.grown ga, h1, h2⟩, grown_trans hg ga (by simp), by omega, by omega⟩
  have F : Hid _ := fin
  clear fin hr hs hlt hgz
  go_wp2
  go_ret2
  exact ⟨_, g, rfl, F.out _ _ rfl rfl⟩

set_option maxRecDepth 100000 in
theorem copied_any (w : World) (g n : Nat) (f : Nat → Nat) (h0 : Ro w g 3 (fl n f)) (hn : n ≤ 5000) :
    Calls Try.prog 27 #[.slice (some ⟨g, 0, none⟩) n n] w fun e w' => ∃ z, e = .returned (.slice (some ⟨z, 0, none⟩) n n) ∧ Ro w' z 3 (fl n f) ∧ w.grownBy w' none ∧ w.heap.size ≤ z := by
  have h := h0.fl hn
  have HX : Hid ((fl n f).length = n) := fl_len n f
  have HS : Hid (splice (List.replicate n (Value.int .i64 0)) 0 (fl n f) = fl n f) := by show _ = _; simp [splice, fl_len]
  have h1 := fl_one n f
  generalize fl n f = X at *
  go_enter Try.func27, Try.ntmps27
  go_wp2_with (at_make; refine wpList_make_ro _ rfl _ _ 36 rfl 3 (.int .i64 0) 8 Try.underlying36 info3o rfl (by decide) n rfl rfl rfl rfl hn ?_)
  intro w1 hr hg hlt
  have h2 := h.grown hg
  obtain ⟨z, hz⟩ : ∃ z, w.heap.size = z := ⟨_, rfl⟩
  rw [hz] at hr hlt ⊢
  have hpos : ∀ hp : 0 < X.length, (some (⟨z, 0, none⟩ : Addr) : Option Addr) = some ⟨z, 0, none⟩ ∧ ∃ ad, (some (⟨g, 0, none⟩ : Addr) : Option Addr) = some ad ∧ ∀ j v, X[j]? = some v → w1.cell? (ad.add j) = some v :=
    fun hp => ⟨rfl, _, rfl, fun j v hv => h2.cells _ rfl j v hv⟩
  go_wp2_with (refine wpList_copy_ro _ rfl (.tmp 7) (.tmp 8) 36 rfl 3 Try.underlying36 size3o rfl rfl z 0 _ hr X (by rw [HX.out]; exact (Nat.min_self _).symm) hpos (by rw [HX.out]; simp) h1 ?_)
  intro w2 hr2 hc2 hs2
  rw [HS.out] at hr2
  go_wp2
  go_ret
  exact ⟨z, rfl, hr2, Chg.grown ((Chg.of_grown hg _).trans hc2) (fun k hk e => by omega), by omega⟩
end Go.Proofs.Ytfhbnkfpbjloeaa
