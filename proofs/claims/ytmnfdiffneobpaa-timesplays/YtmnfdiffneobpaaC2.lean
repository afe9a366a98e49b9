/-
  Find, Until.
-/
import Derived.Test.YtmnfdiffneobpaaC1
namespace Go.Proofs.Ytmnfdiffneobpaa
open Go.RowKit Go.Shelf
set_option linter.unusedVariables false


/-- Rises rise in both numbers. -/
def Srt (l : List Sd) : Prop := ∀ a b (ha : a < l.length) (hb : b < l.length), a < b → l[a].o < l[b].o ∧ l[a].p < l[b].p
theorem Srt.le {l : List Sd} (h : Srt l) {a b : Nat} (ha : a < l.length) (hb : b < l.length) (hab : a ≤ b) : l[a].o ≤ l[b].o ∧ l[a].p ≤ l[b].p := by
  rcases Nat.lt_or_ge a b with h1 | h1
  · have := h a b ha hb h1; omega
  · obtain rfl : a = b := by omega
    exact ⟨Int.le_refl _, Int.le_refl _⟩
theorem Srt.m58 {l : List Sd} (h : Srt l) (q : Int) : Mono (fun s => decide (q ≤ s.p)) l := fun a b ha hb hab hp => by
  have := h.le ha hb hab; simp at hp ⊢; omega
theorem Srt.m59 {l : List Sd} (h : Srt l) (q : Int) : Mono (fun s => decide (q < s.o)) l := fun a b ha hb hab hp => by
  have := h.le ha hb hab; simp at hp ⊢; omega
theorem Srt.m60 {l : List Sd} (h : Srt l) (q : Int) : Mono (fun s => decide (q ≤ s.o)) l := fun a b ha hb hab hp => by
  have := h.le ha hb hab; simp at hp ⊢; omega
theorem Srt.m61 {l : List Sd} (h : Srt l) (q : Int) : Mono (fun s => decide (q < s.p)) l := fun a b ha hb hab hp => by
  have := h.le ha hb hab; simp at hp ⊢; omega
theorem Srt.take {l : List Sd} (h : Srt l) (k : Nat) : Srt (l.take k) := fun a b ha hb hab => by
  rw [List.getElem_take, List.getElem_take]
  exact h a b _ _ hab
theorem Parts.take {pB : Sd → Bool} {l : List Sd} {n : Nat} (h : Parts pB l n) : l.filter (fun s => !pB s) = l.take n := by
  conv => lhs; rw [← List.take_append_drop n l]
  rw [List.filter_append]
  rw [List.filter_eq_self.2, List.filter_eq_nil_iff.2, List.append_nil]
  · intro s hs
    obtain ⟨i, hi, rfl⟩ := List.mem_iff_getElem.1 hs
    rw [List.getElem_drop]
    simp only [List.length_drop] at hi
    rw [h.yes _ (by omega) (by omega)]
    simp
  · intro s hs
    obtain ⟨i, hi, rfl⟩ := List.mem_iff_getElem.1 hs
    rw [List.getElem_take]
    simp only [List.length_take] at hi
    rw [h.no _ (by omega) (by omega)]
    rfl
theorem Parts.find {pB : Sd → Bool} {l : List Sd} {n : Nat} (h : Parts pB l n) : l.find? pB = l[n]? := by
  conv => lhs; rw [← List.take_append_drop n l]
  rw [List.find?_append, List.find?_eq_none.2, Option.none_or]
  · rcases Nat.lt_or_ge n l.length with h1 | h1
    · rw [List.drop_eq_getElem_cons h1, List.find?_cons, h.yes n h1 (Nat.le_refl _), List.getElem?_eq_getElem h1]
    · rw [List.drop_of_length_le h1, List.getElem?_eq_none h1]
      rfl
  · intro s hs
    obtain ⟨i, hi, rfl⟩ := List.mem_iff_getElem.1 hs
    rw [List.getElem_take]
    simp only [List.length_take] at hi
    rw [h.no _ (by omega) (by omega)]
    simp

/-- What Find and Until answer. -/
def findR (l : List Sd) (q : Int) : Int × Bool := match l.find? (fun s => decide (q ≤ s.p)) with
  | none => (0, false)
  | some s => (s.o, true)
def untilR (l : List Sd) (q : Int) : Int × Bool := match (l.filter (fun s => !decide (q < s.o))).getLast? with
  | none => (0, false)
  | some s => (s.p, true)

section
variable {w w' : World} {b : Nat} {bs en : Int} {ro : Option Addr} {rc : Nat} {l : List Sd}
set_option maxRecDepth 100000 in
set_option maxHeartbeats 1000000 in
theorem find_any (h : Xd w b ro rc bs en l) (hs : Srt l) (q : Int) : Calls Try.prog 22 #[.pointer (some ⟨b, 0, none⟩), .int .i64 q] w fun e w' => e = .returned (.tuple #[.int .i64 (findR l q).1, .bool (findR l q).2]) ∧ w.grownBy w' none := by
  have hmf := hmf
  have hbx := Boxed.new w 2 (.int .i64 q)
  have hg := alloc_grown w (.cells #[.int .i64 q] 2)
  have hX := h.grown hg
  have hth := there_yes hX.ix.c3
  have c2 := hX.ix.c2
  have hah := ahead58 _ ro l.length rc l hX.sw hX.few w.heap.size q hbx.cell (hs.m58 q)
  go_enter Try.func22, Try.ntmps22
  go_wp2_with fail
  generalize w.alloc (.cells #[.int .i64 q] 2) = w1 at *
  refine hth.mono ?_
  rintro e w1 ⟨rfl, rfl⟩
  go_wp2_with fail
  refine hah.mono ?_
  rintro e w2 ⟨k, rfl, hP, hg2⟩
  have hf := hP.find
  have hX2 := hX.grown hg2
  have c2 := hX2.ix.c2
  have hG := grown_trans hg hg2 (by simp)
  have hle := hP.le
  have hfew := h.few
  by_cases hk : k = l.length
  · have d : ((k : Int) == (l.length : Int)) = true := by simp; omega
    have hr : Hid (findR l q = (0, false)) := by show _ = _; unfold findR; rw [hf, List.getElem?_eq_none (by omega)]
    clear hf hP hk
    go_wp2
    go_ret2
    exact ⟨by rw [hr.out]; rfl, hG⟩
  · have d : ((k : Int) == (l.length : Int)) = false := by simp; omega
    obtain ⟨t, ht⟩ : ∃ t, l[k]? = some t := ⟨_, List.getElem?_eq_getElem (by omega)⟩
    have hr : Hid (findR l q = (t.o, true)) := by show _ = _; unfold findR; rw [hf, ht]
    obtain ⟨g, rfl, _, _⟩ := hX2.sw.addr (by omega)
    have e0 := hX2.sw.at ht 0 (by decide)
    simp only [Sd.cells, List.getElem?_cons_zero, Nat.add_zero] at e0
    have i1 : (0 : Int) ≤ (k : Int) := by omega
    have i2 : (k : Int) < (l.length : Int) := by omega
    clear hf hP hk ht hX2 hX hah hth
    go_wp2
    go_ret2
    exact ⟨by rw [hr.out]; rfl, hG⟩

set_option maxRecDepth 100000 in
set_option maxHeartbeats 1000000 in
theorem until_any (h : Xd w b ro rc bs en l) (hs : Srt l) (q : Int) : Calls Try.prog 23 #[.pointer (some ⟨b, 0, none⟩), .int .i64 q] w fun e w' => e = .returned (.tuple #[.int .i64 (untilR l q).1, .bool (untilR l q).2]) ∧ w.grownBy w' none := by
  have hmf := hmf
  have hbx := Boxed.new w 2 (.int .i64 q)
  have hg := alloc_grown w (.cells #[.int .i64 q] 2)
  have hX := h.grown hg
  have hth := there_yes hX.ix.c3
  have c2 := hX.ix.c2
  have hah := ahead59 _ ro l.length rc l hX.sw hX.few w.heap.size q hbx.cell (hs.m59 q)
  go_enter Try.func23, Try.ntmps23
  go_wp2_with fail
  generalize w.alloc (.cells #[.int .i64 q] 2) = w1 at *
  refine hth.mono ?_
  rintro e w1 ⟨rfl, rfl⟩
  go_wp2_with fail
  refine hah.mono ?_
  rintro e w2 ⟨k, rfl, hP, hg2⟩
  have hf := hP.take
  have hX2 := hX.grown hg2
  have c2 := hX2.ix.c2
  have hG := grown_trans hg hg2 (by simp)
  have hle := hP.le
  have hfew := h.few
  cases k with
  | zero =>
    have hr : Hid (untilR l q = (0, false)) := by show _ = _; unfold untilR; rw [hf]; rfl
    clear hf hP
    go_wp2
    go_ret2
    exact ⟨by rw [hr.out]; rfl, hG⟩
  | succ k =>
    have d : (((k + 1 : Nat) : Int) == 0) = false := by simp; omega
    obtain ⟨t, ht⟩ : ∃ t, l[k]? = some t := ⟨_, List.getElem?_eq_getElem (by omega)⟩
    have hr : Hid (untilR l q = (t.p, true)) := by
      show _ = _
      unfold untilR
      rw [hf, List.getLast?_eq_getElem?, List.length_take, Nat.min_eq_left hle, List.getElem?_take, if_pos (by omega), show k + 1 - 1 = k by omega, ht]
    obtain ⟨g, rfl, _, _⟩ := hX2.sw.addr (by omega)
    have e0 := hX2.sw.at ht 1 (by decide)
    simp only [Sd.cells, List.getElem?_cons_zero, List.getElem?_cons_succ] at e0
    have i1 : (0 : Int) ≤ (k : Int) := by omega
    have i2 : (k : Int) < (l.length : Int) := by omega
    have hwr : IntKind.i64.wrap (((k + 1 : Nat) : Int) - 1) = (k : Int) := by rw [IntWalk.i64_in _ (by omega)]; omega
    clear hf hP ht hX2 hX hah hth
    go_wp2
    go_ret2
    exact ⟨by rw [hr.out]; rfl, hG⟩
end
end Go.Proofs.Ytmnfdiffneobpaa
