import Derived.Test.YthkbakaodbceiaaAa
import Derived.Test.YthkbakaodbceiaaW1
/-
  A disk that is not there: File, Crash; an empty disk, New of no fates.
-/
namespace Go.Proofs.Ythkbakaodbceiaa
open Go.RowKit
set_option linter.unusedVariables false

theorem alloc_grown (w : World) (o : Obj) : w.grownBy (w.alloc o) none := World.grownBy_alloc w o none

theorem cell_at {w : World} {b : Nat} {cs : Array Value} {t : TypeId} (h : w.heap[b]? = some (.cells cs t)) {i : Nat} : w.cell? ⟨b, i, none⟩ = cs[i]? := by
  simp [World.cell?, h]

/-- The record of a disk, at block b: its map at m, its fates, its steps. -/
structure Hd (w : World) (b m : Nat) (fo : Option Addr) (fn fc : Nat) (st : Int) : Prop where
  c0 : w.cell? ⟨b, 0, none⟩ = some (.map (some m))
  c1 : w.cell? ⟨b, 1, none⟩ = some (.slice fo fn fc)
  c2 : w.cell? ⟨b, 2, none⟩ = some (.int .i64 st)
  fz : ∀ i, w.frozen? ⟨b, i, none⟩ = false
  lt : b < w.heap.size

theorem Hd.new (W : World) (m : Nat) (fo : Option Addr) (fn fc : Nat) (st : Int) : Hd (W.alloc (.cells #[.map (some m), .slice fo fn fc, .int .i64 st] 83)) W.heap.size m fo fn fc st := by
  have hk := World.alloc_heap_new W (.cells #[.map (some m), .slice fo fn fc, .int .i64 st] 83)
  refine ⟨by rw [cell_at hk]; rfl, by rw [cell_at hk]; rfl, by rw [cell_at hk]; rfl, fun i => by unfold World.frozen?; rw [hk]; simp, by simp⟩

set_option maxRecDepth 100000 in
theorem empty_any (w : World) : Calls Try.prog 43 #[] w fun e w' => e = .returned (.pointer (some ⟨w.heap.size + 1, 0, none⟩)) ∧ w'.heap[w.heap.size]? = some (.map #[] 0) ∧ Hd w' (w.heap.size + 1) w.heap.size none 0 0 0 ∧ w.grownBy w' none := by
  have hmm := @run_makeMap Try.prog
  have hfin : ∀ W, (w.alloc (.map #[] 0)).alloc (.cells #[.map (some w.heap.size), .slice none 0 0, .int .i64 0] 83) = W → W.heap[w.heap.size]? = some (.map #[] 0) ∧ Hd W (w.heap.size + 1) w.heap.size none 0 0 0 ∧ w.grownBy W none := by
    rintro W rfl
    refine ⟨(Below.heap_alloc _ _ _ (by simp)).trans (World.alloc_heap_new w _), ?_, grown_trans (alloc_grown _ _) (alloc_grown _ _) (by simp)⟩
    have := Hd.new (w.alloc (.map #[] 0)) w.heap.size none 0 0 0
    rwa [World.size_alloc] at this
  have Hfin : Hid _ := hfin
  clear hfin
  go_enter Try.func43, Try.ntmps43
  go_wp2
  go_ret
  exact ⟨rfl, Hfin.out _ rfl⟩
end Go.Proofs.Ythkbakaodbceiaa

/-
  New of no fates.
-/
namespace Go.Proofs.Ythkbakaodbceiaa
open Go.RowKit
set_option linter.unusedVariables false

theorem Hd.fates {w : World} {b m : Nat} {fo : Option Addr} {fn fc : Nat} {st : Int} (h : Hd w b m fo fn fc st) (o : Option Addr) (n c : Nat) : Hd (w.setCell ⟨b, 1, none⟩ (.slice o n c)) b m o n c st :=
  ⟨by rw [World.cell?_setCell_other _ _ _ _ (by simp)]; exact h.c0, by rw [World.cell?_setCell_same _ _ _ h.c1], by rw [World.cell?_setCell_other _ _ _ _ (by simp)]; exact h.c2, fun i => by simp [h.fz i], by simpa using h.lt⟩
theorem Hd.steps {w : World} {b m : Nat} {fo : Option Addr} {fn fc : Nat} {st : Int} (h : Hd w b m fo fn fc st) (n : Int) : Hd (w.setCell ⟨b, 2, none⟩ (.int .i64 n)) b m fo fn fc n :=
  ⟨by rw [World.cell?_setCell_other _ _ _ _ (by simp)]; exact h.c0, by rw [World.cell?_setCell_other _ _ _ _ (by simp)]; exact h.c1, by rw [World.cell?_setCell_same _ _ _ h.c2], fun i => by simp [h.fz i], by simpa using h.lt⟩
theorem Hd.chg {w w' : World} {b m : Nat} {fo : Option Addr} {fn fc : Nat} {st : Int} {S : Nat → Prop} (h : Hd w b m fo fn fc st) (hc : Chg w w' S) (hb : ¬ S b) : Hd w' b m fo fn fc st :=
  ⟨hc.cell h.c0 hb, hc.cell h.c1 hb, hc.cell h.c2 hb, fun i => by rw [World.frozen?_of_block (w := w) (hc.block b h.lt hb)]; exact h.fz i, Nat.lt_of_lt_of_le h.lt hc.size⟩
theorem Hd.grown {w w' : World} {b m : Nat} {fo : Option Addr} {fn fc : Nat} {st : Int} (h : Hd w b m fo fn fc st) (hg : w.grownBy w' none) : Hd w' b m fo fn fc st := h.chg (Chg.of_grown hg (fun _ => False)) (fun e => e)

set_option maxRecDepth 100000 in
theorem feed_none (w : World) (b m : Nat) (st : Int) (h : Hd w b m none 0 0 st) : Calls Try.prog 31 #[.pointer (some ⟨b, 0, none⟩), .slice none 0 0] w fun e w' => e = .returned (.int .i64 0) ∧ Hd w' b m none 0 0 st ∧ Chg w w' (fun k => k = b) := by
  have h0 := h.c0
  have h1 := h.c1
  have f1 := h.fz 1
  have h2 := h.fates none 0 0
  have hc2 := setCell_chg w b 1 (.slice none 0 0)
  clear h
  go_enter Try.func31, Try.ntmps31
  go_wp2_with fail
  refine (made_yes _ _ _ h0).mono ?_
  rintro e w1 ⟨rfl, rfl⟩
  go_wp2
  go_loopw [6, 12] (fun _ i' wr => i' = .int .i64 0 ∧ wr = w1) (fun _ _ _ => 0)
  case atStart => exact ⟨rfl, rfl⟩
  case round =>
    obtain ⟨rfl, rfl⟩ := hrel
    go_wp2
    go_ret
    exact ⟨rfl, h2, hc2⟩

set_option maxRecDepth 100000 in
theorem new_none (w : World) : Calls Try.prog 10 #[.slice none 0 0] w fun e w' => e = .returned (.tuple #[.pointer (some ⟨w.heap.size + 1, 0, none⟩), .int .i64 0]) ∧ w'.heap[w.heap.size]? = some (.map #[] 0) ∧ Hd w' (w.heap.size + 1) w.heap.size none 0 0 0 ∧ w.grownBy w' none := by
  go_enter Try.func10, Try.ntmps10
  go_wp2_with fail
  refine (empty_any _).mono ?_
  rintro e w1 ⟨rfl, hm1, hd1, hg1⟩
  go_wp2_with fail
  refine (feed_none _ _ _ _ hd1).mono ?_
  rintro e w2 ⟨rfl, hd2, hc2⟩
  have hm2 : w2.heap[w.heap.size]? = some (.map #[] 0) := (hc2.block _ (Array.getElem?_eq_some_iff.1 hm1).1 (by omega)).trans hm1
  have hg2 : w.grownBy w2 none := ((Chg.of_grown hg1 _).trans hc2).grown (fun k hk e => by omega)
  clear hc2 hd1 hm1 hg1
  go_wp2
  go_ret2
  exact ⟨rfl, hm2, hd2, hg2⟩
end Go.Proofs.Ythkbakaodbceiaa
