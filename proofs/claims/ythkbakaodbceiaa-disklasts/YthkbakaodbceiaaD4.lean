/-
  A disk that is not there: File, Crash; an empty disk, New of no fates.
-/
import Derived.Test.YthkbakaodbceiaaD2
import Derived.Test.YthkbakaodbceiaaW1
namespace Go.Proofs.Ythkbakaodbceiaa
open Go.RowKit
set_option linter.unusedVariables false

theorem alloc_grown (w : World) (o : Obj) : w.grownBy (w.alloc o) none := World.grownBy_alloc w o none

theorem cell_at {w : World} {b : Nat} {cs : Array Value} {t : TypeId} (h : w.heap[b]? = some (.cells cs t)) {i : Nat} : w.cell? ⟨b, i, none⟩ = cs[i]? := by
  simp [World.cell?, h]

/-- A file as it is told. -/
def told0 : Value := .agg #[.string ⟨#[]⟩, .int .i64 0, .int .i64 0, .bool false, .bool false]

set_option maxRecDepth 100000 in
theorem file_no (w : World) (p : Option Addr) (s : ByteArray) (h : No w p) : Calls Try.prog 29 #[.pointer p, .string s] w fun e w' => e = .returned (.tuple #[told0, .int .i64 1]) ∧ w.grownBy w' none := by
  go_enter Try.func29, Try.ntmps29
  go_wp2_with fail
  refine (known_no _ _ _ (h.grown (alloc_grown _ _))).mono ?_
  rintro e w1 ⟨rfl, rfl⟩
  go_wp2
  obtain ⟨W, hW⟩ : ∃ W, w.alloc (.cells #[.string ⟨#[]⟩, .int .i64 0, .int .i64 0, .bool false, .bool false] 55) = W := ⟨_, rfl⟩
  have hk : W.heap[w.heap.size]? = some (.cells #[.string ⟨#[]⟩, .int .i64 0, .int .i64 0, .bool false, .bool false] 55) := by rw [← hW]; exact World.alloc_heap_new _ _
  have hg : w.grownBy W none := by rw [← hW]; exact alloc_grown _ _
  rw [hW]
  clear hW
  have v0 := cell_at hk (i := 0)
  have v1 := cell_at hk (i := 1)
  have v2 := cell_at hk (i := 2)
  have v3 := cell_at hk (i := 3)
  have v4 := cell_at hk (i := 4)
  simp only [List.getElem?_toArray, List.getElem?_cons_zero, List.getElem?_cons_succ] at v0 v1 v2 v3 v4
  exact bodyPost_ret (v := .tuple #[told0, .int .i64 1]) (by simp [results, Try.results29, go_sem, v0, v1, v2, v3, v4, told0]) rfl ⟨rfl, hg⟩

set_option maxRecDepth 100000 in
theorem crash_no (w : World) (p : Option Addr) (o : Option Addr) (n c : Nat) (h : No w p) : Calls Try.prog 33 #[.pointer p, .agg #[.slice o n c]] w fun e w' => e = .returned (.tuple #[.pointer none, .int .i64 1]) ∧ w.grownBy w' none := by
  go_enter Try.func33, Try.ntmps33
  go_wp2_with fail
  refine (made_no _ _ (h.grown (grown_trans (alloc_grown _ _) (alloc_grown _ _) (by simp)))).mono ?_
  rintro e w1 ⟨rfl, rfl⟩
  go_wp2
  go_ret2
  exact ⟨rfl, grown_trans (alloc_grown _ _) (alloc_grown _ _) (by simp)⟩

/-- The record of a disk, at block b: its map at m, its fates, its steps. -/
structure Hd (w : World) (b m : Nat) (fo : Option Addr) (fn fc : Nat) (st : Int) : Prop where
  c0 : w.cell? ⟨b, 0, none⟩ = some (.map (some m))
  c1 : w.cell? ⟨b, 1, none⟩ = some (.slice fo fn fc)
  c2 : w.cell? ⟨b, 2, none⟩ = some (.int .i64 st)
  fz : ∀ i, w.frozen? ⟨b, i, none⟩ = false
  lt : b < w.heap.size

theorem Hd.new (W : World) (m : Nat) (fo : Option Addr) (fn fc : Nat) (st : Int) : Hd (W.alloc (.cells #[.map (some m), .slice fo fn fc, .int .i64 st] 83)) W.heap.size m fo fn fc st := by
  have hk := World.alloc_heap_new W (.cells #[.map (some m), .slice fo fn fc, .int .i64 st] 83)
  refine ⟨by rw [cell_at hk]; rfl, by rw [cell_at hk]; rfl, by rw [cell_at hk]; rfl, fun i => by unfold World.frozen?; rw [hk]; simp, by simp⟩

set_option maxRecDepth 100000 in
theorem empty_any (w : World) : Calls Try.prog 43 #[] w fun e w' => e = .returned (.pointer (some ⟨w.heap.size + 1, 0, none⟩)) ∧ w'.heap[w.heap.size]? = some (.map #[] 0) ∧ Hd w' (w.heap.size + 1) w.heap.size none 0 0 0 ∧ w.grownBy w' none := by
  have hmm := @run_makeMap Try.prog
  have hfin : ∀ W, (w.alloc (.map #[] 0)).alloc (.cells #[.map (some w.heap.size), .slice none 0 0, .int .i64 0] 83) = W → W.heap[w.heap.size]? = some (.map #[] 0) ∧ Hd W (w.heap.size + 1) w.heap.size none 0 0 0 ∧ w.grownBy W none := by
    rintro W rfl
    refine ⟨(Below.heap_alloc _ _ _ (by simp)).trans (World.alloc_heap_new w _), ?_, grown_trans (alloc_grown _ _) (alloc_grown _ _) (by simp)⟩
    have := Hd.new (w.alloc (.map #[] 0)) w.heap.size none 0 0 0
    rwa [World.size_alloc] at this
  have Hfin : Hid _ := hfin
  clear hfin
  go_enter Try.func43, Try.ntmps43
  go_wp2
  go_ret
  exact ⟨rfl, Hfin.out _ rfl⟩
end Go.Proofs.Ythkbakaodbceiaa
