/-
  Look, Open and Mend of no disk; the law's look at a segment that is not there.
-/
import Derived.Test.YtlghcboenkglnaaGreatDoorG2
namespace Go.Proofs.YtlghcboenkglnaaGreatDoor
open Go.RowKit Go.Shelf
set_option linter.unusedVariables false

abbrev Z4 : Obj := .cells #[.int .i64 0, .int .i64 0, .int .i64 0, .int .i64 0] 43
def found0 : Value := .agg #[.int .i64 0, .int .i64 0, .int .i64 0, .int .i64 0]

set_option maxRecDepth 100000 in
set_option maxHeartbeats 2000000 in
theorem find77_nil (w : World) (s : ByteArray) (n : Int) : Calls Tryz.prog 77 #[.pointer none, .string s, .int .i64 n] w fun e w' => e = .returned (.tuple #[file0, .int .i64 1]) ∧ w.grownBy w' none := by
  have hg0 := alloc_grown w Z8
  have hk0 := World.alloc_heap_new w Z8
  go_enter Tryz.func77, Tryz.ntmps77
  go_wp2_with fail
  go_step3
  go_wp2_with fail
  refine (fileOf_nil _ _ _).mono ?_
  unfold file0
  rintro e w1 ⟨rfl, hg1⟩
  have ga := alloc_grown w1 Z8
  have hk : (w1.alloc Z8).heap[w.heap.size]? = some Z8 := heap_kept ga (heap_kept hg1 hk0 (by simp)) (by simp)
  have v0 := cell_at hk (i := 0)
  have v1 := cell_at hk (i := 1)
  have v2 := cell_at hk (i := 2)
  have v3 := cell_at hk (i := 3)
  have v4 := cell_at hk (i := 4)
  have v5 := cell_at hk (i := 5)
  have v6 := cell_at hk (i := 6)
  have v7 := cell_at hk (i := 7)
  simp only [List.getElem?_toArray, List.getElem?_cons_zero, List.getElem?_cons_succ] at v0 v1 v2 v3 v4 v5 v6 v7
  have f0 := fz_at hk 0
  have f1 := fz_at hk 1
  have f2 := fz_at hk 2
  have f3 := fz_at hk 3
  have f4 := fz_at hk 4
  have f5 := fz_at hk 5
  have f6 := fz_at hk 6
  have f7 := fz_at hk 7
  have hg := grown_trans (grown_trans hg0 hg1 (by simp)) ga (by simp)
  clear hg0 hg1 ga hk0
  go_wp2_with fail
  rw [set_same hk (i := 0) (v := .int .i64 0) rfl, set_same hk (i := 1) (v := .int .i64 0) rfl, set_same hk (i := 2) (v := .int .i64 0) rfl, set_same hk (i := 3) (v := .int .i64 0) rfl, set_same hk (i := 4) (v := .pointer none) rfl, set_same hk (i := 5) (v := .string ⟨#[]⟩) rfl, set_same hk (i := 6) (v := .int .i64 0) rfl, set_same hk (i := 7) (v := .pointer none) rfl]
  show bodyPost Tryz.prog Tryz.f77 (fun e w' => e = .returned (.tuple #[file0, .int .i64 1]) ∧ w.grownBy w' none) .ret _ _
  generalize w1.alloc Z8 = W at *
  exact bodyPost_ret (v := .tuple #[file0, .int .i64 1]) (by simp [results, Tryz.results77, go_sem, v0, v1, v2, v3, v4, v5, v6, v7, file0]) rfl ⟨rfl, hg⟩

set_option maxRecDepth 100000 in
set_option maxHeartbeats 2000000 in
theorem look34_nil (w : World) (s : ByteArray) : Calls Tryz.prog 34 #[.pointer none, .string s] w fun e w' => e = .returned (.tuple #[found0, .int .i64 1]) ∧ w.grownBy w' none := by
  have hg0 := alloc_grown w Z4
  have hk0 := World.alloc_heap_new w Z4
  go_enter Tryz.func34, Tryz.ntmps34
  go_wp2_with fail
  refine (find77_nil _ _ _).mono ?_
  unfold file0
  rintro e w1 ⟨rfl, hg1⟩
  have ga := alloc_grown w1 Z8
  have hk : (w1.alloc Z8).heap[w.heap.size]? = some Z4 := heap_kept ga (heap_kept hg1 hk0 (by simp)) (by simp)
  have v0 := cell_at hk (i := 0)
  have v1 := cell_at hk (i := 1)
  have v2 := cell_at hk (i := 2)
  have v3 := cell_at hk (i := 3)
  simp only [List.getElem?_toArray, List.getElem?_cons_zero, List.getElem?_cons_succ] at v0 v1 v2 v3
  have f0 := fz_at hk 0
  have f1 := fz_at hk 1
  have f2 := fz_at hk 2
  have f3 := fz_at hk 3
  have hk8 := World.alloc_heap_new w1 Z8
  have u0 := cell_at hk8 (i := 0)
  have u1 := cell_at hk8 (i := 1)
  have u2 := cell_at hk8 (i := 2)
  have u3 := cell_at hk8 (i := 3)
  simp only [List.getElem?_toArray, List.getElem?_cons_zero, List.getElem?_cons_succ] at u0 u1 u2 u3
  have hg := grown_trans (grown_trans hg0 hg1 (by simp)) ga (by simp)
  clear hg0 hg1 ga hk0
  go_wp2_with fail
  rw [set_same hk (i := 0) (v := .int .i64 0) rfl, set_same hk (i := 1) (v := .int .i64 0) rfl, set_same hk (i := 2) (v := .int .i64 0) rfl, set_same hk (i := 3) (v := .int .i64 0) rfl]
  generalize w1.alloc Z8 = W at *
  exact bodyPost_ret (v := .tuple #[found0, .int .i64 1]) (by simp [results, Tryz.results34, go_sem, v0, v1, v2, v3, found0]) rfl ⟨rfl, hg⟩

set_option maxRecDepth 100000 in
set_option maxHeartbeats 2000000 in
theorem open30_nil (w : World) (s : ByteArray) (n : Int) : Calls Tryz.prog 30 #[.pointer none, .string s, .int .i64 n] w fun e w' => e = .returned (.tuple #[.pointer none, .int .i64 1]) ∧ w.grownBy w' none := by
  go_enter Tryz.func30, Tryz.ntmps30
  go_wp2_with fail
  refine (find77_nil _ _ _).mono ?_
  unfold file0
  rintro e w1 ⟨rfl, hg1⟩
  have ga := alloc_grown w1 Z8
  go_wp2
  go_ret2
  exact ⟨rfl, grown_trans hg1 ga (by simp)⟩

set_option maxRecDepth 100000 in
set_option maxHeartbeats 2000000 in
theorem mend28_nil (w : World) (s : ByteArray) : Calls Tryz.prog 28 #[.pointer none, .string s] w fun e w' => e = .returned (.tuple #[found0, .int .i64 1]) ∧ w.grownBy w' none := by
  have ga := alloc_grown w (.cells #[.pointer none] 29)
  have gb := alloc_grown (w.alloc (.cells #[.pointer none] 29)) (.cells #[.string s] 9)
  have gc := alloc_grown ((w.alloc (.cells #[.pointer none] 29)).alloc (.cells #[.string s] 9)) Z4
  have kc := World.alloc_heap_new ((w.alloc (.cells #[.pointer none] 29)).alloc (.cells #[.string s] 9)) Z4
  have ka := heap_kept gc (heap_kept gb (World.alloc_heap_new w (.cells #[.pointer none] 29)) (by simp)) (by simp)
  have kb := heap_kept gc (World.alloc_heap_new (w.alloc (.cells #[.pointer none] 29)) (.cells #[.string s] 9)) (by simp)
  rw [World.size_alloc, World.size_alloc] at kc
  rw [World.size_alloc] at kb
  have ca := cell_at ka (i := 0)
  have cb := cell_at kb (i := 0)
  simp only [List.getElem?_toArray, List.getElem?_cons_zero] at ca cb
  have hG0 := grown_trans (grown_trans ga gb (by simp)) gc (by simp)
  clear ga gb gc
  go_enter Tryz.func28, Tryz.ntmps28
  go_wp2_with fail
  generalize ((w.alloc (.cells #[.pointer none] 29)).alloc (.cells #[.string s] 9)).alloc Z4 = w0 at *
  refine (look34_nil _ _).mono ?_
  unfold found0
  rintro e w1 ⟨rfl, hg1⟩
  have gd := alloc_grown w1 Z4
  have hk : (w1.alloc Z4).heap[w.heap.size + 1 + 1]? = some Z4 := heap_kept gd (heap_kept hg1 kc (by simp)) (by simp)
  have v0 := cell_at hk (i := 0)
  have v1 := cell_at hk (i := 1)
  have v2 := cell_at hk (i := 2)
  have v3 := cell_at hk (i := 3)
  simp only [List.getElem?_toArray, List.getElem?_cons_zero, List.getElem?_cons_succ] at v0 v1 v2 v3
  have f0 := fz_at hk 0
  have f1 := fz_at hk 1
  have f2 := fz_at hk 2
  have f3 := fz_at hk 3
  have hg := grown_trans (grown_trans hG0 hg1 (by simp)) gd (by simp)
  clear hG0 hg1 gd ka kb kc ca cb
  go_wp2_with fail
  rw [set_same hk (i := 0) (v := .int .i64 0) rfl, set_same hk (i := 1) (v := .int .i64 0) rfl, set_same hk (i := 2) (v := .int .i64 0) rfl, set_same hk (i := 3) (v := .int .i64 0) rfl]
  generalize w1.alloc Z4 = W at *
  exact bodyPost_ret (v := .tuple #[found0, .int .i64 1]) (by simp [results, Tryz.results28, go_sem, v0, v1, v2, v3, found0]) rfl ⟨rfl, hg⟩
end Go.Proofs.YtlghcboenkglnaaGreatDoor
