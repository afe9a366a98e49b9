/-
  A segment that is not there: what it tells.
-/
import Derived.Test.YtlghcboenkglnaaGreatDoorN9
namespace Go.Proofs.YtlghcboenkglnaaGreatDoor
open Go.RowKit
set_option linter.unusedVariables false

theorem lt_of_heap {w : World} {k : Nat} {o : Obj} (h : w.heap[k]? = some o) : k < w.heap.size := (Array.getElem?_eq_some_iff.1 h).1
theorem heap_kept {w w' : World} {k : Nat} {o : Obj} {row : Option Nat} (hg : w.grownBy w' row) (h : w.heap[k]? = some o) (hne : some k ≠ row) : w'.heap[k]? = some o := (hg.block k (lt_of_heap h) hne).trans h

/-- The cells of no file; nil, or a zero segment. -/
def zf : Array Value := #[.int .i64 0, .int .i64 0, .int .i64 0, .int .i64 0, .pointer none, .string ⟨#[]⟩, .int .i64 0, .pointer none]
def No (w : World) (p : Option Addr) : Prop := p = none ∨ ∃ b, p = some ⟨b, 0, none⟩ ∧ w.heap[b]? = some (.cells #[.int .i64 0, .int .i64 0, .int .i64 0, .int .i64 0, .pointer none, .string ⟨#[]⟩, .int .i64 0, .pointer none] 104)
theorem No.grown {w w' : World} {p : Option Addr} (h : No w p) (hg : w.grownBy w' none) : No w' p := by
  rcases h with h | ⟨b, h, hc⟩
  · exact .inl h
  · exact .inr ⟨b, h, heap_kept hg hc (by simp)⟩

set_option maxRecDepth 100000 in
set_option maxHeartbeats 2000000 in
theorem told_no (w : World) (p : Option Addr) (h : No w p) : Calls Tryz.prog 59 #[.pointer p] w fun e w' => e = .returned file0 ∧ w.grownBy w' none := by
  have hk := World.alloc_heap_new w (.cells #[.int .i64 0, .int .i64 0, .int .i64 0, .int .i64 0, .pointer none, .string ⟨#[]⟩, .int .i64 0, .pointer none] 102)
  have hg := alloc_grown w (.cells #[.int .i64 0, .int .i64 0, .int .i64 0, .int .i64 0, .pointer none, .string ⟨#[]⟩, .int .i64 0, .pointer none] 102)
  have v0 := cell_at hk (i := 0)
  have v1 := cell_at hk (i := 1)
  have v2 := cell_at hk (i := 2)
  have v3 := cell_at hk (i := 3)
  have v4 := cell_at hk (i := 4)
  have v5 := cell_at hk (i := 5)
  have v6 := cell_at hk (i := 6)
  have v7 := cell_at hk (i := 7)
  simp only [List.getElem?_toArray, List.getElem?_cons_zero, List.getElem?_cons_succ] at v0 v1 v2 v3 v4 v5 v6 v7
  have f0 := fz_at hk 0
  have f1 := fz_at hk 1
  have f2 := fz_at hk 2
  have f3 := fz_at hk 3
  have f4 := fz_at hk 4
  have f5 := fz_at hk 5
  have f6 := fz_at hk 6
  have f7 := fz_at hk 7
  rcases h with rfl | ⟨b, rfl, hb⟩
  · go_enter Tryz.func59, Tryz.ntmps59
    go_wp2_with fail
    generalize w.alloc (.cells #[.int .i64 0, .int .i64 0, .int .i64 0, .int .i64 0, .pointer none, .string ⟨#[]⟩, .int .i64 0, .pointer none] 102) = W at *
    exact bodyPost_ret (v := file0) (by simp [results, Tryz.results59, go_sem, v0, v1, v2, v3, v4, v5, v6, v7, file0]) rfl ⟨rfl, hg⟩
  · have hb2 := heap_kept hg hb (by simp)
    have u0 := cell_at hb2 (i := 0)
    have u1 := cell_at hb2 (i := 1)
    have u2 := cell_at hb2 (i := 2)
    have u3 := cell_at hb2 (i := 3)
    have u4 := cell_at hb2 (i := 4)
    have u5 := cell_at hb2 (i := 5)
    have u6 := cell_at hb2 (i := 6)
    have u7 := cell_at hb2 (i := 7)
    simp only [List.getElem?_toArray, List.getElem?_cons_zero, List.getElem?_cons_succ] at u0 u1 u2 u3 u4 u5 u6 u7
    go_enter Tryz.func59, Tryz.ntmps59
    clear f0 f1 f2 f3 f4 f5 f6 f7
    go_wp2_with fail
    generalize w.alloc (.cells #[.int .i64 0, .int .i64 0, .int .i64 0, .int .i64 0, .pointer none, .string ⟨#[]⟩, .int .i64 0, .pointer none] 102) = W at *
    exact bodyPost_ret (v := file0) (by simp [results, Tryz.results59, go_sem, v0, v1, v2, v3, v4, v5, v6, v7, file0]) rfl ⟨rfl, hg⟩

theorem fl0 (W : World) : (Instr.field 102 (.agg #[.int .i64 0, .int .i64 0, .int .i64 0, .int .i64 0, .pointer none, .string ⟨#[]⟩, .int .i64 0, .pointer none]) 0).run Tryz.prog W = .ok (.agg #[.int .i64 0, .int .i64 0, .int .i64 0, .int .i64 0]) W := by kernel_rfl
theorem fl1 (W : World) : (Instr.field 102 (.agg #[.int .i64 0, .int .i64 0, .int .i64 0, .int .i64 0, .pointer none, .string ⟨#[]⟩, .int .i64 0, .pointer none]) 1).run Tryz.prog W = .ok (.pointer none) W := by kernel_rfl
theorem fl3 (W : World) : (Instr.field 102 (.agg #[.int .i64 0, .int .i64 0, .int .i64 0, .int .i64 0, .pointer none, .string ⟨#[]⟩, .int .i64 0, .pointer none]) 3).run Tryz.prog W = .ok (.int .i64 0) W := by kernel_rfl
theorem fl4 (W : World) : (Instr.field 102 (.agg #[.int .i64 0, .int .i64 0, .int .i64 0, .int .i64 0, .pointer none, .string ⟨#[]⟩, .int .i64 0, .pointer none]) 4).run Tryz.prog W = .ok (.pointer none) W := by kernel_rfl
theorem ff1 (W : World) : (Instr.field 43 (.agg #[.int .i64 0, .int .i64 0, .int .i64 0, .int .i64 0]) 1).run Tryz.prog W = .ok (.int .i64 0) W := by kernel_rfl
theorem ff2 (W : World) : (Instr.field 43 (.agg #[.int .i64 0, .int .i64 0, .int .i64 0, .int .i64 0]) 2).run Tryz.prog W = .ok (.int .i64 0) W := by kernel_rfl

abbrev Z8 : Obj := .cells #[.int .i64 0, .int .i64 0, .int .i64 0, .int .i64 0, .pointer none, .string ⟨#[]⟩, .int .i64 0, .pointer none] 102

set_option maxRecDepth 100000 in
theorem base_no (w : World) (p : Option Addr) (h : No w p) : Calls Tryz.prog 45 #[.pointer p] w fun e w' => e = .returned (.int .i64 0) ∧ w.grownBy w' none := by
  go_enter Tryz.func45, Tryz.ntmps45
  go_wp2_with fail
  refine (told_no w p h).mono ?_
  unfold file0
  rintro e w1 ⟨rfl, hg1⟩
  have q0 := fl3
  go_wp2
  go_ret
  exact ⟨rfl, hg1⟩
set_option maxRecDepth 100000 in
theorem end_no (w : World) (p : Option Addr) (h : No w p) : Calls Tryz.prog 40 #[.pointer p] w fun e w' => e = .returned (.int .i64 0) ∧ w.grownBy w' none := by
  go_enter Tryz.func40, Tryz.ntmps40
  go_wp2_with fail
  refine (told_no w p h).mono ?_
  unfold file0
  rintro e w1 ⟨rfl, hg1⟩
  have q0 := fl0
  have q1 := ff1
  go_wp2
  go_ret
  exact ⟨rfl, hg1⟩
set_option maxRecDepth 100000 in
theorem size_no (w : World) (p : Option Addr) (h : No w p) : Calls Tryz.prog 58 #[.pointer p] w fun e w' => e = .returned (.int .i64 0) ∧ w.grownBy w' none := by
  go_enter Tryz.func58, Tryz.ntmps58
  go_wp2_with fail
  refine (told_no w p h).mono ?_
  unfold file0
  rintro e w1 ⟨rfl, hg1⟩
  have q0 := fl0
  have q1 := ff2
  go_wp2
  go_ret
  exact ⟨rfl, hg1⟩
set_option maxRecDepth 100000 in
theorem append_no (w : World) (p : Option Addr) (h : No w p) (x : Int) (o : Option Addr) (n c : Nat) : Calls Tryz.prog 15 #[.pointer p, .agg #[.int .i64 x, .slice o n c]] w fun e w' => e = .returned (.int .i64 1) ∧ w.grownBy w' none := by
  have hg := alloc_grown w (.cells #[.int .i64 x, .slice o n c] 54)
  go_enter Tryz.func15, Tryz.ntmps15
  go_wp2_with fail
  refine (told_no _ p (h.grown hg)).mono ?_
  unfold file0
  rintro e w1 ⟨rfl, hg1⟩
  have q0 := fl1
  go_wp2
  go_ret
  exact ⟨rfl, grown_trans hg hg1 (by simp)⟩
set_option maxRecDepth 100000 in
theorem find72_nil (w : World) (s : ByteArray) : Calls Tryz.prog 72 #[.pointer none, .string s] w fun e w' => e = .returned (.tuple #[.pointer none, .int .i64 1]) ∧ w' = w := by
  go_enter Tryz.func72, Tryz.ntmps72
  go_wp2_with fail
  refine (known22_nil _ _).mono ?_
  rintro e w1 ⟨rfl, rfl⟩
  go_wp2
  go_ret2
  exact ⟨rfl, rfl⟩
set_option maxRecDepth 100000 in
theorem sync64_nil (w : World) (s : ByteArray) : Calls Tryz.prog 64 #[.pointer none, .string s] w fun e w' => e = .returned (.int .i64 1) ∧ w' = w := by
  go_enter Tryz.func64, Tryz.ntmps64
  go_wp2_with fail
  refine (find72_nil _ _).mono ?_
  rintro e w1 ⟨rfl, rfl⟩
  go_wp2
  go_ret
  exact ⟨rfl, rfl⟩
set_option maxRecDepth 100000 in
theorem read91_nil (w : World) (s : ByteArray) (a n : Int) : Calls Tryz.prog 91 #[.pointer none, .string s, .int .i64 a, .int .i64 n] w fun e w' => e = .returned (.tuple #[.slice none 0 0, .int .i64 1]) ∧ w' = w := by
  go_enter Tryz.func91, Tryz.ntmps91
  go_wp2_with fail
  refine (find72_nil _ _).mono ?_
  rintro e w1 ⟨rfl, rfl⟩
  go_wp2
  go_ret2
  exact ⟨rfl, rfl⟩
set_option maxRecDepth 100000 in
theorem sync_no (w : World) (p : Option Addr) (h : No w p) : Calls Tryz.prog 17 #[.pointer p] w fun e w' => e = .returned (.int .i64 1) ∧ w.grownBy w' none := by
  go_enter Tryz.func17, Tryz.ntmps17
  go_wp2_with fail
  refine (told_no w p h).mono ?_
  unfold file0
  rintro e w1 ⟨rfl, hg1⟩
  have hg2 := alloc_grown w1 Z8
  have hk := World.alloc_heap_new w1 Z8
  have v4 := cell_at hk (i := 4)
  have v5 := cell_at hk (i := 5)
  simp only [List.getElem?_toArray, List.getElem?_cons_zero, List.getElem?_cons_succ] at v4 v5
  go_wp2_with fail
  refine (sync64_nil _ _).mono ?_
  rintro e w2 ⟨rfl, rfl⟩
  go_wp2
  go_ret
  exact ⟨rfl, grown_trans hg1 hg2 (by simp)⟩
set_option maxRecDepth 100000 in
theorem read_no (w : World) (p : Option Addr) (h : No w p) (a b n : Int) : Calls Tryz.prog 19 #[.pointer p, .int .i64 a, .int .i64 b, .int .i64 n] w fun e w' => e = .returned (.tuple #[.slice none 0 0, .int .i64 1]) ∧ w.grownBy w' none := by
  go_enter Tryz.func19, Tryz.ntmps19
  go_wp2_with fail
  refine (told_no w p h).mono ?_
  unfold file0
  rintro e w1 ⟨rfl, hg1⟩
  have hg2 := alloc_grown w1 Z8
  have hk := World.alloc_heap_new w1 Z8
  have v4 := cell_at hk (i := 4)
  simp only [List.getElem?_toArray, List.getElem?_cons_zero, List.getElem?_cons_succ] at v4
  go_wp2
  go_ret2
  exact ⟨rfl, grown_trans hg1 hg2 (by simp)⟩
end Go.Proofs.YtlghcboenkglnaaGreatDoor
