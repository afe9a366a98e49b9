import Derived.Test.YtlghcboenkglnaaGreatDoorZax
import Derived.Laws.Tables
/-
  A segment that is not there: what it tells.
-/
namespace Go.Proofs.YtlghcboenkglnaaGreatDoor
open Go.RowKit
set_option linter.unusedVariables false

theorem lt_of_heap {w : World} {k : Nat} {o : Obj} (h : w.heap[k]? = some o) : k < w.heap.size := (Array.getElem?_eq_some_iff.1 h).1
theorem heap_kept {w w' : World} {k : Nat} {o : Obj} {row : Option Nat} (hg : w.grownBy w' row) (h : w.heap[k]? = some o) (hne : some k ≠ row) : w'.heap[k]? = some o := (hg.block k (lt_of_heap h) hne).trans h

/-- The cells of no file; nil, or a zero segment. -/
def zf : Array Value := #[.int .i64 0, .int .i64 0, .int .i64 0, .int .i64 0, .pointer none, .string ⟨#[]⟩, .int .i64 0, .pointer none]
def No (w : World) (p : Option Addr) : Prop := p = none ∨ ∃ b, p = some ⟨b, 0, none⟩ ∧ w.heap[b]? = some (.cells #[.int .i64 0, .int .i64 0, .int .i64 0, .int .i64 0, .pointer none, .string ⟨#[]⟩, .int .i64 0, .pointer none] 104)
theorem No.grown {w w' : World} {p : Option Addr} (h : No w p) (hg : w.grownBy w' none) : No w' p := by
  rcases h with h | ⟨b, h, hc⟩
  · exact .inl h
  · exact .inr ⟨b, h, heap_kept hg hc (by simp)⟩

set_option maxRecDepth 100000 in
set_option maxHeartbeats 2000000 in
theorem told_no (w : World) (p : Option Addr) (h : No w p) : Calls Tryz.prog 59 #[.pointer p] w fun e w' => e = .returned file0 ∧ w.grownBy w' none := by
  have hk := World.alloc_heap_new w (.cells #[.int .i64 0, .int .i64 0, .int .i64 0, .int .i64 0, .pointer none, .string ⟨#[]⟩, .int .i64 0, .pointer none] 102)
  have hg := alloc_grown w (.cells #[.int .i64 0, .int .i64 0, .int .i64 0, .int .i64 0, .pointer none, .string ⟨#[]⟩, .int .i64 0, .pointer none] 102)
  have v0 := cell_at hk (i := 0)
  have v1 := cell_at hk (i := 1)
  have v2 := cell_at hk (i := 2)
  have v3 := cell_at hk (i := 3)
  have v4 := cell_at hk (i := 4)
  have v5 := cell_at hk (i := 5)
  have v6 := cell_at hk (i := 6)
  have v7 := cell_at hk (i := 7)
  simp only [List.getElem?_toArray, List.getElem?_cons_zero, List.getElem?_cons_succ] at v0 v1 v2 v3 v4 v5 v6 v7
  have f0 := fz_at hk 0
  have f1 := fz_at hk 1
  have f2 := fz_at hk 2
  have f3 := fz_at hk 3
  have f4 := fz_at hk 4
  have f5 := fz_at hk 5
  have f6 := fz_at hk 6
  have f7 := fz_at hk 7
  rcases h with rfl | ⟨b, rfl, hb⟩
  · go_enter Tryz.func59, Tryz.ntmps59
    go_wp2_with fail
    generalize w.alloc (.cells #[.int .i64 0, .int .i64 0, .int .i64 0, .int .i64 0, .pointer none, .string ⟨#[]⟩, .int .i64 0, .pointer none] 102) = W at *
    exact bodyPost_ret (v := file0) (by simp [results, Tryz.results59, go_sem, v0, v1, v2, v3, v4, v5, v6, v7, file0]) rfl ⟨rfl, hg⟩
  · have hb2 := heap_kept hg hb (by simp)
    have u0 := cell_at hb2 (i := 0)
    have u1 := cell_at hb2 (i := 1)
    have u2 := cell_at hb2 (i := 2)
    have u3 := cell_at hb2 (i := 3)
    have u4 := cell_at hb2 (i := 4)
    have u5 := cell_at hb2 (i := 5)
    have u6 := cell_at hb2 (i := 6)
    have u7 := cell_at hb2 (i := 7)
    simp only [List.getElem?_toArray, List.getElem?_cons_zero, List.getElem?_cons_succ] at u0 u1 u2 u3 u4 u5 u6 u7
    go_enter Tryz.func59, Tryz.ntmps59
    clear f0 f1 f2 f3 f4 f5 f6 f7
    go_wp2_with fail
    generalize w.alloc (.cells #[.int .i64 0, .int .i64 0, .int .i64 0, .int .i64 0, .pointer none, .string ⟨#[]⟩, .int .i64 0, .pointer none] 102) = W at *
    exact bodyPost_ret (v := file0) (by simp [results, Tryz.results59, go_sem, v0, v1, v2, v3, v4, v5, v6, v7, file0]) rfl ⟨rfl, hg⟩

theorem fl0 (W : World) : (Instr.field 102 (.agg #[.int .i64 0, .int .i64 0, .int .i64 0, .int .i64 0, .pointer none, .string ⟨#[]⟩, .int .i64 0, .pointer none]) 0).run Tryz.prog W = .ok (.agg #[.int .i64 0, .int .i64 0, .int .i64 0, .int .i64 0]) W := by kernel_rfl
theorem ff1 (W : World) : (Instr.field 43 (.agg #[.int .i64 0, .int .i64 0, .int .i64 0, .int .i64 0]) 1).run Tryz.prog W = .ok (.int .i64 0) W := by kernel_rfl
abbrev Z8 : Obj := .cells #[.int .i64 0, .int .i64 0, .int .i64 0, .int .i64 0, .pointer none, .string ⟨#[]⟩, .int .i64 0, .pointer none] 102

set_option maxRecDepth 100000 in
theorem end_no (w : World) (p : Option Addr) (h : No w p) : Calls Tryz.prog 40 #[.pointer p] w fun e w' => e = .returned (.int .i64 0) ∧ w.grownBy w' none := by
  go_enter Tryz.func40, Tryz.ntmps40
  go_wp2_with fail
  refine (told_no w p h).mono ?_
  unfold file0
  rintro e w1 ⟨rfl, hg1⟩
  have q0 := fl0
  have q1 := ff1
  go_wp2
  go_ret
  exact ⟨rfl, hg1⟩
set_option maxRecDepth 100000 in
theorem read_no (w : World) (p : Option Addr) (h : No w p) (a b n : Int) : Calls Tryz.prog 19 #[.pointer p, .int .i64 a, .int .i64 b, .int .i64 n] w fun e w' => e = .returned (.tuple #[.slice none 0 0, .int .i64 1]) ∧ w.grownBy w' none := by
  go_enter Tryz.func19, Tryz.ntmps19
  go_wp2_with fail
  refine (told_no w p h).mono ?_
  unfold file0
  rintro e w1 ⟨rfl, hg1⟩
  have hg2 := alloc_grown w1 Z8
  have hk := World.alloc_heap_new w1 Z8
  have v4 := cell_at hk (i := 4)
  simp only [List.getElem?_toArray, List.getElem?_cons_zero, List.getElem?_cons_succ] at v4
  go_wp2
  go_ret2
  exact ⟨rfl, grown_trans hg1 hg2 (by simp)⟩
end Go.Proofs.YtlghcboenkglnaaGreatDoor

/-
  A block whose cells are written, told by what it holds then. Nothing here speaks of the program.
-/
namespace Go.Proofs.YtlghcboenkglnaaGreatDoor
open Go.RowKit
set_option linter.unusedVariables false

theorem put_heap {w : World} {b i : Nat} {c : Array Value} {t : TypeId} {u v : Value} (h : w.heap[b]? = some (.cells c t)) (hi : c[i]? = some u) : (w.setCell ⟨b, i, none⟩ v).heap[b]? = some (.cells (c.setIfInBounds i v) t) := by
  rw [setCell_eq_setRow w b i c t (0, 0) v h]
  exact setRow_heap w b c _ t (0, 0) h
theorem put1 {w : World} {b i : Nat} {c : Array Value} {t : TypeId} {u : Value} (v : Value) (h : w.heap[b]? = some (.cells c t)) (hi : c[i]? = some u) : ∃ W, W = w.setCell ⟨b, i, none⟩ v ∧ W.heap[b]? = some (.cells (c.setIfInBounds i v) t) ∧ Chg w W (fun k => k = b) :=
  ⟨_, rfl, put_heap h hi, setCell_chg _ _ _ _⟩
/-- Eight cells are written. -/
theorem put8 {w : World} {b : Nat} {t : TypeId} {a0 a1 a2 a3 a4 a5 a6 a7 : Value} (v0 v1 v2 v3 v4 v5 v6 v7 : Value) (h : w.heap[b]? = some (.cells #[a0, a1, a2, a3, a4, a5, a6, a7] t)) :
    ∃ W, W = ((((((((w.setCell ⟨b, 0, none⟩ v0).setCell ⟨b, 1, none⟩ v1).setCell ⟨b, 2, none⟩ v2).setCell ⟨b, 3, none⟩ v3).setCell ⟨b, 4, none⟩ v4).setCell ⟨b, 5, none⟩ v5).setCell ⟨b, 6, none⟩ v6).setCell ⟨b, 7, none⟩ v7) ∧ W.heap[b]? = some (.cells #[v0, v1, v2, v3, v4, v5, v6, v7] t) ∧ Chg w W (fun k => k = b) := by
  obtain ⟨W0, e0, h0, c0⟩ := put1 v0 h (i := 0) rfl
  rw [← e0]
  have g0 : W0.heap[b]? = some (.cells #[v0, a1, a2, a3, a4, a5, a6, a7] t) := h0
  clear h0
  obtain ⟨W1, e1, h1, c1⟩ := put1 v1 g0 (i := 1) rfl
  rw [← e1]
  have g1 : W1.heap[b]? = some (.cells #[v0, v1, a2, a3, a4, a5, a6, a7] t) := h1
  clear h1
  obtain ⟨W2, e2, h2, c2⟩ := put1 v2 g1 (i := 2) rfl
  rw [← e2]
  have g2 : W2.heap[b]? = some (.cells #[v0, v1, v2, a3, a4, a5, a6, a7] t) := h2
  clear h2
  obtain ⟨W3, e3, h3, c3⟩ := put1 v3 g2 (i := 3) rfl
  rw [← e3]
  have g3 : W3.heap[b]? = some (.cells #[v0, v1, v2, v3, a4, a5, a6, a7] t) := h3
  clear h3
  obtain ⟨W4, e4, h4, c4⟩ := put1 v4 g3 (i := 4) rfl
  rw [← e4]
  have g4 : W4.heap[b]? = some (.cells #[v0, v1, v2, v3, v4, a5, a6, a7] t) := h4
  clear h4
  obtain ⟨W5, e5, h5, c5⟩ := put1 v5 g4 (i := 5) rfl
  rw [← e5]
  have g5 : W5.heap[b]? = some (.cells #[v0, v1, v2, v3, v4, v5, a6, a7] t) := h5
  clear h5
  obtain ⟨W6, e6, h6, c6⟩ := put1 v6 g5 (i := 6) rfl
  rw [← e6]
  have g6 : W6.heap[b]? = some (.cells #[v0, v1, v2, v3, v4, v5, v6, a7] t) := h6
  clear h6
  obtain ⟨W7, e7, h7, c7⟩ := put1 v7 g6 (i := 7) rfl
  rw [← e7]
  have g7 : W7.heap[b]? = some (.cells #[v0, v1, v2, v3, v4, v5, v6, v7] t) := h7
  clear h7
  exact ⟨W7, rfl, g7, (((((((c0.trans c1).trans c2).trans c3).trans c4).trans c5).trans c6).trans c7)⟩
/-- The first three of eight cells are written. -/
theorem put8a {w : World} {b : Nat} {t : TypeId} {a0 a1 a2 a3 a4 a5 a6 a7 : Value} (v0 v1 v2 : Value) (h : w.heap[b]? = some (.cells #[a0, a1, a2, a3, a4, a5, a6, a7] t)) :
    ∃ W, W = (((w.setCell ⟨b, 0, none⟩ v0).setCell ⟨b, 1, none⟩ v1).setCell ⟨b, 2, none⟩ v2) ∧ W.heap[b]? = some (.cells #[v0, v1, v2, a3, a4, a5, a6, a7] t) ∧ Chg w W (fun k => k = b) := by
  obtain ⟨W0, e0, h0, c0⟩ := put1 v0 h (i := 0) rfl
  rw [← e0]
  have g0 : W0.heap[b]? = some (.cells #[v0, a1, a2, a3, a4, a5, a6, a7] t) := h0
  clear h0
  obtain ⟨W1, e1, h1, c1⟩ := put1 v1 g0 (i := 1) rfl
  rw [← e1]
  have g1 : W1.heap[b]? = some (.cells #[v0, v1, a2, a3, a4, a5, a6, a7] t) := h1
  clear h1
  obtain ⟨W2, e2, h2, c2⟩ := put1 v2 g1 (i := 2) rfl
  rw [← e2]
  have g2 : W2.heap[b]? = some (.cells #[v0, v1, v2, a3, a4, a5, a6, a7] t) := h2
  clear h2
  exact ⟨W2, rfl, g2, (c0.trans c1).trans c2⟩
/-- Five blocks are laid. -/
theorem five (w : World) (o1 o2 o3 o4 o5 : Obj) : ∃ W, W = ((((w.alloc o1).alloc o2).alloc o3).alloc o4).alloc o5 ∧ W.heap[w.heap.size]? = some o1 ∧ W.heap[w.heap.size + 1]? = some o2 ∧ W.heap[w.heap.size + 1 + 1]? = some o3 ∧ W.heap[w.heap.size + 1 + 1 + 1]? = some o4 ∧ W.heap[w.heap.size + 1 + 1 + 1 + 1]? = some o5 ∧ w.grownBy W none ∧ W.heap.size = w.heap.size + 1 + 1 + 1 + 1 + 1 := by
  obtain ⟨W1, e1⟩ : ∃ W1, w.alloc o1 = W1 := ⟨_, rfl⟩
  obtain ⟨W2, e2⟩ : ∃ W2, W1.alloc o2 = W2 := ⟨_, rfl⟩
  obtain ⟨W3, e3⟩ : ∃ W3, W2.alloc o3 = W3 := ⟨_, rfl⟩
  obtain ⟨W4, e4⟩ : ∃ W4, W3.alloc o4 = W4 := ⟨_, rfl⟩
  obtain ⟨W5, e5⟩ : ∃ W5, W4.alloc o5 = W5 := ⟨_, rfl⟩
  have s1 : W1.heap.size = w.heap.size + 1 := by rw [← e1]; simp
  have s2 : W2.heap.size = W1.heap.size + 1 := by rw [← e2]; simp
  have s3 : W3.heap.size = W2.heap.size + 1 := by rw [← e3]; simp
  have s4 : W4.heap.size = W3.heap.size + 1 := by rw [← e4]; simp
  have s5 : W5.heap.size = W4.heap.size + 1 := by rw [← e5]; simp
  have g1 : w.grownBy W1 none := by rw [← e1]; exact alloc_grown _ _
  have g2 : W1.grownBy W2 none := by rw [← e2]; exact alloc_grown _ _
  have g3 : W2.grownBy W3 none := by rw [← e3]; exact alloc_grown _ _
  have g4 : W3.grownBy W4 none := by rw [← e4]; exact alloc_grown _ _
  have g5 : W4.grownBy W5 none := by rw [← e5]; exact alloc_grown _ _
  have h1 : W1.heap[w.heap.size]? = some o1 := by rw [← e1]; exact World.alloc_heap_new _ _
  have h2 : W2.heap[W1.heap.size]? = some o2 := by rw [← e2]; exact World.alloc_heap_new _ _
  have h3 : W3.heap[W2.heap.size]? = some o3 := by rw [← e3]; exact World.alloc_heap_new _ _
  have h4 : W4.heap[W3.heap.size]? = some o4 := by rw [← e4]; exact World.alloc_heap_new _ _
  have h5 : W5.heap[W4.heap.size]? = some o5 := by rw [← e5]; exact World.alloc_heap_new _ _
  have g45 := g5
  have g35 := grown_trans g4 g45 (by simp)
  have g25 := grown_trans g3 g35 (by simp)
  have g15 := grown_trans g2 g25 (by simp)
  have g05 := grown_trans g1 g15 (by simp)
  refine ⟨W5, by rw [e1, e2, e3, e4, e5], heap_kept g15 h1 (by simp), ?_, ?_, ?_, ?_, g05, by omega⟩
  · rw [← s1]; exact heap_kept g25 h2 (by simp)
  · rw [← s1, ← s2]; exact heap_kept g35 h3 (by simp)
  · rw [← s1, ← s2, ← s3]; exact heap_kept g45 h4 (by simp)
  · rw [← s1, ← s2, ← s3, ← s4]; exact h5
/-- What the call laid itself may be written: to what was there nothing happens. -/
theorem grown_chg {w w1 w' : World} {S : Nat → Prop} (hg : w.grownBy w1 none) (hc : Chg w1 w' S) (hs : ∀ k, S k → w.heap.size ≤ k) : w.grownBy w' none :=
  ((Chg.of_grown hg S).trans hc).grown (fun k hk e => by have := hs k e; omega)
end Go.Proofs.YtlghcboenkglnaaGreatDoor

/-
  A segment that is there: what it tells.
-/
namespace Go.Proofs.YtlghcboenkglnaaGreatDoor
open Go.RowKit
set_option linter.unusedVariables false

/-- A segment's file: batches, end, size, why, the disk's block, name, base, the index' block. -/
structure Fi where
  k : Int
  e : Int
  z : Int
  y : Int
  d : Nat
  nm : ByteArray
  ba : Int
  x : Nat
def Fi.cells (f : Fi) : Array Value := #[.int .i64 f.k, .int .i64 f.e, .int .i64 f.z, .int .i64 f.y, .pointer (some ⟨f.d, 0, none⟩), .string f.nm, .int .i64 f.ba, .pointer (some ⟨f.x, 0, none⟩)]
def Fi.val (f : Fi) : Value := .agg f.cells
/-- A file (of type 102) or a segment (104) lies at s. -/
def Lf (w : World) (s : Nat) (t : TypeId) (f : Fi) : Prop := w.heap[s]? = some (.cells f.cells t)
theorem Lf.grown {w w' : World} {s : Nat} {t : TypeId} {f : Fi} (h : Lf w s t f) (hg : w.grownBy w' none) : Lf w' s t f := heap_kept hg h (by simp)
theorem Lf.lt {w : World} {s : Nat} {t : TypeId} {f : Fi} (h : Lf w s t f) : s < w.heap.size := lt_of_heap h
theorem Lf.chg {w w' : World} {s : Nat} {t : TypeId} {f : Fi} {S : Nat → Prop} (h : Lf w s t f) (hc : Chg w w' S) (hs : ¬ S s) : Lf w' s t f := (hc.block s h.lt hs).trans h

set_option maxRecDepth 100000 in
set_option maxHeartbeats 2000000 in
theorem told_yes (w : World) (s : Nat) (f : Fi) (h : Lf w s 104 f) : Calls Tryz.prog 59 #[.pointer (some ⟨s, 0, none⟩)] w fun e w' => e = .returned f.val ∧ w.grownBy w' none := by
  have hg := alloc_grown w (.cells #[.int .i64 0, .int .i64 0, .int .i64 0, .int .i64 0, .pointer none, .string ⟨#[]⟩, .int .i64 0, .pointer none] 102)
  have hk := World.alloc_heap_new w (.cells #[.int .i64 0, .int .i64 0, .int .i64 0, .int .i64 0, .pointer none, .string ⟨#[]⟩, .int .i64 0, .pointer none] 102)
  have hb2 := h.grown hg
  obtain ⟨k, e, z, y, d, nm, ba, x⟩ := f
  unfold Fi.val Lf Fi.cells at *
  dsimp only at h hb2 ⊢
  have u0 := cell_at hb2 (i := 0)
  have u1 := cell_at hb2 (i := 1)
  have u2 := cell_at hb2 (i := 2)
  have u3 := cell_at hb2 (i := 3)
  have u4 := cell_at hb2 (i := 4)
  have u5 := cell_at hb2 (i := 5)
  have u6 := cell_at hb2 (i := 6)
  have u7 := cell_at hb2 (i := 7)
  simp only [List.getElem?_toArray, List.getElem?_cons_zero, List.getElem?_cons_succ] at u0 u1 u2 u3 u4 u5 u6 u7
  go_enter Tryz.func59, Tryz.ntmps59
  go_wp2_with fail
  generalize hW : w.alloc (.cells #[.int .i64 k, .int .i64 e, .int .i64 z, .int .i64 y, .pointer (some ⟨d, 0, none⟩), .string nm, .int .i64 ba, .pointer (some ⟨x, 0, none⟩)] 102) = W
  have hk2 : W.heap[w.heap.size]? = some (.cells #[.int .i64 k, .int .i64 e, .int .i64 z, .int .i64 y, .pointer (some ⟨d, 0, none⟩), .string nm, .int .i64 ba, .pointer (some ⟨x, 0, none⟩)] 102) := by rw [← hW]; exact World.alloc_heap_new _ _
  have hg2 : w.grownBy W none := by rw [← hW]; exact alloc_grown _ _
  have v0 := cell_at hk2 (i := 0)
  have v1 := cell_at hk2 (i := 1)
  have v2 := cell_at hk2 (i := 2)
  have v3 := cell_at hk2 (i := 3)
  have v4 := cell_at hk2 (i := 4)
  have v5 := cell_at hk2 (i := 5)
  have v6 := cell_at hk2 (i := 6)
  have v7 := cell_at hk2 (i := 7)
  simp only [List.getElem?_toArray, List.getElem?_cons_zero, List.getElem?_cons_succ] at v0 v1 v2 v3 v4 v5 v6 v7
  exact bodyPost_ret (by simp [results, Tryz.results59, go_sem, v0, v1, v2, v3, v4, v5, v6, v7]) rfl ⟨rfl, hg2⟩

section
variable (k e z y ba : Int) (p q : Option Addr) (nm : ByteArray) (W : World)
theorem fa0 : (Instr.field 102 (.agg #[.int .i64 k, .int .i64 e, .int .i64 z, .int .i64 y, .pointer p, .string nm, .int .i64 ba, .pointer q]) 0).run Tryz.prog W = .ok (.agg #[.int .i64 k, .int .i64 e, .int .i64 z, .int .i64 y]) W := by kernel_rfl
theorem fa1 : (Instr.field 102 (.agg #[.int .i64 k, .int .i64 e, .int .i64 z, .int .i64 y, .pointer p, .string nm, .int .i64 ba, .pointer q]) 1).run Tryz.prog W = .ok (.pointer p) W := by kernel_rfl
theorem fa3 : (Instr.field 102 (.agg #[.int .i64 k, .int .i64 e, .int .i64 z, .int .i64 y, .pointer p, .string nm, .int .i64 ba, .pointer q]) 3).run Tryz.prog W = .ok (.int .i64 ba) W := by kernel_rfl
theorem fb1 : (Instr.field 43 (.agg #[.int .i64 k, .int .i64 e, .int .i64 z, .int .i64 y]) 1).run Tryz.prog W = .ok (.int .i64 e) W := by kernel_rfl
end

set_option maxRecDepth 100000 in
theorem base_yes (w : World) (s : Nat) (f : Fi) (h : Lf w s 104 f) : Calls Tryz.prog 45 #[.pointer (some ⟨s, 0, none⟩)] w fun e w' => e = .returned (.int .i64 f.ba) ∧ w.grownBy w' none := by
  go_enter Tryz.func45, Tryz.ntmps45
  go_wp2_with fail
  refine (told_yes w s f h).mono ?_
  unfold Fi.val Fi.cells
  rintro e w1 ⟨rfl, hg1⟩
  have q0 := fa3
  go_wp2
  go_ret
  exact ⟨rfl, hg1⟩
set_option maxRecDepth 100000 in
theorem end_yes (w : World) (s : Nat) (f : Fi) (h : Lf w s 104 f) : Calls Tryz.prog 40 #[.pointer (some ⟨s, 0, none⟩)] w fun e w' => e = .returned (.int .i64 f.e) ∧ w.grownBy w' none := by
  go_enter Tryz.func40, Tryz.ntmps40
  go_wp2_with fail
  refine (told_yes w s f h).mono ?_
  unfold Fi.val Fi.cells
  rintro e w1 ⟨rfl, hg1⟩
  have q0 := fa0
  have q1 := fb1
  go_wp2
  go_ret
  exact ⟨rfl, hg1⟩
end Go.Proofs.YtlghcboenkglnaaGreatDoor

/-
  A segment's name says its log and its base.
-/
namespace Go.Proofs.YtlghcboenkglnaaGreatDoor
open Go.RowKit
set_option linter.unusedVariables false

theorem hv_hexd {d : Nat} (h : d < 16) : hv (hexd d) = some d := by
  have : ∀ d, d < 16 → hv (hexd d) = some d := by decide
  exact this d h
theorem hexd_ok {d : Nat} (h : d < 16) : (48 ≤ (hexd d).toNat ∧ (hexd d).toNat ≤ 57) ∨ (97 ≤ (hexd d).toNat ∧ (hexd d).toNat ≤ 122) := by
  have : ∀ d, d < 16 → (48 ≤ (hexd d).toNat ∧ (hexd d).toNat ≤ 57) ∨ (97 ≤ (hexd d).toNat ∧ (hexd d).toNat ≤ 122) := by decide
  exact this d h
theorem numP_digs (x : Nat) : ∀ k, k ≤ 14 → numP (digs x k) = some (x / 16 ^ (14 - k) % 16 ^ k) := by
  intro k
  induction k with
  | zero => intro _; simp [digs, numP, Nat.mod_one]
  | succ k ih =>
    intro hk
    rw [digs_succ, numP_snoc, ih (by omega)]
    unfold stepN
    rw [hv_hexd (dig_lt x k)]
    unfold dig
    have e1 : 14 - k = (13 - k) + 1 := by omega
    have e2 : 14 - (k + 1) = 13 - k := by omega
    rw [e1, e2, Nat.pow_succ, ← Nat.div_div_eq_div_mul]
    generalize x / 16 ^ (13 - k) = y
    show some (16 * (y / 16 % 16 ^ k) + y % 16) = some (y % 16 ^ (k + 1))
    rw [Nat.pow_succ, Nat.mul_comm (16 ^ k) 16, Nat.mod_mul, Nat.add_comm]
theorem numP_name {x : Nat} (h : x ≤ 9007199254740992) : numP (digs x 14) = some x := by
  rw [numP_digs x 14 (Nat.le_refl _)]
  simp
  omega
/-- The name of a segment. -/
def segN (s : ByteArray) (x : Nat) : ByteArray := ⟨(nameL s x).toArray⟩
theorem segN_size (s : ByteArray) (x : Nat) : (segN s x).size = s.size + 15 := by
  show (nameL s x).toArray.size = _
  simp [nameL, digs_len]
theorem segN_list (s : ByteArray) (x : Nat) : (segN s x).data.toList = s.data.toList ++ 45 :: digs x 14 := by
  show (nameL s x).toArray.toList = _
  simp [nameL]
theorem parse_name {s : ByteArray} {x : Nat} (hs : logB s = true) (hx : x ≤ 9007199254740992) : parseR (segN s x) = some (s, x) := by
  have h1 : 1 ≤ s.size := by unfold logB at hs; simp at hs; omega
  have hl : s.data.toList.length = s.size := rfl
  have e0 : (segN s x).size - 14 = s.size + 1 := by rw [segN_size]; omega
  have e1 : (segN s x).size - 15 = s.size := by rw [segN_size]; omega
  have e2 : (segN s x).data.toList.drop (s.size + 1) = digs x 14 := by rw [segN_list, ← hl, List.drop_append]; simp
  have e3 : (segN s x).extract 0 s.size = s := by
    apply ByteArray.ext
    apply Array.ext'
    rw [ext_list, segN_list, ← hl]
    simp
  have e4 : (segN s x).data.toList[s.size]? = some 45 := by rw [segN_list, ← hl]; simp
  unfold parseR
  rw [if_neg (by rw [segN_size]; omega), e0, e2, numP_name hx]
  dsimp only
  rw [e1, e3, e4, if_pos ⟨hs, rfl, hx⟩]
theorem parseV_name {s : ByteArray} {x : Nat} (hs : logB s = true) (hx : x ≤ 9007199254740992) : parseV (segN s x) = .tuple #[.string s, .int .i64 (x : Int), .bool true] := by
  unfold parseV
  rw [parse_name hs hx]
theorem parseV_none : parseV ⟨#[]⟩ = .tuple #[.string ⟨#[]⟩, .int .i64 0, .bool false] := by
  unfold parseV parseR
  rw [if_pos (by decide)]
end Go.Proofs.YtlghcboenkglnaaGreatDoor
