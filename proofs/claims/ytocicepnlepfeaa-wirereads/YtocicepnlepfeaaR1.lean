/-
  The walks of the document's reader: Word, Float, Skip, String.
-/
import Derived.Test.YtocicepnlepfeaaW9
import Derived.Deep.QuietTactic
import Derived.BigQuiet
namespace Go.Proofs.Ytocicepnlepfeaa
open Go.RowKit
set_option linter.unusedVariables false

theorem Bs.heap {w W : World} {ao : Option Addr} {n cap : Nat} {l : List UInt8} (h : Bs w ao n cap l) (e : W.heap = w.heap) : Bs W ao n cap l :=
  ⟨h.len, h.room, h.top, h.nil, fun a ha j u hu => by rw [World.cell?_of_block (w := w) (by rw [e])]; exact h.cells a ha j u hu⟩

/-- The document's reader lies in block rb: the bytes L, and where it stands. -/
structure Rf (w : World) (rb : Nat) (ao : Option Addr) (n cap : Nat) (L : List UInt8) (at' : Nat) : Prop where
  c0 : w.cell? ⟨rb, 0, none⟩ = some (.slice ao n cap)
  c1 : w.cell? ⟨rb, 1, none⟩ = some (.int .i64 at')
  fz : ∀ i, w.frozen? ⟨rb, i, none⟩ = false
  bs : Bs w ao n cap L
  le : at' ≤ n
  bd : cap ≤ 140737488355328
  ap : ∀ a, ao = some a → a.block ≠ rb

theorem Rf.lt {w : World} {rb : Nat} {ao : Option Addr} {n cap : Nat} {L : List UInt8} {at' : Nat} (h : Rf w rb ao n cap L at') : rb < w.heap.size := World.block_lt_of_cell? w _ h.c0

theorem Rf.kept {w w' : World} {rb : Nat} {ao : Option Addr} {n cap : Nat} {L : List UInt8} {at' : Nat} {row : Option Nat} (h : Rf w rb ao n cap L at') (hg : w.grownBy w' row) (hb : some rb ≠ row) (hgr : ∀ a, ao = some a → some a.block ≠ row) : Rf w' rb ao n cap L at' := by
  have hblk := hg.block rb h.lt hb
  refine ⟨?_, ?_, ?_, h.bs.kept hg hgr, h.le, h.bd, h.ap⟩
  · rw [World.cell?_of_block (w := w) hblk]; exact h.c0
  · rw [World.cell?_of_block (w := w) hblk]; exact h.c1
  · intro i; rw [World.frozen?_of_block (w := w) hblk]; exact h.fz i

theorem Rf.grown {w w' : World} {rb : Nat} {ao : Option Addr} {n cap : Nat} {L : List UInt8} {at' : Nat} (h : Rf w rb ao n cap L at') (hg : w.grownBy w' none) : Rf w' rb ao n cap L at' := h.kept hg (by simp) (by simp)

/-- 'r.At = ..'. -/
theorem Rf.moved {w : World} {rb : Nat} {ao : Option Addr} {n cap : Nat} {L : List UInt8} {at' : Nat} (h : Rf w rb ao n cap L at') (k : Nat) (hk : k ≤ n) :
    Rf (w.setCell ⟨rb, 1, none⟩ (.int .i64 k)) rb ao n cap L k ∧ w.grownBy (w.setCell ⟨rb, 1, none⟩ (.int .i64 k)) (some rb) := by
  have hg := setCell_grown w rb 1 (.int .i64 k)
  refine ⟨⟨?_, ?_, ?_, h.bs.kept hg (fun a ha => by have := h.ap a ha; simpa using this), hk, h.bd, h.ap⟩, hg⟩
  · rw [World.cell?_setCell_other _ _ _ _ (by simp)]; exact h.c0
  · rw [World.cell?_setCell_same _ _ _ h.c1]
  · intro i; simp [h.fz i]

set_option maxRecDepth 100000 in
set_option maxHeartbeats 400000 in
theorem word_no (w : World) (rb : Nat) (ao : Option Addr) (n cap sz : Nat) (L : List UInt8) (at' : Nat) (h : Rf w rb ao n cap L at') (hn : n - at' < sz) (hs : sz ≤ 8) :
    Calls Try.prog 59 #[.pointer (some ⟨rb, 0, none⟩), .int .i64 sz] w fun e w' => e = .returned (.tuple #[.int .u64 0, .int .i64 111]) ∧ w.grownBy w' none := by
  have h0 := h.c0
  have h1 := h.c1
  have h2 := h.le
  have h3 := h.bs.room
  have h4 := h.bd
  have hd : decide ((n : Int) - (at' : Int) < (sz : Int)) = true := by simp; omega
  go_enter Try.func59, Try.ntmps59
  go_wp2_with fail
  go_quiet (fail)
  go_wp2
  go_ret2
  exact ⟨rfl, grown_drewN _ _ none⟩

set_option maxRecDepth 100000 in
set_option maxHeartbeats 400000 in
theorem word_yes (w : World) (rb : Nat) (ao : Option Addr) (n cap sz : Nat) (L : List UInt8) (at' : Nat) (h : Rf w rb ao n cap L at') (hn : sz ≤ n - at') (hs0 : 0 < sz) (hs : sz ≤ 8) :
    Calls Try.prog 59 #[.pointer (some ⟨rb, 0, none⟩), .int .i64 sz] w fun e w' => e = .returned (.tuple #[.int .u64 (val ((L.drop at').take sz)), .int .i64 0]) ∧ Rf w' rb ao n cap L (at' + sz) ∧ w.grownBy w' (some rb) := by
  have h2 := h.le
  have h3 := h.bs.room
  have h4 := h.bd
  obtain ⟨ab, aof, hao, hal⟩ := h.bs.addr (by omega)
  subst hao
  have h0 := h.c0
  have h1 := h.c1
  have hf := h.fz
  have hb := ((h.bs.drop at' h2 (aof + at') (Or.inr rfl)).take sz hn)
  have hd : decide ((n : Int) - (at' : Int) < (sz : Int)) = false := by simp; omega
  have hca : ¬ cap = at' := by omega
  have hi1 : (0 : Int) ≤ (at' : Int) := by omega
  have hi2 : (at' : Int) ≤ (at' : Int) + (sz : Int) := by omega
  have hi3 : (at' : Int) + (sz : Int) ≤ (cap : Int) := by omega
  have hwr : IntKind.i64.wrap ((at' : Int) + (sz : Int)) = (at' : Int) + (sz : Int) := by rw [IntKind.wrap_i64]; omega
  have hz1 : ((at' : Int) + (sz : Int)).toNat - at' = sz := by omega
  go_enter Try.func59, Try.ntmps59
  go_wp2_with fail
  go_quiet (fail)
  have hA := h.grown (grown_drewN w nq none)
  have hgA := grown_drewN w nq none
  have hbA := hb.grown hgA
  clear h hb h0 h1 hf
  generalize w.drewN nq = w1 at *
  have h0 := hA.c0
  have h1 := hA.c1
  go_wp2_with fail
  go_quiet ((go_at_call 20; exact Calls.quiet_of_same (number_any _ _ sz _ _ (hbA.heap (by rfl)) hs)))
  have hB := hA.grown (grown_drewN w1 nq none)
  have hgB := grown_trans hgA (grown_drewN w1 nq none) (by simp)
  clear hA hgA hbA h0 h1
  generalize w1.drewN nq = w2 at *
  have h1 := hB.c1
  have hf := hB.fz
  have hM := hB.moved (at' + sz) (by omega)
  go_wp2
  go_ret2
  exact ⟨rfl, hM.1, grown_trans (grown_any hgB _) hM.2 (fun k hk => Or.inl hk)⟩

set_option maxRecDepth 100000 in
set_option maxHeartbeats 400000 in
theorem float_no (w : World) (rb : Nat) (ao : Option Addr) (n cap : Nat) (L : List UInt8) (at' : Nat) (h : Rf w rb ao n cap L at') (hn : n - at' < 8) :
    Calls Try.prog 60 #[.pointer (some ⟨rb, 0, none⟩)] w fun e w' => e = .returned (.tuple #[.float .f64 0, .int .i64 111]) ∧ w.grownBy w' none := by
  have hc := Try.call19
  go_enter Try.func60, Try.ntmps60
  go_wp2_with fail
  refine (word_no _ rb ao n cap 8 L at' h hn (by omega)).mono ?_
  rintro e w1 ⟨rfl, hg⟩
  go_wp2
  go_ret2
  exact ⟨rfl, hg⟩

set_option maxRecDepth 100000 in
set_option maxHeartbeats 400000 in
theorem float_yes (w : World) (rb : Nat) (ao : Option Addr) (n cap : Nat) (L : List UInt8) (at' : Nat) (h : Rf w rb ao n cap L at') (hn : 8 ≤ n - at') :
    Calls Try.prog 60 #[.pointer (some ⟨rb, 0, none⟩)] w fun e w' => e = .returned (.tuple #[.float .f64 (val ((L.drop at').take 8)), .int .i64 0]) ∧ Rf w' rb ao n cap L (at' + 8) ∧ w.grownBy w' (some rb) := by
  have hc := Try.call19
  go_enter Try.func60, Try.ntmps60
  go_wp2_with fail
  refine (word_yes _ rb ao n cap 8 L at' h hn (by omega) (by omega)).mono ?_
  rintro e w1 ⟨rfl, hr, hg⟩
  go_wp2
  go_ret2
  exact ⟨rfl, hr, hg⟩

set_option maxRecDepth 100000 in
set_option maxHeartbeats 400000 in
theorem refSkip_arg (w : World) (rb : Nat) (k : Int) (hk : k < 0) :
    Calls Try.prog 52 #[.pointer (some ⟨rb, 0, none⟩), .int .i64 k] w fun e w' => e = .returned (.int .i64 2) ∧ w' = w := by
  go_enter Try.func52, Try.ntmps52
  go_wp2
  go_ret
  exact ⟨rfl, rfl⟩

set_option maxRecDepth 100000 in
set_option maxHeartbeats 400000 in
theorem refSkip_more (w : World) (rb : Nat) (ao : Option Addr) (n cap : Nat) (k : Int) (L : List UInt8) (at' : Nat) (h : Rf w rb ao n cap L at') (hk : 0 ≤ k) (hn : (n : Int) - (at' : Int) < k) :
    Calls Try.prog 52 #[.pointer (some ⟨rb, 0, none⟩), .int .i64 k] w fun e w' => e = .returned (.int .i64 111) ∧ w.grownBy w' none := by
  have h0 := h.c0
  have h1 := h.c1
  have h2 := h.le
  have h3 := h.bs.room
  have h4 := h.bd
  have hk' : ¬ k < 0 := by omega
  have hd : decide ((n : Int) - (at' : Int) < k) = true := by simpa using hn
  go_enter Try.func52, Try.ntmps52
  go_wp2_with fail
  go_quiet (fail)
  go_wp2
  go_ret
  exact ⟨rfl, grown_drewN _ _ none⟩

set_option maxRecDepth 100000 in
set_option maxHeartbeats 400000 in
theorem refSkip_ok (w : World) (rb : Nat) (ao : Option Addr) (n cap k : Nat) (L : List UInt8) (at' : Nat) (h : Rf w rb ao n cap L at') (hn : k ≤ n - at') :
    Calls Try.prog 52 #[.pointer (some ⟨rb, 0, none⟩), .int .i64 k] w fun e w' => e = .returned (.int .i64 0) ∧ Rf w' rb ao n cap L (at' + k) ∧ w.grownBy w' (some rb) := by
  have h0 := h.c0
  have h1 := h.c1
  have h2 := h.le
  have h3 := h.bs.room
  have h4 := h.bd
  have hk' : ¬ (k : Int) < 0 := by omega
  have hd : decide ((n : Int) - (at' : Int) < (k : Int)) = false := by simp; omega
  go_enter Try.func52, Try.ntmps52
  go_wp2_with fail
  go_quiet (fail)
  have hB := h.grown (grown_drewN w nq none)
  have hgB := grown_drewN w nq none
  clear h h0 h1
  generalize w.drewN nq = w2 at *
  have h1 := hB.c1
  have hf := hB.fz
  have hM := hB.moved (at' + k) (by omega)
  go_wp2
  go_ret
  exact ⟨rfl, hM.1, grown_trans (grown_any hgB _) hM.2 (fun k hk => Or.inl hk)⟩

end Go.Proofs.Ytocicepnlepfeaa
