/-
  The document's index; rises, as.
-/
import Derived.Test.YtmnfdiffneobpaaK2
import Derived.Test.YtmnfdiffneobpaaR1
import Derived.BigQuiet
namespace Go.Proofs.Ytmnfdiffneobpaa
open Go.RowKit Go.Shelf
set_option linter.unusedVariables false

/-- The record of a document's index. -/
def Rx (w : World) (b : Nat) (bs en : Int) (ro : Option Addr) (n rc : Nat) : Prop := w.heap[b]? = some (.cells #[.int .i64 bs, .int .i64 en, .slice ro n rc] 35)
section
variable {w w' : World} {b : Nat} {bs en : Int} {ro : Option Addr} {n rc : Nat}
theorem Rx.c0 (h : Rx w b bs en ro n rc) : w.cell? ⟨b, 0, none⟩ = some (.int .i64 bs) := cell_of h rfl
theorem Rx.c1 (h : Rx w b bs en ro n rc) : w.cell? ⟨b, 1, none⟩ = some (.int .i64 en) := cell_of h rfl
theorem Rx.c2 (h : Rx w b bs en ro n rc) : w.cell? ⟨b, 2, none⟩ = some (.slice ro n rc) := cell_of h rfl
theorem Rx.fz (h : Rx w b bs en ro n rc) (i : Nat) : w.frozen? ⟨b, i, none⟩ = false := by
  unfold Rx at h
  simp [World.frozen?, h]
theorem Rx.lt (h : Rx w b bs en ro n rc) : b < w.heap.size := lt_of_heap h
theorem Rx.chg {S : Nat → Prop} (h : Rx w b bs en ro n rc) (hc : Chg w w' S) (hb : ¬ S b) : Rx w' b bs en ro n rc := (hc.block b h.lt hb).trans h
theorem Rx.set2 (h : Rx w b bs en ro n rc) (ro' : Option Addr) (n' rc' : Nat) : Rx (w.setCell ⟨b, 2, none⟩ (.slice ro' n' rc')) b bs en ro' n' rc' := heap_set h 2 _
theorem Rx.set1 (h : Rx w b bs en ro n rc) (en' : Int) : Rx (w.setCell ⟨b, 1, none⟩ (.int .i64 en')) b bs en' ro n rc := heap_set h 1 _
end
/-- The document's index: base, end, rises. -/
structure Ry (w : World) (b : Nat) (ro : Option Addr) (rc : Nat) (bs en : Int) (l : List Sd) : Prop where
  ix : Rx w b bs en ro l.length rc
  sw : Sw w 0 ro l.length rc l
section
variable {w w' : World} {b : Nat} {bs en : Int} {ro : Option Addr} {rc : Nat} {l : List Sd}
theorem Ry.chg {S : Nat → Prop} (h : Ry w b ro rc bs en l) (hc : Chg w w' S) (hb : ¬ S b) (hr : ∀ k, blk ro = some k → ¬ S k) : Ry w' b ro rc bs en l := ⟨h.ix.chg hc hb, h.sw.chg hc hr⟩
theorem Ry.grown (h : Ry w b ro rc bs en l) (hg : w.grownBy w' none) : Ry w' b ro rc bs en l := h.chg (Chg.of_grown hg (fun _ => False)) (fun e => e) (fun _ _ e => e)
theorem Ry.lt (h : Ry w b ro rc bs en l) : b < w.heap.size := h.ix.lt
theorem Ry.rlt (h : Ry w b ro rc bs en l) : ∀ k, blk ro = some k → k < w.heap.size := fun k e => (h.sw.from_base k e).2
theorem Ry.rb (h : Ry w b ro rc bs en l) : blk ro ≠ some b := h.sw.not64 h.ix (by decide)

set_option maxRecDepth 100000 in
set_option maxHeartbeats 4000000 in
theorem rises_yes {r1 r2 : Option Addr} {n c1 c2 : Nat} {l : List Sd} (h1 : Sw w 0 r1 n c1 l) (h2 : Sw w 0 r2 n c2 l) (hn : n ≤ 100000) :
    Calls Try.prog 49 #[.slice r1 n c1, .slice r2 n c2] w fun e w' => e = .returned (.bool true) ∧ w.grownBy w' none := by
  have hne := ne64
  have hlen := h1.len
  have d0 : ((n : Int) == (n : Int)) = true := by simp
  go_enter Try.func49, Try.ntmps49
  go_wp2_with fail
  go_loopw [5] (fun v5 wr => ∃ k : Nat, v5 = .int .i64 k ∧ k ≤ n ∧ w.grownBy wr none) (fun v5 _ => n - (intOf v5).toNat)
  case atStart => exact ⟨0, rfl, Nat.zero_le _, grown_refl _ _⟩
  case round =>
    obtain ⟨k, rfl, hk, hg⟩ := hrel
    by_cases hlt : k < n
    · have d1 : decide ((k : Int) < (n : Int)) = true := by simp; omega
      obtain ⟨t, ht⟩ : ∃ t, l[k]? = some t := ⟨_, List.getElem?_eq_getElem (by omega)⟩
      obtain ⟨g1, rfl, _, _⟩ := h1.addr (by omega)
      obtain ⟨g2, rfl, _, _⟩ := h2.addr (by omega)
      have p0 := (h1.grown hg).at ht 0 (by decide)
      have p1 := (h1.grown hg).at ht 1 (by decide)
      have q0 := (h2.grown hg).at ht 0 (by decide)
      have q1 := (h2.grown hg).at ht 1 (by decide)
      simp only [Sd.cells, List.getElem?_cons_zero, List.getElem?_cons_succ, Nat.add_zero] at p0 p1 q0 q1
      have i1 : (0 : Int) ≤ (k : Int) := by omega
      have i2 : (k : Int) < (n : Int) := by omega
      clear ht
      go_wp2_with fail
      go_quiet (fail)
      have hG := grown_trans hg (grown_drewN wr nq none) (by simp)
      go_wp2
      go_roundw
      case rel => exact ⟨k + 1, by go_num, by omega, hG⟩
      case measure => simp [intOf]; omega
    · have d1 : decide ((k : Int) < (n : Int)) = false := by simp; omega
      go_wp2
      go_ret
      exact ⟨rfl, hg⟩
end
end Go.Proofs.Ytmnfdiffneobpaa
