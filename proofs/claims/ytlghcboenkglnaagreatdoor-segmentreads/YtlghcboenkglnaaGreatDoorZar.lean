import Derived.Test.YtlghcboenkglnaaGreatDoorRecF5
import Derived.Test.YtlghcboenkglnaaGreatDoorZan
import Derived.Test.YtlghcboenkglnaaGreatDoorZam
/-
  find and Read of a place where no whole batch stands.
-/
namespace Go.Proofs.YtlghcboenkglnaaGreatDoor.Rec
open Go.Proofs.YtlghcboenkglnaaGreatDoor
open Go.RowKit
set_option linter.unusedVariables false

theorem lt_of_heap {w : World} {g : Nat} {x : Obj} (h : w.heap[g]? = some x) : g < w.heap.size := by
  rcases Nat.lt_or_ge g w.heap.size with h9 | h9
  · exact h9
  · rw [Array.getElem?_eq_none h9] at h; cases h
/-- Three cells of a new block, written over. -/
theorem three_set {w W : World} {z : Nat} {a b c : Value} {t : TypeId} (hz : w.heap.size ≤ z) (h : W.heap[z]? = some (.cells #[a, b, c] t)) (hG : w.grownBy W none) (x y u : Value) :
    (((W.setCell ⟨z, 0, none⟩ x).setCell ⟨z, 1, none⟩ y).setCell ⟨z, 2, none⟩ u).cell? ⟨z, 0, none⟩ = some x ∧ (((W.setCell ⟨z, 0, none⟩ x).setCell ⟨z, 1, none⟩ y).setCell ⟨z, 2, none⟩ u).cell? ⟨z, 1, none⟩ = some y ∧ (((W.setCell ⟨z, 0, none⟩ x).setCell ⟨z, 1, none⟩ y).setCell ⟨z, 2, none⟩ u).cell? ⟨z, 2, none⟩ = some u ∧ w.grownBy (((W.setCell ⟨z, 0, none⟩ x).setCell ⟨z, 1, none⟩ y).setCell ⟨z, 2, none⟩ u) none := by
  have d0 := cell_of (i := 0) (v := a) h rfl
  have d1 := cell_of (i := 1) (v := b) h rfl
  have d2 := cell_of (i := 2) (v := c) h rfl
  refine ⟨?_, ?_, ?_, ?_⟩
  · rw [World.cell?_setCell_other _ _ _ _ (by simp), World.cell?_setCell_other _ _ _ _ (by simp)]
    exact World.cell?_setCell_same _ _ _ d0
  · rw [World.cell?_setCell_other _ _ _ _ (by simp)]
    exact World.cell?_setCell_same (u := b) _ _ _ (by rw [World.cell?_setCell_other _ _ _ _ (by simp)]; exact d1)
  · exact World.cell?_setCell_same (u := c) _ _ _ (by rw [World.cell?_setCell_other _ _ _ _ (by simp), World.cell?_setCell_other _ _ _ _ (by simp)]; exact d2)
  · exact grown_trans (grown_trans (grown_trans hG (setCell_grown _ _ _ _) (fun k hk => Or.inr (by cases hk; exact hz))) (setCell_grown _ _ _ _) (fun k hk => Or.inr (by cases hk; exact hz))) (setCell_grown _ _ _ _) (fun k hk => Or.inr (by cases hk; exact hz))
theorem two_set {w W : World} {z : Nat} {a b : Value} {t : TypeId} (hz : w.heap.size ≤ z) (h : W.heap[z]? = some (.cells #[a, b] t)) (hG : w.grownBy W none) (x y : Value) :
    ((W.setCell ⟨z, 0, none⟩ x).setCell ⟨z, 1, none⟩ y).cell? ⟨z, 0, none⟩ = some x ∧ ((W.setCell ⟨z, 0, none⟩ x).setCell ⟨z, 1, none⟩ y).cell? ⟨z, 1, none⟩ = some y ∧ w.grownBy ((W.setCell ⟨z, 0, none⟩ x).setCell ⟨z, 1, none⟩ y) none := by
  have d0 := cell_of (i := 0) (v := a) h rfl
  have d1 := cell_of (i := 1) (v := b) h rfl
  refine ⟨?_, ?_, ?_⟩
  · rw [World.cell?_setCell_other _ _ _ _ (by simp)]
    exact World.cell?_setCell_same _ _ _ d0
  · exact World.cell?_setCell_same (u := b) _ _ _ (by rw [World.cell?_setCell_other _ _ _ _ (by simp)]; exact d1)
  · exact grown_trans (grown_trans hG (setCell_grown _ _ _ _) (fun k hk => Or.inr (by cases hk; exact hz))) (setCell_grown _ _ _ _) (fun k hk => Or.inr (by cases hk; exact hz))
set_option maxRecDepth 100000 in
set_option maxHeartbeats 2000000 in
theorem find_ext (w : World) (ao : Option Addr) (n cap : Nat) (at' E C : Int) (hext : ∀ W, w.grownBy W none → Calls Tryz.prog 164 #[.slice ao n cap, .int .i64 at'] W fun e w' => e = .returned (.tuple #[.int .i64 E, .int .i64 C]) ∧ W.grownBy w' none) (hC : C ≠ 0) :
    Calls Tryz.prog 146 #[.slice ao n cap, .int .i64 at'] w fun e w' => e = .returned (.tuple #[.agg #[.int .i64 0, .slice none 0 0, .int .i64 0], .int .i64 C]) ∧ w.grownBy w' none := by
  have hg0 := alloc_grown w (.cells #[.int .i64 0, .slice none 0 0, .int .i64 0] 226)
  have k0 := heap_alloc_new w (.cells #[.int .i64 0, .slice none 0 0, .int .i64 0] 226)
  have hc : (C != 0) = true := by simpa using hC
  go_enter Tryz.func146, Tryz.ntmps146
  go_wp2_with fail
  generalize w.alloc (.cells #[.int .i64 0, .slice none 0 0, .int .i64 0] 226) = w0 at *
  refine (hext _ hg0).mono ?_
  rintro e w1 ⟨rfl, hg1⟩
  have hG1 := grown_trans hg0 hg1 (by simp)
  have k1 := heap_kept hg1 k0 (by simp)
  have d0 := cell_of (i := 0) (v := .int .i64 0) k1 rfl
  have d1 := cell_of (i := 1) (v := .slice none 0 0) k1 rfl
  have d2 := cell_of (i := 2) (v := .int .i64 0) k1 rfl
  have df := frozen_of k1
  obtain ⟨y0, y1, y2, hG2⟩ := three_set (Nat.le_refl _) k1 hG1 (.int .i64 0) (.slice none 0 0) (.int .i64 0)
  clear hext hg0 hg1 k0 k1
  go_wp2_with fail
  generalize (((w1.setCell ⟨w.heap.size, 0, none⟩ (.int .i64 0)).setCell ⟨w.heap.size, 1, none⟩ (.slice none 0 0)).setCell ⟨w.heap.size, 2, none⟩ (.int .i64 0)) = w6 at *
  refine bodyPost_ret (v := .tuple #[.agg #[.int .i64 0, .slice none 0 0, .int .i64 0], .int .i64 C]) (by simp [results, Tryz.results146, go_sem, y0, y1, y2]) rfl ?_
  exact ⟨rfl, hG2⟩
set_option maxRecDepth 100000 in
set_option maxHeartbeats 4000000 in
theorem find_cut (w : World) (b o n cap i S : Nat) (L : List UInt8) (hb : Bs w (some ⟨b, o, none⟩) n cap L) (hi : i ≤ n) (hn : n ≤ 16777216) (hcap : cap ≤ 9223372036854775807) (hE : extR (L.drop i) = (S, 0)) (h32 : 32 ≤ S) (htop : S ≤ 65536) (hiS : i + S ≤ n) (hno : ¬ Whole ((L.drop i).take S) S) :
    Calls Tryz.prog 146 #[.slice (some ⟨b, o, none⟩) n cap, .int .i64 i] w fun e w' => e = .returned (.tuple #[.agg #[.int .i64 0, .slice none 0 0, .int .i64 0], .int .i64 152]) ∧ w.grownBy w' none := by
  have hroom := hb.room
  have hg0 := alloc_grown w (.cells #[.int .i64 0, .slice none 0 0, .int .i64 0] 226)
  have k0 := heap_alloc_new w (.cells #[.int .i64 0, .slice none 0 0, .int .i64 0] 226)
  have hbs : Bs w (some ⟨b, o + i, none⟩) S (cap - i) ((L.drop i).take S) := (hb.drop i hi (o + i) (Or.inr rfl)).take S (by omega)
  have hcut : ∀ W, w.grownBy W none → Calls Tryz.prog 165 #[.slice (some ⟨b, o + i, none⟩) S (cap - i)] W fun e w' => e = .returned (.tuple #[.agg #[.int .i64 0, .slice none 0 0], .int .i64 152]) ∧ W.grownBy w' none :=
    fun W hg => cut_no W _ S (cap - i) _ (hbs.grown hg) h32 htop (by omega) hno
  have hext := fun W (hg : w.grownBy W none) => extent_any W b o n cap i L (hb.grown hg) hi hn
  rw [hE] at hext
  have j0 : (0 : Int) ≤ (i : Int) := by omega
  obtain ⟨T, hT⟩ : ∃ T, Hid (T = i + S) := ⟨i + S, (rfl : _ = _)⟩
  have hTs : ((i : Int) + (S : Int)) = (T : Int) := by have := hT.out; omega
  have t1 : i ≤ T ∧ T ≤ n ∧ T ≤ cap ∧ T - i = S := by have := hT.out; omega
  obtain ⟨t1, t2, t3, t4⟩ := t1
  have j1 : (i : Int) ≤ (T : Int) := by omega
  have j2 : (T : Int) ≤ (cap : Int) := by omega
  have hc1 : ¬ cap = i := by omega
  have hc2 : ¬ i = cap := by omega
  clear hE hiS hno
  go_enter Tryz.func146, Tryz.ntmps146
  go_wp2_with fail
  generalize w.alloc (.cells #[.int .i64 0, .slice none 0 0, .int .i64 0] 226) = w0 at *
  refine (hext _ hg0).mono ?_
  rintro e w1 ⟨rfl, hg1⟩
  have hG1 := grown_trans hg0 hg1 (by simp)
  have k1 := heap_kept hg1 k0 (by simp)
  go_wp2_with fail
  refine (hcut _ hG1).mono ?_
  rintro e w2 ⟨rfl, hg2⟩
  have k2 := heap_kept hg2 k1 (by simp)
  have hG2 := grown_trans hG1 hg2 (by simp)
  have hlt := lt_of_heap k2
  have ga := alloc_grown w2 (.cells #[.int .i64 0, .slice none 0 0] 54)
  have k3 := heap_kept ga k2 (by simp)
  have hG3 := grown_trans hG2 ga (by simp)
  have d0 := cell_of (i := 0) (v := .int .i64 0) k2 rfl
  have d1 := cell_of (i := 1) (v := .slice none 0 0) k2 rfl
  have d2 := cell_of (i := 2) (v := .int .i64 0) k2 rfl
  have df := frozen_of k2
  have hne2 : ¬ w.heap.size = w2.heap.size := by omega
  have hne3 : ¬ w2.heap.size = w.heap.size := by omega
  obtain ⟨y0, y1, y2, hG4⟩ := three_set (Nat.le_refl _) k2 hG2 (.int .i64 0) (.slice none 0 0) (.int .i64 0)
  have q4 := alloc_grown (((w2.setCell ⟨w.heap.size, 0, none⟩ (.int .i64 0)).setCell ⟨w.heap.size, 1, none⟩ (.slice none 0 0)).setCell ⟨w.heap.size, 2, none⟩ (.int .i64 0)) (.cells #[.int .i64 0, .slice none 0 0] 54)
  replace y0 := q4.cell y0 (by simp)
  replace y1 := q4.cell y1 (by simp)
  replace y2 := q4.cell y2 (by simp)
  have hG5 := grown_trans hG4 q4 (by simp)
  clear hext hcut hg0 hg1 hg2 k0 k1 k2 k3 ga
  go_wp2_with fail
  generalize (((w2.setCell ⟨w.heap.size, 0, none⟩ (.int .i64 0)).setCell ⟨w.heap.size, 1, none⟩ (.slice none 0 0)).setCell ⟨w.heap.size, 2, none⟩ (.int .i64 0)).alloc (.cells #[.int .i64 0, .slice none 0 0] 54) = w6 at *
  refine bodyPost_ret (v := .tuple #[.agg #[.int .i64 0, .slice none 0 0, .int .i64 0], .int .i64 152]) (by simp [results, Tryz.results146, go_sem, y0, y1, y2]) rfl ?_
  exact ⟨rfl, hG5⟩
set_option maxRecDepth 100000 in
set_option maxHeartbeats 2000000 in
theorem read_not (w : World) (ao : Option Addr) (n cap : Nat) (at' C : Int) (hf : ∀ W, w.grownBy W none → Calls Tryz.prog 146 #[.slice ao n cap, .int .i64 at'] W fun e w' => e = .returned (.tuple #[.agg #[.int .i64 0, .slice none 0 0, .int .i64 0], .int .i64 C]) ∧ W.grownBy w' none) (hC : C ≠ 0) :
    Calls Tryz.prog 145 #[.slice ao n cap, .int .i64 at'] w fun e w' => e = .returned (.tuple #[.agg #[.int .i64 0, .slice none 0 0], .int .i64 0, .int .i64 C]) ∧ w.grownBy w' none := by
  have hg0 := alloc_grown w (.cells #[.int .i64 0, .slice none 0 0] 54)
  have k0 := heap_alloc_new w (.cells #[.int .i64 0, .slice none 0 0] 54)
  have hc : (C != 0) = true := by simpa using hC
  go_enter Tryz.func145, Tryz.ntmps145
  go_wp2_with fail
  generalize w.alloc (.cells #[.int .i64 0, .slice none 0 0] 54) = w0 at *
  refine (hf _ hg0).mono ?_
  rintro e w1 ⟨rfl, hg1⟩
  have hG1 := grown_trans hg0 hg1 (by simp)
  have k1 := heap_kept hg1 k0 (by simp)
  have hlt := lt_of_heap k1
  have ga := alloc_grown w1 (.cells #[.int .i64 0, .slice none 0 0, .int .i64 0] 226)
  have d0 := cell_of (i := 0) (v := .int .i64 0) k1 rfl
  have d1 := cell_of (i := 1) (v := .slice none 0 0) k1 rfl
  have df := frozen_of k1
  have hne2 : ¬ w.heap.size = w1.heap.size := by omega
  have hne3 : ¬ w1.heap.size = w.heap.size := by omega
  obtain ⟨y0, y1, hG4⟩ := two_set (Nat.le_refl _) k1 hG1 (.int .i64 0) (.slice none 0 0)
  have q4 := alloc_grown ((w1.setCell ⟨w.heap.size, 0, none⟩ (.int .i64 0)).setCell ⟨w.heap.size, 1, none⟩ (.slice none 0 0)) (.cells #[.int .i64 0, .slice none 0 0, .int .i64 0] 226)
  replace y0 := q4.cell y0 (by simp)
  replace y1 := q4.cell y1 (by simp)
  have hG5 := grown_trans hG4 q4 (by simp)
  clear hf hg0 hg1 k0 k1 ga
  go_wp2_with fail
  generalize ((w1.setCell ⟨w.heap.size, 0, none⟩ (.int .i64 0)).setCell ⟨w.heap.size, 1, none⟩ (.slice none 0 0)).alloc (.cells #[.int .i64 0, .slice none 0 0, .int .i64 0] 226) = w6 at *
  refine bodyPost_ret (v := .tuple #[.agg #[.int .i64 0, .slice none 0 0], .int .i64 0, .int .i64 C]) (by simp [results, Tryz.results145, go_sem, y0, y1]) rfl ?_
  exact ⟨rfl, hG5⟩
set_option maxHeartbeats 1000000 in
theorem extent_nil (w : World) : Calls Tryz.prog 164 #[.slice none 0 0, .int .i64 0] w fun e w' => e = .returned (.tuple #[.int .i64 0, .int .i64 150]) ∧ w.grownBy w' none := by
  have hp := isPlace_any w none 0 0 0
  rw [show plcB 0 0 = true from rfl] at hp
  go_enter Tryz.func164, Tryz.ntmps164
  go_wp2_with fail
  refine hp.mono ?_
  rintro e w1 ⟨rfl, hw1⟩
  obtain rfl : w = w1 := hw1.symm
  go_wp2
  go_ret2
  exact ⟨rfl, grown_refl _ _⟩
theorem extR_ok {L : List UInt8} {S : Nat} (h : extR L = (S, 0)) : 32 ≤ S ∧ S ≤ 65536 ∧ S ≤ L.length ∧ S = 4 + val (L.take 4) := by
  unfold extR at h
  repeat' split at h
  all_goals simp at h
  omega
/-- Bytes, and where they lie if there are any. -/
structure Bp (w : World) (ao : Option Addr) (n cap : Nat) (L : List UInt8) : Prop where
  bs : Bs w ao n cap L
  at_ : ∀ a, ao = some a → ∃ b o, a = ⟨b, o, none⟩
  top : n ≤ 16777216
  cap : cap ≤ 9223372036854775807
theorem Bp.grown {w w' : World} {ao : Option Addr} {n cap : Nat} {L : List UInt8} (h : Bp w ao n cap L) (hg : w.grownBy w' none) : Bp w' ao n cap L := ⟨h.bs.grown hg, h.at_, h.top, h.cap⟩
/-- Is there no whole batch at the beginning of these bytes? What is there then. -/
def NoAt (L : List UInt8) (C : Int) : Prop := C ≠ 0 ∧ ((extR L).2 = C ∨ ((extR L).2 = 0 ∧ C = 152 ∧ ¬ Whole (L.take (extR L).1) (extR L).1))
theorem ext_bp (w : World) (ao : Option Addr) (n cap i : Nat) (L : List UInt8) (h : Bp w ao n cap L) (hi : i ≤ n) : Calls Tryz.prog 164 #[.slice ao n cap, .int .i64 i] w fun e w' => e = .returned (.tuple #[.int .i64 (extR (L.drop i)).1, .int .i64 (extR (L.drop i)).2]) ∧ w.grownBy w' none := by
  cases ao with
  | none =>
    have h1 := h.bs.nil rfl
    have h2 := h.bs.room
    have h3 := h.bs.len
    obtain rfl : n = 0 := by omega
    subst h1
    obtain rfl : i = 0 := by omega
    obtain rfl : L = [] := List.eq_nil_of_length_eq_zero h3
    exact extent_nil w
  | some a =>
    obtain ⟨b, o, rfl⟩ := h.at_ a rfl
    exact extent_any w b o n cap i L h.bs hi h.top
theorem find_no (w : World) (ao : Option Addr) (n cap i : Nat) (L : List UInt8) (C : Int) (h : Bp w ao n cap L) (hi : i ≤ n) (hN : NoAt (L.drop i) C) :
    Calls Tryz.prog 146 #[.slice ao n cap, .int .i64 i] w fun e w' => e = .returned (.tuple #[.agg #[.int .i64 0, .slice none 0 0, .int .i64 0], .int .i64 C]) ∧ w.grownBy w' none := by
  obtain ⟨hC, hN | ⟨h0, rfl, hW⟩⟩ := hN
  · refine find_ext w ao n cap i (extR (L.drop i)).1 C (fun W hW => ?_) hC
    rw [← hN]
    exact ext_bp W ao n cap i L (h.grown hW) hi
  · have hE : extR (L.drop i) = ((extR (L.drop i)).1, 0) := by rw [← h0]
    obtain ⟨s1, s2, s3, _⟩ := extR_ok hE
    have hl := h.bs.len
    rw [List.length_drop, hl] at s3
    obtain ⟨b, o, rfl, _⟩ := h.bs.addr (by omega)
    exact find_cut w b o n cap i _ L h.bs hi h.top h.cap hE s1 s2 (by omega) hW
theorem read_no (w : World) (ao : Option Addr) (n cap i : Nat) (L : List UInt8) (C : Int) (h : Bp w ao n cap L) (hi : i ≤ n) (hN : NoAt (L.drop i) C) :
    Calls Tryz.prog 145 #[.slice ao n cap, .int .i64 i] w fun e w' => e = .returned (.tuple #[.agg #[.int .i64 0, .slice none 0 0], .int .i64 0, .int .i64 C]) ∧ w.grownBy w' none :=
  read_not w ao n cap i C (fun W hW => find_no W ao n cap i L C (h.grown hW) hi hN) hN.1
end Go.Proofs.YtlghcboenkglnaaGreatDoor.Rec

/-
  RecordChanged: the walk.
-/
namespace Go.Proofs.YtlghcboenkglnaaGreatDoor.Rec
open Go.Proofs.YtlghcboenkglnaaGreatDoor
open Go.RowKit
set_option linter.unusedVariables false

/-- Read of bytes: a whole batch, or none. -/
theorem read_any (w : World) (ao : Option Addr) (n cap i : Nat) (L : List UInt8) (h : Bp w ao n cap L) (hi : i ≤ n) :
    Calls Tryz.prog 145 #[.slice ao n cap, .int .i64 i] w fun e w' => w.grownBy w' none ∧ ((∃ C, NoAt (L.drop i) C ∧ e = .returned (.tuple #[.agg #[.int .i64 0, .slice none 0 0], .int .i64 0, .int .i64 C])) ∨
      (∃ S g base rs, extR (L.drop i) = (S, 0) ∧ Whole ((L.drop i).take S) S ∧ e = .returned (.tuple #[.agg #[.int .i64 (bAt ((L.drop i).take S)), .slice (some ⟨g, 0, none⟩) (cAt ((L.drop i).take S)) (cAt ((L.drop i).take S))], .int .i64 S, .int .i64 0]) ∧ w.heap.size ≤ g ∧ g < base ∧ Rw w' g (some ⟨g, 0, none⟩) (cAt ((L.drop i).take S)) (cAt ((L.drop i).take S)) rs ∧ (∀ j d, (ds rs)[j]? = some d → Says ((L.drop i).take S) (posAt ((L.drop i).take S) j) d) ∧ (∀ r ∈ rs, Own w' base r))) := by
  by_cases h0 : (extR (L.drop i)).2 = 0
  · have hE : extR (L.drop i) = ((extR (L.drop i)).1, 0) := by rw [← h0]
    obtain ⟨s1, s2, s3, _⟩ := extR_ok hE
    have hl := h.bs.len
    rw [List.length_drop, hl] at s3
    by_cases hW : Whole ((L.drop i).take (extR (L.drop i)).1) (extR (L.drop i)).1
    · obtain ⟨b, o, rfl, _⟩ := h.bs.addr (by omega)
      refine (read_yes w b o n cap i _ L h.bs hi h.top h.cap hE (by omega) hW).mono ?_
      rintro e w' ⟨g, base, rs, rfl, r1, r2, r3, r4, r5, r6⟩
      exact ⟨r6, Or.inr ⟨_, g, base, rs, hE, hW, rfl, r1, r2, r3, r4, r5⟩⟩
    · have hN : NoAt (L.drop i) 152 := ⟨by omega, Or.inr ⟨h0, rfl, hW⟩⟩
      refine (read_no w ao n cap i L 152 h hi hN).mono ?_
      rintro e w' ⟨rfl, hg⟩
      exact ⟨hg, Or.inl ⟨_, hN, rfl⟩⟩
  · have hN : NoAt (L.drop i) (extR (L.drop i)).2 := ⟨h0, Or.inl rfl⟩
    refine (read_no w ao n cap i L _ h hi hN).mono ?_
    rintro e w' ⟨rfl, hg⟩
    exact ⟨hg, Or.inl ⟨_, hN, rfl⟩⟩
end Go.Proofs.YtlghcboenkglnaaGreatDoor.Rec
