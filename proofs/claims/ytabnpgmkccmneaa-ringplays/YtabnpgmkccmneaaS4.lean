/-
  The walks of the program's queue (of texts): Take, Full, All.
-/
import Derived.Test.YtabnpgmkccmneaaS3
namespace Go.Proofs.Ytabnpgmkccmneaa
open Go.RowKit
set_option linter.unusedVariables false
namespace Rs

set_option maxRecDepth 100000 in
set_option maxHeartbeats 400000 in
theorem take_none (w : World) (b g bnd f : Nat) (h : Rg w 9 b g bnd f []) :
    Calls Try.prog 27 #[.pointer (some ⟨b, 0, none⟩)] w fun e w' => e = .returned (.tuple #[(.string ⟨#[]⟩), .int .i64 4]) ∧ w' = w := by
  go_enter Try.func27, Try.ntmps27
  go_wp2_with fail
  refine (peek_out _ b g bnd f 0 [] h (Or.inr (by simp))).mono ?_
  rintro e w1 ⟨rfl, rfl⟩
  go_wp2
  go_ret2
  exact ⟨rfl, rfl⟩

set_option maxRecDepth 100000 in
set_option maxHeartbeats 400000 in
theorem take_any (w : World) (b g bnd f : Nat) (u : Value) (l : List Value) (h : Rg w 9 b g bnd f (u :: l)) :
    Calls Try.prog 27 #[.pointer (some ⟨b, 0, none⟩)] w fun e w' => e = .returned (.tuple #[u, .int .i64 0]) ∧ Rg w' 9 b g bnd ((f + 1) % bnd) l ∧ Chg w w' (two b g) := by
  go_enter Try.func27, Try.ntmps27
  go_wp2_with fail
  refine (peek_any _ b g bnd f 0 (u :: l) u h rfl).mono ?_
  rintro e w1 ⟨rfl, hg1⟩
  have h1 := h.grown hg1
  clear h
  go_wp2_with fail
  refine (leave_any _ b g bnd f 1 (u :: l) h1 (by simp)).mono ?_
  rintro e w2 ⟨rfl, hr2, hc2⟩
  have hC := (Chg.of_grown hg1 (two b g)).trans hc2
  have hr3 : Rg w2 9 b g bnd ((f + 1) % bnd) l := hr2
  clear hr2 hc2 hg1 h1
  go_wp2
  go_ret2
  exact ⟨rfl, hr3, hC⟩

set_option maxRecDepth 100000 in
set_option maxHeartbeats 400000 in
theorem full_any (w : World) (b g bnd f : Nat) (l : List Value) (h : Rg w 9 b g bnd f l) :
    Calls Try.prog 28 #[.pointer (some ⟨b, 0, none⟩)] w fun e w' => e = .returned (.bool (decide (l.length = bnd))) ∧ w.grownBy w' none := by
  have h0 := h.c0
  have h2 := h.c2
  obtain ⟨t, ht⟩ : ∃ t, ((l.length : Int) == (bnd : Int)) = t := ⟨_, rfl⟩
  have HT : Hid (decide (l.length = bnd) = t) := by
    show _ = _
    rw [← ht]
    by_cases h9 : l.length = bnd
    · simp [h9]
    · have : ¬ (l.length : Int) = (bnd : Int) := by omega
      rw [decide_eq_false h9]; exact (beq_eq_false_iff_ne.2 this).symm
  go_enter Try.func28, Try.ntmps28
  go_wp2_with fail
  go_quiet ((go_at_call 37; exact Calls.quiet_of_same (there_yes _ b g bnd f l (h.grown (grown_drewN _ _ none)))))
  go_wp2
  go_ret
  exact ⟨by rw [HT.out]; rfl, grown_drewN _ _ none⟩

/-- What All answered: it goes over the row l, laid in block o. -/
structure Sq (w : World) (c o : Nat) (l : List Value) : Prop where
  box : w.cell? ⟨c, 0, none⟩ = some (.slice (some ⟨o, 0, none⟩) l.length l.length)
  row : Ro w o 9 l

theorem Sq.chg {w w' : World} {c o : Nat} {l : List Value} {S : Nat → Prop} (h : Sq w c o l) (hc : Chg w w' S) (h1 : ¬ S c) (h2 : ¬ S o) : Sq w' c o l := ⟨hc.cell h.box h1, h.row.chg hc h2⟩

set_option maxRecDepth 100000 in
set_option maxHeartbeats 400000 in
theorem all_any (w : World) (b g bnd f : Nat) (l : List Value) (h : Rg w 9 b g bnd f l) :
    Calls Try.prog 26 #[.pointer (some ⟨b, 0, none⟩)] w fun e w' => ∃ c o, e = .returned (.func (.func 47) #[] #[.pointer (some ⟨c, 0, none⟩)]) ∧ Sq w' c o l ∧ w.heap.size ≤ o ∧ w.heap.size ≤ c ∧ w.grownBy w' none := by
  go_enter Try.func26, Try.ntmps26
  go_wp2_with fail
  refine (list_any _ b g bnd f l h).mono ?_
  rintro e w1 ⟨o, rfl, hro, ho, hg1⟩
  clear h
  go_wp2
  go_ret
  have hc := World.grownBy_alloc w1 (.cells #[.slice (some ⟨o, 0, none⟩) l.length l.length] 43) none
  have hs := hg1.size
  exact ⟨_, o, rfl, ⟨by simp, hro.grown hc⟩, ho, hs, grown_trans hg1 hc (by simp)⟩

end Rs
end Go.Proofs.Ytabnpgmkccmneaa
