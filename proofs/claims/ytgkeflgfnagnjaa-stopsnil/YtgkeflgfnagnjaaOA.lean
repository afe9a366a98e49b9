/-
  stops: what is unsure of a disk that is not there: nothing.
-/
import Derived.Test.YtgkeflgfnagnjaaZav
namespace Go.Proofs.Ytgkeflgfnagnjaa
open Go.RowKit Go.Shelf
set_option linter.unusedVariables false
attribute [local go_sem] Oper.semAt_some

set_option maxRecDepth 100000 in
set_option maxHeartbeats 2000000 in
theorem unsureOf_no {w : World} {p : Option Addr} (h : No w p) : Calls Try.prog 43 #[.pointer p] w fun e w' => e = .returned (.slice none 0 0) ∧ w.grownBy w' none := by
  have hg5 := aGrown w (.cells #[.slice none 0 0] 84)
  have hb5 := Boxed.new w 84 (.slice none 0 0)
  refine (callsIn_wide (n := 5)).1 ?_
  refine callsIn_of_wp_marks Try.func43 rfl trivial ?_
  simp only [Try.ntmps43, List.size_toArray, List.length_cons, List.length_nil, Nat.reduceAdd, Nat.reduceSub, Array.replicate_succ, Array.replicate_zero, List.push_toArray, List.append_toArray, List.nil_append, List.cons_append]
  gi_wp2_with fail
  generalize w.alloc (.cells #[.slice none 0 0] 84) = w5 at *
  refine ⟨trivial, callsIn_wide.2 ((all_no w5 p (h.grown hg5)).mono ?_)⟩
  rintro e w6 ⟨rfl, hz, hg6⟩
  obtain ⟨z, hzz⟩ : ∃ z, w5.heap.size = z := ⟨_, rfl⟩
  rw [hzz] at hz ⊢
  clear hzz
  have hb6 := box_own hb5 hg6 (fun r e => by cases e)
  have hG6 := grown_trans hg5 hg6 (by simp)
  obtain ⟨nb, hnb⟩ : ∃ nb, w.heap.size = nb := ⟨_, rfl⟩
  rw [hnb] at hb6
  simp only [hnb]
  clear hb5 hg5 hg6 hnb
  gi_wp2_with fail
  apply wpIn_rangeFunc_told (α := Empty) (encs := Empty.elim) (Kp := fun _ _ => True) (w0 := w6) rfl (by decide) (gf := 84) (lb := #[.pointer (some ⟨z, 0, none⟩)]) rfl trivial (enters_of Try.func84 (by kernel_rfl) rfl)
    (all1_none 4 w6 z hz) (fun _ _ => trivial) (fun _ _ _ _ _ _ _ _ => trivial) (Below.refl _ _) (fun x => x.elim)
    (fun pre W => Boxed W nb 84 (.slice none 0 0) ∧ w6.grownBy W none)
    (fun _ _ _ => False)
    (fun s A B row hs hg hr => ⟨box_own hs.1 hg (fun r e => (hr r e).2), grown_trans hs.2 hg (fun k e => Or.inr (hr k e).1)⟩)
    (fun cd s A B row hs hg hr => hs.elim)
    ⟨hb6, grown_refl _ _⟩
    (fun _ _ _ _ => False)
  case hAx => intro pre x; exact x.elim
  case hassign => intro pre x; exact x.elim
  case hbody => intro pre x; exact x.elim
  case hstop =>
    intro D c pre W _ hf
    exact hf.elim
  case hdone =>
    rintro D xs W hD _ ⟨hX, hgW⟩ hK
    have k1 := hX.cell
    have hpo := grownBy_putObj' W D (.deferred none)
    have hGf : w.grownBy (W.putObj D (.deferred none)) none := grown_trans (grown_trans hG6 hgW (by simp)) hpo (fun k e => Or.inr (by cases e; have := hG6.size; omega))
    gi_wp2_with fail
    refine ⟨by simp, .inl ⟨_, _, rfl, run_takeDeferred hK, ?_⟩⟩
    exact ⟨_, results_tmp rfl _ _ _, rfl, hGf⟩
end Go.Proofs.Ytgkeflgfnagnjaa
