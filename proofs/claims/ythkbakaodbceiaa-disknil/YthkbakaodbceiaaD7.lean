/-
  A disk that is not there: Names.
-/
import Derived.Test.YthkbakaodbceiaaD6
namespace Go.Proofs.Ythkbakaodbceiaa
open Go.RowKit Go.Shelf
set_option linter.unusedVariables false
attribute [local go_sem] Oper.semAt_some

set_option maxRecDepth 100000 in
set_option maxHeartbeats 1000000 in
theorem names_no (w : World) (p : Option Addr) (h : No w p) : Calls Try.prog 40 #[.pointer p] w fun e w' => e = .returned (.slice none 0 0) ∧ w.grownBy w' none := by
  have hbx := Boxed.new w 77 (.slice none 0 0)
  have hg := alloc_grown w (.cells #[.slice none 0 0] 77)
  have hal := all_no _ p (h.grown hg)
  refine (callsIn_wide (n := 5)).1 ?_
  refine callsIn_of_wp_marks Try.func40 rfl trivial ?_
  simp only [Try.ntmps40, List.size_toArray, List.length_cons, List.length_nil, Nat.reduceAdd, Nat.reduceSub, Array.replicate_succ, Array.replicate_zero, List.push_toArray, List.append_toArray, List.nil_append, List.cons_append]
  gi_wp2_with fail
  refine ⟨trivial, callsIn_wide.2 (hal.mono ?_)⟩
  clear hal
  rintro e w3 ⟨rfl, hz, hg3⟩
  have hbx3 := box_own hbx hg3 (fun r e => by cases e)
  have hB3 := grownBy_below (grown_trans hg hg3 (by simp))
  have hsz := hg3.size
  simp only [World.size_alloc] at hsz hz
  clear hbx hg
  gi_wp2_with fail
  apply wpIn_rangeFunc_told (α := Empty) (encs := Empty.elim) (Kp := fun _ _ => True) (w0 := w3) rfl (by decide) (gf := 63) (lb := #[.pointer (some ⟨w.heap.size + 1, 0, none⟩)]) rfl trivial (enters_of Try.func63 (by kernel_rfl) rfl)
    (all1_none 4 w3 _ hz) (fun _ _ => trivial) (fun _ _ _ _ _ _ _ _ => trivial) (Below.refl _ _) (fun x => x.elim)
    (fun pre W => Boxed W w.heap.size 77 (.slice none 0 0) ∧ Below w.heap.size w W)
    (fun _ _ _ => False)
    (fun s A B row hs hg hr => ⟨box_own hs.1 hg (fun r e => (hr r e).2), (ownFrom_below (β := Unit) (Nat.le_refl _) (by omega)) () A B row hs.2 hg hr⟩)
    (fun cd s A B row hs hg hr => hs.elim)
    ⟨hbx3, hB3⟩
    (fun _ _ _ _ => False)
  case hAx => intro pre x; exact x.elim
  case hassign => intro pre x; exact x.elim
  case hbody => intro pre x; exact x.elim
  case hdone =>
    rintro D xs W hD _ ⟨hb, hB⟩ hK
    have k0 := hb.cell
    gi_wp2_with fail
    refine ⟨by simp, .inl ⟨_, _, rfl, run_takeDeferred hK, ?_⟩⟩
    have hpo := grownBy_putObj' W D (.deferred none)
    exact ⟨_, results_tmp rfl _ _ _, rfl, below_grownBy (hB.grown hpo hB.size (fun k hk => by cases hk; omega))⟩
  case hstop =>
    intro D c pre W _ hf
    exact hf.elim
end Go.Proofs.Ythkbakaodbceiaa
