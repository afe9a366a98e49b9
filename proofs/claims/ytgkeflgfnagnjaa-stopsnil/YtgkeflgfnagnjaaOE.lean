/-
  stops: Images' closure over nothing; All's, as an iterator whose loops turn their own records.
-/
import Derived.Test.YtgkeflgfnagnjaaOD
import Derived.Test.YtgkeflgfnagnjaaX2
namespace Go.Proofs.Ytgkeflgfnagnjaa
open Go.RowKit Go.Shelf
set_option linter.unusedVariables false
attribute [local go_sem] Oper.semAt_some run_store_fn

set_option maxRecDepth 100000 in
set_option maxHeartbeats 2000000 in
theorem images1_none (n : Nat) (hn : 3 ≤ n) (w : World) (za zd zl zt : Nat) (hz : Ib w za zd zl zt) :
    SeqOwn (α := Empty) Fence.wide n Try.prog 54 #[.pointer (some ⟨za, 0, none⟩), .pointer (some ⟨zd, 0, none⟩)] Empty.elim (fun _ _ _ _ => True) (fun _ _ => True) (fun _ => True) (fun _ => False) w := by
  intro l J Jx W hB hJa _ _ h0
  have ha := (hB.cell (p := ⟨za, 0, none⟩) hz.a.lt).trans hz.a.cell
  have hN := hz.n.below hB
  show CallsIn Fence.wide n Try.prog 54 #[.func (.yield l) #[] #[], .pointer (some ⟨za, 0, none⟩), .pointer (some ⟨zd, 0, none⟩)] W _
  have hg3 := aGrown W (.cells #[.func (.yield l) #[] #[]] 97)
  have ha3 := hg3.cell ha (by simp)
  have hJ3 := hJa _ _ _ none h0 hg3 (fun q e => by cases e)
  have hN3 := hN.grown hg3
  refine callsIn_of_wp_marks Try.func54 rfl trivial ?_
  simp only [Try.ntmps54, List.size_toArray, List.length_cons, List.length_nil, Nat.reduceAdd, Nat.reduceSub, Array.replicate_succ, Array.replicate_zero, List.push_toArray, List.append_toArray, List.nil_append, List.cons_append]
  gi_wp2_with fail
  generalize W.alloc (.cells #[.func (.yield l) #[] #[]] 97) = w3 at *
  have hs3 := hg3.size
  apply wpIn_rangeFunc_told (α := Empty) (encs := Empty.elim) (Kp := fun _ _ => True) (w0 := w3) rfl (by omega) (gf := 49) (lb := #[.pointer (some ⟨zl, 0, none⟩), .pointer (some ⟨zt, 0, none⟩)]) rfl trivial (enters_of Try.func49 (by kernel_rfl) rfl)
    (sall1_none (n - 1) w3 zl zt hN3) (fun _ _ => trivial) (fun _ _ _ _ _ _ _ _ => trivial) (Below.refl _ _) (fun x => x.elim)
    (fun pre V => J [] V)
    (fun _ _ _ => False)
    (fun s A B row hs hg hr => hJa [] A B row hs hg (fun q e => ⟨by have := (hr q e).1; omega, (hr q e).2⟩))
    (fun cd s A B row hs hg hr => hs.elim)
    hJ3
    (fun _ _ _ _ => False)
  case hAx => intro pre x; exact x.elim
  case hassign => intro pre x; exact x.elim
  case hbody => intro pre x; exact x.elim
  case hstop =>
    intro D c pre V _ hf
    exact hf.elim
  case hdone =>
    rintro D xs V hD _ hI hK
    gi_wp2_with fail
    refine ⟨by simp, .inl ⟨_, _, rfl, run_takeDeferred hK, ?_⟩⟩
    exact ⟨_, results_none rfl _ _ _, ⟨_, rfl⟩, .inl ⟨[], trivial, hJa [] V _ (some D) hI (grownBy_putObj' V D (.deferred none)) (fun r e => by cases e; exact ⟨by omega, _, hK, rfl⟩)⟩⟩
end Go.Proofs.Ytgkeflgfnagnjaa
