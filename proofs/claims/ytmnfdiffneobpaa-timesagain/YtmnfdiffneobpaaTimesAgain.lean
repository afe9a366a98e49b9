/-
  For any base, records, place and time the call of TimesAgain returns true and leaves the records as they were. No condition.
-/
import Derived.Test.YtmnfdiffneobpaaRows
import Derived.Test.YtmnfdiffneobpaaJ3
import Derived.Test.YtmnfdiffneobpaaArgs2
namespace Go.Proofs.Ytmnfdiffneobpaa
open Go.ChangeShapes Go.WideShapes Go.ChangeAt Go.RowKit
set_option linter.unusedVariables false
namespace TimesAgainDone

theorem own : ownKnob Try.prog.godebug = none := by kernel_rfl
theorem laidOut : laidOutB Try.prog = true := by kernel_rfl

set_option maxRecDepth 100000 in
theorem lifted (os : Os) (started : os.Started) (H : Type) (enc : TypeId × Value → H) :
    ReturnsInHanded {} Try.checked os 6 .any (Rows.timesAgainSpec.pre6 enc Try.prog Try.f6 Rows.timesAgainRow.domain false) (Rows.timesAgainSpec.post enc Try.prog Try.f6 false true false false) := by
  refine returnsInHanded_of_change_sized (C := Try.checked) own started (by kernel_rfl) Try.func6
    (ChangeSpec.witness6 (enc := enc) (C := Try.checked) false ⟨#[], #[.agg #[.int .i64 0, .slice none 0 0, .int .i64 0, .int .i64 0]], []⟩ 8 (by kernel_rfl) (by kernel_rfl) (by kernel_rfl) (by kernel_rfl)) ?_
  intro W base args ds gs before hval0 hW hcnd hsz0 _
  have hval : ∀ (j : Nat) t v, Try.f6.params[j]? = some t → args[j]? = some v → Value.okWide Try.prog W .any base t v := hval0
  have hsz : (DataW.weightsEach Try.prog (Try.f6.params.toList ++ Rows.timesAgainSpec.plain.varTypes Try.prog) (ds ++ gs)).all (· ≤ reachBytes) = true := hsz0
  have hW' := hW
  obtain ⟨p, q, hA0, hV, rfl, hfz, hnd⟩ := hW
  have hA : DataW.TrodAll enc Try.prog W 0 (fun _ => true) true Try.f6.params.toList args.toList ds p := hA0
  rw [Try.params6] at hA hval hsz
  obtain ⟨v0, vs0, d0, ds0, p0, q0, hargs, rfl, rfl, h0, r0⟩ := trodAll_cons hA
  obtain ⟨rfl, rfl, rfl⟩ := trodAll_nil r0
  obtain rfl : args = #[v0] := by cases args; simp_all
  obtain ⟨rfl, rfl⟩ := trodVars_none hV
  have ok0 := hval 0 51 v0 rfl rfl
  obtain ⟨u0, u1, u2, u3, rfl, o0, o1, o2, o3⟩ := okWide_four (t0 := 2) (t1 := 24) (t2 := 3) (t3 := 2) Try.underlying51 (by kernel_rfl) (by kernel_rfl) ok0
  have ok1 := okWide_cell Try.underlying24 o1
  obtain ⟨a0, len0, cap0, rfl⟩ := okWide_slice Try.underlying24 ok1
  have at0 := okWide_at Try.underlying24 ok1
  have k0 := h0
  have lt0 : ∀ x ∈ p0, x.block < W.heap.size := by obtain ⟨m, hm⟩ := k0; exact DataW.trod_lt m _ _ _ hm
  have w0 : ∀ k ∈ d0.weights Try.prog 51, k ≤ reachBytes := fun k hk => of_decide_eq_true (List.all_eq_true.1 hsz k (DataW.weights_mem_each (j := 0) rfl rfl k hk))
  obtain ⟨fuel, hf⟩ := h0
  have hf2 : DataW.trod enc Try.prog W 0 (fun _ => true) true fuel 51 [u0, .slice a0 len0 cap0, u2, u3] = some (d0, p0) := hf
  obtain ⟨y0, y1, y2, y3, fu, hd, g0, g1, g2, g3⟩ := open_four Try.underlying51 rfl rfl rfl rfl (by kernel_rfl) (by kernel_rfl) (by kernel_rfl) (by kernel_rfl) hf2
  rw [hd] at w0
  have w1 := weights_four Try.underlying51 w0
  obtain ⟨rl, hQ⟩ : ∃ rl, Gr.Rs W a0 len0 cap0 rl :=
    Gr.open_recs (d := y1.1) (p := y1.2) Try.underlying24 Try.underlying57 (by kernel_rfl) rfl rfl rfl (by kernel_rfl) rfl rfl (by kernel_rfl) Try.underlying2 Try.underlying40 Try.underlying5 (by kernel_rfl) (by kernel_rfl) w1 g1
  obtain ⟨z0, e0, _, wz0⟩ := DataW.trod_int Try.underlying2 g0
  obtain ⟨z2, e2, _, wz2⟩ := DataW.trod_int Try.underlying3 g2
  obtain ⟨z3, e3, _, wz3⟩ := DataW.trod_int Try.underlying2 g3
  simp only [List.cons.injEq, and_true] at e0 e2 e3
  subst e0
  subst e2
  subst e3
  have walk := timesAgain_any W z0 z2 z3 a0 len0 cap0 rl hQ at0
  clear hA0 hval0 hsz0
  refine walk.mono fun e W' ⟨he, hg⟩ => ?_
  have bel := grownBy_below hg
  subst he
  exact ⟨_, rfl, _, _, _, [], _, [], hW', trodAll_mk1 (shut_bool Try.underlying4 _), (trodAll_cons_mk (Below.trod laidOut (by kernel_rfl) (of_decide_eq_true (by kernel_rfl)) k0 bel lt0) trodAll_mk0), rfl, bel.frame _, fun h => by cases h⟩

theorem over : Rows.timesAgainRow.holds Try.pinned (OpenSpec.ofChange Rows.timesAgainSpec) :=
  OpenClaim.holds_of_wide 6 Try.f6 rfl rfl rfl rfl rfl rfl rfl ⟨rfl, rfl, rfl, rfl, rfl⟩ rfl rfl rfl rfl rfl (by kernel_rfl) Try.func6 (by kernel_rfl)
    (of_decide_eq_true (by kernel_rfl)) (by unfold Func.isWrapper; first | (rw [if_pos (by decide +kernel)]; kernel_rfl) | (rw [if_neg (by decide +kernel)]; exact ⟨rfl, rfl⟩))
    (fun os started H enc _ => lifted os started H enc)
end TimesAgainDone

theorem timesAgain_holds : Rows.TimesAgainSaid := TimesAgainDone.over
#print axioms timesAgain_holds
end Go.Proofs.Ytmnfdiffneobpaa
