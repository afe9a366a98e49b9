/-
  For any records, base, bytes and number the call of RecordSizes returns true and leaves what it was handed as it was. No condition.
-/
import Derived.Test.YtlfgikhjcimppabRows
import Derived.Test.YtlfgikhjcimppabYx
import Derived.Test.YtlfgikhjcimppabArgs2
namespace Go.Proofs.Ytlfgikhjcimppab
open Go.ChangeShapes Go.WideShapes Go.ChangeAt Go.RowKit
set_option linter.unusedVariables false
namespace RecordSizesDone

theorem own : ownKnob Try.prog.godebug = none := by kernel_rfl
theorem laidOut : laidOutB Try.prog = true := by kernel_rfl

set_option maxRecDepth 100000 in
theorem lifted (os : Os) (started : os.Started) (H : Type) (enc : TypeId × Value → H) :
    ReturnsInHanded {} Try.checked os 3 .any (Rows.recordSizesSpec.pre6 enc Try.prog Try.f3 Rows.recordSizesRow.domain false) (Rows.recordSizesSpec.post enc Try.prog Try.f3 false true false false) := by
  refine returnsInHanded_of_change_sized (C := Try.checked) own started (by kernel_rfl) Try.func3
    (ChangeSpec.witness6 (enc := enc) (C := Try.checked) false ⟨#[], #[.agg #[.slice none 0 0, .int .i64 0, .slice none 0 0, .int .i64 0]], []⟩ 8 (by kernel_rfl) (by kernel_rfl) (by kernel_rfl) (by kernel_rfl)) ?_
  intro W base args ds gs before hval0 hW hcnd hsz0 _
  have hval : ∀ (j : Nat) t v, Try.f3.params[j]? = some t → args[j]? = some v → Value.okWide Try.prog W .any base t v := hval0
  have hsz : (DataW.weightsEach Try.prog (Try.f3.params.toList ++ Rows.recordSizesSpec.plain.varTypes Try.prog) (ds ++ gs)).all (· ≤ reachBytes) = true := hsz0
  have hW' := hW
  obtain ⟨p, q, hA0, hV, rfl, hfz, hnd⟩ := hW
  have hA : DataW.TrodAll enc Try.prog W 0 (fun _ => true) true Try.f3.params.toList args.toList ds p := hA0
  rw [Try.params3] at hA hval hsz
  obtain ⟨v0, vs0, d0, ds0, p0, q0, hargs, rfl, rfl, h0, r0⟩ := trodAll_cons hA
  obtain ⟨rfl, rfl, rfl⟩ := trodAll_nil r0
  obtain rfl : args = #[v0] := by cases args; simp_all
  obtain ⟨rfl, rfl⟩ := trodVars_none hV
  have ok0 := hval 0 25 v0 rfl rfl
  obtain ⟨u0, u1, u2, u3, rfl, o0, o1, o2, o3⟩ := okWide_four (t0 := 22) (t1 := 2) (t2 := 23) (t3 := 3) Try.underlying25 (by kernel_rfl) (by kernel_rfl) ok0
  have ok1 := okWide_cell Try.underlying22 o0
  obtain ⟨a0, len0, cap0, rfl⟩ := okWide_slice Try.underlying22 ok1
  have at0 := okWide_at Try.underlying22 ok1
  have ok2 := okWide_cell Try.underlying23 o2
  obtain ⟨a2, len2, cap2, rfl⟩ := okWide_slice Try.underlying23 ok2
  have at2 := okWide_at Try.underlying23 ok2
  have k0 := h0
  have lt0 : ∀ x ∈ p0, x.block < W.heap.size := by obtain ⟨m, hm⟩ := k0; exact DataW.trod_lt m _ _ _ hm
  have w0 : ∀ k ∈ d0.weights Try.prog 25, k ≤ reachBytes := fun k hk => of_decide_eq_true (List.all_eq_true.1 hsz k (DataW.weights_mem_each (j := 0) rfl rfl k hk))
  obtain ⟨fuel, hf⟩ := h0
  have hf2 : DataW.trod enc Try.prog W 0 (fun _ => true) true fuel 25 [.slice a0 len0 cap0, u1, .slice a2 len2 cap2, u3] = some (d0, p0) := hf
  obtain ⟨y0, y1, y2, y3, fu, hd, g0, g1, g2, g3⟩ := open_four Try.underlying25 rfl rfl rfl rfl (by kernel_rfl) (by kernel_rfl) (by kernel_rfl) (by kernel_rfl) hf2
  rw [hd] at w0
  have w1 := (weights_four Try.underlying25 w0).1
  obtain ⟨l, hl⟩ : ∃ l, Rs W a0 len0 cap0 l :=
    open_recs (d := y0.1) (p := y0.2) Try.underlying22 Try.underlying37 (by kernel_rfl) rfl rfl rfl (by kernel_rfl) rfl rfl (by kernel_rfl) Try.underlying2 Try.underlying23 Try.underlying5 (by kernel_rfl) (by kernel_rfl) at0 w1 g0
  obtain ⟨M, hM, _⟩ := open_bytes (ao := a2) (n := len2) (cap := cap2) (d := y2.1) (p := y2.2) Try.underlying23 Try.underlying5 (by kernel_rfl) g2
  obtain ⟨z1, e1, _, wz1⟩ := DataW.trod_int Try.underlying2 g1
  obtain ⟨z3, e3, _, wz3⟩ := DataW.trod_int Try.underlying3 g3
  simp only [List.cons.injEq, and_true] at e1 e3
  subst e1
  subst e3
  have walk := recordSizes_any W a0 len0 cap0 l z1 z3 a2 len2 cap2 M hl hM
  refine walk.mono fun e W' ⟨he, hg⟩ => ?_
  have bel := grownBy_below hg
  subst he
  exact ⟨_, rfl, _, _, _, [], _, [], hW', trodAll_mk1 (shut_bool Try.underlying4 _), (trodAll_cons_mk (Below.trod laidOut (by kernel_rfl) (of_decide_eq_true (by kernel_rfl)) k0 bel lt0) trodAll_mk0), rfl, bel.frame _, fun h => by cases h⟩

theorem over : Rows.recordSizesRow.holds Try.pinned (OpenSpec.ofChange Rows.recordSizesSpec) :=
  OpenClaim.holds_of_wide 3 Try.f3 rfl rfl rfl rfl rfl rfl rfl ⟨rfl, rfl, rfl, rfl, rfl⟩ rfl rfl rfl rfl rfl (by kernel_rfl) Try.func3 (by kernel_rfl)
    (of_decide_eq_true (by kernel_rfl)) (by unfold Func.isWrapper; first | (rw [if_pos (by decide +kernel)]; kernel_rfl) | (rw [if_neg (by decide +kernel)]; exact ⟨rfl, rfl⟩))
    (fun os started H enc _ => lifted os started H enc)
end RecordSizesDone

theorem recordSizes_holds : Rows.RecordSizesSaid := RecordSizesDone.over
#print axioms recordSizes_holds
end Go.Proofs.Ytlfgikhjcimppab
