/-
  For any rule, times, place and pieces the call of KeepTells returns true and leaves the pieces as they were. No condition.
-/
import Derived.Test.YtkljmjpapkopbaaRows
import Derived.Test.YtkljmjpapkopbaaT2
import Derived.Test.YtkljmjpapkopbaaArgs3
namespace Go.Proofs.Ytkljmjpapkopbaa
open Go.ChangeShapes Go.WideShapes Go.ChangeAt Go.RowKit
set_option linter.unusedVariables false
namespace KeepTellsDone

theorem own : ownKnob Try.prog.godebug = none := by kernel_rfl
theorem laidOut : laidOutB Try.prog = true := by kernel_rfl

set_option maxRecDepth 100000 in
theorem lifted (os : Os) (started : os.Started) (H : Type) (enc : TypeId × Value → H) :
    ReturnsInHanded {} Try.checked os 3 .any (Rows.keepTellsSpec.pre6 enc Try.prog Try.f3 Rows.keepTellsRow.domain false) (Rows.keepTellsSpec.post enc Try.prog Try.f3 false true false false) := by
  refine returnsInHanded_of_change_sized (C := Try.checked) own started (by kernel_rfl) Try.func3
    (ChangeSpec.witness6 (enc := enc) (C := Try.checked) false ⟨#[], #[.agg #[.int .i64 0, .int .i64 0, .int .i64 0, .int .i64 0, .int .i64 0, .int .i64 0, .int .i64 0, .slice none 0 0]], []⟩ 8 (by kernel_rfl) (by kernel_rfl) (by kernel_rfl) (by kernel_rfl)) ?_
  intro W base args ds gs before hval0 hW hcnd hsz0 _
  have hval : ∀ (j : Nat) t v, Try.f3.params[j]? = some t → args[j]? = some v → Value.okWide Try.prog W .any base t v := hval0
  have hW' := hW
  obtain ⟨p, q, hA0, hV, rfl, hfz, hnd⟩ := hW
  have hA : DataW.TrodAll enc Try.prog W 0 (fun _ => true) true Try.f3.params.toList args.toList ds p := hA0
  rw [Try.params3] at hA hval
  obtain ⟨v0, vs0, d0, ds0, p0, q0, hargs, rfl, rfl, h0, r0⟩ := trodAll_cons hA
  obtain ⟨rfl, rfl, rfl⟩ := trodAll_nil r0
  obtain rfl : args = #[v0] := by cases args; simp_all
  obtain ⟨rfl, rfl⟩ := trodVars_none hV
  have ok0 := hval 0 26 v0 rfl rfl
  obtain ⟨u0, u1, u2, u3, u4, u5, u6, u7, rfl, o7⟩ := okWide_eight (t0 := 2) (t1 := 2) (t2 := 3) (t3 := 2) (t4 := 2) (t5 := 2) (t6 := 3) (t7 := 24) Try.underlying26 (by kernel_rfl) (by kernel_rfl) ok0
  have ok7 := okWide_cell Try.underlying24 o7
  obtain ⟨a0, len0, cap0, rfl⟩ := okWide_slice Try.underlying24 ok7
  have k0 := h0
  have lt0 : ∀ x ∈ p0, x.block < W.heap.size := by obtain ⟨m, hm⟩ := k0; exact DataW.trod_lt m _ _ _ hm
  obtain ⟨fuel, hf⟩ := h0
  have hf2 : DataW.trod enc Try.prog W 0 (fun _ => true) true fuel 26 [u0, u1, u2, u3, u4, u5, u6, .slice a0 len0 cap0] = some (d0, p0) := hf
  obtain ⟨y0, y1, y2, y3, y4, fu, g0, g1, g2, g3, g4⟩ := open_case Try.underlying26 rfl rfl rfl rfl rfl (by kernel_rfl) (by kernel_rfl) (by kernel_rfl) (by kernel_rfl) (by kernel_rfl) hf2
  obtain ⟨x0, x1, x2, x3, fv, s0, s1, s2, s3⟩ := open_four Try.underlying23 rfl rfl rfl rfl (by kernel_rfl) (by kernel_rfl) (by kernel_rfl) (by kernel_rfl) g0
  obtain ⟨l, hP⟩ : ∃ l, Ps W a0 len0 l :=
    open_pcs (d := y4.1) (p := y4.2) Try.underlying24 Try.underlying29 (by kernel_rfl) rfl rfl rfl (by kernel_rfl) (by kernel_rfl) (by kernel_rfl) Try.underlying2 Try.underlying2 Try.underlying2 g4
  obtain ⟨z0, e0, _, wz0⟩ := DataW.trod_int Try.underlying2 s0
  obtain ⟨z1, e1, _, wz1⟩ := DataW.trod_int Try.underlying2 s1
  obtain ⟨z2, e2, _, wz2⟩ := DataW.trod_int Try.underlying3 s2
  obtain ⟨z3, e3, _, wz3⟩ := DataW.trod_int Try.underlying2 s3
  obtain ⟨z4, e4, _, wz4⟩ := DataW.trod_int Try.underlying2 g1
  obtain ⟨z5, e5, _, wz5⟩ := DataW.trod_int Try.underlying2 g2
  obtain ⟨z6, e6, _, wz6⟩ := DataW.trod_int Try.underlying3 g3
  simp only [List.cons.injEq, and_true] at e0 e1 e2 e3 e4 e5 e6
  subst e0
  subst e1
  subst e2
  subst e3
  subst e4
  subst e5
  subst e6
  have walk := keepTells_any ⟨z0, z1, z2, z3⟩ z4 z5 z6 a0 len0 cap0 l hP (open_room Try.underlying24 g4) (open_nil Try.underlying24 g4)
  clear hA0 hval0 hsz0
  refine walk.mono fun e W' ⟨he, hg⟩ => ?_
  have bel := grownBy_below hg
  subst he
  exact ⟨_, rfl, _, _, _, [], _, [], hW', trodAll_mk1 (shut_bool Try.underlying4 _), (trodAll_cons_mk (Below.trod laidOut (by kernel_rfl) (of_decide_eq_true (by kernel_rfl)) k0 bel lt0) trodAll_mk0), rfl, bel.frame _, fun h => by cases h⟩

theorem over : Rows.keepTellsRow.holds Try.pinned (OpenSpec.ofChange Rows.keepTellsSpec) :=
  OpenClaim.holds_of_wide 3 Try.f3 rfl rfl rfl rfl rfl rfl rfl ⟨rfl, rfl, rfl, rfl, rfl⟩ rfl rfl rfl rfl rfl (by kernel_rfl) Try.func3 (by kernel_rfl)
    (of_decide_eq_true (by kernel_rfl)) (by unfold Func.isWrapper; first | (rw [if_pos (by decide +kernel)]; kernel_rfl) | (rw [if_neg (by decide +kernel)]; exact ⟨rfl, rfl⟩))
    (fun os started H enc _ => lifted os started H enc)
end KeepTellsDone

theorem keepTells_holds : Rows.KeepTellsSaid := KeepTellsDone.over
#print axioms keepTells_holds
end Go.Proofs.Ytkljmjpapkopbaa
