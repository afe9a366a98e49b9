/-
  For any list of records, base, place and byte the call of RecordChanged returns true and leaves its argument as it was. No condition.
-/
import Derived.Test.YtlfgikhjcimppaaRows
import Derived.Test.YtlfgikhjcimppaaG4
import Derived.Test.YtlfgikhjcimppaaArgs2
namespace Go.Proofs.Ytlfgikhjcimppaa
open Go.ChangeShapes Go.WideShapes Go.ChangeAt Go.RowKit
set_option linter.unusedVariables false
namespace RecordChangedDone

theorem own : ownKnob Try.prog.godebug = none := by kernel_rfl
theorem laidOut : laidOutB Try.prog = true := by kernel_rfl

set_option maxRecDepth 100000 in
theorem lifted (os : Os) (started : os.Started) (H : Type) (enc : TypeId × Value → H) :
    ReturnsInHanded {} Try.checked os 8 .any (Rows.recordChangedSpec.pre6 enc Try.prog Try.f8 Rows.recordChangedRow.domain false) (Rows.recordChangedSpec.post enc Try.prog Try.f8 false true false false) := by
  refine returnsInHanded_of_change_sized (C := Try.checked) own started (by kernel_rfl) Try.func8
    (ChangeSpec.witness6 (enc := enc) (C := Try.checked) false ⟨#[], #[.agg #[.slice none 0 0, .int .i64 0, .int .i64 0, .int .u8 0]], []⟩ 8 (by kernel_rfl) (by kernel_rfl) (by kernel_rfl) (by kernel_rfl)) ?_
  intro W base args ds gs before hval0 hW hcnd hsz0 _
  have hval : ∀ (j : Nat) t v, Try.f8.params[j]? = some t → args[j]? = some v → Value.okWide Try.prog W .any base t v := hval0
  have hsz : (DataW.weightsEach Try.prog (Try.f8.params.toList ++ Rows.recordChangedSpec.plain.varTypes Try.prog) (ds ++ gs)).all (· ≤ reachBytes) = true := hsz0
  have hW' := hW
  obtain ⟨p, q, hA0, hV, rfl, hfz, hnd⟩ := hW
  have hA : DataW.TrodAll enc Try.prog W 0 (fun _ => true) true Try.f8.params.toList args.toList ds p := hA0
  rw [Try.params8] at hA hval hsz
  obtain ⟨v0, vs0, d0, ds0, p0, q0, hargs, rfl, rfl, h0, r0⟩ := trodAll_cons hA
  obtain ⟨rfl, rfl, rfl⟩ := trodAll_nil r0
  obtain rfl : args = #[v0] := by cases args; simp_all
  obtain ⟨rfl, rfl⟩ := trodVars_none hV
  have ok0 := hval 0 71 v0 rfl rfl
  obtain ⟨u0, u1, u2, u3, rfl, o0, o1, o2, o3⟩ := okWide_four (t0 := 22) (t1 := 2) (t2 := 3) (t3 := 5) Try.underlying71 (by kernel_rfl) (by kernel_rfl) ok0
  have ok1 := okWide_cell Try.underlying22 o0
  obtain ⟨a0, len0, cap0, rfl⟩ := okWide_slice Try.underlying22 ok1
  have at0 := okWide_at Try.underlying22 ok1
  have k0 := h0
  have lt0 : ∀ x ∈ p0, x.block < W.heap.size := by obtain ⟨m, hm⟩ := k0; exact DataW.trod_lt m _ _ _ hm
  have w0 : ∀ k ∈ d0.weights Try.prog 71, k ≤ reachBytes := fun k hk => of_decide_eq_true (List.all_eq_true.1 hsz k (DataW.weights_mem_each (j := 0) rfl rfl k hk))
  obtain ⟨fuel, hf⟩ := h0
  have hf2 : DataW.trod enc Try.prog W 0 (fun _ => true) true fuel 71 [.slice a0 len0 cap0, u1, u2, u3] = some (d0, p0) := hf
  obtain ⟨y0, y1, y2, y3, fu, hd, g0, g1, g2, g3⟩ := open_four Try.underlying71 rfl rfl rfl rfl (by kernel_rfl) (by kernel_rfl) (by kernel_rfl) (by kernel_rfl) hf2
  rw [hd] at w0
  have w1 := (weights_four Try.underlying71 w0).1
  obtain ⟨l, hl⟩ : ∃ l, Rs W a0 len0 cap0 l :=
    open_recs (d := y0.1) (p := y0.2) Try.underlying22 Try.underlying42 (by kernel_rfl) rfl rfl rfl (by kernel_rfl) rfl rfl (by kernel_rfl) Try.underlying2 Try.underlying31 Try.underlying5 (by kernel_rfl) (by kernel_rfl) at0 w1 g0
  obtain ⟨z1, e1, _, wz1⟩ := DataW.trod_int Try.underlying2 g1
  obtain ⟨z2, e2, _, wz2⟩ := DataW.trod_int Try.underlying3 g2
  obtain ⟨z3, e3, _, wz3⟩ := DataW.trod_int Try.underlying5 g3
  simp only [List.cons.injEq, and_true] at e1 e2 e3
  subst e1
  subst e2
  subst e3
  obtain ⟨b3, rfl⟩ : ∃ b : UInt8, z3 = (b.toNat : Int) := ⟨UInt8.ofNat z3.toNat, by
    have := wf_u8' wz3
    rw [UInt8.toNat_ofNat']
    omega⟩
  have walk := recordChanged_any W a0 len0 cap0 l z1 z2 b3 (wf_i64' wz1).1 (wf_i64' wz1).2 (wf_i64' wz2).1 (wf_i64' wz2).2 hl
  refine walk.mono fun e W' ⟨he, hg⟩ => ?_
  have bel := grownBy_below hg
  subst he
  exact ⟨_, rfl, _, _, _, [], _, [], hW', trodAll_mk1 (shut_bool Try.underlying4 _), (trodAll_cons_mk (Below.trod laidOut (by kernel_rfl) (of_decide_eq_true (by kernel_rfl)) k0 bel lt0) trodAll_mk0), rfl, bel.frame _, fun h => by cases h⟩

theorem over : Rows.recordChangedRow.holds Try.pinned (OpenSpec.ofChange Rows.recordChangedSpec) :=
  OpenClaim.holds_of_wide 8 Try.f8 rfl rfl rfl rfl rfl rfl rfl ⟨rfl, rfl, rfl, rfl, rfl⟩ rfl rfl rfl rfl rfl (by kernel_rfl) Try.func8 (by kernel_rfl)
    (of_decide_eq_true (by kernel_rfl)) (by unfold Func.isWrapper; first | (rw [if_pos (by decide +kernel)]; kernel_rfl) | (rw [if_neg (by decide +kernel)]; exact ⟨rfl, rfl⟩))
    (fun os started H enc _ => lifted os started H enc)
end RecordChangedDone

theorem recordChanged_holds : Rows.RecordChangedSaid := RecordChangedDone.over
#print axioms recordChanged_holds
end Go.Proofs.Ytlfgikhjcimppaa
