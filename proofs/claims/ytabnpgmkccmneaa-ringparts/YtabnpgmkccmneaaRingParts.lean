/-
  For all numbers, and however many went ahead and are taken, the call of RingParts returns true and leaves its argument as it was. No condition.
-/
import Derived.Test.YtabnpgmkccmneaaRows
import Derived.Test.YtabnpgmkccmneaaP2
import Derived.Test.YtabnpgmkccmneaaArgs
import Derived.Lib.SmallJoins
namespace Go.Proofs.Ytabnpgmkccmneaa
open Go.ChangeShapes Go.WideShapes Go.ChangeAt Go.RowKit
set_option linter.unusedVariables false

section
variable {H : Type} {enc : TypeId × Value → H} {P : Program} {W : World} {base : Nat}
theorem slice_shape {t e : TypeId} {v : Value} {fuel : Nat} {y : DataW H × List MemPlace} (ht : P.underlying t = some (.slice e)) (h : DataW.trod enc P W base (fun _ => true) true fuel t [v] = some y) : ∃ ao n cap, v = .slice ao n cap := by
  rcases Deep.open_slice ht h with ⟨hcs, _⟩ | ⟨a, len, cap, m, n, D, Pl, hcs, _⟩
  · simp only [List.cons.injEq, and_true] at hcs
    exact ⟨_, _, _, hcs⟩
  · simp only [List.cons.injEq, and_true] at hcs
    exact ⟨_, _, _, hcs⟩
end

namespace RingPartsDone

theorem own : ownKnob Try.prog.godebug = none := by kernel_rfl
theorem laidOut : laidOutB Try.prog = true := by kernel_rfl
theorem cells53 : Try.prog.cellsOf 53 = 4 := by kernel_rfl

set_option maxRecDepth 100000 in
theorem lifted (os : Os) (started : os.Started) (H : Type) (enc : TypeId × Value → H) :
    ReturnsInHanded {} Try.checked os 5 .any (Rows.ringPartsSpec.pre6 enc Try.prog Try.f5 Rows.ringPartsRow.domain false) (Rows.ringPartsSpec.post enc Try.prog Try.f5 false true false false) := by
  refine returnsInHanded_of_change_sized (C := Try.checked) own started (by kernel_rfl) Try.func5
    (ChangeSpec.witness6 (enc := enc) (C := Try.checked) false ⟨#[], #[.agg #[.slice none 0 0, .int .i64 0, .int .i64 0, .int .i64 0]], []⟩ 8 (by kernel_rfl) (by kernel_rfl) (by kernel_rfl) (by kernel_rfl)) ?_
  intro W base args ds gs before hval0 hW hcnd hsz0 _
  have hval : ∀ (j : Nat) t v, Try.f5.params[j]? = some t → args[j]? = some v → Value.okWide Try.prog W .any base t v := hval0
  have hW' := hW
  obtain ⟨p, q, hA0, hV, rfl, hfz, hnd⟩ := hW
  have hA : DataW.TrodAll enc Try.prog W 0 (fun _ => true) true Try.f5.params.toList args.toList ds p := hA0
  rw [Try.params5] at hA hval
  obtain ⟨v0, vs0, d0, ds0, p0, q0, hargs, rfl, rfl, h0, r0⟩ := trodAll_cons hA
  obtain ⟨rfl, rfl, rfl⟩ := trodAll_nil r0
  obtain rfl : args = #[v0] := by cases args; simp_all
  obtain ⟨rfl, rfl⟩ := trodVars_none hV
  have k0 := h0
  have lt0 : ∀ x ∈ p0, x.block < W.heap.size := by obtain ⟨m, hm⟩ := k0; exact DataW.trod_lt m _ _ _ hm
  obtain ⟨c0, c1, c2, c3, y0, y1, y2, y3, fu, rfl, rfl, rfl, hy0, hy1, hy2, hy3⟩ := Joins.open_agg4 Try.underlying53 (by kernel_rfl) cells53 (hval 0 53 v0 rfl rfl) h0
  obtain ⟨ahead, e1, rfl, w1⟩ := DataW.trod_int Try.underlying3 hy1
  obtain ⟨n, e2, rfl, w2⟩ := DataW.trod_int Try.underlying3 hy2
  obtain ⟨m, e3, rfl, w3⟩ := DataW.trod_int Try.underlying3 hy3
  obtain ⟨xo, k, cp, rfl⟩ := slice_shape Try.underlying30 hy0
  simp only [List.cons.injEq, and_true] at e1 e2 e3
  subst e1 e2 e3
  obtain ⟨Z, hZ, _⟩ := open_whole (d := y0.1) (p := y0.2) Try.underlying30 Try.underlying3 (by kernel_rfl) hy0
  have hs30 : Value.okWide Try.prog W .any base 30 (.slice xo k cp) := by
    have h9 := hval 0 53 _ rfl rfl
    simp only [Value.okWide, Try.underlying53] at h9
    obtain ⟨cs, e9, _, ts, ht, _, hr⟩ := h9
    cases e9
    have ht2 : Try.prog.cellTypes Try.prog.depth 53 = some [30, 3, 3, 3] := by kernel_rfl
    rw [ht2] at ht
    cases ht
    obtain ⟨u, hu, hc⟩ := hr 0 _ rfl
    cases hu
    simp only [Value.okWide, Try.underlying30]
    exact hc
  have at0 := okWide_at Try.underlying30 hs30
  have walk : Calls Try.prog 5 #[.agg #[.slice xo k cp, .int .i64 ahead, .int .i64 n, .int .i64 m]] W fun e w' => e = .returned (.bool true) ∧ W.grownBy w' none := by
    by_cases hb : 200 < k ∨ ahead < 0 ∨ 50 < ahead ∨ n < 0 ∨ m < 0 ∨ (k : Int) < n ∨ (k : Int) - n < m
    · exact ringParts_bad W xo k cp ahead n m hb
    · obtain ⟨A, rfl⟩ := Int.eq_ofNat_of_zero_le (show 0 ≤ ahead by omega)
      obtain ⟨N, rfl⟩ := Int.eq_ofNat_of_zero_le (show 0 ≤ n by omega)
      obtain ⟨M, rfl⟩ := Int.eq_ofNat_of_zero_le (show 0 ≤ m by omega)
      refine ringParts_main W xo k cp A N M Z hZ ?_ ?_ (by omega) (by omega) (by omega)
      · cases xo with
        | none => exact Or.inl rfl
        | some a => obtain ⟨b, o, rfl, _⟩ := at0 a rfl; exact Or.inr ⟨b, o, rfl⟩
      · intro a ha
        obtain ⟨b, o, rfl, hlt⟩ := at0 a ha
        exact hlt
  clear hA0 hval0 hsz0
  refine walk.mono fun e W' ⟨he, hg⟩ => ?_
  have bel := grownBy_below hg
  subst he
  exact ⟨_, rfl, _, _, _, [], _, [], hW', trodAll_mk1 (shut_bool Try.underlying4 _), (trodAll_cons_mk (Below.trod laidOut (by kernel_rfl) (of_decide_eq_true (by kernel_rfl)) k0 bel lt0) trodAll_mk0), rfl, bel.frame _, fun h => by cases h⟩

theorem over : Rows.ringPartsRow.holds Try.pinned (OpenSpec.ofChange Rows.ringPartsSpec) :=
  OpenClaim.holds_of_wide 5 Try.f5 rfl rfl rfl rfl rfl rfl rfl ⟨rfl, rfl, rfl, rfl, rfl⟩ rfl rfl rfl rfl rfl (by kernel_rfl) Try.func5 (by kernel_rfl)
    (of_decide_eq_true (by kernel_rfl)) (by unfold Func.isWrapper; first | (rw [if_pos (by decide +kernel)]; kernel_rfl) | (rw [if_neg (by decide +kernel)]; exact ⟨rfl, rfl⟩))
    (fun os started H enc _ => lifted os started H enc)
end RingPartsDone

theorem ringParts_holds : Rows.RingPartsSaid := RingPartsDone.over
#print axioms ringParts_holds
end Go.Proofs.Ytabnpgmkccmneaa
