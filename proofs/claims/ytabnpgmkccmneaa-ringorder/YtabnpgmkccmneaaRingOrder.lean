/-
  For every bound, all texts and all steps, the call of RingOrder returns true and leaves its arguments as they were. No condition.
-/
import Derived.Test.YtabnpgmkccmneaaRows
import Derived.Test.YtabnpgmkccmneaaO1
import Derived.Test.YtabnpgmkccmneaaArgs
namespace Go.Proofs.Ytabnpgmkccmneaa
open Go.ChangeShapes Go.WideShapes Go.ChangeAt Go.RowKit
set_option linter.unusedVariables false
namespace RingOrderDone

theorem own : ownKnob Try.prog.godebug = none := by kernel_rfl
theorem laidOut : laidOutB Try.prog = true := by kernel_rfl

set_option maxRecDepth 100000 in
theorem lifted (os : Os) (started : os.Started) (H : Type) (enc : TypeId × Value → H) :
    ReturnsInHanded {} Try.checked os 4 .any (Rows.ringOrderSpec.pre6 enc Try.prog Try.f4 Rows.ringOrderRow.domain false) (Rows.ringOrderSpec.post enc Try.prog Try.f4 false true false false) := by
  refine returnsInHanded_of_change_sized (C := Try.checked) own started (by kernel_rfl) Try.func4
    (ChangeSpec.witness6 (enc := enc) (C := Try.checked) false ⟨#[], #[.int .i64 0, .slice none 0 0, .slice none 0 0], []⟩ 8 (by kernel_rfl) (by kernel_rfl) (by kernel_rfl) (by kernel_rfl)) ?_
  intro W base args ds gs before hval0 hW hcnd hsz0 _
  have hval : ∀ (j : Nat) t v, Try.f4.params[j]? = some t → args[j]? = some v → Value.okWide Try.prog W .any base t v := hval0
  have hW' := hW
  obtain ⟨p, q, hA0, hV, rfl, hfz, hnd⟩ := hW
  have hA : DataW.TrodAll enc Try.prog W 0 (fun _ => true) true Try.f4.params.toList args.toList ds p := hA0
  rw [Try.params4] at hA hval
  obtain ⟨v0, vs0, d0, ds0, p0, q0, hargs, rfl, rfl, h0, r0⟩ := trodAll_cons hA
  obtain ⟨v1, vs1, d1, ds1, p1, q1, rfl, rfl, rfl, h1, r1⟩ := trodAll_cons r0
  obtain ⟨v2, vs2, d2, ds2, p2, q2, rfl, rfl, rfl, h2, r2⟩ := trodAll_cons r1
  obtain ⟨rfl, rfl, rfl⟩ := trodAll_nil r2
  obtain rfl : args = #[v0, v1, v2] := by cases args; simp_all
  obtain ⟨rfl, rfl⟩ := trodVars_none hV
  have ok1 := hval 1 43 v1 rfl rfl
  have ok2 := hval 2 30 v2 rfl rfl
  obtain ⟨z, rfl, rfl, rfl, w0⟩ := open_int Try.underlying3 (hval 0 3 v0 rfl rfl) h0
  obtain ⟨a1, n1, c1, rfl⟩ := okWide_slice Try.underlying43 ok1
  obtain ⟨a2, n2, c2, rfl⟩ := okWide_slice Try.underlying30 ok2
  have k1 := h1
  have k2 := h2
  have lt1 : ∀ x ∈ p1, x.block < W.heap.size := by obtain ⟨m, hm⟩ := k1; exact DataW.trod_lt m _ _ _ hm
  have lt2 : ∀ x ∈ p2, x.block < W.heap.size := by obtain ⟨m, hm⟩ := k2; exact DataW.trod_lt m _ _ _ hm
  obtain ⟨L, hL⟩ : ∃ L : List ByteArray, Vs W a1 n1 c1 (L.map .string) := by
    obtain ⟨fuel, hf⟩ := h1
    exact open_texts Try.underlying43 Try.underlying9 (by kernel_rfl) hf
  obtain ⟨Z, hZ, hzb⟩ : ∃ Z : List Int, Vs W a2 n2 c2 (Z.map (.int .i64)) ∧ ∀ z ∈ Z, -9223372036854775808 ≤ z ∧ z < 9223372036854775808 := by
    obtain ⟨fuel, hf⟩ := h2
    exact open_whole Try.underlying30 Try.underlying3 (by kernel_rfl) hf
  have at1 := okWide_at Try.underlying43 ok1
  have walk : Calls Try.prog 4 #[.int .i64 z, .slice a1 n1 c1, .slice a2 n2 c2] W fun e w' => e = .returned (.bool true) ∧ W.grownBy w' none := by
    by_cases hb : z < 1 ∨ 256 < z ∨ 300 < n1 ∨ 300 < n2
    · exact ringOrder_bad W z a1 a2 n1 c1 n2 c2 hb
    · obtain ⟨bnd, rfl⟩ := Int.eq_ofNat_of_zero_le (show 0 ≤ z by omega)
      refine ringOrder_main W bnd a1 a2 n1 c1 n2 c2 L Z (by omega) (by omega) (by omega) (by omega) hL hZ ?_ ?_ hzb
      · cases a1 with
        | none => exact Or.inl rfl
        | some a => obtain ⟨b, o, rfl, _⟩ := at1 a rfl; exact Or.inr ⟨b, o, rfl⟩
      · intro a ha
        obtain ⟨b, o, rfl, hlt⟩ := at1 a ha
        exact hlt
  clear hA0 hval0 hsz0
  refine walk.mono fun e W' ⟨he, hg⟩ => ?_
  have bel := grownBy_below hg
  subst he
  exact ⟨_, rfl, _, _, _, [], _, [], hW', trodAll_mk1 (shut_bool Try.underlying4 _), (trodAll_cons_mk (shut_int Try.underlying3 w0) (trodAll_cons_mk (Below.trod laidOut (by kernel_rfl) (of_decide_eq_true (by kernel_rfl)) k1 bel lt1) (trodAll_cons_mk (Below.trod laidOut (by kernel_rfl) (of_decide_eq_true (by kernel_rfl)) k2 bel lt2) trodAll_mk0))), rfl, bel.frame _, fun h => by cases h⟩

theorem over : Rows.ringOrderRow.holds Try.pinned (OpenSpec.ofChange Rows.ringOrderSpec) :=
  OpenClaim.holds_of_wide 4 Try.f4 rfl rfl rfl rfl rfl rfl rfl ⟨rfl, rfl, rfl, rfl, rfl⟩ rfl rfl rfl rfl rfl (by kernel_rfl) Try.func4 (by kernel_rfl)
    (of_decide_eq_true (by kernel_rfl)) (by unfold Func.isWrapper; first | (rw [if_pos (by decide +kernel)]; kernel_rfl) | (rw [if_neg (by decide +kernel)]; exact ⟨rfl, rfl⟩))
    (fun os started H enc _ => lifted os started H enc)
end RingOrderDone

theorem ringOrder_holds : Rows.RingOrderSaid := RingOrderDone.over
#print axioms ringOrder_holds
end Go.Proofs.Ytabnpgmkccmneaa
