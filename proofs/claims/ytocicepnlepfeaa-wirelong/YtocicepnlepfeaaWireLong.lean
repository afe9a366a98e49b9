/-
  The call of WireLong returns true. No condition.
-/
import Derived.Test.YtocicepnlepfeaaLists
import Derived.ProofKit
namespace Go.Proofs.Ytocicepnlepfeaa
open Go.ChangeShapes Go.WideShapes Go.ChangeAt Go.RowKit
set_option linter.unusedVariables false
namespace WireLongDone

set_option maxRecDepth 100000 in
set_option maxHeartbeats 1000000 in
theorem walk (w : World) : Calls Try.prog 7 #[] w fun e w' => e = .returned (.bool true) ∧ w.grownBy w' none := by
  go_enter Try.func7, Try.ntmps7
  go_wp2_with (at_make; refine wpList_make_any _ rfl _ _ 22 rfl w.heap.size 5 Try.underlying22 Try.info5 16777217 16777217 rfl rfl (by omega) (by omega) (by omega) (by omega) (Nat.le_refl _) ?_)
  intro g w1 l ho1 hg1
  have hs1 := ho1.shows
  have ht1 := hs1.take 16777216 (by omega)
  generalize l.take 16777216 = l2 at ht1
  go_wp2_with fail
  refine (appendString_yes _ none _ 0 0 16777216 16777217 [] l2 (Bs.empty _) ht1 (by omega) (by omega)).mono ?_
  rintro e w2 ⟨ao2, cap2, rfl, -, hg2⟩
  have hG2 := grown_trans hg1 hg2 (by simp)
  clear ho1 ht1 hs1 hg1 hg2
  go_wp2_with fail
  refine (appendString_no _ none _ 0 0 16777217 16777217 (by omega)).mono ?_
  rintro e w3 ⟨rfl, rfl⟩
  go_wp2_with (at_make; refine wpList_make_nils _ rfl _ _ 42 rfl 22 Try.underlying42 Try.info22 65537 rfl rfl (by omega) (by omega) (by omega) ?_)
  intro w4 vs ls hl4 hn4 hg4
  have hG4 := grown_trans hG2 hg4 (by simp)
  clear hG2 hg4
  have ht4 := hl4.take 65536 (by omega)
  have hn5 : ∀ s, s ∈ ls.take 65536 → s = [] := fun s hs => hn4 s (List.mem_of_mem_take hs)
  have hen := encL_nils _ hn5
  rw [ht4.len2] at hen
  generalize ls.take 65536 = ls5 at *
  generalize vs.take 65536 = vs5 at *
  have hEN : Hid ((encL ls5).length = 4 * 65536) := hen
  clear hen
  go_wp2_with fail
  refine (appendList_yes _ none _ 0 0 65536 65537 [] vs5 ls5 (Bs.empty _) ht4 (by omega) (fun s hs => by rw [hn5 s hs]; simp) (by rw [hEN.out]; omega)).mono ?_
  rw [hEN.out]
  rintro e w5 ⟨ao5, cap5, rfl, -, hg5⟩
  have hG5 := grown_trans hG4 hg5 (by simp)
  clear hG4 hg5 ht4 hn5 hEN
  go_wp2_with fail
  refine (appendList_many _ none _ 0 0 65537 65537 (by omega)).mono ?_
  rintro e w6 ⟨rfl, rfl⟩
  clear hl4 hn4
  go_wp2_with (go_at_call 27; refine (num_any _ _).mono ?_; rintro e w' ⟨rfl, rfl⟩)
  refine (works_any _).mono ?_
  rintro e w7 ⟨rfl, hg7⟩
  go_wp2
  go_ret
  exact ⟨rfl, grown_trans hG5 hg7 (by simp)⟩

theorem own : ownKnob Try.prog.godebug = none := by kernel_rfl
theorem laidOut : laidOutB Try.prog = true := by kernel_rfl

set_option maxRecDepth 100000 in
theorem lifted (os : Os) (started : os.Started) (H : Type) (enc : TypeId × Value → H) :
    ReturnsInHanded {} Try.checked os 7 .any (Rows.wireLongSpec.pre6 enc Try.prog Try.f7 Rows.wireLongRow.domain false) (Rows.wireLongSpec.post enc Try.prog Try.f7 false true false false) := by
  refine returnsInHanded_of_change (C := Try.checked) own started (by kernel_rfl) Try.func7
    (ChangeSpec.witness6 (enc := enc) (C := Try.checked) false ⟨#[], #[], []⟩ 8 (by kernel_rfl) (by kernel_rfl) (by kernel_rfl) (by kernel_rfl)) ?_
  intro W base args ds gs before hval0 hW hcnd _
  have hW' := hW
  obtain ⟨p, q, hA0, hV, rfl, hfz, hnd⟩ := hW
  have hA : DataW.TrodAll enc Try.prog W 0 (fun _ => true) true Try.f7.params.toList args.toList ds p := hA0
  rw [Try.params7] at hA
  obtain ⟨hargs, rfl, rfl⟩ := trodAll_nil hA
  obtain rfl : args = #[] := by cases args; simp_all
  obtain ⟨rfl, rfl⟩ := trodVars_none hV
  clear hA0 hval0
  refine (walk W).mono fun e W' ⟨he, hg⟩ => ?_
  have bel := grownBy_below hg
  subst he
  exact ⟨_, rfl, _, _, _, [], _, [], hW', trodAll_mk1 (shut_bool Try.underlying4 _), trodAll_mk0, rfl, bel.frame _, fun h => by cases h⟩

theorem over : Rows.wireLongRow.holds Try.pinned (OpenSpec.ofChange Rows.wireLongSpec) :=
  OpenClaim.holds_of_wide 7 Try.f7 rfl rfl rfl rfl rfl rfl rfl ⟨rfl, rfl, rfl, rfl, rfl⟩ rfl rfl rfl rfl rfl (by kernel_rfl) Try.func7 (by kernel_rfl)
    (of_decide_eq_true (by kernel_rfl)) (by unfold Func.isWrapper; first | (rw [if_pos (by decide +kernel)]; kernel_rfl) | (rw [if_neg (by decide +kernel)]; exact ⟨rfl, rfl⟩))
    (fun os started H enc _ => lifted os started H enc)
end WireLongDone

theorem wireLong_holds : Rows.WireLongSaid := WireLongDone.over
#print axioms wireLong_holds
end Go.Proofs.Ytocicepnlepfeaa
