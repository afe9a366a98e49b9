/-
  CrcSeals: the walk.
-/
import Derived.Test.YtkfpgmpjimnleaaDoorE3
import Derived.Deep.RegionHeld
namespace Go.Proofs.YtkfpgmpjimnleaaDoor
open Go.RowKit
set_option linter.unusedVariables false

set_option maxRecDepth 100000 in
set_option maxHeartbeats 4000000 in
theorem crcSeals_few (w : World) (ao bo : Option Addr) (n m c d : Nat) (x y : List UInt8) (ha : Bs w ao n c x) (hb : Bs w bo m d y) (hD : Dt w) (hn : n ≤ 20000) (hm : m ≤ 20000) :
    Calls Tryd.prog 5 #[.slice ao n c, .slice bo m d] w fun e w' => e = .returned (.bool true) ∧ w.grownBy w' none := by
  obtain ⟨f, l, a, hb1, hb2⟩ := burst_both ao bo n m c d x y hn
  obtain ⟨E, z, ho1, ho2⟩ := open_both bo m d y hm
  have hd1 : decide ((20000 : Int) < (n : Int)) = false := by simp; omega
  have hd2 : decide ((20000 : Int) < (m : Int)) = false := by simp; omega
  go_enter Tryd.func5, Tryd.ntmps5
  go_wp2_with fail
  refine (seal_any _ _ n c x ha (by omega)).mono ?_
  rintro e w1 ⟨gs, rfl, hs1, hg1⟩
  have hS1 := hs1.shows
  clear hs1
  go_wp2_with fail
  refine (ho1 _ (hb.grown hg1)).mono ?_
  rintro e w2 ⟨xo, xn, xc, rfl, hx2, hg2⟩
  have hG2 := grown_trans hg1 hg2 (by simp)
  have hS2 := hS1.grown hg2
  clear hg1 hg2 hS1 ho1
  go_wp2_with fail
  refine (ho2 _ (hb.grown hG2)).mono ?_
  rintro e w2 ⟨⟨yo, yn, yc, rfl, hy2⟩, hw⟩
  subst hw
  clear ho2
  go_wp2_with fail
  refine (hb1 _ (ha.grown hG2) (hb.grown hG2)).mono ?_
  rintro e w3 ⟨rfl, hg3⟩
  have hG3 := grown_trans hG2 hg3 (by simp)
  have hS3 := hS2.grown hg3
  have hx3 := hx2.grown hg3
  have hy3 := hy2.grown hg3
  clear hG2 hg3 hS2 hx2 hy2 hb1
  go_wp2_with fail
  refine (hb2 _ (ha.grown hG3) (hb.grown hG3)).mono ?_
  rintro e w3 ⟨rfl, hw⟩
  subst hw
  clear hb2
  have hGd := grown_trans hG3 (grown_drew w3 none) (by simp)
  have hSd := hS3.grown (grown_drew w3 none)
  have hxd := hx3.grown (grown_drew w3 none)
  have hyd := hy3.grown (grown_drew w3 none)
  have had := ha.grown hGd
  obtain ⟨sv, hsv⟩ : ∃ sv : ByteArray, sv = ⟨(x ++ low (sm x) 4).toArray⟩ := ⟨_, rfl⟩
  obtain ⟨zv, hzv⟩ : ∃ zv : ByteArray, zv = ⟨z.toArray⟩ := ⟨_, rfl⟩
  have hcs : ∀ w ao n cap, Bs w ao n cap (x ++ low (sm x) 4) → (convert 26 9 (.slice ao n cap)).run Tryd.prog w = .ok (.string sv) w := fun w ao n cap h => by
    rw [hsv]; exact run_string_bs (P := Tryd.prog) w 26 9 5 Tryd.underlying26 Tryd.underlying5 Tryd.underlying9 h
  have hcz : ∀ w ao n cap, Bs w ao n cap z → (convert 26 9 (.slice ao n cap)).run Tryd.prog w = .ok (.string zv) w := fun w ao n cap h => by
    rw [hzv]; exact run_string_bs (P := Tryd.prog) w 26 9 5 Tryd.underlying26 Tryd.underlying5 Tryd.underlying9 h
  have p1 := hcs _ _ _ _ hSd
  have p2 := hcz _ _ _ _ hxd
  have p3 := hcz _ _ _ _ hyd
  clear hsv hzv hS3 hx3 hy3 hG3
  go_wp2_with fail
  go_region_held (fun w' => (convert 26 9 (.slice (some ⟨gs, 0, none⟩) (n + 4) (n + 4))).run Tryd.prog w' = .ok (.string sv) w' ∧ (convert 26 9 (.slice xo xn xc)).run Tryd.prog w' = .ok (.string zv) w' ∧ (convert 26 9 (.slice yo yn yc)).run Tryd.prog w' = .ok (.string zv) w')
    (first | exact ⟨r1, r2, r3⟩ | exact ⟨q1, q2, q3⟩ | exact ⟨p1, p2, p3⟩)
    ((first
      | (go_at_call 27; refine (rseal_any _ ao n c x had (by omega)).mono ?_; rintro e w4 ⟨ro, rc, rfl, hr4, hg4⟩; have q0 := hcs _ _ _ _ hr4.shows; have q1 := hcs _ _ _ _ (hSd.grown hg4); have q2 := hcz _ _ _ _ (hxd.grown hg4); have q3 := hcz _ _ _ _ (hyd.grown hg4))
      | (go_at_call 28; refine (num_any _ _).mono ?_; rintro e w4 ⟨rfl, hw⟩; subst hw)
      | (go_at_call 10; refine (works_any _ (hD.grown (grown_trans hGd hg4 (by simp)))).mono ?_; rintro e w5 ⟨rfl, hg5⟩; have r1 := hcs _ _ _ _ ((hSd.grown hg4).grown hg5); have r2 := hcz _ _ _ _ ((hxd.grown hg4).grown hg5); have r3 := hcz _ _ _ _ ((hyd.grown hg4).grown hg5))))
  all_goals go_wp2
  all_goals go_ret
  all_goals exact ⟨rfl, grown_trans (grown_trans hGd hg4 (by simp)) hg5 (by simp)⟩

end Go.Proofs.YtkfpgmpjimnleaaDoor
