/-
  RecordSame: the walk.
-/
import Derived.Test.YtlfgikhjcimppaaD8
namespace Go.Proofs.Ytlfgikhjcimppaa
open Go.RowKit
set_option linter.unusedVariables false

set_option maxRecDepth 100000 in
set_option maxHeartbeats 8000000 in
theorem recordSame_any (w : World) (ao bo : Option Addr) (n m cap cap2 : Nat) (l k : List Rc) (ha : Rs w ao n cap l) (hb : Rs w bo m cap2 k) :
    Calls Try.prog 4 #[.slice ao n cap, .slice bo m cap2] w fun e w' => e = .returned (.bool true) ∧ w.grownBy w' none := by
  have hl1 := ha.len
  have hl2 := hb.len
  have ht1 := Nat.le_trans ha.room ha.top
  have ht2 := Nat.le_trans hb.room hb.top
  have hLa := large_any w 300 ao n cap l ha
  have hLb := large_any w 300 bo m cap2 k hb
  have hK := known_any w
  generalize largeB 300 l = A at *
  generalize largeB 300 k = B at *
  go_enter Try.func4, Try.ntmps4
  cases A
  · cases B
    · go_wp2_with fail
      refine hLa.mono ?_
      rintro e w1 ⟨rfl, rfl⟩
      go_wp2_with fail
      refine hLb.mono ?_
      rintro e w1' ⟨rfl, hw⟩
      subst hw
      go_wp2_with fail
      go_loopw [5] (fun i' wr => ∃ i : Nat, i ≤ n ∧ i ≤ m ∧ i' = .int .i64 i ∧ w1'.grownBy wr none) (fun i' _ => n - (intOf i').toNat)
      case atStart => exact ⟨0, Nat.zero_le _, Nat.zero_le _, rfl, grown_refl _ _⟩
      case round =>
        obtain ⟨i, hi, hi2, rfl, hg⟩ := hrel
        by_cases hlt : i < n ∧ i < m
        · obtain ⟨hlt, hlt2⟩ := hlt
          obtain ⟨b, o, rfl, hbl⟩ := ha.addr (by omega)
          obtain ⟨c, q, rfl, hcl⟩ := hb.addr (by omega)
          have h1 : i < l.length := by omega
          have h2 : i < k.length := by omega
          obtain ⟨a1, a2, a3, ak⟩ := (ha.grown hg).at h1
          obtain ⟨b1, b2, b3, bk⟩ := (hb.grown hg).at h2
          have hd : decide ((i : Int) < (n : Int)) = true := by simp; omega
          have hd2 : decide ((i : Int) < (m : Int)) = true := by simp; omega
          generalize l[i] = x at *
          generalize k[i] = y at *
          have hc1 : ∀ W, wr.grownBy W none → Calls Try.prog 25 #[.agg #[.int .i64 x.t, .slice x.ko x.kn x.kc, .slice x.vo x.vn x.vc], .agg #[.int .i64 y.t, .slice y.ko y.kn y.kc, .slice y.vo y.vn y.vc]] W fun e w' => e = .returned (.bool (sameB x y)) ∧ W.grownBy w' none := fun W hW => same_any W x y (ak.grown hW) (bk.grown hW)
          have hc2 : ∀ W, wr.grownBy W none → Calls Try.prog 26 #[.agg #[.int .i64 x.t, .slice x.ko x.kn x.kc, .slice x.vo x.vn x.vc], .agg #[.int .i64 y.t, .slice y.ko y.kn y.kc, .slice y.vo y.vn y.vc]] W fun e w' => e = .returned (.bool (sameB x y)) ∧ W.grownBy w' none := fun W hW => rsame_any W x y (ak.grown hW) (bk.grown hW)
          have h6 : ∀ W, wr.grownBy W none → W.cell? ⟨b, o + i * 3, none⟩ = some (.int .i64 x.t) ∧ W.cell? ⟨b, o + i * 3 + 1, none⟩ = some (.slice x.ko x.kn x.kc) ∧ W.cell? ⟨b, o + i * 3 + 2, none⟩ = some (.slice x.vo x.vn x.vc) ∧ W.cell? ⟨c, q + i * 3, none⟩ = some (.int .i64 y.t) ∧ W.cell? ⟨c, q + i * 3 + 1, none⟩ = some (.slice y.ko y.kn y.kc) ∧ W.cell? ⟨c, q + i * 3 + 2, none⟩ = some (.slice y.vo y.vn y.vc) := fun W hW => ⟨hW.cell a1 (by simp), hW.cell a2 (by simp), hW.cell a3 (by simp), hW.cell b1 (by simp), hW.cell b2 (by simp), hW.cell b3 (by simp)⟩
          clear ak bk
          generalize sameB x y = B at *
          have hBB : (B != B) = false := by simp
          go_wp2_with fail
          go_region_held3 (fun w' => w'.cell? ⟨b, o + i * 3, none⟩ = some (.int .i64 x.t) ∧ w'.cell? ⟨b, o + i * 3 + 1, none⟩ = some (.slice x.ko x.kn x.kc) ∧ w'.cell? ⟨b, o + i * 3 + 2, none⟩ = some (.slice x.vo x.vn x.vc) ∧ w'.cell? ⟨c, q + i * 3, none⟩ = some (.int .i64 y.t) ∧ w'.cell? ⟨c, q + i * 3 + 1, none⟩ = some (.slice y.ko y.kn y.kc) ∧ w'.cell? ⟨c, q + i * 3 + 2, none⟩ = some (.slice y.vo y.vn y.vc)) (first | exact ⟨a1, a2, a3, b1, b2, b3⟩ | exact nn | exact mm)
            (first | (go_at_call 25; refine (hc1 _ (grown_drewN wr 1 none)).mono ?_; rintro e w2 ⟨rfl, hg2⟩; have hgd : wr.grownBy w2 none := grown_trans (grown_drewN wr 1 none) hg2 (by simp); have mm := h6 _ hgd) | (go_at_call 26; refine (hc2 _ (grown_drewN wr 1 none)).mono ?_; rintro e w2 ⟨rfl, hg2⟩; have hgd : wr.grownBy w2 none := grown_trans (grown_drewN wr 1 none) hg2 (by simp); have mm := h6 _ hgd) | (go_at_call 25; refine (hc1 _ hgd).mono ?_; rintro e w3 ⟨rfl, hg3⟩; have hge : wr.grownBy w3 none := grown_trans hgd hg3 (by simp); have nn := h6 _ hge) | (go_at_call 26; refine (hc2 _ hgd).mono ?_; rintro e w3 ⟨rfl, hg3⟩; have hge : wr.grownBy w3 none := grown_trans hgd hg3 (by simp); have nn := h6 _ hge))
          all_goals
            have hG := grown_trans hg hge (by simp)
            clear a1 a2 a3 b1 b2 b3 mm nn h6 hg2 hgd hg3 hge hc1 hc2
            go_wp2
            go_roundw
            case rel => exact ⟨i + 1, by omega, by omega, by go_num, hG⟩
            case measure => simp [intOf]; omega
        · have hS1 : ∀ W, w1'.grownBy W none → Calls Try.prog 20 #[.slice ao n cap, .slice bo m cap2] W fun e w' => e = .returned (.bool (sameAllB l k)) ∧ W.grownBy w' none := fun W hW => sameAll_any W ao bo n m cap cap2 l k (ha.grown hW) (hb.grown hW)
          have hS2 : ∀ W, w1'.grownBy W none → Calls Try.prog 19 #[.slice ao n cap, .slice bo m cap2] W fun e w' => e = .returned (.bool (sameAllB l k)) ∧ W.grownBy w' none := fun W hW => rsameAll_any W ao bo n m cap cap2 l k (ha.grown hW) (hb.grown hW)
          generalize sameAllB l k = S at *
          have hSS : (S == S) = true := by simp
          have fin : True := trivial
          by_cases hn : i < n
          · have hd : decide ((i : Int) < (n : Int)) = true := by simp; omega
            have hd2 : decide ((i : Int) < (m : Int)) = false := by simp; omega
            go_wp2_with fail
            refine (hS1 _ hg).mono ?_
            rintro e w2 ⟨rfl, hg2⟩
            have hG2 := grown_trans hg hg2 (by simp)
            go_wp2_with fail
            refine (hS2 _ hG2).mono ?_
            rintro e w3 ⟨rfl, hg3⟩
            have hG3 := grown_trans hG2 hg3 (by simp)
            go_wp2_with fail
            refine (known_any _).mono ?_
            rintro e w4 ⟨rfl, hg4⟩
            have hG4 := grown_trans hG3 hg4 (by simp)
            go_wp2
            go_ret
            exact ⟨rfl, hG4⟩
          · have hd : decide ((i : Int) < (n : Int)) = false := by simp; omega
            go_wp2_with fail
            refine (hS1 _ hg).mono ?_
            rintro e w2 ⟨rfl, hg2⟩
            have hG2 := grown_trans hg hg2 (by simp)
            go_wp2_with fail
            refine (hS2 _ hG2).mono ?_
            rintro e w3 ⟨rfl, hg3⟩
            have hG3 := grown_trans hG2 hg3 (by simp)
            go_wp2_with fail
            refine (known_any _).mono ?_
            rintro e w4 ⟨rfl, hg4⟩
            have hG4 := grown_trans hG3 hg4 (by simp)
            go_wp2
            go_ret
            exact ⟨rfl, hG4⟩
    · go_wp2_with fail
      refine hLa.mono ?_
      rintro e w1 ⟨rfl, rfl⟩
      go_wp2_with fail
      refine hLb.mono ?_
      rintro e w1' ⟨rfl, hw⟩
      subst hw
      go_wp2_with fail
      refine hK.mono ?_
      rintro e w4 ⟨rfl, hg4⟩
      go_wp2
      go_ret
      exact ⟨rfl, hg4⟩
  · go_wp2_with fail
    refine hLa.mono ?_
    rintro e w1 ⟨rfl, rfl⟩
    go_wp2_with fail
    refine hK.mono ?_
    rintro e w4 ⟨rfl, hg4⟩
    go_wp2
    go_ret
    exact ⟨rfl, hg4⟩
end Go.Proofs.Ytlfgikhjcimppaa
