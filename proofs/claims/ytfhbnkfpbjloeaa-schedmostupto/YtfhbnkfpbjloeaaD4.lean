/-
  The document's Most.
-/
import Derived.Test.YtfhbnkfpbjloeaaD3
namespace Go.Proofs.Ytfhbnkfpbjloeaa
open Go.RowKit
set_option linter.unusedVariables false

set_option maxRecDepth 100000 in
set_option maxHeartbeats 8000000 in
theorem rmost_any {w : World} (lo : Option Addr) (n lc : Nat) (l : List Int) (hl : Vs w lo n lc (l.map iv)) (co : Option Addr) (m cc : Nat) (L : List (List Bool)) (hC : Bss w co m L) (hn : n ≤ 1000000) (hw : wid L ≤ 2000000) :
    Calls Try.prog 21 #[.slice lo n lc, .slice co m cc] w fun e w' => ∃ v er, e = .returned (.tuple #[.int .i64 v, .int .i64 er]) ∧ MostR l L v er ∧ w.grownBy w' none := by
  have hln : l.length = n := by simpa using hl.len
  have hLm := hC.len
  by_cases hnm : n = m
  rotate_left
  · have hM : Hid (MostR l L 0 2) := Or.inl ⟨fun h => hnm (by have := h.1; omega), rfl, rfl⟩
    have d1 : ((n : Int) == (m : Int)) = false := by simp; omega
    have d1' : (n == m) = false := by simpa using hnm
    go_enter Try.func21, Try.ntmps21
    go_wp2
    go_ret2
    exact ⟨0, 2, rfl, hM, grown_refl _ _⟩
  subst hnm
  by_cases h0 : n = 0
  · subst h0
    have hM : Hid (MostR l L 0 0) := Or.inr ⟨⟨by omega, fun i t c hi h1 h2 => absurd hi (by omega)⟩, by rw [hln]; rfl, rfl⟩
    go_enter Try.func21, Try.ntmps21
    go_wp2_with fail
    go_loopw [6, 8] (fun v6 v8 wr => v8 = .int .i64 0 ∧ v6 = .int .i64 0 ∧ wr = w) (fun _ _ _ => 0)
    case atStart => exact ⟨rfl, rfl, rfl⟩
    case round =>
      obtain ⟨rfl, rfl, rfl⟩ := hrel
      go_wp2
      go_ret2
      exact ⟨0, 0, rfl, hM, grown_refl _ _⟩
  have dnn : ((n : Int) == (n : Int)) = true := by simp
  have dn0 : decide ((0 : Int) < (n : Int)) = true := by simp; omega
  have dn0' : decide (0 < n) = true := by simp; omega
  obtain ⟨c, g, o, xo, xn, xc, hc, rfl, hgl, c1, hcl, hV, hB⟩ := hC.at (grown_refl w none) 0 (by omega)
  have c1' : w.cell? ⟨g, o, none⟩ = some (.slice xo xn xc) := by simpa using c1
  have hwid := wid_of hc
  have hW : Hid (wid L = xn) := by show _ = _; omega
  have i0 : (0 : Int) < (n : Int) := by omega
  have hxn : xn ≤ 2000000 := by omega
  obtain ⟨lg, lof, rfl, hlg⟩ := hl.addr (by omega)
  clear hc hwid hcl hV hB h0
  go_enter Try.func21, Try.ntmps21
  go_wp2_with (at_make; refine wpList_make_big _ rfl _ _ 36 rfl 3 (.int .i64 0) 8 Try.underlying36 info3o rfl (by decide) xn rfl rfl rfl rfl (by omega) ?_)
  intro w2 hr hg2 hlt2
  obtain ⟨z, hz⟩ : ∃ z, w.heap.size = z := ⟨_, rfl⟩
  rw [hz] at hr hlt2 ⊢
  rw [fl_zero] at hr
  have hzw : w.heap.size ≤ z := by omega
  have hG2 : Hid (w.grownBy w2 none) := hg2
  clear c1 c1' hlt2 hz hg2
  go_wp2_with fail
  go_loopw [6, 8] (fun v6 v8 wr => ∃ k y : Nat, v8 = .int .i64 k ∧ v6 = .int .i64 y ∧ k ≤ n ∧ Hid (y = mostM l L xn k) ∧ Hid (OkN l L k) ∧ Ro wr z 3 (fl xn (cnts l L k)) ∧ Chg w2 wr (fun q => q = z)) (fun _ v8 _ => n - (intOf v8).toNat)
  case atStart => exact ⟨0, 0, rfl, rfl, Nat.zero_le _, rfl, (fun i t c h => absurd h (by omega)), hr, Chg.refl _ _⟩
  case round =>
    clear hr
    obtain ⟨k, y, rfl, rfl, hk, hO, hOk, hr, hch⟩ := hrel
    have hg : w.grownBy wr none := ((Chg.of_grown hG2.out (fun q => q = z)).trans hch).grown (fun q hq e => by omega)
    by_cases hlt : k < n
    · have d2 : decide ((k : Int) < (n : Int)) = true := by simp; omega
      have d2' : decide (k < n) = true := by simp; omega
      have i1 : (0 : Int) ≤ (k : Int) := by omega
      have i2 : (k : Int) < (n : Int) := by omega
      obtain ⟨t, ht⟩ : ∃ t, l[k]? = some t := ⟨_, List.getElem?_eq_getElem (by omega)⟩
      have e0 := (hl.grown hg).at (iv_at ht)
      obtain ⟨c, g', o', xo', xn', xc', hc, e', hgl', e1, hcl, hV, hB⟩ := hC.at hg k hlt
      cases e'
      have hgd : Hid (∀ nq, w.grownBy (wr.drewN nq) none) := fun nq => grown_trans hg (grown_drewN wr nq none) (by simp)
      have hF : Hid (¬ OkAt (wid L) t c → ∀ nq, ∃ v er, Ending.returned (.tuple #[.int .i64 0, .int .i64 2]) = .returned (.tuple #[.int .i64 v, .int .i64 er]) ∧ MostR l L v er ∧ w.grownBy (wr.drewN nq) none) := fun hb nq => ⟨0, 2, rfl, Or.inl ⟨OkM.bad ht hc hb, rfl, rfl⟩, hgd.out nq⟩
      by_cases hx : xn' = xn
      rotate_left
      · have hR : Hid (∀ nq, ∃ v er, Ending.returned (.tuple #[.int .i64 0, .int .i64 2]) = .returned (.tuple #[.int .i64 v, .int .i64 er]) ∧ MostR l L v er ∧ w.grownBy (wr.drewN nq) none) := hF.out (fun h => by have := h.1; rw [hW.out] at this; omega)
        have dx : ((xn' : Int) == (xn : Int)) = false := by simp; omega
        have dx2 : (xn' == xn) = false := by simpa using hx
        have dx' : ((xn' : Int) != (xn : Int)) = true := by simp; omega
        clear hF hO hOk hr hch ht hc hV hB hx
        go_wp2_with fail
        go_quiet (fail)
        have hR2 := hR.out nq
        clear hR
        go_wp2
        go_ret2
        exact hR2
      subst hx
      have dx : ((xn' : Int) == (xn' : Int)) = true := by simp
      have dx' : ((xn' : Int) != (xn' : Int)) = false := by simp
      by_cases ht0 : t < 0
      · have hR : Hid (∀ nq, ∃ v er, Ending.returned (.tuple #[.int .i64 0, .int .i64 2]) = .returned (.tuple #[.int .i64 v, .int .i64 er]) ∧ MostR l L v er ∧ w.grownBy (wr.drewN nq) none) := hF.out (fun h => by have := h.2.1; omega)
        have dt : decide (t < 0) = true := by simpa using ht0
        clear hF hO hOk hr hch ht hc hV hB
        go_wp2_with fail
        go_quiet (fail)
        have hR2 := hR.out nq
        clear hR
        go_wp2
        go_ret2
        exact hR2
      have dt : decide (t < 0) = false := by simpa using ht0
      by_cases ht1 : (xn' : Int) ≤ t
      · have hR : Hid (∀ nq, ∃ v er, Ending.returned (.tuple #[.int .i64 0, .int .i64 2]) = .returned (.tuple #[.int .i64 v, .int .i64 er]) ∧ MostR l L v er ∧ w.grownBy (wr.drewN nq) none) := hF.out (fun h => by have := h.2.2.1; rw [hW.out] at this; omega)
        have dt2 : decide ((xn' : Int) ≤ t) = true := by simpa using ht1
        clear hF hO hOk hr hch ht hc hV hB
        go_wp2_with fail
        go_quiet (fail)
        have hR2 := hR.out nq
        clear hR
        go_wp2
        go_ret2
        exact hR2
      have dt2 : decide ((xn' : Int) ≤ t) = false := by simpa using ht1
      obtain ⟨q, hq⟩ : ∃ q : Nat, t = q := ⟨t.toNat, by omega⟩
      obtain ⟨b, hb⟩ : ∃ b, c[q]? = some b := ⟨_, List.getElem?_eq_getElem (by omega)⟩
      have hVr := hV wr hg
      obtain ⟨tg, to, rfl, -⟩ := hVr.addr (by omega)
      have c3 := hVr.at (bo_at hb)
      subst hq
      have j1 : (0 : Int) ≤ (q : Int) := by omega
      have j2 : (q : Int) < (xn' : Int) := by omega
      have dt3 : decide (xn' ≤ q) = false := by simp; omega
      cases b
      · have hR : Hid (∀ nq, ∃ v er, Ending.returned (.tuple #[.int .i64 0, .int .i64 2]) = .returned (.tuple #[.int .i64 v, .int .i64 er]) ∧ MostR l L v er ∧ w.grownBy (wr.drewN nq) none) := hF.out (fun h => by have := h.2.2.2; simp [hb] at this)
        clear hF hO hOk hr hch ht hc hV hVr hB hb ht0 ht1
        go_wp2_with fail
        go_quiet (fail)
        have hR2 := hR.out nq
        clear hR
        go_wp2
        go_ret2
        exact hR2
      have hO2 : Hid (OkN l L (k + 1)) := hOk.out.step ht hc ⟨by rw [hW.out]; omega, by omega, by rw [hW.out]; omega, by simpa using hb⟩
      have hfk : ∀ j, cnts l L k j ≤ 1000000 := fun j => by have := cnts_le l L k j; omega
      have hstep := cnts_step ht hc
      have hyk : y ≤ 1000000 := by have := mostM_le l L xn' k; have := hO.out; omega
      have hC2 : Hid (∀ nq W, Chg (wr.drewN nq) W (fun q => q = z) → Chg w2 W (fun q => q = z)) := fun nq W h => (hch.trans (Chg.of_grown (grown_drewN wr nq none) _)).trans h
      have hr2 : Hid (∀ nq, Ro (wr.drewN nq) z 3 (fl xn' (cnts l L k))) := fun nq => hr.grown (grown_drewN wr nq none)
      clear hF hOk hr hch hVr hb ht0 ht1
      have hcH : Hid (L[k]? = some c) := hc
      clear hc ht
      go_wp2_with fail
      go_quiet (fail)
      have hgn := hgd.out nq
      have hrn := hr2.out nq
      have hCn : Hid (∀ W, Chg (wr.drewN nq) W (fun q => q = z) → Chg w2 W (fun q => q = z)) := hC2.out nq
      have e1n := (grown_drewN wr nq none).cell e1 (by simp)
      have e0n := (grown_drewN wr nq none).cell e0 (by simp)
      clear hgd hr2 hC2 c3 e0 e1
      generalize wr.drewN nq = w3 at *
      have b1 : lg ≠ z := by omega
      have b2 : g ≠ z := by omega
      have b3 : tg ≠ z := (hB z hzw _ rfl).resolve_right (by omega)
      have hVn := hV w3 hgn
      have hmax : Hid (∀ j Y, Y = max y (maxF j (cnts l L (k + 1))) → max Y (cnts l L (k + 1) j) = max y (maxF (j + 1) (cnts l L (k + 1)))) := fun j Y h => by
        show max Y _ = max y (max (maxF j _) _)
        rw [h, Nat.max_assoc]
      have hmaxn : Hid (max y (maxF xn' (cnts l L (k + 1))) = mostM l L xn' (k + 1)) := by show _ = max _ _; rw [hO.out]
      have hpv : Hid (∀ j, cnts l L (k + 1) j = if c[j]? = some true ∧ (j : Int) ≠ (q : Int) then cnts l L k j + 1 else 0) := fun j => by rw [hstep]; rfl
      have hYb : Hid (∀ j Y, Y = max y (maxF j (cnts l L (k + 1))) → Y ≤ 1000000) := fun j Y h => by
        have := maxF_le (n := j) (f := cnts l L (k + 1)) fun i _ => cnts_le l L (k + 1) i
        rw [h]; omega
      have hf0 : Hid (max y (maxF 0 (cnts l L (k + 1))) = y) := by show max y 0 = y; omega
      clear hstep hO
      generalize cnts l L k = f at *
      generalize hF' : cnts l L (k + 1) = f' at *
      go_wp2_with fail
      go_loopw [6, 9] (fun v6 v9 wr => ∃ j Y : Nat, v9 = .int .i64 j ∧ v6 = .int .i64 Y ∧ j ≤ xn' ∧ Hid (Y = max y (maxF j f')) ∧ Ro wr z 3 (fl xn' (mix j f' f)) ∧ Chg w3 wr (fun q => q = z)) (fun _ v9 _ => xn' - (intOf v9).toNat)
      case atStart => exact ⟨0, y, rfl, rfl, Nat.zero_le _, hf0.out.symm, by rw [show fl xn' (mix 0 f' f) = fl xn' f from fl_ext fun i _ => by simp [mix]]; exact hrn, Chg.refl _ _⟩
      case round =>
        clear hrn hf0
        obtain ⟨j, Y, rfl, rfl, hj, hY, hr, hc⟩ := hrel
        have e1 := hc.cell e1n b2
        have e0 := hc.cell e0n b1
        by_cases hjn : j < xn'
        · have f2 : decide ((j : Int) < (xn' : Int)) = true := by simp; omega
          have f2' : decide (j < xn') = true := by simp; omega
          have k1 : (0 : Int) ≤ (j : Int) := by omega
          have k2 : (j : Int) < (xn' : Int) := by omega
          obtain ⟨b', hb'⟩ : ∃ b, c[j]? = some b := ⟨_, List.getElem?_eq_getElem (by omega)⟩
          have c3 := (hVn.chg hc (fun a ha e => by cases ha; exact b3 e)).at (bo_at hb')
          have c5 : wr.cell? ⟨z, j, none⟩ = some (.int .i64 (f j : Int)) := by rw [hr.cell, fl_at _ hjn]; simp [mix]
          have fz := hr.frozen j
          have hfj := hfk j
          have hst : ∀ v : Int, v = (f' j : Int) → Hid (Ro (wr.setCell ⟨z, j, none⟩ (.int .i64 v)) z 3 (fl xn' (mix (j + 1) f' f)) ∧ Chg w3 (wr.setCell ⟨z, j, none⟩ (.int .i64 v)) (fun q => q = z)) := fun v hv => by
            obtain ⟨s1, s2⟩ := hr.set j (.int .i64 v)
            rw [mix_step xn' j _ _ hv] at s1
            exact ⟨s1, hc.trans s2⟩
          have hYb1 := hYb.out j Y hY.out
          have hmj := hmax.out j Y hY.out
          have hpj := hpv.out j
          cases b'
          · have hv0 : f' j = 0 := by rw [hpj, if_neg]; simp [hb']
            have hS := hst 0 (by rw [hv0]; rfl)
            have hY2 : Hid (Y = max y (maxF (j + 1) f')) := by show _ = _; rw [← hmj, hv0]; omega
            clear hb' hr hc hst hY hmj hpj hv0
            go_wp2
            go_roundw
            case rel => exact ⟨j + 1, Y, by go_num, rfl, by omega, hY2, hS.out.1, hS.out.2⟩
            case measure => simp [intOf]; omega
          · by_cases hjq : (j : Int) = (q : Int)
            · have hv0 : f' j = 0 := by rw [hpj, if_neg]; simp [hjq]
              have hS := hst 0 (by rw [hv0]; rfl)
              have hY2 : Hid (Y = max y (maxF (j + 1) f')) := by show _ = _; rw [← hmj, hv0]; omega
              have dq : ((j : Int) == (q : Int)) = true := by simp [hjq]
              have dq' : (j == q) = true := by simp; omega
              have dq2 : ((j : Int) != (q : Int)) = false := by simp [hjq]
              clear hb' hr hc hst hY hmj hpj hv0 hjq
              go_wp2
              go_roundw
              case rel => exact ⟨j + 1, Y, by go_num, rfl, by omega, hY2, hS.out.1, hS.out.2⟩
              case measure => simp [intOf]; omega
            · have hv1 : f' j = f j + 1 := by rw [hpj, if_pos ⟨hb', hjq⟩]
              have hS := hst ((f j : Int) + 1) (by rw [hv1]; simp)
              have hY2 : Hid (max Y (f j + 1) = max y (maxF (j + 1) f')) := by show _ = _; rw [← hmj, hv1]
              have dq : ((j : Int) == (q : Int)) = false := by simp; omega
              have dq' : (j == q) = false := by simp; omega
              have dq2 : ((j : Int) != (q : Int)) = true := by simp; omega
              generalize f j = x at *
              have c6 : (wr.setCell ⟨z, j, none⟩ (.int .i64 ((x : Int) + 1))).cell? ⟨z, j, none⟩ = some (.int .i64 ((x : Int) + 1)) := by
                rw [hS.out.1.cell, fl_at _ hjn]; simp [mix, hv1]
              clear hb' hr hc hst hY hmj hpj hv1 hjq
              go_wp2_with fail
              have hz : (if (Y : Int) < (x : Int) + 1 then (x : Int) + 1 else (Y : Int)) = ((max Y (x + 1) : Nat) : Int) := by split <;> omega
              rw [hz]
              go_roundw
              case rel => exact ⟨j + 1, max Y (x + 1), by go_num, rfl, by omega, hY2, hS.out.1, hS.out.2⟩
              case measure => simp [intOf]; omega
        · obtain rfl : j = xn' := by omega
          have f2 : decide ((j : Int) < (j : Int)) = false := by simp
          rw [mix_all, ← hF'] at hr
          have hYm : Hid (Y = mostM l L j (k + 1)) := by show _ = _; rw [hY.out]; exact hmaxn
          have hC3 := hCn.out _ hc
          clear hY hc hmaxn hmax hpv hYb e0 e1 e0n e1n hVn
          go_wp2
          go_roundw
          case rel => exact ⟨k + 1, Y, by go_num, rfl, by omega, hYm, hO2, hr, hC3⟩
          case measure => simp [intOf]; omega
    · obtain rfl : k = n := by omega
      have d2 : decide ((k : Int) < (k : Int)) = false := by simp
      have hM : Hid (MostR l L y 0) := Or.inr ⟨⟨by omega, by rw [hln]; exact hOk.out⟩, by rw [hln, hW.out, hO.out], rfl⟩
      clear hO hOk hr hch
      go_wp2
      go_ret2
      exact ⟨y, 0, rfl, hM, hg⟩
end Go.Proofs.Ytfhbnkfpbjloeaa
