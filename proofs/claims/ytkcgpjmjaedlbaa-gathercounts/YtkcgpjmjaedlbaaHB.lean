/-
  GatherCounts: the walk, at lists that may be, and do not go into one batch.
-/
import Derived.Test.YtkcgpjmjaedlbaaHM
import Derived.Deep.DeepCutAuto
import Derived.Deep.CutBlock
namespace Go.Proofs.Ytkcgpjmjaedlbaa
open Go.RowKit
set_option linter.unusedVariables false

set_option maxRecDepth 100000 in
set_option maxHeartbeats 16000000 in
theorem gatherCounts_over (w : World) (take base : Int) (ao : Option Addr) (n cap : Nat) (L : List Rl) (ha : Ls w ao n cap L) (hb1 : -9223372036854775808 ≤ base) (hb2 : base < 9223372036854775808) (hH : Hid (lref L = 0 ∧ ¬ Fit L)) :
    Calls Try.prog 3 #[.int .i64 take, .int .i64 base, .slice ao n cap] w fun e w' => e = .returned (.bool true) ∧ w.grownBy w' none := by
  have hlen := ha.len
  go_enter Try.func3, Try.ntmps3
  go_wp2_with fail
  refine (many2_any _ ao n cap L ha).mono ?_
  rintro e w0 ⟨⟨B, rfl, hB⟩, hw0⟩
  replace hw0 := hw0.symm
  subst hw0
  cases B
  · obtain ⟨hn3, hflat, hs3⟩ := hB rfl
    have hs : ∀ x ∈ L, x.n ≤ 4096 := fun x hx => Nat.le_trans (hs3 x hx) (by decide)
    clear hB hs3
    go_wp2_with fail
    refine (lent_any _ ao n cap L ha hn3 hs).mono ?_
    rintro e w1 ⟨mo, mc, M, rfl, hM, hD, hg1⟩
    have hal : shl M = shl L := shl_of (ha.grown hg1) hM.shows hD
    have hsM : ∀ x ∈ M, x.n ≤ 4096 := fun x hx => by
      obtain ⟨j, hj⟩ := List.getElem?_of_mem hx
      have h9 : (M.map Rl.d)[j]? = (L.map Rl.d)[j]? := by rw [hD]
      rw [List.getElem?_map, List.getElem?_map, hj] at h9
      cases h2 : L[j]? with
      | none => rw [h2] at h9; cases h9
      | some y =>
        rw [h2] at h9
        simp only [Option.map_some, Option.some.injEq, Rl.d, Prod.mk.injEq] at h9
        have := hs y (List.mem_of_getElem? h2)
        omega
    go_wp2_with fail
    refine (count_all _ take mo n mc M hM.shows hsM (by omega)).mono ?_
    rintro e w2 ⟨⟨cn, ce, rfl, hC⟩, hg2⟩
    go_wp2_with fail
    refine (plan_all _ take mo n mc M (hM.shows.grown hg2) hsM (by omega)).mono ?_
    rintro e w3 ⟨⟨po, pn, pc, pe, rfl, hP⟩, hg3⟩
    have hG3 := grown_trans hg2 hg3 (by simp)
    go_wp2_with fail
    refine (tog_all _ mo n mc M (hM.shows.grown hG3) hsM (by omega)).mono ?_
    rintro e w4 ⟨⟨tq, tn, tc, te, rfl, hT⟩, hg4⟩
    have hG4 := grown_trans hG3 hg4 (by simp)
    go_wp2_with fail
    refine (off_all _ base mo n mc M (hM.shows.grown hG4) hsM (by omega)).mono ?_
    rintro e w5 ⟨⟨oo, on, oc, oe, er, rfl, hO⟩, hg5⟩
    have hG5 := grown_trans hG4 hg5 (by simp)
    go_wp2_with fail
    refine (kept_any _ _ mo n mc M (hM.grown hG5) ao cap L (ha.grown (grown_trans hg1 hG5 (by simp))) hD hn3 hs).mono ?_
    rintro e w6 ⟨rfl, hg6⟩
    have hG6 := grown_trans hG5 hg6 (by simp)
    go_wp2_with fail
    refine (rlists_any _ ao n cap L (ha.grown (grown_trans hg1 hG6 (by simp))) hs (by omega)).mono ?_
    rintro e w7 ⟨rfl, hg7⟩
    have hG7 := grown_trans hG6 hg7 (by simp)
    go_wp2_with fail
    refine (rtogether_any _ ao n cap L (ha.grown (grown_trans hg1 hG7 (by simp))) (by omega) (by omega)).mono ?_
    rintro e w8 ⟨ro, rc, rfl, hR, hg8⟩
    have hG8 := grown_trans hG7 hg8 (by simp)
    have hlM : lref M = lref L := lref_al hal
    have hrM : refR take M = refR take L := refR_al hal
    have hfM := fit_al hal
    have hNM : (flat M).length = (flat L).length := len_al (flat_al hal)
    have hrk : ∀ W, w.grownBy W none → ∀ r ∈ flat L, Rk W r := fun W hW r hr => by
      unfold flat at hr
      obtain ⟨l, hl, hm⟩ := List.mem_flatten.1 hr
      obtain ⟨x, hx, rfl⟩ := List.mem_map.1 hl
      exact ((ha.grown hW).shows x hx).shows r hm
    have hGw8 := grown_trans hg1 hG8 (by simp)
    have hT8 : TogF w3.heap.size w4.heap.size w8 M tq tn tc te := hT.grown (grown_trans (grown_trans (grown_trans hg5 hg6 (by simp)) hg7 (by simp)) hg8 (by simp))
    have hfits : ∀ W, w8.grownBy W none → Calls Try.prog 19 #[.slice ro (flat L).length rc] W fun e w' => e = .returned (.int .i64 (fitsR (flat L)).2) ∧ W.grownBy w' none := fun W hW =>
      rfits_any W ro _ rc _ ((hR.kept hW (by cases ro <;> simp [blk])).shows (hrk _ (grown_trans hGw8 hW (by simp)))) (by omega)
    have hsame : lref L = 0 → Fit L → ∀ W, w8.grownBy W none → Calls Try.prog 20 #[.slice tq tn tc, .slice ro (flat L).length rc] W fun e w' => e = .returned (.bool true) ∧ W.grownBy w' none := fun hl hf W hW => by
      rcases hT8 with ⟨h, _⟩ | ⟨_, h, _⟩ | ⟨_, _, _, g, rs, h4, h5, _, h7, h8, h9, _⟩
      · exact absurd (hlM.trans hl) h
      · exact absurd (hfM.2 hf) h
      · subst h4
        have h6 := rsame_any W _ _ _ _ _ _ rs (flat L) ((h7.kept hW (by right; simp [blk])).shows fun r hr => ((h9 r hr).kept hW (fun _ _ => by simp)).rk) ((hR.kept hW (by cases ro <;> simp [blk])).shows (hrk _ (grown_trans hGw8 hW (by simp))))
        rwa [show sameAllB rs (flat L) = true from decide_eq_true (h8.trans (ds_flat hD))] at h6
    have hff : Hid (lref L = 0 → 0 < n → ((fitsR (flat L)).2 = 0 ↔ Fit L)) := fun hl hn => fits_flat (lref_ok hl).2 (fun e => by rw [e] at hlen; simp at hlen; omega)
    have hf0 : Hid (¬ Fit L → 0 < n) := fun hf => by
      apply Classical.byContradiction
      intro h9
      obtain rfl : L = [] := List.eq_nil_of_length_eq_zero (by omega)
      exact hf (by simp [Fit, flat, szs])
    have hTc : (lref L ≠ 0 ∧ tn = 0 ∧ te = lref L) ∨ (lref L = 0 ∧ ¬ Fit L ∧ tn = 0 ∧ te = 8) ∨ (lref L = 0 ∧ Fit L ∧ te = 0) := by
      rcases hT8 with ⟨h1, h2, h3⟩ | ⟨h1, h2, h3, h4⟩ | ⟨h1, h2, h3, _⟩
      · exact Or.inl ⟨by rw [← hlM]; exact h1, h2, by rw [← hlM]; exact h3⟩
      · exact Or.inr (Or.inl ⟨by rw [← hlM]; exact h1, fun hf => h2 (hfM.2 hf), h3, h4⟩)
      · exact Or.inr (Or.inr ⟨by rw [← hlM]; exact h1, hfM.1 h2, h3⟩)
    have HT : Hid ((lref L ≠ 0 ∧ tn = 0 ∧ te = lref L) ∨ (lref L = 0 ∧ ¬ Fit L ∧ tn = 0 ∧ te = 8) ∨ (lref L = 0 ∧ Fit L ∧ te = 0)) := hTc
    have HCN : Hid (CntF take M cn ce) := hC
    have HPL : Hid (PlnF w3 take M po pn pc pe) := hP
    have HOF : Hid (OffF w4.heap.size w5 base M n oo on oc oe er) := hO
    have HTG : Hid (TogF w3.heap.size w4.heap.size w8 M tq tn tc te) := hT8
    have HLM : Hid (lref M = lref L) := hlM
    have HRM : Hid (refR take M = refR take L) := hrM
    have HNM : Hid ((flat M).length = (flat L).length) := hNM
    have HFM : Hid (Fit M ↔ Fit L) := hfM
    have HAL : Hid (shl M = shl L) := hal
    have HRL : Hid (refR take L = if take < 1 then 2 else lref L) := rfl
    have HOK : Hid (∀ W, w.grownBy W none → lref L = 0 → 1 ≤ take → Calls Try.prog 24 #[.int .i64 take, .slice ao n cap] W fun e w' => TakE take L e ∧ W.grownBy w' none) := fun W hW hl ht => rcount_any W take ao n cap L (ha.grown hW) hl ht (by omega)
    have HOP : Hid (∀ W, w.grownBy W none → lref L = 0 → 1 ≤ take → Calls Try.prog 26 #[.int .i64 take, .slice ao n cap] W fun e w' => (∃ (ps : List Nat) (po : Option Addr) (pc : Nat), e = .returned (.slice po ps.length pc) ∧ Pn take L ps ∧ Vo w' W.heap.size 3 po ps.length pc (ps.map iv)) ∧ W.grownBy w' none) := fun W hW hl ht => rplan_any W take ao n cap L (ha.grown hW) hl ht (by omega)
    clear hC hP hO hT hT8 hlM hrM hfM hNM hTc hal hR hrk
    generalize hcode : lref L = code at *
    clear hcode
    generalize hNN : (flat L).length = N at *
    go_upto_block 0 with fail
    go_cut [] (fun wx => w8.grownBy wx none)
    case first =>
      rcases HT.out with ⟨h1, h2, h3⟩ | ⟨h1, h2, h3, h4⟩ | ⟨h1, h2, h3⟩
      · exact absurd hH.out.1 h1
      · subst h1
        subst h3
        subst h4
        have hn0 := hf0.out h2
        have d1 : decide (0 < n) = true := by simpa using hn0
        have hne := fun e => h2 ((hff.out rfl hn0).1 e)
        generalize (fitsR (flat L)).2 = fr at *
        have d2 : (fr != 0) = true := by simpa using hne
        go_wp2_with (first | (go_at_call 18; refine (num_any _ _).mono ?_; rintro e w' ⟨rfl, hw'⟩; replace hw' := hw'.symm; subst hw') | (go_at_call 19; refine (hfits _ (grown_refl _ _)).mono ?_; rintro e w9 ⟨rfl, hg9⟩))
        go_meet
        case rel => exact hg9
      · exact absurd h2 hH.out.2
    case rest =>
      have hg9 := hcut
      clear hcut hsame hfits hff hf0 HT
      have HTG9 : Hid (TogF w3.heap.size w4.heap.size wc M tq tn tc te) := HTG.out.grown hg9
      have hG9 := grown_trans hG8 hg9 (by simp)
      have hGw9 := grown_trans hg1 hG9 (by simp)
      go_wp2_with fail
      refine (spoil_all wc w3.heap.size w4.heap.size M tq tn tc te HTG9.out).mono ?_
      rintro e w10 ⟨rfl, hsp⟩
      have hG10 : w1.grownBy w10 none := chg_from hG9 hsp hG3.size
      have hGw10 := grown_trans hg1 hG10 (by simp)
      have hg59 : w5.grownBy wc none := grown_trans (grown_trans (grown_trans hg6 hg7 (by simp)) hg8 (by simp)) hg9 (by simp)
      have HPL10 : Hid (PlnF w10 take M po pn pc pe) := HPL.out.grown (chg_from (grown_trans (grown_trans hg4 hg5 (by simp)) hg59 (by simp)) hsp (Nat.le_refl _))
      have HOF10 : Hid (OffF w4.heap.size w10 base M n oo on oc oe er) := (HOF.out.grown hg59).chg hsp (fun k hk => hk.2)
      clear hsp HTG HTG9 HPL HOF hg59
      go_wp2_with fail
      refine (kept_any _ _ mo n mc M (hM.grown hG10) ao cap L (ha.grown hGw10) hD hn3 hs).mono ?_
      rintro e w11 ⟨rfl, hg11⟩
      have hGw11 := grown_trans hGw10 hg11 (by simp)
      obtain ⟨B', hB', hB0, hB1, hBe⟩ : ∃ B' : Int, max (min base 9007199254740992) 0 = B' ∧ 0 ≤ B' ∧ B' ≤ 9007199254740992 ∧ (0 ≤ base → base ≤ 9007199254740992 → B' = base) := ⟨_, rfl, by omega, by omega, by omega⟩
      have HBe : Hid (0 ≤ base → base ≤ 9007199254740992 → B' = base) := hBe
      clear hBe
      have hG11 := grown_trans hG10 hg11 (by simp)
      go_wp2_with fail
      refine (roffsets_any _ B' ao n cap L (ha.grown hGw11) hn3 hB0 hB1 (by omega)).mono ?_
      rintro e w12 ⟨wo, wl, rfl, hW, hg12⟩
      have hg112 := grown_trans hg11 hg12 (by simp)
      have hGw12 := grown_trans hGw11 hg12 (by simp)
      rw [hNN]
      have HW : Hid (Vs w12 wo n wl (offL B' L n)) := hW.shows
      have HOF12 : Hid (OffF w4.heap.size w12 base M n oo on oc oe er) := HOF10.out.grown hg112
      have HPL12 : Hid (PlnF w12 take M po pn pc pe) := HPL10.out.grown hg112
      clear hW HOF10 HPL10
      have HO1 : Hid ((base < 0 ∨ 9007199254740992 < base) → on = 0 ∧ oe = 0 ∧ er = 2) := fun hb => by
        rcases HOF12.out with ⟨_, h⟩ | ⟨h1, h2, _⟩ | ⟨h1, h2, _⟩ | ⟨h1, h2, _⟩
        · exact h
        · omega
        · omega
        · omega
      have HO2 : Hid (0 ≤ base → base ≤ 9007199254740992 → code ≠ 0 → on = 0 ∧ oe = 0 ∧ er = code) := fun g1 g2 g3 => by
        rcases HOF12.out with ⟨h1, _⟩ | ⟨_, _, _, h⟩ | ⟨_, _, h, _⟩ | ⟨_, _, h, _⟩
        · omega
        · rw [HLM.out] at h; exact h
        · rw [HLM.out] at h; exact absurd h g3
        · rw [HLM.out] at h; exact absurd h g3
      have HO3 : Hid (0 ≤ base → base ≤ 9007199254740992 → code = 0 → 9007199254740993 < base + (N : Int) → on = 0 ∧ oe = 0 ∧ er = 8) := fun g1 g2 g3 g4 => by
        rcases HOF12.out with ⟨h1, _⟩ | ⟨_, _, h, _⟩ | ⟨_, _, _, _, h⟩ | ⟨_, _, _, h, _⟩
        · omega
        · rw [HLM.out] at h; exact absurd g3 h
        · exact h
        · rw [HNM.out] at h; omega
      have HO4 : Hid (0 ≤ base → base ≤ 9007199254740992 → code = 0 → base + (N : Int) ≤ 9007199254740993 → on = n ∧ oe = base + (N : Int) ∧ er = 0 ∧ Vs w12 oo on oc (offL base L n)) := fun g1 g2 g3 g4 => by
        rcases HOF12.out with ⟨h1, _⟩ | ⟨_, _, h, _⟩ | ⟨_, _, _, h, _⟩ | ⟨_, _, _, _, h5, h6, h7, h8, _⟩
        · omega
        · rw [HLM.out] at h; exact absurd g3 h
        · rw [HNM.out] at h; omega
        · rw [HNM.out] at h6
          rw [offL_al n HAL.out] at h8
          exact ⟨h5, h6, h7, h8⟩
      clear HOF12
      go_upto_block 1 with fail
      go_cut [] (fun wx => w12.grownBy wx none)
      case first =>
        by_cases hb0 : base < 0
        · have d1 : decide (base < 0) = true := by simpa using hb0
          obtain ⟨rfl, rfl, rfl⟩ := HO1.out (Or.inl hb0)
          go_wp2_with (go_at_call 18; refine (num_any _ _).mono ?_; rintro e w' ⟨rfl, hw'⟩; replace hw' := hw'.symm; subst hw')
          go_meet
          case rel => exact grown_refl _ _
        · have d1 : decide (base < 0) = false := by simpa using hb0
          by_cases hb3 : 9007199254740992 < base
          · have d2 : decide (9007199254740992 < base) = true := by simpa using hb3
            obtain ⟨rfl, rfl, rfl⟩ := HO1.out (Or.inr hb3)
            go_wp2_with (go_at_call 18; refine (num_any _ _).mono ?_; rintro e w' ⟨rfl, hw'⟩; replace hw' := hw'.symm; subst hw')
            go_meet
            case rel => exact grown_refl _ _
          · have d2 : decide (9007199254740992 < base) = false := by simpa using hb3
            have hBB : Hid (B' = base) := HBe.out (by omega) (by omega)
            by_cases hc0 : code = 0
            · subst hc0
              by_cases hbig : 9007199254740993 < base + (N : Int)
              · have d3 : decide (9007199254740993 < B' + (N : Int)) = true := by rw [hBB.out]; simpa using hbig
                obtain ⟨rfl, rfl, rfl⟩ := HO3.out (by omega) (by omega) rfl hbig
                go_wp2_with (go_at_call 18; refine (num_any _ _).mono ?_; rintro e w' ⟨rfl, hw'⟩; replace hw' := hw'.symm; subst hw')
                go_meet
                case rel => exact grown_refl _ _
              · have d3 : decide (9007199254740993 < B' + (N : Int)) = false := by rw [hBB.out]; simpa using hbig
                obtain ⟨h1, h2, h3, h4⟩ := HO4.out (by omega) (by omega) rfl (by omega)
                subst h1
                subst h3
                have h5 := HW.out
                rw [hBB.out, offL_map] at h5
                rw [offL_map] at h4
                have hlg := longs_any w12 _ _ _ _ _ _ h4 h5
                have d4 : (oe != B' + (N : Int)) = false := by rw [h2, hBB.out]; simp
                clear h2 h4 h5
                go_wp2_with (first | (go_at_call 18; refine (num_any _ _).mono ?_; rintro e w' ⟨rfl, hw'⟩; replace hw' := hw'.symm; subst hw') | (go_at_call 23; refine hlg.mono ?_; rintro e w13 ⟨rfl, hg13⟩))
                go_meet
                case rel => exact hg13
            · exact absurd hH.out.1 hc0
      case rest =>
        have hg13 := hcut
        clear hcut HO1 HO2 HO3 HO4 HW HBe
        have hGw13 := grown_trans hGw12 hg13 (by simp)
        have HPL13 : Hid (PlnF wc take M po pn pc pe) := HPL12.out.grown hg13
        by_cases ht : take < 1
        · have d1 : decide (take < 1) = true := by simpa using ht
          have hR2 : refR take M = 2 := by rw [HRM.out, HRL.out, if_pos ht]
          obtain ⟨rfl, rfl⟩ : cn = 0 ∧ ce = 2 := by
            rcases HCN.out with ⟨_, h2, h3⟩ | ⟨h1, _⟩
            · exact ⟨h2, h3.trans hR2⟩
            · rw [hR2] at h1; cases h1
          obtain ⟨rfl, rfl⟩ : pn = 0 ∧ pe = 2 := by
            rcases HPL13.out with ⟨_, h2, h3⟩ | ⟨h1, _⟩
            · exact ⟨h2, h3.trans hR2⟩
            · rw [hR2] at h1; cases h1
          clear hR2 HCN HPL12 HPL13 HRM HRL HOK HOP
          go_wp2_with (first | (go_at_call 18; refine (num_any _ _).mono ?_; rintro e w' ⟨rfl, hw'⟩; replace hw' := hw'.symm; subst hw') | (go_at_call 9; refine (works_any _).mono ?_; rintro e w14 ⟨rfl, hg14⟩))
          go_ret
          exact ⟨rfl, grown_trans hGw13 hg14 (by simp)⟩
        · have d1 : decide (take < 1) = false := by simpa using ht
          have hRc : Hid (refR take M = code) := by show _ = _; rw [HRM.out, HRL.out, if_neg ht]
          by_cases hc0 : code = 0
          · subst hc0
            obtain ⟨hce, hTk⟩ : ce = 0 ∧ Tk take L cn := by
              rcases HCN.out with ⟨h1, _⟩ | ⟨_, h2, h3⟩
              · exact absurd hRc.out h1
              · exact ⟨h2, h3.al HAL.out⟩
            obtain ⟨hpe, ps, hps, hPn, hPv⟩ : pe = 0 ∧ ∃ ps : List Nat, ps.length = pn ∧ Pn take L ps ∧ Vs wc po pn pc (ps.map iv) := by
              rcases HPL13.out with ⟨h1, _⟩ | ⟨_, h2, ps, h3, h4, h5⟩
              · exact absurd hRc.out h1
              · exact ⟨h2, ps, h3, h4.al HAL.out, h5⟩
            subst hce
            subst hpe
            have hct := HOK.out wc hGw13 rfl (by omega)
            have hpl := fun W hW => HOP.out W hW rfl (by omega)
            have HPV : Hid (Vs wc po pn pc (ps.map iv)) := hPv
            have HPS : Hid (ps.length = pn) := hps
            clear hRc HCN HPL12 HPL13 HRM HRL HOK HOP hPv hps
            go_wp2_with fail
            refine hct.mono ?_
            rintro e w14 ⟨⟨k, rfl, hk⟩, hg14⟩
            obtain rfl := hk.one hTk
            have hGw14 := grown_trans hGw13 hg14 (by simp)
            go_wp2_with (go_at_call 18; refine (num_any _ _).mono ?_; rintro e w' ⟨rfl, hw'⟩; replace hw' := hw'.symm; subst hw')
            refine (hpl w14 hGw14).mono ?_
            rintro e w15 ⟨⟨qs, qo, qc, rfl, hQn, hQv⟩, hg15⟩
            obtain rfl := hQn.one hPn
            have hv1 := HPV.out.grown (grown_trans hg14 hg15 (by simp))
            have hv2 := hQv.shows
            rw [HPS.out] at hv2
            rw [iv_map] at hv1 hv2
            have hin := ints_any w15 _ _ _ _ _ _ hv1 hv2
            rw [HPS.out]
            have hGw15 := grown_trans hGw14 hg15 (by simp)
            clear hv1 hv2 hQv HPV hct hpl
            go_wp2_with fail
            refine hin.mono ?_
            rintro e w16 ⟨rfl, hg16⟩
            go_wp2_with (first | (go_at_call 18; refine (num_any _ _).mono ?_; rintro e w' ⟨rfl, hw'⟩; replace hw' := hw'.symm; subst hw') | (go_at_call 9; refine (works_any _).mono ?_; rintro e w17 ⟨rfl, hg17⟩))
            go_ret
            exact ⟨rfl, grown_trans (grown_trans hGw15 hg16 (by simp)) hg17 (by simp)⟩
          · exact absurd hH.out.1 hc0
  · go_wp2_with fail
    refine (works_any _).mono ?_
    rintro e w1 ⟨rfl, hg1⟩
    go_wp2
    go_ret
    exact ⟨rfl, hg1⟩
end Go.Proofs.Ytkcgpjmjaedlbaa
