/-
  StopsNumbers: the walk.
-/
import Derived.Test.YtgkeflgfnagnjaaUG
namespace Go.Proofs.Ytgkeflgfnagnjaa
open Go.RowKit
set_option linter.unusedVariables false
set_option maxRecDepth 100000

set_option maxHeartbeats 16000000 in
theorem stopsNumbers_any {w : World} (so : Option Addr) (n sc : Nat) (X : List Ox) (hX : Oc w so n X) (po : Option Addr) (pn pc : Nat) (l : List Int) (hl : Is' w po pn pc l) (hpc : po = none → pc = 0) (hx : ∀ x ∈ l, x < 9223372036854775808) (N : Int) (hN : -9223372036854775808 ≤ N ∧ N < 9223372036854775808) :
    Calls Try.prog 3 #[.slice so n sc, .slice po pn pc, .int .i64 N] w fun e w' => e = .returned (.bool true) ∧ w.grownBy w' none := by
  have hv := vast_any so n sc X hX
  have HX : HidO _ := hX
  have HL : HidO _ := hl
  have HN : HidO _ := hN
  have HXX : HidO _ := hx
  have HPC : HidO _ := hpc
  clear hX hl hN hx hpc
  go_enter Try.func3, Try.ntmps3
  cases hvb : vstB n X with
  | true =>
    rw [hvb] at hv
    go_wp2_with fail
    refine hv.mono ?_
    rintro e w1 ⟨rfl, hg1⟩
    clear hv
    go_wp2_with fail
    refine (known_any w1).mono ?_
    rintro e w2 ⟨rfl, hg2⟩
    have hG := grown_trans hg1 hg2 (by simp)
    go_wp2
    go_ret
    exact ⟨rfl, hG⟩
  | false =>
    rw [hvb] at hv
    obtain ⟨hn, hbn⟩ := vst_no hvb
    clear hvb
    by_cases hp : 300 < pn
    · have d1 : decide ((300 : Int) < (pn : Int)) = true := by simp; omega
      have d2 : decide (300 < pn) = true := by simpa using hp
      clear hp
      go_wp2_with fail
      refine hv.mono ?_
      rintro e w1 ⟨rfl, hg1⟩
      clear hv
      go_wp2_with fail
      refine (known_any w1).mono ?_
      rintro e w2 ⟨rfl, hg2⟩
      have hG := grown_trans hg1 hg2 (by simp)
      go_wp2
      go_ret
      exact ⟨rfl, hG⟩
    · have d1 : decide ((300 : Int) < (pn : Int)) = false := by simp; omega
      have d2 : decide (300 < pn) = false := by simpa using hp
      have hpn : pn ≤ 300 := by omega
      clear hp
      go_wp2_with fail
      refine hv.mono ?_
      rintro e w1 ⟨rfl, hg1⟩
      clear hv
      go_wp2_with fail
      refine (both_any so n sc X (HX.out.grown hg1) hn hbn).mono ?_
      rintro e w2 ⟨b, rb, T, U, rfl, hB⟩
      have hG2 := grown_trans hg1 hB.gr (by simp)
      have hgd := ops_gd X
      obtain ⟨L, hL⟩ : ∃ L, (ops X).1 = L := ⟨_, rfl⟩
      obtain ⟨st, hst⟩ : ∃ st, (ops X).2 = st := ⟨_, rfl⟩
      rw [hL] at hgd
      rw [hL, hst] at hB
      have hlw := hB.p.lw
      have hlen := hlw.len
      have hrs : ∀ f ∈ L, f.la ≤ f.bs.length ∧ f.bs.length ≤ 1000000 := fun f hf => by have := hlw.fl f hf; omega
      obtain ⟨E, hE⟩ : ∃ E : Int, (if negB l = true then 2 else 0) = E := ⟨_, rfl⟩
      obtain ⟨V, hV⟩ : ∃ V, wyV L = V := ⟨_, rfl⟩
      obtain ⟨cv, hcv⟩ : ∃ cv, cntV (unsF L) = cv := ⟨_, rfl⟩
      obtain ⟨ce, hce⟩ : ∃ ce, cntE (unsF L) = ce := ⟨_, rfl⟩
      obtain ⟨kv, hkv⟩ : ∃ kv, nmV l L = kv := ⟨_, rfl⟩
      obtain ⟨ke, hke⟩ : ∃ ke, nmE l L = ke := ⟨_, rfl⟩
      obtain ⟨ae, hae⟩ : ∃ ae, atE N L = ae := ⟨_, rfl⟩
      obtain ⟨S, hS⟩ : ∃ S, atV N L = S := ⟨_, rfl⟩
      have hwr := ways_r hB.r (by omega) hrs
      rw [hV] at hwr
      clear hL hst hg1 hbn
      go_wp2_with fail
      refine hwr.mono ?_
      rintro e w3 ⟨rfl, hg3⟩
      have hB3 := hB.grown hg3
      have hct := count_p hB3.p (by omega)
      rw [hcv, hce] at hct
      replace hE : HidO _ := hE
      replace hV : HidO _ := hV
      replace hcv : HidO _ := hcv
      replace hce : HidO _ := hce
      replace hkv : HidO _ := hkv
      replace hke : HidO _ := hke
      replace hae : HidO _ := hae
      replace hS : HidO _ := hS
      clear hwr hB
      go_wp2_with fail
      refine hct.mono ?_
      rintro e w4 ⟨rfl, hg4⟩
      have hB4 := hB3.grown hg4
      have hG4 := grown_trans (grown_trans hG2 hg3 (by simp)) hg4 (by simp)
      have hIs := HL.out.grownO hG4
      have hVs : Vs w4 po pn pc (l.map iv) := ⟨by rw [List.length_map, hIs.len], hIs.room, hIs.top, HPC.out, iv_one l, fun a ha j u hu => by
        obtain ⟨q, i, rfl⟩ := hIs.pl a ha
        rw [List.getElem?_map] at hu
        cases hx : l[j]? with
        | none => rw [hx] at hu; cases hu
        | some x =>
          rw [hx] at hu
          cases hu
          rw [Addr.add_lit]
          exact hIs.k q i ha j x hx⟩
      have hO := Vo.nil w4 w4.heap.size 3
      have hll : HidO (l.length = pn) := hIs.len
      clear hct hB3 hg3 hg4
      go_wp2_with (at_builtin; (refine wpList_append_vs _ rfl _ _ 23 rfl w4.heap.size 3 (.int .i64 0) 8 Try.underlying23 info3o rfl (by decide) rfl hO rfl hVs (by omega) (Nat.le_refl _) ?_))
      intro a5 c5 w5 hV5 hg5
      have hg5' : w4.grownBy w5 none := by simpa [blk] using hg5
      have h42 := vs_one w5 (.int .i64 4242) rfl 3
      have g42 := aGrown w5 (.cells #[.int .i64 4242] 3)
      have hV6 := hV5.grown g42
      have hb5 : HidO (∀ q, blk a5 = some q → w4.heap.size ≤ q) := fun q hq => (hV5.from_base q hq).1
      have hs5 := hg5'.size
      clear hVs hO hIs hg5
      go_wp2_with (at_builtin; (refine wpList_append_vs _ rfl _ _ 23 rfl w4.heap.size 3 (.int .i64 0) 8 Try.underlying23 info3o rfl (by decide) rfl hV6 rfl h42 (by omega) (by simp; omega) ?_))
      intro a7 c7 w7 hV7 hg7
      have hg47 : w4.grownBy w7 none := grown_trans (grown_trans hg5' g42 (by simp)) hg7 (fun q e => Or.inr (hb5.out q e))
      have hG7 := grown_trans hG4 hg47 (by simp)
      have hB7 := hB4.grown hg47
      obtain ⟨g7, rfl, hg7b⟩ := hV7.addr (by omega)
      have hsh := hV7.shows
      have hrm : pn + 1 ≤ c7 := hsh.room
      have htp := hsh.top
      have hIm : Is' w7 (some ⟨g7, 0, none⟩) pn c7 l := ⟨hll.out, by omega, htp, (fun a e => by cases e; exact ⟨g7, 0, rfl⟩), (fun e => by cases e), fun b i e j x hx => by
        cases e
        exact hsh.at (j := j) (u := iv x) (by rw [List.getElem?_append_left (by rw [List.length_map]; exact (List.getElem?_eq_some_iff.1 hx).1), List.getElem?_map, hx]; rfl)⟩
      have x42 : w7.cell? ⟨g7, pn, none⟩ = some (.int .i64 4242) := by
        have := hsh.at (j := pn) (u := .int .i64 4242) (by rw [List.getElem?_append_right (by rw [List.length_map, hll.out]; exact Nat.le_refl _), List.length_map, hll.out, Nat.sub_self]; rfl)
        rwa [Nat.zero_add] at this
      have hg7l : g7 < w7.heap.size := (hV7.from_base g7 rfl).2
      have hpl := plain_p hB7.p (by omega) (some ⟨g7, 0, none⟩) pn c7 l hIm (fun a e => by cases e; exact hg7l) HXX.out (by omega)
      rw [hE.out] at hpl
      have s0 : (0 : Int) ≤ (pn : Int) := by omega
      have s1 : (pn : Int) ≤ (c7 : Int) := by omega
      unfold maxLen at htp
      clear hV6 hV5 h42 g42 hg7 hg5' hb5 hB4 hG4 hV7 hsh hg47
      go_wp2_with fail
      refine hpl.mono ?_
      rintro e w8 ⟨ao8, P8, cap8, rfl, hP8, hV8, hg8⟩
      replace hP8 : HidO _ := hP8
      have k8 := heap_alloc_new w8 (.cells #[.slice ao8 P8.length cap8] 35)
      have g9 := aGrown w8 (.cells #[.slice ao8 P8.length cap8] 35)
      have hg89 := grown_trans hg8 g9 (by simp)
      have hG9 := grown_trans hG7 hg89 (by simp)
      have hB9 := hB7.grown hg89
      have hIm9 := hIm.grownO hg89
      have x9 := hg89.cell x42 (by simp)
      have hI8 := ((Is'.of_vo hV8).grownO g9).ip
      have p9 := cellOf (i := 0) (v := .slice ao8 P8.length cap8) k8 rfl
      have hnb := number_p hB9.p (by omega) (some ⟨g7, 0, none⟩) pn c7 l hIm9 (fun a e => by cases e; exact Nat.lt_of_lt_of_le hg7l hg89.size) HXX.out (by omega)
      rw [hkv.out, hke.out] at hnb
      clear hpl hB7 hIm x42 hg8 g9 hg89 k8 hV8 hG7
      go_wp2_with fail
      generalize w8.alloc (.cells #[.slice ao8 P8.length cap8] 35) = w9 at *
      generalize w8.heap.size = z13 at *
      refine hnb.mono ?_
      rintro e w10 ⟨rfl, hg10⟩
      have hG10 := grown_trans hG9 hg10 (by simp)
      have hB10 := hB9.grown hg10
      have hIm10 := hIm9.grownO hg10
      have x10 := hg10.cell x9 (by simp)
      have p10 := hg10.cell p9 (by simp)
      have hI10 := hI8.grown hg10
      have hat := at_p hB10.p (by omega) N
      rw [hae.out, hS.out] at hat
      clear hnb hB9 hIm9 x9 p9 hI8 hg10 hG9
      go_wp2_with fail
      refine hat.mono ?_
      rintro e w11 ⟨ao11, cap11, rfl, hV11, hg11⟩
      have k11 := heap_alloc_new w11 (.cells #[.slice ao11 S.length cap11] 35)
      have g12 := aGrown w11 (.cells #[.slice ao11 S.length cap11] 35)
      have hg112 := grown_trans hg11 g12 (by simp)
      have hG12 := grown_trans hG10 hg112 (by simp)
      have hB12 := hB10.grown hg112
      have hIm12 := hIm10.grownO hg112
      have x12 := hg112.cell x10 (by simp)
      have p12 := hg112.cell p10 (by simp)
      have hI12 := hI10.grown hg112
      have hS12 := (Is'.of_vo hV11).grownO g12
      have hS12b : HidO (∀ a, ao11 = some a → a.block < w11.heap.size) := fun a e => (hV11.from_base a.block (by rw [e]; rfl)).2
      have s12 := cellOf (i := 0) (v := .slice ao11 S.length cap11) k11 rfl
      have hcr := crashE_r hB12.r (by omega) hrs po pn pc l (HL.out.grownO hG12).ip (by omega) HXX.out
      rw [hE.out] at hcr
      have hs112 := g12.size
      clear hat hB10 hIm10 x10 p10 hI10 hg11 g12 hg112 k11 hV11 hG10
      go_wp2_with fail
      generalize w11.alloc (.cells #[.slice ao11 S.length cap11] 35) = w12 at *
      have hS12c : HidO (∀ a, ao11 = some a → a.block < w12.heap.size) := fun a e => Nat.lt_of_lt_of_le (hS12b.out a e) hs112
      clear hS12b hs112
      generalize w11.heap.size = z17 at *
      refine hcr.mono ?_
      rintro e w13 ⟨p13, ao13, ac13, vo13, PP, rfl, hPP, hI13, hg13⟩
      replace hPP : HidO _ := hPP
      have hG13 := grown_trans hG12 hg13 (by simp)
      have hB13 := hB12.grown hg13
      have hIm13 := (hIm12.grownO hg13).ip
      have x13 := hg13.cell x12 (by simp)
      have p13' := hg13.cell p12 (by simp)
      have hI8b := hI12.grown hg13
      have hS13 := hS12.grownO hg13
      have s13 := hg13.cell s12 (by simp)
      have hS13b : HidO (∀ a, ao11 = some a → a.block < w13.heap.size) := fun a e => Nat.lt_of_lt_of_le (hS12c.out a e) hg13.size
      have hsa := sames_any w13 (some ⟨g7, 0, none⟩) po pn pn c7 pc l l hIm13 (HL.out.grownO hG13).ip (by omega)
      have hdt : decide (l = l) = true := by simp
      rw [hdt] at hsa
      clear hcr hB12 hIm12 x12 p12 hI12 hS12 s12 hg13 hG12 hS12c hdt
      have s2 : (0 : Int) ≤ (pn : Int) + 1 := by omega
      have s3 : (pn : Int) + 1 ≤ (c7 : Int) := by omega
      go_wp2_with fail
      refine hsa.mono ?_
      rintro e w14 ⟨rfl, hg14⟩
      have hG14 := grown_trans hG13 hg14 (by simp)
      have hB14 := hB13.grown hg14
      have x14 := hg14.cell x13 (by simp)
      have p14 := hg14.cell p13' (by simp)
      have hS14 := hS13.grownO hg14
      have s14 := hg14.cell s13 (by simp)
      have hS14b : HidO (∀ a, ao11 = some a → a.block < w14.heap.size) := fun a e => Nat.lt_of_lt_of_le (hS13b.out a e) hg14.size
      have hPe : P8 = PP := by
        rw [hP8.out, hPP.out]
        cases hb : negB l with
        | true => rfl
        | false => exact (cgs_plain l (negB_no hb) hgd).symm
      have hsb := sames_any w14 ao8 ao13 P8.length PP.length cap8 ac13 P8 PP (hI8b.grown hg14) (hI13.grown hg14) (by
        rw [hPe, hPP.out]
        split
        · simp
        · have := (cgs_len l L).1; omega)
      have hdt : decide (P8 = PP) = true := by simpa using hPe
      rw [hdt] at hsb
      clear hsa hB13 hIm13 x13 p13' hI8b hS13 s13 hS13b hG13 hI13 hg14 hdt hPe hP8 hPP
      go_wp2_with fail
      refine hsb.mono ?_
      rintro e w15 ⟨rfl, hg15⟩
      have hG15 := grown_trans hG14 hg15 (by simp)
      have hB15 := hB14.grown hg15
      have hS15 := hS14.grownO hg15
      have s15 := hg15.cell s14 (by simp)
      have hS15b : HidO (∀ a, ao11 = some a → a.block < w15.heap.size) := fun a e => Nat.lt_of_lt_of_le (hS14b.out a e) hg15.size
      clear hsb hB14 x14 p14 hS14 s14 hS14b hG14 hg15 HL HPC HX HXX
      rcases cntE_or (unsF L) with ⟨he, hv', hp⟩ | ⟨he, hv', hp⟩
      · obtain rfl : ce = 0 := by rw [← hce.out, he]
        obtain rfl : cv = (prodW (unsF L) : Int) := by rw [← hcv.out, hv']
        obtain ⟨W, hW⟩ : ∃ W, prodW (unsF L) = W := ⟨_, rfl⟩
        obtain rfl : V = (W : Int) := by rw [← hV.out]; unfold wyV; rw [prodR_uns, hW, if_pos (by omega)]
        rw [hW] at hp ⊢
        have hW1 : 1 ≤ W := by rw [← hW]; exact prodW_pos _
        have t1 : decide ((4611686018427387904 : Int) < (W : Int)) = false := by simp; omega
        have t2 : decide (4611686018427387904 < W) = false := by simp; omega
        cases hb : negB l with
        | true =>
          obtain rfl : E = 2 := by rw [← hE.out, hb]; rfl
          obtain rfl : kv = 0 := by rw [← hkv.out]; unfold nmV; rw [hb]; rfl
          obtain rfl : ke = 2 := by rw [← hke.out]; unfold nmE; rw [hb]; rfl
          clear hb hE hkv hke
          by_cases hneg : N < 0
          · have n1 : decide (N < 0) = true := by simpa using hneg
            have hae2 : ae = 2 := by rw [← hae.out]; unfold atE; rw [if_pos hneg]
            have hSn : S = [] := by rw [← hS.out]; unfold atV; rw [hae.out, hae2]; rfl
            subst hae2
            have hSl : S.length = 0 := by rw [hSn]; rfl
            rw [hSl] at s15 ⊢
            clear hneg hSl hSn he hv' hp hS hce hcv hV hae hS15 hW
            clear hB15 hrs hlw hgd hS15b
            go_wp2_with fail
            refine (known_any w15).mono ?_
            rintro e w19 ⟨rfl, hg19⟩
            have hG19 := grown_trans hG15 hg19 (by simp)
            go_wp2
            go_ret
            exact ⟨rfl, hG19⟩
          · have n1 : decide (N < 0) = false := by simpa using hneg
            obtain ⟨M, rfl⟩ := Int.eq_ofNat_of_zero_le (show 0 ≤ N by omega)
            by_cases hge : W ≤ M
            · have n2 : decide ((W : Int) ≤ (M : Int)) = true := by simp; omega
              have n3 : decide (W ≤ M) = true := by simpa using hge
              have hae2 : ae = 4 := by rw [← hae.out]; unfold atE; rw [if_neg hneg, if_neg (by simp [he]), if_pos (by rw [hW]; omega)]
              have hSn : S = [] := by rw [← hS.out]; unfold atV; rw [hae.out, hae2]; rfl
              subst hae2
              have hSl : S.length = 0 := by rw [hSn]; rfl
              rw [hSl] at s15 ⊢
              clear hneg hge hSl hSn he hv' hp hS hce hcv hV hae hS15 hW
              clear hB15 hrs hlw hgd hS15b
              go_wp2_with fail
              refine (known_any w15).mono ?_
              rintro e w19 ⟨rfl, hg19⟩
              have hG19 := grown_trans hG15 hg19 (by simp)
              go_wp2
              go_ret
              exact ⟨rfl, hG19⟩
            · have n2 : decide ((W : Int) ≤ (M : Int)) = false := by simp; omega
              have n3 : decide (W ≤ M) = false := by simpa using hge
              obtain ⟨r0, r1, r2, r3, r4, r5, r6⟩ := at_back hlw (by omega) hgd he (N := M) (by rw [hW]; omega)
              rw [hae.out] at r0
              rw [hS.out] at r1 r2 r3 r4 r5 r6
              subst r0
              have hcr := crashE_r hB15.r (by omega) hrs ao11 S.length cap11 S hS15.ip (by omega) r5
              rw [r1] at hcr
              simp only [Bool.false_eq_true, if_false] at hcr
              rw [r2] at hcr
              replace r3 : HidO _ := r3
              replace r4 : HidO _ := r4
              replace r5 : HidO _ := r5
              clear hneg hge he hv' hp hS hce hcv hV hae hW r1 r2
              go_wp2_with fail
              refine hcr.mono ?_
              rintro e w16 ⟨p16, ao16, ac16, vo16, PQ, rfl, hPQ, hI16, hg16⟩
              rw [hPQ] at hI16
              simp only [hPQ]
              clear hPQ
              have hG16 := grown_trans hG15 hg16 (by simp)
              have s16 := hg16.cell s15 (by simp)
              have hS16 := hS15.grownO hg16
              have hnb := number_p (hB15.grown hg16).p (by omega) ao11 S.length cap11 S hS16 (fun a e => Nat.lt_of_lt_of_le (hS15b.out a e) hg16.size) r5.out (by omega)
              rw [r3.out, r4.out] at hnb
              clear hcr hB15 hS15 s15 hS15b hG15 hg16
              go_wp2_with fail
              refine hnb.mono ?_
              rintro e w17 ⟨rfl, hg17⟩
              have hG17 := grown_trans hG16 hg17 (by simp)
              have s17 := hg17.cell s16 (by simp)
              have hsc := sames_any w17 ao11 ao16 S.length S.length cap11 ac16 S S (hS16.grownO hg17).ip (hI16.grown hg17) (by omega)
              have hdt : decide (S = S) = true := by simp
              rw [hdt] at hsc
              clear hnb hS16 s16 hG16 hg17 hI16 hdt
              go_wp2_with fail
              refine hsc.mono ?_
              rintro e w18 ⟨rfl, hg18⟩
              have hG18 := grown_trans hG17 hg18 (by simp)
              clear hsc s17 hG17 hg18
              go_wp2_with fail
              refine (known_any w18).mono ?_
              rintro e w19 ⟨rfl, hg19⟩
              have hG19 := grown_trans hG18 hg19 (by simp)
              go_wp2
              go_ret
              exact ⟨rfl, hG19⟩
        | false =>
          obtain rfl : E = 0 := by rw [← hE.out, hb]; rfl
          obtain rfl : ke = 0 := by rw [← hke.out]; unfold nmE; rw [hb, he]; rfl
          have hin := nm_in hb he
          rw [hkv.out, hW] at hin
          obtain ⟨K, rfl⟩ := Int.eq_ofNat_of_zero_le hin.1
          have u1 : decide ((W : Int) ≤ (K : Int)) = false := by simp; omega
          have u2 : decide (W ≤ K) = false := by simp; omega
          have u3 : decide ((K : Int) < 0) = false := by simp
          clear hb hE hkv hke hin
          by_cases hneg : N < 0
          · have n1 : decide (N < 0) = true := by simpa using hneg
            have hae2 : ae = 2 := by rw [← hae.out]; unfold atE; rw [if_pos hneg]
            have hSn : S = [] := by rw [← hS.out]; unfold atV; rw [hae.out, hae2]; rfl
            subst hae2
            have hSl : S.length = 0 := by rw [hSn]; rfl
            rw [hSl] at s15 ⊢
            clear hneg hSl hSn he hv' hp hS hce hcv hV hae hS15 hW
            clear hB15 hrs hlw hgd hS15b
            go_wp2_with fail
            refine (known_any w15).mono ?_
            rintro e w19 ⟨rfl, hg19⟩
            have hG19 := grown_trans hG15 hg19 (by simp)
            go_wp2
            go_ret
            exact ⟨rfl, hG19⟩
          · have n1 : decide (N < 0) = false := by simpa using hneg
            obtain ⟨M, rfl⟩ := Int.eq_ofNat_of_zero_le (show 0 ≤ N by omega)
            by_cases hge : W ≤ M
            · have n2 : decide ((W : Int) ≤ (M : Int)) = true := by simp; omega
              have n3 : decide (W ≤ M) = true := by simpa using hge
              have hae2 : ae = 4 := by rw [← hae.out]; unfold atE; rw [if_neg hneg, if_neg (by simp [he]), if_pos (by rw [hW]; omega)]
              have hSn : S = [] := by rw [← hS.out]; unfold atV; rw [hae.out, hae2]; rfl
              subst hae2
              have hSl : S.length = 0 := by rw [hSn]; rfl
              rw [hSl] at s15 ⊢
              clear hneg hge hSl hSn he hv' hp hS hce hcv hV hae hS15 hW
              clear hB15 hrs hlw hgd hS15b
              go_wp2_with fail
              refine (known_any w15).mono ?_
              rintro e w19 ⟨rfl, hg19⟩
              have hG19 := grown_trans hG15 hg19 (by simp)
              go_wp2
              go_ret
              exact ⟨rfl, hG19⟩
            · have n2 : decide ((W : Int) ≤ (M : Int)) = false := by simp; omega
              have n3 : decide (W ≤ M) = false := by simpa using hge
              obtain ⟨r0, r1, r2, r3, r4, r5, r6⟩ := at_back hlw (by omega) hgd he (N := M) (by rw [hW]; omega)
              rw [hae.out] at r0
              rw [hS.out] at r1 r2 r3 r4 r5 r6
              subst r0
              have hcr := crashE_r hB15.r (by omega) hrs ao11 S.length cap11 S hS15.ip (by omega) r5
              rw [r1] at hcr
              simp only [Bool.false_eq_true, if_false] at hcr
              rw [r2] at hcr
              replace r3 : HidO _ := r3
              replace r4 : HidO _ := r4
              replace r5 : HidO _ := r5
              clear hneg hge he hv' hp hS hce hcv hV hae hW r1 r2
              go_wp2_with fail
              refine hcr.mono ?_
              rintro e w16 ⟨p16, ao16, ac16, vo16, PQ, rfl, hPQ, hI16, hg16⟩
              rw [hPQ] at hI16
              simp only [hPQ]
              clear hPQ
              have hG16 := grown_trans hG15 hg16 (by simp)
              have s16 := hg16.cell s15 (by simp)
              have hS16 := hS15.grownO hg16
              have hnb := number_p (hB15.grown hg16).p (by omega) ao11 S.length cap11 S hS16 (fun a e => Nat.lt_of_lt_of_le (hS15b.out a e) hg16.size) r5.out (by omega)
              rw [r3.out, r4.out] at hnb
              clear hcr hB15 hS15 s15 hS15b hG15 hg16
              go_wp2_with fail
              refine hnb.mono ?_
              rintro e w17 ⟨rfl, hg17⟩
              have hG17 := grown_trans hG16 hg17 (by simp)
              have s17 := hg17.cell s16 (by simp)
              have hsc := sames_any w17 ao11 ao16 S.length S.length cap11 ac16 S S (hS16.grownO hg17).ip (hI16.grown hg17) (by omega)
              have hdt : decide (S = S) = true := by simp
              rw [hdt] at hsc
              clear hnb hS16 s16 hG16 hg17 hI16 hdt
              go_wp2_with fail
              refine hsc.mono ?_
              rintro e w18 ⟨rfl, hg18⟩
              have hG18 := grown_trans hG17 hg18 (by simp)
              clear hsc s17 hG17 hg18
              go_wp2_with fail
              refine (known_any w18).mono ?_
              rintro e w19 ⟨rfl, hg19⟩
              have hG19 := grown_trans hG18 hg19 (by simp)
              go_wp2
              go_ret
              exact ⟨rfl, hG19⟩
      · obtain rfl : ce = 3 := by rw [← hce.out, he]
        obtain rfl : cv = 0 := by rw [← hcv.out, hv']
        obtain rfl : V = 4611686018427387905 := by rw [← hV.out]; unfold wyV; rw [prodR_uns, if_neg hp]
        have hae2 : ae = if N < 0 then 2 else 3 := by rw [← hae.out]; unfold atE; rw [he]; simp
        have hSn : S = [] := by
          rw [← hS.out]
          unfold atV
          rw [hae.out, hae2]
          split <;> simp
        have hSl : S.length = 0 := by rw [hSn]; rfl
        rw [hSl] at s15 ⊢
        have hke2 : ke = if negB l = true then 2 else 3 := by rw [← hke.out]; unfold nmE; rw [he]
        have hkv2 : kv = 0 := by rw [← hkv.out]; unfold nmV; rw [he]; simp
        subst hkv2
        clear hSl hSn he hv' hp hS hce hcv hV hae hke hkv hS15
        cases hb : negB l with
        | true =>
          obtain rfl : E = 2 := by rw [← hE.out, hb]; rfl
          obtain rfl : ke = 2 := by rw [hke2, hb]; rfl
          clear hb hE hke2
          by_cases hneg : N < 0
          · have n1 : decide (N < 0) = true := by simpa using hneg
            obtain rfl : ae = 2 := by rw [hae2, if_pos hneg]
            clear hneg hae2
            clear hB15 hrs hlw hgd hS15b
            go_wp2_with fail
            refine (known_any w15).mono ?_
            rintro e w19 ⟨rfl, hg19⟩
            have hG19 := grown_trans hG15 hg19 (by simp)
            go_wp2
            go_ret
            exact ⟨rfl, hG19⟩
          · have n1 : decide (N < 0) = false := by simpa using hneg
            obtain rfl : ae = 3 := by rw [hae2, if_neg hneg]
            clear hneg hae2
            clear hB15 hrs hlw hgd hS15b
            go_wp2_with fail
            refine (known_any w15).mono ?_
            rintro e w19 ⟨rfl, hg19⟩
            have hG19 := grown_trans hG15 hg19 (by simp)
            go_wp2
            go_ret
            exact ⟨rfl, hG19⟩
        | false =>
          obtain rfl : E = 0 := by rw [← hE.out, hb]; rfl
          obtain rfl : ke = 3 := by rw [hke2, hb]; rfl
          clear hb hE hke2
          by_cases hneg : N < 0
          · have n1 : decide (N < 0) = true := by simpa using hneg
            obtain rfl : ae = 2 := by rw [hae2, if_pos hneg]
            clear hneg hae2
            clear hB15 hrs hlw hgd hS15b
            go_wp2_with fail
            refine (known_any w15).mono ?_
            rintro e w19 ⟨rfl, hg19⟩
            have hG19 := grown_trans hG15 hg19 (by simp)
            go_wp2
            go_ret
            exact ⟨rfl, hG19⟩
          · have n1 : decide (N < 0) = false := by simpa using hneg
            obtain rfl : ae = 3 := by rw [hae2, if_neg hneg]
            clear hneg hae2
            clear hB15 hrs hlw hgd hS15b
            go_wp2_with fail
            refine (known_any w15).mono ?_
            rintro e w19 ⟨rfl, hg19⟩
            have hG19 := grown_trans hG15 hg19 (by simp)
            go_wp2
            go_ret
            exact ⟨rfl, hG19⟩
end Go.Proofs.Ytgkeflgfnagnjaa
