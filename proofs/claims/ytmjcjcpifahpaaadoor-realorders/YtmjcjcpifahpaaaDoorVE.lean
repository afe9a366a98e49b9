/-
  RealOrders: the document's Read of a text behind a minus: the walk.
-/
import Derived.Test.YtmjcjcpifahpaaaDoorVD
namespace Go.Proofs.YtmjcjcpifahpaaaDoor
open Go.RowKit
set_option linter.unusedVariables false

section
variable (DD : World → Prop) (hDg : ∀ W W', DD W → W.grownBy W' none → DD W')
  (C45 : ∀ W u, u < 18446744073709551616 → DD W → Calls Tryd.prog 45 #[.int .u64 (u : Nat), .int .i64 10] W fun e w' => e = .returned (.string ⟨(Lib.decDigits u).toArray⟩) ∧ W.grownBy w' none)
  (C46 : ∀ W n, -9223372036854775808 ≤ n → n ≤ 9223372036854775807 → DD W → Calls Tryd.prog 46 #[.int .i64 n] W fun e w' => e = .returned (.string ⟨(Lib.itoa n).toArray⟩) ∧ W.grownBy w' none)
include hDg C45 C46

set_option maxRecDepth 100000 in
set_option maxHeartbeats 16000000 in
theorem rread_neg (w : World) (hD : DD w) (L T : List UInt8) (hL : L.length ≤ 4611686018427387904) (hcut : cut 45 L = (T, true)) (c0 : UInt8) (l0 : List UInt8) (hLc : L = c0 :: l0) (hc0 : c0 = 45) (hTl : T = l0) :
    Calls Tryd.prog 11 #[.string (sb L)] w fun e w' => ∃ d h, e = .returned (.tuple #[.float .f64 d, .int .i64 h]) ∧ RdA L d h ∧ w.grownBy w' none := by
  have hs := sb_toList L
  have hpos : 0 < (sb L).size := by rw [sb_size, hLc]; simp
  have hposI : (0 : Int) < ((sb L).size : Int) := by omega
  have hd0 : decide ((0 : Int) < ((sb L).size : Int)) = true := by simpa using hposI
  have hd0' : decide (0 < (sb L).size) = true := by simpa using hpos
  have hat : (sb L)[0]'hpos = c0 := by subst hLc; rfl
  have hTs : (sb T).size = T.length := sb_size T
  have hTle : T.length ≤ 4611686018427387904 := by rw [hTl]; rw [hLc] at hL; simp at hL; omega
  have hst := sb_toList T
  have hx : (sb L).extract 1 (sb L).size = sb T := by rw [sb_from, hLc, hTl]; rfl
  have hq45 : ((c0.toNat : Int) == 45) = true := by rw [hc0]; rfl
  have hq45' : (c0.toNat == 45) = true := by rw [hc0]; rfl
  have hq45'' : (c0 == 45) = true := by rw [hc0]; rfl
  have hnan : L ≠ [110, 97, 110] := fun e => by rw [hLc, hc0] at e; cases e
  have hnq : (L == [110, 97, 110]) = false := by simpa using hnan
  have hcutH : Hid (cut 45 L = (T, true)) := hcut
  clear hLc hTl hc0 hTs hcut
  go_enter Tryd.func11, Tryd.ntmps11
  go_wp2_with fail
  go_loopw [7] (fun v7 wr => ∃ i : Nat, v7 = .int .i64 i ∧ i ≤ T.length ∧ Hid (∀ j, j < i → ∀ c, T[j]? = some c → c ≠ 112) ∧ wr = w) (fun v7 _ => T.length - (intOf v7).toNat)
  case atStart => exact ⟨0, rfl, Nat.zero_le _, (fun j h => absurd h (by omega)), rfl⟩
  case round =>
    clear hat hq45 hq45' hq45'' hd0 hd0' hposI
    obtain ⟨i, rfl, hi, hO, hw⟩ := hrel
    replace hw := hw.symm
    subst hw
    have z0 : (0 : Int) ≤ (i : Int) := by omega
    by_cases hlt : i < T.length
    · have e1 : decide ((i : Int) < ((sb T).size : Int)) = true := by rw [sb_size]; simp; omega
      have e1' : decide (i < (sb T).size) = true := by rw [sb_size]; simpa using hlt
      have e2 : (i : Int) < ((sb T).size : Int) := by rw [sb_size]; omega
      have e3 : i < (sb T).size := by rw [sb_size]; exact hlt
      obtain ⟨c, hc⟩ : ∃ c, T[i]? = some c := ⟨_, List.getElem?_eq_getElem hlt⟩
      have hci := sb_at T hc e3
      by_cases h112 : c = 112
      · have hp := hO.out
        have hc2 : T[i]? = some 112 := by rw [hc, h112]
        have q1 : ((c.toNat : Int) == 112) = true := by rw [h112]; rfl
        have q1' : (c.toNat == 112) = true := by rw [h112]; rfl
        have q2 : ((c.toNat : Int) != 112) = false := by rw [h112]; rfl
        have hT1 : T ≠ [48] := fun e => by rw [e] at hc2; match i, hc2 with | 0, h => cases h
        have hT2 : T ≠ [105, 110, 102] := fun e => by rw [e] at hc2; match i, hc2 with | 0, h => cases h | 1, h => cases h | 2, h => cases h
        have hTq1 : (T == [48]) = false := by simpa using hT1
        have hTq2 : (T == [105, 110, 102]) = false := by simpa using hT2
        have e4 : ((i : Int) == ((sb T).size : Int)) = false := by rw [sb_size]; simp; omega
        have e4' : (i == (sb T).size) = false := by rw [sb_size]; simp; omega
        have hto := sb_to T i
        have hfrom := sb_from T (i + 1)
        have hPl : (T.drop (i + 1)).length ≤ 4611686018427387904 := by rw [List.length_drop]; omega
        have hKl : (T.take i).length ≤ 4611686018427387904 := by rw [List.length_take]; omega
        have hpH : Hid (∀ j, j < i → ∀ c, T[j]? = some c → c ≠ 112) := hp
        have hcH : Hid (T[i]? = some 112) := hc2
        have hi62 : i ≤ 4611686018427387904 := by omega
        have e6 : i + 1 ≤ (sb T).size := by omega
        clear hO hc hc2 hp hi h112
        cases hP : T.drop (i + 1) with
        | nil =>
          rw [hP] at hfrom hPl
          have hcpH : Hid (cut 45 (T.drop (i + 1)) = ([], false)) := by show _ = _; rw [hP]; rfl
          have hPs : (sb []).size = 0 := rfl
          have hPwl : ([] : List UInt8).length ≤ 4611686018427387904 := by simp
          clear hP
          cases hK : dgx (T.take i) with
          | none =>
            have hk1 := dg_none w (T.take i) hKl hK
            have hRB : Hid (RdA L 0 130) := rda_bad hcutH.out hnan hT1 hT2 (rxm_none1 hpH.out hcH.out hK)
            clear hK hKl hPl
            cases hP2 : dgx [] with
            | none =>
              have hk2 := dg_none w [] hPwl hP2
              clear hP2 hPwl
              go_wp2_with fail
              refine hk1.mono ?_
              rintro e w1 ⟨v1, rfl, hm18, hx⟩
              replace hx := hx.symm
              subst hx
              go_wp2_with fail
              refine hk2.mono ?_
              rintro e w1 ⟨v2, rfl, he18, hx⟩
              replace hx := hx.symm
              subst hx
              go_wp2_with fail
              go_ret2
              exact rdret hRB.out (grown_refl _ _)
            | some e2 => exact absurd hP2 (by unfold dgx; simp)
          | some m =>
            have hk1 := dg_some w (T.take i) m hKl hK
            cases hP2 : dgx [] with
            | none =>
              have hk2 := dg_none w [] hPwl hP2
              have hRB : Hid (RdA L 0 130) := rda_bad hcutH.out hnan hT1 hT2 (rxm_none2 hpH.out hcH.out hcpH.out hP2)
              clear hK hKl hP2 hPwl hPl
              go_wp2_with fail
              refine hk1.mono ?_
              rintro e w1 ⟨rfl, hm18, hx⟩
              replace hx := hx.symm
              subst hx
              go_wp2_with fail
              refine hk2.mono ?_
              rintro e w1 ⟨v2, rfl, he18, hx⟩
              replace hx := hx.symm
              subst hx
              go_wp2_with fail
              go_ret2
              exact rdret hRB.out (grown_refl _ _)
            | some e2 => exact absurd hP2 (by unfold dgx; simp)
        | cons c1 p1 =>
          rw [hP] at hfrom hPl
          have hPpos : 0 < (sb (c1 :: p1)).size := by rw [sb_size]; simp
          have hPd : decide ((0 : Int) < ((sb (c1 :: p1)).size : Int)) = true := by simpa using hPpos
          have hPd' : decide (0 < (sb (c1 :: p1)).size) = true := by simpa using hPpos
          have hPI : (0 : Int) < ((sb (c1 :: p1)).size : Int) := by omega
          have hPat : (sb (c1 :: p1))[0]'hPpos = c1 := rfl
          have hPx : (sb (c1 :: p1)).extract 1 (sb (c1 :: p1)).size = sb p1 := by rw [sb_from]; rfl
          by_cases h45 : c1 = 45
          · have q45 : ((c1.toNat : Int) == 45) = true := by rw [h45]; rfl
            have q45' : (c1.toNat == 45) = true := by rw [h45]; rfl
            have hcpH : Hid (cut 45 (T.drop (i + 1)) = (p1, true)) := by show _ = _; rw [hP, h45]; rfl
            have hPwl : p1.length ≤ 4611686018427387904 := by simp at hPl; omega
            clear hP h45
            cases hK : dgx (T.take i) with
            | none =>
              have hk1 := dg_none w (T.take i) hKl hK
              have hRB : Hid (RdA L 0 130) := rda_bad hcutH.out hnan hT1 hT2 (rxm_none1 hpH.out hcH.out hK)
              clear hK hKl hPl
              cases hP2 : dgx p1 with
              | none =>
                have hk2 := dg_none w p1 hPwl hP2
                clear hP2 hPwl
                go_wp2_with fail
                refine hk1.mono ?_
                rintro e w1 ⟨v1, rfl, hm18, hx⟩
                replace hx := hx.symm
                subst hx
                go_wp2_with fail
                refine hk2.mono ?_
                rintro e w1 ⟨v2, rfl, he18, hx⟩
                replace hx := hx.symm
                subst hx
                go_wp2_with fail
                go_ret2
                exact rdret hRB.out (grown_refl _ _)
              | some e2 =>
                have hk2 := dg_some w p1 e2 hPwl hP2
                clear hP2 hPwl
                go_wp2_with fail
                refine hk1.mono ?_
                rintro e w1 ⟨v1, rfl, hm18, hx⟩
                replace hx := hx.symm
                subst hx
                go_wp2_with fail
                refine hk2.mono ?_
                rintro e w1 ⟨rfl, he18, hx⟩
                replace hx := hx.symm
                subst hx
                go_wp2_with fail
                go_ret2
                exact rdret hRB.out (grown_refl _ _)
            | some m =>
              have hk1 := dg_some w (T.take i) m hKl hK
              cases hP2 : dgx p1 with
              | none =>
                have hk2 := dg_none w p1 hPwl hP2
                have hRB : Hid (RdA L 0 130) := rda_bad hcutH.out hnan hT1 hT2 (rxm_none2 hpH.out hcH.out hcpH.out hP2)
                clear hK hKl hP2 hPwl hPl
                go_wp2_with fail
                refine hk1.mono ?_
                rintro e w1 ⟨rfl, hm18, hx⟩
                replace hx := hx.symm
                subst hx
                go_wp2_with fail
                refine hk2.mono ?_
                rintro e w1 ⟨v2, rfl, he18, hx⟩
                replace hx := hx.symm
                subst hx
                go_wp2_with fail
                go_ret2
                exact rdret hRB.out (grown_refl _ _)
              | some e2 =>
                have hk2 := dg_some w p1 e2 hPwl hP2
                by_cases hm : m < 9007199254740992
                · have m1 : decide ((9007199254740992 : Int) ≤ (m : Int)) = false := by simp; omega
                  have m1' : decide (9007199254740992 ≤ m) = false := by simp; omega
                  by_cases he : e2 ≤ 1100
                  · have e1 : decide ((1100 : Int) < (e2 : Int)) = false := by simp; omega
                    have e1' : decide (1100 < e2) = false := by simp; omega
                    have hrx := rxm_some hpH.out hcH.out hcpH.out hK hP2 ⟨hm, he⟩
                    by_cases hm0 : m = 0
                    · have hld := bigLdexp_zero w (-(e2 : Int))
                      have hof := of_int_zero
                      subst hm0
                      have hC : Cand L (sgx true 0) := cand_def hcutH.out hT1 hT2 hrx (by omega) (fun h => absurd h (by omega))
                      clear hrx hK hKl hP2 hPwl hPl hm he
                      go_wp2_with fail
                      refine hk1.mono ?_
                      rintro e w1 ⟨rfl, hm18, hx⟩
                      replace hx := hx.symm
                      subst hx
                      go_wp2_with fail
                      refine hk2.mono ?_
                      rintro e w1 ⟨rfl, he18, hx⟩
                      replace hx := hx.symm
                      subst hx
                      go_wp2_with fail
                      refine hld.mono ?_
                      rintro e w1 ⟨rfl, hx⟩
                      replace hx := hx.symm
                      subst hx
                      have hcs := copysign_any w (x := 0) (y := 13830554455654793216) (by omega) (by omega)
                      rw [if_pos (by omega)] at hcs
                      have hX : Hid (sgx true 0 = 0 % 9223372036854775808 + 9223372036854775808) := rfl
                      rw [hX.out] at hC
                      generalize 0 % 9223372036854775808 + 9223372036854775808 = X at *
                      have hRT := rtext_any DD hDg C45 C46 w (X) (Cand.lt hC) hD
                      have hYn : Hid (txt (X) = L → RdA L (X) 0) := fun h => Cand.yes hC h
                      have hNn : Hid (txt (X) ≠ L → RdA L 0 130) := fun h => Cand.no hC hnan h
                      obtain ⟨Y, hY⟩ : ∃ Y, txt (X) = Y := ⟨_, rfl⟩
                      rw [hY] at hRT hYn hNn
                      have hY3 : (⟨Y.toArray⟩ : ByteArray).toList = Y := ByteArray.toList_mk Y
                      obtain ⟨YB, hYB⟩ : ∃ B : ByteArray, (⟨Y.toArray⟩ : ByteArray) = B := ⟨_, rfl⟩
                      rw [hYB] at hRT hY3
                      have hCH : Hid (Cand L (X)) := hC
                      clear hY hYB hC
                      by_cases hq : Y = L
                      · have hq3 : (Y == L) = true := by simpa using hq
                        have hq4 : (Y != L) = false := by simpa using hq
                        have hR := hYn.out hq
                        have hRH : Hid (RdA L (X) 0) := hR
                        clear hR hYn hNn hq
                        go_wp2_with fail
                        refine hcs.mono ?_
                        rintro e w1 ⟨rfl, hx⟩
                        replace hx := hx.symm
                        subst hx
                        go_wp2_with fail
                        refine hRT.mono ?_
                        rintro e w2 ⟨rfl, hg⟩
                        go_wp2_with fail
                        go_ret2
                        exact rdret hRH.out hg
                      · have hq3 : (Y == L) = false := by simpa using hq
                        have hq4 : (Y != L) = true := by simpa using hq
                        have hR := hNn.out hq
                        have hRH : Hid (RdA L 0 130) := hR
                        clear hR hYn hNn hq
                        go_wp2_with fail
                        refine hcs.mono ?_
                        rintro e w1 ⟨rfl, hx⟩
                        replace hx := hx.symm
                        subst hx
                        go_wp2_with fail
                        refine hRT.mono ?_
                        rintro e w2 ⟨rfl, hg⟩
                        go_wp2_with fail
                        go_ret2
                        exact rdret hRH.out hg
                    · have hld := bigLdexp_any w (m := m) (e := -(e2 : Int)) (by omega) hm (by omega) (by omega)
                      have hof := of_int (m := m) (by omega) hm
                      generalize jn m 0 = J at *
                      have hCz : Hid (∀ z, z < 18446744073709551616 → (-1074 ≤ -(e2 : Int) → -(e2 : Int) + (Lib.bitLen m : Int) ≤ 1024 → z = jn m (-(e2 : Int))) → Cand L (sgx true z)) := fun z h1 h2 => cand_def hcutH.out hT1 hT2 hrx h1 (fun _ => h2)
                      clear hrx hK hKl hP2 hPwl hPl hm0
                      go_wp2_with fail
                      refine hk1.mono ?_
                      rintro e w1 ⟨rfl, hm18, hx⟩
                      replace hx := hx.symm
                      subst hx
                      go_wp2_with fail
                      refine hk2.mono ?_
                      rintro e w1 ⟨rfl, he18, hx⟩
                      replace hx := hx.symm
                      subst hx
                      go_wp2_with fail
                      refine hld.mono ?_
                      rintro e w1 ⟨z, rfl, hz1, hz2, hx⟩
                      replace hx := hx.symm
                      subst hx
                      have hC := hCz.out z hz1 hz2
                      clear hCz hz2 hld
                      have hcs := copysign_any w (x := z) (y := 13830554455654793216) (by omega) (by omega)
                      rw [if_pos (by omega)] at hcs
                      have hX : Hid (sgx true z = z % 9223372036854775808 + 9223372036854775808) := rfl
                      rw [hX.out] at hC
                      generalize z % 9223372036854775808 + 9223372036854775808 = X at *
                      have hRT := rtext_any DD hDg C45 C46 w (X) (Cand.lt hC) hD
                      have hYn : Hid (txt (X) = L → RdA L (X) 0) := fun h => Cand.yes hC h
                      have hNn : Hid (txt (X) ≠ L → RdA L 0 130) := fun h => Cand.no hC hnan h
                      obtain ⟨Y, hY⟩ : ∃ Y, txt (X) = Y := ⟨_, rfl⟩
                      rw [hY] at hRT hYn hNn
                      have hY3 : (⟨Y.toArray⟩ : ByteArray).toList = Y := ByteArray.toList_mk Y
                      obtain ⟨YB, hYB⟩ : ∃ B : ByteArray, (⟨Y.toArray⟩ : ByteArray) = B := ⟨_, rfl⟩
                      rw [hYB] at hRT hY3
                      have hCH : Hid (Cand L (X)) := hC
                      clear hY hYB hC
                      by_cases hq : Y = L
                      · have hq3 : (Y == L) = true := by simpa using hq
                        have hq4 : (Y != L) = false := by simpa using hq
                        have hR := hYn.out hq
                        have hRH : Hid (RdA L (X) 0) := hR
                        clear hR hYn hNn hq
                        go_wp2_with fail
                        refine hcs.mono ?_
                        rintro e w1 ⟨rfl, hx⟩
                        replace hx := hx.symm
                        subst hx
                        go_wp2_with fail
                        refine hRT.mono ?_
                        rintro e w2 ⟨rfl, hg⟩
                        go_wp2_with fail
                        go_ret2
                        exact rdret hRH.out hg
                      · have hq3 : (Y == L) = false := by simpa using hq
                        have hq4 : (Y != L) = true := by simpa using hq
                        have hR := hNn.out hq
                        have hRH : Hid (RdA L 0 130) := hR
                        clear hR hYn hNn hq
                        go_wp2_with fail
                        refine hcs.mono ?_
                        rintro e w1 ⟨rfl, hx⟩
                        replace hx := hx.symm
                        subst hx
                        go_wp2_with fail
                        refine hRT.mono ?_
                        rintro e w2 ⟨rfl, hg⟩
                        go_wp2_with fail
                        go_ret2
                        exact rdret hRH.out hg
                  · have e1 : decide ((1100 : Int) < (e2 : Int)) = true := by simp; omega
                    have e1' : decide (1100 < e2) = true := by simp; omega
                    have hRB : Hid (RdA L 0 130) := rda_bad hcutH.out hnan hT1 hT2 (rxm_none3 hpH.out hcH.out hcpH.out hK hP2 (fun h => he h.2))
                    clear hK hKl hP2 hPwl hPl he hm
                    go_wp2_with fail
                    refine hk1.mono ?_
                    rintro e w1 ⟨rfl, hm18, hx⟩
                    replace hx := hx.symm
                    subst hx
                    go_wp2_with fail
                    refine hk2.mono ?_
                    rintro e w1 ⟨rfl, he18, hx⟩
                    replace hx := hx.symm
                    subst hx
                    go_wp2_with fail
                    go_ret2
                    exact rdret hRB.out (grown_refl _ _)
                · have m1 : decide ((9007199254740992 : Int) ≤ (m : Int)) = true := by simp; omega
                  have m1' : decide (9007199254740992 ≤ m) = true := by simp; omega
                  have hRB : Hid (RdA L 0 130) := rda_bad hcutH.out hnan hT1 hT2 (rxm_none3 hpH.out hcH.out hcpH.out hK hP2 (fun h => hm h.1))
                  clear hK hKl hP2 hPwl hPl hm
                  go_wp2_with fail
                  refine hk1.mono ?_
                  rintro e w1 ⟨rfl, hm18, hx⟩
                  replace hx := hx.symm
                  subst hx
                  go_wp2_with fail
                  refine hk2.mono ?_
                  rintro e w1 ⟨rfl, he18, hx⟩
                  replace hx := hx.symm
                  subst hx
                  go_wp2_with fail
                  go_ret2
                  exact rdret hRB.out (grown_refl _ _)
          · have q45 : ((c1.toNat : Int) == 45) = false := by
              have : c1.toNat ≠ 45 := fun e => h45 (UInt8.toNat_inj.1 e)
              simp; omega
            have q45' : (c1.toNat == 45) = false := by
              have : c1.toNat ≠ 45 := fun e => h45 (UInt8.toNat_inj.1 e)
              simpa using this
            have hcpH : Hid (cut 45 (T.drop (i + 1)) = (c1 :: p1, false)) := by show _ = _; rw [hP]; simp [cut, h45]
            have hPwl := hPl
            clear hP h45
            cases hK : dgx (T.take i) with
            | none =>
              have hk1 := dg_none w (T.take i) hKl hK
              have hRB : Hid (RdA L 0 130) := rda_bad hcutH.out hnan hT1 hT2 (rxm_none1 hpH.out hcH.out hK)
              clear hK hKl hPl
              cases hP2 : dgx (c1 :: p1) with
              | none =>
                have hk2 := dg_none w (c1 :: p1) hPwl hP2
                clear hP2 hPwl
                go_wp2_with fail
                refine hk1.mono ?_
                rintro e w1 ⟨v1, rfl, hm18, hx⟩
                replace hx := hx.symm
                subst hx
                go_wp2_with fail
                refine hk2.mono ?_
                rintro e w1 ⟨v2, rfl, he18, hx⟩
                replace hx := hx.symm
                subst hx
                go_wp2_with fail
                go_ret2
                exact rdret hRB.out (grown_refl _ _)
              | some e2 =>
                have hk2 := dg_some w (c1 :: p1) e2 hPwl hP2
                clear hP2 hPwl
                go_wp2_with fail
                refine hk1.mono ?_
                rintro e w1 ⟨v1, rfl, hm18, hx⟩
                replace hx := hx.symm
                subst hx
                go_wp2_with fail
                refine hk2.mono ?_
                rintro e w1 ⟨rfl, he18, hx⟩
                replace hx := hx.symm
                subst hx
                go_wp2_with fail
                go_ret2
                exact rdret hRB.out (grown_refl _ _)
            | some m =>
              have hk1 := dg_some w (T.take i) m hKl hK
              cases hP2 : dgx (c1 :: p1) with
              | none =>
                have hk2 := dg_none w (c1 :: p1) hPwl hP2
                have hRB : Hid (RdA L 0 130) := rda_bad hcutH.out hnan hT1 hT2 (rxm_none2 hpH.out hcH.out hcpH.out hP2)
                clear hK hKl hP2 hPwl hPl
                go_wp2_with fail
                refine hk1.mono ?_
                rintro e w1 ⟨rfl, hm18, hx⟩
                replace hx := hx.symm
                subst hx
                go_wp2_with fail
                refine hk2.mono ?_
                rintro e w1 ⟨v2, rfl, he18, hx⟩
                replace hx := hx.symm
                subst hx
                go_wp2_with fail
                go_ret2
                exact rdret hRB.out (grown_refl _ _)
              | some e2 =>
                have hk2 := dg_some w (c1 :: p1) e2 hPwl hP2
                by_cases hm : m < 9007199254740992
                · have m1 : decide ((9007199254740992 : Int) ≤ (m : Int)) = false := by simp; omega
                  have m1' : decide (9007199254740992 ≤ m) = false := by simp; omega
                  by_cases he : e2 ≤ 1100
                  · have e1 : decide ((1100 : Int) < (e2 : Int)) = false := by simp; omega
                    have e1' : decide (1100 < e2) = false := by simp; omega
                    have hrx := rxm_some hpH.out hcH.out hcpH.out hK hP2 ⟨hm, he⟩
                    by_cases hm0 : m = 0
                    · have hld := bigLdexp_zero w ((e2 : Int))
                      have hof := of_int_zero
                      subst hm0
                      have hC : Cand L (sgx true 0) := cand_def hcutH.out hT1 hT2 hrx (by omega) (fun h => absurd h (by omega))
                      clear hrx hK hKl hP2 hPwl hPl hm he
                      go_wp2_with fail
                      refine hk1.mono ?_
                      rintro e w1 ⟨rfl, hm18, hx⟩
                      replace hx := hx.symm
                      subst hx
                      go_wp2_with fail
                      refine hk2.mono ?_
                      rintro e w1 ⟨rfl, he18, hx⟩
                      replace hx := hx.symm
                      subst hx
                      go_wp2_with fail
                      refine hld.mono ?_
                      rintro e w1 ⟨rfl, hx⟩
                      replace hx := hx.symm
                      subst hx
                      have hcs := copysign_any w (x := 0) (y := 13830554455654793216) (by omega) (by omega)
                      rw [if_pos (by omega)] at hcs
                      have hX : Hid (sgx true 0 = 0 % 9223372036854775808 + 9223372036854775808) := rfl
                      rw [hX.out] at hC
                      generalize 0 % 9223372036854775808 + 9223372036854775808 = X at *
                      have hRT := rtext_any DD hDg C45 C46 w (X) (Cand.lt hC) hD
                      have hYn : Hid (txt (X) = L → RdA L (X) 0) := fun h => Cand.yes hC h
                      have hNn : Hid (txt (X) ≠ L → RdA L 0 130) := fun h => Cand.no hC hnan h
                      obtain ⟨Y, hY⟩ : ∃ Y, txt (X) = Y := ⟨_, rfl⟩
                      rw [hY] at hRT hYn hNn
                      have hY3 : (⟨Y.toArray⟩ : ByteArray).toList = Y := ByteArray.toList_mk Y
                      obtain ⟨YB, hYB⟩ : ∃ B : ByteArray, (⟨Y.toArray⟩ : ByteArray) = B := ⟨_, rfl⟩
                      rw [hYB] at hRT hY3
                      have hCH : Hid (Cand L (X)) := hC
                      clear hY hYB hC
                      by_cases hq : Y = L
                      · have hq3 : (Y == L) = true := by simpa using hq
                        have hq4 : (Y != L) = false := by simpa using hq
                        have hR := hYn.out hq
                        have hRH : Hid (RdA L (X) 0) := hR
                        clear hR hYn hNn hq
                        go_wp2_with fail
                        refine hcs.mono ?_
                        rintro e w1 ⟨rfl, hx⟩
                        replace hx := hx.symm
                        subst hx
                        go_wp2_with fail
                        refine hRT.mono ?_
                        rintro e w2 ⟨rfl, hg⟩
                        go_wp2_with fail
                        go_ret2
                        exact rdret hRH.out hg
                      · have hq3 : (Y == L) = false := by simpa using hq
                        have hq4 : (Y != L) = true := by simpa using hq
                        have hR := hNn.out hq
                        have hRH : Hid (RdA L 0 130) := hR
                        clear hR hYn hNn hq
                        go_wp2_with fail
                        refine hcs.mono ?_
                        rintro e w1 ⟨rfl, hx⟩
                        replace hx := hx.symm
                        subst hx
                        go_wp2_with fail
                        refine hRT.mono ?_
                        rintro e w2 ⟨rfl, hg⟩
                        go_wp2_with fail
                        go_ret2
                        exact rdret hRH.out hg
                    · have hld := bigLdexp_any w (m := m) (e := (e2 : Int)) (by omega) hm (by omega) (by omega)
                      have hof := of_int (m := m) (by omega) hm
                      generalize jn m 0 = J at *
                      have hCz : Hid (∀ z, z < 18446744073709551616 → (-1074 ≤ (e2 : Int) → (e2 : Int) + (Lib.bitLen m : Int) ≤ 1024 → z = jn m ((e2 : Int))) → Cand L (sgx true z)) := fun z h1 h2 => cand_def hcutH.out hT1 hT2 hrx h1 (fun _ => h2)
                      clear hrx hK hKl hP2 hPwl hPl hm0
                      go_wp2_with fail
                      refine hk1.mono ?_
                      rintro e w1 ⟨rfl, hm18, hx⟩
                      replace hx := hx.symm
                      subst hx
                      go_wp2_with fail
                      refine hk2.mono ?_
                      rintro e w1 ⟨rfl, he18, hx⟩
                      replace hx := hx.symm
                      subst hx
                      go_wp2_with fail
                      refine hld.mono ?_
                      rintro e w1 ⟨z, rfl, hz1, hz2, hx⟩
                      replace hx := hx.symm
                      subst hx
                      have hC := hCz.out z hz1 hz2
                      clear hCz hz2 hld
                      have hcs := copysign_any w (x := z) (y := 13830554455654793216) (by omega) (by omega)
                      rw [if_pos (by omega)] at hcs
                      have hX : Hid (sgx true z = z % 9223372036854775808 + 9223372036854775808) := rfl
                      rw [hX.out] at hC
                      generalize z % 9223372036854775808 + 9223372036854775808 = X at *
                      have hRT := rtext_any DD hDg C45 C46 w (X) (Cand.lt hC) hD
                      have hYn : Hid (txt (X) = L → RdA L (X) 0) := fun h => Cand.yes hC h
                      have hNn : Hid (txt (X) ≠ L → RdA L 0 130) := fun h => Cand.no hC hnan h
                      obtain ⟨Y, hY⟩ : ∃ Y, txt (X) = Y := ⟨_, rfl⟩
                      rw [hY] at hRT hYn hNn
                      have hY3 : (⟨Y.toArray⟩ : ByteArray).toList = Y := ByteArray.toList_mk Y
                      obtain ⟨YB, hYB⟩ : ∃ B : ByteArray, (⟨Y.toArray⟩ : ByteArray) = B := ⟨_, rfl⟩
                      rw [hYB] at hRT hY3
                      have hCH : Hid (Cand L (X)) := hC
                      clear hY hYB hC
                      by_cases hq : Y = L
                      · have hq3 : (Y == L) = true := by simpa using hq
                        have hq4 : (Y != L) = false := by simpa using hq
                        have hR := hYn.out hq
                        have hRH : Hid (RdA L (X) 0) := hR
                        clear hR hYn hNn hq
                        go_wp2_with fail
                        refine hcs.mono ?_
                        rintro e w1 ⟨rfl, hx⟩
                        replace hx := hx.symm
                        subst hx
                        go_wp2_with fail
                        refine hRT.mono ?_
                        rintro e w2 ⟨rfl, hg⟩
                        go_wp2_with fail
                        go_ret2
                        exact rdret hRH.out hg
                      · have hq3 : (Y == L) = false := by simpa using hq
                        have hq4 : (Y != L) = true := by simpa using hq
                        have hR := hNn.out hq
                        have hRH : Hid (RdA L 0 130) := hR
                        clear hR hYn hNn hq
                        go_wp2_with fail
                        refine hcs.mono ?_
                        rintro e w1 ⟨rfl, hx⟩
                        replace hx := hx.symm
                        subst hx
                        go_wp2_with fail
                        refine hRT.mono ?_
                        rintro e w2 ⟨rfl, hg⟩
                        go_wp2_with fail
                        go_ret2
                        exact rdret hRH.out hg
                  · have e1 : decide ((1100 : Int) < (e2 : Int)) = true := by simp; omega
                    have e1' : decide (1100 < e2) = true := by simp; omega
                    have hRB : Hid (RdA L 0 130) := rda_bad hcutH.out hnan hT1 hT2 (rxm_none3 hpH.out hcH.out hcpH.out hK hP2 (fun h => he h.2))
                    clear hK hKl hP2 hPwl hPl he hm
                    go_wp2_with fail
                    refine hk1.mono ?_
                    rintro e w1 ⟨rfl, hm18, hx⟩
                    replace hx := hx.symm
                    subst hx
                    go_wp2_with fail
                    refine hk2.mono ?_
                    rintro e w1 ⟨rfl, he18, hx⟩
                    replace hx := hx.symm
                    subst hx
                    go_wp2_with fail
                    go_ret2
                    exact rdret hRB.out (grown_refl _ _)
                · have m1 : decide ((9007199254740992 : Int) ≤ (m : Int)) = true := by simp; omega
                  have m1' : decide (9007199254740992 ≤ m) = true := by simp; omega
                  have hRB : Hid (RdA L 0 130) := rda_bad hcutH.out hnan hT1 hT2 (rxm_none3 hpH.out hcH.out hcpH.out hK hP2 (fun h => hm h.1))
                  clear hK hKl hP2 hPwl hPl hm
                  go_wp2_with fail
                  refine hk1.mono ?_
                  rintro e w1 ⟨rfl, hm18, hx⟩
                  replace hx := hx.symm
                  subst hx
                  go_wp2_with fail
                  refine hk2.mono ?_
                  rintro e w1 ⟨rfl, he18, hx⟩
                  replace hx := hx.symm
                  subst hx
                  go_wp2_with fail
                  go_ret2
                  exact rdret hRB.out (grown_refl _ _)
      · have hne : c.toNat ≠ 112 := fun e => h112 (UInt8.toNat_inj.1 e)
        have q1 : ((c.toNat : Int) == 112) = false := by simp; omega
        have q1' : (c.toNat == 112) = false := by simpa using hne
        have q2 : ((c.toNat : Int) != 112) = true := by simp; omega
        have hO2 : Hid (∀ j, j < i + 1 → ∀ c, T[j]? = some c → c ≠ 112) := fun j hj d hd => by
          by_cases e : j = i
          · subst e; rw [hc] at hd; cases hd; exact h112
          · exact hO.out j (by omega) d hd
        have hi62 : i ≤ 4611686018427387904 := by omega
        clear hO hc hne h112
        go_wp2
        go_roundw
        case rel => exact ⟨i + 1, by go_num, by omega, hO2, trivial⟩
        case measure => simp [intOf]; omega
    · have hie : i = T.length := by omega
      have hno : Hid (rxm T = none) := rxm_no (by rw [← hie]; exact hO.out)
      have hiS : (i : Int) = ((sb T).size : Int) := by rw [sb_size]; omega
      have e1 : decide ((i : Int) < ((sb T).size : Int)) = false := by rw [hiS]; simp
      have e4 : ((i : Int) == ((sb T).size : Int)) = true := by rw [hiS]; simp
      clear hO hie hiS hi
      by_cases hTi : T = [105, 110, 102]
      · have hTq2 : (T == [105, 110, 102]) = true := by simpa using hTi
        have hif := inf_pos w
        have hC : Cand L (sgx true 9218868437227405312) := sgd_x true (r := 9218868437227405312) (by omega) ▸ cand_inf hcutH.out hTi
        clear hTi
        go_wp2_with fail
        refine hif.mono ?_
        rintro e w1 ⟨rfl, hx⟩
        replace hx := hx.symm
        subst hx
        have hcs := copysign_any w (x := 9218868437227405312) (y := 13830554455654793216) (by omega) (by omega)
        rw [if_pos (by omega)] at hcs
        have hX : Hid (sgx true 9218868437227405312 = 9218868437227405312 % 9223372036854775808 + 9223372036854775808) := rfl
        rw [hX.out] at hC
        generalize 9218868437227405312 % 9223372036854775808 + 9223372036854775808 = X at *
        have hRT := rtext_any DD hDg C45 C46 w (X) (Cand.lt hC) hD
        have hYn : Hid (txt (X) = L → RdA L (X) 0) := fun h => Cand.yes hC h
        have hNn : Hid (txt (X) ≠ L → RdA L 0 130) := fun h => Cand.no hC hnan h
        obtain ⟨Y, hY⟩ : ∃ Y, txt (X) = Y := ⟨_, rfl⟩
        rw [hY] at hRT hYn hNn
        have hY3 : (⟨Y.toArray⟩ : ByteArray).toList = Y := ByteArray.toList_mk Y
        obtain ⟨YB, hYB⟩ : ∃ B : ByteArray, (⟨Y.toArray⟩ : ByteArray) = B := ⟨_, rfl⟩
        rw [hYB] at hRT hY3
        have hCH : Hid (Cand L (X)) := hC
        clear hY hYB hC
        by_cases hq : Y = L
        · have hq3 : (Y == L) = true := by simpa using hq
          have hq4 : (Y != L) = false := by simpa using hq
          have hR := hYn.out hq
          have hRH : Hid (RdA L (X) 0) := hR
          clear hR hYn hNn hq
          go_wp2_with fail
          refine hcs.mono ?_
          rintro e w1 ⟨rfl, hx⟩
          replace hx := hx.symm
          subst hx
          go_wp2_with fail
          refine hRT.mono ?_
          rintro e w2 ⟨rfl, hg⟩
          go_wp2_with fail
          go_ret2
          exact rdret hRH.out hg
        · have hq3 : (Y == L) = false := by simpa using hq
          have hq4 : (Y != L) = true := by simpa using hq
          have hR := hNn.out hq
          have hRH : Hid (RdA L 0 130) := hR
          clear hR hYn hNn hq
          go_wp2_with fail
          refine hcs.mono ?_
          rintro e w1 ⟨rfl, hx⟩
          replace hx := hx.symm
          subst hx
          go_wp2_with fail
          refine hRT.mono ?_
          rintro e w2 ⟨rfl, hg⟩
          go_wp2_with fail
          go_ret2
          exact rdret hRH.out hg
      have hTq2 : (T == [105, 110, 102]) = false := by simpa using hTi
      by_cases hT0 : T = [48]
      · have hTq1 : (T == [48]) = true := by simpa using hT0
        have hC : Cand L (sgx true 0) := sgd_x true (r := 0) (by omega) ▸ cand_zero hcutH.out hT0
        clear hT0 hTi
        have hcs := copysign_any w (x := 0) (y := 13830554455654793216) (by omega) (by omega)
        rw [if_pos (by omega)] at hcs
        have hX : Hid (sgx true 0 = 0 % 9223372036854775808 + 9223372036854775808) := rfl
        rw [hX.out] at hC
        generalize 0 % 9223372036854775808 + 9223372036854775808 = X at *
        have hRT := rtext_any DD hDg C45 C46 w (X) (Cand.lt hC) hD
        have hYn : Hid (txt (X) = L → RdA L (X) 0) := fun h => Cand.yes hC h
        have hNn : Hid (txt (X) ≠ L → RdA L 0 130) := fun h => Cand.no hC hnan h
        obtain ⟨Y, hY⟩ : ∃ Y, txt (X) = Y := ⟨_, rfl⟩
        rw [hY] at hRT hYn hNn
        have hY3 : (⟨Y.toArray⟩ : ByteArray).toList = Y := ByteArray.toList_mk Y
        obtain ⟨YB, hYB⟩ : ∃ B : ByteArray, (⟨Y.toArray⟩ : ByteArray) = B := ⟨_, rfl⟩
        rw [hYB] at hRT hY3
        have hCH : Hid (Cand L (X)) := hC
        clear hY hYB hC
        by_cases hq : Y = L
        · have hq3 : (Y == L) = true := by simpa using hq
          have hq4 : (Y != L) = false := by simpa using hq
          have hR := hYn.out hq
          have hRH : Hid (RdA L (X) 0) := hR
          clear hR hYn hNn hq
          go_wp2_with fail
          refine hcs.mono ?_
          rintro e w1 ⟨rfl, hx⟩
          replace hx := hx.symm
          subst hx
          go_wp2_with fail
          refine hRT.mono ?_
          rintro e w2 ⟨rfl, hg⟩
          go_wp2_with fail
          go_ret2
          exact rdret hRH.out hg
        · have hq3 : (Y == L) = false := by simpa using hq
          have hq4 : (Y != L) = true := by simpa using hq
          have hR := hNn.out hq
          have hRH : Hid (RdA L 0 130) := hR
          clear hR hYn hNn hq
          go_wp2_with fail
          refine hcs.mono ?_
          rintro e w1 ⟨rfl, hx⟩
          replace hx := hx.symm
          subst hx
          go_wp2_with fail
          refine hRT.mono ?_
          rintro e w2 ⟨rfl, hg⟩
          go_wp2_with fail
          go_ret2
          exact rdret hRH.out hg
      have hTq1 : (T == [48]) = false := by simpa using hT0
      have hRB : Hid (RdA L 0 130) := rda_bad hcutH.out hnan hT0 hTi hno.out
      clear hT0 hTi
      go_wp2_with fail
      go_ret2
      exact rdret hRB.out (grown_refl _ _)
end
end Go.Proofs.YtmjcjcpifahpaaaDoor
