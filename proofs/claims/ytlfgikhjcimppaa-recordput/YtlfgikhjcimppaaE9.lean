/-
  RecordPut: the walk.
-/
import Derived.Test.YtlfgikhjcimppaaE8
namespace Go.Proofs.Ytlfgikhjcimppaa
open Go.RowKit
set_option linter.unusedVariables false

set_option maxRecDepth 100000 in
set_option maxHeartbeats 16000000 in
theorem recordPut_any (w : World) (ao : Option Addr) (n cap : Nat) (l : List Rc) (base : Int) (hb1 : -9223372036854775808 ≤ base) (hb2 : base < 9223372036854775808) (ha : Rs w ao n cap l) :
    Calls Try.prog 3 #[.slice ao n cap, .int .i64 base] w fun e w' => e = .returned (.bool true) ∧ w.grownBy w' none := by
  have hl1 := ha.len
  have ht1 := Nat.le_trans ha.room ha.top
  have hLa := large_any w 300 ao n cap l ha
  have hno := large_no (most := 300) (l := l)
  generalize largeB 300 l = A at *
  cases A
  · obtain ⟨hn, hb⟩ := hno rfl
    rw [hl1] at hn
    have hbM : ∀ r ∈ l, r.kn ≤ 1048576 ∧ r.vn ≤ 1048576 := fun r hr => by have := hb r hr; omega
    go_enter Try.func3, Try.ntmps3
    go_wp2_with fail
    refine hLa.mono ?_
    rintro e w1 ⟨rfl, hw⟩
    obtain rfl : w = w1 := hw.symm
    clear hno hb hw
    go_wp2_with fail
    refine (lent_any _ ao n cap l ha (by omega) hbM).mono ?_
    rintro e w1 ⟨g, c, rs, rfl, hL1, hD, hG1⟩
    have hrk : ∀ r ∈ rs, Rk w1 r := fun r hr => (hL1.rk r hr).rk
    have hF5 : rs.map five = l.map five := five_eq hrk ha.shows hD
    have hrl : rs.length = n := by rw [five_len hF5, hl1]
    have hrM := same_ds ha.shows hrk hD hbM
    have hSm : Small rs := ⟨by omega, hrM⟩
    have hFit : Hid (fitsR rs = fitsR l) := five_fits hF5
    have hMea : Hid (measR base rs = measR base l) := five_meas hF5 base
    have hPut : Hid (putB base rs = putB base l) := five_put hF5 base
    clear hF5 hrk
    go_wp2_with fail
    refine (fits_any _ _ n c rs hL1.shows hSm).mono ?_
    rintro e w2 ⟨rfl, hg2⟩
    have hL2 := hL1.grown hg2
    have hG2 := grown_trans hG1 hg2 (by simp)
    clear hL1 hG1 hg2
    rw [hFit.out]
    have hRF := rfits_any w2 ao n cap l (ha.grown hG2)
    generalize fitsR l = FF at *
    obtain ⟨F, C⟩ := FF
    go_wp2_with fail
    refine hRF.mono ?_
    rintro e w3 ⟨rfl, hg3⟩
    have hL3 := hL2.grown hg3
    have hG3 := grown_trans hG2 hg3 (by simp)
    clear hL2 hG2 hg3 hRF hFit
    have hPP := put_any w3 base _ n c rs hL3.shows hSm
    have hQQ := fun W hW => rput_any W base hb1 hb2 ao n cap l (ha.grown (w := w) hW)
    rw [hMea.out, hPut.out] at hPP
    generalize putB base l = BB at *
    generalize measR base l = MM at *
    obtain ⟨MF, MC⟩ := MM
    clear hMea hPut
    go_wp2_with fail
    refine hPP.mono ?_
    rintro e w4 ⟨bo, bn, bc, rfl, hbs, hg4⟩
    have hL4 := hL3.grown hg4
    have hG4 := grown_trans hG3 hg4 (by simp)
    clear hL3 hG3 hg4 hPP
    go_wp2_with fail
    refine (hQQ _ hG4).mono ?_
    rintro e w5 ⟨do', dn, dc, rfl, hbd, hg5⟩
    have hL5 := hL4.grown hg5
    have hG5 := grown_trans hG4 hg5 (by simp)
    have hbs5 := hbs.grown hg5
    have hRB := rbytes_any w5 bo do' bn dn bc dc BB BB hbs5 hbd
    rw [show (BB == BB) = true by simp] at hRB
    clear hL4 hG4 hg5 hbs hbs5 hbd hQQ
    go_wp2_with fail
    refine hRB.mono ?_
    rintro e w5' ⟨rfl, hw⟩
    obtain rfl : w5 = w5' := hw.symm
    clear hRB hw
    go_wp2_with fail
    refine (kept_any _ _ g n c rs hL5 ao cap l (ha.grown hG5) hD (by omega)).mono ?_
    rintro e w5 ⟨rfl, hg5⟩
    have hL6 := hL5.grown hg5
    have hG6 := grown_trans hG5 hg5 (by simp)
    clear hL5 hG5 hg5
    go_wp2_with fail
    refine (copy_any _ _ n c rs hL6.shows (by omega) hrM).mono ?_
    rintro e w6 ⟨cs, rfl, hRc, hDc, hOc, hg6⟩
    have hC6 : Cr w6 w5.heap.size n cs := ⟨hRc, fun r hr => (hOc r hr).key_cb, fun r hr => (hOc r hr).val_cb⟩
    have hRs6 := hRc.shows (fun r hr => (hOc r hr).rk)
    have hcl : cs.length = n := hRc.len
    have hcb : ∀ r ∈ cs, r.kn ≤ 140737488355328 ∧ r.vn ≤ 140737488355328 := fun r hr => ⟨(hOc r hr).rk.kb, (hOc r hr).rk.vb⟩
    have hS1 := rsameAll_any w6 _ _ _ _ _ _ _ _ hRs6 ((ha.grown hG6).grown hg6)
    rw [show sameAllB cs l = true by unfold sameAllB; simp [hDc, hD]] at hS1
    have hS2 := fun W hW => sameAll_any W _ _ _ _ _ _ _ _ (hRs6.grown hW) ((hL6.grown hg6).shows.grown hW)
    rw [show sameAllB cs rs = true by unfold sameAllB; simp [hDc]] at hS2
    have ha5 := ha.grown hG6
    clear hRc hOc hRs6 hSm hrM
    generalize hgc : w5.heap.size = gc at *
    go_wp2_with fail
    refine hS1.mono ?_
    rintro e w7 ⟨rfl, hg7⟩
    clear hS1
    go_wp2_with fail
    refine (hS2 _ hg7).mono ?_
    rintro e w8 ⟨rfl, hg8⟩
    have hC8 := (hC6.grown hg7).grown hg8
    have hG8 := grown_trans (grown_trans hg6 hg7 (by simp)) hg8 (by simp)
    clear hS2 hC6 hg6 hg7 hg8 hDc
    go_wp2_with fail
    go_loopw [16, 17, 18] (fun i' _ _ wr => ∃ i : Nat, i ≤ n ∧ i' = .int .i64 i ∧ Cr wr gc n cs ∧ w5.grownBy wr none) (fun i' _ _ _ => n - (intOf i').toNat)
    case atStart => exact ⟨0, Nat.zero_le _, rfl, hC8, hG8⟩
    case round =>
      clear hC8 hG8
      obtain ⟨i, hi, rfl, hC, hG⟩ := hrel
      by_cases hlt : i < n
      · obtain ⟨b, o, rfl, hbl⟩ := ha5.addr (by omega)
        have h1 : i < l.length := by omega
        have hic : i < cs.length := by omega
        obtain ⟨a1, a2, a3, ak⟩ := (ha5.grown hG).at h1
        have hd : decide ((i : Int) < (n : Int)) = true := by simp; omega
        have hi1 : (0 : Int) ≤ (i : Int) := by omega
        have hi2 : (i : Int) < (n : Int) := by omega
        obtain ⟨y, hyE⟩ : ∃ y, Hid (cs[i] = y) := ⟨cs[i], (rfl : cs[i] = cs[i])⟩
        have hyM : Hid (y ∈ cs) := by show _ ∈ _; rw [← hyE.out]; exact List.getElem_mem _
        obtain ⟨hyb1, hyb2⟩ := hcb y hyM.out
        generalize l[i] = x at *
        have h6 : ∀ w', wr.grownBy w' none → w'.cell? ⟨b, o + i * 3, none⟩ = some (.int .i64 x.t) ∧ w'.cell? ⟨b, o + i * 3 + 1, none⟩ = some (.slice x.ko x.kn x.kc) ∧ w'.cell? ⟨b, o + i * 3 + 2, none⟩ = some (.slice x.vo x.vn x.vc) := fun W hW => ⟨hW.cell a1 (by simp), hW.cell a2 (by simp), hW.cell a3 (by simp)⟩
        have hc21 : ∀ W, wr.grownBy W none → Calls Try.prog 21 #[.agg #[.int .i64 x.t, .slice x.ko x.kn x.kc, .slice x.vo x.vn x.vc]] W fun e w' => e = .returned (.bool (mayB x.t x.kn x.vn)) ∧ W.grownBy w' none := fun W hW => may_any W x (ak.grown hW)
        have hc22 : ∀ W, wr.grownBy W none → Calls Try.prog 22 #[.agg #[.int .i64 x.t, .slice x.ko x.kn x.kc, .slice x.vo x.vn x.vc]] W fun e w' => e = .returned (.bool (mayB x.t x.kn x.vn)) ∧ W.grownBy w' none := fun W hW => rmay_any W x (ak.grown hW)
        have hc23 : ∀ W, wr.grownBy W none → Calls Try.prog 23 #[.agg #[.int .i64 x.t, .slice x.ko x.kn x.kc, .slice x.vo x.vn x.vc]] W fun e w' => e = .returned (.int .i64 (12 + x.kn + x.vn : Nat)) ∧ W.grownBy w' none := fun W hW => size_any W x (ak.grown hW)
        have hc24 : ∀ W, wr.grownBy W none → Calls Try.prog 24 #[.agg #[.int .i64 x.t, .slice x.ko x.kn x.kc, .slice x.vo x.vn x.vc]] W fun e w' => e = .returned (.int .i64 (12 + x.kn + x.vn : Nat)) ∧ W.grownBy w' none := fun W hW => rsize_any W x (ak.grown hW)
        clear ak
        generalize mayB x.t x.kn x.vn = M at *
        generalize 12 + x.kn + x.vn = Z at *
        have hMM : (M != M) = false := by simp
        have hZZ : ((Z : Int) != (Z : Int)) = false := by simp
        go_wp2_with fail
        go_region_held3 (fun w' => w'.cell? ⟨b, o + i * 3, none⟩ = some (.int .i64 x.t) ∧ w'.cell? ⟨b, o + i * 3 + 1, none⟩ = some (.slice x.ko x.kn x.kc) ∧ w'.cell? ⟨b, o + i * 3 + 2, none⟩ = some (.slice x.vo x.vn x.vc)) (first | exact ⟨a1, a2, a3⟩ | exact m4 | exact m3 | exact m2 | exact m1 | go_keep)
          (first | (go_at_call 21; refine (hc21 _ (grown_drewN wr 1 none)).mono ?_; rintro e v1 ⟨rfl, u1⟩; have g1 : wr.grownBy v1 none := grown_trans (grown_drewN wr 1 none) u1 (by simp); have m1 := h6 _ g1) | (go_at_call 22; refine (hc22 _ (grown_drewN wr 1 none)).mono ?_; rintro e v1 ⟨rfl, u1⟩; have g1 : wr.grownBy v1 none := grown_trans (grown_drewN wr 1 none) u1 (by simp); have m1 := h6 _ g1) | (go_at_call 21; refine (hc21 _ (g1)).mono ?_; rintro e v2 ⟨rfl, u2⟩; have g2 : wr.grownBy v2 none := grown_trans (g1) u2 (by simp); have m2 := h6 _ g2) | (go_at_call 22; refine (hc22 _ (g1)).mono ?_; rintro e v2 ⟨rfl, u2⟩; have g2 : wr.grownBy v2 none := grown_trans (g1) u2 (by simp); have m2 := h6 _ g2) | (go_at_call 23; refine (hc23 _ (g2)).mono ?_; rintro e v3 ⟨rfl, u3⟩; have g3 : wr.grownBy v3 none := grown_trans (g2) u3 (by simp); have m3 := h6 _ g3) | (go_at_call 24; refine (hc24 _ (g2)).mono ?_; rintro e v3 ⟨rfl, u3⟩; have g3 : wr.grownBy v3 none := grown_trans (g2) u3 (by simp); have m3 := h6 _ g3) | (go_at_call 23; refine (hc23 _ (g3)).mono ?_; rintro e v4 ⟨rfl, u4⟩; have g4 : wr.grownBy v4 none := grown_trans (g3) u4 (by simp); have m4 := h6 _ g4) | (go_at_call 24; refine (hc24 _ (g3)).mono ?_; rintro e v4 ⟨rfl, u4⟩; have g4 : wr.grownBy v4 none := grown_trans (g3) u4 (by simp); have m4 := h6 _ g4))
        all_goals
          have hCr := hC.grown g4
          have hGr := grown_trans hG g4 (by simp)
          clear a1 a2 a3 h6 hc21 hc22 hc23 hc24 u1 u2 u3 u4 g1 g2 g3 g4 m1 m2 m3 m4 hC hG hMM hZZ
          go_wp2_with fail
          go_loopw [17] (fun k' wq => ∃ k : Nat, k ≤ y.kn ∧ k' = .int .i64 k ∧ Cr wq gc n cs ∧ w5.grownBy wq none) (fun k' _ => y.kn - (intOf k').toNat)
          case atStart => exact ⟨0, Nat.zero_le _, rfl, hCr, hGr⟩
          case round =>
            clear hCr hGr
            obtain ⟨k, hk, rfl, hCq, hGq⟩ := hrel
            obtain ⟨y0, y1, y2⟩ := hCq.row.cells hic
            rw [hyE.out] at y0 y1 y2
            by_cases hkl : k < y.kn
            · obtain ⟨q, p, eq, q1, q2, q3, q4⟩ := (hCq.key y (hyM.out)).at_ (by omega)
              obtain ⟨bt, bt0, bt1, btc⟩ := q4 k hkl
              have hdk : decide ((k : Int) < (y.kn : Int)) = true := by simp; omega
              have k1 : (0 : Int) ≤ (k : Int) := by omega
              have k2 : (k : Int) < (y.kn : Int) := by omega
              have q3k := q3 (p + k)
              rw [eq] at y1
              clear q3 q4 eq
              go_wp2_with fail
              go_roundw
              case rel => exact ⟨k + 1, by omega, by go_num, hCq.set q (p + k) q1 _ (by omega) (by omega), grown_trans hGq (setCell_grown _ _ _ _) (fun k hk => Or.inr (by cases hk; omega))⟩
              case measure => simp [intOf]; omega
            · have hdk : decide ((k : Int) < (y.kn : Int)) = false := by simp; omega
              go_wp2_with fail
              clear y0 y1 y2
              go_loopw [18] (fun k' wq => ∃ k : Nat, k ≤ y.vn ∧ k' = .int .i64 k ∧ Cr wq gc n cs ∧ w5.grownBy wq none) (fun k' _ => y.vn - (intOf k').toNat)
              case atStart => exact ⟨0, Nat.zero_le _, rfl, hCq, hGq⟩
              case round =>
                clear hCq hGq hdk hk hkl
                obtain ⟨k, hk, rfl, hCq, hGq⟩ := hrel
                obtain ⟨y0, y1, y2⟩ := hCq.row.cells hic
                rw [hyE.out] at y0 y1 y2
                by_cases hkl : k < y.vn
                · obtain ⟨q, p, eq, q1, q2, q3, q4⟩ := (hCq.val y (hyM.out)).at_ (by omega)
                  obtain ⟨bt, bt0, bt1, btc⟩ := q4 k hkl
                  have hdk : decide ((k : Int) < (y.vn : Int)) = true := by simp; omega
                  have k1 : (0 : Int) ≤ (k : Int) := by omega
                  have k2 : (k : Int) < (y.vn : Int) := by omega
                  have q3k := q3 (p + k)
                  rw [eq] at y2
                  clear q3 q4 eq
                  go_wp2_with fail
                  go_roundw
                  case rel => exact ⟨k + 1, by omega, by go_num, hCq.set q (p + k) q1 _ (by omega) (by omega), grown_trans hGq (setCell_grown _ _ _ _) (fun k hk => Or.inr (by cases hk; omega))⟩
                  case measure => simp [intOf]; omega
                · have hdk : decide ((k : Int) < (y.vn : Int)) = false := by simp; omega
                  go_wp2_with fail
                  go_roundw
                  case rel => exact ⟨i + 1, by omega, by go_num, hCq, hGq⟩
                  case measure => simp [intOf]; omega
      · obtain rfl : i = n := by omega
        have hd : decide ((i : Int) < (i : Int)) = false := by simp
        go_wp2_with fail
        refine (kept_any _ _ g i c rs (hL6.grown hG) ao cap l (ha5.grown hG) hD (by omega)).mono ?_
        rintro e w9 ⟨rfl, hg9⟩
        have hG9 := grown_trans (grown_trans hG6 hG (by simp)) hg9 (by simp)
        clear hC hL6 ha5
        go_wp2_with fail
        refine (known_any _).mono ?_
        rintro e w10 ⟨rfl, hg10⟩
        have hG10 := grown_trans hG9 hg10 (by simp)
        go_wp2
        go_ret
        exact ⟨rfl, hG10⟩
  · have hK := known_any w
    go_enter Try.func3, Try.ntmps3
    go_wp2_with fail
    refine hLa.mono ?_
    rintro e w1 ⟨rfl, hw⟩
    obtain rfl : w = w1 := hw.symm
    clear hw
    go_wp2_with fail
    refine hK.mono ?_
    rintro e w4 ⟨rfl, hg4⟩
    go_wp2
    go_ret
    exact ⟨rfl, hg4⟩
end Go.Proofs.Ytlfgikhjcimppaa
