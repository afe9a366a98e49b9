/-
  The walk of WireAppends.
-/
import Derived.Test.YtocicepnlepfeaaW5
namespace Go.Proofs.Ytocicepnlepfeaa
open Go.RowKit
set_option linter.unusedVariables false

theorem appendU8_mod (w : World) (ao : Option Addr) (n cap X : Nat) (l : List UInt8) (hb : Bs w ao n cap l) (hsz : n + 8 ≤ 140737488355328) :
    Calls Try.prog 11 #[.slice ao n cap, .int .u8 ((X : Int) % 256)] w fun e w' => ∃ ao' cap', e = .returned (.slice ao' (n + 1) cap') ∧ Ow w' w.heap.size 5 ao' (n + 1) cap' (l ++ low X 1) ∧ w.grownBy w' none := by
  have h := appendU8_any w ao n cap (X % 256) l hb (Nat.mod_lt _ (by omega)) hsz
  rw [low_mod X 1 256 ⟨1, by decide⟩] at h
  rw [show ((X : Int) % 256) = ((X % 256 : Nat) : Int) from by omega]
  exact h

theorem appendU16_mod (w : World) (ao : Option Addr) (n cap X : Nat) (l : List UInt8) (hb : Bs w ao n cap l) (hsz : n + 8 ≤ 140737488355328) :
    Calls Try.prog 13 #[.slice ao n cap, .int .u16 ((X : Int) % 65536)] w fun e w' => ∃ ao' cap', e = .returned (.slice ao' (n + 2) cap') ∧ Ow w' w.heap.size 5 ao' (n + 2) cap' (l ++ low X 2) ∧ w.grownBy w' none := by
  have h := appendU16_any w ao n cap (X % 65536) l hb (Nat.mod_lt _ (by omega)) hsz
  rw [low_mod X 2 65536 ⟨1, by decide⟩] at h
  rw [show ((X : Int) % 65536) = ((X % 65536 : Nat) : Int) from by omega]
  exact h

theorem appendU32_mod (w : World) (ao : Option Addr) (n cap X : Nat) (l : List UInt8) (hb : Bs w ao n cap l) (hsz : n + 8 ≤ 140737488355328) :
    Calls Try.prog 14 #[.slice ao n cap, .int .u32 ((X : Int) % 4294967296)] w fun e w' => ∃ ao' cap', e = .returned (.slice ao' (n + 4) cap') ∧ Ow w' w.heap.size 5 ao' (n + 4) cap' (l ++ low X 4) ∧ w.grownBy w' none := by
  have h := appendU32_any w ao n cap (X % 4294967296) l hb (Nat.mod_lt _ (by omega)) hsz
  rw [low_mod X 4 4294967296 ⟨1, by decide⟩] at h
  rw [show ((X : Int) % 4294967296) = ((X % 4294967296 : Nat) : Int) from by omega]
  exact h

theorem wrap_back (X : Nat) (hX : X < 18446744073709551616) : Hid (IntKind.u64.wrap (wrap64 (X : Int)) = (X : Int)) := by
  show _ = _
  rw [IntKind.wrap_u64]
  unfold wrap64
  omega

set_option maxRecDepth 100000 in
set_option maxHeartbeats 2000000 in
theorem wireAppends_walk (w : World) (ao : Option Addr) (n cap X f : Nat) (l : List UInt8) (hb : Bs w ao n cap l) (hX : X < 18446744073709551616) (hf : f < 18446744073709551616) (hsz : n + 8 ≤ 140737488355328) :
    Calls Try.prog 3 #[.slice ao n cap, .int .u64 X, .float .f64 f] w fun e w' => e = .returned (.bool true) ∧ w.grownBy w' none := by
  go_enter Try.func3, Try.ntmps3
  go_wp2_with fail
  refine (lent_any _ _ n cap l hb hsz).mono ?_
  rintro e w0 ⟨gm, cm, rfl, hm, hG0⟩
  have hb0 := hb.grown hG0
  have hM0 := hm.shows
  have hm0 := hM0.take n (by omega)
  rw [List.take_left' hb.len] at hm0
  clear hm
  go_wp2_with fail
  refine (appendU8_mod _ _ n cm X l hm0 hsz).mono ?_
  rintro e wa0 ⟨ao0, cap0, rfl, ho0, hga0⟩
  have hga := grown_trans hG0 hga0 (by simp)
  go_wp2_with fail
  refine (low_any _ X 1 hX (by omega)).mono ?_
  rintro e wb0 ⟨bo0, cbp0, rfl, hlo0, hgb0⟩
  have hgb := grown_trans hga hgb0 (by simp)
  go_wp2_with fail
  refine (behind_any _ _ _ _ _ _ _ _ _ _ _ _ _ (ho0.shows.grown hgb0) (hb.grown hgb) hlo0.shows (by omega)).mono ?_
  rw [show (l ++ low X 1 == l ++ low X 1) = true from by simp]
  rintro e w1 ⟨rfl, hgc0⟩
  have hG1 := grown_trans hgb hgc0 (by simp)
  have hb1 := hb.grown hG1
  have hS : w0.grownBy w1 none := grown_trans (grown_trans hga0 hgb0 (by simp)) hgc0 (by simp)
  have hM1 := hM0.grown hS
  have hm1 := hm0.grown hS
  clear hga hgb hga0 hgb0 hgc0 ho0 hlo0 hG0 hb0 hM0 hm0 hS
  go_wp2_with fail
  refine (appendU16_mod _ _ n cm X l hm1 hsz).mono ?_
  rintro e wa1 ⟨ao1, cap1, rfl, ho1, hga1⟩
  have hga := grown_trans hG1 hga1 (by simp)
  go_wp2_with fail
  refine (low_any _ X 2 hX (by omega)).mono ?_
  rintro e wb1 ⟨bo1, cbp1, rfl, hlo1, hgb1⟩
  have hgb := grown_trans hga hgb1 (by simp)
  go_wp2_with fail
  refine (behind_any _ _ _ _ _ _ _ _ _ _ _ _ _ (ho1.shows.grown hgb1) (hb.grown hgb) hlo1.shows (by omega)).mono ?_
  rw [show (l ++ low X 2 == l ++ low X 2) = true from by simp]
  rintro e w2 ⟨rfl, hgc1⟩
  have hG2 := grown_trans hgb hgc1 (by simp)
  have hb2 := hb.grown hG2
  have hS : w1.grownBy w2 none := grown_trans (grown_trans hga1 hgb1 (by simp)) hgc1 (by simp)
  have hM2 := hM1.grown hS
  have hm2 := hm1.grown hS
  clear hga hgb hga1 hgb1 hgc1 ho1 hlo1 hG1 hb1 hM1 hm1 hS
  go_wp2_with fail
  refine (appendU32_mod _ _ n cm X l hm2 hsz).mono ?_
  rintro e wa2 ⟨ao2, cap2, rfl, ho2, hga2⟩
  have hga := grown_trans hG2 hga2 (by simp)
  go_wp2_with fail
  refine (low_any _ X 4 hX (by omega)).mono ?_
  rintro e wb2 ⟨bo2, cbp2, rfl, hlo2, hgb2⟩
  have hgb := grown_trans hga hgb2 (by simp)
  go_wp2_with fail
  refine (behind_any _ _ _ _ _ _ _ _ _ _ _ _ _ (ho2.shows.grown hgb2) (hb.grown hgb) hlo2.shows (by omega)).mono ?_
  rw [show (l ++ low X 4 == l ++ low X 4) = true from by simp]
  rintro e w3 ⟨rfl, hgc2⟩
  have hG3 := grown_trans hgb hgc2 (by simp)
  have hb3 := hb.grown hG3
  have hS : w2.grownBy w3 none := grown_trans (grown_trans hga2 hgb2 (by simp)) hgc2 (by simp)
  have hM3 := hM2.grown hS
  have hm3 := hm2.grown hS
  clear hga hgb hga2 hgb2 hgc2 ho2 hlo2 hG2 hb2 hM2 hm2 hS
  go_wp2_with fail
  refine (appendU64_any _ _ n cm X l hm3 hX hsz).mono ?_
  rintro e wa3 ⟨ao3, cap3, rfl, ho3, hga3⟩
  have hga := grown_trans hG3 hga3 (by simp)
  go_wp2_with fail
  refine (low_any _ X 8 hX (by omega)).mono ?_
  rintro e wb3 ⟨bo3, cbp3, rfl, hlo3, hgb3⟩
  have hgb := grown_trans hga hgb3 (by simp)
  go_wp2_with fail
  refine (behind_any _ _ _ _ _ _ _ _ _ _ _ _ _ (ho3.shows.grown hgb3) (hb.grown hgb) hlo3.shows (by omega)).mono ?_
  rw [show (l ++ low X 8 == l ++ low X 8) = true from by simp]
  rintro e w4 ⟨rfl, hgc3⟩
  have hG4 := grown_trans hgb hgc3 (by simp)
  have hb4 := hb.grown hG4
  have hS : w3.grownBy w4 none := grown_trans (grown_trans hga3 hgb3 (by simp)) hgc3 (by simp)
  have hM4 := hM3.grown hS
  have hm4 := hm3.grown hS
  clear hga hgb hga3 hgb3 hgc3 ho3 hlo3 hG3 hb3 hM3 hm3 hS
  go_wp2_with fail
  refine (appendI64_any _ _ n cm _ X l (wrap_back X hX) hX hm4 hsz).mono ?_
  rintro e wa4 ⟨ao4, cap4, rfl, ho4, hga4⟩
  have hga := grown_trans hG4 hga4 (by simp)
  go_wp2_with fail
  refine (low_any _ X 8 hX (by omega)).mono ?_
  rintro e wb4 ⟨bo4, cbp4, rfl, hlo4, hgb4⟩
  have hgb := grown_trans hga hgb4 (by simp)
  go_wp2_with fail
  refine (behind_any _ _ _ _ _ _ _ _ _ _ _ _ _ (ho4.shows.grown hgb4) (hb.grown hgb) hlo4.shows (by omega)).mono ?_
  rw [show (l ++ low X 8 == l ++ low X 8) = true from by simp]
  rintro e w5 ⟨rfl, hgc4⟩
  have hG5 := grown_trans hgb hgc4 (by simp)
  have hb5 := hb.grown hG5
  have hS : w4.grownBy w5 none := grown_trans (grown_trans hga4 hgb4 (by simp)) hgc4 (by simp)
  have hM5 := hM4.grown hS
  have hm5 := hm4.grown hS
  clear hga hgb hga4 hgb4 hgc4 ho4 hlo4 hG4 hb4 hM4 hm4 hS
  go_wp2_with fail
  refine (appendF64_any _ _ n cm f l hf hm5 hsz).mono ?_
  rintro e w6 ⟨ao6, cap6, rfl, ho6, hg6⟩
  have hG6 := grown_trans hG5 hg6 (by simp)
  have hb6 := hb.grown hG6
  have hM6 := hM5.grown hg6
  obtain ⟨g6, hg6e, hg6b, hg6l⟩ := ho6.addr (by omega)
  subst hg6e
  have hgm : gm < w5.heap.size := by obtain ⟨b, o, h1, h2⟩ := hM5.addr (by omega); cases h1; exact h2
  have hs6 := ho6.shows
  have hr6 := hs6.room
  have hw5 : w.heap.size ≤ w5.heap.size := hG5.size
  have hc23 := Try.call23
  have hc19 := Try.call19
  clear hm5 hG5 hb5 hM5
  cases hN : (FloatKind.f64.format.order f f != some .eq) with
  | true =>
    have hsame := hs6.take n (by omega)
    rw [List.take_left' hb.len] at hsame
    have hdrop := hs6.drop n (by omega) n (Or.inr (by omega))
    rw [List.drop_left' hb.len, show n + 8 - n = 8 from by omega] at hdrop
    have hncap : ¬ cap6 = n := by omega
    go_wp2_with fail
    refine (same_any _ _ _ _ _ _ _ l l hsame hb6).mono ?_
    rw [show (l == l) = true from by simp]
    rintro e w7 ⟨rfl, rfl⟩
    go_wp2_with fail
    refine (number_any _ _ 8 _ (low f 8) hdrop (by omega)).mono ?_
    rw [show val (low f 8) = f from by rw [val_low]; omega]
    rintro e w7 ⟨rfl, rfl⟩
    go_wp2_with fail
    refine (kept_any _ gm ao n cm cap l hM6 hb6 hsz).mono ?_
    rintro e w7 ⟨rfl, rfl⟩
    go_wp2_with fail
    refine (works_any _).mono ?_
    rintro e w8 ⟨rfl, hg8⟩
    go_wp2
    go_ret
    exact ⟨rfl, grown_trans hG6 hg8 (by simp)⟩
  | false =>
    go_wp2_with fail
    refine (low_any _ f 8 hf (by omega)).mono ?_
    rintro e w7 ⟨bo7, cb7, rfl, hlo7, hg7⟩
    have hG7 := grown_trans hG6 hg7 (by simp)
    have ho7 := ho6.grown hg7
    have hM7 := hM6.grown hg7
    clear hG6 ho6 hM6 hs6 hg7 hb6
    go_wp2_with fail
    refine (behind_any _ _ _ _ _ _ _ _ _ _ _ _ _ ho7.shows (hb.grown hG7) hlo7.shows (by omega)).mono ?_
    rw [show (l ++ low f 8 == l ++ low f 8) = true from by simp]
    rintro e w8 ⟨rfl, hg8⟩
    have hG8 := grown_trans hG7 hg8 (by simp)
    have ho8 := ho7.grown hg8
    have hM8 := hM7.grown hg8
    clear hG7 ho7 hM7 hg8 hlo7
    go_wp2_with fail
    go_loopw [10] (fun i wr => ∃ (k : Nat) (l' : List UInt8), k ≤ n + 8 ∧ i = .int .i64 k ∧ Ow wr w5.heap.size 5 (some ⟨g6, 0, none⟩) (n + 8) cap6 l' ∧ w8.grownBy wr (some g6))
      (fun i _ => n + 8 - (intOf i).toNat)
    case atStart => exact ⟨0, _, Nat.zero_le _, rfl, ho8, grown_refl _ _⟩
    case round =>
      obtain ⟨k, l', hk, rfl, hor, hgr⟩ := hrel
      by_cases hlt : k < n + 8
      · have hfz := hor.there
        have hj : k < l'.length := by rw [hor.len]; exact hlt
        have hcell := hor.shows.at hj
        rw [Nat.zero_add] at hcell
        have hset := hor.set k 7
        have hgs := grown_trans hgr (setCell_grown wr g6 k (bv 7)) (fun k hk => Or.inl hk)
        go_wp2
        go_roundw
        case rel => exact ⟨k + 1, _, by omega, by go_num, hset, hgs⟩
        case measure => simp [intOf]; omega
      · obtain rfl : k = n + 8 := by omega
        have hGr : w.grownBy wr none := grown_trans hG8 hgr (fun k hk => Or.inr (by cases hk; omega))
        have hMr := hM8.kept hgr (fun a ha => by obtain rfl := Option.some.inj ha; simp; omega)
        go_wp2_with fail
        refine (kept_any _ gm ao n cm cap l hMr (hb.grown hGr) hsz).mono ?_
        rintro e w9 ⟨rfl, rfl⟩
        go_wp2_with fail
        refine (works_any _).mono ?_
        rintro e w10 ⟨rfl, hg10⟩
        go_wp2
        go_ret
        exact ⟨rfl, grown_trans hGr hg10 (by simp)⟩

end Go.Proofs.Ytocicepnlepfeaa
