/-
  CrcBursts: the walk.
-/
import Derived.Test.YtkfpgmpjimnleaaDoorM2
import Derived.Test.YtkfpgmpjimnleaaDoorC8
import Derived.Deep.RegionHeld
namespace Go.Proofs.YtkfpgmpjimnleaaDoor
open Go.RowKit
set_option linter.unusedVariables false

set_option maxRecDepth 100000 in
set_option maxHeartbeats 1000000 in
theorem crcBursts_none (w : World) (ao : Option Addr) (n cap B : Nat) (at' : Int) (hD : Dt w) (h : 20000 < n ∨ B = 0) :
    Calls Tryd.prog 8 #[.slice ao n cap, .int .i64 at', .int .u32 B] w fun e w' => e = .returned (.bool true) ∧ w.grownBy w' none := by
  by_cases h1 : 20000 < n
  · go_enter Tryd.func8, Tryd.ntmps8
    go_wp2_with fail
    refine (works_any _ hD).mono ?_
    rintro e w1 ⟨rfl, hg1⟩
    go_wp2
    go_ret
    exact ⟨rfl, hg1⟩
  · obtain rfl : B = 0 := by omega
    go_enter Tryd.func8, Tryd.ntmps8
    go_wp2_with fail
    refine (works_any _ hD).mono ?_
    rintro e w1 ⟨rfl, hg1⟩
    go_wp2
    go_ret
    exact ⟨rfl, hg1⟩

theorem place (at' : Int) (n : Nat) (hn : n ≤ 20000) : ∃ K : Nat, (wrap64 (at'.tmod (8 * ((n : Int) + 4)) + 8 * ((n : Int) + 4))).tmod (8 * ((n : Int) + 4)) = (K : Int) ∧ K < 8 * (n + 4) := by
  obtain ⟨N, hN⟩ : ∃ N : Int, N = 8 * ((n : Int) + 4) := ⟨_, rfl⟩
  rw [← hN]
  have hpos : 0 < N := by omega
  have hT : -N < at'.tmod N ∧ at'.tmod N < N := by
    by_cases h0 : 0 ≤ at'
    · rw [Int.tmod_eq_emod_of_nonneg h0]
      have h1 := Int.emod_nonneg at' (b := N) (by omega)
      have h2 := Int.emod_lt_of_pos at' hpos
      omega
    · have e : at' = -(-at') := by omega
      rw [e, Int.neg_tmod, Int.tmod_eq_emod_of_nonneg (by omega)]
      have h1 := Int.emod_nonneg (-at') (b := N) (by omega)
      have h2 := Int.emod_lt_of_pos (-at') hpos
      omega
  have hw : wrap64 (at'.tmod N + N) = at'.tmod N + N := by unfold wrap64; omega
  rw [hw, Int.tmod_eq_emod_of_nonneg (by omega)]
  have h1 := Int.emod_nonneg (at'.tmod N + N) (b := N) (by omega)
  have h2 := Int.emod_lt_of_pos (at'.tmod N + N) hpos
  exact ⟨((at'.tmod N + N) % N).toNat, by omega, by omega⟩

theorem bit_of (B i : Nat) : ((B : Int) / 2 ^ i).tmod 2 = ((B / 2 ^ i % 2 : Nat) : Int) := by
  rw [show (2 : Int) ^ i = ((2 ^ i : Nat) : Int) from by simp, ← Int.natCast_ediv, Int.tmod_eq_emod_of_nonneg (Int.natCast_nonneg (B / 2 ^ i))]
  rfl

theorem u8_pow {r : Nat} (hr : r < 8) : (2 : Int) ^ min r 8 % 256 = ((2 ^ r : Nat) : Int) := by
  have h256 : 2 ^ r < 256 := Nat.pow_lt_pow_right (a := 2) (m := r) (n := 8) (by omega) hr
  rw [show min r 8 = r from by omega, show (2 : Int) ^ r = ((2 ^ r : Nat) : Int) from by simp]
  generalize 2 ^ r = q at *
  omega

theorem turn_more {E i : Nat} (h : E < 2 ^ i) : E ^^^ 2 ^ i < 2 ^ (i + 1) ∧ E ^^^ 2 ^ i ≠ 0 := by
  have h1 : 2 ^ i < 2 ^ (i + 1) := Nat.pow_lt_pow_right (by omega) (by omega)
  refine ⟨Nat.xor_lt_two_pow (by omega) h1, fun h0 => ?_⟩
  have h2 := congrArg (fun z => z ^^^ 2 ^ i) h0
  simp only [Nat.xor_assoc, Nat.xor_self, Nat.xor_zero, Nat.zero_xor] at h2
  omega

set_option maxRecDepth 100000 in
set_option maxHeartbeats 2000000 in
theorem crcBursts_some (w : World) (ao : Option Addr) (n cap B : Nat) (at' : Int) (l : List UInt8) (hb : Bs w ao n cap l) (hn : n ≤ 20000) (hB : B < 4294967296) (hB0 : B ≠ 0) (ha : -9223372036854775808 ≤ at') (ha2 : at' < 9223372036854775808) (hD : Dt w) :
    Calls Tryd.prog 8 #[.slice ao n cap, .int .i64 at', .int .u32 B] w fun e w' => e = .returned (.bool true) ∧ w.grownBy w' none := by
  have hll := hb.len
  have hq0 : ((B : Int) == 0) = false := by simp; omega
  go_enter Tryd.func8, Tryd.ntmps8
  go_wp2_with fail
  refine (seal_any _ _ n cap l hb (by omega)).mono ?_
  rintro e w1 ⟨gs, rfl, ho1, hg1⟩
  have hz0 := Ow.empty w1 w1.heap.size 5 (Nat.le_refl _)
  have hb1 := ho1.shows.grown (alloc_grown w1 (.cells #[] 5))
  go_wp2_with (at_builtin; refine wpList_append_bs _ rfl _ _ 26 rfl w1.heap.size 5 Tryd.underlying26 info5 rfl hz0 rfl hb1 (by omega) (by simp) ?_)
  intro ao2 cap2 w2 ho2 hg2
  have hG2 : w.grownBy w2 none := below_of_new (grown_trans hg1 (alloc_grown w1 _) (by simp)) hg2 hg1.size
  clear hz0 hb1 hg2 ho1
  obtain ⟨K, hK, hKl⟩ := place at' n hn
  obtain ⟨g2, rfl, hgb2, _⟩ := ho2.addr (by omega)
  obtain ⟨S, hS⟩ : ∃ S : List UInt8, S = l ++ low (sm l) 4 := ⟨_, rfl⟩
  rw [← hS] at ho2
  have hSl : S.length = n + 4 := ho2.len
  have hSs : sm (S.take n) = val (S.drop n) := by rw [hS]; exact (open_seal l n hll).1
  have HSs : Hid (sm (S.take n) = val (S.drop n)) := hSs
  have hgw : w.heap.size ≤ g2 := Nat.le_trans hg1.size hgb2
  have hd20 : decide ((20000 : Int) < (n : Int)) = false := by simp; omega
  clear hS hSs hb hll hg1
  go_wp2_with fail
  go_loopw [10, 11] (fun t' i' wr => ∃ (i E : Nat) (b : Bool) (t : List UInt8), i ≤ 32 ∧ i' = .int .i64 i ∧ t' = .bool b ∧ Hid (b = true ↔ E ≠ 0) ∧ E < 2 ^ i ∧ Ow wr w1.heap.size 5 (some ⟨g2, 0, none⟩) (n + 4) cap2 t ∧ Hid (val t = val S ^^^ 2 ^ K * E) ∧ w.grownBy wr none)
    (fun _ i' _ => 32 - (intOf i').toNat)
  case atStart => exact ⟨0, 0, false, S, Nat.zero_le _, rfl, rfl, (show _ ↔ _ by simp), by simp, ho2, (show _ = _ by simp), hG2⟩
  case round =>
    obtain ⟨i, E, b, t, hi, rfl, rfl, hbE, hE, ho, hv, hg⟩ := hrel
    by_cases hlt : i < 32
    · have hbit := bit_of B i
      have hd : decide ((i : Int) < 32) = true := by simp; omega
      have hE1 : E < 2 ^ (i + 1) := by have h9 : 2 ^ i < 2 ^ (i + 1) := Nat.pow_lt_pow_right (by omega) (by omega); omega
      rcases Nat.mod_two_eq_zero_or_one (B / 2 ^ i) with h0 | h0
      · have hb0 : ((B : Int) / 2 ^ i).tmod 2 = 0 := by rw [hbit, h0]; rfl
        clear h0 hbit
        go_wp2
        go_roundw
        case rel => first | exact ⟨i + 1, E, b, t, by omega, by go_num, rfl, hbE, hE1, ho, hv, hg⟩ | ((repeat apply Exists.intro); exact ⟨⟨i + 1, E, b, t, by omega, by go_num, rfl, hbE, hE1, ho, hv, hg⟩, rfl⟩)
        case measure => simp [intOf]; omega
      · have hb0 : ((B : Int) / 2 ^ i).tmod 2 = 1 := by rw [hbit, h0]; rfl
        clear h0 hbit
        by_cases hin : K + i < 8 * (n + 4)
        · have hin' : decide ((K : Int) + (i : Int) < 8 * ((n : Int) + 4)) = true := by simp; omega
          obtain ⟨j, hj⟩ : ∃ j, j = (K + i) / 8 := ⟨_, rfl⟩
          obtain ⟨r, hr⟩ : ∃ r, r = (K + i) % 8 := ⟨_, rfl⟩
          have hr8 : r < 8 := by omega
          have hjr : 8 * j + r = K + i := by omega
          have hjl : j < t.length := by rw [ho.len]; omega
          have hjn : j < n + 4 := by omega
          have f1 : ((K : Int) + (i : Int)) / 8 = (j : Int) := by omega
          have f2 : ((K : Int) + (i : Int)) % 8 = (r : Int) := by omega
          have f3 : ((K : Int) + (i : Int)).tdiv 8 = (j : Int) := by rw [Int.tdiv_eq_ediv_of_nonneg (by omega)]; exact f1
          have f4 : ((K : Int) + (i : Int)).tmod 8 = (r : Int) := by rw [Int.tmod_eq_emod_of_nonneg (by omega)]; exact f2
          have f5 : IntKind.i64.wrap ((K : Int) + (i : Int)) = (K : Int) + (i : Int) := by rw [IntKind.wrap_i64]; omega
          have f6 : wrap64 ((K : Int) + (i : Int)) = (K : Int) + (i : Int) := by unfold wrap64; omega
          have f7 := u8_pow hr8
          have hcell := ho.shows.at hjl
          rw [Nat.zero_add] at hcell
          have hfz := ho.there
          have h256 : 2 ^ r < 256 := Nat.pow_lt_pow_right (a := 2) (m := r) (n := 8) (by omega) hr8
          have hxr := u8_xor_nat t[j].toNat (2 ^ r) t[j].toNat_lt h256
          have hxl : t[j].toNat ^^^ 2 ^ r < 256 := Nat.xor_lt_two_pow (n := 8) t[j].toNat_lt h256
          have hbv : bv (UInt8.ofNat (t[j].toNat ^^^ 2 ^ r)) = .int .u8 ((t[j].toNat ^^^ 2 ^ r : Nat) : Int) := by
            unfold bv
            rw [UInt8.toNat_ofNat', Nat.mod_eq_of_lt hxl]
          have hset := (ho.set j (UInt8.ofNat (t[j].toNat ^^^ 2 ^ r))).grown (grown_drew _ none)
          rw [hbv] at hset
          have hgs : w.grownBy (wr.setCell ⟨g2, j, none⟩ (.int .u8 ((t[j].toNat ^^^ 2 ^ r : Nat) : Int))).drew none := grown_trans (below_of_new hg (setCell_grown _ _ _ _) hgw) (grown_drew _ none) (by simp)
          have hvn : Hid (val (t.set j (UInt8.ofNat (t[j].toNat ^^^ 2 ^ r))) = val S ^^^ 2 ^ K * (E ^^^ 2 ^ i)) := by
            show _ = _
            rw [val_flip t j r hjl hr8, hv.out, hjr, mul_xor, Nat.xor_assoc, Nat.pow_add]
          obtain ⟨hm1, hm2⟩ := turn_more hE
          have hm2' : Hid (E ^^^ 2 ^ i ≠ 0) := hm2
          clear hj hr hbv hE hm2
          generalize t.set j (UInt8.ofNat (t[j].toNat ^^^ 2 ^ r)) = t2 at *
          generalize t[j].toNat ^^^ 2 ^ r = q at *
          generalize t[j].toNat = c at *
          generalize hpr : 2 ^ r = pr at *
          clear hpr
          go_wp2_with fail
          go_region
          all_goals
            go_wp2
            go_roundw
            case rel => first | exact ⟨i + 1, E ^^^ 2 ^ i, true, t2, by omega, by go_num, rfl, (show _ ↔ _ from ⟨fun _ => hm2'.out, fun _ => rfl⟩), hm1, hset, hvn, hgs⟩ | ((repeat apply Exists.intro); exact ⟨⟨i + 1, E ^^^ 2 ^ i, true, t2, by omega, by go_num, rfl, (show _ ↔ _ from ⟨fun _ => hm2'.out, fun _ => rfl⟩), hm1, hset, hvn, hgs⟩, rfl⟩)
            case measure => simp [intOf]; omega
        · have hin' : decide ((K : Int) + (i : Int) < 8 * ((n : Int) + 4)) = false := by simp; omega
          go_wp2
          go_roundw
          case rel => first | exact ⟨i + 1, E, b, t, by omega, by go_num, rfl, hbE, hE1, ho, hv, hg⟩ | ((repeat apply Exists.intro); exact ⟨⟨i + 1, E, b, t, by omega, by go_num, rfl, hbE, hE1, ho, hv, hg⟩, rfl⟩)
          case measure => simp [intOf]; omega
    · have hi32 : i = 32 := by omega
      have hE32 : E < 4294967296 := by rw [hi32] at hE; exact hE
      have hd : decide ((i : Int) < 32) = false := by simp; omega
      have hD2 := hD.grown hg
      clear hi32 hE
      cases b with
      | false =>
        go_wp2_with fail
        refine (works_any _ hD2).mono ?_
        rintro e w5 ⟨rfl, hg5⟩
        go_wp2
        go_ret
        exact ⟨rfl, grown_trans hg hg5 (by simp)⟩
      | true =>
        have hE0 : E ≠ 0 := hbE.out.1 rfl
        have hne := burst_told S t n K E hSl ho.len (by omega) hE32 hE0 hv.out HSs.out
        clear hE0
        go_wp2_with fail
        refine (open_not _ g2 0 n cap2 t ho.shows (by omega) hne).mono ?_
        rintro e w5 ⟨rfl, hg5⟩
        have hG5 := grown_trans hg hg5 (by simp)
        clear hg5 hne
        go_wp2_with (go_at_call 28; refine (num_any _ _).mono ?_; rintro e w5 ⟨rfl, hw5⟩; subst hw5)
        refine (works_any _ (hD.grown hG5)).mono ?_
        rintro e w6 ⟨rfl, hg6⟩
        go_wp2
        go_ret
        exact ⟨rfl, grown_trans hG5 hg6 (by simp)⟩

end Go.Proofs.YtkfpgmpjimnleaaDoor
