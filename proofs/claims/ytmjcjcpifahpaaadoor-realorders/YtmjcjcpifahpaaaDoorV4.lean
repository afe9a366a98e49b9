/-
  RealOrders: math's ldexp of a whole number: the walk.
-/
import Derived.Test.YtmjcjcpifahpaaaDoorV2
import Derived.Test.YtmjcjcpifahpaaaDoorG1
namespace Go.Proofs.YtmjcjcpifahpaaaDoor
open Go.RowKit
set_option linter.unusedVariables false

theorem not_lt {a b : Nat} (ha : a < 18446744073709551616) (hb : b < 18446744073709551616) (h : plc b ≤ plc a) : (FloatKind.f64.format.order a b == some .lt) = false := by
  cases e : (FloatKind.f64.format.order a b == some .lt) with
  | false => rfl
  | true =>
    have e2 : FloatKind.f64.format.order a b = some .lt := by simpa using e
    have := lt_plc ha hb e2
    omega
theorem not_gt {a b : Nat} (hb : b < 9218868437227405312) (h : a ≤ b) : (FloatKind.f64.format.order a b == some .gt) = false := by
  cases e : (FloatKind.f64.format.order a b == some .gt) with
  | false => rfl
  | true =>
    have e3 : FloatKind.f64.format.order a b = some .gt := by simpa using e
    have e2 : Ieee.double.order a b = some .gt := e3
    rw [ord_num (by omega) (by omega) (by omega) (by omega)] at e2
    have h1 : sv b < sv a := Int.compare_eq_gt.1 (Option.some.inj e2)
    unfold sv sgn at h1
    rw [show decide (9223372036854775808 ≤ a) = false by simp; omega, show decide (9223372036854775808 ≤ b) = false by simp; omega] at h1
    simp only [Bool.false_eq_true, if_false] at h1
    rw [Nat.mod_eq_of_lt (by omega), Nat.mod_eq_of_lt (by omega)] at h1
    have := mg_lt (r := b) (s := a) (by omega)
    omega
theorem plc_fin {b : Nat} (h : b < 9218868437227405312) : plc b = b + 9223372036854775808 := plc_pos (by rw [isN_neq]; omega) (by omega)
theorem bits_andNot_nat (a b : Nat) (ha : a < 18446744073709551616) (hb : b < 18446744073709551616) : bits .andNot .u64 (a : Int) (b : Int) = ((a &&& (18446744073709551615 - b) : Nat) : Int) := by
  have hx : a &&& (18446744073709551615 - b) < 2 ^ 64 := Nat.and_lt_two_pow _ (by omega)
  have h1 : (BitVec.ofInt 64 (a : Int)).toNat = a := by
    rw [BitVec.ofInt_natCast, BitVec.toNat_ofNat]; exact Nat.mod_eq_of_lt (by omega)
  have h2 : (BitVec.ofInt 64 (b : Int)).toNat = b := by
    rw [BitVec.ofInt_natCast, BitVec.toNat_ofNat]; exact Nat.mod_eq_of_lt (by omega)
  show IntKind.u64.wrap ((BitVec.ofInt 64 (a : Int) &&& ~~~ BitVec.ofInt 64 (b : Int)).toNat : Int) = _
  rw [BitVec.toNat_and, BitVec.toNat_not, h1, h2, IntKind.wrap_u64]
  have e : 2 ^ 64 - 1 - b = 18446744073709551615 - b := by omega
  rw [e]
  omega
theorem andNot_sign {b : Nat} (hb : b < 9223372036854775808) : bits .andNot .u64 (b : Int) 9223372036854775808 = b := by
  have h := bits_andNot_nat b 9223372036854775808 (by omega) (by omega)
  rw [show (9223372036854775808 : Int) = ((9223372036854775808 : Nat) : Int) from rfl, h]
  have e : (18446744073709551615 : Nat) - 9223372036854775808 = 2 ^ 63 - 1 := by decide
  rw [e, Nat.and_two_pow_sub_one_eq_mod, Nat.mod_eq_of_lt (by omega)]
theorem andNot_exp {b : Nat} (hb : b < 9223372036854775808) : bits .andNot .u64 (b : Int) 9218868437227405312 = ((b % 4503599627370496 : Nat) : Int) := by
  have h := bits_andNot_nat b 9218868437227405312 (by omega) (by omega)
  rw [show (9218868437227405312 : Int) = ((9218868437227405312 : Nat) : Int) from rfl, h]
  have e : (18446744073709551615 : Nat) - 9218868437227405312 = 9227875636482146303 := by decide
  have e1 : b = b &&& (2 ^ 63 - 1) := by rw [Nat.and_two_pow_sub_one_eq_mod, Nat.mod_eq_of_lt (by omega)]
  have e2 : (2 ^ 63 - 1) &&& 9227875636482146303 = 2 ^ 52 - 1 := by decide
  have e3 : b &&& 9227875636482146303 = b % 4503599627370496 := by
    rw [e1, Nat.and_assoc, e2, Nat.and_two_pow_sub_one_eq_mod, two52, ← e1]
  rw [e, e3]
theorem and_2047 {x : Nat} (hx : x < 2048) : bits .and .i64 (x : Int) 2047 = (x : Int) := by
  have h1 : (BitVec.ofInt 64 (x : Int)).toNat = x := by
    rw [BitVec.ofInt_natCast, BitVec.toNat_ofNat]; exact Nat.mod_eq_of_lt (by omega)
  show IntKind.i64.wrap ((BitVec.ofInt 64 (x : Int) &&& BitVec.ofInt 64 2047).toNat : Int) = _
  have h2 : (BitVec.ofInt 64 2047).toNat = 2 ^ 11 - 1 := by decide
  rw [BitVec.toNat_and, h1, h2, Nat.and_two_pow_sub_one_eq_mod, Nat.mod_eq_of_lt (by omega), IntWalk.i64_in _ (by omega)]
theorem or_exp {a k : Nat} (ha : a < 4503599627370496) (hk : k < 2048) : bits .or .u64 (a : Int) ((k * 4503599627370496 : Nat) : Int) = ((a + k * 4503599627370496 : Nat) : Int) := by
  rw [bits_or_u64_nat a (k * 4503599627370496) (by omega) (by omega)]
  congr 1
  have := Nat.two_pow_add_eq_or_of_lt (i := 52) (b := a) (by rw [two52]; exact ha) k
  rw [two52, Nat.mul_comm] at this
  rw [Nat.or_comm, ← this, Nat.add_comm]
theorem abs_any (w : World) {b : Nat} (hb : b < 9218868437227405312) : Calls Tryd.prog 87 #[.float .f64 b] w fun e w' => e = .returned (.float .f64 b) ∧ w' = w := by
  have h1 := Tryd.call43
  have h2 := Tryd.call31
  have h3 := andNot_sign (b := b) (by omega)
  go_enter Tryd.func87, Tryd.ntmps87
  go_wp2
  go_ret
  exact ⟨rfl, rfl⟩
theorem isNaN_any (w : World) {b : Nat} (hb : b < 9218868437227405312) : Calls Tryd.prog 69 #[.float .f64 b] w fun e w' => e = .returned (.bool false) ∧ w' = w := by
  have hn : (FloatKind.f64.format.order b b != some .eq) = isN b := self_neq (by omega)
  rw [(isN_neq b).2 (by omega)] at hn
  go_enter Tryd.func69, Tryd.ntmps69
  go_wp2
  go_ret
  exact ⟨rfl, rfl⟩
theorem isInf_any (w : World) {b : Nat} (hb : b < 9218868437227405312) : Calls Tryd.prog 68 #[.float .f64 b, .int .i64 0] w fun e w' => e = .returned (.bool false) ∧ w' = w := by
  have ha := abs_any w hb
  have hg := not_gt (a := b) (b := 9218868437227405311) (by omega) (by omega)
  go_enter Tryd.func68, Tryd.ntmps68
  go_wp2_with fail
  refine ha.mono ?_
  rintro e w1 ⟨rfl, rfl⟩
  go_wp2
  go_ret
  exact ⟨rfl, rfl⟩
theorem normalize_any (w : World) {b : Nat} (hb : b < 9218868437227405312) (h0 : 4503599627370496 ≤ b) : Calls Tryd.prog 70 #[.float .f64 b] w fun e w' => e = .returned (.tuple #[.float .f64 b, .int .i64 0]) ∧ w' = w := by
  have ha := abs_any w hb
  have hl := not_lt (a := b) (b := 4503599627370496) (by omega) (by omega) (by rw [plc_fin hb, plc_fin (by omega)]; omega)
  go_enter Tryd.func70, Tryd.ntmps70
  go_wp2_with fail
  refine ha.mono ?_
  rintro e w1 ⟨rfl, rfl⟩
  go_wp2
  refine bodyPost_ret (v := .tuple #[.float .f64 b, .int .i64 0]) (by simp [results, Tryd.results70, go_sem]) rfl ?_
  exact ⟨rfl, rfl⟩
theorem or_none {a : Nat} (ha : a < 18446744073709551616) : bits .or .u64 (a : Int) 0 = (a : Int) := by
  have h := bits_or_u64_nat a 0 ha (by omega)
  rw [Nat.or_zero] at h
  exact h
theorem andNot_any {b : Nat} (hb : b < 18446744073709551616) : bits .andNot .u64 (b : Int) 9223372036854775808 = ((b % 9223372036854775808 : Nat) : Int) := by
  have h := bits_andNot_nat b 9223372036854775808 (by omega) (by omega)
  rw [show (9223372036854775808 : Int) = ((9223372036854775808 : Nat) : Int) from rfl, h]
  have e : (18446744073709551615 : Nat) - 9223372036854775808 = 2 ^ 63 - 1 := by decide
  rw [e, Nat.and_two_pow_sub_one_eq_mod]
theorem copysign_any (w : World) {x y : Nat} (hx : x < 18446744073709551616) (hy : y < 18446744073709551616) : Calls Tryd.prog 39 #[.float .f64 x, .float .f64 y] w fun e w' => e = .returned (.float .f64 (x % 9223372036854775808 + if 9223372036854775808 ≤ y then 9223372036854775808 else 0)) ∧ w' = w := by
  have h1 := Tryd.call43
  have h2 := Tryd.call31
  have h3 := andNot_any hx
  have h4 := and_top hy
  by_cases hs : 9223372036854775808 ≤ y
  · rw [if_pos hs] at h4
    have h5 : bits .or .u64 ((x : Int) % 9223372036854775808) 9223372036854775808 = ((x % 9223372036854775808 + 9223372036854775808 : Nat) : Int) := by
      have e : (x : Int) % 9223372036854775808 = ((x % 9223372036854775808 : Nat) : Int) := by omega
      rw [e]
      exact or_top (Nat.mod_lt _ (by decide))
    rw [if_pos hs]
    go_enter Tryd.func39, Tryd.ntmps39
    go_wp2
    go_ret
    exact ⟨by simp, rfl⟩
  · rw [if_neg hs] at h4
    have h5 : bits .or .u64 ((x : Int) % 9223372036854775808) 0 = ((x % 9223372036854775808 : Nat) : Int) := by
      have e : (x : Int) % 9223372036854775808 = ((x % 9223372036854775808 : Nat) : Int) := by omega
      rw [e]
      exact or_none (Nat.lt_trans (Nat.mod_lt _ (by decide)) (by decide))
    rw [if_neg hs]
    go_enter Tryd.func39, Tryd.ntmps39
    go_wp2
    go_ret
    exact ⟨by simp, rfl⟩
theorem inf_pos (w : World) : Calls Tryd.prog 36 #[.int .i64 1] w fun e w' => e = .returned (.float .f64 9218868437227405312) ∧ w' = w := by
  have h2 := Tryd.call31
  go_enter Tryd.func36, Tryd.ntmps36
  go_wp2
  go_ret
  exact ⟨rfl, rfl⟩

set_option maxHeartbeats 4000000 in
theorem ldexp_any (w : World) {m : Nat} {e : Int} (h0 : 0 < m) (hm : m < 9007199254740992) (h1 : -1100 ≤ e) (h2 : e ≤ 1100) : Calls Tryd.prog 58 #[.float .f64 (jn m 0), .int .i64 e] w fun r w' => ∃ z, r = .returned (.float .f64 z) ∧ z < 18446744073709551616 ∧ (-1074 ≤ e → e + (Lib.bitLen m : Int) ≤ 1024 → z = jn m e) ∧ w' = w := by
  obtain ⟨f53, f1, f2, f3⟩ := full h0 hm
  obtain ⟨d1, d2, d3⟩ := jn0_div h0 hm
  have hmade := fun q => jn_made (m := m) (q := q) h0 hm
  have hone := fun q => mul_one' (m := m) (q := q) h0 hm
  have h53 := fun q => mul_53 (m := m) (q := q) h0 hm
  obtain ⟨b, hb⟩ : ∃ b, jn m 0 = b := ⟨_, rfl⟩
  obtain ⟨t, ht⟩ : ∃ t, Lib.bitLen m = t := ⟨_, rfl⟩
  rw [hb] at d1 d2 d3 ⊢
  rw [ht] at d1 f53 f1 ⊢
  simp only [hb, ht] at hmade hone h53
  have HM : Hid _ := hmade
  have HO : Hid _ := hone
  have H5 : Hid _ := h53
  have HB : Hid (jn m 0 = b ∧ Lib.bitLen m = t) := ⟨hb, ht⟩
  have hz : (FloatKind.f64.format.order b 0 == some .eq) = false := by
    have h9 : (FloatKind.f64.format.order b 0 == some .eq) = decide (b % 9223372036854775808 = 0) := eq_zero (by omega)
    rw [h9]
    simp
    omega
  have hi := isInf_any w d3
  have hn := isNaN_any w d3
  have ho := normalize_any w d3 (by omega)
  have c43 := Tryd.call43
  have c31 := Tryd.call31
  have hsh : (b : Int) / 4503599627370496 = ((1022 + t : Nat) : Int) := by omega
  have ha : bits .and .i64 (1022 + (t : Int)) 2047 = 1022 + (t : Int) := by have h9 := and_2047 (x := 1022 + t) (by omega); simpa using h9
  have hX : bits .andNot .u64 (b : Int) 9218868437227405312 = (b : Int) % 4503599627370496 := by have h9 := andNot_exp (b := b) (by omega); simpa using h9
  clear hmade hone h53 hb ht d2 f2 f3
  go_enter Tryd.func58, Tryd.ntmps58
  go_wp2_with fail
  refine hi.mono ?_
  rintro r w1 ⟨rfl, rfl⟩
  go_wp2_with fail
  refine hn.mono ?_
  rintro r w1 ⟨rfl, rfl⟩
  go_wp2_with fail
  refine ho.mono ?_
  rintro r w1 ⟨rfl, rfl⟩
  clear hi hn ho
  have hjl : ∀ q : Int, -1021 ≤ q + (t : Int) → q + (t : Int) ≤ 1024 → jn m q < 18446744073709551616 ∧ ∀ X : Int, X = q + (t : Int) - 1 + 1023 → bits .or .u64 ((b : Int) % 4503599627370496) (X * 4503599627370496) = ((jn m q : Nat) : Int) := fun q g1 g2 => by
    have h9 := HM.out q g1 g2
    refine ⟨by omega, fun X hX => ?_⟩
    have h8 := or_exp (a := b % 4503599627370496) (k := (q + (t : Int) - 1 + 1023).toNat) (Nat.mod_lt _ (by decide)) (by omega)
    have e1 : (b : Int) % 4503599627370496 = ((b % 4503599627370496 : Nat) : Int) := by omega
    have e2 : X * 4503599627370496 = (((q + (t : Int) - 1 + 1023).toNat * 4503599627370496 : Nat) : Int) := by omega
    rw [e1, e2, h8, h9]
  have HJ : Hid _ := hjl
  clear hjl
  by_cases c1 : e + (t : Int) < -1074
  · have k1 : decide (e + (1022 + (t : Int) - 1023) < -1075) = true := by simp; omega
    have hcs := copysign_any w1 (x := 0) (y := b) (by omega) (by omega)
    rw [if_neg (by omega)] at hcs
    go_wp2_with fail
    refine hcs.mono ?_
    rintro r w2 ⟨rfl, rfl⟩
    go_wp2
    go_ret
    exact ⟨0, rfl, by omega, fun _ _ => by omega, rfl⟩
  · have k1 : decide (e + (1022 + (t : Int) - 1023) < -1075) = false := by simp; omega
    by_cases c2 : 1024 < e + (t : Int)
    · have k2 : decide (1023 < e + (1022 + (t : Int) - 1023)) = true := by simp; omega
      have hl := not_lt (a := b) (b := 0) (by omega) (by omega) (by rw [plc_fin d3, plc_fin (by omega)]; omega)
      have hif := inf_pos w1
      go_wp2_with fail
      refine hif.mono ?_
      rintro r w2 ⟨rfl, rfl⟩
      go_wp2
      go_ret
      exact ⟨_, rfl, by omega, fun _ _ => by omega, rfl⟩
    · have k2 : decide (1023 < e + (1022 + (t : Int) - 1023)) = false := by simp; omega
      by_cases c3 : e + (t : Int) < -1021
      · have k3 : decide (e + (1022 + (t : Int) - 1023) < -1022) = true := by simp; omega
        obtain ⟨j1, j2⟩ := HJ.out (e + 53) (by omega) (by omega)
        have j3 := j2 (e + (1022 + (t : Int) - 1023) + 53 + 1023) (by omega)
        obtain ⟨z, hz2⟩ : ∃ z, Ieee.double.mul 4368491638549381120 (jn m (e + 53)) = some z := by
          obtain ⟨g1, g2⟩ := HB.out
          unfold Ieee.Format.mul
          rw [rd_53, rd_jn h0 hm (by omega) (by omega)]
          exact ⟨_, rfl⟩
        have hzl : z < 18446744073709551616 := Ieee.Format.mul_lt _ hz2
        have hze : Hid (-1074 ≤ e → e + (t : Int) ≤ 1024 → z = jn m e) := fun g1 g2 => by
          have h9 := H5.out e g1 (by omega)
          rw [hz2] at h9
          exact Option.some.inj h9
        have hmu := fun W => run_float_arith (P := Tryd.prog) W .mul 22 .f64 4368491638549381120 (jn m (e + 53)) z hz2
        generalize jn m (e + 53) = J at *
        clear j2 hz2
        go_wp2_with fail
        go_ret
        exact ⟨z, rfl, hzl, hze.out, rfl⟩
      · have k3 : decide (e + (1022 + (t : Int) - 1023) < -1022) = false := by simp; omega
        obtain ⟨j1, j2⟩ := HJ.out e (by omega) (by omega)
        have j3 := j2 (e + (1022 + (t : Int) - 1023) + 1023) (by omega)
        have hmu := fun W => run_float_arith (P := Tryd.prog) W .mul 22 .f64 4607182418800017408 (jn m e) (jn m e) (HO.out e (by omega) (by omega))
        obtain ⟨J, hJ⟩ : ∃ J, jn m e = J := ⟨_, rfl⟩
        have hJe : Hid (J = jn m e) := hJ.symm
        rw [hJ] at j1 j3
        simp only [hJ] at hmu
        clear j2 hJ
        go_wp2_with fail
        go_ret
        exact ⟨J, rfl, j1, fun _ _ => hJe.out, rfl⟩

end Go.Proofs.YtmjcjcpifahpaaaDoor
