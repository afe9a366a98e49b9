/-
  RealOrders: the document's Text: the walk. DD: what is told of a world ahead of strconv's numerals.
-/
import Derived.Test.YtmjcjcpifahpaaaDoorV6
import Derived.Lib.ItoaLen
import Derived.Laws.BitsAllLaws
namespace Go.Proofs.YtmjcjcpifahpaaaDoor
open Go.RowKit
set_option linter.unusedVariables false

theorem add_lists2 (A B : List UInt8) (h : A.length + B.length ≤ 1000) (w : World) : (Op.stringOp .add ⟨A.toArray⟩ ⟨B.toArray⟩).run Tryd.prog w = .ok (.string ⟨(A ++ B).toArray⟩) w := by
  have h2 := run_string_add_sum (P := Tryd.prog) w ⟨A.toArray⟩ ⟨B.toArray⟩ (by simp [ByteArray.size]; omega)
  rw [h2]
  congr 2
theorem ret_str2 {A B : List UInt8} (h : A = B) : Ending.returned (.string ⟨A.toArray⟩) = .returned (.string ⟨B.toArray⟩) := by rw [h]
/-- What stands ahead of a rung's text. -/
def sg2 (b : Nat) : List UInt8 := if 9223372036854775808 ≤ b then [45] else []
theorem txt_eq2 {b : Nat} (h : isN b = false) : txt b = sg2 b ++ szt (b % 9223372036854775808) := by
  unfold txt sg2
  rw [if_neg (by simp [h])]
  split <;> rfl
theorem rNaN_any (w : World) {x : Nat} (hx : x < 18446744073709551616) : Calls Tryd.prog 33 #[.float .f64 x] w fun e w' => e = .returned (.bool (isN x)) ∧ w' = w := by
  have hn : (FloatKind.f64.format.order x x != some .eq) = isN x := self_neq hx
  obtain ⟨B, hB⟩ : ∃ B, isN x = B := ⟨_, rfl⟩
  rw [hB] at hn ⊢
  go_enter Tryd.func33, Tryd.ntmps33
  go_wp2
  go_ret
  exact ⟨rfl, rfl⟩
section
variable (DD : World → Prop) (hDg : ∀ W W', DD W → W.grownBy W' none → DD W')
  (C45 : ∀ W u, u < 18446744073709551616 → DD W → Calls Tryd.prog 45 #[.int .u64 (u : Nat), .int .i64 10] W fun e w' => e = .returned (.string ⟨(Lib.decDigits u).toArray⟩) ∧ W.grownBy w' none)
  (C46 : ∀ W n, -9223372036854775808 ≤ n → n ≤ 9223372036854775807 → DD W → Calls Tryd.prog 46 #[.int .i64 n] W fun e w' => e = .returned (.string ⟨(Lib.itoa n).toArray⟩) ∧ W.grownBy w' none)
include hDg C45 C46
set_option maxHeartbeats 4000000 in
theorem rtext_any (w : World) (x : Nat) (hx : x < 18446744073709551616) (hD : DD w) :
    Calls Tryd.prog 19 #[.float .f64 x] w fun e w' => e = .returned (.string ⟨(txt x).toArray⟩) ∧ w.grownBy w' none := by
  have hnn := rNaN_any w hx
  have hc := Tryd.call43
  cases h : isN x with
  | true =>
    rw [h] at hnn
    have ht : Hid (txt x = [110, 97, 110]) := by show _ = _; unfold txt; rw [if_pos h]
    go_enter Tryd.func19, Tryd.ntmps19
    go_wp2_with (refine hnn.mono ?_; rintro r w' ⟨rfl, rfl⟩)
    go_ret
    exact ⟨ret_str2 (B := txt x) ht.out.symm, grown_refl _ _⟩
  | false =>
    rw [h] at hnn
    have ht : Hid (txt x = sg2 x ++ szt (x % 9223372036854775808)) := txt_eq2 h
    have hr : x % 9223372036854775808 ≤ 9218868437227405312 := (isN_neq x).1 h
    have hez : (FloatKind.f64.format.order x 0 == some .eq) = decide (x % 9223372036854775808 = 0) := eq_zero hx
    have key : ∀ (S : List UInt8), S.length ≤ 1 → sg2 x = S → (∀ b : Bool, decide ((9223372036854775808 : Int) ≤ (x : Int)) = b → S = (if b then [45] else [])) → True := fun _ _ _ _ => trivial
    clear key
    by_cases hs : 9223372036854775808 ≤ x
    · have k0 : decide ((9223372036854775808 : Int) ≤ (x : Int)) = true := by simp; omega
      have hsg : Hid (sg2 x = [45]) := by show _ = _; unfold sg2; rw [if_pos hs]
      by_cases h1 : x % 9223372036854775808 = 9218868437227405312
      · obtain ⟨nb, n1, n2, n3⟩ := run_sub_inf (P := Tryd.prog) w 22 hx h1
        have n4 : (FloatKind.f64.format.order nb 0 != some .eq) = true := nan_neq n1 n2
        have hz : Hid (szt (x % 9223372036854775808) = [105, 110, 102]) := by show _ = _; rw [h1]; unfold szt; rw [if_neg (by omega), if_pos rfl]
        clear h1 hez hr n1 n2
        go_enter Tryd.func19, Tryd.ntmps19
        go_wp2_with (first | (refine hnn.mono ?_; rintro r w' ⟨rfl, rfl⟩) | fail)
        go_ret
        refine ⟨ret_str2 (A := [45, 105, 110, 102]) (B := txt x) ?_, grown_drew _ _⟩
        rw [ht.out, hsg.out, hz.out]; rfl
      · have n3 := fun W => run_sub_fin (P := Tryd.prog) W 22 hx (by omega)
        by_cases h0 : x % 9223372036854775808 = 0
        · rw [show decide (x % 9223372036854775808 = 0) = true by simpa using h0] at hez
          have hz : Hid (szt (x % 9223372036854775808) = [48]) := by show _ = _; rw [h0]; rfl
          clear h1 h0 hr
          go_enter Tryd.func19, Tryd.ntmps19
          go_wp2_with (first | (refine hnn.mono ?_; rintro r w' ⟨rfl, rfl⟩) | fail)
          go_ret
          refine ⟨ret_str2 (A := [45, 48]) (B := txt x) ?_, grown_refl _ _⟩
          rw [ht.out, hsg.out, hz.out]; rfl
        · rw [show decide (x % 9223372036854775808 = 0) = false by simpa using h0] at hez
          have hpa := parts_any w hx (by omega) (by omega)
          have hz : Hid (szt (x % 9223372036854775808) = Lib.decDigits (spM (x % 9223372036854775808)) ++ 112 :: Lib.itoa (spE (x % 9223372036854775808))) := szt_fin h0 h1
          obtain ⟨b1, b2, b3⟩ := sp_bounds (r := x % 9223372036854775808) (by omega) (by omega)
          have hl := spM_lt (r := x % 9223372036854775808) (by omega)
          have l1 : (Lib.decDigits (spM (x % 9223372036854775808))).length ≤ 20 := by rw [Lib.decDigits_length]; exact Lib.nDigits_le20 _ (by omega)
          have l2 : (Lib.itoa (spE (x % 9223372036854775808))).length ≤ 21 := Lib.itoa_length_le _ (by omega) (by omega)
          have c45 := fun W => C45 W (spM (x % 9223372036854775808)) (by omega)
          have c46 := fun W => C46 W (spE (x % 9223372036854775808)) (by omega) (by omega)
          generalize spM (x % 9223372036854775808) = M at *
          generalize spE (x % 9223372036854775808) = E at *
          have a1 := fun W => add_lists2 [45] (Lib.decDigits M) (by simp; omega) W
          have a2 := fun W => add_lists2 ([45] ++ Lib.decDigits M) [112] (by simp; omega) W
          have a3 := fun W => add_lists2 ([45] ++ Lib.decDigits M ++ [112]) (Lib.itoa E) (by simp; omega) W
          obtain ⟨B1, hB1⟩ : ∃ B : ByteArray, (⟨(Lib.decDigits M).toArray⟩ : ByteArray) = B := ⟨_, rfl⟩
          obtain ⟨B2, hB2⟩ : ∃ B : ByteArray, (⟨(Lib.itoa E).toArray⟩ : ByteArray) = B := ⟨_, rfl⟩
          obtain ⟨A1, hA1⟩ : ∃ B : ByteArray, (⟨([45] ++ Lib.decDigits M).toArray⟩ : ByteArray) = B := ⟨_, rfl⟩
          obtain ⟨A2, hA2⟩ : ∃ B : ByteArray, (⟨([45] ++ Lib.decDigits M ++ [112]).toArray⟩ : ByteArray) = B := ⟨_, rfl⟩
          obtain ⟨A3, hA3⟩ : ∃ B : ByteArray, (⟨([45] ++ Lib.decDigits M ++ [112] ++ Lib.itoa E).toArray⟩ : ByteArray) = B := ⟨_, rfl⟩
          simp only [hB1, hA1] at a1
          simp only [hA1, hA2] at a2
          simp only [hA2, hB2, hA3] at a3
          simp only [hB1] at c45
          simp only [hB2] at c46
          have HA3 : Hid _ := hA3
          clear h1 h0 hr l1 l2 b1 b2 b3 hl hB1 hB2 hA1 hA2 hA3
          go_enter Tryd.func19, Tryd.ntmps19
          go_wp2_with (first | (refine hnn.mono ?_; rintro r w' ⟨rfl, rfl⟩) | (refine hpa.mono ?_; rintro r w' ⟨rfl, rfl⟩) | (refine (c45 _ hD).mono ?_; rintro e w1 ⟨rfl, hg1⟩) | (refine (c46 _ (hDg _ _ hD hg1)).mono ?_; rintro e w2 ⟨rfl, hg2⟩) | fail)
          go_ret
          refine ⟨?_, grown_trans hg1 hg2 (by simp)⟩
          show Ending.returned (.string A3) = _
          rw [← HA3.out]
          refine ret_str2 (A := [45] ++ Lib.decDigits M ++ [112] ++ Lib.itoa E) (B := txt x) ?_
          rw [ht.out, hsg.out, hz.out]; simp
    · have k0 : decide ((9223372036854775808 : Int) ≤ (x : Int)) = false := by simp; omega
      have hsg : Hid (sg2 x = []) := by show _ = _; unfold sg2; rw [if_neg hs]
      by_cases h1 : x % 9223372036854775808 = 9218868437227405312
      · obtain ⟨nb, n1, n2, n3⟩ := run_sub_inf (P := Tryd.prog) w 22 hx h1
        have n4 : (FloatKind.f64.format.order nb 0 != some .eq) = true := nan_neq n1 n2
        have hz : Hid (szt (x % 9223372036854775808) = [105, 110, 102]) := by show _ = _; rw [h1]; unfold szt; rw [if_neg (by omega), if_pos rfl]
        clear h1 hez hr n1 n2
        go_enter Tryd.func19, Tryd.ntmps19
        go_wp2_with (first | (refine hnn.mono ?_; rintro r w' ⟨rfl, rfl⟩) | fail)
        go_ret
        refine ⟨ret_str2 (A := [105, 110, 102]) (B := txt x) ?_, grown_drew _ _⟩
        rw [ht.out, hsg.out, hz.out]; rfl
      · have n3 := fun W => run_sub_fin (P := Tryd.prog) W 22 hx (by omega)
        by_cases h0 : x % 9223372036854775808 = 0
        · rw [show decide (x % 9223372036854775808 = 0) = true by simpa using h0] at hez
          have hz : Hid (szt (x % 9223372036854775808) = [48]) := by show _ = _; rw [h0]; rfl
          clear h1 h0 hr
          go_enter Tryd.func19, Tryd.ntmps19
          go_wp2_with (first | (refine hnn.mono ?_; rintro r w' ⟨rfl, rfl⟩) | fail)
          go_ret
          refine ⟨ret_str2 (A := [48]) (B := txt x) ?_, grown_refl _ _⟩
          rw [ht.out, hsg.out, hz.out]; rfl
        · rw [show decide (x % 9223372036854775808 = 0) = false by simpa using h0] at hez
          have hpa := parts_any w hx (by omega) (by omega)
          have hz : Hid (szt (x % 9223372036854775808) = Lib.decDigits (spM (x % 9223372036854775808)) ++ 112 :: Lib.itoa (spE (x % 9223372036854775808))) := szt_fin h0 h1
          obtain ⟨b1, b2, b3⟩ := sp_bounds (r := x % 9223372036854775808) (by omega) (by omega)
          have hl := spM_lt (r := x % 9223372036854775808) (by omega)
          have l1 : (Lib.decDigits (spM (x % 9223372036854775808))).length ≤ 20 := by rw [Lib.decDigits_length]; exact Lib.nDigits_le20 _ (by omega)
          have l2 : (Lib.itoa (spE (x % 9223372036854775808))).length ≤ 21 := Lib.itoa_length_le _ (by omega) (by omega)
          have c45 := fun W => C45 W (spM (x % 9223372036854775808)) (by omega)
          have c46 := fun W => C46 W (spE (x % 9223372036854775808)) (by omega) (by omega)
          generalize spM (x % 9223372036854775808) = M at *
          generalize spE (x % 9223372036854775808) = E at *
          have a1 := fun W => add_lists2 ([] : List UInt8) (Lib.decDigits M) (by simp; omega) W
          have a2 := fun W => add_lists2 (([] : List UInt8) ++ Lib.decDigits M) [112] (by simp; omega) W
          have a3 := fun W => add_lists2 (([] : List UInt8) ++ Lib.decDigits M ++ [112]) (Lib.itoa E) (by simp; omega) W
          obtain ⟨B1, hB1⟩ : ∃ B : ByteArray, (⟨(Lib.decDigits M).toArray⟩ : ByteArray) = B := ⟨_, rfl⟩
          obtain ⟨B2, hB2⟩ : ∃ B : ByteArray, (⟨(Lib.itoa E).toArray⟩ : ByteArray) = B := ⟨_, rfl⟩
          obtain ⟨A1, hA1⟩ : ∃ B : ByteArray, (⟨(([] : List UInt8) ++ Lib.decDigits M).toArray⟩ : ByteArray) = B := ⟨_, rfl⟩
          obtain ⟨A2, hA2⟩ : ∃ B : ByteArray, (⟨(([] : List UInt8) ++ Lib.decDigits M ++ [112]).toArray⟩ : ByteArray) = B := ⟨_, rfl⟩
          obtain ⟨A3, hA3⟩ : ∃ B : ByteArray, (⟨(([] : List UInt8) ++ Lib.decDigits M ++ [112] ++ Lib.itoa E).toArray⟩ : ByteArray) = B := ⟨_, rfl⟩
          simp only [hB1, hA1] at a1
          simp only [hA1, hA2] at a2
          simp only [hA2, hB2, hA3] at a3
          simp only [hB1] at c45
          simp only [hB2] at c46
          have HA3 : Hid _ := hA3
          clear h1 h0 hr l1 l2 b1 b2 b3 hl hB1 hB2 hA1 hA2 hA3
          go_enter Tryd.func19, Tryd.ntmps19
          go_wp2_with (first | (refine hnn.mono ?_; rintro r w' ⟨rfl, rfl⟩) | (refine hpa.mono ?_; rintro r w' ⟨rfl, rfl⟩) | (refine (c45 _ hD).mono ?_; rintro e w1 ⟨rfl, hg1⟩) | (refine (c46 _ (hDg _ _ hD hg1)).mono ?_; rintro e w2 ⟨rfl, hg2⟩) | fail)
          go_ret
          refine ⟨?_, grown_trans hg1 hg2 (by simp)⟩
          show Ending.returned (.string A3) = _
          rw [← HA3.out]
          refine ret_str2 (A := ([] : List UInt8) ++ Lib.decDigits M ++ [112] ++ Lib.itoa E) (B := txt x) ?_
          rw [ht.out, hsg.out, hz.out]; simp
end
end Go.Proofs.YtmjcjcpifahpaaaDoor
