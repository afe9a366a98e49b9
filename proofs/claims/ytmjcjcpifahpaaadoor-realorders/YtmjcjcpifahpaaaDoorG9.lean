/-
  Text: the walk.
-/
import Derived.Test.YtmjcjcpifahpaaaDoorG8
import Derived.Lib.ItoaLen
import Derived.Laws.BitsAllLaws
namespace Go.Proofs.YtmjcjcpifahpaaaDoor
open Go.RowKit Go.Shelf Go.Sort Go.Lib
set_option linter.unusedVariables false

theorem andNot_top {b : Nat} (hb : b < 18446744073709551616) : bits .andNot .u64 (b : Int) 9223372036854775808 = ((b % 9223372036854775808 : Nat) : Int) := by
  have h := u64_andNot_nat b 9223372036854775808 hb (by omega)
  rw [show (9223372036854775808 : Int) = ((9223372036854775808 : Nat) : Int) from rfl, h]
  congr 1
  exact Nat.and_two_pow_sub_one_eq_mod b 63

theorem add_lists (A B : List UInt8) (h : A.length + B.length ≤ 1000) (w : World) : (Op.stringOp .add ⟨A.toArray⟩ ⟨B.toArray⟩).run Tryd.prog w = .ok (.string ⟨(A ++ B).toArray⟩) w := by
  have h2 := run_string_add_sum (P := Tryd.prog) w ⟨A.toArray⟩ ⟨B.toArray⟩ (by simp [ByteArray.size]; omega)
  rw [h2]
  congr 2
theorem ret_str {A B : List UInt8} (h : A = B) : Ending.returned (.string ⟨A.toArray⟩) = .returned (.string ⟨B.toArray⟩) := by rw [h]

/-- What stands ahead of a rung's text. -/
def sg (b : Nat) : List UInt8 := if 9223372036854775808 ≤ b then [45] else []
theorem txt_eq {b : Nat} (h : isN b = false) : txt b = sg b ++ szt (b % 9223372036854775808) := by
  unfold txt sg
  rw [if_neg (by simp [h])]
  split <;> rfl
theorem itoa_len {e : Int} (h1 : -1074 ≤ e) (h2 : e ≤ 1074) : (Lib.itoa e).length ≤ 21 := Lib.itoa_length_le e (by omega) (by omega)
theorem dec_len {m : Nat} (h : m < 18446744073709551616) : (Lib.decDigits m).length ≤ 20 := by rw [Lib.decDigits_length]; exact Lib.nDigits_le20 m h

set_option maxRecDepth 100000 in
set_option maxHeartbeats 1000000 in
theorem text_any (w : World) (x : Nat) (hx : x < 18446744073709551616) (hD : Dt w) :
    Calls Tryd.prog 18 #[.float .f64 x] w fun e w' => e = .returned (.string ⟨(txt x).toArray⟩) ∧ w.grownBy w' none := by
  have hn : (FloatKind.f64.format.order x x != some .eq) = isN x := self_neq hx
  have hc := Tryd.call43
  cases h : isN x with
  | true =>
    rw [h] at hn
    have ht : Hid (txt x = [110, 97, 110]) := by show _ = _; unfold txt; rw [if_pos h]
    go_enter Tryd.func18, Tryd.ntmps18
    go_wp2
    go_ret
    exact ⟨ret_str (B := txt x) ht.out.symm, grown_refl _ _⟩
  | false =>
    rw [h] at hn
    have ht : Hid (txt x = sg x ++ szt (x % 9223372036854775808)) := txt_eq h
    have hat := and_top hx
    have hnt := andNot_top hx
    have hr : x % 9223372036854775808 ≤ 9218868437227405312 := (isN_neq x).1 h
    have hlow : ¬ 9223372036854775808 ≤ x → x % 9223372036854775808 = x := fun h => by omega
    have key : ∀ (S : List UInt8) (r : Nat), S.length ≤ 1 → r ≤ 9218868437227405312 → r ≠ 0 → r ≠ 9218868437227405312 → ∃ (M : Nat) (E : Int) (B1 B2 A1 A2 A3 : ByteArray), (∀ W, Dt W → Calls Tryd.prog 44 #[.int .u64 r] W fun e w' => e = .returned (.tuple #[.int .u64 (M : Nat), .int .i64 E]) ∧ w' = W) ∧
        (∀ W, Dt W → Calls Tryd.prog 45 #[.int .u64 M, .int .i64 10] W fun e w' => e = .returned (.string B1) ∧ W.grownBy w' none) ∧
        (∀ W, Dt W → Calls Tryd.prog 46 #[.int .i64 E] W fun e w' => e = .returned (.string B2) ∧ W.grownBy w' none) ∧
        (∀ W, (Op.stringOp .add ⟨S.toArray⟩ B1).run Tryd.prog W = .ok (.string A1) W) ∧
        (∀ W, (Op.stringOp .add A1 ⟨[112].toArray⟩).run Tryd.prog W = .ok (.string A2) W) ∧
        (∀ W, (Op.stringOp .add A2 B2).run Tryd.prog W = .ok (.string A3) W) ∧
        Hid (A3 = ⟨(S ++ szt r).toArray⟩) := by
      intro S r hS h1 h2 h3
      obtain ⟨b1, b2, b3⟩ := sp_bounds (r := r) (by omega) (by omega)
      have hl := spM_lt (r := r) (by omega)
      have l1 := dec_len (m := spM r) (by omega)
      have l2 := itoa_len b1 b2
      refine ⟨spM r, spE r, ⟨(Lib.decDigits (spM r)).toArray⟩, ⟨(Lib.itoa (spE r)).toArray⟩, _, _, _, fun W hW => split_any W r (by omega) (by omega) hW, fun W hW => formatUint_any W _ (by omega) hW, fun W hW => itoa_any W _ (by omega) (by omega) hW, fun W => add_lists _ _ (by omega) W, fun W => add_lists _ _ (by simp; omega) W, fun W => add_lists _ _ (by simp; omega) W, ?_⟩
      show _ = _
      rw [szt_fin h2 h3]
      simp
    by_cases hs : 9223372036854775808 ≤ x
    · rw [if_pos hs] at hat
      have hsg : Hid (sg x = [45]) := by show _ = _; unfold sg; rw [if_pos hs]
      generalize x % 9223372036854775808 = r at *
      by_cases h0 : r = 0
      · subst h0
        have hz : Hid (szt 0 = [48]) := (rfl : szt 0 = [48])
        go_enter Tryd.func18, Tryd.ntmps18
        go_wp2
        go_ret
        refine ⟨ret_str (A := [45, 48]) (B := txt x) ?_, grown_refl _ _⟩
        rw [ht.out, hsg.out, hz.out]; rfl
      · by_cases h1 : r = 9218868437227405312
        · subst h1
          have hz : Hid (szt 9218868437227405312 = [105, 110, 102]) := by show _ = _; unfold szt; rw [if_neg (by omega), if_pos rfl]
          go_enter Tryd.func18, Tryd.ntmps18
          go_wp2
          go_ret
          refine ⟨ret_str (A := [45, 105, 110, 102]) (B := txt x) ?_, grown_refl _ _⟩
          rw [ht.out, hsg.out, hz.out]; rfl
        · obtain ⟨M, E, B1, B2, A1, A2, A3, c44, c45, c46, a1, a2, a3, hL⟩ := key [45] r (by simp) hr h0 h1
          have i0 : ((r : Int) == 0) = false := by simp; omega
          have i1 : ((r : Int) == 9218868437227405312) = false := by simp; omega
          clear key hlow hr h0 h1
          go_enter Tryd.func18, Tryd.ntmps18
          go_wp2_with (first
            | (go_at_call 44; refine (c44 _ hD).mono ?_; rintro e w' ⟨rfl, rfl⟩)
            | (go_at_call 45; refine (c45 _ hD).mono ?_; rintro e w1 ⟨rfl, hg1⟩)
            | (go_at_call 46; refine (c46 _ (hD.grown hg1)).mono ?_; rintro e w2 ⟨rfl, hg2⟩))
          go_ret
          refine ⟨by rw [ht.out, hsg.out, ← hL.out]; rfl, grown_trans hg1 hg2 (by simp)⟩
    · rw [if_neg hs] at hat
      have hsg : Hid (sg x = []) := by show _ = _; unfold sg; rw [if_neg hs]
      rw [hlow hs] at ht hr
      have hxx := hlow hs
      clear hnt hlow hxx
      by_cases h0 : x = 0
      · subst h0
        have hz : Hid (szt 0 = [48]) := (rfl : szt 0 = [48])
        go_enter Tryd.func18, Tryd.ntmps18
        go_wp2
        go_ret
        refine ⟨ret_str (A := [48]) (B := txt _) ?_, grown_refl _ _⟩
        rw [ht.out, hsg.out, hz.out]; rfl
      · by_cases h1 : x = 9218868437227405312
        · subst h1
          have hz : Hid (szt 9218868437227405312 = [105, 110, 102]) := by show _ = _; unfold szt; rw [if_neg (by omega), if_pos rfl]
          go_enter Tryd.func18, Tryd.ntmps18
          go_wp2
          go_ret
          refine ⟨ret_str (A := [105, 110, 102]) (B := txt _) ?_, grown_refl _ _⟩
          rw [ht.out, hsg.out, hz.out]; rfl
        · obtain ⟨M, E, B1, B2, A1, A2, A3, c44, c45, c46, a1, a2, a3, hL⟩ := key [] x (by simp) hr h0 h1
          have i0 : ((x : Int) == 0) = false := by simp; omega
          have i1 : ((x : Int) == 9218868437227405312) = false := by simp; omega
          clear key hr h0 h1
          go_enter Tryd.func18, Tryd.ntmps18
          go_wp2_with (first
            | (go_at_call 44; refine (c44 _ hD).mono ?_; rintro e w' ⟨rfl, rfl⟩)
            | (go_at_call 45; refine (c45 _ hD).mono ?_; rintro e w1 ⟨rfl, hg1⟩)
            | (go_at_call 46; refine (c46 _ (hD.grown hg1)).mono ?_; rintro e w2 ⟨rfl, hg2⟩))
          go_ret
          refine ⟨by rw [ht.out, hsg.out, ← hL.out]; rfl, grown_trans hg1 hg2 (by simp)⟩
end Go.Proofs.YtmjcjcpifahpaaaDoor
