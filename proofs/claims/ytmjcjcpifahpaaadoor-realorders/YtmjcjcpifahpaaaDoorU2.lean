/-
  The document's order and lists, Least and Greatest: the walks.
-/
import Derived.Test.YtmjcjcpifahpaaaDoorU1
import Derived.Deep.QuietTactic
import Derived.BigQuiet
namespace Go.Proofs.YtmjcjcpifahpaaaDoor
open Go.RowKit Go.Shelf Go.Sort Go.Lib
set_option linter.unusedVariables false

set_option maxHeartbeats 400000 in
theorem rnan_any (w : World) (x : Nat) (hx : x < 18446744073709551616) :
    Calls Tryd.prog 33 #[.float .f64 x] w fun e w' => e = .returned (.bool (isN x)) ∧ w' = w := by
  have hn : (FloatKind.f64.format.order x x != some .eq) = isN x := self_neq hx
  generalize isN x = N at *
  go_enter Tryd.func33, Tryd.ntmps33
  go_wp2
  go_ret
  exact ⟨rfl, rfl⟩

set_option maxRecDepth 100000 in
set_option maxHeartbeats 400000 in
theorem rplace_any (w : World) (x : Nat) (hx : x < 18446744073709551616) :
    Calls Tryd.prog 42 #[.float .f64 x] w fun e w' => e = .returned (.int .u64 (plc x)) ∧ w' = w := by
  have hN := rnan_any w x hx
  have hc := Tryd.call43
  cases h : isN x with
  | true =>
    rw [h] at hN
    have hp : Hid (plc x = 18446744073709551615) := plc_nan h
    go_enter Tryd.func42, Tryd.ntmps42
    go_wp2_with fail
    refine hN.mono ?_
    rintro e w' ⟨rfl, hw⟩
    subst hw
    go_wp2
    go_ret
    exact ⟨ret_int (by rw [hp.out]; rfl), rfl⟩
  | false =>
    rw [h] at hN
    by_cases hs : 9223372036854775808 ≤ x
    · have hp : Hid (plc x = 18446744073709551615 - x) := plc_neg h hs
      have hd : decide (9223372036854775808 ≤ x) = true := by simpa using hs
      have hd2 : decide ((9223372036854775808 : Int) ≤ (x : Int)) = true := by simp; omega
      have hw : IntKind.u64.wrap (18446744073709551615 - (x : Int)) = ((18446744073709551615 - x : Nat) : Int) := by simp [IntKind.wrap, IntKind.bits, IntKind.signed]; omega
      have HS : Hid (9223372036854775808 ≤ x) := hs
      have HX : Hid (x < 18446744073709551616) := hx
      clear hs hx h
      go_enter Tryd.func42, Tryd.ntmps42
      go_wp2_with fail
      refine hN.mono ?_
      rintro e w' ⟨rfl, hw⟩
      subst hw
      go_wp2
      go_ret
      exact ⟨ret_int (by rw [hp.out]), rfl⟩
    · have hp : Hid (plc x = x + 9223372036854775808) := plc_pos h (by omega)
      have hd : decide (9223372036854775808 ≤ x) = false := by simpa using hs
      have hd2 : decide ((9223372036854775808 : Int) ≤ (x : Int)) = false := by simp; omega
      have hw : IntKind.u64.wrap ((x : Int) + 9223372036854775808) = ((x + 9223372036854775808 : Nat) : Int) := by simp [IntKind.wrap, IntKind.bits, IntKind.signed]; omega
      have HS : Hid (¬ 9223372036854775808 ≤ x) := hs
      have HX : Hid (x < 18446744073709551616) := hx
      clear hs hx h
      go_enter Tryd.func42, Tryd.ntmps42
      go_wp2_with fail
      refine hN.mono ?_
      rintro e w' ⟨rfl, hw⟩
      subst hw
      go_wp2
      go_ret
      exact ⟨ret_int (by rw [hp.out]; omega), rfl⟩

set_option maxHeartbeats 400000 in
theorem rorder_any (w : World) (x y : Nat) (hx : x < 18446744073709551616) (hy : y < 18446744073709551616) :
    Calls Tryd.prog 13 #[.float .f64 x, .float .f64 y] w fun e w' => e = .returned (.int .i64 (ordF x y)) ∧ w' = w := by
  have hX := fun W => rplace_any W x hx
  have hY := fun W => rplace_any W y hy
  have hO : Hid (ordF x y = cmpN (plc x) (plc y)) := rfl
  have lx := plc_lt hx
  have ly := plc_lt hy
  generalize plc x = a at *
  generalize plc y = b at *
  by_cases h1 : a < b
  · have hp : Hid (cmpN a b = -1) := by show _ = _; unfold cmpN; rw [if_pos h1]
    go_enter Tryd.func13, Tryd.ntmps13
    go_wp2_with fail
    refine (hX _).mono ?_
    rintro e w' ⟨rfl, hw⟩
    subst hw
    go_wp2_with fail
    refine (hY _).mono ?_
    rintro e w' ⟨rfl, hw⟩
    subst hw
    go_wp2
    go_ret
    exact ⟨ret_int (by rw [hO.out, hp.out]), rfl⟩
  · by_cases h2 : b < a
    · have hp : Hid (cmpN a b = 1) := by show _ = _; unfold cmpN; rw [if_neg h1, if_pos h2]
      go_enter Tryd.func13, Tryd.ntmps13
      go_wp2_with fail
      refine (hX _).mono ?_
      rintro e w' ⟨rfl, hw⟩
      subst hw
      go_wp2_with fail
      refine (hY _).mono ?_
      rintro e w' ⟨rfl, hw⟩
      subst hw
      go_wp2
      go_ret
      exact ⟨ret_int (by rw [hO.out, hp.out]), rfl⟩
    · have hp : Hid (cmpN a b = 0) := by show _ = _; unfold cmpN; rw [if_neg h1, if_neg h2]
      go_enter Tryd.func13, Tryd.ntmps13
      go_wp2_with fail
      refine (hX _).mono ?_
      rintro e w' ⟨rfl, hw⟩
      subst hw
      go_wp2_with fail
      refine (hY _).mono ?_
      rintro e w' ⟨rfl, hw⟩
      subst hw
      go_wp2
      go_ret
      exact ⟨ret_int (by rw [hO.out, hp.out]), rfl⟩

set_option maxHeartbeats 400000 in
theorem rlike_any (w : World) (x y : Nat) (hx : x < 18446744073709551616) (hy : y < 18446744073709551616) :
    Calls Tryd.prog 15 #[.float .f64 x, .float .f64 y] w fun e w' => e = .returned (.bool (likeF x y)) ∧ w' = w := by
  have hX := fun W => rplace_any W x hx
  have hY := fun W => rplace_any W y hy
  have hO : Hid (likeF x y = decide (plc x = plc y)) := rfl
  generalize plc x = a at *
  generalize plc y = b at *
  go_enter Tryd.func15, Tryd.ntmps15
  go_wp2_with fail
  refine (hX _).mono ?_
  rintro e w' ⟨rfl, hw⟩
  subst hw
  go_wp2_with fail
  refine (hY _).mono ?_
  rintro e w' ⟨rfl, hw⟩
  subst hw
  go_wp2
  go_ret
  exact ⟨ret_bool (by rw [hO.out]; by_cases h9 : a = b <;> simp [h9]; omega), rfl⟩

/-- Two lists of one length, alike. -/
def Alike (a b : List Fl) : Prop := a.length = b.length ∧ ∀ i (h : i < a.length) (h2 : i < b.length), likeF (a[i]).b (b[i]).b = true

set_option maxRecDepth 100000 in
set_option maxHeartbeats 1000000 in
theorem alike_any (w : World) (ao bo : Option Addr) (n cap cap2 : Nat) (l k : List Fl) (ha : Fs w ao n cap l) (hb : Fs w bo n cap2 k) (hl : Alike l k) (hn : n ≤ 65536) :
    Calls Tryd.prog 28 #[.slice ao n cap, .slice bo n cap2] w fun e w' => e = .returned (.bool true) ∧ w.grownBy w' none := by
  have hlen := ha.len
  have hlen2 := hb.len
  have HL : Hid (Alike l k) := hl
  clear hl
  go_enter Tryd.func28, Tryd.ntmps28
  go_wp2_with fail
  go_loopw [5] (fun i' wr => ∃ i : Nat, i ≤ n ∧ i' = .int .i64 i ∧ w.grownBy wr none) (fun i' _ => n - (intOf i').toNat)
  case atStart => exact ⟨0, Nat.zero_le _, rfl, grown_refl _ _⟩
  case round =>
    obtain ⟨i, hi, rfl, hg⟩ := hrel
    by_cases hlt : i < n
    · have hd : decide ((i : Int) < (n : Int)) = true := by simp; omega
      obtain ⟨b, o, rfl, hbl⟩ := ha.addr (by omega)
      obtain ⟨c, q, rfl, hcl⟩ := hb.addr (by omega)
      have hil : i < l.length := by omega
      have hik : i < k.length := by omega
      have c1 := (ha.grown hg).at hil
      have c2 := (hb.grown hg).at hik
      have hlk := fun W => rlike_any W _ _ (l[i]).lt (k[i]).lt
      rw [HL.out.2 i hil hik] at hlk
      generalize l[i] = x at *
      generalize k[i] = y at *
      go_wp2_with fail
      go_big_quiet ((go_at_call 15; exact Calls.quiet_of_same (hlk _)))
      have hg2 := grown_trans hg (grown_drewN wr nq none) (by simp)
      clear c1 c2
      generalize wr.drewN nq = wq at *
      go_wp2
      go_roundw
      case rel => exact ⟨i + 1, by omega, by go_num, hg2⟩
      case measure => simp [intOf]; omega
    · obtain rfl : i = n := by omega
      have hd : decide ((i : Int) < (i : Int)) = false := by simp
      go_wp2
      go_ret
      exact ⟨rfl, hg⟩
end Go.Proofs.YtmjcjcpifahpaaaDoor
