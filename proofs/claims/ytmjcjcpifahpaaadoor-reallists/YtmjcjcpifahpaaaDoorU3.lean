/-
  The document's Search, Least and Greatest: the walks.
-/
import Derived.Test.YtmjcjcpifahpaaaDoorU2
namespace Go.Proofs.YtmjcjcpifahpaaaDoor
open Go.RowKit Go.Shelf Go.Sort Go.Lib
set_option linter.unusedVariables false

/-- What stands ahead of i is ahead of x. -/
def Low (l : List Fl) (i : Nat) (x : Fl) : Prop := ∀ y, 0 < i → l[i - 1]? = some y → pl y < pl x

set_option maxRecDepth 100000 in
set_option maxHeartbeats 1000000 in
theorem rsearch_any (w : World) (ao : Option Addr) (n cap : Nat) (l : List Fl) (hb : Fs w ao n cap l) (hn65 : n ≤ 65536) (x : Fl) :
    Calls Tryd.prog 30 #[.slice ao n cap, .float .f64 x.b] w fun e w' => ∃ i, i ≤ n ∧ e = .returned (.tuple #[.int .i64 i, .bool (fnd l i x)]) ∧ Bnd l i x ∧ w' = w := by
  have hlen := hb.len
  have hxl := x.lt
  go_enter Tryd.func30, Tryd.ntmps30
  go_wp2_with fail
  go_loop [6] (fun i' => ∃ i : Nat, i' = .int .i64 i ∧ i ≤ n ∧ Hid (Low l i x)) (fun i' => n - (intOf i').toNat)
  case atStart => exact ⟨0, rfl, Nat.zero_le _, (fun y h => by omega : Low l 0 x)⟩
  case round =>
    obtain ⟨i, rfl, hi, hL⟩ := hrel
    by_cases hlt : i < n
    · obtain ⟨b, o, rfl, hbl⟩ := hb.addr (by omega)
      have hml : i < l.length := by omega
      have hcell := hb.at hml
      have hyl := (l[i]).lt
      have hord : ∀ W, Calls Tryd.prog 13 #[.float .f64 (l[i]).b, .float .f64 x.b] W fun e w' => e = .returned (.int .i64 (ordL l[i] x)) ∧ w' = W := fun W => rorder_any W _ _ hyl hxl
      have hlk := fun W => rlike_any W _ _ hyl hxl
      have hneg := ordL_neg l[i] x
      have HM : Hid (l[i]? = some l[i]) := (List.getElem?_eq_getElem hml : l[i]? = _)
      have hf : Hid (fnd l i x = likeF (l[i]).b x.b) := by show _ = _; unfold fnd; rw [List.getElem?_eq_getElem hml]
      generalize ordL l[i] x = O at *
      generalize likeF (l[i]).b x.b = lk at *
      generalize l[i] = y at *
      by_cases hO : O < 0
      · have hLt : Hid (Low l (i + 1) x) := (fun y' _ h => by rw [show i + 1 - 1 = i by omega, HM.out] at h; obtain rfl := Option.some.inj h; exact hneg.1 hO : Low l (i + 1) x)
        clear hneg hL
        go_wp2_with (go_at_call 13; refine (hord _).mono ?_; rintro e w1 ⟨rfl, rfl⟩)
        go_round
        case rel => exact ⟨i + 1, by go_num, by omega, hLt⟩
        case measure => simp [intOf]; omega
      · have HB : Hid (Bnd l i x) := (⟨hL.out, fun y' h => by rw [HM.out] at h; obtain rfl := Option.some.inj h; have : ¬ pl y < pl x := fun h9 => hO (hneg.2 h9); omega⟩ : Bnd l i x)
        clear hneg hL
        go_wp2_with fail
        refine (hord _).mono ?_
        rintro e w1 ⟨rfl, hw1⟩
        subst hw1
        go_wp2_with fail
        refine (hlk _).mono ?_
        rintro e w1 ⟨rfl, hw1⟩
        subst hw1
        go_wp2
        go_ret2
        exact ⟨i, hi, by rw [hf.out]; rfl, HB.out, rfl⟩
    · obtain rfl : i = n := by omega
      have hf : Hid (fnd l i x = false) := by show _ = _; unfold fnd; rw [List.getElem?_eq_none (by omega)]
      have HB : Hid (Bnd l i x) := (⟨hL.out, fun y' h => by rw [List.getElem?_eq_none (by omega)] at h; cases h⟩ : Bnd l i x)
      clear hL
      go_wp2
      go_ret2
      exact ⟨i, hi, by rw [hf.out]; rfl, HB.out, rfl⟩

set_option maxHeartbeats 400000 in
theorem outermost_none (w : World) (side : Int) (ao : Option Addr) (cap : Nat) :
    Calls Tryd.prog 51 #[.int .i64 side, .slice ao 0 cap] w fun e w' => e = .returned (.tuple #[.float .f64 0, .bool false]) ∧ w' = w := by
  go_enter Tryd.func51, Tryd.ntmps51
  go_wp2
  go_ret2
  exact ⟨rfl, rfl⟩

set_option maxRecDepth 100000 in
set_option maxHeartbeats 1000000 in
theorem outermost_any (w : World) (side : Int) (hs : side = -1 ∨ side = 1) (ao : Option Addr) (n cap : Nat) (l : List Fl) (hb : Fs w ao n cap l) (hn : 0 < n) (hn65 : n ≤ 65536) :
    Calls Tryd.prog 51 #[.int .i64 side, .slice ao n cap] w fun e w' => ∃ y : Fl, e = .returned (.tuple #[.float .f64 y.b, .bool true]) ∧ Om side l l.length y ∧ w' = w := by
  have hlen := hb.len
  obtain ⟨b, o, rfl, hbl⟩ := hb.addr hn
  have h0 : 0 < l.length := by omega
  have c0 := hb.at h0
  rw [Nat.add_zero] at c0
  have HS : Hid (side = -1 ∨ side = 1) := hs
  have HB0 : Hid (Om side l 0 l[0]) := om_start h0
  have hn0 : ((n : Int) == 0) = false := by simp; omega
  clear hs
  generalize l[0] = y0 at *
  go_enter Tryd.func51, Tryd.ntmps51
  go_wp2_with fail
  go_loopw [6, 8, 17] (fun o' _ i' wr => wr = w ∧ ∃ (i : Nat) (y : Fl), i ≤ n ∧ i' = .int .i64 i ∧ o' = .float .f64 y.b ∧ Hid (Om side l i y)) (fun _ _ i' _ => n - (intOf i').toNat)
  case atStart => exact ⟨rfl, 0, y0, Nat.zero_le _, rfl, rfl, HB0⟩
  case round =>
    rename_i wr
    obtain ⟨rfl, i, y, hi, rfl, rfl, hO⟩ := hrel
    by_cases hlt : i < n
    · have hil : i < l.length := by omega
      have ci := hb.at hil
      have hord := fun W => order_any W _ _ (l[i]).lt y.lt
      have hT : Hid (ordF (l[i]).b y.b = side → Om side l (i + 1) l[i]) := om_turn HS.out hil hO.out
      have hU : Hid (ordF (l[i]).b y.b ≠ side → Om side l (i + 1) y) := om_stay HS.out hil hO.out
      clear hO c0 HB0 HS
      generalize ordF (l[i]).b y.b = O at *
      generalize l[i] = x at *
      by_cases he : O = side
      · have hT2 : Hid (Om side l (i + 1) x) := hT.out he
        clear hT hU
        subst he
        go_wp2_with fail
        refine (hord _).mono ?_
        rintro e w1 ⟨rfl, hw1⟩
        subst hw1
        go_wp2
        go_roundw
        case rel => exact ⟨trivial, i + 1, x, by omega, by go_num, rfl, hT2⟩
        case measure => simp [intOf]; omega
      · have hU2 : Hid (Om side l (i + 1) y) := hU.out he
        clear hT hU
        go_wp2_with fail
        refine (hord _).mono ?_
        rintro e w1 ⟨rfl, hw1⟩
        subst hw1
        go_wp2
        go_roundw
        case rel => exact ⟨trivial, i + 1, y, by omega, by go_num, rfl, hU2⟩
        case measure => simp [intOf]; omega
    · obtain rfl : i = n := by omega
      clear c0
      go_wp2
      go_ret2
      exact ⟨y, rfl, by simpa [hlen] using hO.out, rfl⟩

set_option maxHeartbeats 400000 in
theorem least_none (w : World) (ao : Option Addr) (cap : Nat) :
    Calls Tryd.prog 25 #[.slice ao 0 cap] w fun e w' => e = .returned (.tuple #[.float .f64 0, .bool false]) ∧ w' = w := by
  go_enter Tryd.func25, Tryd.ntmps25
  go_wp2_with fail
  refine (outermost_none _ _ _ _).mono ?_
  rintro e w1 ⟨rfl, rfl⟩
  go_wp2
  go_ret2
  exact ⟨rfl, rfl⟩
set_option maxHeartbeats 400000 in
theorem greatest_none (w : World) (ao : Option Addr) (cap : Nat) :
    Calls Tryd.prog 26 #[.slice ao 0 cap] w fun e w' => e = .returned (.tuple #[.float .f64 0, .bool false]) ∧ w' = w := by
  go_enter Tryd.func26, Tryd.ntmps26
  go_wp2_with fail
  refine (outermost_none _ _ _ _).mono ?_
  rintro e w1 ⟨rfl, rfl⟩
  go_wp2
  go_ret2
  exact ⟨rfl, rfl⟩
set_option maxHeartbeats 400000 in
theorem least_any (w : World) (ao : Option Addr) (n cap : Nat) (l : List Fl) (hb : Fs w ao n cap l) (hn : 0 < n) (hn65 : n ≤ 65536) :
    Calls Tryd.prog 25 #[.slice ao n cap] w fun e w' => ∃ y : Fl, e = .returned (.tuple #[.float .f64 y.b, .bool true]) ∧ Om (-1) l l.length y ∧ w' = w := by
  go_enter Tryd.func25, Tryd.ntmps25
  go_wp2_with fail
  refine (outermost_any _ _ (Or.inl rfl) _ _ _ l hb hn hn65).mono ?_
  rintro e w1 ⟨y, rfl, hO, rfl⟩
  go_wp2
  go_ret2
  exact ⟨y, rfl, hO, rfl⟩
set_option maxHeartbeats 400000 in
theorem greatest_any (w : World) (ao : Option Addr) (n cap : Nat) (l : List Fl) (hb : Fs w ao n cap l) (hn : 0 < n) (hn65 : n ≤ 65536) :
    Calls Tryd.prog 26 #[.slice ao n cap] w fun e w' => ∃ y : Fl, e = .returned (.tuple #[.float .f64 y.b, .bool true]) ∧ Om 1 l l.length y ∧ w' = w := by
  go_enter Tryd.func26, Tryd.ntmps26
  go_wp2_with fail
  refine (outermost_any _ _ (Or.inr rfl) _ _ _ l hb hn hn65).mono ?_
  rintro e w1 ⟨y, rfl, hO, rfl⟩
  go_wp2
  go_ret2
  exact ⟨y, rfl, hO, rfl⟩
end Go.Proofs.YtmjcjcpifahpaaaDoor
