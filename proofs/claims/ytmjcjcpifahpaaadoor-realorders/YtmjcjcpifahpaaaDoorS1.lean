/-
  Search, Nth: the walks.
-/
import Derived.Test.YtmjcjcpifahpaaaDoorG4
namespace Go.Proofs.YtmjcjcpifahpaaaDoor
open Go.RowKit Go.Shelf Go.Sort Go.Lib
set_option linter.unusedVariables false

/-- Is what stands at i like x? -/
def fnd (l : List Fl) (i : Nat) (x : Fl) : Bool := match l[i]? with
  | some y => likeF y.b x.b
  | none => false
/-- What stands ahead of i is ahead of x, what stands at i is not. -/
def Bnd (l : List Fl) (i : Nat) (x : Fl) : Prop := (∀ y, 0 < i → l[i - 1]? = some y → pl y < pl x) ∧ (∀ y, l[i]? = some y → pl x ≤ pl y)
/-- Between lo and hi. -/
def Btw (l : List Fl) (lo hi : Nat) (x : Fl) : Prop := (∀ y, 0 < lo → l[lo - 1]? = some y → pl y < pl x) ∧ (∀ y, hi < l.length → l[hi]? = some y → pl x ≤ pl y)

theorem ordL_neg (x y : Fl) : (ordL x y < 0) ↔ pl x < pl y := by
  have := ordL_lt x y
  unfold ltOf at this
  simpa using this
theorem ordL_zero (x y : Fl) : (ordL x y == 0) = likeF x.b y.b := ord_zero x.b y.b

set_option maxRecDepth 100000 in
set_option maxHeartbeats 2000000 in
theorem bsearch_any (w : World) (ao : Option Addr) (n cap : Nat) (l : List Fl) (hb : Fs w ao n cap l) (hn65 : n ≤ 65536) (x : Fl) :
    Calls Tryd.prog 52 #[.slice ao n cap, .float .f64 x.b, .func (.func 12) #[] #[]] w fun e w' => ∃ i, i ≤ n ∧ e = .returned (.tuple #[.int .i64 i, .bool (fnd l i x)]) ∧ Bnd l i x ∧ w' = w := by
  have hlen := hb.len
  have hroom := hb.room
  have htop := hb.top
  unfold maxLen at htop
  have hxl := x.lt
  have eg := eg12
  go_enter Tryd.func52, Tryd.ntmps52
  go_wp2_with fail
  go_loop [9, 10, 11] (fun lo' hi' _ => ∃ lo hi : Nat, lo' = .int .i64 lo ∧ hi' = .int .i64 hi ∧ lo ≤ hi ∧ hi ≤ n ∧ Hid (Btw l lo hi x))
    (fun lo' hi' _ => (intOf hi').toNat - (intOf lo').toNat)
  case atStart => exact ⟨0, n, rfl, rfl, by omega, by omega, (⟨fun y h => by omega, fun y h => by omega⟩ : Btw l 0 n x)⟩
  case round =>
    obtain ⟨lo, hi, rfl, rfl, hlh, hin, hI⟩ := hrel
    by_cases hlt : lo < hi
    · obtain ⟨b, o, rfl, hbl⟩ := hb.addr (by omega)
      obtain ⟨mid, hm⟩ : ∃ mid : Nat, mid = (lo + hi) / 2 := ⟨_, rfl⟩
      have hml : mid < l.length := by omega
      have hcell := hb.at hml
      have hm2 : ((lo : Int) + (hi : Int)) / 2 = (mid : Int) := by omega
      have hyl := (l[mid]).lt
      have hord : ∀ W, Calls Tryd.prog 12 #[.float .f64 (l[mid]).b, .float .f64 x.b] W fun e w' => e = .returned (.int .i64 (ordL l[mid] x)) ∧ w' = W := fun W => order_any W _ _ hyl hxl
      have hneg := ordL_neg l[mid] x
      have HM : Hid (l[mid]? = some l[mid]) := (List.getElem?_eq_getElem hml : l[mid]? = _)
      have hmb : lo ≤ mid ∧ mid < hi := by omega
      obtain ⟨hmb1, hmb2⟩ := hmb
      clear hm
      generalize ordL l[mid] x = O at *
      generalize l[mid] = y at *
      by_cases hO : O < 0
      · have hBt : Hid (Btw l (mid + 1) hi x) := (⟨fun y' _ h => by rw [show mid + 1 - 1 = mid by omega, HM.out] at h; obtain rfl := Option.some.inj h; exact hneg.1 hO, hI.out.2⟩ : Btw l (mid + 1) hi x)
        clear hneg hI
        go_wp2_with (go_at_call 12; refine (hord _).mono ?_; rintro e w1 ⟨rfl, rfl⟩)
        go_round
        case rel => exact ⟨mid + 1, hi, by go_num, rfl, by omega, hin, hBt⟩
        case measure => simp [intOf]; omega
      · have hBt : Hid (Btw l lo mid x) := (⟨hI.out.1, fun y' _ h => by rw [HM.out] at h; obtain rfl := Option.some.inj h; have : ¬ pl y < pl x := fun h9 => hO (hneg.2 h9); omega⟩ : Btw l lo mid x)
        clear hneg hI
        go_wp2_with (go_at_call 12; refine (hord _).mono ?_; rintro e w1 ⟨rfl, rfl⟩)
        go_round
        case rel => exact ⟨lo, mid, rfl, rfl, by omega, by omega, hBt⟩
        case measure => simp [intOf]; omega
    · obtain rfl : hi = lo := by omega
      have HB : Hid (Bnd l hi x) := (⟨hI.out.1, fun y' h => hI.out.2 y' (List.getElem?_eq_some_iff.1 h).1 h⟩ : Bnd l hi x)
      clear hI
      by_cases hn : hi < n
      · obtain ⟨b, o, rfl, hbl⟩ := hb.addr (by omega)
        have hml : hi < l.length := by omega
        have hcell := hb.at hml
        have hyl := (l[hi]).lt
        have hord : ∀ W, Calls Tryd.prog 12 #[.float .f64 (l[hi]).b, .float .f64 x.b] W fun e w' => e = .returned (.int .i64 (ordL l[hi] x)) ∧ w' = W := fun W => order_any W _ _ hyl hxl
        have hz := ordL_zero l[hi] x
        have hf : Hid (fnd l hi x = likeF (l[hi]).b x.b) := by show _ = _; unfold fnd; rw [List.getElem?_eq_getElem hml]
        generalize ordL l[hi] x = O at *
        generalize hlk : likeF (l[hi]).b x.b = lk at *
        clear hlk
        generalize l[hi] = y at *
        go_wp2_with (go_at_call 12; refine (hord _).mono ?_; rintro e w1 ⟨rfl, rfl⟩)
        go_ret2
        exact ⟨hi, hin, by rw [hf.out]; rfl, HB.out, rfl⟩
      · have hf : Hid (fnd l hi x = false) := by show _ = _; unfold fnd; rw [List.getElem?_eq_none (by omega)]
        go_wp2
        go_ret2
        exact ⟨hi, hin, by rw [hf.out]; rfl, HB.out, rfl⟩

set_option maxHeartbeats 400000 in
theorem search_any (w : World) (ao : Option Addr) (n cap : Nat) (l : List Fl) (hb : Fs w ao n cap l) (hn65 : n ≤ 65536) (x : Fl) :
    Calls Tryd.prog 29 #[.slice ao n cap, .float .f64 x.b] w fun e w' => ∃ i, i ≤ n ∧ e = .returned (.tuple #[.int .i64 i, .bool (fnd l i x)]) ∧ Bnd l i x ∧ w' = w := by
  go_enter Tryd.func29, Tryd.ntmps29
  go_wp2_with (go_at_call 52; refine (bsearch_any _ _ _ _ l hb hn65 x).mono ?_; rintro e w1 ⟨i, hi, rfl, hB, rfl⟩)
  go_ret2
  exact ⟨i, hi, rfl, hB, rfl⟩

set_option maxHeartbeats 1000000 in
theorem nth_any (w : World) (k : Nat) (ao : Option Addr) (n cap : Nat) (l : List Fl) (hb : Fs w ao n cap l) (hn : n ≤ 65536) (hk : k < n) :
    Calls Tryd.prog 27 #[.int .i64 k, .slice ao n cap] w fun e w' => ∃ l' : List Fl, ∃ h : k < l'.length, e = .returned (.tuple #[.float .f64 (l'[k]).b, .int .i64 0]) ∧ l'.Perm l ∧ Srt l' ∧ w.grownBy w' none := by
  go_enter Tryd.func27, Tryd.ntmps27
  go_wp2_with fail
  refine (sort_any _ _ _ _ l hb hn).mono ?_
  rintro e w1 ⟨g, l', rfl, ho, hp, hs, hg⟩
  have hlen : k < l'.length := by rw [hp.length_eq, hb.len]; exact hk
  have hc := ho.shows.at hlen
  rw [Nat.zero_add] at hc
  clear ho hb
  generalize hy : l'[k] = y at *
  have HY : Hid (l'[k] = y) := hy
  clear hy
  go_wp2
  go_ret2
  exact ⟨l', hlen, by rw [HY.out]; rfl, hp, hs, hg⟩

set_option maxHeartbeats 1000000 in
theorem nth_out (w : World) (k : Int) (ao : Option Addr) (n cap : Nat) (l : List Fl) (hb : Fs w ao n cap l) (hn : n ≤ 65536) (hk : k < 0 ∨ (n : Int) ≤ k) :
    Calls Tryd.prog 27 #[.int .i64 k, .slice ao n cap] w fun e w' => e = .returned (.tuple #[.float .f64 0, .int .i64 4]) ∧ w.grownBy w' none := by
  rcases hk with hk | hk
  · go_enter Tryd.func27, Tryd.ntmps27
    go_wp2_with fail
    refine (sort_any _ _ _ _ l hb hn).mono ?_
    rintro e w1 ⟨g, l', rfl, ho, hp, hs, hg⟩
    clear ho hb
    go_wp2
    go_ret2
    exact ⟨rfl, hg⟩
  · have hk2 : ¬ k < 0 := by omega
    go_enter Tryd.func27, Tryd.ntmps27
    go_wp2_with fail
    refine (sort_any _ _ _ _ l hb hn).mono ?_
    rintro e w1 ⟨g, l', rfl, ho, hp, hs, hg⟩
    clear ho hb
    go_wp2
    go_ret2
    exact ⟨rfl, hg⟩
end Go.Proofs.YtmjcjcpifahpaaaDoor
