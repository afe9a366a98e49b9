/-
  bytes.Equal; two files held against each other.
-/
import Derived.Test.YthkbakaodbceiaaHx
import Derived.Deep.QuietTactic
import Derived.BigQuiet
namespace Go.Proofs.Ythkbakaodbceiaa
open Go.RowKit
set_option linter.unusedVariables false

set_option maxHeartbeats 400000 in
theorem equal_any (w : World) (ao bo : Option Addr) (n m c d : Nat) (l k : List UInt8) (ha : Bs w ao n c l) (hb : Bs w bo m d k) :
    Calls Try.prog 66 #[.slice ao n c, .slice bo m d] w fun e w' => e = .returned (.bool (l == k)) ∧ w' = w := by
  have h1 := run_string_bs (P := Try.prog) w 38 9 5 Try.underlying38 Try.underlying5 Try.underlying9 ha
  have h2 := run_string_bs (P := Try.prog) w 38 9 5 Try.underlying38 Try.underlying5 Try.underlying9 hb
  go_enter Try.func66, Try.ntmps66
  go_wp2
  go_ret
  exact ⟨rfl, rfl⟩

theorem ret_bool {a b : Bool} (h : a = b) : Ending.returned (.bool a) = .returned (.bool b) := by rw [h]

/-- Are two files the same? -/
def sameM (th th' nl nl' : Bool) (la la' : Int) (l k : List UInt8) : Bool := (th == th') && ((nl == nl') && (decide (la = la') && (l == k)))

set_option maxRecDepth 100000 in
set_option maxHeartbeats 2000000 in
theorem fsame_any (w : World) (g g' : Nat) (bo bo' : Option Addr) (bn bc bn' bc' : Nat) (la la' : Int) (th th' nl nl' : Bool) (l k : List UInt8) (h : Fl w g bo bn bc la th nl) (h' : Fl w g' bo' bn' bc' la' th' nl') (hb : Bs w bo bn bc l) (hb' : Bs w bo' bn' bc' k) :
    Calls Try.prog 60 #[.pointer (some ⟨g, 0, none⟩), .pointer (some ⟨g', 0, none⟩)] w fun e w' => e = .returned (.bool (sameM th th' nl nl' la la' l k)) ∧ w.grownBy w' none := by
  have hK : ∀ W, w.grownBy W none → Calls Try.prog 66 #[.slice bo bn bc, .slice bo' bn' bc'] W fun e w' => e = .returned (.bool (l == k)) ∧ w' = W := fun W hg => equal_any W _ _ _ _ _ _ _ _ (hb.grown hg) (hb'.grown hg)
  have hM : Hid (sameM th th' nl nl' la la' l k = ((th == th') && ((nl == nl') && (decide (la = la') && (l == k))))) := rfl
  generalize (l == k) = A at *
  have c0 := h.c0
  have c1 := h.c1
  have c2 := h.c2
  have c3 := h.c3
  have d0 := h'.c0
  have d1 := h'.c1
  have d2 := h'.c2
  have d3 := h'.c3
  clear h h' hb hb'
  by_cases e1 : th = th'
  · subst e1
    by_cases e2 : nl = nl'
    · subst e2
      by_cases e3 : la = la'
      · subst e3
        go_enter Try.func60, Try.ntmps60
        go_wp2_with fail
        go_quiet ((go_at_call 66; exact Calls.quiet_of_same (hK _ (grown_drewN _ _ none))))
        go_wp2
        go_ret
        exact ⟨ret_bool (by rw [hM.out]; simp), grown_drewN _ _ none⟩
      · have e4 : decide (la = la') = false := by simpa using e3
        have e5 : (la == la') = false := by simpa using e3
        go_enter Try.func60, Try.ntmps60
        go_wp2_with fail
        go_quiet (fail)
        go_wp2
        go_ret
        exact ⟨ret_bool (by rw [hM.out]; simp [e3]), grown_drewN _ _ none⟩
    · have e4 : (nl == nl') = false := by simpa using e2
      go_enter Try.func60, Try.ntmps60
      go_wp2_with fail
      go_quiet (fail)
      go_wp2
      go_ret
      exact ⟨ret_bool (by rw [hM.out]; simp [e2]), grown_drewN _ _ none⟩
  · have e4 : (th == th') = false := by simpa using e1
    go_enter Try.func60, Try.ntmps60
    go_wp2_with fail
    go_quiet (fail)
    go_wp2
    go_ret
    exact ⟨ret_bool (by rw [hM.out]; simp [e1]), grown_drewN _ _ none⟩
end Go.Proofs.Ythkbakaodbceiaa
