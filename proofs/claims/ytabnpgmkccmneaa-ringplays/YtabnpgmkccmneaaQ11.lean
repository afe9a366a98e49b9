/-
  RingPlays: a script that is too long, a bound that may not be.
-/
import Derived.Test.YtabnpgmkccmneaaQ10
import Derived.Test.YtabnpgmkccmneaaQ4
namespace Go.Proofs.Ytabnpgmkccmneaa
open Go.RowKit Go.Shelf
set_option linter.unusedVariables false

set_option maxRecDepth 100000 in
set_option maxHeartbeats 1000000 in
theorem ringPlays_long (w : World) (xo : Option Addr) (k cp : Nat) (N : Int) (hk : 60 < k) :
    Calls Try.prog 3 #[.int .i64 N, .slice xo k cp] w fun e w' => e = .returned (.bool true) ∧ w.grownBy w' none := by
  have d0 : decide (60 < k) = true := by simpa using hk
  go_enter Try.func3, Try.ntmps3
  go_wp2_with (go_at_call 6; refine (works_any _).mono ?_; rintro e w9 ⟨rfl, hg9⟩)
  go_ret
  exact ⟨rfl, hg9⟩

set_option maxRecDepth 100000 in
set_option maxHeartbeats 1000000 in
theorem ringPlays_bound (w : World) (xo : Option Addr) (k cp : Nat) (N : Int) (hk : ¬ 60 < k) (hN : N < 1 ∨ 256 < N) :
    Calls Try.prog 3 #[.int .i64 N, .slice xo k cp] w fun e w' => e = .returned (.bool true) ∧ w.grownBy w' none := by
  have d0 : decide (60 < k) = false := by simpa using hk
  by_cases h1 : N < 1
  · have d1 : decide (N < 1) = true := by simpa using h1
    go_enter Try.func3, Try.ntmps3
    go_wp2_with fail
    refine (Ri.new_no _ N hN).mono ?_
    rintro e w9 ⟨rfl, hw⟩
    subst hw
    go_wp2_with fail
    refine (num_any _ _).mono ?_
    rintro e w9 ⟨rfl, hw⟩
    subst hw
    go_wp2_with fail
    refine (works_any _).mono ?_
    rintro e w9 ⟨rfl, hg9⟩
    go_wp2_with fail
    go_ret
    exact ⟨rfl, hg9⟩
  · have d1 : decide (N < 1) = false := by simpa using h1
    have d2 : decide (N > 256) = true := by simp; omega
    go_enter Try.func3, Try.ntmps3
    go_wp2_with fail
    refine (Ri.new_no _ N hN).mono ?_
    rintro e w9 ⟨rfl, hw⟩
    subst hw
    go_wp2_with fail
    refine (num_any _ _).mono ?_
    rintro e w9 ⟨rfl, hw⟩
    subst hw
    go_wp2_with fail
    refine (works_any _).mono ?_
    rintro e w9 ⟨rfl, hg9⟩
    go_wp2_with fail
    go_ret
    exact ⟨rfl, hg9⟩

end Go.Proofs.Ytabnpgmkccmneaa
