/-
  A disk that is not there: File, Crash, Same; an empty disk, New of no fates.
-/
import Derived.Test.YthkbakaodbceiaaD2
namespace Go.Proofs.Ythkbakaodbceiaa
open Go.RowKit
set_option linter.unusedVariables false

/-- A disk that is there: its map of files. -/
def Is (w : World) (p : Option Addr) : Prop := ∃ b m, p = some ⟨b, 0, none⟩ ∧ w.cell? ⟨b, 0, none⟩ = some (.map (some m))

set_option maxRecDepth 100000 in
theorem same_no (w : World) (p q : Option Addr) (hp : No w p) (hq : No w q) : Calls Try.prog 36 #[.pointer p, .pointer q] w fun e w' => e = .returned (.bool true) ∧ w' = w := by
  go_enter Try.func36, Try.ntmps36
  go_wp2_with fail
  refine (made_no _ _ hp).mono ?_
  rintro e w1 ⟨rfl, rfl⟩
  go_wp2_with fail
  refine (made_no _ _ hp).mono ?_
  rintro e w1 ⟨rfl, rfl⟩
  go_wp2_with fail
  refine (made_no _ _ hq).mono ?_
  rintro e w1 ⟨rfl, rfl⟩
  go_wp2
  go_ret
  exact ⟨rfl, rfl⟩

set_option maxRecDepth 100000 in
theorem same_no_yes (w : World) (p : Option Addr) (b m : Nat) (hp : No w p) (hq : w.cell? ⟨b, 0, none⟩ = some (.map (some m))) : Calls Try.prog 36 #[.pointer p, .pointer (some ⟨b, 0, none⟩)] w fun e w' => e = .returned (.bool false) ∧ w' = w := by
  go_enter Try.func36, Try.ntmps36
  go_wp2_with fail
  refine (made_no _ _ hp).mono ?_
  rintro e w1 ⟨rfl, rfl⟩
  go_wp2_with fail
  refine (made_no _ _ hp).mono ?_
  rintro e w1 ⟨rfl, rfl⟩
  go_wp2_with fail
  refine (made_yes _ _ _ hq).mono ?_
  rintro e w1 ⟨rfl, rfl⟩
  go_wp2
  go_ret
  exact ⟨rfl, rfl⟩

set_option maxRecDepth 100000 in
theorem same_yes_no (w : World) (p : Option Addr) (b m : Nat) (hp : No w p) (hq : w.cell? ⟨b, 0, none⟩ = some (.map (some m))) : Calls Try.prog 36 #[.pointer (some ⟨b, 0, none⟩), .pointer p] w fun e w' => e = .returned (.bool false) ∧ w' = w := by
  go_enter Try.func36, Try.ntmps36
  go_wp2_with fail
  refine (made_yes _ _ _ hq).mono ?_
  rintro e w1 ⟨rfl, rfl⟩
  go_wp2_with fail
  refine (made_no _ _ hp).mono ?_
  rintro e w1 ⟨rfl, rfl⟩
  go_wp2_with fail
  refine (made_yes _ _ _ hq).mono ?_
  rintro e w1 ⟨rfl, rfl⟩
  go_wp2_with fail
  refine (made_no _ _ hp).mono ?_
  rintro e w1 ⟨rfl, rfl⟩
  go_wp2
  go_ret
  exact ⟨rfl, rfl⟩
end Go.Proofs.Ythkbakaodbceiaa
