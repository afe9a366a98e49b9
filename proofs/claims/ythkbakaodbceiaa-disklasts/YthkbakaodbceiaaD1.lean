/-
  A disk that is not there (nil, or a zero one): what each call answers.
-/
import Derived.Test.YthkbakaodbceiaaV
import Derived.Test.YthkbakaodbceiaaRows
import Derived.Deep.QuietTactic
import Derived.BigQuiet
import Derived.Lib.MinMax
namespace Go.Proofs.Ythkbakaodbceiaa
open Go.RowKit
set_option linter.unusedVariables false

/-- A disk that is not there: nil, or one without a map of files. -/
def No (w : World) (p : Option Addr) : Prop := p = none ∨ ∃ b, p = some ⟨b, 0, none⟩ ∧ w.cell? ⟨b, 0, none⟩ = some (.map none)

theorem No.grown {w w' : World} {p : Option Addr} (h : No w p) (hg : w.grownBy w' none) : No w' p := by
  rcases h with h | ⟨b, h, hc⟩
  · exact .inl h
  · exact .inr ⟨b, h, hg.cell hc (by simp)⟩

set_option maxRecDepth 100000 in
theorem made_no (w : World) (p : Option Addr) (h : No w p) : Calls Try.prog 44 #[.pointer p] w fun e w' => e = .returned (.bool false) ∧ w' = w := by
  have q81 : ∀ (w : World) (r : Option Nat), (binOp .neq 81 (.map r) (.map none)).run Try.prog w = .ok (.bool (!r.isNone)) w := fun w r => run_neq_map_nil w _ _ _ r Try.underlying81
  rcases h with rfl | ⟨b, rfl, hc⟩
  · go_enter Try.func44, Try.ntmps44
    go_wp2
    go_ret
    exact ⟨rfl, rfl⟩
  · go_enter Try.func44, Try.ntmps44
    go_wp2
    go_ret
    exact ⟨rfl, rfl⟩

set_option maxRecDepth 100000 in
theorem made_yes (w : World) (b m : Nat) (hc : w.cell? ⟨b, 0, none⟩ = some (.map (some m))) : Calls Try.prog 44 #[.pointer (some ⟨b, 0, none⟩)] w fun e w' => e = .returned (.bool true) ∧ w' = w := by
  have q81 : ∀ (w : World) (r : Option Nat), (binOp .neq 81 (.map r) (.map none)).run Try.prog w = .ok (.bool (!r.isNone)) w := fun w r => run_neq_map_nil w _ _ _ r Try.underlying81
  go_enter Try.func44, Try.ntmps44
  go_wp2
  go_ret
  exact ⟨rfl, rfl⟩

set_option maxRecDepth 100000 in
theorem known_no (w : World) (p : Option Addr) (s : ByteArray) (h : No w p) : Calls Try.prog 47 #[.pointer p, .string s] w fun e w' => e = .returned (.tuple #[.pointer none, .int .i64 1]) ∧ w' = w := by
  go_enter Try.func47, Try.ntmps47
  go_wp2_with fail
  refine (made_no _ _ h).mono ?_
  rintro e w1 ⟨rfl, rfl⟩
  go_wp2
  go_ret2
  exact ⟨rfl, rfl⟩

set_option maxRecDepth 100000 in
theorem find_no (w : World) (p : Option Addr) (s : ByteArray) (h : No w p) : Calls Try.prog 52 #[.pointer p, .string s] w fun e w' => e = .returned (.tuple #[.pointer none, .int .i64 1]) ∧ w' = w := by
  go_enter Try.func52, Try.ntmps52
  go_wp2_with fail
  refine (known_no _ _ _ h).mono ?_
  rintro e w1 ⟨rfl, rfl⟩
  go_wp2
  go_ret2
  exact ⟨rfl, rfl⟩
end Go.Proofs.Ythkbakaodbceiaa
