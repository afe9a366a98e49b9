import Derived.Test.YthkbakaodbceiaaV
import Derived.Test.YthkbakaodbceiaaRows
import Derived.Deep.QuietTactic
import Derived.BigQuiet
import Derived.Lib.MinMax
/-
  A disk that is not there (nil, or a zero one): what each call answers.
-/
namespace Go.Proofs.Ythkbakaodbceiaa
open Go.RowKit
set_option linter.unusedVariables false

/-- A disk that is not there: nil, or one without a map of files. -/
def No (w : World) (p : Option Addr) : Prop := p = none ∨ ∃ b, p = some ⟨b, 0, none⟩ ∧ w.cell? ⟨b, 0, none⟩ = some (.map none)

theorem No.grown {w w' : World} {p : Option Addr} (h : No w p) (hg : w.grownBy w' none) : No w' p := by
  rcases h with h | ⟨b, h, hc⟩
  · exact .inl h
  · exact .inr ⟨b, h, hg.cell hc (by simp)⟩

set_option maxRecDepth 100000 in
theorem made_yes (w : World) (b m : Nat) (hc : w.cell? ⟨b, 0, none⟩ = some (.map (some m))) : Calls Try.prog 44 #[.pointer (some ⟨b, 0, none⟩)] w fun e w' => e = .returned (.bool true) ∧ w' = w := by
  have q81 : ∀ (w : World) (r : Option Nat), (binOp .neq 81 (.map r) (.map none)).run Try.prog w = .ok (.bool (!r.isNone)) w := fun w r => run_neq_map_nil w _ _ _ r Try.underlying81
  go_enter Try.func44, Try.ntmps44
  go_wp2
  go_ret
  exact ⟨rfl, rfl⟩

end Go.Proofs.Ythkbakaodbceiaa

/-
  A disk that is not there: the calls.
-/
namespace Go.Proofs.Ythkbakaodbceiaa
open Go.RowKit
set_option linter.unusedVariables false

end Go.Proofs.Ythkbakaodbceiaa
