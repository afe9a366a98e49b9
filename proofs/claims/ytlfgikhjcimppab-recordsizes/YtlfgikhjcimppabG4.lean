/-
  RecordChanged: the walk.
-/
import Derived.Test.YtlfgikhjcimppabG1
import Derived.Test.YtlfgikhjcimppabD4
import Derived.Test.YtlfgikhjcimppabE8
namespace Go.Proofs.Ytlfgikhjcimppab
open Go.RowKit
set_option linter.unusedVariables false

theorem Rs.none (w : World) : Rs w none 0 0 [] := ⟨rfl, Nat.le_refl _, by omega, fun _ => rfl, fun a ha => (by cases ha), fun b o ha => (by cases ha), fun r hr => (by cases hr)⟩
end Go.Proofs.Ytlfgikhjcimppab
