/-
  The document's Bytes: are two rows of bytes the same?
-/
import Derived.Test.YtlfgikhjcimppaaE1
namespace Go.Proofs.Ytlfgikhjcimppaa
open Go.RowKit
set_option linter.unusedVariables false


set_option maxHeartbeats 400000 in
theorem rbytes_any (w : World) (ao bo : Option Addr) (n m c d : Nat) (l k : List UInt8) (ha : Bs w ao n c l) (hb : Bs w bo m d k) :
    Calls Try.prog 16 #[.slice ao n c, .slice bo m d] w fun e w' => e = .returned (.bool (l == k)) ∧ w' = w := by
  have h1 := run_string_bs (P := Try.prog) w 31 9 5 Try.underlying31 Try.underlying5 Try.underlying9 ha
  have h2 := run_string_bs (P := Try.prog) w 31 9 5 Try.underlying31 Try.underlying5 Try.underlying9 hb
  go_enter Try.func16, Try.ntmps16
  go_wp2
  go_ret
  exact ⟨rfl, rfl⟩
end Go.Proofs.Ytlfgikhjcimppaa
