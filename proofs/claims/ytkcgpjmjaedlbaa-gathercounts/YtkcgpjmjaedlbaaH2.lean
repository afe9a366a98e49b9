/-
  GatherCounts: the walk.
-/
import Derived.Test.YtkcgpjmjaedlbaaHA
import Derived.Test.YtkcgpjmjaedlbaaHB
import Derived.Test.YtkcgpjmjaedlbaaHC
namespace Go.Proofs.Ytkcgpjmjaedlbaa
open Go.RowKit
set_option linter.unusedVariables false

theorem gatherCounts_any (w : World) (take base : Int) (ao : Option Addr) (n cap : Nat) (L : List Rl) (ha : Ls w ao n cap L) (hb1 : -9223372036854775808 ≤ base) (hb2 : base < 9223372036854775808) :
    Calls Try.prog 3 #[.int .i64 take, .int .i64 base, .slice ao n cap] w fun e w' => e = .returned (.bool true) ∧ w.grownBy w' none := by
  by_cases h : lref L = 0
  · by_cases hf : Fit L
    · exact gatherCounts_fit w take base ao n cap L ha hb1 hb2 ⟨h, hf⟩
    · exact gatherCounts_over w take base ao n cap L ha hb1 hb2 ⟨h, hf⟩
  · exact gatherCounts_bad w take base ao n cap L ha hb1 hb2 h
end Go.Proofs.Ytkcgpjmjaedlbaa
