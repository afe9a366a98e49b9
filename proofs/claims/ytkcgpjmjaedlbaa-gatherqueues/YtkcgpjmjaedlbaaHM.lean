/-
  Offsets and plans as lists of numbers.
-/
import Derived.Test.YtkcgpjmjaedlbaaM9
namespace Go.Proofs.Ytkcgpjmjaedlbaa
open Go.RowKit
set_option linter.unusedVariables false

theorem offL_map (base : Int) (L : List Rl) (n : Nat) : offL base L n = ((List.range n).map fun i => base + ((flat (L.take i)).length : Nat)).map fun z => Value.int .i64 z := by
  unfold offL
  rw [List.map_map]
  rfl
theorem iv_map (ps : List Nat) : ps.map iv = (ps.map fun (k : Nat) => (k : Int)).map fun z => Value.int .i64 z := by
  rw [List.map_map]
  rfl

end Go.Proofs.Ytkcgpjmjaedlbaa
