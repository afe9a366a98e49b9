/-
  StopsNumbers: the walk.
-/
import Derived.Test.YtgkeflgfnagnjaaUG
namespace Go.Proofs.Ytgkeflgfnagnjaa
open Go.RowKit
set_option linter.unusedVariables false
set_option maxRecDepth 100000

end Go.Proofs.Ytgkeflgfnagnjaa
