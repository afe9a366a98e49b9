/-
  What the rows' list gives: the variable of no spot; and a world for the witnesses.
-/
import Derived.Test.YtbnoemfhcpjdjaaDoorB1
import Derived.ProofKit
import Derived.OpenShut
import Derived.SizedLaws
import Derived.Deep.DeepHandedRow
import Derived.Lib.LaidTab
import Derived.Lib.SmallJoins
import Derived.Stop.LaidErr
namespace Go.Proofs.YtbnoemfhcpjdjaaDoor
open Go.ChangeShapes Go.WideShapes Go.ChangeAt Go.RowKit
set_option linter.unusedVariables false

theorem own : ownKnob Tryd.prog.godebug = none := by kernel_rfl
theorem laidOut : laidOutB Tryd.prog = true := by kernel_rfl
theorem gNone : Tryd.prog.globalNamed "millrace/index.none" = some 0 := by kernel_rfl
theorem gNoneType : (Tryd.prog.globals[0]?).map (·.type) = some 33 := by kernel_rfl
theorem cells33 : Tryd.prog.cellsOf 33 = 2 := by kernel_rfl
theorem cells2 : Tryd.prog.cellsOf 2 = 1 := by kernel_rfl
theorem cells3 : Tryd.prog.cellsOf 3 = 1 := by kernel_rfl

theorem dt_of {W : World} (h : laidMetH Tryd.prog Rows.indexNilRow.laid W) : Dt W := by
  have h1 : laidMet Tryd.prog [("millrace/index.none", .agg [.lit (.int .i64 (-1)), .lit (.int .i64 (-1))])] W := h
  obtain ⟨ps, ⟨g', t', cs, fuel, p, q, hg', ht', hvar, hd, _, _⟩, _⟩ := h1
  obtain rfl := Option.some.inj (gNone.symm.trans hg')
  obtain rfl := Option.some.inj (gNoneType.symm.trans ht')
  obtain ⟨y0, y1, n, hx, _, h0, h1⟩ := Go.ChangeShapes.trod_struct2 Tryd.underlying33 hd
  obtain ⟨z0, e0, rfl, _⟩ := DataW.trod_int Tryd.underlying2 h0
  obtain ⟨z1, e1, rfl, _⟩ := DataW.trod_int Tryd.underlying3 h1
  simp at hx
  obtain ⟨⟨rfl, rfl⟩, _⟩ := hx
  simp [cells2, cells3] at e0 e1
  have v0 := World.var?_cell gNone hvar 0
  have v1 := World.var?_cell gNone hvar 1
  have c0 : cs[0]? = some (.int .i64 (-1)) := by
    have := congrArg (·[0]?) e0
    simpa [List.getElem?_take] using this
  have c1 : cs[1]? = some (.int .i64 (-1)) := by
    have := congrArg (·[0]?) e1
    simpa [List.getElem?_take] using this
  exact ⟨v0.trans c0, v1.trans c1⟩

/-- A block whose cells are these. -/
def holding (cs : Array Value) : Obj → Obj
  | .cells _ t frozen => .cells cs t frozen
  | o => o
noncomputable def laidWorld (os : Os) : World :=
  { World.holding Tryd.prog os ⟨#[], #[], []⟩ with heap := (World.holding Tryd.prog os ⟨#[], #[], []⟩).heap.modify 0 (holding #[.int .i64 (-1), .int .i64 (-1)]) }
end Go.Proofs.YtbnoemfhcpjdjaaDoor
