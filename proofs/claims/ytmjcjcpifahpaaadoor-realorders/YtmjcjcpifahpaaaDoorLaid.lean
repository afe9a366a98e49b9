/-
  What the rows' list gives: the tables of math/bits and strconv lie in their variables; and a world for the witnesses.
-/
import Derived.Test.YtmjcjcpifahpaaaDoorG6
import Derived.ProofKit
import Derived.OpenShut
import Derived.Deep.DeepHandedRow
import Derived.Lib.LaidTab
import Derived.Stop.LaidErr
namespace Go.Proofs.YtmjcjcpifahpaaaDoor
open Go.ChangeShapes Go.WideShapes Go.ChangeAt Go.RowKit
set_option linter.unusedVariables false

theorem own : ownKnob Tryd.prog.godebug = none := by kernel_rfl
theorem laidOut : laidOutB Tryd.prog = true := by kernel_rfl
theorem gTab : Tryd.prog.globalNamed "math/bits.deBruijn64tab" = some 1 := by kernel_rfl
theorem gTabType : (Tryd.prog.globals[1]?).map (·.type) = some 92 := by kernel_rfl
theorem gPowType : (Tryd.prog.globals[2]?).map (·.type) = some 111 := by kernel_rfl
theorem cells92 : Tryd.prog.cellsOf 92 = 64 := by kernel_rfl
theorem cells111 : Tryd.prog.cellsOf 111 = 20 := by kernel_rfl
theorem cells5 : Tryd.prog.cellsOf 5 = 1 := by kernel_rfl
theorem cells55 : Tryd.prog.cellsOf 55 = 1 := by kernel_rfl

/-- The tables' numbers. -/
def tabZ : List Int := [0, 1, 56, 2, 57, 49, 28, 3, 61, 58, 42, 50, 38, 29, 17, 4, 62, 47, 59, 36, 45, 43, 51, 22, 53, 39, 33, 30, 24, 18, 12, 5, 63, 55, 48, 27, 60, 41, 37, 16, 46, 35, 44, 21, 52, 32, 23, 11, 54, 26, 40, 15, 34, 20, 31, 10, 25, 14, 19, 9, 13, 8, 7, 6]
def tab32 : List Int := [0, 1, 28, 2, 29, 14, 24, 3, 30, 22, 20, 15, 25, 17, 4, 8, 31, 27, 13, 23, 21, 19, 16, 7, 26, 12, 18, 6, 11, 5, 10, 9]
def tabP : List Int := [1, 10, 100, 1000, 10000, 100000, 1000000, 10000000, 100000000, 1000000000, 10000000000, 100000000000, 1000000000000, 10000000000000, 100000000000000, 1000000000000000, 10000000000000000, 100000000000000000, 1000000000000000000, 10000000000000000000]

theorem tab_z : ∀ j, j < 64 → tabZ.getD j 0 = ((Lib.deBruijn64tab.getD j 0 : Nat) : Int) := by decide +kernel
theorem tab_p : tabP = Lib.pow10Tab := by decide +kernel

theorem dt_of {W : World} (h : laidMetH Tryd.prog Rows.realLongRow.laid W) : Dt W := by
  have h1 : laidMet Tryd.prog [("math/bits.deBruijn32tab", Lib.tabData .u8 tab32), ("math/bits.deBruijn64tab", Lib.tabData .u8 tabZ), ("internal/strconv.uint64pow10", Lib.tabData .u64 tabP)] W := h
  have h2 := laidMet.tail h1
  have h3 := laidMet.tail h2
  have t1 := Lib.tabIs_of_head gTab gTabType Tryd.underlying92 Tryd.underlying5 cells5 cells92 h2
  have t2 := Lib.tabIs_of_head gPow gPowType Tryd.underlying111 Tryd.underlying55 cells55 cells111 h3
  refine ⟨fun j hj => ?_, by rw [← tab_p]; exact t2⟩
  have hl : j < tabZ.length := hj
  have hc := t1.cell gTab j hl
  rw [hc, tab_z j hj]

/-- A block whose cells are these. -/
def holding (cs : Array Value) : Obj → Obj
  | .cells _ t frozen => .cells cs t frozen
  | o => o
noncomputable def laidWorld (os : Os) : World :=
  { World.holding Tryd.prog os ⟨#[], #[], []⟩ with heap := (((World.holding Tryd.prog os ⟨#[], #[], []⟩).heap.modify 1 (holding (tabZ.map fun z => Value.int .u8 z).toArray)).modify 2 (holding (tabP.map fun z => Value.int .u64 z).toArray)).modify 3 (holding (tab32.map fun z => Value.int .u8 z).toArray) }
end Go.Proofs.YtmjcjcpifahpaaaDoor
