/-
  NARROWER THAN 'FOR EVERY INPUT', by the rows' own cells (each row's printed sentence says how): IndexPlay: laid · IndexRead: laid · IndexNear: laid · IndexNil: laid · IndexCuts: laid.
  DERIVED. THE GIVEN ROWS OF THIS SEAT. 5 by the template 'for every input the law returns true; each argument reads behind the call as it read before'; 0 by the template 'total and deterministic' (their statements: YtbnoemfhcpjdjaaDoorTotals.lean).
  GIVEN WITH THE SEED: the statements are not yours to turn. If you find one false, say at which input.
  Laid BY PROGRAM, IN A SANDBOX (cutbox-rows.mjs): the forced cells as the released guide's own fill.sh prints them over the translation ba347e702dec3fde… (all of the seat's roots in one cut). By AI agents, Wed Nov 11 2026. No macro, syntax, notation, axiom, sorry.
-/
import Derived.Test.YtbnoemfhcpjdjaaDoorChecked
import GoSem.Claim
import GoSem.ClaimJoined
import GoSem.ClaimMapViews
import Derived.JoinedTies
import Derived.KernelRfl
namespace Go.Proofs.YtbnoemfhcpjdjaaDoor
/- THE CELL 'sum', in the pinned program and in every row, IS THE sha256 OF THE DUMP (.gsa) THAT YtbnoemfhcpjdjaaDoorProg.lean LOADS. Nothing in Lean hashes anything: it is a label: what it is worth is what the hold of that sum in a sandbox is worth. -/
noncomputable def Tryd.pinned : Pinned := { name := "ytbnoemfhcpjdjaadoor", sum := "ba347e702dec3fded119458d11474e41276386a05b4c1278b4eba43574b461aa", checked := Tryd.checked }
namespace Rows
def none {H : Type} : Left H := { results := [], args := [] }

/- WHAT THE LISTED PACKAGE-LEVEL VARIABLES READ AS WHEN THE CALL BEGINS. Each datum BY PROGRAM (the guide's laid-datum.mjs) off the statement by which the dump's own 'gosem.cut.vars' lays the variable. In a bare row this is a premise. The card (YtbnoemfhcpjdjaaDoorCards.lean) ties it to the program's text. -/
def laid_millrace_index_none {H : Type} : DataW H := .agg [.lit (.int .i64 (-1)), .lit (.int .i64 (-1))]

/-- 'millracelaw09.IndexPlay': WHATEVER THE INPUT: true; the input reads as it did. -/
def indexPlaySpec : ChangeSpec := { name := "indexPlay", fn := fun _ => fun
  | [d1, d2] => { results := [.lit (.bool true)], args := [d1, d2] }
  | _ => none }
def indexPlayRow : OpenClaim := { program := "ytbnoemfhcpjdjaadoor", sum := "ba347e702dec3fded119458d11474e41276386a05b4c1278b4eba43574b461aa", func := "millrace/millracelaw09.IndexPlay", spec := "indexPlay", unfollowed := true, recurses := true, named := ["millrace/index.none"], apart := false, laid := [("millrace/index.none", laid_millrace_index_none)] }
def IndexPlaySaid : Prop := indexPlayRow.holds Tryd.pinned (OpenSpec.ofChange indexPlaySpec)

/-- ITS FALSE NEIGHBOUR: 'it returns false'. Refute it at one input. -/
def indexPlayWrong : ChangeSpec := { name := "indexPlay", fn := fun _ => fun
  | [d1, d2] => { results := [.lit (.bool false)], args := [d1, d2] }
  | _ => none }
def IndexPlayWrongFalsely : Prop := indexPlayRow.holds Tryd.pinned (OpenSpec.ofChange indexPlayWrong)

/-- 'millracelaw09.IndexRead': WHATEVER THE INPUT: true; the input reads as it did. -/
def indexReadSpec : ChangeSpec := { name := "indexRead", fn := fun _ => fun
  | [d] => { results := [.lit (.bool true)], args := [d] }
  | _ => none }
def indexReadRow : OpenClaim := { program := "ytbnoemfhcpjdjaadoor", sum := "ba347e702dec3fded119458d11474e41276386a05b4c1278b4eba43574b461aa", func := "millrace/millracelaw09.IndexRead", spec := "indexRead", unfollowed := true, recurses := true, named := ["millrace/index.none"], apart := false, laid := [("millrace/index.none", laid_millrace_index_none)] }
def IndexReadSaid : Prop := indexReadRow.holds Tryd.pinned (OpenSpec.ofChange indexReadSpec)

/-- ITS FALSE NEIGHBOUR: 'it returns false'. Refute it at one input. -/
def indexReadWrong : ChangeSpec := { name := "indexRead", fn := fun _ => fun
  | [d] => { results := [.lit (.bool false)], args := [d] }
  | _ => none }
def IndexReadWrongFalsely : Prop := indexReadRow.holds Tryd.pinned (OpenSpec.ofChange indexReadWrong)

/-- 'millracelaw09.IndexNear': WHATEVER THE INPUT: true; the input reads as it did. -/
def indexNearSpec : ChangeSpec := { name := "indexNear", fn := fun _ => fun
  | [d1, d2, d3] => { results := [.lit (.bool true)], args := [d1, d2, d3] }
  | _ => none }
def indexNearRow : OpenClaim := { program := "ytbnoemfhcpjdjaadoor", sum := "ba347e702dec3fded119458d11474e41276386a05b4c1278b4eba43574b461aa", func := "millrace/millracelaw09.IndexNear", spec := "indexNear", unfollowed := true, recurses := true, named := ["millrace/index.none"], apart := false, laid := [("millrace/index.none", laid_millrace_index_none)] }
def IndexNearSaid : Prop := indexNearRow.holds Tryd.pinned (OpenSpec.ofChange indexNearSpec)

/-- ITS FALSE NEIGHBOUR: 'it returns false'. Refute it at one input. -/
def indexNearWrong : ChangeSpec := { name := "indexNear", fn := fun _ => fun
  | [d1, d2, d3] => { results := [.lit (.bool false)], args := [d1, d2, d3] }
  | _ => none }
def IndexNearWrongFalsely : Prop := indexNearRow.holds Tryd.pinned (OpenSpec.ofChange indexNearWrong)

/-- 'millracelaw09.IndexNil': WHATEVER THE INPUT: true; the input reads as it did. -/
def indexNilSpec : ChangeSpec := { name := "indexNil", fn := fun _ => fun
  | [d1, d2] => { results := [.lit (.bool true)], args := [d1, d2] }
  | _ => none }
def indexNilRow : OpenClaim := { program := "ytbnoemfhcpjdjaadoor", sum := "ba347e702dec3fded119458d11474e41276386a05b4c1278b4eba43574b461aa", func := "millrace/millracelaw09.IndexNil", spec := "indexNil", unfollowed := true, recurses := true, named := ["millrace/index.none"], apart := false, laid := [("millrace/index.none", laid_millrace_index_none)] }
def IndexNilSaid : Prop := indexNilRow.holds Tryd.pinned (OpenSpec.ofChange indexNilSpec)

/-- ITS FALSE NEIGHBOUR: 'it returns false'. Refute it at one input. -/
def indexNilWrong : ChangeSpec := { name := "indexNil", fn := fun _ => fun
  | [d1, d2] => { results := [.lit (.bool false)], args := [d1, d2] }
  | _ => none }
def IndexNilWrongFalsely : Prop := indexNilRow.holds Tryd.pinned (OpenSpec.ofChange indexNilWrong)

/-- 'millracelaw09.IndexCuts': WHATEVER THE INPUT: true; the input reads as it did. -/
def indexCutsSpec : ChangeSpec := { name := "indexCuts", fn := fun _ => fun
  | [d1, d2, d3] => { results := [.lit (.bool true)], args := [d1, d2, d3] }
  | _ => none }
def indexCutsRow : OpenClaim := { program := "ytbnoemfhcpjdjaadoor", sum := "ba347e702dec3fded119458d11474e41276386a05b4c1278b4eba43574b461aa", func := "millrace/millracelaw09.IndexCuts", spec := "indexCuts", unfollowed := true, recurses := true, named := ["millrace/index.none"], apart := false, laid := [("millrace/index.none", laid_millrace_index_none)] }
def IndexCutsSaid : Prop := indexCutsRow.holds Tryd.pinned (OpenSpec.ofChange indexCutsSpec)

/-- ITS FALSE NEIGHBOUR: 'it returns false'. Refute it at one input. -/
def indexCutsWrong : ChangeSpec := { name := "indexCuts", fn := fun _ => fun
  | [d1, d2, d3] => { results := [.lit (.bool false)], args := [d1, d2, d3] }
  | _ => none }
def IndexCutsWrongFalsely : Prop := indexCutsRow.holds Tryd.pinned (OpenSpec.ofChange indexCutsWrong)

/- THE SECOND FORM. 'bulk': how many values and letters a reading holds, each counted each time it is reached (what is shared counts as often as it is met; a slice's spare places count too). A statement '..UptoSaid' is the law's where the arguments, and the package variables that the reading takes, are together of bulk at most 1048576: NARROWER than '..Said'. Prove '..Said' where nothing that the law and all that it calls make is longer than what came in: it says more and counts as full. Else prove '..UptoSaid'. A law counts once. -/
mutual
def uptoBulk {H : Type} : DataW H → Nat
  | .lit (.string bytes) => bytes.length + 1
  | .lit _ => 1
  | .nil => 1
  | .ptr d => uptoBulk d + 1
  | .slice elems spare => uptoBulkAll elems + uptoBulkAll spare + 1
  | .agg parts => uptoBulkAll parts + 1
  | .iface _ d => uptoBulk d + 1
  | .map entries => uptoBulkEntries entries + 1
  | .held _ => 1
def uptoBulkAll {H : Type} : List (DataW H) → Nat
  | [] => 0
  | d :: r => uptoBulk d + uptoBulkAll r
def uptoBulkEntries {H : Type} : List (Lit × DataW H) → Nat
  | [] => 0
  | x :: r => uptoBulkEntry x + uptoBulkEntries r
def uptoBulkEntry {H : Type} : Lit × DataW H → Nat
  | (.string bytes, d) => bytes.length + uptoBulk d + 1
  | (_, d) => uptoBulk d + 1
 end
def uptoSmall : (H : Type) → List (DataW H) → Bool := fun _ ds => decide (uptoBulkAll ds ≤ 1048576)
def OpenSpec.upto (s : _root_.Go.ChangeSpec) : _root_.Go.OpenSpec := { _root_.Go.OpenSpec.ofChange s with cond := some uptoSmall }

/-- 'millracelaw09.IndexPlay', WHERE WHAT IT READS IS OF BULK AT MOST 1048576: true; the input reads as it did. -/
def indexPlayUptoRow : OpenClaim := { program := "ytbnoemfhcpjdjaadoor", sum := "ba347e702dec3fded119458d11474e41276386a05b4c1278b4eba43574b461aa", func := "millrace/millracelaw09.IndexPlay", spec := "indexPlay", unfollowed := true, recurses := true, named := ["millrace/index.none"], apart := false, laid := [("millrace/index.none", laid_millrace_index_none)], narrowed := true }
def IndexPlayUptoSaid : Prop := indexPlayUptoRow.holds Tryd.pinned (OpenSpec.upto indexPlaySpec)

/-- 'millracelaw09.IndexRead', WHERE WHAT IT READS IS OF BULK AT MOST 1048576: true; the input reads as it did. -/
def indexReadUptoRow : OpenClaim := { program := "ytbnoemfhcpjdjaadoor", sum := "ba347e702dec3fded119458d11474e41276386a05b4c1278b4eba43574b461aa", func := "millrace/millracelaw09.IndexRead", spec := "indexRead", unfollowed := true, recurses := true, named := ["millrace/index.none"], apart := false, laid := [("millrace/index.none", laid_millrace_index_none)], narrowed := true }
def IndexReadUptoSaid : Prop := indexReadUptoRow.holds Tryd.pinned (OpenSpec.upto indexReadSpec)

/-- 'millracelaw09.IndexNear', WHERE WHAT IT READS IS OF BULK AT MOST 1048576: true; the input reads as it did. -/
def indexNearUptoRow : OpenClaim := { program := "ytbnoemfhcpjdjaadoor", sum := "ba347e702dec3fded119458d11474e41276386a05b4c1278b4eba43574b461aa", func := "millrace/millracelaw09.IndexNear", spec := "indexNear", unfollowed := true, recurses := true, named := ["millrace/index.none"], apart := false, laid := [("millrace/index.none", laid_millrace_index_none)], narrowed := true }
def IndexNearUptoSaid : Prop := indexNearUptoRow.holds Tryd.pinned (OpenSpec.upto indexNearSpec)

/-- 'millracelaw09.IndexNil', WHERE WHAT IT READS IS OF BULK AT MOST 1048576: true; the input reads as it did. -/
def indexNilUptoRow : OpenClaim := { program := "ytbnoemfhcpjdjaadoor", sum := "ba347e702dec3fded119458d11474e41276386a05b4c1278b4eba43574b461aa", func := "millrace/millracelaw09.IndexNil", spec := "indexNil", unfollowed := true, recurses := true, named := ["millrace/index.none"], apart := false, laid := [("millrace/index.none", laid_millrace_index_none)], narrowed := true }
def IndexNilUptoSaid : Prop := indexNilUptoRow.holds Tryd.pinned (OpenSpec.upto indexNilSpec)

/-- 'millracelaw09.IndexCuts', WHERE WHAT IT READS IS OF BULK AT MOST 1048576: true; the input reads as it did. -/
def indexCutsUptoRow : OpenClaim := { program := "ytbnoemfhcpjdjaadoor", sum := "ba347e702dec3fded119458d11474e41276386a05b4c1278b4eba43574b461aa", func := "millrace/millracelaw09.IndexCuts", spec := "indexCuts", unfollowed := true, recurses := true, named := ["millrace/index.none"], apart := false, laid := [("millrace/index.none", laid_millrace_index_none)], narrowed := true }
def IndexCutsUptoSaid : Prop := indexCutsUptoRow.holds Tryd.pinned (OpenSpec.upto indexCutsSpec)

end Rows
end Go.Proofs.YtbnoemfhcpjdjaaDoor
