/-
  NARROWER THAN 'FOR EVERY INPUT', by the rows' own cells (each row's printed sentence says how): SegmentPlay: laid · SegmentCrash: laid · SegmentNil: laid · SegmentReads: laid.
  DERIVED. THE GIVEN ROWS OF THIS SEAT. 4 by the template 'for every input the law returns true; each argument reads behind the call as it read before'; 0 by the template 'total and deterministic' (their statements: YtlghcboenkglnaaGreatDoorTotals.lean).
  GIVEN WITH THE SEED: the statements are not yours to turn. If you find one false, say at which input.
  Laid BY PROGRAM, IN A SANDBOX (cutbox-rows.mjs): the forced cells as the released guide's own fill.sh prints them over the translation 9db36142043395bc… (all of the seat's roots in one cut). By AI agents, Wed Nov 11 2026. No macro, syntax, notation, axiom, sorry.
-/
import Derived.Test.YtlghcboenkglnaaGreatDoorChecked
import GoSem.Claim
import GoSem.ClaimJoined
import GoSem.ClaimMapViews
import Derived.JoinedTies
import Derived.KernelRfl
namespace Go.Proofs.YtlghcboenkglnaaGreatDoor
/- THE CELL 'sum', in the pinned program and in every row, IS THE sha256 OF THE DUMP (.gsa) THAT YtlghcboenkglnaaGreatDoorProg.lean LOADS. Nothing in Lean hashes anything: it is a label: what it is worth is what the hold of that sum in a sandbox is worth. -/
noncomputable def Tryz.pinned : Pinned := { name := "ytlghcboenkglnaagreatdoor", sum := "9db36142043395bc891dec17cd3f4fa70a6457abe2ce8a81c68eec8976f1be21", checked := Tryz.checked }
namespace Rows
def none {H : Type} : Left H := { results := [], args := [] }

/- WHAT THE LISTED PACKAGE-LEVEL VARIABLES READ AS WHEN THE CALL BEGINS. Each datum BY PROGRAM (the guide's laid-datum.mjs) off the statement by which the dump's own 'gosem.cut.vars' lays the variable. In a bare row this is a premise. The card (YtlghcboenkglnaaGreatDoorCards.lean) ties it to the program's text. -/
def laid_millrace_index_none {H : Type} : DataW H := .agg [.lit (.int .i64 (-1)), .lit (.int .i64 (-1))]

/-- 'millracelaw10.SegmentPlay': WHATEVER THE INPUT: true; the input reads as it did. -/
def segmentPlaySpec : ChangeSpec := { name := "segmentPlay", fn := fun _ => fun
  | [d] => { results := [.lit (.bool true)], args := [d] }
  | _ => none }
def segmentPlayRow : OpenClaim := { program := "ytlghcboenkglnaagreatdoor", sum := "9db36142043395bc891dec17cd3f4fa70a6457abe2ce8a81c68eec8976f1be21", func := "millrace/millracelaw10.SegmentPlay", spec := "segmentPlay", inPlace := ["internal/bytealg.IndexByteString", "internal/bytealg.IndexString"], unfollowed := true, recurses := true, named := ["internal/bytealg.MaxLen", "millrace/index.none"], apart := false, laid := [("millrace/index.none", laid_millrace_index_none)] }
def SegmentPlaySaid : Prop := segmentPlayRow.holds Tryz.pinned (OpenSpec.ofChange segmentPlaySpec)

/-- ITS FALSE NEIGHBOUR: 'it returns false'. Refute it at one input. -/
def segmentPlayWrong : ChangeSpec := { name := "segmentPlay", fn := fun _ => fun
  | [d] => { results := [.lit (.bool false)], args := [d] }
  | _ => none }
def SegmentPlayWrongFalsely : Prop := segmentPlayRow.holds Tryz.pinned (OpenSpec.ofChange segmentPlayWrong)

/-- 'millracelaw10.SegmentCrash': WHATEVER THE INPUT: true; the input reads as it did. -/
def segmentCrashSpec : ChangeSpec := { name := "segmentCrash", fn := fun _ => fun
  | [d] => { results := [.lit (.bool true)], args := [d] }
  | _ => none }
def segmentCrashRow : OpenClaim := { program := "ytlghcboenkglnaagreatdoor", sum := "9db36142043395bc891dec17cd3f4fa70a6457abe2ce8a81c68eec8976f1be21", func := "millrace/millracelaw10.SegmentCrash", spec := "segmentCrash", inPlace := ["internal/bytealg.IndexByteString", "internal/bytealg.IndexString"], unfollowed := true, recurses := true, named := ["internal/bytealg.MaxLen", "millrace/index.none"], apart := false, laid := [("millrace/index.none", laid_millrace_index_none)] }
def SegmentCrashSaid : Prop := segmentCrashRow.holds Tryz.pinned (OpenSpec.ofChange segmentCrashSpec)

/-- ITS FALSE NEIGHBOUR: 'it returns false'. Refute it at one input. -/
def segmentCrashWrong : ChangeSpec := { name := "segmentCrash", fn := fun _ => fun
  | [d] => { results := [.lit (.bool false)], args := [d] }
  | _ => none }
def SegmentCrashWrongFalsely : Prop := segmentCrashRow.holds Tryz.pinned (OpenSpec.ofChange segmentCrashWrong)

/-- 'millracelaw10.SegmentNil': WHATEVER THE INPUT: true; the input reads as it did. -/
def segmentNilSpec : ChangeSpec := { name := "segmentNil", fn := fun _ => fun
  | [d1, d2, d3] => { results := [.lit (.bool true)], args := [d1, d2, d3] }
  | _ => none }
def segmentNilRow : OpenClaim := { program := "ytlghcboenkglnaagreatdoor", sum := "9db36142043395bc891dec17cd3f4fa70a6457abe2ce8a81c68eec8976f1be21", func := "millrace/millracelaw10.SegmentNil", spec := "segmentNil", inPlace := ["internal/bytealg.IndexByteString", "internal/bytealg.IndexString"], unfollowed := true, recurses := true, named := ["internal/bytealg.MaxLen", "millrace/index.none"], apart := false, laid := [("millrace/index.none", laid_millrace_index_none)] }
def SegmentNilSaid : Prop := segmentNilRow.holds Tryz.pinned (OpenSpec.ofChange segmentNilSpec)

/-- ITS FALSE NEIGHBOUR: 'it returns false'. Refute it at one input. -/
def segmentNilWrong : ChangeSpec := { name := "segmentNil", fn := fun _ => fun
  | [d1, d2, d3] => { results := [.lit (.bool false)], args := [d1, d2, d3] }
  | _ => none }
def SegmentNilWrongFalsely : Prop := segmentNilRow.holds Tryz.pinned (OpenSpec.ofChange segmentNilWrong)

/-- 'millracelaw10.SegmentReads': WHATEVER THE INPUT: true; the input reads as it did. -/
def segmentReadsSpec : ChangeSpec := { name := "segmentReads", fn := fun _ => fun
  | [d] => { results := [.lit (.bool true)], args := [d] }
  | _ => none }
def segmentReadsRow : OpenClaim := { program := "ytlghcboenkglnaagreatdoor", sum := "9db36142043395bc891dec17cd3f4fa70a6457abe2ce8a81c68eec8976f1be21", func := "millrace/millracelaw10.SegmentReads", spec := "segmentReads", inPlace := ["internal/bytealg.IndexByteString", "internal/bytealg.IndexString"], unfollowed := true, recurses := true, named := ["internal/bytealg.MaxLen", "millrace/index.none"], apart := false, laid := [("millrace/index.none", laid_millrace_index_none)] }
def SegmentReadsSaid : Prop := segmentReadsRow.holds Tryz.pinned (OpenSpec.ofChange segmentReadsSpec)

/-- ITS FALSE NEIGHBOUR: 'it returns false'. Refute it at one input. -/
def segmentReadsWrong : ChangeSpec := { name := "segmentReads", fn := fun _ => fun
  | [d] => { results := [.lit (.bool false)], args := [d] }
  | _ => none }
def SegmentReadsWrongFalsely : Prop := segmentReadsRow.holds Tryz.pinned (OpenSpec.ofChange segmentReadsWrong)

/- THE SECOND FORM. 'bulk': how many values and letters a reading holds, each counted each time it is reached (what is shared counts as often as it is met; a slice's spare places count too). A statement '..UptoSaid' is the law's where the arguments, and the package variables that the reading takes, are together of bulk at most 1048576: NARROWER than '..Said'. Prove '..Said' where nothing that the law and all that it calls make is longer than what came in: it says more and counts as full. Else prove '..UptoSaid'. A law counts once. -/
mutual
def uptoBulk {H : Type} : DataW H → Nat
  | .lit (.string bytes) => bytes.length + 1
  | .lit _ => 1
  | .nil => 1
  | .ptr d => uptoBulk d + 1
  | .slice elems spare => uptoBulkAll elems + uptoBulkAll spare + 1
  | .agg parts => uptoBulkAll parts + 1
  | .iface _ d => uptoBulk d + 1
  | .map entries => uptoBulkEntries entries + 1
  | .held _ => 1
def uptoBulkAll {H : Type} : List (DataW H) → Nat
  | [] => 0
  | d :: r => uptoBulk d + uptoBulkAll r
def uptoBulkEntries {H : Type} : List (Lit × DataW H) → Nat
  | [] => 0
  | x :: r => uptoBulkEntry x + uptoBulkEntries r
def uptoBulkEntry {H : Type} : Lit × DataW H → Nat
  | (.string bytes, d) => bytes.length + uptoBulk d + 1
  | (_, d) => uptoBulk d + 1
 end
def uptoSmall : (H : Type) → List (DataW H) → Bool := fun _ ds => decide (uptoBulkAll ds ≤ 1048576)
def OpenSpec.upto (s : _root_.Go.ChangeSpec) : _root_.Go.OpenSpec := { _root_.Go.OpenSpec.ofChange s with cond := some uptoSmall }

/-- 'millracelaw10.SegmentPlay', WHERE WHAT IT READS IS OF BULK AT MOST 1048576: true; the input reads as it did. -/
def segmentPlayUptoRow : OpenClaim := { program := "ytlghcboenkglnaagreatdoor", sum := "9db36142043395bc891dec17cd3f4fa70a6457abe2ce8a81c68eec8976f1be21", func := "millrace/millracelaw10.SegmentPlay", spec := "segmentPlay", inPlace := ["internal/bytealg.IndexByteString", "internal/bytealg.IndexString"], unfollowed := true, recurses := true, named := ["internal/bytealg.MaxLen", "millrace/index.none"], apart := false, laid := [("millrace/index.none", laid_millrace_index_none)], narrowed := true }
def SegmentPlayUptoSaid : Prop := segmentPlayUptoRow.holds Tryz.pinned (OpenSpec.upto segmentPlaySpec)

/-- 'millracelaw10.SegmentCrash', WHERE WHAT IT READS IS OF BULK AT MOST 1048576: true; the input reads as it did. -/
def segmentCrashUptoRow : OpenClaim := { program := "ytlghcboenkglnaagreatdoor", sum := "9db36142043395bc891dec17cd3f4fa70a6457abe2ce8a81c68eec8976f1be21", func := "millrace/millracelaw10.SegmentCrash", spec := "segmentCrash", inPlace := ["internal/bytealg.IndexByteString", "internal/bytealg.IndexString"], unfollowed := true, recurses := true, named := ["internal/bytealg.MaxLen", "millrace/index.none"], apart := false, laid := [("millrace/index.none", laid_millrace_index_none)], narrowed := true }
def SegmentCrashUptoSaid : Prop := segmentCrashUptoRow.holds Tryz.pinned (OpenSpec.upto segmentCrashSpec)

/-- 'millracelaw10.SegmentNil', WHERE WHAT IT READS IS OF BULK AT MOST 1048576: true; the input reads as it did. -/
def segmentNilUptoRow : OpenClaim := { program := "ytlghcboenkglnaagreatdoor", sum := "9db36142043395bc891dec17cd3f4fa70a6457abe2ce8a81c68eec8976f1be21", func := "millrace/millracelaw10.SegmentNil", spec := "segmentNil", inPlace := ["internal/bytealg.IndexByteString", "internal/bytealg.IndexString"], unfollowed := true, recurses := true, named := ["internal/bytealg.MaxLen", "millrace/index.none"], apart := false, laid := [("millrace/index.none", laid_millrace_index_none)], narrowed := true }
def SegmentNilUptoSaid : Prop := segmentNilUptoRow.holds Tryz.pinned (OpenSpec.upto segmentNilSpec)

/-- 'millracelaw10.SegmentReads', WHERE WHAT IT READS IS OF BULK AT MOST 1048576: true; the input reads as it did. -/
def segmentReadsUptoRow : OpenClaim := { program := "ytlghcboenkglnaagreatdoor", sum := "9db36142043395bc891dec17cd3f4fa70a6457abe2ce8a81c68eec8976f1be21", func := "millrace/millracelaw10.SegmentReads", spec := "segmentReads", inPlace := ["internal/bytealg.IndexByteString", "internal/bytealg.IndexString"], unfollowed := true, recurses := true, named := ["internal/bytealg.MaxLen", "millrace/index.none"], apart := false, laid := [("millrace/index.none", laid_millrace_index_none)], narrowed := true }
def SegmentReadsUptoSaid : Prop := segmentReadsUptoRow.holds Tryz.pinned (OpenSpec.upto segmentReadsSpec)

end Rows
end Go.Proofs.YtlghcboenkglnaaGreatDoor
