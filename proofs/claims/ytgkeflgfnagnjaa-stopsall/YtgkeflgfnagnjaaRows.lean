/-
  No cell of these rows narrows 'for every input' (looked for: loops, veiled, ifaces, maps, wideKeys, modest, calm, conditions, laid).
  DERIVED. THE GIVEN ROWS OF THIS SEAT. 5 by the template 'for every input the law returns true; each argument reads behind the call as it read before'; 0 by the template 'total and deterministic' (their statements: YtgkeflgfnagnjaaTotals.lean).
  GIVEN WITH THE SEED: the statements are not yours to turn. If you find one false, say at which input.
  Laid BY PROGRAM, IN A SANDBOX (cutbox-rows.mjs): the forced cells as the released guide's own fill.sh prints them over the translation 53b5e88d05e70517… (all of the seat's roots in one cut). By AI agents, Wed Nov 11 2026. No macro, syntax, notation, axiom, sorry.
-/
import Derived.Test.YtgkeflgfnagnjaaChecked
import GoSem.Claim
import GoSem.ClaimJoined
import GoSem.ClaimMapViews
import Derived.JoinedTies
import Derived.KernelRfl
namespace Go.Proofs.Ytgkeflgfnagnjaa
/- THE CELL 'sum', in the pinned program and in every row, IS THE sha256 OF THE DUMP (.gsa) THAT YtgkeflgfnagnjaaProg.lean LOADS. Nothing in Lean hashes anything: it is a label: what it is worth is what the hold of that sum in a sandbox is worth. -/
noncomputable def Try.pinned : Pinned := { name := "ytgkeflgfnagnjaa", sum := "53b5e88d05e70517760266eb3fd61b2498acbd395536fe0d82e110d1d5881ed3", checked := Try.checked }
namespace Rows
def none {H : Type} : Left H := { results := [], args := [] }

/-- 'millracelaw08.StopsNumbers': WHATEVER THE INPUT: true; the input reads as it did. -/
def stopsNumbersSpec : ChangeSpec := { name := "stopsNumbers", fn := fun _ => fun
  | [d1, d2, d3] => { results := [.lit (.bool true)], args := [d1, d2, d3] }
  | _ => none }
def stopsNumbersRow : OpenClaim := { program := "ytgkeflgfnagnjaa", sum := "53b5e88d05e70517760266eb3fd61b2498acbd395536fe0d82e110d1d5881ed3", func := "millrace/millracelaw08.StopsNumbers", spec := "stopsNumbers", unfollowed := true, recurses := true, apart := false }
def StopsNumbersSaid : Prop := stopsNumbersRow.holds Try.pinned (OpenSpec.ofChange stopsNumbersSpec)

/-- ITS FALSE NEIGHBOUR: 'it returns false'. Refute it at one input. -/
def stopsNumbersWrong : ChangeSpec := { name := "stopsNumbers", fn := fun _ => fun
  | [d1, d2, d3] => { results := [.lit (.bool false)], args := [d1, d2, d3] }
  | _ => none }
def StopsNumbersWrongFalsely : Prop := stopsNumbersRow.holds Try.pinned (OpenSpec.ofChange stopsNumbersWrong)

/-- 'millracelaw08.StopsAll': WHATEVER THE INPUT: true; the input reads as it did. -/
def stopsAllSpec : ChangeSpec := { name := "stopsAll", fn := fun _ => fun
  | [d1, d2] => { results := [.lit (.bool true)], args := [d1, d2] }
  | _ => none }
def stopsAllRow : OpenClaim := { program := "ytgkeflgfnagnjaa", sum := "53b5e88d05e70517760266eb3fd61b2498acbd395536fe0d82e110d1d5881ed3", func := "millrace/millracelaw08.StopsAll", spec := "stopsAll", unfollowed := true, recurses := true, apart := false }
def StopsAllSaid : Prop := stopsAllRow.holds Try.pinned (OpenSpec.ofChange stopsAllSpec)

/-- ITS FALSE NEIGHBOUR: 'it returns false'. Refute it at one input. -/
def stopsAllWrong : ChangeSpec := { name := "stopsAll", fn := fun _ => fun
  | [d1, d2] => { results := [.lit (.bool false)], args := [d1, d2] }
  | _ => none }
def StopsAllWrongFalsely : Prop := stopsAllRow.holds Try.pinned (OpenSpec.ofChange stopsAllWrong)

/-- 'millracelaw08.StopsEach': WHATEVER THE INPUT: true; the input reads as it did. -/
def stopsEachSpec : ChangeSpec := { name := "stopsEach", fn := fun _ => fun
  | [d] => { results := [.lit (.bool true)], args := [d] }
  | _ => none }
def stopsEachRow : OpenClaim := { program := "ytgkeflgfnagnjaa", sum := "53b5e88d05e70517760266eb3fd61b2498acbd395536fe0d82e110d1d5881ed3", func := "millrace/millracelaw08.StopsEach", spec := "stopsEach", unfollowed := true, recurses := true, apart := false }
def StopsEachSaid : Prop := stopsEachRow.holds Try.pinned (OpenSpec.ofChange stopsEachSpec)

/-- ITS FALSE NEIGHBOUR: 'it returns false'. Refute it at one input. -/
def stopsEachWrong : ChangeSpec := { name := "stopsEach", fn := fun _ => fun
  | [d] => { results := [.lit (.bool false)], args := [d] }
  | _ => none }
def StopsEachWrongFalsely : Prop := stopsEachRow.holds Try.pinned (OpenSpec.ofChange stopsEachWrong)

/-- 'millracelaw08.StopsNil': WHATEVER THE INPUT: true; the input reads as it did. -/
def stopsNilSpec : ChangeSpec := { name := "stopsNil", fn := fun _ => fun
  | [d1, d2] => { results := [.lit (.bool true)], args := [d1, d2] }
  | _ => none }
def stopsNilRow : OpenClaim := { program := "ytgkeflgfnagnjaa", sum := "53b5e88d05e70517760266eb3fd61b2498acbd395536fe0d82e110d1d5881ed3", func := "millrace/millracelaw08.StopsNil", spec := "stopsNil", unfollowed := true, recurses := true, apart := false }
def StopsNilSaid : Prop := stopsNilRow.holds Try.pinned (OpenSpec.ofChange stopsNilSpec)

/-- ITS FALSE NEIGHBOUR: 'it returns false'. Refute it at one input. -/
def stopsNilWrong : ChangeSpec := { name := "stopsNil", fn := fun _ => fun
  | [d1, d2] => { results := [.lit (.bool false)], args := [d1, d2] }
  | _ => none }
def StopsNilWrongFalsely : Prop := stopsNilRow.holds Try.pinned (OpenSpec.ofChange stopsNilWrong)

/-- 'millracelaw08.StopsBegins': WHATEVER THE INPUT: true; the input reads as it did. -/
def stopsBeginsSpec : ChangeSpec := { name := "stopsBegins", fn := fun _ => fun
  | [d] => { results := [.lit (.bool true)], args := [d] }
  | _ => none }
def stopsBeginsRow : OpenClaim := { program := "ytgkeflgfnagnjaa", sum := "53b5e88d05e70517760266eb3fd61b2498acbd395536fe0d82e110d1d5881ed3", func := "millrace/millracelaw08.StopsBegins", spec := "stopsBegins", unfollowed := true, recurses := true, apart := false }
def StopsBeginsSaid : Prop := stopsBeginsRow.holds Try.pinned (OpenSpec.ofChange stopsBeginsSpec)

/-- ITS FALSE NEIGHBOUR: 'it returns false'. Refute it at one input. -/
def stopsBeginsWrong : ChangeSpec := { name := "stopsBegins", fn := fun _ => fun
  | [d] => { results := [.lit (.bool false)], args := [d] }
  | _ => none }
def StopsBeginsWrongFalsely : Prop := stopsBeginsRow.holds Try.pinned (OpenSpec.ofChange stopsBeginsWrong)

/- THE SECOND FORM. 'bulk': how many values and letters a reading holds, each counted each time it is reached (what is shared counts as often as it is met; a slice's spare places count too). A statement '..UptoSaid' is the law's where the arguments, and the package variables that the reading takes, are together of bulk at most 1048576: NARROWER than '..Said'. Prove '..Said' where nothing that the law and all that it calls make is longer than what came in: it says more and counts as full. Else prove '..UptoSaid'. A law counts once. -/
mutual
def uptoBulk {H : Type} : DataW H → Nat
  | .lit (.string bytes) => bytes.length + 1
  | .lit _ => 1
  | .nil => 1
  | .ptr d => uptoBulk d + 1
  | .slice elems spare => uptoBulkAll elems + uptoBulkAll spare + 1
  | .agg parts => uptoBulkAll parts + 1
  | .iface _ d => uptoBulk d + 1
  | .map entries => uptoBulkEntries entries + 1
  | .held _ => 1
def uptoBulkAll {H : Type} : List (DataW H) → Nat
  | [] => 0
  | d :: r => uptoBulk d + uptoBulkAll r
def uptoBulkEntries {H : Type} : List (Lit × DataW H) → Nat
  | [] => 0
  | x :: r => uptoBulkEntry x + uptoBulkEntries r
def uptoBulkEntry {H : Type} : Lit × DataW H → Nat
  | (.string bytes, d) => bytes.length + uptoBulk d + 1
  | (_, d) => uptoBulk d + 1
 end
def uptoSmall : (H : Type) → List (DataW H) → Bool := fun _ ds => decide (uptoBulkAll ds ≤ 1048576)
def OpenSpec.upto (s : _root_.Go.ChangeSpec) : _root_.Go.OpenSpec := { _root_.Go.OpenSpec.ofChange s with cond := some uptoSmall }

/-- 'millracelaw08.StopsNumbers', WHERE WHAT IT READS IS OF BULK AT MOST 1048576: true; the input reads as it did. -/
def stopsNumbersUptoRow : OpenClaim := { program := "ytgkeflgfnagnjaa", sum := "53b5e88d05e70517760266eb3fd61b2498acbd395536fe0d82e110d1d5881ed3", func := "millrace/millracelaw08.StopsNumbers", spec := "stopsNumbers", unfollowed := true, recurses := true, apart := false, narrowed := true }
def StopsNumbersUptoSaid : Prop := stopsNumbersUptoRow.holds Try.pinned (OpenSpec.upto stopsNumbersSpec)

/-- 'millracelaw08.StopsAll', WHERE WHAT IT READS IS OF BULK AT MOST 1048576: true; the input reads as it did. -/
def stopsAllUptoRow : OpenClaim := { program := "ytgkeflgfnagnjaa", sum := "53b5e88d05e70517760266eb3fd61b2498acbd395536fe0d82e110d1d5881ed3", func := "millrace/millracelaw08.StopsAll", spec := "stopsAll", unfollowed := true, recurses := true, apart := false, narrowed := true }
def StopsAllUptoSaid : Prop := stopsAllUptoRow.holds Try.pinned (OpenSpec.upto stopsAllSpec)

/-- 'millracelaw08.StopsEach', WHERE WHAT IT READS IS OF BULK AT MOST 1048576: true; the input reads as it did. -/
def stopsEachUptoRow : OpenClaim := { program := "ytgkeflgfnagnjaa", sum := "53b5e88d05e70517760266eb3fd61b2498acbd395536fe0d82e110d1d5881ed3", func := "millrace/millracelaw08.StopsEach", spec := "stopsEach", unfollowed := true, recurses := true, apart := false, narrowed := true }
def StopsEachUptoSaid : Prop := stopsEachUptoRow.holds Try.pinned (OpenSpec.upto stopsEachSpec)

/-- 'millracelaw08.StopsNil', WHERE WHAT IT READS IS OF BULK AT MOST 1048576: true; the input reads as it did. -/
def stopsNilUptoRow : OpenClaim := { program := "ytgkeflgfnagnjaa", sum := "53b5e88d05e70517760266eb3fd61b2498acbd395536fe0d82e110d1d5881ed3", func := "millrace/millracelaw08.StopsNil", spec := "stopsNil", unfollowed := true, recurses := true, apart := false, narrowed := true }
def StopsNilUptoSaid : Prop := stopsNilUptoRow.holds Try.pinned (OpenSpec.upto stopsNilSpec)

/-- 'millracelaw08.StopsBegins', WHERE WHAT IT READS IS OF BULK AT MOST 1048576: true; the input reads as it did. -/
def stopsBeginsUptoRow : OpenClaim := { program := "ytgkeflgfnagnjaa", sum := "53b5e88d05e70517760266eb3fd61b2498acbd395536fe0d82e110d1d5881ed3", func := "millrace/millracelaw08.StopsBegins", spec := "stopsBegins", unfollowed := true, recurses := true, apart := false, narrowed := true }
def StopsBeginsUptoSaid : Prop := stopsBeginsUptoRow.holds Try.pinned (OpenSpec.upto stopsBeginsSpec)

end Rows
end Go.Proofs.Ytgkeflgfnagnjaa
