/-
  DERIVED. GIVEN WITH THE SEED: THE CARDS: each row of YtlghcboenkglnaaGreatDoorRows.lean that lists a variable, with what it lists TIED to the program's text (the seventh form; the later family's looks); each row that meets fmt, with fmt's text TOLD by the authors' own Lean function (tested against real Go, not proved from fmt's source: count such statements apart). THE CARD IS WHAT COUNTS. Prove the row's statement (the work); the ties are given (YtlghcboenkglnaaGreatDoorTie.lean); close each card by the builder's one call (the guide's Derived/Test/ToyasCard.lean, 'card_holds'). Laid BY PROGRAM, IN A SANDBOX (cutbox-door.mjs). By AI agents, Wed Nov 11 2026. No macro, syntax, notation, axiom, sorry.
-/
import Derived.Test.YtlghcboenkglnaaGreatDoorRows
import GoSem.ClaimSeven
namespace Go.Proofs.YtlghcboenkglnaaGreatDoor
namespace Rows

/-- THE TIED CARD OF 'millracelaw10.SegmentPlay'. -/
def segmentPlayCard : Claim7 := { stood := { row := segmentPlayRow, standIns := [], harness := (true, "0aba8184326297333e14901bc121fcdc52c871f4991099388853f2c61657ea27"), looks := false }, kinds := [], alts := [], laidByText := true, laidKinds := [.data], laidTests := true, laidLooks := .later }
def SegmentPlayCardSaid : Prop := Claim7.holds Tryz.pinned (.plain (OpenSpec.ofChange segmentPlaySpec)) segmentPlayCard

/-- THE TIED CARD OF 'millracelaw10.SegmentCrash'. -/
def segmentCrashCard : Claim7 := { stood := { row := segmentCrashRow, standIns := [], harness := (true, "0aba8184326297333e14901bc121fcdc52c871f4991099388853f2c61657ea27"), looks := false }, kinds := [], alts := [], laidByText := true, laidKinds := [.data], laidTests := true, laidLooks := .later }
def SegmentCrashCardSaid : Prop := Claim7.holds Tryz.pinned (.plain (OpenSpec.ofChange segmentCrashSpec)) segmentCrashCard

/-- THE TIED CARD OF 'millracelaw10.SegmentNil'. -/
def segmentNilCard : Claim7 := { stood := { row := segmentNilRow, standIns := [], harness := (true, "0aba8184326297333e14901bc121fcdc52c871f4991099388853f2c61657ea27"), looks := false }, kinds := [], alts := [], laidByText := true, laidKinds := [.data], laidTests := true, laidLooks := .later }
def SegmentNilCardSaid : Prop := Claim7.holds Tryz.pinned (.plain (OpenSpec.ofChange segmentNilSpec)) segmentNilCard

/-- THE TIED CARD OF 'millracelaw10.SegmentReads'. -/
def segmentReadsCard : Claim7 := { stood := { row := segmentReadsRow, standIns := [], harness := (true, "0aba8184326297333e14901bc121fcdc52c871f4991099388853f2c61657ea27"), looks := false }, kinds := [], alts := [], laidByText := true, laidKinds := [.data], laidTests := true, laidLooks := .later }
def SegmentReadsCardSaid : Prop := Claim7.holds Tryz.pinned (.plain (OpenSpec.ofChange segmentReadsSpec)) segmentReadsCard

/-- THE SECOND FORM's CARD OF 'millracelaw10.SegmentPlay'. -/
def segmentPlayUptoCard : Claim7 := { stood := { row := segmentPlayUptoRow, standIns := [], harness := (true, "0aba8184326297333e14901bc121fcdc52c871f4991099388853f2c61657ea27"), looks := false }, kinds := [], alts := [], laidByText := true, laidKinds := [.data], laidTests := true, laidLooks := .later }
def SegmentPlayUptoCardSaid : Prop := Claim7.holds Tryz.pinned (.plain (OpenSpec.upto segmentPlaySpec)) segmentPlayUptoCard

/-- THE SECOND FORM's CARD OF 'millracelaw10.SegmentCrash'. -/
def segmentCrashUptoCard : Claim7 := { stood := { row := segmentCrashUptoRow, standIns := [], harness := (true, "0aba8184326297333e14901bc121fcdc52c871f4991099388853f2c61657ea27"), looks := false }, kinds := [], alts := [], laidByText := true, laidKinds := [.data], laidTests := true, laidLooks := .later }
def SegmentCrashUptoCardSaid : Prop := Claim7.holds Tryz.pinned (.plain (OpenSpec.upto segmentCrashSpec)) segmentCrashUptoCard

/-- THE SECOND FORM's CARD OF 'millracelaw10.SegmentNil'. -/
def segmentNilUptoCard : Claim7 := { stood := { row := segmentNilUptoRow, standIns := [], harness := (true, "0aba8184326297333e14901bc121fcdc52c871f4991099388853f2c61657ea27"), looks := false }, kinds := [], alts := [], laidByText := true, laidKinds := [.data], laidTests := true, laidLooks := .later }
def SegmentNilUptoCardSaid : Prop := Claim7.holds Tryz.pinned (.plain (OpenSpec.upto segmentNilSpec)) segmentNilUptoCard

/-- THE SECOND FORM's CARD OF 'millracelaw10.SegmentReads'. -/
def segmentReadsUptoCard : Claim7 := { stood := { row := segmentReadsUptoRow, standIns := [], harness := (true, "0aba8184326297333e14901bc121fcdc52c871f4991099388853f2c61657ea27"), looks := false }, kinds := [], alts := [], laidByText := true, laidKinds := [.data], laidTests := true, laidLooks := .later }
def SegmentReadsUptoCardSaid : Prop := Claim7.holds Tryz.pinned (.plain (OpenSpec.upto segmentReadsSpec)) segmentReadsUptoCard
end Rows
end Go.Proofs.YtlghcboenkglnaaGreatDoor
