/-
  DERIVED. GIVEN WITH THE SEED: THE CARDS: each row of YtkfpgmpjimnleabDoorRows.lean that lists a variable, with what it lists TIED to the program's text (the seventh form; the later family's looks); each row that meets fmt, with fmt's text TOLD by the authors' own Lean function (tested against real Go, not proved from fmt's source: count such statements apart). THE CARD IS WHAT COUNTS. Prove the row's statement (the work); the ties are given (YtkfpgmpjimnleabDoorTie.lean); close each card by the builder's one call (the guide's Derived/Test/ToyasCard.lean, 'card_holds'). Laid BY PROGRAM, IN A SANDBOX (cutbox-door.mjs). By AI agents, Wed Nov 11 2026. No macro, syntax, notation, axiom, sorry.
-/
import Derived.Test.YtkfpgmpjimnleabDoorRows
import GoSem.ClaimSeven
namespace Go.Proofs.YtkfpgmpjimnleabDoor
namespace Rows

/-- THE TIED CARD OF 'millracelaw02.CrcCarry'. -/
def crcCarryCard : Claim7 := { stood := { row := crcCarryRow, standIns := [], harness := (true, "2951b30b045e380d3b77e4f99dac3fa25ac4aacab14c7d1c954cf24fb3433a7a"), looks := false }, kinds := [], alts := [], laidByText := true, laidKinds := [.data], laidTests := true, laidLooks := .later }
def CrcCarryCardSaid : Prop := Claim7.holds Tryd.pinned (.plain (OpenSpec.ofChange crcCarrySpec)) crcCarryCard

/-- THE SECOND FORM's CARD OF 'millracelaw02.CrcCarry'. -/
def crcCarryUptoCard : Claim7 := { stood := { row := crcCarryUptoRow, standIns := [], harness := (true, "2951b30b045e380d3b77e4f99dac3fa25ac4aacab14c7d1c954cf24fb3433a7a"), looks := false }, kinds := [], alts := [], laidByText := true, laidKinds := [.data], laidTests := true, laidLooks := .later }
def CrcCarryUptoCardSaid : Prop := Claim7.holds Tryd.pinned (.plain (OpenSpec.upto crcCarrySpec)) crcCarryUptoCard
end Rows
end Go.Proofs.YtkfpgmpjimnleabDoor
