/-
  DERIVED. GIVEN WITH THE SEED: THE CARDS: each row of YtmjcjcpifahpaaaDoorRows.lean that lists a variable, with what it lists TIED to the program's text (the seventh form; the later family's looks); each row that meets fmt, with fmt's text TOLD by the authors' own Lean function (tested against real Go, not proved from fmt's source: count such statements apart). THE CARD IS WHAT COUNTS. Prove the row's statement (the work); the ties are given (YtmjcjcpifahpaaaDoorTie.lean); close each card by the builder's one call (the guide's Derived/Test/ToyasCard.lean, 'card_holds'). Laid BY PROGRAM, IN A SANDBOX (cutbox-door.mjs). By AI agents, Wed Nov 11 2026. No macro, syntax, notation, axiom, sorry.
-/
import Derived.Test.YtmjcjcpifahpaaaDoorRows
import GoSem.ClaimSeven
namespace Go.Proofs.YtmjcjcpifahpaaaDoor
namespace Rows

/-- THE TIED CARD OF 'millracelaw03.RealOrders'. -/
def realOrdersCard : Claim7 := { stood := { row := realOrdersRow, standIns := [], harness := (true, "32aeaa39e55ea83930bac462cad16fe5228e1499babf107fdd1e11dea3b9ba47"), looks := false }, kinds := [], alts := [], laidByText := true, laidKinds := [.data, .data, .data], laidTests := true, laidLooks := .later }
def RealOrdersCardSaid : Prop := Claim7.holds Tryd.pinned (.plain (OpenSpec.ofChange realOrdersSpec)) realOrdersCard

/-- THE TIED CARD OF 'millracelaw03.RealLists'. -/
def realListsCard : Claim7 := { stood := { row := realListsRow, standIns := [], harness := (true, "32aeaa39e55ea83930bac462cad16fe5228e1499babf107fdd1e11dea3b9ba47"), looks := false }, kinds := [], alts := [], laidByText := true, laidKinds := [.data, .data, .data], laidTests := true, laidLooks := .later }
def RealListsCardSaid : Prop := Claim7.holds Tryd.pinned (.plain (OpenSpec.ofChange realListsSpec)) realListsCard

/-- THE TIED CARD OF 'millracelaw03.RealHolds'. -/
def realHoldsCard : Claim7 := { stood := { row := realHoldsRow, standIns := [], harness := (true, "32aeaa39e55ea83930bac462cad16fe5228e1499babf107fdd1e11dea3b9ba47"), looks := false }, kinds := [], alts := [], laidByText := true, laidKinds := [.data, .data, .data], laidTests := true, laidLooks := .later }
def RealHoldsCardSaid : Prop := Claim7.holds Tryd.pinned (.plain (OpenSpec.ofChange realHoldsSpec)) realHoldsCard

/-- THE TIED CARD OF 'millracelaw03.RealLong'. -/
def realLongCard : Claim7 := { stood := { row := realLongRow, standIns := [], harness := (true, "32aeaa39e55ea83930bac462cad16fe5228e1499babf107fdd1e11dea3b9ba47"), looks := false }, kinds := [], alts := [], laidByText := true, laidKinds := [.data, .data, .data], laidTests := true, laidLooks := .later }
def RealLongCardSaid : Prop := Claim7.holds Tryd.pinned (.plain (OpenSpec.ofChange realLongSpec)) realLongCard

/-- THE TIED CARD OF 'millracelaw03.RealSorted'. -/
def realSortedCard : Claim7 := { stood := { row := realSortedRow, standIns := [], harness := (true, "32aeaa39e55ea83930bac462cad16fe5228e1499babf107fdd1e11dea3b9ba47"), looks := false }, kinds := [], alts := [], laidByText := true, laidKinds := [.data, .data, .data], laidTests := true, laidLooks := .later }
def RealSortedCardSaid : Prop := Claim7.holds Tryd.pinned (.plain (OpenSpec.ofChange realSortedSpec)) realSortedCard

/-- THE SECOND FORM's CARD OF 'millracelaw03.RealOrders'. -/
def realOrdersUptoCard : Claim7 := { stood := { row := realOrdersUptoRow, standIns := [], harness := (true, "32aeaa39e55ea83930bac462cad16fe5228e1499babf107fdd1e11dea3b9ba47"), looks := false }, kinds := [], alts := [], laidByText := true, laidKinds := [.data, .data, .data], laidTests := true, laidLooks := .later }
def RealOrdersUptoCardSaid : Prop := Claim7.holds Tryd.pinned (.plain (OpenSpec.upto realOrdersSpec)) realOrdersUptoCard

/-- THE SECOND FORM's CARD OF 'millracelaw03.RealLists'. -/
def realListsUptoCard : Claim7 := { stood := { row := realListsUptoRow, standIns := [], harness := (true, "32aeaa39e55ea83930bac462cad16fe5228e1499babf107fdd1e11dea3b9ba47"), looks := false }, kinds := [], alts := [], laidByText := true, laidKinds := [.data, .data, .data], laidTests := true, laidLooks := .later }
def RealListsUptoCardSaid : Prop := Claim7.holds Tryd.pinned (.plain (OpenSpec.upto realListsSpec)) realListsUptoCard

/-- THE SECOND FORM's CARD OF 'millracelaw03.RealHolds'. -/
def realHoldsUptoCard : Claim7 := { stood := { row := realHoldsUptoRow, standIns := [], harness := (true, "32aeaa39e55ea83930bac462cad16fe5228e1499babf107fdd1e11dea3b9ba47"), looks := false }, kinds := [], alts := [], laidByText := true, laidKinds := [.data, .data, .data], laidTests := true, laidLooks := .later }
def RealHoldsUptoCardSaid : Prop := Claim7.holds Tryd.pinned (.plain (OpenSpec.upto realHoldsSpec)) realHoldsUptoCard

/-- THE SECOND FORM's CARD OF 'millracelaw03.RealLong'. -/
def realLongUptoCard : Claim7 := { stood := { row := realLongUptoRow, standIns := [], harness := (true, "32aeaa39e55ea83930bac462cad16fe5228e1499babf107fdd1e11dea3b9ba47"), looks := false }, kinds := [], alts := [], laidByText := true, laidKinds := [.data, .data, .data], laidTests := true, laidLooks := .later }
def RealLongUptoCardSaid : Prop := Claim7.holds Tryd.pinned (.plain (OpenSpec.upto realLongSpec)) realLongUptoCard

/-- THE SECOND FORM's CARD OF 'millracelaw03.RealSorted'. -/
def realSortedUptoCard : Claim7 := { stood := { row := realSortedUptoRow, standIns := [], harness := (true, "32aeaa39e55ea83930bac462cad16fe5228e1499babf107fdd1e11dea3b9ba47"), looks := false }, kinds := [], alts := [], laidByText := true, laidKinds := [.data, .data, .data], laidTests := true, laidLooks := .later }
def RealSortedUptoCardSaid : Prop := Claim7.holds Tryd.pinned (.plain (OpenSpec.upto realSortedSpec)) realSortedUptoCard
end Rows
end Go.Proofs.YtmjcjcpifahpaaaDoor
