/-
  DERIVED. GIVEN WITH THE SEED: THE CARDS: each row of YtbnoemfhcpjdjaaDoorRows.lean that lists a variable, with what it lists TIED to the program's text (the seventh form; the later family's looks); each row that meets fmt, with fmt's text TOLD by the authors' own Lean function (tested against real Go, not proved from fmt's source: count such statements apart). THE CARD IS WHAT COUNTS. Prove the row's statement (the work); the ties are given (YtbnoemfhcpjdjaaDoorTie.lean); close each card by the builder's one call (the guide's Derived/Test/ToyasCard.lean, 'card_holds'). Laid BY PROGRAM, IN A SANDBOX (cutbox-door.mjs). By AI agents, Wed Nov 11 2026. No macro, syntax, notation, axiom, sorry.
-/
import Derived.Test.YtbnoemfhcpjdjaaDoorRows
import GoSem.ClaimSeven
namespace Go.Proofs.YtbnoemfhcpjdjaaDoor
namespace Rows

/-- THE TIED CARD OF 'millracelaw09.IndexPlay'. -/
def indexPlayCard : Claim7 := { stood := { row := indexPlayRow, standIns := [], harness := (true, "83003c8117dcdc709bc52a3f99bd64145d36b9a554a1d8ef3e2fbb7e95b9a386"), looks := false }, kinds := [], alts := [], laidByText := true, laidKinds := [.data], laidTests := true, laidLooks := .later }
def IndexPlayCardSaid : Prop := Claim7.holds Tryd.pinned (.plain (OpenSpec.ofChange indexPlaySpec)) indexPlayCard

/-- THE TIED CARD OF 'millracelaw09.IndexRead'. -/
def indexReadCard : Claim7 := { stood := { row := indexReadRow, standIns := [], harness := (true, "83003c8117dcdc709bc52a3f99bd64145d36b9a554a1d8ef3e2fbb7e95b9a386"), looks := false }, kinds := [], alts := [], laidByText := true, laidKinds := [.data], laidTests := true, laidLooks := .later }
def IndexReadCardSaid : Prop := Claim7.holds Tryd.pinned (.plain (OpenSpec.ofChange indexReadSpec)) indexReadCard

/-- THE TIED CARD OF 'millracelaw09.IndexNear'. -/
def indexNearCard : Claim7 := { stood := { row := indexNearRow, standIns := [], harness := (true, "83003c8117dcdc709bc52a3f99bd64145d36b9a554a1d8ef3e2fbb7e95b9a386"), looks := false }, kinds := [], alts := [], laidByText := true, laidKinds := [.data], laidTests := true, laidLooks := .later }
def IndexNearCardSaid : Prop := Claim7.holds Tryd.pinned (.plain (OpenSpec.ofChange indexNearSpec)) indexNearCard

/-- THE TIED CARD OF 'millracelaw09.IndexNil'. -/
def indexNilCard : Claim7 := { stood := { row := indexNilRow, standIns := [], harness := (true, "83003c8117dcdc709bc52a3f99bd64145d36b9a554a1d8ef3e2fbb7e95b9a386"), looks := false }, kinds := [], alts := [], laidByText := true, laidKinds := [.data], laidTests := true, laidLooks := .later }
def IndexNilCardSaid : Prop := Claim7.holds Tryd.pinned (.plain (OpenSpec.ofChange indexNilSpec)) indexNilCard

/-- THE TIED CARD OF 'millracelaw09.IndexCuts'. -/
def indexCutsCard : Claim7 := { stood := { row := indexCutsRow, standIns := [], harness := (true, "83003c8117dcdc709bc52a3f99bd64145d36b9a554a1d8ef3e2fbb7e95b9a386"), looks := false }, kinds := [], alts := [], laidByText := true, laidKinds := [.data], laidTests := true, laidLooks := .later }
def IndexCutsCardSaid : Prop := Claim7.holds Tryd.pinned (.plain (OpenSpec.ofChange indexCutsSpec)) indexCutsCard

/-- THE SECOND FORM's CARD OF 'millracelaw09.IndexPlay'. -/
def indexPlayUptoCard : Claim7 := { stood := { row := indexPlayUptoRow, standIns := [], harness := (true, "83003c8117dcdc709bc52a3f99bd64145d36b9a554a1d8ef3e2fbb7e95b9a386"), looks := false }, kinds := [], alts := [], laidByText := true, laidKinds := [.data], laidTests := true, laidLooks := .later }
def IndexPlayUptoCardSaid : Prop := Claim7.holds Tryd.pinned (.plain (OpenSpec.upto indexPlaySpec)) indexPlayUptoCard

/-- THE SECOND FORM's CARD OF 'millracelaw09.IndexRead'. -/
def indexReadUptoCard : Claim7 := { stood := { row := indexReadUptoRow, standIns := [], harness := (true, "83003c8117dcdc709bc52a3f99bd64145d36b9a554a1d8ef3e2fbb7e95b9a386"), looks := false }, kinds := [], alts := [], laidByText := true, laidKinds := [.data], laidTests := true, laidLooks := .later }
def IndexReadUptoCardSaid : Prop := Claim7.holds Tryd.pinned (.plain (OpenSpec.upto indexReadSpec)) indexReadUptoCard

/-- THE SECOND FORM's CARD OF 'millracelaw09.IndexNear'. -/
def indexNearUptoCard : Claim7 := { stood := { row := indexNearUptoRow, standIns := [], harness := (true, "83003c8117dcdc709bc52a3f99bd64145d36b9a554a1d8ef3e2fbb7e95b9a386"), looks := false }, kinds := [], alts := [], laidByText := true, laidKinds := [.data], laidTests := true, laidLooks := .later }
def IndexNearUptoCardSaid : Prop := Claim7.holds Tryd.pinned (.plain (OpenSpec.upto indexNearSpec)) indexNearUptoCard

/-- THE SECOND FORM's CARD OF 'millracelaw09.IndexNil'. -/
def indexNilUptoCard : Claim7 := { stood := { row := indexNilUptoRow, standIns := [], harness := (true, "83003c8117dcdc709bc52a3f99bd64145d36b9a554a1d8ef3e2fbb7e95b9a386"), looks := false }, kinds := [], alts := [], laidByText := true, laidKinds := [.data], laidTests := true, laidLooks := .later }
def IndexNilUptoCardSaid : Prop := Claim7.holds Tryd.pinned (.plain (OpenSpec.upto indexNilSpec)) indexNilUptoCard

/-- THE SECOND FORM's CARD OF 'millracelaw09.IndexCuts'. -/
def indexCutsUptoCard : Claim7 := { stood := { row := indexCutsUptoRow, standIns := [], harness := (true, "83003c8117dcdc709bc52a3f99bd64145d36b9a554a1d8ef3e2fbb7e95b9a386"), looks := false }, kinds := [], alts := [], laidByText := true, laidKinds := [.data], laidTests := true, laidLooks := .later }
def IndexCutsUptoCardSaid : Prop := Claim7.holds Tryd.pinned (.plain (OpenSpec.upto indexCutsSpec)) indexCutsUptoCard
end Rows
end Go.Proofs.YtbnoemfhcpjdjaaDoor
