/-
  DERIVED. GIVEN WITH THE SEED: THE CARDS: each row of YtbaijjclofekcaaGreatDoorRows.lean that lists a variable, with what it lists TIED to the program's text (the seventh form; the later family's looks); each row that meets fmt, with fmt's text TOLD by the authors' own Lean function (tested against real Go, not proved from fmt's source: count such statements apart). THE CARD IS WHAT COUNTS. Prove the row's statement (the work); the ties are given (YtbaijjclofekcaaGreatDoorTie.lean); close each card by the builder's one call (the guide's Derived/Test/ToyasCard.lean, 'card_holds'). Laid BY PROGRAM, IN A SANDBOX (cutbox-door.mjs). By AI agents, Wed Nov 11 2026. No macro, syntax, notation, axiom, sorry.
-/
import Derived.Test.YtbaijjclofekcaaGreatDoorRows
import GoSem.ClaimSeven
namespace Go.Proofs.YtbaijjclofekcaaGreatDoor
namespace Rows

/-- THE TIED CARD OF 'arbourlaw09.CellsGrid'. -/
def cellsGridCard : Claim7 := { stood := { row := cellsGridRow, standIns := [], harness := (true, "ee36e0a2bbf35755b44a0536aa326ec2d7ff22da2ba0f3a2dd7a6d241ed831f2"), looks := false }, kinds := [], alts := [], laidByText := true, laidKinds := [.data, .data, .data], laidTests := true, laidLooks := .later }
def CellsGridCardSaid : Prop := Claim7.holds Tryz.pinned (.plain (OpenSpec.ofChange cellsGridSpec)) cellsGridCard

/-- THE TIED CARD OF 'arbourlaw09.CellsEvents'. -/
def cellsEventsCard : Claim7 := { stood := { row := cellsEventsRow, standIns := [], harness := (true, "ee36e0a2bbf35755b44a0536aa326ec2d7ff22da2ba0f3a2dd7a6d241ed831f2"), looks := false }, kinds := [], alts := [], laidByText := true, laidKinds := [.data, .data, .data], laidTests := true, laidLooks := .later }
def CellsEventsCardSaid : Prop := Claim7.holds Tryz.pinned (.plain (OpenSpec.ofChange cellsEventsSpec)) cellsEventsCard

/-- THE SECOND FORM's CARD OF 'arbourlaw09.CellsGrid'. -/
def cellsGridUptoCard : Claim7 := { stood := { row := cellsGridUptoRow, standIns := [], harness := (true, "ee36e0a2bbf35755b44a0536aa326ec2d7ff22da2ba0f3a2dd7a6d241ed831f2"), looks := false }, kinds := [], alts := [], laidByText := true, laidKinds := [.data, .data, .data], laidTests := true, laidLooks := .later }
def CellsGridUptoCardSaid : Prop := Claim7.holds Tryz.pinned (.plain (OpenSpec.upto cellsGridSpec)) cellsGridUptoCard

/-- THE SECOND FORM's CARD OF 'arbourlaw09.CellsEvents'. -/
def cellsEventsUptoCard : Claim7 := { stood := { row := cellsEventsUptoRow, standIns := [], harness := (true, "ee36e0a2bbf35755b44a0536aa326ec2d7ff22da2ba0f3a2dd7a6d241ed831f2"), looks := false }, kinds := [], alts := [], laidByText := true, laidKinds := [.data, .data, .data], laidTests := true, laidLooks := .later }
def CellsEventsUptoCardSaid : Prop := Claim7.holds Tryz.pinned (.plain (OpenSpec.upto cellsEventsSpec)) cellsEventsUptoCard
end Rows
end Go.Proofs.YtbaijjclofekcaaGreatDoor
