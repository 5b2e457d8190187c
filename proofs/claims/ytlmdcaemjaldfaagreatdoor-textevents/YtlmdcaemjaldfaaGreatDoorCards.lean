/-
  DERIVED. GIVEN WITH THE SEED: THE CARDS: each row of YtlmdcaemjaldfaaGreatDoorRows.lean that lists a variable, with what it lists TIED to the program's text (the seventh form; the later family's looks); each row that meets fmt, with fmt's text TOLD by the authors' own Lean function (tested against real Go, not proved from fmt's source: count such statements apart). THE CARD IS WHAT COUNTS. Prove the row's statement (the work); the ties are given (YtlmdcaemjaldfaaGreatDoorTie.lean); close each card by the builder's one call (the guide's Derived/Test/ToyasCard.lean, 'card_holds'). Laid BY PROGRAM, IN A SANDBOX (cutbox-door.mjs). By AI agents, Wed Nov 11 2026. No macro, syntax, notation, axiom, sorry.
-/
import Derived.Test.YtlmdcaemjaldfaaGreatDoorRows
import GoSem.ClaimSeven
namespace Go.Proofs.YtlmdcaemjaldfaaGreatDoor
namespace Rows

/-- THE TIED CARD OF 'arbourlaw07.TextParses'. -/
def textParsesCard : Claim7 := { stood := { row := textParsesRow, standIns := [], harness := (true, "65d4e8104cc47e80bb1c79679c5a12b1203ecb3690de2c5fdd838dc1400e041c"), looks := true }, kinds := [], alts := [], laidByText := true, laidKinds := [.data, .data, .data, .sentinel, .sentinel], laidTests := true, laidLooks := .later }
def TextParsesCardSaid : Prop := Claim7.holds Tryz.pinned (.plain (OpenSpec.ofChange textParsesSpec)) textParsesCard

/-- THE TIED CARD OF 'arbourlaw07.TextEvents'. -/
def textEventsCard : Claim7 := { stood := { row := textEventsRow, standIns := [], harness := (true, "65d4e8104cc47e80bb1c79679c5a12b1203ecb3690de2c5fdd838dc1400e041c"), looks := true }, kinds := [], alts := [], laidByText := true, laidKinds := [.data, .data, .data, .sentinel, .sentinel], laidTests := true, laidLooks := .later }
def TextEventsCardSaid : Prop := Claim7.holds Tryz.pinned (.plain (OpenSpec.ofChange textEventsSpec)) textEventsCard

/-- THE SECOND FORM's CARD OF 'arbourlaw07.TextParses'. -/
def textParsesUptoCard : Claim7 := { stood := { row := textParsesUptoRow, standIns := [], harness := (true, "65d4e8104cc47e80bb1c79679c5a12b1203ecb3690de2c5fdd838dc1400e041c"), looks := true }, kinds := [], alts := [], laidByText := true, laidKinds := [.data, .data, .data, .sentinel, .sentinel], laidTests := true, laidLooks := .later }
def TextParsesUptoCardSaid : Prop := Claim7.holds Tryz.pinned (.plain (OpenSpec.upto textParsesSpec)) textParsesUptoCard

/-- THE SECOND FORM's CARD OF 'arbourlaw07.TextEvents'. -/
def textEventsUptoCard : Claim7 := { stood := { row := textEventsUptoRow, standIns := [], harness := (true, "65d4e8104cc47e80bb1c79679c5a12b1203ecb3690de2c5fdd838dc1400e041c"), looks := true }, kinds := [], alts := [], laidByText := true, laidKinds := [.data, .data, .data, .sentinel, .sentinel], laidTests := true, laidLooks := .later }
def TextEventsUptoCardSaid : Prop := Claim7.holds Tryz.pinned (.plain (OpenSpec.upto textEventsSpec)) textEventsUptoCard
end Rows
end Go.Proofs.YtlmdcaemjaldfaaGreatDoor
