/-
  DERIVED. GIVEN WITH THE SEED: THE CARDS: each row of YtciflobdpenpaaaGreatDoorRows.lean that lists a variable, with what it lists TIED to the program's text (the seventh form; the later family's looks); each row that meets fmt, with fmt's text TOLD by the authors' own Lean function (tested against real Go, not proved from fmt's source: count such statements apart). THE CARD IS WHAT COUNTS. Prove the row's statement (the work); the ties are given (YtciflobdpenpaaaGreatDoorTie.lean); close each card by the builder's one call (the guide's Derived/Test/ToyasCard.lean, 'card_holds'). Laid BY PROGRAM, IN A SANDBOX (cutbox-door.mjs). By AI agents, Wed Nov 11 2026. No macro, syntax, notation, axiom, sorry.
-/
import Derived.Test.YtciflobdpenpaaaGreatDoorRows
import GoSem.ClaimSeven
namespace Go.Proofs.YtciflobdpenpaaaGreatDoor
namespace Rows

/-- THE TIED CARD OF 'arbourlaw07.TextPrints'. -/
def textPrintsCard : Claim7 := { stood := { row := textPrintsRow, standIns := [], harness := (true, "9ada3ea19b4c58ea2cfa732af303352d5b4aa33a200bb3004a18a11347a864cc"), looks := true }, kinds := [], alts := [], laidByText := true, laidKinds := [.data, .data, .data, .sentinel, .sentinel], laidTests := true, laidLooks := .later }
def TextPrintsCardSaid : Prop := Claim7.holds Tryz.pinned (.plain (OpenSpec.ofChange textPrintsSpec)) textPrintsCard

/-- THE TIED CARD OF 'arbourlaw07.TextParses'. -/
def textParsesCard : Claim7 := { stood := { row := textParsesRow, standIns := [], harness := (true, "9ada3ea19b4c58ea2cfa732af303352d5b4aa33a200bb3004a18a11347a864cc"), looks := true }, kinds := [], alts := [], laidByText := true, laidKinds := [.data, .data, .data, .sentinel, .sentinel], laidTests := true, laidLooks := .later }
def TextParsesCardSaid : Prop := Claim7.holds Tryz.pinned (.plain (OpenSpec.ofChange textParsesSpec)) textParsesCard

/-- THE TIED CARD OF 'arbourlaw07.TextEvents'. -/
def textEventsCard : Claim7 := { stood := { row := textEventsRow, standIns := [], harness := (true, "9ada3ea19b4c58ea2cfa732af303352d5b4aa33a200bb3004a18a11347a864cc"), looks := true }, kinds := [], alts := [], laidByText := true, laidKinds := [.data, .data, .data, .sentinel, .sentinel], laidTests := true, laidLooks := .later }
def TextEventsCardSaid : Prop := Claim7.holds Tryz.pinned (.plain (OpenSpec.ofChange textEventsSpec)) textEventsCard

/-- THE TIED CARD OF 'arbourlaw07.TextMeans'. -/
def textMeansCard : Claim7 := { stood := { row := textMeansRow, standIns := [], harness := (true, "9ada3ea19b4c58ea2cfa732af303352d5b4aa33a200bb3004a18a11347a864cc"), looks := true }, kinds := [], alts := [], laidByText := true, laidKinds := [.data, .data, .data, .sentinel, .sentinel], laidTests := true, laidLooks := .later }
def TextMeansCardSaid : Prop := Claim7.holds Tryz.pinned (.plain (OpenSpec.ofChange textMeansSpec)) textMeansCard

/-- THE TIED CARD OF 'arbourlaw07.TextOne'. -/
def textOneCard : Claim7 := { stood := { row := textOneRow, standIns := [], harness := (true, "9ada3ea19b4c58ea2cfa732af303352d5b4aa33a200bb3004a18a11347a864cc"), looks := true }, kinds := [], alts := [], laidByText := true, laidKinds := [.data, .data, .data, .sentinel, .sentinel], laidTests := true, laidLooks := .later }
def TextOneCardSaid : Prop := Claim7.holds Tryz.pinned (.plain (OpenSpec.ofChange textOneSpec)) textOneCard

/-- THE SECOND FORM's CARD OF 'arbourlaw07.TextPrints'. -/
def textPrintsUptoCard : Claim7 := { stood := { row := textPrintsUptoRow, standIns := [], harness := (true, "9ada3ea19b4c58ea2cfa732af303352d5b4aa33a200bb3004a18a11347a864cc"), looks := true }, kinds := [], alts := [], laidByText := true, laidKinds := [.data, .data, .data, .sentinel, .sentinel], laidTests := true, laidLooks := .later }
def TextPrintsUptoCardSaid : Prop := Claim7.holds Tryz.pinned (.plain (OpenSpec.upto textPrintsSpec)) textPrintsUptoCard

/-- THE SECOND FORM's CARD OF 'arbourlaw07.TextParses'. -/
def textParsesUptoCard : Claim7 := { stood := { row := textParsesUptoRow, standIns := [], harness := (true, "9ada3ea19b4c58ea2cfa732af303352d5b4aa33a200bb3004a18a11347a864cc"), looks := true }, kinds := [], alts := [], laidByText := true, laidKinds := [.data, .data, .data, .sentinel, .sentinel], laidTests := true, laidLooks := .later }
def TextParsesUptoCardSaid : Prop := Claim7.holds Tryz.pinned (.plain (OpenSpec.upto textParsesSpec)) textParsesUptoCard

/-- THE SECOND FORM's CARD OF 'arbourlaw07.TextEvents'. -/
def textEventsUptoCard : Claim7 := { stood := { row := textEventsUptoRow, standIns := [], harness := (true, "9ada3ea19b4c58ea2cfa732af303352d5b4aa33a200bb3004a18a11347a864cc"), looks := true }, kinds := [], alts := [], laidByText := true, laidKinds := [.data, .data, .data, .sentinel, .sentinel], laidTests := true, laidLooks := .later }
def TextEventsUptoCardSaid : Prop := Claim7.holds Tryz.pinned (.plain (OpenSpec.upto textEventsSpec)) textEventsUptoCard

/-- THE SECOND FORM's CARD OF 'arbourlaw07.TextMeans'. -/
def textMeansUptoCard : Claim7 := { stood := { row := textMeansUptoRow, standIns := [], harness := (true, "9ada3ea19b4c58ea2cfa732af303352d5b4aa33a200bb3004a18a11347a864cc"), looks := true }, kinds := [], alts := [], laidByText := true, laidKinds := [.data, .data, .data, .sentinel, .sentinel], laidTests := true, laidLooks := .later }
def TextMeansUptoCardSaid : Prop := Claim7.holds Tryz.pinned (.plain (OpenSpec.upto textMeansSpec)) textMeansUptoCard

/-- THE SECOND FORM's CARD OF 'arbourlaw07.TextOne'. -/
def textOneUptoCard : Claim7 := { stood := { row := textOneUptoRow, standIns := [], harness := (true, "9ada3ea19b4c58ea2cfa732af303352d5b4aa33a200bb3004a18a11347a864cc"), looks := true }, kinds := [], alts := [], laidByText := true, laidKinds := [.data, .data, .data, .sentinel, .sentinel], laidTests := true, laidLooks := .later }
def TextOneUptoCardSaid : Prop := Claim7.holds Tryz.pinned (.plain (OpenSpec.upto textOneSpec)) textOneUptoCard
end Rows
end Go.Proofs.YtciflobdpenpaaaGreatDoor
