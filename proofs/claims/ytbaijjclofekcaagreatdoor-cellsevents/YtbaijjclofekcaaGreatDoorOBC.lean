/- For any filter and any event the law CellsEvents returns true, and they read behind the call as they read before: taking that the listed variables of the library read as their initialisers lay them, which the card ties to the program's text. -/
import Derived.Test.YtbaijjclofekcaaGreatDoorRV8
set_option linter.unusedSimpArgs false
set_option linter.unusedVariables false
namespace Go.Proofs.YtbaijjclofekcaaGreatDoor
open Go.ChangeShapes Go.WideShapes Go.ChangeAt Go.WideMaps Go.WideElems Go.RowKit Go.Joins
open Go.ChangeMaps (open_string shut_string)

theorem cellsEvents_card : Rows.CellsEventsCardSaid :=
  Claim7.holds_tied_plain_at .later [] _ _ _ _ cellsEvents_said (fun _ h => by cases h) cellsEvents_wft (fun _ h => by cases h) cellsEvents_row_tie rfl ⟨rfl, rfl⟩ (by kernel_rfl) rfl cellsEvents_plain cellsEvents_goes
#print axioms cellsEvents_card
end Go.Proofs.YtbaijjclofekcaaGreatDoor
