/- For any two filters and any event the law CellsGrid returns true, and they read behind the call as they read before: taking that the listed variables of the library read as their initialisers lay them, which the card ties to the program's text. -/
import Derived.Test.YtbaijjclofekcaaGreatDoorRG7
set_option linter.unusedSimpArgs false
set_option linter.unusedVariables false
namespace Go.Proofs.YtbaijjclofekcaaGreatDoor
open Go.ChangeShapes Go.WideShapes Go.ChangeAt Go.WideMaps Go.WideElems Go.RowKit Go.Joins
open Go.ChangeMaps (open_string shut_string)

theorem cellsGrid_card : Rows.CellsGridCardSaid :=
  Claim7.holds_tied_plain_at .later [] _ _ _ _ cellsGrid_said (fun _ h => by cases h) cellsGrid_wft (fun _ h => by cases h) cellsGrid_row_tie rfl ⟨rfl, rfl⟩ (by kernel_rfl) rfl cellsGrid_plain cellsGrid_goes
#print axioms cellsGrid_card
end Go.Proofs.YtbaijjclofekcaaGreatDoor
