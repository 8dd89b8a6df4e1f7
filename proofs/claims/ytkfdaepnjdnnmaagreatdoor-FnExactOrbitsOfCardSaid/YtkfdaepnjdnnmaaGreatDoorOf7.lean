/-
  The contract of the model's OrbitOf. Condition: the list's length is below the model's bound.
-/
import Derived.Test.YtkfdaepnjdnnmaaGreatDoorOb7
import Derived.Test.YtkfdaepnjdnnmaaGreatDoorSb8
import Derived.Deep.RegionHeld3
import Derived.IntWalk
namespace Go.Proofs.YtkfdaepnjdnnmaaGreatDoor
open Go.RowKit
set_option linter.unusedSimpArgs false
set_option linter.unusedVariables false

end Go.Proofs.YtkfdaepnjdnnmaaGreatDoor
