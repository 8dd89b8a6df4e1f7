/-
  hasCell of a lattice, in the program and in the model. No condition.
-/
import Derived.Test.YtkfdaepnjdnnmaaDoorTk7
import Derived.Deep.RegionHeld3
import Derived.IntWalk
namespace Go.Proofs.YtkfdaepnjdnnmaaDoor
open Go.RowKit
set_option linter.unusedSimpArgs false
set_option linter.unusedVariables false

attribute [local go_sem ↓] eqVe7
end Go.Proofs.YtkfdaepnjdnnmaaDoor
