/-
  asMotion in the program. No condition.
-/
import Derived.Test.YtkfdaepnjdnnmaaDoorGc
import Derived.Test.YtkfdaepnjdnnmaaDoorMat3
import Derived.Deep.RegionHeld3
import Derived.IntWalk
namespace Go.Proofs.YtkfdaepnjdnnmaaDoor
open Go.RowKit
set_option linter.unusedSimpArgs false
set_option linter.unusedVariables false

end Go.Proofs.YtkfdaepnjdnnmaaDoor
