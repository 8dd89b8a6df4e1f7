/-
  How many cells have each colour, in the program and in the model. Condition: a slice that lies in a block of its own.
-/
import Derived.Test.YtkfdaepnjdnnmaaDoorPtA
import Derived.BigRegion
namespace Go.Proofs.YtkfdaepnjdnnmaaDoor
open Go.RowKit
set_option linter.unusedSimpArgs false
set_option linter.unusedVariables false

/- a call's answer: a row of numbers in new memory, and a code -/
end Go.Proofs.YtkfdaepnjdnnmaaDoor
