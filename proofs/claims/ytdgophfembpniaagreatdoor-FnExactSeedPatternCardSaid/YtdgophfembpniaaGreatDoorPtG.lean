/-
 The full lattice of a pattern as a list's reduced form, and the reduced form of a long list in the model. Conditions: those that are stated.
-/
import Derived.Test.YtdgophfembpniaaGreatDoorPtH
import Derived.Test.YtdgophfembpniaaGreatDoorPtS
import Derived.Test.YtdgophfembpniaaGreatDoorGf
namespace Go.Proofs.YtdgophfembpniaaGreatDoor
open Go.RowKit
set_option linter.unusedSimpArgs false
set_option linter.unusedVariables false

/- the state behind some cells: those that keep the colours are taken in -/
/- the model's list -/
end Go.Proofs.YtdgophfembpniaaGreatDoor
