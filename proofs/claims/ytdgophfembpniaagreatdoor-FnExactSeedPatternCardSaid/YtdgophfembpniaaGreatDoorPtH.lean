/-
 What a list of vectors spans, and its reduced form. Conditions: those that are stated.
-/
import Derived.Test.YtdgophfembpniaaGreatDoorGf
import Derived.Test.YtdgophfembpniaaGreatDoorGg
namespace Go.Proofs.YtdgophfembpniaaGreatDoor
open Go.RowKit
set_option linter.unusedSimpArgs false
set_option linter.unusedVariables false

/- the vectors that a state spans -/
/- states that span a lattice -/
end Go.Proofs.YtdgophfembpniaaGreatDoor
