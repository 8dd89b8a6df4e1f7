/-
 A region that draws its order, inside a fence that lets all in (in a loop's body over a function too): what holds of it outside holds of it there. Condition: no operation of it is a defer statement, and what follows does not let out.
-/
import Derived.OrdersHeld
import Derived.OrdersIn
import Derived.TacticsIn
import Derived.RangeFuncCalls
import Derived.Deep.RegionHeld
import Derived.Test.YtdgophfembpniaaGreatDoorGa
namespace Go.Proofs.YtdgophfembpniaaGreatDoor
open Go.RowKit
set_option linter.unusedSimpArgs false
set_option linter.unusedVariables false

end Go.Proofs.YtdgophfembpniaaGreatDoor
