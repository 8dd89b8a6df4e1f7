/-
  The iterator over the cells of a lattice, for a body that is told that what it is handed is a cell. Conditions: a lattice of at most 64 cells each way.
-/
import Derived.RangeFuncNested
import Derived.RangeFuncBound
import Derived.RangeFuncCalls
import Derived.RangeFuncLeaves
import Derived.RangeFuncBox
import Derived.Shelf.Abstract
import Derived.Shelf.RegionOpen
import Derived.WalkKit
import Derived.OwnWalkIn
import Derived.TacticsInMore
import Derived.LoopNIn
import Derived.LoopIn
import Derived.Maps.AppendAt
import Derived.Test.YtodkomaeljbhaaaGreatDoorGg
namespace Go.Proofs.YtodkomaeljbhaaaGreatDoor
open Go.RowKit Go.Shelf
attribute [local go_sem] Oper.semAt_some
set_option linter.unusedSimpArgs false
set_option linter.unusedVariables false

abbrev CV (p q : Nat) := { v : Int × Int // (0 ≤ v.1 ∧ v.1 < (p : Int)) ∧ (0 ≤ v.2 ∧ v.2 < (q : Int)) }
def KeepC (Bn : Nat) (W W' : World) : Prop := W'.heap[Bn]? = W.heap[Bn]?
end Go.Proofs.YtodkomaeljbhaaaGreatDoor
