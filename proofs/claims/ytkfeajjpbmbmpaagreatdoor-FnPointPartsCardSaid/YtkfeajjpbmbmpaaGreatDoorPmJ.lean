/-
  The program's iterator over the point matrices of a frame (a range over a function), and LatticeMats by it. Conditions: the frame and the lattice are valid.
-/
import Derived.RangeFuncNested
import Derived.RangeFuncBound
import Derived.RangeFuncCalls
import Derived.RangeFuncLeaves
import Derived.RangeFuncBox
import Derived.Shelf.Abstract
import Derived.Shelf.RegionOpen
import Derived.WalkKit
import Derived.OwnWalkIn
import Derived.TacticsInMore
import Derived.LoopNIn
import Derived.LoopIn
import Derived.Maps.AppendAt
import Derived.Test.YtkfeajjpbmbmpaaGreatDoorGg
import Derived.Test.YtkfeajjpbmbmpaaGreatDoorGi
namespace Go.Proofs.YtkfeajjpbmbmpaaGreatDoor
open Go.RowKit Go.Shelf
attribute [local go_sem] Oper.semAt_some
set_option linter.unusedSimpArgs false
set_option linter.unusedVariables false

/- the matrices that keep a lattice -/
def stabB (A B C : Int) (m : M4) : Bool := eqT (mapI A B C m.1 m.2.1 m.2.2.1 m.2.2.2).1 (mapI A B C m.1 m.2.1 m.2.2.1 m.2.2.2).2.1 (mapI A B C m.1 m.2.1 m.2.2.1 m.2.2.2).2.2 A B C
def stabL (f A B C : Int) : List M4 := (matsL f).filter (stabB A B C)
end Go.Proofs.YtkfeajjpbmbmpaaGreatDoor
