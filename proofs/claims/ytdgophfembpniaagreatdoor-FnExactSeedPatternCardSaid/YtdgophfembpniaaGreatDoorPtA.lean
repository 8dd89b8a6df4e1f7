/-
 The colour of a vector, in the program and in the model. Condition: a slice that lies in a block of its own, a valid pattern where it is said.
-/
import Derived.Test.YtdgophfembpniaaGreatDoorPtV9
namespace Go.Proofs.YtdgophfembpniaaGreatDoor
open Go.RowKit
set_option linter.unusedSimpArgs false
set_option linter.unusedVariables false

theorem IRow.drewP {g N : Nat} {F : Nat → Int} {W : World} (h : IRow g N F W) : IRow g N F W.drew := h.call (Below.refl _ _).drew
/- the number of the cell to which a vector is reduced -/
def numP (A B C x y : Int) : Nat := (redX A B C x y * C + redY C y).toNat
/- facts on a vector's number, its parts as variables -/
end Go.Proofs.YtdgophfembpniaaGreatDoor
