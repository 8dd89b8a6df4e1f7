/-
 Whether a shift keeps a pattern, in the program, and whether a motion does, in the model. Condition: the pattern is valid, the numbers small.
-/
import Derived.Test.YtdgophfembpniaaGreatDoorPtA
import Derived.Test.YtdgophfembpniaaGreatDoorCeS
import Derived.Test.YtdgophfembpniaaGreatDoorRgH
namespace Go.Proofs.YtdgophfembpniaaGreatDoor
open Go.RowKit Go.Shelf
attribute [local go_sem] Oper.semAt_some
set_option linter.unusedSimpArgs false
set_option linter.unusedVariables false

theorem Bx.same {g : Nat} {us : List Value} {W0 W : World} (h : Bx g us W0) (e : W.heap[g]? = W0.heap[g]?) : Bx g us W := by
 refine ⟨?_, fun i u hu => (World.cell?_of_block (w := W0) (w' := W) (a := ⟨g, i, none⟩) e).trans (h.cel i u hu)⟩
 have h1 := h.lt
 rw [Array.getElem?_eq_getElem h1] at e
 exact (Array.getElem?_eq_some_iff.1 e).1
abbrev V29 := Int × Int
/- whether a shift keeps the colours of cells -/
/- whether a motion does -/
def kepM (A B C : Int) (F : Nat → Int) (a b c d x y : Int) (L : List V29) : Bool := L.all fun v => F (numP A B C (a * v.1 + b * v.2 + x) (c * v.1 + d * v.2 + y)) == F (numP A B C v.1 v.2)
end Go.Proofs.YtdgophfembpniaaGreatDoor
