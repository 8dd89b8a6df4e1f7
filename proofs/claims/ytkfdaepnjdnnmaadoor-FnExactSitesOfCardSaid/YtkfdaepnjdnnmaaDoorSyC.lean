/-
  Facts of the search for a witness, and the program's searchWitness, IsSymmetry and WitnessAgainst. Conditions: a slice that lies in a block of its own; the program's variable unitMatrix holds the unit.
-/
import Derived.Test.YtkfdaepnjdnnmaaDoorSyB
import Derived.Test.YtkfdaepnjdnnmaaDoorSu
import Derived.Test.YtkfdaepnjdnnmaaDoorPtW
import Derived.Test.YtkfdaepnjdnnmaaDoorMoP
import Derived.Test.YtkfdaepnjdnnmaaDoorVb
namespace Go.Proofs.YtkfdaepnjdnnmaaDoor
open Go.RowKit
set_option linter.unusedSimpArgs false
set_option linter.unusedVariables false

/- what a drawn region leaves that sets a new vector from a call's answer, and a truth value -/
theorem Bx.st2 {g : Nat} {u0 u1 : Value} {W : World} (h : BX g [.int .i64 0, .int .i64 0] W) : Bx g [u0, u1] ((W.setCell ⟨g, 0, none⟩ u0).setCell ⟨g, 1, none⟩ u1) := ((h.store 0 (by simp) u0).store 1 (by simp) u1).bx
/- IsSymmetry's answer -/
/- WitnessAgainst's answer -/
end Go.Proofs.YtkfdaepnjdnnmaaDoor
