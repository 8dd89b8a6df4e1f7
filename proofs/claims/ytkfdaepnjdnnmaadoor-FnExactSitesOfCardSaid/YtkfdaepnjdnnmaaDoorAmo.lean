/-
  asMotions in the program. Condition: the list's length is below the model's bound.
-/
import Derived.Test.YtkfdaepnjdnnmaaDoorGc
import Derived.Test.YtkfdaepnjdnnmaaDoorGg
import Derived.Test.YtkfdaepnjdnnmaaDoorMo1a
import Derived.Deep.RegionHeld3
import Derived.IntWalk
import Derived.OwnWalk
namespace Go.Proofs.YtkfdaepnjdnnmaaDoor
open Go.RowKit
set_option linter.unusedSimpArgs false
set_option linter.unusedVariables false

theorem srow_shA {lo hi K n : Nat} {v : Value} {F : Nat → Int} {W : World} (h : SRow lo hi K v n F W) : ∃ ao cap, v = .slice ao n cap := by
  rcases h.2.2 with ⟨rfl, ao, cap, rfl⟩ | ⟨g, cap, rfl, _⟩
  · exact ⟨ao, cap, rfl⟩
  · exact ⟨_, cap, rfl⟩
end Go.Proofs.YtkfdaepnjdnnmaaDoor
