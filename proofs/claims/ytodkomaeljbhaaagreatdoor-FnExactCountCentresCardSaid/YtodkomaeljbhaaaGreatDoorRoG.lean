/-
  A motion of a group: what is known of its matrix. Condition: the list is a group.
-/
import Derived.Test.YtodkomaeljbhaaaGreatDoorGo
import Derived.Test.YtodkomaeljbhaaaGreatDoorSb8
import Derived.Test.YtodkomaeljbhaaaGreatDoorFaF
import Derived.Deep.RegionHeld3
import Derived.IntWalk
namespace Go.Proofs.YtodkomaeljbhaaaGreatDoor
open Go.RowKit
set_option linter.unusedSimpArgs false
set_option linter.unusedVariables false

/- a motion of a group -/
theorem grp_mot {f A B C a b c d x y : Int} {xs : List M6} (h : grpB f A B C xs = true) (hm : (a, b, c, d, x, y) ∈ xs) : matB a b c d = true ∧ reflB a b c d = (a * d - b * c == -1) ∧ (a * d - b * c = 1 ∨ a * d - b * c = -1) ∧ okM f A B C (a, b, c, d, x, y) = true := by
  have hok := ((grp_ok h).2.1 _ hm).1
  obtain ⟨hl, hf, hk, hs, hmm, _⟩ := suit_parts hok
  exact ⟨hmm, keep_refl hf hk, keep_det hf hk, hok⟩
end Go.Proofs.YtodkomaeljbhaaaGreatDoor
