/-
  The name of four numbers in a row. No condition.
-/
import Derived.Test.YtapfjmmlogcmkaaGreatDoorBase
namespace Go.Proofs.YtapfjmmlogcmkaaGreatDoor
abbrev M4 := Int × Int × Int × Int
end Go.Proofs.YtapfjmmlogcmkaaGreatDoor
