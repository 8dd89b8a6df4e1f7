/-
  The name of four numbers in a row. No condition.
-/
import Derived.Test.YtapfjmmlogcmkabDoorBase
namespace Go.Proofs.YtapfjmmlogcmkabDoor
abbrev M4 := Int × Int × Int × Int
end Go.Proofs.YtapfjmmlogcmkabDoor
