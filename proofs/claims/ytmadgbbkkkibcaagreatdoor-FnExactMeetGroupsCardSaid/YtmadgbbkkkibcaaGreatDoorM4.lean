/-
  The name of four numbers in a row. No condition.
-/
import Derived.Test.YtmadgbbkkkibcaaGreatDoorBase
namespace Go.Proofs.YtmadgbbkkkibcaaGreatDoor
abbrev M4 := Int × Int × Int × Int
end Go.Proofs.YtmadgbbkkkibcaaGreatDoor
