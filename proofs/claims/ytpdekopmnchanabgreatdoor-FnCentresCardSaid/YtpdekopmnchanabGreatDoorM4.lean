/-
  The name of four numbers in a row. No condition.
-/
import Derived.Test.YtpdekopmnchanabGreatDoorBase
namespace Go.Proofs.YtpdekopmnchanabGreatDoor
abbrev M4 := Int × Int × Int × Int
end Go.Proofs.YtpdekopmnchanabGreatDoor
