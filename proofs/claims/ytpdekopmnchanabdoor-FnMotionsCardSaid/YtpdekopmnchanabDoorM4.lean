/-
  The name of four numbers in a row. No condition.
-/
import Derived.Test.YtpdekopmnchanabDoorBase
namespace Go.Proofs.YtpdekopmnchanabDoor
abbrev M4 := Int × Int × Int × Int
end Go.Proofs.YtpdekopmnchanabDoor
