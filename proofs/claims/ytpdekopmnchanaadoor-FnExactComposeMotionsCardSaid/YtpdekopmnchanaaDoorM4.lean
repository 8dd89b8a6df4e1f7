/-
  The name of four numbers in a row. No condition.
-/
import Derived.Test.YtpdekopmnchanaaDoorBase
namespace Go.Proofs.YtpdekopmnchanaaDoor
abbrev M4 := Int × Int × Int × Int
end Go.Proofs.YtpdekopmnchanaaDoor
