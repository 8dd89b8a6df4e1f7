/-
  The name of four numbers in a row. No condition.
-/
import Derived.Test.YtapfjmmlogcmkaaDoorBase
namespace Go.Proofs.YtapfjmmlogcmkaaDoor
abbrev M4 := Int × Int × Int × Int
end Go.Proofs.YtapfjmmlogcmkaaDoor
