/-
  The name of four numbers in a row. No condition.
-/
import Derived.Test.YtapfjmmlogcmkaaBase
namespace Go.Proofs.Ytapfjmmlogcmkaa
abbrev M4 := Int × Int × Int × Int
end Go.Proofs.Ytapfjmmlogcmkaa
