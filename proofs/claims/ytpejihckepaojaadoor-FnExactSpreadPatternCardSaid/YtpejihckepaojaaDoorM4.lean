/-
  The name of four numbers in a row. No condition.
-/
import Derived.Test.YtpejihckepaojaaDoorBase
namespace Go.Proofs.YtpejihckepaojaaDoor
abbrev M4 := Int × Int × Int × Int
end Go.Proofs.YtpejihckepaojaaDoor
