/-
  The name of four numbers in a row. No condition.
-/
import Derived.Test.YtodkomaeljbhaaaBase
namespace Go.Proofs.Ytodkomaeljbhaaa
abbrev M4 := Int × Int × Int × Int
end Go.Proofs.Ytodkomaeljbhaaa
