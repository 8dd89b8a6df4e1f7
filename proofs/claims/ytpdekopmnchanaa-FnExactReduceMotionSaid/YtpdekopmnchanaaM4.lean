/-
  The name of four numbers in a row. No condition.
-/
import Derived.Test.YtpdekopmnchanaaBase
namespace Go.Proofs.Ytpdekopmnchanaa
abbrev M4 := Int × Int × Int × Int
end Go.Proofs.Ytpdekopmnchanaa
