/-
  The name of four numbers in a row. No condition.
-/
import Derived.Test.YtpejihckepaojaaBase
namespace Go.Proofs.Ytpejihckepaojaa
abbrev M4 := Int × Int × Int × Int
end Go.Proofs.Ytpejihckepaojaa
