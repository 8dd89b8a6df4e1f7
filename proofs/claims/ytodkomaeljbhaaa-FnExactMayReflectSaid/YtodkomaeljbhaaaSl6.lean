/-
  Contracts of the laws' helpers on []impl.Motion: whether two slices hold the same, marks written into a slice, and whether they are there still. No condition.
-/
import Derived.Test.YtodkomaeljbhaaaMRow
import Derived.Test.YtodkomaeljbhaaaMoE
namespace Go.Proofs.Ytodkomaeljbhaaa
open Go.RowKit
set_option linter.unusedSimpArgs false
set_option linter.unusedVariables false

def mark6 (t : Nat) : Int := (t : Int) + 1
end Go.Proofs.Ytodkomaeljbhaaa
