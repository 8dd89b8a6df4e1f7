/-
  Contracts of chapter 2's products and inverses (the program's own functions on arrays). Condition: all numbers from -1000 to 1000.
-/
import Derived.Test.YtodkomaeljbhaaaKeep2
import Derived.Deep.DeepCutAuto
namespace Go.Proofs.Ytodkomaeljbhaaa
open Go.RowKit
set_option linter.unusedSimpArgs false
set_option linter.unusedVariables false

end Go.Proofs.Ytodkomaeljbhaaa
