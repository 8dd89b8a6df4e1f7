/-
  Contracts of chapter 2's kinds: the model's kind, and whether the program sees a reflection. Condition: the numbers lie from -1000 to 1000.
-/
import Derived.Test.YtmadgbbkkkibcaaMat4
namespace Go.Proofs.Ytmadgbbkkkibcaa
open Go.RowKit
set_option linter.unusedSimpArgs false
set_option linter.unusedVariables false

end Go.Proofs.Ytmadgbbkkkibcaa
