/-
  The name of four numbers in a row. No condition.
-/
import Derived.Test.YtmadgbbkkkibcaaBase
namespace Go.Proofs.Ytmadgbbkkkibcaa
abbrev M4 := Int × Int × Int × Int
end Go.Proofs.Ytmadgbbkkkibcaa
