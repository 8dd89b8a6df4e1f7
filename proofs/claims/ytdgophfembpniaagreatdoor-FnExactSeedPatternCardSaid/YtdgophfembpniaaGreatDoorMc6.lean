/-
 The contract of the model's closure: the new slice holds, in order, just the motions that a list of suitable and reduced motions reaches. Condition: the list's length is below the model's bound.
-/
import Derived.Test.YtdgophfembpniaaGreatDoorPl6
import Derived.Test.YtdgophfembpniaaGreatDoorMo3
import Derived.Deep.RegionHeld3
import Derived.IntWalk
namespace Go.Proofs.YtdgophfembpniaaGreatDoor
open Go.RowKit
set_option linter.unusedSimpArgs false
set_option linter.unusedVariables false

theorem KOw.one {W : World} {base g : Nat} {T : TypeId} (m : M6) (hg : g = W.heap.size) (hb : base ≤ W.heap.size) : KOw g base 1 T [m] (W.alloc (.cells #[.int .i64 m.1, .int .i64 m.2.1, .int .i64 m.2.2.1, .int .i64 m.2.2.2.1, .int .i64 m.2.2.2.2.1, .int .i64 m.2.2.2.2.2] T)) := by
 subst hg
 have h := World.ownsRow_lit (base := base) (e := T) (size := 6) W #[.int .i64 m.1, .int .i64 m.2.1, .int .i64 m.2.2.1, .int .i64 m.2.2.2.1, .int .i64 m.2.2.2.2.1, .int .i64 m.2.2.2.2.2] 1 hb (by unfold maxLen; omega) rfl
 exact h
end Go.Proofs.YtdgophfembpniaaGreatDoor
