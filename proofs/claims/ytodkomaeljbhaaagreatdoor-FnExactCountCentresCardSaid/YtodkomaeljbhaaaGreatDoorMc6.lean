/-
  The contract of the model's closure: the new slice holds, in order, just the motions that a list of suitable and reduced motions reaches. Condition: the list's length is below the model's bound.
-/
import Derived.Test.YtodkomaeljbhaaaGreatDoorPl6
import Derived.Test.YtodkomaeljbhaaaGreatDoorMo3
import Derived.Deep.RegionHeld3
import Derived.IntWalk
namespace Go.Proofs.YtodkomaeljbhaaaGreatDoor
open Go.RowKit
set_option linter.unusedSimpArgs false
set_option linter.unusedVariables false

def NextCutS (w : World) (A B C : Int) (gq cq go co : Nat) (Q O : List M6) (m : M6) (s : Value) (wx : World) : Prop :=
  ∃ gn : Nat, s = .pointer (some ⟨gn, 0, none⟩) ∧ KM gn m.1 m.2.1 m.2.2.1 m.2.2.2.1 m.2.2.2.2.1 m.2.2.2.2.2 wx ∧ Kt w.heap.size A B C wx ∧ KOw gq (w.heap.size + 1) cq 55 Q wx ∧ KOw go (w.heap.size + 1) co 55 O wx ∧ Below w.heap.size w wx
def ClosS (A B C : Int) (R : List M6) (w : World) (e : Ending) (w' : World) : Prop :=
  ∃ (g cap : Nat) (O : List M6), e = .returned (.slice (some ⟨g, 0, none⟩) O.length cap) ∧ IsClos A B C R O ∧ KOw g w.heap.size cap 55 O w' ∧ Below w.heap.size w w'
theorem KOw.one {W : World} {base g : Nat} {T : TypeId} (m : M6) (hg : g = W.heap.size) (hb : base ≤ W.heap.size) : KOw g base 1 T [m] (W.alloc (.cells #[.int .i64 m.1, .int .i64 m.2.1, .int .i64 m.2.2.1, .int .i64 m.2.2.2.1, .int .i64 m.2.2.2.2.1, .int .i64 m.2.2.2.2.2] T)) := by
  subst hg
  have h := World.ownsRow_lit (base := base) (e := T) (size := 6) W #[.int .i64 m.1, .int .i64 m.2.1, .int .i64 m.2.2.1, .int .i64 m.2.2.2.1, .int .i64 m.2.2.2.2.1, .int .i64 m.2.2.2.2.2] 1 hb (by unfold maxLen; omega) rfl
  exact h
theorem KOw.lower {g base base' cap : Nat} {T : TypeId} {Q : List M6} {W : World} (h : KOw g base cap T Q W) (hb : base' ≤ base) : KOw g base' cap T Q W := ownsRow_lower h hb
theorem kow_lt {g base cap : Nat} {T : TypeId} {Q : List M6} {W : World} (h : KOw g base cap T Q W) : g < W.heap.size := (KOw.lt h).2
theorem up_one (m : M6) : Up [m] := List.pairwise_singleton _ _
end Go.Proofs.YtodkomaeljbhaaaGreatDoor
