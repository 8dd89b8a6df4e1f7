/-
 PaintOrbits in the program and in the model. Conditions: slices that lie in blocks of their own, the lists' lengths are below the model's bound; the program's variable unitMatrix holds the unit.
-/
import Derived.Test.YtdgophfembpniaaGreatDoorPn
import Derived.Test.YtdgophfembpniaaGreatDoorSb8
import Derived.Test.YtdgophfembpniaaGreatDoorPtV9
import Derived.Deep.RegionHeld3
import Derived.IntWalk
import Derived.BigQuiet
namespace Go.Proofs.YtdgophfembpniaaGreatDoor
open Go.RowKit
set_option linter.unusedSimpArgs false
set_option linter.unusedVariables false

abbrev PK := Int × Int × Int × Int × Nat × (Nat → Int) × Int
def PAnK (r : PK) (W : World) (e : Ending) (w' : World) : Prop :=
 ∃ (f A B C : Int) (m : Nat) (G : Nat → Int) (c : Int) (v : Value), r = (f, A, B, C, m, G, c) ∧ e = .returned (.tuple #[.agg #[.int .i64 f, .int .i64 A, .int .i64 B, .int .i64 C, v], .int .i64 c]) ∧ SRow W.heap.size w'.heap.size 1 v m G w' ∧ Below W.heap.size W w'
def noPK (c : Int) : PK := (0, 0, 0, 0, 0, fun _ => 0, c)
theorem latI_pq {p q : Nat} {B : Int} (h : latI (p : Int) B (q : Int)) : 1 ≤ p * q ∧ p * q ≤ 64 := by
 have h1 := (show PatI 0 p B q (p * q) (fun _ => 0) from ⟨rfl, h, rfl, fun t _ => by omega⟩).bd
 exact ⟨h1.2.2.2.2.2, h1.2.2.2.2.1⟩
end Go.Proofs.YtdgophfembpniaaGreatDoor
