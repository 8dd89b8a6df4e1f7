/-
  Contracts of the laws' helpers on []impl.Mat: whether two slices hold the same, marks written into a slice, and whether they are there still. No condition.
-/
import Derived.Test.YtkfeajjpbmbmpaaGreatDoorGa
import Derived.Deep.RegionHeld3
import Derived.IntWalk
import Derived.Test.YtkfeajjpbmbmpaaGreatDoorGc
namespace Go.Proofs.YtkfeajjpbmbmpaaGreatDoor
open Go.RowKit
set_option linter.unusedSimpArgs false
set_option linter.unusedVariables false

def Ko4 (g o : Nat) (a b c d : Int) (W : World) : Prop := g < W.heap.size ∧ W.cell? ⟨g, o, none⟩ = some (.int .i64 a) ∧ W.cell? ⟨g, o + 1, none⟩ = some (.int .i64 b) ∧ W.cell? ⟨g, o + 2, none⟩ = some (.int .i64 c) ∧ W.cell? ⟨g, o + 3, none⟩ = some (.int .i64 d)
theorem Ko4.cells {g o : Nat} {a b c d : Int} {W : World} (h : Ko4 g o a b c d W) : W.cell? ⟨g, o, none⟩ = some (.int .i64 a) ∧ W.cell? ⟨g, o + 1, none⟩ = some (.int .i64 b) ∧ W.cell? ⟨g, o + 2, none⟩ = some (.int .i64 c) ∧ W.cell? ⟨g, o + 3, none⟩ = some (.int .i64 d) := h.2
theorem Ko4.call {g o : Nat} {a b c d : Int} {W w1 : World} (h : Ko4 g o a b c d W) (hb : Below W.heap.size W w1) : Ko4 g o a b c d w1 := ⟨Nat.lt_of_lt_of_le h.1 hb.size, by rw [hb.cell (p := ⟨g, o, none⟩) h.1]; exact h.2.1, by rw [hb.cell (p := ⟨g, o + 1, none⟩) h.1]; exact h.2.2.1, by rw [hb.cell (p := ⟨g, o + 2, none⟩) h.1]; exact h.2.2.2.1, by rw [hb.cell (p := ⟨g, o + 3, none⟩) h.1]; exact h.2.2.2.2⟩
theorem Ko4.alloc {g o : Nat} {a b c d : Int} {W : World} (h : Ko4 g o a b c d W) (x : Obj) : Ko4 g o a b c d (W.alloc x) := h.call ((Below.refl _ _).alloc (Nat.le_refl _) _)
theorem Ko4.drew {g o : Nat} {a b c d : Int} {W : World} (h : Ko4 g o a b c d W) : Ko4 g o a b c d W.drew := h.call (Below.refl _ _).drew
theorem IRow.ko4 {g N : Nat} {F : Nat → Int} {W : World} (h : IRow g N F W) (o : Nat) (ho : o + 3 < N) : Ko4 g o (F (o)) (F (o + 1)) (F (o + 2)) (F (o + 3)) W := ⟨h.1, h.at (o) (by omega), h.at (o + 1) (by omega), h.at (o + 2) (by omega), h.at (o + 3) (by omega)⟩
end Go.Proofs.YtkfeajjpbmbmpaaGreatDoor
