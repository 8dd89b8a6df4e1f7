/-
  What a growing world keeps: vectors that lie in blocks of their own read the same behind calls, new blocks and stores elsewhere. No condition.
-/
import Derived.Test.YtodkomaeljbhaaaBase
namespace Go.Proofs.Ytodkomaeljbhaaa
open Go.RowKit

/- two vectors that lie in two blocks, one behind the other -/
def K4 (b : Nat) (x y x' y' : Int) (W : World) : Prop :=
  b + 1 < W.heap.size ∧ W.cell? ⟨b, 0, none⟩ = some (.int .i64 x) ∧ W.cell? ⟨b, 1, none⟩ = some (.int .i64 y) ∧ W.cell? ⟨b + 1, 0, none⟩ = some (.int .i64 x') ∧ W.cell? ⟨b + 1, 1, none⟩ = some (.int .i64 y')
theorem K4.cells {b : Nat} {x y x' y' : Int} {W : World} (h : K4 b x y x' y' W) : W.cell? ⟨b, 0, none⟩ = some (.int .i64 x) ∧ W.cell? ⟨b, 1, none⟩ = some (.int .i64 y) ∧ W.cell? ⟨b + 1, 0, none⟩ = some (.int .i64 x') ∧ W.cell? ⟨b + 1, 1, none⟩ = some (.int .i64 y') := h.2
theorem K4.call {b : Nat} {x y x' y' : Int} {W w1 : World} (h : K4 b x y x' y' W) (hb : Below W.heap.size W w1) : K4 b x y x' y' w1 := by
  obtain ⟨h0, h1, h2, h3, h4⟩ := h
  have hs := hb.size
  exact ⟨by omega, by rw [hb.cell (by show b < _; omega)]; exact h1, by rw [hb.cell (by show b < _; omega)]; exact h2, by rw [hb.cell (by show b + 1 < _; omega)]; exact h3, by rw [hb.cell (by show b + 1 < _; omega)]; exact h4⟩
theorem K4.alloc {b : Nat} {x y x' y' : Int} {W : World} (h : K4 b x y x' y' W) (o : Obj) : K4 b x y x' y' (W.alloc o) :=
  h.call ((Below.refl _ _).alloc (Nat.le_refl _) _)
theorem K4.drew {b : Nat} {x y x' y' : Int} {W : World} (h : K4 b x y x' y' W) : K4 b x y x' y' W.drew :=
  h.call (Below.refl _ _).drew
theorem K4.setCell {b : Nat} {x y x' y' : Int} {W : World} (h : K4 b x y x' y' W) {p : Addr} (hp : b + 1 < p.block) (u : Value) : K4 b x y x' y' (W.setCell p u) := by
  have hb : Below (b + 2) W (W.setCell p u) := (Below.refl _ _).setCell (by omega) u
  obtain ⟨h0, h1, h2, h3, h4⟩ := h
  have hs := hb.size
  exact ⟨by omega, by rw [hb.cell (by show b < _; omega)]; exact h1, by rw [hb.cell (by show b < _; omega)]; exact h2, by rw [hb.cell (by show b + 1 < _; omega)]; exact h3, by rw [hb.cell (by show b + 1 < _; omega)]; exact h4⟩
theorem K4.put {b : Nat} {x y x' y' : Int} {W : World} {p : Addr} {u : Value} (hp : b + 1 < p.block) (h : K4 b x y x' y' W) : K4 b x y x' y' (W.setCell p u) := h.setCell hp u
theorem K4.made (w : World) (x y x' y' : Int) (T : TypeId) : K4 w.heap.size x y x' y' ((w.alloc (.cells #[.int .i64 x, .int .i64 y] T)).alloc (.cells #[.int .i64 x', .int .i64 y'] T)) := by
  refine ⟨by simp, ?_, ?_, ?_, ?_⟩ <;> simp [go_sem]

/- one vector in one block -/
def Kg (g : Nat) (a b : Int) (W : World) : Prop := g < W.heap.size ∧ W.cell? ⟨g, 0, none⟩ = some (.int .i64 a) ∧ W.cell? ⟨g, 1, none⟩ = some (.int .i64 b)
theorem Kg.c0 {g : Nat} {a b : Int} {W : World} (h : Kg g a b W) : W.cell? ⟨g, 0, none⟩ = some (.int .i64 a) := h.2.1
theorem Kg.c1 {g : Nat} {a b : Int} {W : World} (h : Kg g a b W) : W.cell? ⟨g, 1, none⟩ = some (.int .i64 b) := h.2.2
theorem Kg.cells {g : Nat} {a b : Int} {W : World} (h : Kg g a b W) : W.cell? ⟨g, 0, none⟩ = some (.int .i64 a) ∧ W.cell? ⟨g, 1, none⟩ = some (.int .i64 b) := h.2
theorem Kg.call {g : Nat} {a b : Int} {W w1 : World} (h : Kg g a b W) (hb : Below W.heap.size W w1) : Kg g a b w1 := by
  obtain ⟨h0, h1, h2⟩ := h
  have hs := hb.size
  exact ⟨by omega, by rw [hb.cell (by show g < _; omega)]; exact h1, by rw [hb.cell (by show g < _; omega)]; exact h2⟩
theorem Kg.alloc {g : Nat} {a b : Int} {W : World} (h : Kg g a b W) (o : Obj) : Kg g a b (W.alloc o) := h.call ((Below.refl _ _).alloc (Nat.le_refl _) _)
theorem Kg.drew {g : Nat} {a b : Int} {W : World} (h : Kg g a b W) : Kg g a b W.drew := h.call (Below.refl _ _).drew
theorem Kg.put {g : Nat} {a b : Int} {W : World} {p : Addr} {u : Value} (hp : g < p.block) (h : Kg g a b W) : Kg g a b (W.setCell p u) := by
  have hb : Below (g + 1) W (W.setCell p u) := (Below.refl _ _).setCell (by omega) u
  obtain ⟨h0, h1, h2⟩ := h
  have hs := hb.size
  exact ⟨by omega, by rw [hb.cell (by show g < _; omega)]; exact h1, by rw [hb.cell (by show g < _; omega)]; exact h2⟩

end Go.Proofs.Ytodkomaeljbhaaa
