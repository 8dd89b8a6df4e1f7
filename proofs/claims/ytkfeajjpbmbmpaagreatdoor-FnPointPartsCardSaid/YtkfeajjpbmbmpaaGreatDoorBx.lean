/-
  A block of cells that holds a value of a struct: what calls, draws, allocs and stores leave of it. Conditions: only the bounds that are stated.
-/
import Derived.Test.YtkfeajjpbmbmpaaGreatDoorGa
namespace Go.Proofs.YtkfeajjpbmbmpaaGreatDoor
open Go.RowKit
set_option linter.unusedSimpArgs false
set_option linter.unusedVariables false

/- a block that is read -/
structure Bx (g : Nat) (us : List Value) (W : World) : Prop where
  lt : g < W.heap.size
  cel : ∀ (i : Nat) (u : Value), us[i]? = some u → W.cell? ⟨g, i, none⟩ = some u
theorem Bx.grow {g B : Nat} {us : List Value} {W w1 : World} (h : Bx g us W) (hb : Below B W w1) (hg : g < B) : Bx g us w1 :=
  ⟨Nat.lt_of_lt_of_le h.lt hb.size, fun i u e => by rw [hb.cell (p := ⟨g, i, none⟩) hg]; exact h.cel i u e⟩
theorem Bx.call {g : Nat} {us : List Value} {W w1 : World} (h : Bx g us W) (hb : Below W.heap.size W w1) : Bx g us w1 := h.grow hb h.lt
theorem Bx.alloc {g : Nat} {us : List Value} {W : World} (h : Bx g us W) (o : Obj) : Bx g us (W.alloc o) := h.call ((Below.refl _ _).alloc (Nat.le_refl _) _)
theorem Bx.drew {g : Nat} {us : List Value} {W : World} (h : Bx g us W) : Bx g us W.drew := h.call (Below.refl _ _).drew
theorem Bx.far {g : Nat} {us : List Value} {W : World} {q : Addr} {v : Value} (hq : q.block ≠ g) (h : Bx g us W) : Bx g us (W.setCell q v) := by
  have hh : (W.setCell q v).heap[g]? = W.heap[g]? := Below.heap_setCell _ _ _ _ (by omega)
  exact ⟨by simpa [World.setCell] using h.lt, fun i u e => (World.cell?_of_block (w := W) hh).trans (h.cel i u e)⟩
theorem Bx.at {w : World} {us : List Value} {T : TypeId} (R : Nat) (hR : R = w.heap.size) : Bx R us (w.alloc (.cells us.toArray T)) := by
  subst hR
  refine ⟨by simp, fun i u e => ?_⟩
  simp [go_sem, e]
theorem Bx.c0 {g : Nat} {u : Value} {us : List Value} {W : World} (h : Bx g (u :: us) W) : W.cell? ⟨g, 0, none⟩ = some u := h.cel 0 u rfl
theorem Bx.c1 {g : Nat} {u0 u : Value} {us : List Value} {W : World} (h : Bx g (u0 :: u :: us) W) : W.cell? ⟨g, 1, none⟩ = some u := h.cel 1 u rfl
theorem Bx.c2 {g : Nat} {u0 u1 u : Value} {us : List Value} {W : World} (h : Bx g (u0 :: u1 :: u :: us) W) : W.cell? ⟨g, 2, none⟩ = some u := h.cel 2 u rfl
theorem Bx.c3 {g : Nat} {u0 u1 u2 u : Value} {us : List Value} {W : World} (h : Bx g (u0 :: u1 :: u2 :: u :: us) W) : W.cell? ⟨g, 3, none⟩ = some u := h.cel 3 u rfl
theorem Bx.c4 {g : Nat} {u0 u1 u2 u3 u : Value} {us : List Value} {W : World} (h : Bx g (u0 :: u1 :: u2 :: u3 :: u :: us) W) : W.cell? ⟨g, 4, none⟩ = some u := h.cel 4 u rfl
theorem Bx.c5 {g : Nat} {u0 u1 u2 u3 u4 u : Value} {us : List Value} {W : World} (h : Bx g (u0 :: u1 :: u2 :: u3 :: u4 :: u :: us) W) : W.cell? ⟨g, 5, none⟩ = some u := h.cel 5 u rfl
theorem Bx.cells2 {g : Nat} {u0 u1 : Value} {W : World} (h : Bx g [u0, u1] W) : W.cell? ⟨g, 0, none⟩ = some u0 ∧ W.cell? ⟨g, 1, none⟩ = some u1 := ⟨h.c0, h.c1⟩
theorem Bx.cells5 {g : Nat} {u0 u1 u2 u3 u4 : Value} {W : World} (h : Bx g [u0, u1, u2, u3, u4] W) : W.cell? ⟨g, 0, none⟩ = some u0 ∧ W.cell? ⟨g, 1, none⟩ = some u1 ∧ W.cell? ⟨g, 2, none⟩ = some u2 ∧ W.cell? ⟨g, 3, none⟩ = some u3 ∧ W.cell? ⟨g, 4, none⟩ = some u4 := ⟨h.c0, h.c1, h.c2, h.c3, h.c4⟩
/- a block that may be written -/
structure BX (g : Nat) (us : List Value) (W : World) : Prop where
  bx : Bx g us W
  fr : ∀ i, i < us.length → W.frozen? ⟨g, i, none⟩ = false
theorem BX.lt {g : Nat} {us : List Value} {W : World} (h : BX g us W) : g < W.heap.size := h.bx.lt
theorem BX.grow {g B : Nat} {us : List Value} {W w1 : World} (h : BX g us W) (hb : Below B W w1) (hg : g < B) : BX g us w1 :=
  ⟨h.bx.grow hb hg, fun i e => by rw [hb.frozen (p := ⟨g, i, none⟩) hg]; exact h.fr i e⟩
theorem BX.call {g : Nat} {us : List Value} {W w1 : World} (h : BX g us W) (hb : Below W.heap.size W w1) : BX g us w1 := h.grow hb h.lt
theorem BX.alloc {g : Nat} {us : List Value} {W : World} (h : BX g us W) (o : Obj) : BX g us (W.alloc o) := h.call ((Below.refl _ _).alloc (Nat.le_refl _) _)
theorem BX.drew {g : Nat} {us : List Value} {W : World} (h : BX g us W) : BX g us W.drew := h.call (Below.refl _ _).drew
theorem BX.far {g : Nat} {us : List Value} {W : World} {q : Addr} {v : Value} (hq : q.block ≠ g) (h : BX g us W) : BX g us (W.setCell q v) := by
  have hh : (W.setCell q v).heap[g]? = W.heap[g]? := Below.heap_setCell _ _ _ _ (by omega)
  exact ⟨h.bx.far hq, fun i e => (World.frozen?_of_block (w := W) hh).trans (h.fr i e)⟩
theorem BX.at {w : World} {us : List Value} {T : TypeId} (R : Nat) (hR : R = w.heap.size) : BX R us (w.alloc (.cells us.toArray T)) := by
  subst hR
  refine ⟨Bx.at _ rfl, fun i e => ?_⟩
  simp [go_sem]
theorem BX.store {g : Nat} {us : List Value} {W : World} (h : BX g us W) (i : Nat) (hi : i < us.length) (u : Value) : BX g (us.set i u) (W.setCell ⟨g, i, none⟩ u) := by
  refine ⟨⟨by simpa [World.setCell] using h.lt, fun j v e => ?_⟩, fun j hj => by rw [World.frozen?_setCell]; exact h.fr j (by simpa using hj)⟩
  by_cases ej : j = i
  · subst ej
    have e2 : v = u := by simpa [List.getElem?_set, hi] using e.symm
    subst e2
    exact World.cell?_setCell_same _ _ _ (h.bx.cel j us[j] (List.getElem?_eq_getElem hi))
  · have hx : (⟨g, i, none⟩ : Addr) ≠ ⟨g, j, none⟩ := fun h' => ej (congrArg Addr.off h').symm
    rw [World.cell?_setCell_other (w := W) (a := ⟨g, i, none⟩) (b := ⟨g, j, none⟩) (h := hx)]
    refine h.bx.cel j v ?_
    rw [List.getElem?_set] at e
    simpa [show ¬ i = j from fun h => ej h.symm] using e
theorem BX.c0 {g : Nat} {u : Value} {us : List Value} {W : World} (h : BX g (u :: us) W) : W.cell? ⟨g, 0, none⟩ = some u := h.bx.c0
theorem BX.c1 {g : Nat} {u0 u : Value} {us : List Value} {W : World} (h : BX g (u0 :: u :: us) W) : W.cell? ⟨g, 1, none⟩ = some u := h.bx.c1
theorem BX.c2 {g : Nat} {u0 u1 u : Value} {us : List Value} {W : World} (h : BX g (u0 :: u1 :: u :: us) W) : W.cell? ⟨g, 2, none⟩ = some u := h.bx.c2
theorem BX.c3 {g : Nat} {u0 u1 u2 u : Value} {us : List Value} {W : World} (h : BX g (u0 :: u1 :: u2 :: u :: us) W) : W.cell? ⟨g, 3, none⟩ = some u := h.bx.c3
theorem BX.c4 {g : Nat} {u0 u1 u2 u3 u : Value} {us : List Value} {W : World} (h : BX g (u0 :: u1 :: u2 :: u3 :: u :: us) W) : W.cell? ⟨g, 4, none⟩ = some u := h.bx.c4
theorem BX.f0 {g : Nat} {u : Value} {us : List Value} {W : World} (h : BX g (u :: us) W) : W.frozen? ⟨g, 0, none⟩ = false := h.fr 0 (by simp)
theorem BX.f1 {g : Nat} {u0 u : Value} {us : List Value} {W : World} (h : BX g (u0 :: u :: us) W) : W.frozen? ⟨g, 1, none⟩ = false := h.fr 1 (by simp)
theorem BX.f2 {g : Nat} {u0 u1 u : Value} {us : List Value} {W : World} (h : BX g (u0 :: u1 :: u :: us) W) : W.frozen? ⟨g, 2, none⟩ = false := h.fr 2 (by simp)
theorem BX.f3 {g : Nat} {u0 u1 u2 u : Value} {us : List Value} {W : World} (h : BX g (u0 :: u1 :: u2 :: u :: us) W) : W.frozen? ⟨g, 3, none⟩ = false := h.fr 3 (by simp)
theorem BX.f4 {g : Nat} {u0 u1 u2 u3 u : Value} {us : List Value} {W : World} (h : BX g (u0 :: u1 :: u2 :: u3 :: u :: us) W) : W.frozen? ⟨g, 4, none⟩ = false := h.fr 4 (by simp)
theorem BX.cells5 {g : Nat} {u0 u1 u2 u3 u4 : Value} {W : World} (h : BX g [u0, u1, u2, u3, u4] W) : W.cell? ⟨g, 0, none⟩ = some u0 ∧ W.cell? ⟨g, 1, none⟩ = some u1 ∧ W.cell? ⟨g, 2, none⟩ = some u2 ∧ W.cell? ⟨g, 3, none⟩ = some u3 ∧ W.cell? ⟨g, 4, none⟩ = some u4 := h.bx.cells5
end Go.Proofs.YtkfeajjpbmbmpaaGreatDoor
