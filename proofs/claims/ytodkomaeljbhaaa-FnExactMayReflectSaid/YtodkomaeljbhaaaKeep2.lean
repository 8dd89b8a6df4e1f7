/-
  What a growing world keeps: matrices (four numbers) that lie in blocks of their own read the same behind calls, new blocks and stores elsewhere. No condition.
-/
import Derived.Test.YtodkomaeljbhaaaKeep
import Derived.Test.YtodkomaeljbhaaaMat1
namespace Go.Proofs.Ytodkomaeljbhaaa
open Go.RowKit

/- one matrix in one block -/
def Kq (g : Nat) (a b c d : Int) (W : World) : Prop :=
  g < W.heap.size ∧ W.cell? ⟨g, 0, none⟩ = some (.int .i64 a) ∧ W.cell? ⟨g, 1, none⟩ = some (.int .i64 b) ∧ W.cell? ⟨g, 2, none⟩ = some (.int .i64 c) ∧ W.cell? ⟨g, 3, none⟩ = some (.int .i64 d)
theorem Kq.cells {g : Nat} {a b c d : Int} {W : World} (h : Kq g a b c d W) : W.cell? ⟨g, 0, none⟩ = some (.int .i64 a) ∧ W.cell? ⟨g, 1, none⟩ = some (.int .i64 b) ∧ W.cell? ⟨g, 2, none⟩ = some (.int .i64 c) ∧ W.cell? ⟨g, 3, none⟩ = some (.int .i64 d) := h.2
theorem Kq.c0 {g : Nat} {a b c d : Int} {W : World} (h : Kq g a b c d W) : W.cell? ⟨g, 0, none⟩ = some (.int .i64 a) := h.2.1
theorem Kq.c1 {g : Nat} {a b c d : Int} {W : World} (h : Kq g a b c d W) : W.cell? ⟨g, 1, none⟩ = some (.int .i64 b) := h.2.2.1
theorem Kq.c2 {g : Nat} {a b c d : Int} {W : World} (h : Kq g a b c d W) : W.cell? ⟨g, 2, none⟩ = some (.int .i64 c) := h.2.2.2.1
theorem Kq.c3 {g : Nat} {a b c d : Int} {W : World} (h : Kq g a b c d W) : W.cell? ⟨g, 3, none⟩ = some (.int .i64 d) := h.2.2.2.2
theorem Kq.grow {g B : Nat} {a b c d : Int} {W w1 : World} (h : Kq g a b c d W) (hb : Below B W w1) (hg : g < B) : Kq g a b c d w1 := by
  obtain ⟨h0, h1, h2, h3, h4⟩ := h
  have hs := hb.size
  exact ⟨by omega, by rw [hb.cell (by show g < _; omega)]; exact h1, by rw [hb.cell (by show g < _; omega)]; exact h2, by rw [hb.cell (by show g < _; omega)]; exact h3, by rw [hb.cell (by show g < _; omega)]; exact h4⟩
theorem Kq.call {g : Nat} {a b c d : Int} {W w1 : World} (h : Kq g a b c d W) (hb : Below W.heap.size W w1) : Kq g a b c d w1 := h.grow hb h.1
theorem Kq.alloc {g : Nat} {a b c d : Int} {W : World} (h : Kq g a b c d W) (o : Obj) : Kq g a b c d (W.alloc o) := h.call ((Below.refl _ _).alloc (Nat.le_refl _) _)
theorem Kq.drew {g : Nat} {a b c d : Int} {W : World} (h : Kq g a b c d W) : Kq g a b c d W.drew := h.call (Below.refl _ _).drew
theorem Kq.put {g : Nat} {a b c d : Int} {W : World} {p : Addr} {u : Value} (hp : g < p.block) (h : Kq g a b c d W) : Kq g a b c d (W.setCell p u) :=
  h.grow (B := g + 1) ((Below.refl _ _).setCell (by omega) u) (Nat.lt_succ_self _)
theorem Kq.at {w : World} {a b c d : Int} {T : TypeId} (R : Nat) (hR : R = w.heap.size) : Kq R a b c d (w.alloc (.cells #[.int .i64 a, .int .i64 b, .int .i64 c, .int .i64 d] T)) := by
  subst hR
  refine ⟨by simp, ?_, ?_, ?_, ?_⟩ <;> simp [go_sem]
theorem Kg.at2 {w : World} {a b : Int} {T : TypeId} (R : Nat) (hR : R = w.heap.size) : Kg R a b (w.alloc (.cells #[.int .i64 a, .int .i64 b] T)) := by
  subst hR
  refine ⟨by simp, ?_, ?_⟩ <;> simp [go_sem]

/- a matrix's block that may be written -/
structure KR (R : Nat) (a b c d : Int) (W : World) : Prop where
  lt : R < W.heap.size
  c0 : W.cell? ⟨R, 0, none⟩ = some (.int .i64 a)
  c1 : W.cell? ⟨R, 1, none⟩ = some (.int .i64 b)
  c2 : W.cell? ⟨R, 2, none⟩ = some (.int .i64 c)
  c3 : W.cell? ⟨R, 3, none⟩ = some (.int .i64 d)
  f0 : W.frozen? ⟨R, 0, none⟩ = false
  f1 : W.frozen? ⟨R, 1, none⟩ = false
  f2 : W.frozen? ⟨R, 2, none⟩ = false
  f3 : W.frozen? ⟨R, 3, none⟩ = false
theorem KR.kq {R : Nat} {a b c d : Int} {W : World} (h : KR R a b c d W) : Kq R a b c d W := ⟨h.lt, h.c0, h.c1, h.c2, h.c3⟩
theorem KR.at {w : World} {a b c d : Int} {T : TypeId} (R : Nat) (hR : R = w.heap.size) : KR R a b c d (w.alloc (.cells #[.int .i64 a, .int .i64 b, .int .i64 c, .int .i64 d] T)) := by
  subst hR
  refine ⟨by simp, ?_, ?_, ?_, ?_, ?_, ?_, ?_, ?_⟩ <;> simp [go_sem]
theorem KR.grow {R B : Nat} {a b c d : Int} {W w1 : World} (h : KR R a b c d W) (hb : Below B W w1) (hg : R < B) : KR R a b c d w1 :=
  ⟨Nat.lt_of_lt_of_le h.lt hb.size, by rw [hb.cell hg]; exact h.c0, by rw [hb.cell hg]; exact h.c1, by rw [hb.cell hg]; exact h.c2, by rw [hb.cell hg]; exact h.c3, by rw [hb.frozen hg]; exact h.f0, by rw [hb.frozen hg]; exact h.f1, by rw [hb.frozen hg]; exact h.f2, by rw [hb.frozen hg]; exact h.f3⟩
theorem KR.call {R : Nat} {a b c d : Int} {W w1 : World} (h : KR R a b c d W) (hb : Below W.heap.size W w1) : KR R a b c d w1 := h.grow hb h.lt
theorem KR.alloc {R : Nat} {a b c d : Int} {W : World} (h : KR R a b c d W) (o : Obj) : KR R a b c d (W.alloc o) := h.call ((Below.refl _ _).alloc (Nat.le_refl _) _)
theorem KR.drew {R : Nat} {a b c d : Int} {W : World} (h : KR R a b c d W) : KR R a b c d W.drew := h.call (Below.refl _ _).drew
theorem KR.put {R : Nat} {a b c d : Int} {W : World} {p : Addr} {u : Value} (hp : R < p.block) (h : KR R a b c d W) : KR R a b c d (W.setCell p u) :=
  h.grow (B := R + 1) ((Below.refl _ _).setCell (by omega) u) (Nat.lt_succ_self _)

/- a vector's block that may be written -/
structure KV (R : Nat) (a b : Int) (W : World) : Prop where
  lt : R < W.heap.size
  c0 : W.cell? ⟨R, 0, none⟩ = some (.int .i64 a)
  c1 : W.cell? ⟨R, 1, none⟩ = some (.int .i64 b)
  f0 : W.frozen? ⟨R, 0, none⟩ = false
  f1 : W.frozen? ⟨R, 1, none⟩ = false
theorem KV.at {w : World} {a b : Int} {T : TypeId} (R : Nat) (hR : R = w.heap.size) : KV R a b (w.alloc (.cells #[.int .i64 a, .int .i64 b] T)) := by
  subst hR
  refine ⟨by simp, ?_, ?_, ?_, ?_⟩ <;> simp [go_sem]
theorem KV.grow {R B : Nat} {a b : Int} {W w1 : World} (h : KV R a b W) (hb : Below B W w1) (hg : R < B) : KV R a b w1 :=
  ⟨Nat.lt_of_lt_of_le h.lt hb.size, by rw [hb.cell hg]; exact h.c0, by rw [hb.cell hg]; exact h.c1, by rw [hb.frozen hg]; exact h.f0, by rw [hb.frozen hg]; exact h.f1⟩
theorem KV.call {R : Nat} {a b : Int} {W w1 : World} (h : KV R a b W) (hb : Below W.heap.size W w1) : KV R a b w1 := h.grow hb h.lt
theorem KV.alloc {R : Nat} {a b : Int} {W : World} (h : KV R a b W) (o : Obj) : KV R a b (W.alloc o) := h.call ((Below.refl _ _).alloc (Nat.le_refl _) _)
theorem KV.drew {R : Nat} {a b : Int} {W : World} (h : KV R a b W) : KV R a b W.drew := h.call (Below.refl _ _).drew
theorem KV.put {R : Nat} {a b : Int} {W : World} {p : Addr} {u : Value} (hp : R < p.block) (h : KV R a b W) : KV R a b (W.setCell p u) :=
  h.grow (B := R + 1) ((Below.refl _ _).setCell (by omega) u) (Nat.lt_succ_self _)

/- two matrices, a matrix and a vector: all cells at once -/
theorem Kq.two {g g' : Nat} {a b c d a' b' c' d' : Int} {W : World} (h : Kq g a b c d W) (h' : Kq g' a' b' c' d' W) :
    (W.cell? ⟨g, 0, none⟩ = some (.int .i64 a) ∧ W.cell? ⟨g, 1, none⟩ = some (.int .i64 b) ∧ W.cell? ⟨g, 2, none⟩ = some (.int .i64 c) ∧ W.cell? ⟨g, 3, none⟩ = some (.int .i64 d)) ∧
    W.cell? ⟨g', 0, none⟩ = some (.int .i64 a') ∧ W.cell? ⟨g', 1, none⟩ = some (.int .i64 b') ∧ W.cell? ⟨g', 2, none⟩ = some (.int .i64 c') ∧ W.cell? ⟨g', 3, none⟩ = some (.int .i64 d') := ⟨h.2, h'.2⟩
theorem Kq.vec {g g' : Nat} {a b c d x y : Int} {W : World} (h : Kq g a b c d W) (h' : Kg g' x y W) :
    (W.cell? ⟨g, 0, none⟩ = some (.int .i64 a) ∧ W.cell? ⟨g, 1, none⟩ = some (.int .i64 b) ∧ W.cell? ⟨g, 2, none⟩ = some (.int .i64 c) ∧ W.cell? ⟨g, 3, none⟩ = some (.int .i64 d)) ∧
    W.cell? ⟨g', 0, none⟩ = some (.int .i64 x) ∧ W.cell? ⟨g', 1, none⟩ = some (.int .i64 y) := ⟨h.2, h'.2⟩

end Go.Proofs.Ytodkomaeljbhaaa
