/-
  What a growing world keeps: lattices (three numbers) that lie in blocks of their own read the same behind calls, new blocks and stores elsewhere. No condition.
-/
import Derived.Test.YtodkomaeljbhaaaKeep
namespace Go.Proofs.Ytodkomaeljbhaaa
open Go.RowKit

def Kt (g : Nat) (a b c : Int) (W : World) : Prop :=
  g < W.heap.size ∧ W.cell? ⟨g, 0, none⟩ = some (.int .i64 a) ∧ W.cell? ⟨g, 1, none⟩ = some (.int .i64 b) ∧ W.cell? ⟨g, 2, none⟩ = some (.int .i64 c)
theorem Kt.cells {g : Nat} {a b c : Int} {W : World} (h : Kt g a b c W) : W.cell? ⟨g, 0, none⟩ = some (.int .i64 a) ∧ W.cell? ⟨g, 1, none⟩ = some (.int .i64 b) ∧ W.cell? ⟨g, 2, none⟩ = some (.int .i64 c) := h.2
theorem Kt.c0 {g : Nat} {a b c : Int} {W : World} (h : Kt g a b c W) : W.cell? ⟨g, 0, none⟩ = some (.int .i64 a) := h.2.1
theorem Kt.c1 {g : Nat} {a b c : Int} {W : World} (h : Kt g a b c W) : W.cell? ⟨g, 1, none⟩ = some (.int .i64 b) := h.2.2.1
theorem Kt.c2 {g : Nat} {a b c : Int} {W : World} (h : Kt g a b c W) : W.cell? ⟨g, 2, none⟩ = some (.int .i64 c) := h.2.2.2
theorem Kt.grow {g B : Nat} {a b c : Int} {W w1 : World} (h : Kt g a b c W) (hb : Below B W w1) (hg : g < B) : Kt g a b c w1 := by
  obtain ⟨h0, h1, h2, h3⟩ := h
  have hs := hb.size
  exact ⟨by omega, by rw [hb.cell (by show g < _; omega)]; exact h1, by rw [hb.cell (by show g < _; omega)]; exact h2, by rw [hb.cell (by show g < _; omega)]; exact h3⟩
theorem Kt.call {g : Nat} {a b c : Int} {W w1 : World} (h : Kt g a b c W) (hb : Below W.heap.size W w1) : Kt g a b c w1 := h.grow hb h.1
theorem Kt.alloc {g : Nat} {a b c : Int} {W : World} (h : Kt g a b c W) (o : Obj) : Kt g a b c (W.alloc o) := h.call ((Below.refl _ _).alloc (Nat.le_refl _) _)
theorem Kt.drew {g : Nat} {a b c : Int} {W : World} (h : Kt g a b c W) : Kt g a b c W.drew := h.call (Below.refl _ _).drew
theorem Kt.put {g : Nat} {a b c : Int} {W : World} {p : Addr} {u : Value} (hp : g < p.block) (h : Kt g a b c W) : Kt g a b c (W.setCell p u) :=
  h.grow (B := g + 1) ((Below.refl _ _).setCell (by omega) u) (Nat.lt_succ_self _)
theorem Kt.at {w : World} {a b c : Int} {T : TypeId} (R : Nat) (hR : R = w.heap.size) : Kt R a b c (w.alloc (.cells #[.int .i64 a, .int .i64 b, .int .i64 c] T)) := by
  subst hR
  refine ⟨by simp, ?_, ?_, ?_⟩ <;> simp [go_sem]
theorem Kg.at3 {w : World} {a b : Int} {T : TypeId} (R : Nat) (hR : R = w.heap.size) : Kg R a b (w.alloc (.cells #[.int .i64 a, .int .i64 b] T)) := by
  subst hR
  refine ⟨by simp, ?_, ?_⟩ <;> simp [go_sem]

/- a block of 3 numbers that may be written -/
structure KL (R : Nat) (a b c : Int) (W : World) : Prop where
  lt : R < W.heap.size
  c0 : W.cell? ⟨R, 0, none⟩ = some (.int .i64 a)
  c1 : W.cell? ⟨R, 1, none⟩ = some (.int .i64 b)
  c2 : W.cell? ⟨R, 2, none⟩ = some (.int .i64 c)
  f0 : W.frozen? ⟨R, 0, none⟩ = false
  f1 : W.frozen? ⟨R, 1, none⟩ = false
  f2 : W.frozen? ⟨R, 2, none⟩ = false
theorem KL.at {w : World} {a b c : Int} {T : TypeId} (R : Nat) (hR : R = w.heap.size) : KL R a b c (w.alloc (.cells #[.int .i64 a, .int .i64 b, .int .i64 c] T)) := by
  subst hR
  refine ⟨by simp, ?_, ?_, ?_, ?_, ?_, ?_⟩ <;> simp [go_sem]
theorem KL.grow {R B : Nat} {a b c : Int} {W w1 : World} (h : KL R a b c W) (hb : Below B W w1) (hg : R < B) : KL R a b c w1 :=
  ⟨Nat.lt_of_lt_of_le h.lt hb.size, by rw [hb.cell hg]; exact h.c0, by rw [hb.cell hg]; exact h.c1, by rw [hb.cell hg]; exact h.c2, by rw [hb.frozen hg]; exact h.f0, by rw [hb.frozen hg]; exact h.f1, by rw [hb.frozen hg]; exact h.f2⟩
theorem KL.call {R : Nat} {a b c : Int} {W w1 : World} (h : KL R a b c W) (hb : Below W.heap.size W w1) : KL R a b c w1 := h.grow hb h.lt
theorem KL.alloc {R : Nat} {a b c : Int} {W : World} (h : KL R a b c W) (o : Obj) : KL R a b c (W.alloc o) := h.call ((Below.refl _ _).alloc (Nat.le_refl _) _)
theorem KL.drew {R : Nat} {a b c : Int} {W : World} (h : KL R a b c W) : KL R a b c W.drew := h.call (Below.refl _ _).drew
theorem KL.put {R : Nat} {a b c : Int} {W : World} {p : Addr} {u : Value} (hp : R < p.block) (h : KL R a b c W) : KL R a b c (W.setCell p u) :=
  h.grow (B := R + 1) ((Below.refl _ _).setCell (by omega) u) (Nat.lt_succ_self _)
theorem KL.far {R : Nat} {a b c : Int} {W : World} {q : Addr} {u : Value} (hq : q.block ≠ R) (h : KL R a b c W) : KL R a b c (W.setCell q u) := by
  have hh : (W.setCell q u).heap[R]? = W.heap[R]? := Below.heap_setCell _ _ _ _ (by omega)
  exact ⟨by simpa [World.setCell] using h.lt, (World.cell?_of_block (w := W) hh).trans h.c0, (World.cell?_of_block (w := W) hh).trans h.c1, (World.cell?_of_block (w := W) hh).trans h.c2, (World.frozen?_of_block (w := W) hh).trans h.f0, (World.frozen?_of_block (w := W) hh).trans h.f1, (World.frozen?_of_block (w := W) hh).trans h.f2⟩
theorem KL.store {R : Nat} {a b c : Int} {W : World} (h : KL R a b c W) (a' b' c' : Int) : KL R a' b' c' (((W.setCell ⟨R, 0, none⟩ (.int .i64 a')).setCell ⟨R, 1, none⟩ (.int .i64 b')).setCell ⟨R, 2, none⟩ (.int .i64 c')) := by
  obtain ⟨h0, h1, h2, h3, h4, h5, h6⟩ := h
  refine ⟨by simpa [World.setCell] using h0, ?_, ?_, ?_, ?_, ?_, ?_⟩ <;> simp [go_sem, *]
theorem KL.store0 {R : Nat} {a b c : Int} {W : World} (h : KL R a b c W) (u : Int) : KL R u b c (W.setCell ⟨R, 0, none⟩ (.int .i64 u)) := by
  obtain ⟨h0, h1, h2, h3, h4, h5, h6⟩ := h
  refine ⟨by simpa [World.setCell] using h0, ?_, ?_, ?_, ?_, ?_, ?_⟩ <;> simp [go_sem, *]
theorem KL.store1 {R : Nat} {a b c : Int} {W : World} (h : KL R a b c W) (u : Int) : KL R a u c (W.setCell ⟨R, 1, none⟩ (.int .i64 u)) := by
  obtain ⟨h0, h1, h2, h3, h4, h5, h6⟩ := h
  refine ⟨by simpa [World.setCell] using h0, ?_, ?_, ?_, ?_, ?_, ?_⟩ <;> simp [go_sem, *]
theorem KL.store2 {R : Nat} {a b c : Int} {W : World} (h : KL R a b c W) (u : Int) : KL R a b u (W.setCell ⟨R, 2, none⟩ (.int .i64 u)) := by
  obtain ⟨h0, h1, h2, h3, h4, h5, h6⟩ := h
  refine ⟨by simpa [World.setCell] using h0, ?_, ?_, ?_, ?_, ?_, ?_⟩ <;> simp [go_sem, *]

/- a block of 2 numbers that may be written -/
structure KW (R : Nat) (a b : Int) (W : World) : Prop where
  lt : R < W.heap.size
  c0 : W.cell? ⟨R, 0, none⟩ = some (.int .i64 a)
  c1 : W.cell? ⟨R, 1, none⟩ = some (.int .i64 b)
  f0 : W.frozen? ⟨R, 0, none⟩ = false
  f1 : W.frozen? ⟨R, 1, none⟩ = false
theorem KW.at {w : World} {a b : Int} {T : TypeId} (R : Nat) (hR : R = w.heap.size) : KW R a b (w.alloc (.cells #[.int .i64 a, .int .i64 b] T)) := by
  subst hR
  refine ⟨by simp, ?_, ?_, ?_, ?_⟩ <;> simp [go_sem]
theorem KW.grow {R B : Nat} {a b : Int} {W w1 : World} (h : KW R a b W) (hb : Below B W w1) (hg : R < B) : KW R a b w1 :=
  ⟨Nat.lt_of_lt_of_le h.lt hb.size, by rw [hb.cell hg]; exact h.c0, by rw [hb.cell hg]; exact h.c1, by rw [hb.frozen hg]; exact h.f0, by rw [hb.frozen hg]; exact h.f1⟩
theorem KW.call {R : Nat} {a b : Int} {W w1 : World} (h : KW R a b W) (hb : Below W.heap.size W w1) : KW R a b w1 := h.grow hb h.lt
theorem KW.alloc {R : Nat} {a b : Int} {W : World} (h : KW R a b W) (o : Obj) : KW R a b (W.alloc o) := h.call ((Below.refl _ _).alloc (Nat.le_refl _) _)
theorem KW.drew {R : Nat} {a b : Int} {W : World} (h : KW R a b W) : KW R a b W.drew := h.call (Below.refl _ _).drew
theorem KW.put {R : Nat} {a b : Int} {W : World} {p : Addr} {u : Value} (hp : R < p.block) (h : KW R a b W) : KW R a b (W.setCell p u) :=
  h.grow (B := R + 1) ((Below.refl _ _).setCell (by omega) u) (Nat.lt_succ_self _)
theorem KW.far {R : Nat} {a b : Int} {W : World} {q : Addr} {u : Value} (hq : q.block ≠ R) (h : KW R a b W) : KW R a b (W.setCell q u) := by
  have hh : (W.setCell q u).heap[R]? = W.heap[R]? := Below.heap_setCell _ _ _ _ (by omega)
  exact ⟨by simpa [World.setCell] using h.lt, (World.cell?_of_block (w := W) hh).trans h.c0, (World.cell?_of_block (w := W) hh).trans h.c1, (World.frozen?_of_block (w := W) hh).trans h.f0, (World.frozen?_of_block (w := W) hh).trans h.f1⟩
theorem KW.store {R : Nat} {a b : Int} {W : World} (h : KW R a b W) (a' b' : Int) : KW R a' b' ((W.setCell ⟨R, 0, none⟩ (.int .i64 a')).setCell ⟨R, 1, none⟩ (.int .i64 b')) := by
  obtain ⟨h0, h1, h2, h3, h4⟩ := h
  refine ⟨by simpa [World.setCell] using h0, ?_, ?_, ?_, ?_⟩ <;> simp [go_sem, *]
theorem KW.store0 {R : Nat} {a b : Int} {W : World} (h : KW R a b W) (u : Int) : KW R u b (W.setCell ⟨R, 0, none⟩ (.int .i64 u)) := by
  obtain ⟨h0, h1, h2, h3, h4⟩ := h
  refine ⟨by simpa [World.setCell] using h0, ?_, ?_, ?_, ?_⟩ <;> simp [go_sem, *]
theorem KW.store1 {R : Nat} {a b : Int} {W : World} (h : KW R a b W) (u : Int) : KW R a u (W.setCell ⟨R, 1, none⟩ (.int .i64 u)) := by
  obtain ⟨h0, h1, h2, h3, h4⟩ := h
  refine ⟨by simpa [World.setCell] using h0, ?_, ?_, ?_, ?_⟩ <;> simp [go_sem, *]
theorem KL.kt {R : Nat} {a b c : Int} {W : World} (h : KL R a b c W) : Kt R a b c W := ⟨h.lt, h.c0, h.c1, h.c2⟩
theorem KW.kg {R : Nat} {a b : Int} {W : World} (h : KW R a b W) : Kg R a b W := ⟨h.lt, h.c0, h.c1⟩

end Go.Proofs.Ytodkomaeljbhaaa
