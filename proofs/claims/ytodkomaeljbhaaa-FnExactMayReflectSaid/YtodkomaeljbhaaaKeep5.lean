/-
  What a growing world keeps: motions (six numbers) that lie in blocks of their own read the same behind calls, new blocks and stores elsewhere. No condition.
-/
import Derived.Test.YtodkomaeljbhaaaKeep2
namespace Go.Proofs.Ytodkomaeljbhaaa
open Go.RowKit

def Km (g : Nat) (a b c d x y : Int) (W : World) : Prop := g < W.heap.size ∧ W.cell? ⟨g, 0, none⟩ = some (.int .i64 a) ∧ W.cell? ⟨g, 1, none⟩ = some (.int .i64 b) ∧ W.cell? ⟨g, 2, none⟩ = some (.int .i64 c) ∧ W.cell? ⟨g, 3, none⟩ = some (.int .i64 d) ∧ W.cell? ⟨g, 4, none⟩ = some (.int .i64 x) ∧ W.cell? ⟨g, 5, none⟩ = some (.int .i64 y)
theorem Km.cells {g : Nat} {a b c d x y : Int} {W : World} (h : Km g a b c d x y W) : W.cell? ⟨g, 0, none⟩ = some (.int .i64 a) ∧ W.cell? ⟨g, 1, none⟩ = some (.int .i64 b) ∧ W.cell? ⟨g, 2, none⟩ = some (.int .i64 c) ∧ W.cell? ⟨g, 3, none⟩ = some (.int .i64 d) ∧ W.cell? ⟨g, 4, none⟩ = some (.int .i64 x) ∧ W.cell? ⟨g, 5, none⟩ = some (.int .i64 y) := h.2
theorem Km.c0 {g : Nat} {a b c d x y : Int} {W : World} (h : Km g a b c d x y W) : W.cell? ⟨g, 0, none⟩ = some (.int .i64 a) := h.2.1
theorem Km.c1 {g : Nat} {a b c d x y : Int} {W : World} (h : Km g a b c d x y W) : W.cell? ⟨g, 1, none⟩ = some (.int .i64 b) := h.2.2.1
theorem Km.c2 {g : Nat} {a b c d x y : Int} {W : World} (h : Km g a b c d x y W) : W.cell? ⟨g, 2, none⟩ = some (.int .i64 c) := h.2.2.2.1
theorem Km.c3 {g : Nat} {a b c d x y : Int} {W : World} (h : Km g a b c d x y W) : W.cell? ⟨g, 3, none⟩ = some (.int .i64 d) := h.2.2.2.2.1
theorem Km.c4 {g : Nat} {a b c d x y : Int} {W : World} (h : Km g a b c d x y W) : W.cell? ⟨g, 4, none⟩ = some (.int .i64 x) := h.2.2.2.2.2.1
theorem Km.c5 {g : Nat} {a b c d x y : Int} {W : World} (h : Km g a b c d x y W) : W.cell? ⟨g, 5, none⟩ = some (.int .i64 y) := h.2.2.2.2.2.2
theorem Km.grow {g B : Nat} {a b c d x y : Int} {W w1 : World} (h : Km g a b c d x y W) (hb : Below B W w1) (hg : g < B) : Km g a b c d x y w1 := by
  obtain ⟨h0, h1, h2, h3, h4, h5, h6⟩ := h
  have hs := hb.size
  exact ⟨by omega, by rw [hb.cell (by show g < _; omega)]; exact h1, by rw [hb.cell (by show g < _; omega)]; exact h2, by rw [hb.cell (by show g < _; omega)]; exact h3, by rw [hb.cell (by show g < _; omega)]; exact h4, by rw [hb.cell (by show g < _; omega)]; exact h5, by rw [hb.cell (by show g < _; omega)]; exact h6⟩
theorem Km.call {g : Nat} {a b c d x y : Int} {W w1 : World} (h : Km g a b c d x y W) (hb : Below W.heap.size W w1) : Km g a b c d x y w1 := h.grow hb h.1
theorem Km.alloc {g : Nat} {a b c d x y : Int} {W : World} (h : Km g a b c d x y W) (o : Obj) : Km g a b c d x y (W.alloc o) := h.call ((Below.refl _ _).alloc (Nat.le_refl _) _)
theorem Km.drew {g : Nat} {a b c d x y : Int} {W : World} (h : Km g a b c d x y W) : Km g a b c d x y W.drew := h.call (Below.refl _ _).drew
theorem Km.put {g : Nat} {a b c d x y : Int} {W : World} {p : Addr} {u : Value} (hp : g < p.block) (h : Km g a b c d x y W) : Km g a b c d x y (W.setCell p u) :=
  h.grow (B := g + 1) ((Below.refl _ _).setCell (by omega) u) (Nat.lt_succ_self _)
theorem Km.far {R : Nat} {a b c d x y : Int} {W : World} {q : Addr} {u : Value} (hq : q.block ≠ R) (h : Km R a b c d x y W) : Km R a b c d x y (W.setCell q u) := by
  have hh : (W.setCell q u).heap[R]? = W.heap[R]? := Below.heap_setCell _ _ _ _ (by omega)
  exact ⟨by simpa [World.setCell] using h.1, (World.cell?_of_block (w := W) hh).trans h.c0, (World.cell?_of_block (w := W) hh).trans h.c1, (World.cell?_of_block (w := W) hh).trans h.c2, (World.cell?_of_block (w := W) hh).trans h.c3, (World.cell?_of_block (w := W) hh).trans h.c4, (World.cell?_of_block (w := W) hh).trans h.c5⟩
theorem Km.at {w : World} {a b c d x y : Int} {T : TypeId} (R : Nat) (hR : R = w.heap.size) : Km R a b c d x y (w.alloc (.cells #[.int .i64 a, .int .i64 b, .int .i64 c, .int .i64 d, .int .i64 x, .int .i64 y] T)) := by
  subst hR
  refine ⟨by simp, ?_, ?_, ?_, ?_, ?_, ?_⟩ <;> simp [go_sem]

/- a block of 6 numbers that may be written -/
structure KM (R : Nat) (a b c d x y : Int) (W : World) : Prop where
  lt : R < W.heap.size
  c0 : W.cell? ⟨R, 0, none⟩ = some (.int .i64 a)
  c1 : W.cell? ⟨R, 1, none⟩ = some (.int .i64 b)
  c2 : W.cell? ⟨R, 2, none⟩ = some (.int .i64 c)
  c3 : W.cell? ⟨R, 3, none⟩ = some (.int .i64 d)
  c4 : W.cell? ⟨R, 4, none⟩ = some (.int .i64 x)
  c5 : W.cell? ⟨R, 5, none⟩ = some (.int .i64 y)
  f0 : W.frozen? ⟨R, 0, none⟩ = false
  f1 : W.frozen? ⟨R, 1, none⟩ = false
  f2 : W.frozen? ⟨R, 2, none⟩ = false
  f3 : W.frozen? ⟨R, 3, none⟩ = false
  f4 : W.frozen? ⟨R, 4, none⟩ = false
  f5 : W.frozen? ⟨R, 5, none⟩ = false
theorem KM.km {R : Nat} {a b c d x y : Int} {W : World} (h : KM R a b c d x y W) : Km R a b c d x y W := ⟨h.lt, h.c0, h.c1, h.c2, h.c3, h.c4, h.c5⟩
theorem KM.at {w : World} {a b c d x y : Int} {T : TypeId} (R : Nat) (hR : R = w.heap.size) : KM R a b c d x y (w.alloc (.cells #[.int .i64 a, .int .i64 b, .int .i64 c, .int .i64 d, .int .i64 x, .int .i64 y] T)) := by
  subst hR
  refine ⟨by simp, ?_, ?_, ?_, ?_, ?_, ?_, ?_, ?_, ?_, ?_, ?_, ?_⟩ <;> simp [go_sem]
theorem KM.grow {R B : Nat} {a b c d x y : Int} {W w1 : World} (h : KM R a b c d x y W) (hb : Below B W w1) (hg : R < B) : KM R a b c d x y w1 :=
  ⟨Nat.lt_of_lt_of_le h.lt hb.size, by rw [hb.cell hg]; exact h.c0, by rw [hb.cell hg]; exact h.c1, by rw [hb.cell hg]; exact h.c2, by rw [hb.cell hg]; exact h.c3, by rw [hb.cell hg]; exact h.c4, by rw [hb.cell hg]; exact h.c5, by rw [hb.frozen hg]; exact h.f0, by rw [hb.frozen hg]; exact h.f1, by rw [hb.frozen hg]; exact h.f2, by rw [hb.frozen hg]; exact h.f3, by rw [hb.frozen hg]; exact h.f4, by rw [hb.frozen hg]; exact h.f5⟩
theorem KM.call {R : Nat} {a b c d x y : Int} {W w1 : World} (h : KM R a b c d x y W) (hb : Below W.heap.size W w1) : KM R a b c d x y w1 := h.grow hb h.lt
theorem KM.alloc {R : Nat} {a b c d x y : Int} {W : World} (h : KM R a b c d x y W) (o : Obj) : KM R a b c d x y (W.alloc o) := h.call ((Below.refl _ _).alloc (Nat.le_refl _) _)
theorem KM.drew {R : Nat} {a b c d x y : Int} {W : World} (h : KM R a b c d x y W) : KM R a b c d x y W.drew := h.call (Below.refl _ _).drew
theorem KM.put {R : Nat} {a b c d x y : Int} {W : World} {p : Addr} {u : Value} (hp : R < p.block) (h : KM R a b c d x y W) : KM R a b c d x y (W.setCell p u) :=
  h.grow (B := R + 1) ((Below.refl _ _).setCell (by omega) u) (Nat.lt_succ_self _)
theorem KM.far {R : Nat} {a b c d x y : Int} {W : World} {q : Addr} {u : Value} (hq : q.block ≠ R) (h : KM R a b c d x y W) : KM R a b c d x y (W.setCell q u) := by
  have hh : (W.setCell q u).heap[R]? = W.heap[R]? := Below.heap_setCell _ _ _ _ (by omega)
  exact ⟨by simpa [World.setCell] using h.lt, (World.cell?_of_block (w := W) hh).trans h.c0, (World.cell?_of_block (w := W) hh).trans h.c1, (World.cell?_of_block (w := W) hh).trans h.c2, (World.cell?_of_block (w := W) hh).trans h.c3, (World.cell?_of_block (w := W) hh).trans h.c4, (World.cell?_of_block (w := W) hh).trans h.c5, (World.frozen?_of_block (w := W) hh).trans h.f0, (World.frozen?_of_block (w := W) hh).trans h.f1, (World.frozen?_of_block (w := W) hh).trans h.f2, (World.frozen?_of_block (w := W) hh).trans h.f3, (World.frozen?_of_block (w := W) hh).trans h.f4, (World.frozen?_of_block (w := W) hh).trans h.f5⟩
theorem KM.storeT {R : Nat} {a b c d x y : Int} {W : World} (h : KM R a b c d x y W) (x' y' : Int) : KM R a b c d x' y' ((W.setCell ⟨R, 4, none⟩ (.int .i64 x')).setCell ⟨R, 5, none⟩ (.int .i64 y')) := by
  obtain ⟨h0, h1, h2, h3, h4, h5, h6, h7, h8, h9, h10, h11, h12⟩ := h
  refine ⟨by simpa [World.setCell] using h0, ?_, ?_, ?_, ?_, ?_, ?_, ?_, ?_, ?_, ?_, ?_, ?_⟩ <;> simp [go_sem, *]
theorem KM.storeM {R : Nat} {a b c d x y : Int} {W : World} (h : KM R a b c d x y W) (a' b' c' d' : Int) : KM R a' b' c' d' x y ((((W.setCell ⟨R, 0, none⟩ (.int .i64 a')).setCell ⟨R, 1, none⟩ (.int .i64 b')).setCell ⟨R, 2, none⟩ (.int .i64 c')).setCell ⟨R, 3, none⟩ (.int .i64 d')) := by
  obtain ⟨h0, h1, h2, h3, h4, h5, h6, h7, h8, h9, h10, h11, h12⟩ := h
  refine ⟨by simpa [World.setCell] using h0, ?_, ?_, ?_, ?_, ?_, ?_, ?_, ?_, ?_, ?_, ?_, ?_⟩ <;> simp [go_sem, *]
theorem KM.store {R : Nat} {a b c d x y : Int} {W : World} (h : KM R a b c d x y W) (a' b' c' d' x' y' : Int) : KM R a' b' c' d' x' y' ((((((W.setCell ⟨R, 0, none⟩ (.int .i64 a')).setCell ⟨R, 1, none⟩ (.int .i64 b')).setCell ⟨R, 2, none⟩ (.int .i64 c')).setCell ⟨R, 3, none⟩ (.int .i64 d')).setCell ⟨R, 4, none⟩ (.int .i64 x')).setCell ⟨R, 5, none⟩ (.int .i64 y')) := by
  obtain ⟨h0, h1, h2, h3, h4, h5, h6, h7, h8, h9, h10, h11, h12⟩ := h
  refine ⟨by simpa [World.setCell] using h0, ?_, ?_, ?_, ?_, ?_, ?_, ?_, ?_, ?_, ?_, ?_, ?_⟩ <;> simp [go_sem, *]
theorem KV.store5 {R : Nat} {a b : Int} {W : World} (h : KV R a b W) (a' b' : Int) : KV R a' b' ((W.setCell ⟨R, 0, none⟩ (.int .i64 a')).setCell ⟨R, 1, none⟩ (.int .i64 b')) := by
  obtain ⟨h0, h1, h2, h3, h4⟩ := h
  refine ⟨by simpa [World.setCell] using h0, ?_, ?_, ?_, ?_⟩ <;> simp [go_sem, *]
theorem KV.cells5 {R : Nat} {a b : Int} {W : World} (h : KV R a b W) : W.cell? ⟨R, 0, none⟩ = some (.int .i64 a) ∧ W.cell? ⟨R, 1, none⟩ = some (.int .i64 b) := ⟨h.c0, h.c1⟩
theorem KR.cells5 {R : Nat} {a b c d : Int} {W : World} (h : KR R a b c d W) : W.cell? ⟨R, 0, none⟩ = some (.int .i64 a) ∧ W.cell? ⟨R, 1, none⟩ = some (.int .i64 b) ∧ W.cell? ⟨R, 2, none⟩ = some (.int .i64 c) ∧ W.cell? ⟨R, 3, none⟩ = some (.int .i64 d) := ⟨h.c0, h.c1, h.c2, h.c3⟩
theorem KM.cells5 {R : Nat} {a b c d x y : Int} {W : World} (h : KM R a b c d x y W) : W.cell? ⟨R, 0, none⟩ = some (.int .i64 a) ∧ W.cell? ⟨R, 1, none⟩ = some (.int .i64 b) ∧ W.cell? ⟨R, 2, none⟩ = some (.int .i64 c) ∧ W.cell? ⟨R, 3, none⟩ = some (.int .i64 d) ∧ W.cell? ⟨R, 4, none⟩ = some (.int .i64 x) ∧ W.cell? ⟨R, 5, none⟩ = some (.int .i64 y) := h.km.2
theorem KV.far5 {R : Nat} {a b : Int} {W : World} {q : Addr} {u : Value} (hq : q.block ≠ R) (h : KV R a b W) : KV R a b (W.setCell q u) := by
  have hh : (W.setCell q u).heap[R]? = W.heap[R]? := Below.heap_setCell _ _ _ _ (by omega)
  exact ⟨by simpa [World.setCell] using h.lt, (World.cell?_of_block (w := W) hh).trans h.c0, (World.cell?_of_block (w := W) hh).trans h.c1, (World.frozen?_of_block (w := W) hh).trans h.f0, (World.frozen?_of_block (w := W) hh).trans h.f1⟩
end Go.Proofs.Ytodkomaeljbhaaa
