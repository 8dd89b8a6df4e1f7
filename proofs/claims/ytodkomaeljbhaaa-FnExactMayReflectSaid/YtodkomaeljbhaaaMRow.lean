/-
  A slice of motions as a list of six numbers each, in a block of its own: its cells, what an append leaves, what calls leave of one of its motions. No condition.
-/
import Derived.Test.YtodkomaeljbhaaaRowF
import Derived.Maps.AppendAt
import Derived.Deep.RegionHeld3
import Derived.IntWalk
import Derived.Test.YtodkomaeljbhaaaMat1
import Derived.Test.YtodkomaeljbhaaaKeep5
namespace Go.Proofs.Ytodkomaeljbhaaa
open Go.RowKit
set_option linter.unusedSimpArgs false
set_option linter.unusedVariables false

abbrev M6 := Int × Int × Int × Int × Int × Int
def cells6 (xs : List M6) : List Value := xs.flatMap (fun t => [.int .i64 t.1, .int .i64 t.2.1, .int .i64 t.2.2.1, .int .i64 t.2.2.2.1, .int .i64 t.2.2.2.2.1, .int .i64 t.2.2.2.2.2])
theorem cells6_len (xs : List M6) : (cells6 xs).length = xs.length * 6 := by
  induction xs with
  | nil => rfl
  | cons a t ih => simp only [cells6, List.flatMap_cons, List.length_append, List.length_cons, List.length_nil] at *; omega
theorem cells6_snoc (xs : List M6) (t : M6) : cells6 (xs ++ [t]) = cells6 xs ++ [.int .i64 t.1, .int .i64 t.2.1, .int .i64 t.2.2.1, .int .i64 t.2.2.2.1, .int .i64 t.2.2.2.2.1, .int .i64 t.2.2.2.2.2] := by simp [cells6]
theorem cells6_app (xs ys : List M6) : cells6 (xs ++ ys) = cells6 xs ++ cells6 ys := by simp [cells6]
theorem cells6_int (xs : List M6) : ∀ u ∈ cells6 xs, ∃ z, u = .int .i64 z := by
  intro u hu
  obtain ⟨t, _, ht⟩ := List.mem_flatMap.1 hu
  simp only [List.mem_cons, List.not_mem_nil, or_false] at ht
  rcases ht with rfl | rfl | rfl | rfl | rfl | rfl <;> exact ⟨_, rfl⟩
theorem cells6_get : ∀ (xs : List M6) (i : Nat) (h : i < xs.length), (cells6 xs)[i * 6]? = some (.int .i64 xs[i].1) ∧ (cells6 xs)[i * 6 + 1]? = some (.int .i64 xs[i].2.1) ∧ (cells6 xs)[i * 6 + 2]? = some (.int .i64 xs[i].2.2.1) ∧ (cells6 xs)[i * 6 + 3]? = some (.int .i64 xs[i].2.2.2.1) ∧ (cells6 xs)[i * 6 + 4]? = some (.int .i64 xs[i].2.2.2.2.1) ∧ (cells6 xs)[i * 6 + 5]? = some (.int .i64 xs[i].2.2.2.2.2)
  | [], i, h => absurd h (by simp)
  | t :: xs, 0, _ => by simp [cells6]
  | t :: xs, i + 1, h => by
    have hs := cells6_get xs i (by simpa using h)
    have e : cells6 (t :: xs) = [.int .i64 t.1, .int .i64 t.2.1, .int .i64 t.2.2.1, .int .i64 t.2.2.2.1, .int .i64 t.2.2.2.2.1, .int .i64 t.2.2.2.2.2] ++ cells6 xs := by simp [cells6]
    rw [e]
    have st : ∀ j, ([.int .i64 t.1, .int .i64 t.2.1, .int .i64 t.2.2.1, .int .i64 t.2.2.2.1, .int .i64 t.2.2.2.2.1, .int .i64 t.2.2.2.2.2] ++ cells6 xs)[(i + 1) * 6 + j]? = (cells6 xs)[i * 6 + j]? := by
      intro j
      rw [List.getElem?_append_right (by simp; omega)]
      congr 1
      simp only [List.length_cons, List.length_nil]
      omega
    have s0 := st 0
    simp only [Nat.add_zero] at s0
    simp only [List.getElem_cons_succ]
    exact ⟨s0.trans hs.1, (st 1).trans hs.2.1, (st 2).trans hs.2.2.1, (st 3).trans hs.2.2.2.1, (st 4).trans hs.2.2.2.2.1, (st 5).trans hs.2.2.2.2.2⟩
def fm (xs : List M6) (t : Nat) : Int := intAt (cells6 xs) t
theorem fm_get (xs : List M6) (i : Nat) (h : i < xs.length) : fm xs (i * 6) = xs[i].1 ∧ fm xs (i * 6 + 1) = xs[i].2.1 ∧ fm xs (i * 6 + 2) = xs[i].2.2.1 ∧ fm xs (i * 6 + 3) = xs[i].2.2.2.1 ∧ fm xs (i * 6 + 4) = xs[i].2.2.2.2.1 ∧ fm xs (i * 6 + 5) = xs[i].2.2.2.2.2 := by
  have hg := cells6_get xs i h
  refine ⟨?_, ?_, ?_, ?_, ?_, ?_⟩ <;> simp [fm, intAt, hg]
theorem one_six {a b c d x y : Int} : ∀ u ∈ [Value.int .i64 a, .int .i64 b, .int .i64 c, .int .i64 d, .int .i64 x, .int .i64 y], u.oneCell' = true := by
  intro u hu
  simp only [List.mem_cons, List.not_mem_nil, or_false] at hu
  rcases hu with rfl | rfl | rfl | rfl | rfl | rfl <;> rfl
theorem new_six {W : World} {g : Nat} (T : TypeId) (a b c d x y : Value) (hg : g = W.heap.size) : ∀ (j : Nat) (u : Value), [a, b, c, d, x, y][j]? = some u → (W.alloc (.cells #[a, b, c, d, x, y] T)).cell? ((⟨g, 0, none⟩ : Addr).add j) = some u := by
  intro j u hj
  subst hg
  match j, hj with
  | 0, h => cases h; simp [go_sem]
  | 1, h => cases h; simp [go_sem]
  | 2, h => cases h; simp [go_sem]
  | 3, h => cases h; simp [go_sem]
  | 4, h => cases h; simp [go_sem]
  | 5, h => cases h; simp [go_sem]
  | j + 6, h => simp at h
theorem own_next6 {w1 : World} {base : Nat} {e : TypeId} {v : Value} {xs : List M6} {a b c d x y : Int} (h : w1.ownsRow base e 6 v (xs.length + 1) (cells6 xs ++ [.int .i64 a, .int .i64 b, .int .i64 c, .int .i64 d, .int .i64 x, .int .i64 y])) : w1.ownsRow base e 6 v (xs ++ [(a, b, c, d, x, y)]).length (cells6 (xs ++ [(a, b, c, d, x, y)])) := by
  rw [List.length_append, cells6_snoc]; exact h
theorem own_nil6 (w : World) (base : Nat) (e : TypeId) : w.ownsRow base e 6 (.slice none 0 0) ([] : List M6).length (cells6 []) := World.ownsRow_nil w base e 6
/- one motion of a row -/
def Ko6 (g o : Nat) (a b c d x y : Int) (W : World) : Prop := g < W.heap.size ∧ W.cell? ⟨g, o, none⟩ = some (.int .i64 a) ∧ W.cell? ⟨g, o + 1, none⟩ = some (.int .i64 b) ∧ W.cell? ⟨g, o + 2, none⟩ = some (.int .i64 c) ∧ W.cell? ⟨g, o + 3, none⟩ = some (.int .i64 d) ∧ W.cell? ⟨g, o + 4, none⟩ = some (.int .i64 x) ∧ W.cell? ⟨g, o + 5, none⟩ = some (.int .i64 y)
theorem Ko6.cells {g o : Nat} {a b c d x y : Int} {W : World} (h : Ko6 g o a b c d x y W) : W.cell? ⟨g, o, none⟩ = some (.int .i64 a) ∧ W.cell? ⟨g, o + 1, none⟩ = some (.int .i64 b) ∧ W.cell? ⟨g, o + 2, none⟩ = some (.int .i64 c) ∧ W.cell? ⟨g, o + 3, none⟩ = some (.int .i64 d) ∧ W.cell? ⟨g, o + 4, none⟩ = some (.int .i64 x) ∧ W.cell? ⟨g, o + 5, none⟩ = some (.int .i64 y) := h.2
theorem Ko6.call {g o : Nat} {a b c d x y : Int} {W w1 : World} (h : Ko6 g o a b c d x y W) (hb : Below W.heap.size W w1) : Ko6 g o a b c d x y w1 := by
  obtain ⟨h0, h1, h2, h3, h4, h5, h6⟩ := h
  exact ⟨Nat.lt_of_lt_of_le h0 hb.size, by rw [hb.cell (p := ⟨g, o, none⟩) h0]; exact h1, by rw [hb.cell (p := ⟨g, o + 1, none⟩) h0]; exact h2, by rw [hb.cell (p := ⟨g, o + 2, none⟩) h0]; exact h3, by rw [hb.cell (p := ⟨g, o + 3, none⟩) h0]; exact h4, by rw [hb.cell (p := ⟨g, o + 4, none⟩) h0]; exact h5, by rw [hb.cell (p := ⟨g, o + 5, none⟩) h0]; exact h6⟩
theorem Ko6.alloc {g o : Nat} {a b c d x y : Int} {W : World} (h : Ko6 g o a b c d x y W) (z : Obj) : Ko6 g o a b c d x y (W.alloc z) := h.call ((Below.refl _ _).alloc (Nat.le_refl _) _)
theorem Ko6.drew {g o : Nat} {a b c d x y : Int} {W : World} (h : Ko6 g o a b c d x y W) : Ko6 g o a b c d x y W.drew := h.call (Below.refl _ _).drew
theorem Ko6.put {g o : Nat} {a b c d x y : Int} {W : World} {q : Addr} {u : Value} (hq : q.block ≠ g) (h : Ko6 g o a b c d x y W) : Ko6 g o a b c d x y (W.setCell q u) := by
  have hh : (W.setCell q u).heap[g]? = W.heap[g]? := Below.heap_setCell _ _ _ _ (by omega)
  obtain ⟨h0, h1, h2, h3, h4, h5, h6⟩ := h
  exact ⟨by simpa [World.setCell] using h0, (World.cell?_of_block (w := W) hh).trans h1, (World.cell?_of_block (w := W) hh).trans h2, (World.cell?_of_block (w := W) hh).trans h3, (World.cell?_of_block (w := W) hh).trans h4, (World.cell?_of_block (w := W) hh).trans h5, (World.cell?_of_block (w := W) hh).trans h6⟩
theorem IRow.ko6 {g N : Nat} {F : Nat → Int} {W : World} (h : IRow g N F W) (o : Nat) (ho : o + 5 < N) : Ko6 g o (F (o)) (F (o + 1)) (F (o + 2)) (F (o + 3)) (F (o + 4)) (F (o + 5)) W := ⟨h.1, h.at (o) (by omega), h.at (o + 1) (by omega), h.at (o + 2) (by omega), h.at (o + 3) (by omega), h.at (o + 4) (by omega), h.at (o + 5) (by omega)⟩
theorem IRow.mo {g : Nat} {xs : List M6} {W : World} (h : IRow g (xs.length * 6) (fm xs) W) (i : Nat) (hi : i < xs.length) : Ko6 g (i * 6) xs[i].1 xs[i].2.1 xs[i].2.2.1 xs[i].2.2.2.1 xs[i].2.2.2.2.1 xs[i].2.2.2.2.2 W := by
  have k := h.ko6 (i * 6) (by omega)
  obtain ⟨e0, e1, e2, e3, e4, e5⟩ := fm_get xs i hi
  rwa [e0, e1, e2, e3, e4, e5] at k
theorem SRow.of6 {lo : Nat} {xs : List M6} {e : TypeId} {v : Value} {W : World} (h : W.ownsRow lo e 6 v xs.length (cells6 xs)) (hn : xs.length ≤ 1000000) : SRow lo W.heap.size 6 v xs.length (fm xs) W := SRow.of h (cells6_int xs) hn
end Go.Proofs.Ytodkomaeljbhaaa
