/-
  A slice whose elements are structs of int64 fields, as a row of numbers in a block of its own: what calls and stores leave of it. No condition.
-/
import Derived.Test.YtodkomaeljbhaaaBase
import Derived.Laws.OwnMore
import Derived.OwnWalk
import Derived.WalkSmall
import Derived.LoopTactic
namespace Go.Proofs.Ytodkomaeljbhaaa
open Go.RowKit

def IRow (g N : Nat) (F : Nat → Int) (W : World) : Prop := g < W.heap.size ∧ ∀ t, t < N → W.cell? ⟨g, t, none⟩ = some (.int .i64 (F t)) ∧ W.frozen? ⟨g, t, none⟩ = false
theorem IRow.grow {g N B : Nat} {F : Nat → Int} {W w1 : World} (h : IRow g N F W) (hb : Below B W w1) (hg : g < B) : IRow g N F w1 :=
  ⟨Nat.lt_of_lt_of_le h.1 hb.size, fun t ht => ⟨by rw [hb.cell (p := ⟨g, t, none⟩) hg]; exact (h.2 t ht).1, by rw [hb.frozen (p := ⟨g, t, none⟩) hg]; exact (h.2 t ht).2⟩⟩
theorem IRow.call {g N : Nat} {F : Nat → Int} {W w1 : World} (h : IRow g N F W) (hb : Below W.heap.size W w1) : IRow g N F w1 := h.grow hb h.1
theorem IRow.at {g N : Nat} {F : Nat → Int} {W : World} (h : IRow g N F W) (t : Nat) (ht : t < N) : W.cell? ⟨g, t, none⟩ = some (.int .i64 (F t)) := (h.2 t ht).1
theorem IRow.free {g N : Nat} {F : Nat → Int} {W : World} (h : IRow g N F W) (t : Nat) (ht : t < N) : W.frozen? ⟨g, t, none⟩ = false := (h.2 t ht).2
theorem IRow.put {g N : Nat} {F : Nat → Int} {W : World} (h : IRow g N F W) (s : Nat) (hs : s < N) (z : Int) : IRow g N (fun t => if t = s then z else F t) (W.setCell ⟨g, s, none⟩ (.int .i64 z)) := by
  refine ⟨by simpa [World.setCell] using h.1, fun t ht => ⟨?_, by rw [World.frozen?_setCell]; exact (h.2 t ht).2⟩⟩
  by_cases e : t = s
  · subst e
    rw [World.cell?_setCell_same _ _ _ (h.2 t ht).1]; simp
  · have hx : (⟨g, s, none⟩ : Addr) ≠ ⟨g, t, none⟩ := fun h' => e (congrArg Addr.off h').symm
    rw [World.cell?_setCell_other (w := W) (a := ⟨g, s, none⟩) (b := ⟨g, t, none⟩) (h := hx), (h.2 t ht).1]
    simp only [e, if_false]
theorem IRow.ext {g N : Nat} {F F' : Nat → Int} {W : World} (h : IRow g N F W) (he : ∀ t, t < N → F t = F' t) : IRow g N F' W := ⟨h.1, fun t ht => by rw [← he t ht]; exact h.2 t ht⟩

def Ko2 (g o : Nat) (a b : Int) (W : World) : Prop := g < W.heap.size ∧ W.cell? ⟨g, o, none⟩ = some (.int .i64 a) ∧ W.cell? ⟨g, o + 1, none⟩ = some (.int .i64 b)
theorem Ko2.cells {g o : Nat} {a b : Int} {W : World} (h : Ko2 g o a b W) : W.cell? ⟨g, o, none⟩ = some (.int .i64 a) ∧ W.cell? ⟨g, o + 1, none⟩ = some (.int .i64 b) := h.2
theorem Ko2.call {g o : Nat} {a b : Int} {W w1 : World} (h : Ko2 g o a b W) (hb : Below W.heap.size W w1) : Ko2 g o a b w1 := ⟨Nat.lt_of_lt_of_le h.1 hb.size, by rw [hb.cell (p := ⟨g, o, none⟩) h.1]; exact h.2.1, by rw [hb.cell (p := ⟨g, o + 1, none⟩) h.1]; exact h.2.2⟩
theorem Ko2.alloc {g o : Nat} {a b : Int} {W : World} (h : Ko2 g o a b W) (x : Obj) : Ko2 g o a b (W.alloc x) := h.call ((Below.refl _ _).alloc (Nat.le_refl _) _)
theorem Ko2.drew {g o : Nat} {a b : Int} {W : World} (h : Ko2 g o a b W) : Ko2 g o a b W.drew := h.call (Below.refl _ _).drew
theorem IRow.ko2 {g N : Nat} {F : Nat → Int} {W : World} (h : IRow g N F W) (o : Nat) (ho : o + 1 < N) : Ko2 g o (F (o)) (F (o + 1)) W := ⟨h.1, h.at (o) (by omega), h.at (o + 1) (by omega)⟩
def Ko3 (g o : Nat) (a b c : Int) (W : World) : Prop := g < W.heap.size ∧ W.cell? ⟨g, o, none⟩ = some (.int .i64 a) ∧ W.cell? ⟨g, o + 1, none⟩ = some (.int .i64 b) ∧ W.cell? ⟨g, o + 2, none⟩ = some (.int .i64 c)
theorem Ko3.cells {g o : Nat} {a b c : Int} {W : World} (h : Ko3 g o a b c W) : W.cell? ⟨g, o, none⟩ = some (.int .i64 a) ∧ W.cell? ⟨g, o + 1, none⟩ = some (.int .i64 b) ∧ W.cell? ⟨g, o + 2, none⟩ = some (.int .i64 c) := h.2
theorem Ko3.call {g o : Nat} {a b c : Int} {W w1 : World} (h : Ko3 g o a b c W) (hb : Below W.heap.size W w1) : Ko3 g o a b c w1 := ⟨Nat.lt_of_lt_of_le h.1 hb.size, by rw [hb.cell (p := ⟨g, o, none⟩) h.1]; exact h.2.1, by rw [hb.cell (p := ⟨g, o + 1, none⟩) h.1]; exact h.2.2.1, by rw [hb.cell (p := ⟨g, o + 2, none⟩) h.1]; exact h.2.2.2⟩
theorem Ko3.alloc {g o : Nat} {a b c : Int} {W : World} (h : Ko3 g o a b c W) (x : Obj) : Ko3 g o a b c (W.alloc x) := h.call ((Below.refl _ _).alloc (Nat.le_refl _) _)
theorem Ko3.drew {g o : Nat} {a b c : Int} {W : World} (h : Ko3 g o a b c W) : Ko3 g o a b c W.drew := h.call (Below.refl _ _).drew
theorem IRow.ko3 {g N : Nat} {F : Nat → Int} {W : World} (h : IRow g N F W) (o : Nat) (ho : o + 2 < N) : Ko3 g o (F (o)) (F (o + 1)) (F (o + 2)) W := ⟨h.1, h.at (o) (by omega), h.at (o + 1) (by omega), h.at (o + 2) (by omega)⟩

/- a slice that is either empty or such a row, in a block from lo up and below hi -/
def SRow (lo hi K : Nat) (v : Value) (n : Nat) (F : Nat → Int) (W : World) : Prop :=
  hi ≤ W.heap.size ∧ n ≤ 2000000 ∧ ((n = 0 ∧ ∃ ao cap, v = .slice ao 0 cap) ∨ ∃ g cap, v = .slice (some ⟨g, 0, none⟩) n cap ∧ lo ≤ g ∧ g < hi ∧ IRow g (n * K) F W)
theorem SRow.grow {lo hi K n B : Nat} {v : Value} {F : Nat → Int} {W w1 : World} (h : SRow lo hi K v n F W) (hb : Below B W w1) (hB : hi ≤ B) : SRow lo hi K v n F w1 := by
  obtain ⟨h1, h2, h3⟩ := h
  refine ⟨Nat.le_trans h1 hb.size, h2, ?_⟩
  rcases h3 with h3 | ⟨g, cap, e, hl, hh, hr⟩
  · exact .inl h3
  · exact .inr ⟨g, cap, e, hl, hh, hr.grow hb (by omega)⟩
theorem SRow.call {lo hi K n : Nat} {v : Value} {F : Nat → Int} {W w1 : World} (h : SRow lo hi K v n F W) (hb : Below W.heap.size W w1) : SRow lo hi K v n F w1 := h.grow hb h.1
theorem SRow.nil (lo K : Nat) (F : Nat → Int) (W : World) : SRow lo W.heap.size K (.slice none 0 0) 0 F W := ⟨Nat.le_refl _, by omega, .inl ⟨rfl, none, 0, rfl⟩⟩
theorem ownsRow_lower {w : World} {base base' : Nat} {e : TypeId} {size : Nat} {v : Value} {n : Nat} {xs : List Value} (h : w.ownsRow base e size v n xs) (hb : base' ≤ base) : w.ownsRow base' e size v n xs := by
  obtain ⟨h1, h2⟩ := h
  refine ⟨h1, ?_⟩
  rcases h2 with h2 | ⟨g, cap, cur, rfl, hg, r⟩
  · exact .inl h2
  · exact .inr ⟨g, cap, cur, rfl, Nat.le_trans hb hg, r⟩
def intAt (l : List Value) (j : Nat) : Int := match l[j]? with | some (.int _ z) => z | _ => 0
theorem intAt_eq {l : List Value} (h : ∀ u ∈ l, ∃ z, u = .int .i64 z) {j : Nat} (hj : j < l.length) : l[j]? = some (.int .i64 (intAt l j)) := by
  obtain ⟨z, hz⟩ := h l[j] (List.getElem_mem hj)
  rw [List.getElem?_eq_getElem hj, intAt, List.getElem?_eq_getElem hj, hz]
theorem SRow.of {lo K n : Nat} {e : TypeId} {v : Value} {l : List Value} {W : World} (h : W.ownsRow lo e K v n l) (hi : ∀ u ∈ l, ∃ z, u = .int .i64 z) (hn : n ≤ 1000000) : SRow lo W.heap.size K v n (intAt l) W := by
  refine ⟨Nat.le_refl _, Nat.le_trans hn (by omega), ?_⟩
  rcases h.2 with ⟨rfl, rfl⟩ | ⟨g, cap, cur, rfl, _⟩
  · exact .inl ⟨rfl, none, 0, rfl⟩
  · have hl := h.lt g rfl
    refine .inr ⟨g, cap, rfl, hl.1, hl.2, hl.2, fun t ht => ⟨?_, h.frozenAt t⟩⟩
    rw [h.cellAt t ht]
    exact intAt_eq hi (by rw [h.1]; exact ht)

end Go.Proofs.Ytodkomaeljbhaaa
