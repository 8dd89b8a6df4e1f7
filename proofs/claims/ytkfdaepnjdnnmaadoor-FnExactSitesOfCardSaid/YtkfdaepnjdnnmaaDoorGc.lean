/-
  Several of my texts in one: Chap1, Mat1, Keep2, M4, MatO, MoF, Keep5, MRow, MoE.
-/
import Derived.Test.YtkfdaepnjdnnmaaDoorGa
import Derived.LoopTactic
import Derived.Deep.RegionHeld3
import Derived.Maps.AppendAt
import Derived.IntWalk
namespace Go.Proofs.YtkfdaepnjdnnmaaDoor
section
open Go.RowKit
set_option linter.unusedSimpArgs false

end
end Go.Proofs.YtkfdaepnjdnnmaaDoor

namespace Go.Proofs.YtkfdaepnjdnnmaaDoor
section
open Go.RowKit
set_option linter.unusedSimpArgs false
set_option linter.unusedVariables false

def limB (a b c d : Int) : Bool := vecB a b && vecB c d
def matB (a b c d : Int) : Bool := limB a b c d && (a * d - b * c == 1 || a * d - b * c == -1)
theorem limB_bd {a b c d : Int} (h : limB a b c d = true) : ((-1000 ≤ a ∧ a ≤ 1000) ∧ (-1000 ≤ b ∧ b ≤ 1000)) ∧ ((-1000 ≤ c ∧ c ≤ 1000) ∧ (-1000 ≤ d ∧ d ≤ 1000)) := by
  simp [limB] at h
  exact ⟨vecB_bd h.1, vecB_bd h.2⟩
theorem mulBd {a b : Int} {A B : Int} (ha : -A ≤ a) (ha' : a ≤ A) (hb : -B ≤ b) (hb' : b ≤ B) : -(A * B) ≤ a * b ∧ a * b ≤ A * B := by
  have hA : 0 ≤ A := by omega
  have hB : 0 ≤ B := by omega
  have h1 : a.natAbs ≤ A.natAbs := by omega
  have h2 : b.natAbs ≤ B.natAbs := by omega
  have h3 : (a * b).natAbs ≤ (A * B).natAbs := by
    rw [Int.natAbs_mul, Int.natAbs_mul]; exact Nat.mul_le_mul h1 h2
  have h4 : 0 ≤ A * B := Int.mul_nonneg hA hB
  omega
theorem mul1000 {a b : Int} (ha : -1000 ≤ a ∧ a ≤ 1000) (hb : -1000 ≤ b ∧ b ≤ 1000) : -1000000 ≤ a * b ∧ a * b ≤ 1000000 := by
  have := mulBd ha.1 ha.2 hb.1 hb.2
  omega

/- which numbers of a matrix have been looked at -/
set_option maxHeartbeats 1000000 in
theorem apply_any (a b c d x y : Int) (w : World) (h : limB a b c d = true) (hv : vecB x y = true) :
    Calls Tryd.prog 137 #[.agg #[.int .i64 a, .int .i64 b, .int .i64 c, .int .i64 d], .agg #[.int .i64 x, .int .i64 y]] w fun e w' => e = .returned (.agg #[.int .i64 (a * x + b * y), .int .i64 (c * x + d * y)]) ∧ Below w.heap.size w w' := by
  obtain ⟨⟨ha, hb⟩, hc, hd⟩ := limB_bd h
  obtain ⟨hx, hy⟩ := vecB_bd hv
  obtain ⟨b1, b2⟩ := mul1000 ha hx
  obtain ⟨b3, b4⟩ := mul1000 hb hy
  obtain ⟨b5, b6⟩ := mul1000 hc hx
  obtain ⟨b7, b8⟩ := mul1000 hd hy
  clear h hv ha hb hc hd hx hy
  go_enter Tryd.func137, Tryd.ntmps137
  go_wp2
  refine bodyPost_ret (v := .agg #[.int .i64 (a * x + b * y), .int .i64 (c * x + d * y)]) (by simp [results, Tryd.results137, go_sem]) rfl ⟨rfl, ?_⟩
  repeat (first | exact Below.refl _ _ | refine Below.setCell ?_ (by first | omega | (simp <;> omega)) _ | refine Below.alloc ?_ (by first | omega | (simp <;> omega)) _ | refine bstep ?_ (by assumption) | refine Below.drew ?_)

set_option maxHeartbeats 1000000 in
theorem l02Apply_any (a b c d x y : Int) (w : World) (h : limB a b c d = true) (hv : vecB x y = true) :
    Calls Tryd.prog 87 #[.agg #[.int .i64 a, .int .i64 b, .int .i64 c, .int .i64 d], .agg #[.int .i64 x, .int .i64 y]] w fun e w' => e = .returned (.agg #[.int .i64 (a * x + b * y), .int .i64 (c * x + d * y)]) ∧ Below w.heap.size w w' := by
  obtain ⟨⟨ha, hb⟩, hc, hd⟩ := limB_bd h
  obtain ⟨hx, hy⟩ := vecB_bd hv
  obtain ⟨b1, b2⟩ := mul1000 ha hx
  obtain ⟨b3, b4⟩ := mul1000 hb hy
  obtain ⟨b5, b6⟩ := mul1000 hc hx
  obtain ⟨b7, b8⟩ := mul1000 hd hy
  clear h hv ha hb hc hd hx hy
  go_enter Tryd.func87, Tryd.ntmps87
  go_wp2
  refine bodyPost_ret (v := .agg #[.int .i64 (a * x + b * y), .int .i64 (c * x + d * y)]) (by simp [results, Tryd.results87, go_sem]) rfl ⟨rfl, ?_⟩
  repeat (first | exact Below.refl _ _ | refine Below.setCell ?_ (by first | omega | (simp <;> omega)) _ | refine Below.alloc ?_ (by first | omega | (simp <;> omega)) _ | refine bstep ?_ (by assumption) | refine Below.drew ?_)

set_option maxHeartbeats 1000000 in
theorem l02Unit_any (w : World) :
    Calls Tryd.prog 102 #[] w fun e w' => e = .returned (.agg #[.int .i64 1, .int .i64 0, .int .i64 0, .int .i64 1]) ∧ Below w.heap.size w w' := by
  go_enter Tryd.func102, Tryd.ntmps102
  go_wp2
  refine bodyPost_ret (v := .agg #[.int .i64 1, .int .i64 0, .int .i64 0, .int .i64 1]) (by simp [results, Tryd.results102, go_sem]) rfl ⟨rfl, ?_⟩
  repeat (first | exact Below.refl _ _ | refine Below.setCell ?_ (by first | omega | (simp <;> omega)) _ | refine Below.alloc ?_ (by first | omega | (simp <;> omega)) _ | refine bstep ?_ (by assumption) | refine Below.drew ?_)
end
end Go.Proofs.YtkfdaepnjdnnmaaDoor

namespace Go.Proofs.YtkfdaepnjdnnmaaDoor
section
open Go.RowKit

/- one matrix in one block -/
def Kq (g : Nat) (a b c d : Int) (W : World) : Prop :=
  g < W.heap.size ∧ W.cell? ⟨g, 0, none⟩ = some (.int .i64 a) ∧ W.cell? ⟨g, 1, none⟩ = some (.int .i64 b) ∧ W.cell? ⟨g, 2, none⟩ = some (.int .i64 c) ∧ W.cell? ⟨g, 3, none⟩ = some (.int .i64 d)
theorem Kq.cells {g : Nat} {a b c d : Int} {W : World} (h : Kq g a b c d W) : W.cell? ⟨g, 0, none⟩ = some (.int .i64 a) ∧ W.cell? ⟨g, 1, none⟩ = some (.int .i64 b) ∧ W.cell? ⟨g, 2, none⟩ = some (.int .i64 c) ∧ W.cell? ⟨g, 3, none⟩ = some (.int .i64 d) := h.2
theorem Kq.c0 {g : Nat} {a b c d : Int} {W : World} (h : Kq g a b c d W) : W.cell? ⟨g, 0, none⟩ = some (.int .i64 a) := h.2.1
theorem Kq.c1 {g : Nat} {a b c d : Int} {W : World} (h : Kq g a b c d W) : W.cell? ⟨g, 1, none⟩ = some (.int .i64 b) := h.2.2.1
theorem Kq.c2 {g : Nat} {a b c d : Int} {W : World} (h : Kq g a b c d W) : W.cell? ⟨g, 2, none⟩ = some (.int .i64 c) := h.2.2.2.1
theorem Kq.c3 {g : Nat} {a b c d : Int} {W : World} (h : Kq g a b c d W) : W.cell? ⟨g, 3, none⟩ = some (.int .i64 d) := h.2.2.2.2
theorem Kq.grow {g B : Nat} {a b c d : Int} {W w1 : World} (h : Kq g a b c d W) (hb : Below B W w1) (hg : g < B) : Kq g a b c d w1 := by
  obtain ⟨h0, h1, h2, h3, h4⟩ := h
  have hs := hb.size
  exact ⟨by omega, by rw [hb.cell (by show g < _; omega)]; exact h1, by rw [hb.cell (by show g < _; omega)]; exact h2, by rw [hb.cell (by show g < _; omega)]; exact h3, by rw [hb.cell (by show g < _; omega)]; exact h4⟩
theorem Kq.call {g : Nat} {a b c d : Int} {W w1 : World} (h : Kq g a b c d W) (hb : Below W.heap.size W w1) : Kq g a b c d w1 := h.grow hb h.1
theorem Kq.alloc {g : Nat} {a b c d : Int} {W : World} (h : Kq g a b c d W) (o : Obj) : Kq g a b c d (W.alloc o) := h.call ((Below.refl _ _).alloc (Nat.le_refl _) _)
theorem Kq.drew {g : Nat} {a b c d : Int} {W : World} (h : Kq g a b c d W) : Kq g a b c d W.drew := h.call (Below.refl _ _).drew
theorem Kq.put {g : Nat} {a b c d : Int} {W : World} {p : Addr} {u : Value} (hp : g < p.block) (h : Kq g a b c d W) : Kq g a b c d (W.setCell p u) :=
  h.grow (B := g + 1) ((Below.refl _ _).setCell (by omega) u) (Nat.lt_succ_self _)
theorem Kq.at {w : World} {a b c d : Int} {T : TypeId} (R : Nat) (hR : R = w.heap.size) : Kq R a b c d (w.alloc (.cells #[.int .i64 a, .int .i64 b, .int .i64 c, .int .i64 d] T)) := by
  subst hR
  refine ⟨by simp, ?_, ?_, ?_, ?_⟩ <;> simp [go_sem]
theorem Kg.at2 {w : World} {a b : Int} {T : TypeId} (R : Nat) (hR : R = w.heap.size) : Kg R a b (w.alloc (.cells #[.int .i64 a, .int .i64 b] T)) := by
  subst hR
  refine ⟨by simp, ?_, ?_⟩ <;> simp [go_sem]

/- a matrix's block that may be written -/
structure KR (R : Nat) (a b c d : Int) (W : World) : Prop where
  lt : R < W.heap.size
  c0 : W.cell? ⟨R, 0, none⟩ = some (.int .i64 a)
  c1 : W.cell? ⟨R, 1, none⟩ = some (.int .i64 b)
  c2 : W.cell? ⟨R, 2, none⟩ = some (.int .i64 c)
  c3 : W.cell? ⟨R, 3, none⟩ = some (.int .i64 d)
  f0 : W.frozen? ⟨R, 0, none⟩ = false
  f1 : W.frozen? ⟨R, 1, none⟩ = false
  f2 : W.frozen? ⟨R, 2, none⟩ = false
  f3 : W.frozen? ⟨R, 3, none⟩ = false
theorem KR.at {w : World} {a b c d : Int} {T : TypeId} (R : Nat) (hR : R = w.heap.size) : KR R a b c d (w.alloc (.cells #[.int .i64 a, .int .i64 b, .int .i64 c, .int .i64 d] T)) := by
  subst hR
  refine ⟨by simp, ?_, ?_, ?_, ?_, ?_, ?_, ?_, ?_⟩ <;> simp [go_sem]
theorem KR.grow {R B : Nat} {a b c d : Int} {W w1 : World} (h : KR R a b c d W) (hb : Below B W w1) (hg : R < B) : KR R a b c d w1 :=
  ⟨Nat.lt_of_lt_of_le h.lt hb.size, by rw [hb.cell hg]; exact h.c0, by rw [hb.cell hg]; exact h.c1, by rw [hb.cell hg]; exact h.c2, by rw [hb.cell hg]; exact h.c3, by rw [hb.frozen hg]; exact h.f0, by rw [hb.frozen hg]; exact h.f1, by rw [hb.frozen hg]; exact h.f2, by rw [hb.frozen hg]; exact h.f3⟩
theorem KR.call {R : Nat} {a b c d : Int} {W w1 : World} (h : KR R a b c d W) (hb : Below W.heap.size W w1) : KR R a b c d w1 := h.grow hb h.lt
theorem KR.alloc {R : Nat} {a b c d : Int} {W : World} (h : KR R a b c d W) (o : Obj) : KR R a b c d (W.alloc o) := h.call ((Below.refl _ _).alloc (Nat.le_refl _) _)
theorem KR.drew {R : Nat} {a b c d : Int} {W : World} (h : KR R a b c d W) : KR R a b c d W.drew := h.call (Below.refl _ _).drew
theorem KR.put {R : Nat} {a b c d : Int} {W : World} {p : Addr} {u : Value} (hp : R < p.block) (h : KR R a b c d W) : KR R a b c d (W.setCell p u) :=
  h.grow (B := R + 1) ((Below.refl _ _).setCell (by omega) u) (Nat.lt_succ_self _)

/- a vector's block that may be written -/
structure KV (R : Nat) (a b : Int) (W : World) : Prop where
  lt : R < W.heap.size
  c0 : W.cell? ⟨R, 0, none⟩ = some (.int .i64 a)
  c1 : W.cell? ⟨R, 1, none⟩ = some (.int .i64 b)
  f0 : W.frozen? ⟨R, 0, none⟩ = false
  f1 : W.frozen? ⟨R, 1, none⟩ = false
theorem KV.at {w : World} {a b : Int} {T : TypeId} (R : Nat) (hR : R = w.heap.size) : KV R a b (w.alloc (.cells #[.int .i64 a, .int .i64 b] T)) := by
  subst hR
  refine ⟨by simp, ?_, ?_, ?_, ?_⟩ <;> simp [go_sem]
theorem KV.grow {R B : Nat} {a b : Int} {W w1 : World} (h : KV R a b W) (hb : Below B W w1) (hg : R < B) : KV R a b w1 :=
  ⟨Nat.lt_of_lt_of_le h.lt hb.size, by rw [hb.cell hg]; exact h.c0, by rw [hb.cell hg]; exact h.c1, by rw [hb.frozen hg]; exact h.f0, by rw [hb.frozen hg]; exact h.f1⟩
theorem KV.call {R : Nat} {a b : Int} {W w1 : World} (h : KV R a b W) (hb : Below W.heap.size W w1) : KV R a b w1 := h.grow hb h.lt
theorem KV.alloc {R : Nat} {a b : Int} {W : World} (h : KV R a b W) (o : Obj) : KV R a b (W.alloc o) := h.call ((Below.refl _ _).alloc (Nat.le_refl _) _)
theorem KV.drew {R : Nat} {a b : Int} {W : World} (h : KV R a b W) : KV R a b W.drew := h.call (Below.refl _ _).drew
theorem KV.put {R : Nat} {a b : Int} {W : World} {p : Addr} {u : Value} (hp : R < p.block) (h : KV R a b W) : KV R a b (W.setCell p u) :=
  h.grow (B := R + 1) ((Below.refl _ _).setCell (by omega) u) (Nat.lt_succ_self _)

/- two matrices, a matrix and a vector: all cells at once -/
theorem Kq.two {g g' : Nat} {a b c d a' b' c' d' : Int} {W : World} (h : Kq g a b c d W) (h' : Kq g' a' b' c' d' W) :
    (W.cell? ⟨g, 0, none⟩ = some (.int .i64 a) ∧ W.cell? ⟨g, 1, none⟩ = some (.int .i64 b) ∧ W.cell? ⟨g, 2, none⟩ = some (.int .i64 c) ∧ W.cell? ⟨g, 3, none⟩ = some (.int .i64 d)) ∧
    W.cell? ⟨g', 0, none⟩ = some (.int .i64 a') ∧ W.cell? ⟨g', 1, none⟩ = some (.int .i64 b') ∧ W.cell? ⟨g', 2, none⟩ = some (.int .i64 c') ∧ W.cell? ⟨g', 3, none⟩ = some (.int .i64 d') := ⟨h.2, h'.2⟩
theorem Kq.vec {g g' : Nat} {a b c d x y : Int} {W : World} (h : Kq g a b c d W) (h' : Kg g' x y W) :
    (W.cell? ⟨g, 0, none⟩ = some (.int .i64 a) ∧ W.cell? ⟨g, 1, none⟩ = some (.int .i64 b) ∧ W.cell? ⟨g, 2, none⟩ = some (.int .i64 c) ∧ W.cell? ⟨g, 3, none⟩ = some (.int .i64 d)) ∧
    W.cell? ⟨g', 0, none⟩ = some (.int .i64 x) ∧ W.cell? ⟨g', 1, none⟩ = some (.int .i64 y) := ⟨h.2, h'.2⟩
end
end Go.Proofs.YtkfdaepnjdnnmaaDoor

namespace Go.Proofs.YtkfdaepnjdnnmaaDoor
section
abbrev M4 := Int × Int × Int × Int
end
end Go.Proofs.YtkfdaepnjdnnmaaDoor

namespace Go.Proofs.YtkfdaepnjdnnmaaDoor
section

/- the order by trace and determinant -/
/- p times the matrix and q times the unit -/
/- a found order: all powers on the way are small, and the last is the unit -/
/- kinds -/
end
end Go.Proofs.YtkfdaepnjdnnmaaDoor

namespace Go.Proofs.YtkfdaepnjdnnmaaDoor
section
open Go.RowKit
set_option linter.unusedSimpArgs false
set_option linter.unusedVariables false

/- composition -/
def cmpI (a b c d x y a' b' c' d' x' y' : Int) : Int × Int × Int × Int × Int × Int := (a * a' + b * c', a * b' + b * d', c * a' + d * c', c * b' + d * d', a * x' + b * y' + x, c * x' + d * y' + y)
/- the way back -/
/- kinds and orders -/
/- centres -/
/- the centre is not moved -/
end
end Go.Proofs.YtkfdaepnjdnnmaaDoor

namespace Go.Proofs.YtkfdaepnjdnnmaaDoor
section
open Go.RowKit

def Km (g : Nat) (a b c d x y : Int) (W : World) : Prop := g < W.heap.size ∧ W.cell? ⟨g, 0, none⟩ = some (.int .i64 a) ∧ W.cell? ⟨g, 1, none⟩ = some (.int .i64 b) ∧ W.cell? ⟨g, 2, none⟩ = some (.int .i64 c) ∧ W.cell? ⟨g, 3, none⟩ = some (.int .i64 d) ∧ W.cell? ⟨g, 4, none⟩ = some (.int .i64 x) ∧ W.cell? ⟨g, 5, none⟩ = some (.int .i64 y)
theorem Km.cells {g : Nat} {a b c d x y : Int} {W : World} (h : Km g a b c d x y W) : W.cell? ⟨g, 0, none⟩ = some (.int .i64 a) ∧ W.cell? ⟨g, 1, none⟩ = some (.int .i64 b) ∧ W.cell? ⟨g, 2, none⟩ = some (.int .i64 c) ∧ W.cell? ⟨g, 3, none⟩ = some (.int .i64 d) ∧ W.cell? ⟨g, 4, none⟩ = some (.int .i64 x) ∧ W.cell? ⟨g, 5, none⟩ = some (.int .i64 y) := h.2
theorem Km.c0 {g : Nat} {a b c d x y : Int} {W : World} (h : Km g a b c d x y W) : W.cell? ⟨g, 0, none⟩ = some (.int .i64 a) := h.2.1
theorem Km.c1 {g : Nat} {a b c d x y : Int} {W : World} (h : Km g a b c d x y W) : W.cell? ⟨g, 1, none⟩ = some (.int .i64 b) := h.2.2.1
theorem Km.c2 {g : Nat} {a b c d x y : Int} {W : World} (h : Km g a b c d x y W) : W.cell? ⟨g, 2, none⟩ = some (.int .i64 c) := h.2.2.2.1
theorem Km.c3 {g : Nat} {a b c d x y : Int} {W : World} (h : Km g a b c d x y W) : W.cell? ⟨g, 3, none⟩ = some (.int .i64 d) := h.2.2.2.2.1
theorem Km.c4 {g : Nat} {a b c d x y : Int} {W : World} (h : Km g a b c d x y W) : W.cell? ⟨g, 4, none⟩ = some (.int .i64 x) := h.2.2.2.2.2.1
theorem Km.c5 {g : Nat} {a b c d x y : Int} {W : World} (h : Km g a b c d x y W) : W.cell? ⟨g, 5, none⟩ = some (.int .i64 y) := h.2.2.2.2.2.2
theorem Km.grow {g B : Nat} {a b c d x y : Int} {W w1 : World} (h : Km g a b c d x y W) (hb : Below B W w1) (hg : g < B) : Km g a b c d x y w1 := by
  obtain ⟨h0, h1, h2, h3, h4, h5, h6⟩ := h
  have hs := hb.size
  exact ⟨by omega, by rw [hb.cell (by show g < _; omega)]; exact h1, by rw [hb.cell (by show g < _; omega)]; exact h2, by rw [hb.cell (by show g < _; omega)]; exact h3, by rw [hb.cell (by show g < _; omega)]; exact h4, by rw [hb.cell (by show g < _; omega)]; exact h5, by rw [hb.cell (by show g < _; omega)]; exact h6⟩
theorem Km.call {g : Nat} {a b c d x y : Int} {W w1 : World} (h : Km g a b c d x y W) (hb : Below W.heap.size W w1) : Km g a b c d x y w1 := h.grow hb h.1
theorem Km.alloc {g : Nat} {a b c d x y : Int} {W : World} (h : Km g a b c d x y W) (o : Obj) : Km g a b c d x y (W.alloc o) := h.call ((Below.refl _ _).alloc (Nat.le_refl _) _)
theorem Km.drew {g : Nat} {a b c d x y : Int} {W : World} (h : Km g a b c d x y W) : Km g a b c d x y W.drew := h.call (Below.refl _ _).drew
theorem Km.put {g : Nat} {a b c d x y : Int} {W : World} {p : Addr} {u : Value} (hp : g < p.block) (h : Km g a b c d x y W) : Km g a b c d x y (W.setCell p u) :=
  h.grow (B := g + 1) ((Below.refl _ _).setCell (by omega) u) (Nat.lt_succ_self _)
theorem Km.far {R : Nat} {a b c d x y : Int} {W : World} {q : Addr} {u : Value} (hq : q.block ≠ R) (h : Km R a b c d x y W) : Km R a b c d x y (W.setCell q u) := by
  have hh : (W.setCell q u).heap[R]? = W.heap[R]? := Below.heap_setCell _ _ _ _ (by omega)
  exact ⟨by simpa [World.setCell] using h.1, (World.cell?_of_block (w := W) hh).trans h.c0, (World.cell?_of_block (w := W) hh).trans h.c1, (World.cell?_of_block (w := W) hh).trans h.c2, (World.cell?_of_block (w := W) hh).trans h.c3, (World.cell?_of_block (w := W) hh).trans h.c4, (World.cell?_of_block (w := W) hh).trans h.c5⟩
theorem Km.at {w : World} {a b c d x y : Int} {T : TypeId} (R : Nat) (hR : R = w.heap.size) : Km R a b c d x y (w.alloc (.cells #[.int .i64 a, .int .i64 b, .int .i64 c, .int .i64 d, .int .i64 x, .int .i64 y] T)) := by
  subst hR
  refine ⟨by simp, ?_, ?_, ?_, ?_, ?_, ?_⟩ <;> simp [go_sem]

/- a block of 6 numbers that may be written -/
structure KM (R : Nat) (a b c d x y : Int) (W : World) : Prop where
  lt : R < W.heap.size
  c0 : W.cell? ⟨R, 0, none⟩ = some (.int .i64 a)
  c1 : W.cell? ⟨R, 1, none⟩ = some (.int .i64 b)
  c2 : W.cell? ⟨R, 2, none⟩ = some (.int .i64 c)
  c3 : W.cell? ⟨R, 3, none⟩ = some (.int .i64 d)
  c4 : W.cell? ⟨R, 4, none⟩ = some (.int .i64 x)
  c5 : W.cell? ⟨R, 5, none⟩ = some (.int .i64 y)
  f0 : W.frozen? ⟨R, 0, none⟩ = false
  f1 : W.frozen? ⟨R, 1, none⟩ = false
  f2 : W.frozen? ⟨R, 2, none⟩ = false
  f3 : W.frozen? ⟨R, 3, none⟩ = false
  f4 : W.frozen? ⟨R, 4, none⟩ = false
  f5 : W.frozen? ⟨R, 5, none⟩ = false
theorem KM.km {R : Nat} {a b c d x y : Int} {W : World} (h : KM R a b c d x y W) : Km R a b c d x y W := ⟨h.lt, h.c0, h.c1, h.c2, h.c3, h.c4, h.c5⟩
theorem KM.at {w : World} {a b c d x y : Int} {T : TypeId} (R : Nat) (hR : R = w.heap.size) : KM R a b c d x y (w.alloc (.cells #[.int .i64 a, .int .i64 b, .int .i64 c, .int .i64 d, .int .i64 x, .int .i64 y] T)) := by
  subst hR
  refine ⟨by simp, ?_, ?_, ?_, ?_, ?_, ?_, ?_, ?_, ?_, ?_, ?_, ?_⟩ <;> simp [go_sem]
theorem KM.grow {R B : Nat} {a b c d x y : Int} {W w1 : World} (h : KM R a b c d x y W) (hb : Below B W w1) (hg : R < B) : KM R a b c d x y w1 :=
  ⟨Nat.lt_of_lt_of_le h.lt hb.size, by rw [hb.cell hg]; exact h.c0, by rw [hb.cell hg]; exact h.c1, by rw [hb.cell hg]; exact h.c2, by rw [hb.cell hg]; exact h.c3, by rw [hb.cell hg]; exact h.c4, by rw [hb.cell hg]; exact h.c5, by rw [hb.frozen hg]; exact h.f0, by rw [hb.frozen hg]; exact h.f1, by rw [hb.frozen hg]; exact h.f2, by rw [hb.frozen hg]; exact h.f3, by rw [hb.frozen hg]; exact h.f4, by rw [hb.frozen hg]; exact h.f5⟩
theorem KM.call {R : Nat} {a b c d x y : Int} {W w1 : World} (h : KM R a b c d x y W) (hb : Below W.heap.size W w1) : KM R a b c d x y w1 := h.grow hb h.lt
theorem KM.alloc {R : Nat} {a b c d x y : Int} {W : World} (h : KM R a b c d x y W) (o : Obj) : KM R a b c d x y (W.alloc o) := h.call ((Below.refl _ _).alloc (Nat.le_refl _) _)
theorem KM.drew {R : Nat} {a b c d x y : Int} {W : World} (h : KM R a b c d x y W) : KM R a b c d x y W.drew := h.call (Below.refl _ _).drew
theorem KM.put {R : Nat} {a b c d x y : Int} {W : World} {p : Addr} {u : Value} (hp : R < p.block) (h : KM R a b c d x y W) : KM R a b c d x y (W.setCell p u) :=
  h.grow (B := R + 1) ((Below.refl _ _).setCell (by omega) u) (Nat.lt_succ_self _)
theorem KM.far {R : Nat} {a b c d x y : Int} {W : World} {q : Addr} {u : Value} (hq : q.block ≠ R) (h : KM R a b c d x y W) : KM R a b c d x y (W.setCell q u) := by
  have hh : (W.setCell q u).heap[R]? = W.heap[R]? := Below.heap_setCell _ _ _ _ (by omega)
  exact ⟨by simpa [World.setCell] using h.lt, (World.cell?_of_block (w := W) hh).trans h.c0, (World.cell?_of_block (w := W) hh).trans h.c1, (World.cell?_of_block (w := W) hh).trans h.c2, (World.cell?_of_block (w := W) hh).trans h.c3, (World.cell?_of_block (w := W) hh).trans h.c4, (World.cell?_of_block (w := W) hh).trans h.c5, (World.frozen?_of_block (w := W) hh).trans h.f0, (World.frozen?_of_block (w := W) hh).trans h.f1, (World.frozen?_of_block (w := W) hh).trans h.f2, (World.frozen?_of_block (w := W) hh).trans h.f3, (World.frozen?_of_block (w := W) hh).trans h.f4, (World.frozen?_of_block (w := W) hh).trans h.f5⟩
theorem KM.store {R : Nat} {a b c d x y : Int} {W : World} (h : KM R a b c d x y W) (a' b' c' d' x' y' : Int) : KM R a' b' c' d' x' y' ((((((W.setCell ⟨R, 0, none⟩ (.int .i64 a')).setCell ⟨R, 1, none⟩ (.int .i64 b')).setCell ⟨R, 2, none⟩ (.int .i64 c')).setCell ⟨R, 3, none⟩ (.int .i64 d')).setCell ⟨R, 4, none⟩ (.int .i64 x')).setCell ⟨R, 5, none⟩ (.int .i64 y')) := by
  obtain ⟨h0, h1, h2, h3, h4, h5, h6, h7, h8, h9, h10, h11, h12⟩ := h
  refine ⟨by simpa [World.setCell] using h0, ?_, ?_, ?_, ?_, ?_, ?_, ?_, ?_, ?_, ?_, ?_, ?_⟩ <;> simp [go_sem, *]
theorem KV.cells5 {R : Nat} {a b : Int} {W : World} (h : KV R a b W) : W.cell? ⟨R, 0, none⟩ = some (.int .i64 a) ∧ W.cell? ⟨R, 1, none⟩ = some (.int .i64 b) := ⟨h.c0, h.c1⟩
theorem KR.cells5 {R : Nat} {a b c d : Int} {W : World} (h : KR R a b c d W) : W.cell? ⟨R, 0, none⟩ = some (.int .i64 a) ∧ W.cell? ⟨R, 1, none⟩ = some (.int .i64 b) ∧ W.cell? ⟨R, 2, none⟩ = some (.int .i64 c) ∧ W.cell? ⟨R, 3, none⟩ = some (.int .i64 d) := ⟨h.c0, h.c1, h.c2, h.c3⟩
theorem KM.cells5 {R : Nat} {a b c d x y : Int} {W : World} (h : KM R a b c d x y W) : W.cell? ⟨R, 0, none⟩ = some (.int .i64 a) ∧ W.cell? ⟨R, 1, none⟩ = some (.int .i64 b) ∧ W.cell? ⟨R, 2, none⟩ = some (.int .i64 c) ∧ W.cell? ⟨R, 3, none⟩ = some (.int .i64 d) ∧ W.cell? ⟨R, 4, none⟩ = some (.int .i64 x) ∧ W.cell? ⟨R, 5, none⟩ = some (.int .i64 y) := h.km.2
theorem KV.far5 {R : Nat} {a b : Int} {W : World} {q : Addr} {u : Value} (hq : q.block ≠ R) (h : KV R a b W) : KV R a b (W.setCell q u) := by
  have hh : (W.setCell q u).heap[R]? = W.heap[R]? := Below.heap_setCell _ _ _ _ (by omega)
  exact ⟨by simpa [World.setCell] using h.lt, (World.cell?_of_block (w := W) hh).trans h.c0, (World.cell?_of_block (w := W) hh).trans h.c1, (World.frozen?_of_block (w := W) hh).trans h.f0, (World.frozen?_of_block (w := W) hh).trans h.f1⟩
end
end Go.Proofs.YtkfdaepnjdnnmaaDoor

namespace Go.Proofs.YtkfdaepnjdnnmaaDoor
section
open Go.RowKit
set_option linter.unusedSimpArgs false
set_option linter.unusedVariables false

abbrev M6 := Int × Int × Int × Int × Int × Int
def cells6 (xs : List M6) : List Value := xs.flatMap (fun t => [.int .i64 t.1, .int .i64 t.2.1, .int .i64 t.2.2.1, .int .i64 t.2.2.2.1, .int .i64 t.2.2.2.2.1, .int .i64 t.2.2.2.2.2])
theorem cells6_snoc (xs : List M6) (t : M6) : cells6 (xs ++ [t]) = cells6 xs ++ [.int .i64 t.1, .int .i64 t.2.1, .int .i64 t.2.2.1, .int .i64 t.2.2.2.1, .int .i64 t.2.2.2.2.1, .int .i64 t.2.2.2.2.2] := by simp [cells6]
theorem cells6_int (xs : List M6) : ∀ u ∈ cells6 xs, ∃ z, u = .int .i64 z := by
  intro u hu
  obtain ⟨t, _, ht⟩ := List.mem_flatMap.1 hu
  simp only [List.mem_cons, List.not_mem_nil, or_false] at ht
  rcases ht with rfl | rfl | rfl | rfl | rfl | rfl <;> exact ⟨_, rfl⟩
theorem cells6_get : ∀ (xs : List M6) (i : Nat) (h : i < xs.length), (cells6 xs)[i * 6]? = some (.int .i64 xs[i].1) ∧ (cells6 xs)[i * 6 + 1]? = some (.int .i64 xs[i].2.1) ∧ (cells6 xs)[i * 6 + 2]? = some (.int .i64 xs[i].2.2.1) ∧ (cells6 xs)[i * 6 + 3]? = some (.int .i64 xs[i].2.2.2.1) ∧ (cells6 xs)[i * 6 + 4]? = some (.int .i64 xs[i].2.2.2.2.1) ∧ (cells6 xs)[i * 6 + 5]? = some (.int .i64 xs[i].2.2.2.2.2)
  | [], i, h => absurd h (by simp)
  | t :: xs, 0, _ => by simp [cells6]
  | t :: xs, i + 1, h => by
    have hs := cells6_get xs i (by simpa using h)
    have e : cells6 (t :: xs) = [.int .i64 t.1, .int .i64 t.2.1, .int .i64 t.2.2.1, .int .i64 t.2.2.2.1, .int .i64 t.2.2.2.2.1, .int .i64 t.2.2.2.2.2] ++ cells6 xs := by simp [cells6]
    rw [e]
    have st : ∀ j, ([.int .i64 t.1, .int .i64 t.2.1, .int .i64 t.2.2.1, .int .i64 t.2.2.2.1, .int .i64 t.2.2.2.2.1, .int .i64 t.2.2.2.2.2] ++ cells6 xs)[(i + 1) * 6 + j]? = (cells6 xs)[i * 6 + j]? := by
      intro j
      rw [List.getElem?_append_right (by simp; omega)]
      congr 1
      simp only [List.length_cons, List.length_nil]
      omega
    have s0 := st 0
    simp only [Nat.add_zero] at s0
    simp only [List.getElem_cons_succ]
    exact ⟨s0.trans hs.1, (st 1).trans hs.2.1, (st 2).trans hs.2.2.1, (st 3).trans hs.2.2.2.1, (st 4).trans hs.2.2.2.2.1, (st 5).trans hs.2.2.2.2.2⟩
def fm (xs : List M6) (t : Nat) : Int := intAt (cells6 xs) t
theorem fm_get (xs : List M6) (i : Nat) (h : i < xs.length) : fm xs (i * 6) = xs[i].1 ∧ fm xs (i * 6 + 1) = xs[i].2.1 ∧ fm xs (i * 6 + 2) = xs[i].2.2.1 ∧ fm xs (i * 6 + 3) = xs[i].2.2.2.1 ∧ fm xs (i * 6 + 4) = xs[i].2.2.2.2.1 ∧ fm xs (i * 6 + 5) = xs[i].2.2.2.2.2 := by
  have hg := cells6_get xs i h
  refine ⟨?_, ?_, ?_, ?_, ?_, ?_⟩ <;> simp [fm, intAt, hg]
theorem one_six {a b c d x y : Int} : ∀ u ∈ [Value.int .i64 a, .int .i64 b, .int .i64 c, .int .i64 d, .int .i64 x, .int .i64 y], u.oneCell' = true := by
  intro u hu
  simp only [List.mem_cons, List.not_mem_nil, or_false] at hu
  rcases hu with rfl | rfl | rfl | rfl | rfl | rfl <;> rfl
theorem new_six {W : World} {g : Nat} (T : TypeId) (a b c d x y : Value) (hg : g = W.heap.size) : ∀ (j : Nat) (u : Value), [a, b, c, d, x, y][j]? = some u → (W.alloc (.cells #[a, b, c, d, x, y] T)).cell? ((⟨g, 0, none⟩ : Addr).add j) = some u := by
  intro j u hj
  subst hg
  match j, hj with
  | 0, h => cases h; simp [go_sem]
  | 1, h => cases h; simp [go_sem]
  | 2, h => cases h; simp [go_sem]
  | 3, h => cases h; simp [go_sem]
  | 4, h => cases h; simp [go_sem]
  | 5, h => cases h; simp [go_sem]
  | j + 6, h => simp at h
theorem own_next6 {w1 : World} {base : Nat} {e : TypeId} {v : Value} {xs : List M6} {a b c d x y : Int} (h : w1.ownsRow base e 6 v (xs.length + 1) (cells6 xs ++ [.int .i64 a, .int .i64 b, .int .i64 c, .int .i64 d, .int .i64 x, .int .i64 y])) : w1.ownsRow base e 6 v (xs ++ [(a, b, c, d, x, y)]).length (cells6 (xs ++ [(a, b, c, d, x, y)])) := by
  rw [List.length_append, cells6_snoc]; exact h
/- one motion of a row -/
def Ko6 (g o : Nat) (a b c d x y : Int) (W : World) : Prop := g < W.heap.size ∧ W.cell? ⟨g, o, none⟩ = some (.int .i64 a) ∧ W.cell? ⟨g, o + 1, none⟩ = some (.int .i64 b) ∧ W.cell? ⟨g, o + 2, none⟩ = some (.int .i64 c) ∧ W.cell? ⟨g, o + 3, none⟩ = some (.int .i64 d) ∧ W.cell? ⟨g, o + 4, none⟩ = some (.int .i64 x) ∧ W.cell? ⟨g, o + 5, none⟩ = some (.int .i64 y)
theorem Ko6.cells {g o : Nat} {a b c d x y : Int} {W : World} (h : Ko6 g o a b c d x y W) : W.cell? ⟨g, o, none⟩ = some (.int .i64 a) ∧ W.cell? ⟨g, o + 1, none⟩ = some (.int .i64 b) ∧ W.cell? ⟨g, o + 2, none⟩ = some (.int .i64 c) ∧ W.cell? ⟨g, o + 3, none⟩ = some (.int .i64 d) ∧ W.cell? ⟨g, o + 4, none⟩ = some (.int .i64 x) ∧ W.cell? ⟨g, o + 5, none⟩ = some (.int .i64 y) := h.2
theorem Ko6.call {g o : Nat} {a b c d x y : Int} {W w1 : World} (h : Ko6 g o a b c d x y W) (hb : Below W.heap.size W w1) : Ko6 g o a b c d x y w1 := by
  obtain ⟨h0, h1, h2, h3, h4, h5, h6⟩ := h
  exact ⟨Nat.lt_of_lt_of_le h0 hb.size, by rw [hb.cell (p := ⟨g, o, none⟩) h0]; exact h1, by rw [hb.cell (p := ⟨g, o + 1, none⟩) h0]; exact h2, by rw [hb.cell (p := ⟨g, o + 2, none⟩) h0]; exact h3, by rw [hb.cell (p := ⟨g, o + 3, none⟩) h0]; exact h4, by rw [hb.cell (p := ⟨g, o + 4, none⟩) h0]; exact h5, by rw [hb.cell (p := ⟨g, o + 5, none⟩) h0]; exact h6⟩
theorem Ko6.alloc {g o : Nat} {a b c d x y : Int} {W : World} (h : Ko6 g o a b c d x y W) (z : Obj) : Ko6 g o a b c d x y (W.alloc z) := h.call ((Below.refl _ _).alloc (Nat.le_refl _) _)
theorem Ko6.drew {g o : Nat} {a b c d x y : Int} {W : World} (h : Ko6 g o a b c d x y W) : Ko6 g o a b c d x y W.drew := h.call (Below.refl _ _).drew
theorem Ko6.put {g o : Nat} {a b c d x y : Int} {W : World} {q : Addr} {u : Value} (hq : q.block ≠ g) (h : Ko6 g o a b c d x y W) : Ko6 g o a b c d x y (W.setCell q u) := by
  have hh : (W.setCell q u).heap[g]? = W.heap[g]? := Below.heap_setCell _ _ _ _ (by omega)
  obtain ⟨h0, h1, h2, h3, h4, h5, h6⟩ := h
  exact ⟨by simpa [World.setCell] using h0, (World.cell?_of_block (w := W) hh).trans h1, (World.cell?_of_block (w := W) hh).trans h2, (World.cell?_of_block (w := W) hh).trans h3, (World.cell?_of_block (w := W) hh).trans h4, (World.cell?_of_block (w := W) hh).trans h5, (World.cell?_of_block (w := W) hh).trans h6⟩
theorem IRow.ko6 {g N : Nat} {F : Nat → Int} {W : World} (h : IRow g N F W) (o : Nat) (ho : o + 5 < N) : Ko6 g o (F (o)) (F (o + 1)) (F (o + 2)) (F (o + 3)) (F (o + 4)) (F (o + 5)) W := ⟨h.1, h.at (o) (by omega), h.at (o + 1) (by omega), h.at (o + 2) (by omega), h.at (o + 3) (by omega), h.at (o + 4) (by omega), h.at (o + 5) (by omega)⟩
theorem IRow.mo {g : Nat} {xs : List M6} {W : World} (h : IRow g (xs.length * 6) (fm xs) W) (i : Nat) (hi : i < xs.length) : Ko6 g (i * 6) xs[i].1 xs[i].2.1 xs[i].2.2.1 xs[i].2.2.2.1 xs[i].2.2.2.2.1 xs[i].2.2.2.2.2 W := by
  have k := h.ko6 (i * 6) (by omega)
  obtain ⟨e0, e1, e2, e3, e4, e5⟩ := fm_get xs i hi
  rwa [e0, e1, e2, e3, e4, e5] at k
end
end Go.Proofs.YtkfdaepnjdnnmaaDoor

namespace Go.Proofs.YtkfdaepnjdnnmaaDoor
section
open Go.RowKit
set_option linter.unusedSimpArgs false
set_option linter.unusedVariables false

end
end Go.Proofs.YtkfdaepnjdnnmaaDoor

