/-
 Several of my texts in one: Base, Gcd, Keep, Keep3, RowF.
-/
import Derived.Test.YtdgophfembpniaaGreatDoorProg
import Derived.WalkKit
import Derived.ProofKit
import Derived.OpenShut
import Derived.Below
import Derived.Lib.Hide
import Derived.LoopTactic
import Derived.BigQuiet
import Derived.Deep.QuietTactic
import Derived.WalkSmall
import Derived.Laws.OwnMore
import Derived.OwnWalk
namespace Go.Proofs.YtdgophfembpniaaGreatDoor
section
open Go.RowKit

def inB (n lo hi : Int) : Bool := decide (lo ≤ n ∧ n ≤ hi)
def vecB (x y : Int) : Bool := decide ((-1000 ≤ x ∧ x ≤ 1000) ∧ (-1000 ≤ y ∧ y ≤ 1000))

theorem ret_bool {a b : Bool} (h : a = b) : Ending.returned (.bool a) = .returned (.bool b) := by rw [h]
theorem ret_int {k : IntKind} {a b : Int} (h : a = b) : Ending.returned (.int k a) = .returned (.int k b) := by rw [h]
theorem ret_val {a b : Value} (h : a = b) : Ending.returned a = .returned b := by rw [h]

theorem bcell {W w1 : World} (hb : Below W.heap.size W w1) : (∀ b o, b < W.heap.size → w1.cell? ⟨b, o, none⟩ = W.cell? ⟨b, o, none⟩) ∧ (∀ b o, b < W.heap.size → w1.frozen? ⟨b, o, none⟩ = W.frozen? ⟨b, o, none⟩) :=
 ⟨fun b o h => hb.cell (p := ⟨b, o, none⟩) h, fun b o h => hb.frozen (p := ⟨b, o, none⟩) h⟩

theorem useIt {P Q : Prop} (h : P) (k : P → Q) : Q := k h
theorem lt_alloc {W w1 : World} {o : Obj} (hb : Below (W.alloc o).heap.size (W.alloc o) w1) : W.heap.size < w1.heap.size := by
 have := hb.size; simp at this; omega
theorem bstep {w W w1 : World} (h : Below w.heap.size w W) (hb : Below W.heap.size W w1) : Below w.heap.size w w1 := h.trans (hb.mono h.size)

set_option maxHeartbeats 400000 in
theorem isWithin_any (n lim : Int) (w : World) (h0 : 0 ≤ lim) (h1 : lim ≤ 1000000) :
  Calls Tryz.prog 169 #[.int .i64 n, .int .i64 lim] w fun e w' => e = .returned (.bool (inB n (-lim) lim)) ∧ w = w' := by
 by_cases ha : -lim ≤ n
 ·by_cases hb : n ≤ lim
  ·go_enter Tryz.func169, Tryz.ntmps169
   go_wp2
   go_ret
   exact ⟨ret_bool (by simp [inB, ha, hb]), rfl⟩
  ·go_enter Tryz.func169, Tryz.ntmps169
   go_wp2
   go_ret
   exact ⟨ret_bool (by simp [inB, hb]), rfl⟩
 ·go_enter Tryz.func169, Tryz.ntmps169
  go_wp2
  go_ret
  exact ⟨ret_bool (by simp [inB]; omega), rfl⟩

set_option maxHeartbeats 400000 in
theorem l01In_any (n lo hi : Int) (w : World) :
  Calls Tryz.prog 67 #[.int .i64 n, .int .i64 lo, .int .i64 hi] w fun e w' => e = .returned (.bool (inB n lo hi)) ∧ w = w' := by
 by_cases ha : lo ≤ n
 ·by_cases hb : n ≤ hi
  ·go_enter Tryz.func67, Tryz.ntmps67
   go_wp2
   go_ret
   exact ⟨ret_bool (by simp [inB, ha, hb]), rfl⟩
  ·go_enter Tryz.func67, Tryz.ntmps67
   go_wp2
   go_ret
   exact ⟨ret_bool (by simp [inB, hb]), rfl⟩
 ·go_enter Tryz.func67, Tryz.ntmps67
  go_wp2
  go_ret
  exact ⟨ret_bool (by simp [inB]; omega), rfl⟩

theorem vecB_tt {x y : Int} (hx : inB x (-1000) 1000 = true) (hy : inB y (-1000) 1000 = true) : vecB x y = true := by
 simp [inB] at hx hy; simp [vecB]; omega
theorem vecB_tf {x y : Int} (hy : inB y (-1000) 1000 = false) : vecB x y = false := by
 simp [inB] at hy; simp [vecB]; omega
theorem vecB_f {x y : Int} (hx : inB x (-1000) 1000 = false) : vecB x y = false := by
 simp [inB] at hx; simp [vecB]; omega
theorem vecB_bd {x y : Int} (h : vecB x y = true) : (-1000 ≤ x ∧ x ≤ 1000) ∧ (-1000 ≤ y ∧ y ≤ 1000) := by
 simpa [vecB] using h
theorem inB_bd {n lo hi : Int} (h : inB n lo hi = true) : lo ≤ n ∧ n ≤ hi := by
 simpa [inB] using h

set_option maxHeartbeats 400000 in
theorem isValid_any (x y : Int) (w : World) :
  Calls Tryz.prog 147 #[.agg #[.int .i64 x, .int .i64 y]] w fun e w' => e = .returned (.bool (vecB x y)) ∧ Below w.heap.size w w' := by
 rcases hx : inB x (-1000) 1000 with _ | _
 ·go_enter Tryz.func147, Tryz.ntmps147
  go_wp2_with (go_at_call 169; refine (isWithin_any _ _ _ (by omega) (by omega)).mono ?_; rintro e w' ⟨rfl, rfl⟩)
  go_ret
  exact ⟨ret_bool (vecB_f hx).symm, (Below.refl _ _).alloc (Nat.le_refl _) _⟩
 ·rcases hy : inB y (-1000) 1000 with _ | _
  ·go_enter Tryz.func147, Tryz.ntmps147
   go_wp2_with (go_at_call 169; refine (isWithin_any _ _ _ (by omega) (by omega)).mono ?_; rintro e w' ⟨rfl, rfl⟩)
   go_ret
   exact ⟨ret_bool (vecB_tf hy).symm, (Below.refl _ _).alloc (Nat.le_refl _) _⟩
  ·go_enter Tryz.func147, Tryz.ntmps147
   go_wp2_with (go_at_call 169; refine (isWithin_any _ _ _ (by omega) (by omega)).mono ?_; rintro e w' ⟨rfl, rfl⟩)
   go_ret
   exact ⟨ret_bool (vecB_tt hx hy).symm, (Below.refl _ _).alloc (Nat.le_refl _) _⟩

set_option maxHeartbeats 400000 in
theorem specIsVec_any (x y : Int) (w : World) :
  Calls Tryz.prog 137 #[.agg #[.int .i64 x, .int .i64 y]] w fun e w' => e = .returned (.bool (vecB x y)) ∧ Below w.heap.size w w' := by
 rcases hx : inB x (-1000) 1000 with _ | _
 ·go_enter Tryz.func137, Tryz.ntmps137
  go_wp2_with (go_at_call 67; refine (l01In_any _ _ _ _).mono ?_; rintro e w' ⟨rfl, rfl⟩)
  go_ret
  exact ⟨ret_bool (vecB_f hx).symm, (Below.refl _ _).alloc (Nat.le_refl _) _⟩
 ·rcases hy : inB y (-1000) 1000 with _ | _
  ·go_enter Tryz.func137, Tryz.ntmps137
   go_wp2_with (go_at_call 67; refine (l01In_any _ _ _ _).mono ?_; rintro e w' ⟨rfl, rfl⟩)
   go_ret
   exact ⟨ret_bool (vecB_tf hy).symm, (Below.refl _ _).alloc (Nat.le_refl _) _⟩
  ·go_enter Tryz.func137, Tryz.ntmps137
   go_wp2_with (go_at_call 67; refine (l01In_any _ _ _ _).mono ?_; rintro e w' ⟨rfl, rfl⟩)
   go_ret
   exact ⟨ret_bool (vecB_tt hx hy).symm, (Below.refl _ _).alloc (Nat.le_refl _) _⟩

set_option maxHeartbeats 400000 in
theorem toVec_any (x y : Int) (w : World) :
  Calls Tryz.prog 31 #[.agg #[.int .i64 x, .int .i64 y]] w fun e w' => e = .returned (.agg #[.int .i64 x, .int .i64 y]) ∧ Below w.heap.size w w' := by
 go_enter Tryz.func31, Tryz.ntmps31
 go_wp2
 refine bodyPost_ret (v := .agg #[.int .i64 x, .int .i64 y]) (by simp [results, Tryz.results31, go_sem]) rfl ⟨rfl, ?_⟩
 repeat (first | exact Below.refl _ _ | refine Below.setCell ?_ (by simp) _ | refine Below.alloc ?_ (by simp; try omega) _)

def eqB (x y x' y' : Int) : Bool := x == x' && y == y'
theorem eqB_rfl (x y : Int) : eqB x y x y = true := by simp [eqB]

set_option maxHeartbeats 400000 in
theorem eqVec_any (x y x' y' : Int) (w : World) :
  Calls Tryz.prog 82 #[.agg #[.int .i64 x, .int .i64 y], .agg #[.int .i64 x', .int .i64 y']] w fun e w' => e = .returned (.bool (eqB x y x' y')) ∧ Below w.heap.size w w' := by
 go_enter Tryz.func82, Tryz.ntmps82
 go_wp2
 all_goals
  go_ret
  refine ⟨ret_bool (by simp_all [eqB, bne]), ?_⟩
  repeat (first | exact Below.refl _ _ | refine Below.setCell ?_ (by simp) _ | refine Below.alloc ?_ (by simp; try omega) _)

end
end Go.Proofs.YtdgophfembpniaaGreatDoor

namespace Go.Proofs.YtdgophfembpniaaGreatDoor
section
open Go.RowKit

def gcdI (a b : Int) : Int := (Int.gcd a b : Nat)
theorem gcdI_step (x y : Int) : gcdI y (x.tmod y) = gcdI x y := by
 unfold gcdI
 simp only [Int.gcd, Int.natAbs_tmod]
 congr 1
 rw [Nat.gcd_comm x.natAbs y.natAbs, Nat.gcd_rec y.natAbs x.natAbs, Nat.gcd_comm]
theorem gcdI_zero (x : Int) : gcdI x 0 = max x (-x) := by
 unfold gcdI
 simp only [Int.gcd]
 simp
 omega
theorem tmod_lt (x y : Int) (h : y ≠ 0) : (x.tmod y).natAbs < y.natAbs := by
 rw [Int.natAbs_tmod]; exact Nat.mod_lt _ (by omega)

end
end Go.Proofs.YtdgophfembpniaaGreatDoor

namespace Go.Proofs.YtdgophfembpniaaGreatDoor
section
open Go.RowKit

/- two vectors that lie in two blocks, one behind the other -/
def K4 (b : Nat) (x y x' y' : Int) (W : World) : Prop :=
 b + 1 < W.heap.size ∧ W.cell? ⟨b, 0, none⟩ = some (.int .i64 x) ∧ W.cell? ⟨b, 1, none⟩ = some (.int .i64 y) ∧ W.cell? ⟨b + 1, 0, none⟩ = some (.int .i64 x') ∧ W.cell? ⟨b + 1, 1, none⟩ = some (.int .i64 y')
theorem K4.cells {b : Nat} {x y x' y' : Int} {W : World} (h : K4 b x y x' y' W) : W.cell? ⟨b, 0, none⟩ = some (.int .i64 x) ∧ W.cell? ⟨b, 1, none⟩ = some (.int .i64 y) ∧ W.cell? ⟨b + 1, 0, none⟩ = some (.int .i64 x') ∧ W.cell? ⟨b + 1, 1, none⟩ = some (.int .i64 y') := h.2
theorem K4.call {b : Nat} {x y x' y' : Int} {W w1 : World} (h : K4 b x y x' y' W) (hb : Below W.heap.size W w1) : K4 b x y x' y' w1 := by
 obtain ⟨h0, h1, h2, h3, h4⟩ := h
 have hs := hb.size
 exact ⟨by omega, by rw [hb.cell (by show b < _; omega)]; exact h1, by rw [hb.cell (by show b < _; omega)]; exact h2, by rw [hb.cell (by show b + 1 < _; omega)]; exact h3, by rw [hb.cell (by show b + 1 < _; omega)]; exact h4⟩
theorem K4.alloc {b : Nat} {x y x' y' : Int} {W : World} (h : K4 b x y x' y' W) (o : Obj) : K4 b x y x' y' (W.alloc o) :=
 h.call ((Below.refl _ _).alloc (Nat.le_refl _) _)
theorem K4.drew {b : Nat} {x y x' y' : Int} {W : World} (h : K4 b x y x' y' W) : K4 b x y x' y' W.drew :=
 h.call (Below.refl _ _).drew
theorem K4.setCell {b : Nat} {x y x' y' : Int} {W : World} (h : K4 b x y x' y' W) {p : Addr} (hp : b + 1 < p.block) (u : Value) : K4 b x y x' y' (W.setCell p u) := by
 have hb : Below (b + 2) W (W.setCell p u) := (Below.refl _ _).setCell (by omega) u
 obtain ⟨h0, h1, h2, h3, h4⟩ := h
 have hs := hb.size
 exact ⟨by omega, by rw [hb.cell (by show b < _; omega)]; exact h1, by rw [hb.cell (by show b < _; omega)]; exact h2, by rw [hb.cell (by show b + 1 < _; omega)]; exact h3, by rw [hb.cell (by show b + 1 < _; omega)]; exact h4⟩
theorem K4.put {b : Nat} {x y x' y' : Int} {W : World} {p : Addr} {u : Value} (hp : b + 1 < p.block) (h : K4 b x y x' y' W) : K4 b x y x' y' (W.setCell p u) := h.setCell hp u
theorem K4.made (w : World) (x y x' y' : Int) (T : TypeId) : K4 w.heap.size x y x' y' ((w.alloc (.cells #[.int .i64 x, .int .i64 y] T)).alloc (.cells #[.int .i64 x', .int .i64 y'] T)) := by
 refine ⟨by simp, ?_, ?_, ?_, ?_⟩ <;> simp [go_sem]

/- one vector in one block -/
def Kg (g : Nat) (a b : Int) (W : World) : Prop := g < W.heap.size ∧ W.cell? ⟨g, 0, none⟩ = some (.int .i64 a) ∧ W.cell? ⟨g, 1, none⟩ = some (.int .i64 b)
theorem Kg.c0 {g : Nat} {a b : Int} {W : World} (h : Kg g a b W) : W.cell? ⟨g, 0, none⟩ = some (.int .i64 a) := h.2.1
theorem Kg.c1 {g : Nat} {a b : Int} {W : World} (h : Kg g a b W) : W.cell? ⟨g, 1, none⟩ = some (.int .i64 b) := h.2.2
theorem Kg.cells {g : Nat} {a b : Int} {W : World} (h : Kg g a b W) : W.cell? ⟨g, 0, none⟩ = some (.int .i64 a) ∧ W.cell? ⟨g, 1, none⟩ = some (.int .i64 b) := h.2
theorem Kg.call {g : Nat} {a b : Int} {W w1 : World} (h : Kg g a b W) (hb : Below W.heap.size W w1) : Kg g a b w1 := by
 obtain ⟨h0, h1, h2⟩ := h
 have hs := hb.size
 exact ⟨by omega, by rw [hb.cell (by show g < _; omega)]; exact h1, by rw [hb.cell (by show g < _; omega)]; exact h2⟩
theorem Kg.alloc {g : Nat} {a b : Int} {W : World} (h : Kg g a b W) (o : Obj) : Kg g a b (W.alloc o) := h.call ((Below.refl _ _).alloc (Nat.le_refl _) _)
theorem Kg.drew {g : Nat} {a b : Int} {W : World} (h : Kg g a b W) : Kg g a b W.drew := h.call (Below.refl _ _).drew
theorem Kg.put {g : Nat} {a b : Int} {W : World} {p : Addr} {u : Value} (hp : g < p.block) (h : Kg g a b W) : Kg g a b (W.setCell p u) := by
 have hb : Below (g + 1) W (W.setCell p u) := (Below.refl _ _).setCell (by omega) u
 obtain ⟨h0, h1, h2⟩ := h
 have hs := hb.size
 exact ⟨by omega, by rw [hb.cell (by show g < _; omega)]; exact h1, by rw [hb.cell (by show g < _; omega)]; exact h2⟩
end
end Go.Proofs.YtdgophfembpniaaGreatDoor

namespace Go.Proofs.YtdgophfembpniaaGreatDoor
section
open Go.RowKit

def Kt (g : Nat) (a b c : Int) (W : World) : Prop :=
 g < W.heap.size ∧ W.cell? ⟨g, 0, none⟩ = some (.int .i64 a) ∧ W.cell? ⟨g, 1, none⟩ = some (.int .i64 b) ∧ W.cell? ⟨g, 2, none⟩ = some (.int .i64 c)
theorem Kt.cells {g : Nat} {a b c : Int} {W : World} (h : Kt g a b c W) : W.cell? ⟨g, 0, none⟩ = some (.int .i64 a) ∧ W.cell? ⟨g, 1, none⟩ = some (.int .i64 b) ∧ W.cell? ⟨g, 2, none⟩ = some (.int .i64 c) := h.2
theorem Kt.c0 {g : Nat} {a b c : Int} {W : World} (h : Kt g a b c W) : W.cell? ⟨g, 0, none⟩ = some (.int .i64 a) := h.2.1
theorem Kt.c1 {g : Nat} {a b c : Int} {W : World} (h : Kt g a b c W) : W.cell? ⟨g, 1, none⟩ = some (.int .i64 b) := h.2.2.1
theorem Kt.c2 {g : Nat} {a b c : Int} {W : World} (h : Kt g a b c W) : W.cell? ⟨g, 2, none⟩ = some (.int .i64 c) := h.2.2.2
theorem Kt.grow {g B : Nat} {a b c : Int} {W w1 : World} (h : Kt g a b c W) (hb : Below B W w1) (hg : g < B) : Kt g a b c w1 := by
 obtain ⟨h0, h1, h2, h3⟩ := h
 have hs := hb.size
 exact ⟨by omega, by rw [hb.cell (by show g < _; omega)]; exact h1, by rw [hb.cell (by show g < _; omega)]; exact h2, by rw [hb.cell (by show g < _; omega)]; exact h3⟩
theorem Kt.call {g : Nat} {a b c : Int} {W w1 : World} (h : Kt g a b c W) (hb : Below W.heap.size W w1) : Kt g a b c w1 := h.grow hb h.1
theorem Kt.alloc {g : Nat} {a b c : Int} {W : World} (h : Kt g a b c W) (o : Obj) : Kt g a b c (W.alloc o) := h.call ((Below.refl _ _).alloc (Nat.le_refl _) _)
theorem Kt.drew {g : Nat} {a b c : Int} {W : World} (h : Kt g a b c W) : Kt g a b c W.drew := h.call (Below.refl _ _).drew
theorem Kt.put {g : Nat} {a b c : Int} {W : World} {p : Addr} {u : Value} (hp : g < p.block) (h : Kt g a b c W) : Kt g a b c (W.setCell p u) :=
 h.grow (B := g + 1) ((Below.refl _ _).setCell (by omega) u) (Nat.lt_succ_self _)
theorem Kt.at {w : World} {a b c : Int} {T : TypeId} (R : Nat) (hR : R = w.heap.size) : Kt R a b c (w.alloc (.cells #[.int .i64 a, .int .i64 b, .int .i64 c] T)) := by
 subst hR
 refine ⟨by simp, ?_, ?_, ?_⟩ <;> simp [go_sem]
theorem Kg.at3 {w : World} {a b : Int} {T : TypeId} (R : Nat) (hR : R = w.heap.size) : Kg R a b (w.alloc (.cells #[.int .i64 a, .int .i64 b] T)) := by
 subst hR
 refine ⟨by simp, ?_, ?_⟩ <;> simp [go_sem]

/- a block of 3 numbers that may be written -/
structure KL (R : Nat) (a b c : Int) (W : World) : Prop where
 lt : R < W.heap.size
 c0 : W.cell? ⟨R, 0, none⟩ = some (.int .i64 a)
 c1 : W.cell? ⟨R, 1, none⟩ = some (.int .i64 b)
 c2 : W.cell? ⟨R, 2, none⟩ = some (.int .i64 c)
 f0 : W.frozen? ⟨R, 0, none⟩ = false
 f1 : W.frozen? ⟨R, 1, none⟩ = false
 f2 : W.frozen? ⟨R, 2, none⟩ = false
theorem KL.at {w : World} {a b c : Int} {T : TypeId} (R : Nat) (hR : R = w.heap.size) : KL R a b c (w.alloc (.cells #[.int .i64 a, .int .i64 b, .int .i64 c] T)) := by
 subst hR
 refine ⟨by simp, ?_, ?_, ?_, ?_, ?_, ?_⟩ <;> simp [go_sem]
theorem KL.grow {R B : Nat} {a b c : Int} {W w1 : World} (h : KL R a b c W) (hb : Below B W w1) (hg : R < B) : KL R a b c w1 :=
 ⟨Nat.lt_of_lt_of_le h.lt hb.size, by rw [hb.cell hg]; exact h.c0, by rw [hb.cell hg]; exact h.c1, by rw [hb.cell hg]; exact h.c2, by rw [hb.frozen hg]; exact h.f0, by rw [hb.frozen hg]; exact h.f1, by rw [hb.frozen hg]; exact h.f2⟩
theorem KL.call {R : Nat} {a b c : Int} {W w1 : World} (h : KL R a b c W) (hb : Below W.heap.size W w1) : KL R a b c w1 := h.grow hb h.lt
theorem KL.alloc {R : Nat} {a b c : Int} {W : World} (h : KL R a b c W) (o : Obj) : KL R a b c (W.alloc o) := h.call ((Below.refl _ _).alloc (Nat.le_refl _) _)
theorem KL.drew {R : Nat} {a b c : Int} {W : World} (h : KL R a b c W) : KL R a b c W.drew := h.call (Below.refl _ _).drew
theorem KL.put {R : Nat} {a b c : Int} {W : World} {p : Addr} {u : Value} (hp : R < p.block) (h : KL R a b c W) : KL R a b c (W.setCell p u) :=
 h.grow (B := R + 1) ((Below.refl _ _).setCell (by omega) u) (Nat.lt_succ_self _)
theorem KL.far {R : Nat} {a b c : Int} {W : World} {q : Addr} {u : Value} (hq : q.block ≠ R) (h : KL R a b c W) : KL R a b c (W.setCell q u) := by
 have hh : (W.setCell q u).heap[R]? = W.heap[R]? := Below.heap_setCell _ _ _ _ (by omega)
 exact ⟨by simpa [World.setCell] using h.lt, (World.cell?_of_block (w := W) hh).trans h.c0, (World.cell?_of_block (w := W) hh).trans h.c1, (World.cell?_of_block (w := W) hh).trans h.c2, (World.frozen?_of_block (w := W) hh).trans h.f0, (World.frozen?_of_block (w := W) hh).trans h.f1, (World.frozen?_of_block (w := W) hh).trans h.f2⟩
theorem KL.store {R : Nat} {a b c : Int} {W : World} (h : KL R a b c W) (a' b' c' : Int) : KL R a' b' c' (((W.setCell ⟨R, 0, none⟩ (.int .i64 a')).setCell ⟨R, 1, none⟩ (.int .i64 b')).setCell ⟨R, 2, none⟩ (.int .i64 c')) := by
 obtain ⟨h0, h1, h2, h3, h4, h5, h6⟩ := h
 refine ⟨by simpa [World.setCell] using h0, ?_, ?_, ?_, ?_, ?_, ?_⟩ <;> simp [go_sem, *]
theorem KL.store0 {R : Nat} {a b c : Int} {W : World} (h : KL R a b c W) (u : Int) : KL R u b c (W.setCell ⟨R, 0, none⟩ (.int .i64 u)) := by
 obtain ⟨h0, h1, h2, h3, h4, h5, h6⟩ := h
 refine ⟨by simpa [World.setCell] using h0, ?_, ?_, ?_, ?_, ?_, ?_⟩ <;> simp [go_sem, *]
/- a block of 2 numbers that may be written -/
structure KW (R : Nat) (a b : Int) (W : World) : Prop where
 lt : R < W.heap.size
 c0 : W.cell? ⟨R, 0, none⟩ = some (.int .i64 a)
 c1 : W.cell? ⟨R, 1, none⟩ = some (.int .i64 b)
 f0 : W.frozen? ⟨R, 0, none⟩ = false
 f1 : W.frozen? ⟨R, 1, none⟩ = false
theorem KW.at {w : World} {a b : Int} {T : TypeId} (R : Nat) (hR : R = w.heap.size) : KW R a b (w.alloc (.cells #[.int .i64 a, .int .i64 b] T)) := by
 subst hR
 refine ⟨by simp, ?_, ?_, ?_, ?_⟩ <;> simp [go_sem]
theorem KW.grow {R B : Nat} {a b : Int} {W w1 : World} (h : KW R a b W) (hb : Below B W w1) (hg : R < B) : KW R a b w1 :=
 ⟨Nat.lt_of_lt_of_le h.lt hb.size, by rw [hb.cell hg]; exact h.c0, by rw [hb.cell hg]; exact h.c1, by rw [hb.frozen hg]; exact h.f0, by rw [hb.frozen hg]; exact h.f1⟩
theorem KW.call {R : Nat} {a b : Int} {W w1 : World} (h : KW R a b W) (hb : Below W.heap.size W w1) : KW R a b w1 := h.grow hb h.lt
theorem KW.alloc {R : Nat} {a b : Int} {W : World} (h : KW R a b W) (o : Obj) : KW R a b (W.alloc o) := h.call ((Below.refl _ _).alloc (Nat.le_refl _) _)
theorem KW.drew {R : Nat} {a b : Int} {W : World} (h : KW R a b W) : KW R a b W.drew := h.call (Below.refl _ _).drew
theorem KW.put {R : Nat} {a b : Int} {W : World} {p : Addr} {u : Value} (hp : R < p.block) (h : KW R a b W) : KW R a b (W.setCell p u) :=
 h.grow (B := R + 1) ((Below.refl _ _).setCell (by omega) u) (Nat.lt_succ_self _)
theorem KW.far {R : Nat} {a b : Int} {W : World} {q : Addr} {u : Value} (hq : q.block ≠ R) (h : KW R a b W) : KW R a b (W.setCell q u) := by
 have hh : (W.setCell q u).heap[R]? = W.heap[R]? := Below.heap_setCell _ _ _ _ (by omega)
 exact ⟨by simpa [World.setCell] using h.lt, (World.cell?_of_block (w := W) hh).trans h.c0, (World.cell?_of_block (w := W) hh).trans h.c1, (World.frozen?_of_block (w := W) hh).trans h.f0, (World.frozen?_of_block (w := W) hh).trans h.f1⟩
theorem KW.store {R : Nat} {a b : Int} {W : World} (h : KW R a b W) (a' b' : Int) : KW R a' b' ((W.setCell ⟨R, 0, none⟩ (.int .i64 a')).setCell ⟨R, 1, none⟩ (.int .i64 b')) := by
 obtain ⟨h0, h1, h2, h3, h4⟩ := h
 refine ⟨by simpa [World.setCell] using h0, ?_, ?_, ?_, ?_⟩ <;> simp [go_sem, *]
theorem KW.store0 {R : Nat} {a b : Int} {W : World} (h : KW R a b W) (u : Int) : KW R u b (W.setCell ⟨R, 0, none⟩ (.int .i64 u)) := by
 obtain ⟨h0, h1, h2, h3, h4⟩ := h
 refine ⟨by simpa [World.setCell] using h0, ?_, ?_, ?_, ?_⟩ <;> simp [go_sem, *]
end
end Go.Proofs.YtdgophfembpniaaGreatDoor

namespace Go.Proofs.YtdgophfembpniaaGreatDoor
section
open Go.RowKit

def IRow (g N : Nat) (F : Nat → Int) (W : World) : Prop := g < W.heap.size ∧ ∀ t, t < N → W.cell? ⟨g, t, none⟩ = some (.int .i64 (F t)) ∧ W.frozen? ⟨g, t, none⟩ = false
theorem IRow.grow {g N B : Nat} {F : Nat → Int} {W w1 : World} (h : IRow g N F W) (hb : Below B W w1) (hg : g < B) : IRow g N F w1 :=
 ⟨Nat.lt_of_lt_of_le h.1 hb.size, fun t ht => ⟨by rw [hb.cell (p := ⟨g, t, none⟩) hg]; exact (h.2 t ht).1, by rw [hb.frozen (p := ⟨g, t, none⟩) hg]; exact (h.2 t ht).2⟩⟩
theorem IRow.call {g N : Nat} {F : Nat → Int} {W w1 : World} (h : IRow g N F W) (hb : Below W.heap.size W w1) : IRow g N F w1 := h.grow hb h.1
theorem IRow.at {g N : Nat} {F : Nat → Int} {W : World} (h : IRow g N F W) (t : Nat) (ht : t < N) : W.cell? ⟨g, t, none⟩ = some (.int .i64 (F t)) := (h.2 t ht).1
theorem IRow.free {g N : Nat} {F : Nat → Int} {W : World} (h : IRow g N F W) (t : Nat) (ht : t < N) : W.frozen? ⟨g, t, none⟩ = false := (h.2 t ht).2
theorem IRow.put {g N : Nat} {F : Nat → Int} {W : World} (h : IRow g N F W) (s : Nat) (hs : s < N) (z : Int) : IRow g N (fun t => if t = s then z else F t) (W.setCell ⟨g, s, none⟩ (.int .i64 z)) := by
 refine ⟨by simpa [World.setCell] using h.1, fun t ht => ⟨?_, by rw [World.frozen?_setCell]; exact (h.2 t ht).2⟩⟩
 by_cases e : t = s
 ·subst e
  rw [World.cell?_setCell_same _ _ _ (h.2 t ht).1]; simp
 ·have hx : (⟨g, s, none⟩ : Addr) ≠ ⟨g, t, none⟩ := fun h' => e (congrArg Addr.off h').symm
  rw [World.cell?_setCell_other (w := W) (a := ⟨g, s, none⟩) (b := ⟨g, t, none⟩) (h := hx), (h.2 t ht).1]
  simp only [e, if_false]
theorem IRow.ext {g N : Nat} {F F' : Nat → Int} {W : World} (h : IRow g N F W) (he : ∀ t, t < N → F t = F' t) : IRow g N F' W := ⟨h.1, fun t ht => by rw [← he t ht]; exact h.2 t ht⟩

def Ko2 (g o : Nat) (a b : Int) (W : World) : Prop := g < W.heap.size ∧ W.cell? ⟨g, o, none⟩ = some (.int .i64 a) ∧ W.cell? ⟨g, o + 1, none⟩ = some (.int .i64 b)
theorem Ko2.cells {g o : Nat} {a b : Int} {W : World} (h : Ko2 g o a b W) : W.cell? ⟨g, o, none⟩ = some (.int .i64 a) ∧ W.cell? ⟨g, o + 1, none⟩ = some (.int .i64 b) := h.2
theorem Ko2.call {g o : Nat} {a b : Int} {W w1 : World} (h : Ko2 g o a b W) (hb : Below W.heap.size W w1) : Ko2 g o a b w1 := ⟨Nat.lt_of_lt_of_le h.1 hb.size, by rw [hb.cell (p := ⟨g, o, none⟩) h.1]; exact h.2.1, by rw [hb.cell (p := ⟨g, o + 1, none⟩) h.1]; exact h.2.2⟩
theorem Ko2.alloc {g o : Nat} {a b : Int} {W : World} (h : Ko2 g o a b W) (x : Obj) : Ko2 g o a b (W.alloc x) := h.call ((Below.refl _ _).alloc (Nat.le_refl _) _)
theorem Ko2.drew {g o : Nat} {a b : Int} {W : World} (h : Ko2 g o a b W) : Ko2 g o a b W.drew := h.call (Below.refl _ _).drew
theorem IRow.ko2 {g N : Nat} {F : Nat → Int} {W : World} (h : IRow g N F W) (o : Nat) (ho : o + 1 < N) : Ko2 g o (F (o)) (F (o + 1)) W := ⟨h.1, h.at (o) (by omega), h.at (o + 1) (by omega)⟩
def Ko3 (g o : Nat) (a b c : Int) (W : World) : Prop := g < W.heap.size ∧ W.cell? ⟨g, o, none⟩ = some (.int .i64 a) ∧ W.cell? ⟨g, o + 1, none⟩ = some (.int .i64 b) ∧ W.cell? ⟨g, o + 2, none⟩ = some (.int .i64 c)
theorem Ko3.cells {g o : Nat} {a b c : Int} {W : World} (h : Ko3 g o a b c W) : W.cell? ⟨g, o, none⟩ = some (.int .i64 a) ∧ W.cell? ⟨g, o + 1, none⟩ = some (.int .i64 b) ∧ W.cell? ⟨g, o + 2, none⟩ = some (.int .i64 c) := h.2
theorem Ko3.call {g o : Nat} {a b c : Int} {W w1 : World} (h : Ko3 g o a b c W) (hb : Below W.heap.size W w1) : Ko3 g o a b c w1 := ⟨Nat.lt_of_lt_of_le h.1 hb.size, by rw [hb.cell (p := ⟨g, o, none⟩) h.1]; exact h.2.1, by rw [hb.cell (p := ⟨g, o + 1, none⟩) h.1]; exact h.2.2.1, by rw [hb.cell (p := ⟨g, o + 2, none⟩) h.1]; exact h.2.2.2⟩
theorem Ko3.alloc {g o : Nat} {a b c : Int} {W : World} (h : Ko3 g o a b c W) (x : Obj) : Ko3 g o a b c (W.alloc x) := h.call ((Below.refl _ _).alloc (Nat.le_refl _) _)
theorem Ko3.drew {g o : Nat} {a b c : Int} {W : World} (h : Ko3 g o a b c W) : Ko3 g o a b c W.drew := h.call (Below.refl _ _).drew
/- a slice that is either empty or such a row, in a block from lo up and below hi -/
def SRow (lo hi K : Nat) (v : Value) (n : Nat) (F : Nat → Int) (W : World) : Prop :=
 hi ≤ W.heap.size ∧ n ≤ 2000000 ∧ ((n = 0 ∧ ∃ ao cap, v = .slice ao 0 cap) ∨ ∃ g cap, v = .slice (some ⟨g, 0, none⟩) n cap ∧ lo ≤ g ∧ g < hi ∧ IRow g (n * K) F W)
theorem SRow.grow {lo hi K n B : Nat} {v : Value} {F : Nat → Int} {W w1 : World} (h : SRow lo hi K v n F W) (hb : Below B W w1) (hB : hi ≤ B) : SRow lo hi K v n F w1 := by
 obtain ⟨h1, h2, h3⟩ := h
 refine ⟨Nat.le_trans h1 hb.size, h2, ?_⟩
 rcases h3 with h3 | ⟨g, cap, e, hl, hh, hr⟩
 ·exact .inl h3
 ·exact .inr ⟨g, cap, e, hl, hh, hr.grow hb (by omega)⟩
theorem SRow.call {lo hi K n : Nat} {v : Value} {F : Nat → Int} {W w1 : World} (h : SRow lo hi K v n F W) (hb : Below W.heap.size W w1) : SRow lo hi K v n F w1 := h.grow hb h.1
theorem SRow.nil (lo K : Nat) (F : Nat → Int) (W : World) : SRow lo W.heap.size K (.slice none 0 0) 0 F W := ⟨Nat.le_refl _, by omega, .inl ⟨rfl, none, 0, rfl⟩⟩
theorem ownsRow_lower {w : World} {base base' : Nat} {e : TypeId} {size : Nat} {v : Value} {n : Nat} {xs : List Value} (h : w.ownsRow base e size v n xs) (hb : base' ≤ base) : w.ownsRow base' e size v n xs := by
 obtain ⟨h1, h2⟩ := h
 refine ⟨h1, ?_⟩
 rcases h2 with h2 | ⟨g, cap, cur, rfl, hg, r⟩
 ·exact .inl h2
 ·exact .inr ⟨g, cap, cur, rfl, Nat.le_trans hb hg, r⟩
def intAt (l : List Value) (j : Nat) : Int := match l[j]? with | some (.int _ z) => z | _ => 0
theorem intAt_eq {l : List Value} (h : ∀ u ∈ l, ∃ z, u = .int .i64 z) {j : Nat} (hj : j < l.length) : l[j]? = some (.int .i64 (intAt l j)) := by
 obtain ⟨z, hz⟩ := h l[j] (List.getElem_mem hj)
 rw [List.getElem?_eq_getElem hj, intAt, List.getElem?_eq_getElem hj, hz]
theorem SRow.of {lo K n : Nat} {e : TypeId} {v : Value} {l : List Value} {W : World} (h : W.ownsRow lo e K v n l) (hi : ∀ u ∈ l, ∃ z, u = .int .i64 z) (hn : n ≤ 1000000) : SRow lo W.heap.size K v n (intAt l) W := by
 refine ⟨Nat.le_refl _, Nat.le_trans hn (by omega), ?_⟩
 rcases h.2 with ⟨rfl, rfl⟩ | ⟨g, cap, cur, rfl, _⟩
 ·exact .inl ⟨rfl, none, 0, rfl⟩
 ·have hl := h.lt g rfl
  refine .inr ⟨g, cap, rfl, hl.1, hl.2, hl.2, fun t ht => ⟨?_, h.frozenAt t⟩⟩
  rw [h.cellAt t ht]
  exact intAt_eq hi (by rw [h.1]; exact ht)
end
end Go.Proofs.YtdgophfembpniaaGreatDoor

