/-
  The walk of the exact law of IsSymmetry: the law returns true and writes nothing that was there. Conditions: the list's length is one that a slice can have; the program's variable unitMatrix holds the unit.
-/
import Derived.Test.YtkfdaepnjdnnmaaDoorSyD
import Derived.Test.YtkfdaepnjdnnmaaDoorPtW
import Derived.Test.YtkfdaepnjdnnmaaDoorPtR
import Derived.Test.YtkfdaepnjdnnmaaDoorGc
namespace Go.Proofs.YtkfdaepnjdnnmaaDoor
open Go.RowKit
set_option linter.unusedSimpArgs false
set_option linter.unusedVariables false

set_option maxRecDepth 100000 in
set_option maxHeartbeats 16000000 in
theorem walkSym (f A B C : Int) (v : Value) (n : Nat) (F : Nat → Int) (a b c d x y : Int) (w : World) (hA : ARw v n F w) (hm : n ≤ 9223372036854775807) (hU : UnitOK w) :
    Calls Tryd.prog 4 #[.agg #[.int .i64 f, .int .i64 A, .int .i64 B, .int .i64 C, v], .agg #[.int .i64 a, .int .i64 b, .int .i64 c, .int .i64 d, .int .i64 x, .int .i64 y]] w fun e w' => e = .returned (.bool true) ∧ Below w.heap.size w w' := by
  have HA := Lib.hid hA
  obtain ⟨ao, cap, rfl, _⟩ := hA
  have HU := Lib.hid hU
  clear hU
  obtain ⟨s0, hs0⟩ : ∃ s, s = isB (syA f A B C n F a b c d x y) := ⟨_, rfl⟩
  obtain ⟨s1, hs1⟩ : ∃ s, s = (syA f A B C n F a b c d x y).2 := ⟨_, rfl⟩
  have HS0 := Lib.hid (And.intro hs0 hs1)
  clear hs0 hs1
  by_cases hbig : n ≤ 1048576
  · have hz : (if (n : Int) ≤ 1048576 then 1048576 - (n : Int) else -1) = 1048576 - (n : Int) := if_pos (by omega)
    have HN := Lib.hid hbig
    have hn1 : ¬ (1048576 - (n : Int) < 0) := by omega
    clear hbig
    go_enter Tryd.func4, Tryd.ntmps4
    go_wp2_with fail
    with_reducible refine (szPat_any f A B C ao n cap 1048576 _ hm (by omega)).mono ?_
    rintro e w1 ⟨rfl, hb1⟩
    rw [hz]
    have K1 : Bx (w.heap.size) [.int .i64 f, .int .i64 A, .int .i64 B, .int .i64 C, .slice ao n cap] w1 := Bx.call ((Bx.at _ rfl).alloc _) hb1
    have L1 : Bx (w.heap.size + 1) [.int .i64 a, .int .i64 b, .int .i64 c, .int .i64 d, .int .i64 x, .int .i64 y] w1 := Bx.call ((Bx.at _ (by simp))) hb1
    have B1 : Below w.heap.size w w1 := bstep (by repeat (first | with_reducible assumption | with_reducible exact Below.refl _ _ | with_reducible refine Below.drew ?_ | with_reducible refine Below.alloc ?_ (by first | omega | (simp <;> omega)) _ | with_reducible refine Below.setCell ?_ (by first | omega | (dsimp only; omega)) _ | with_reducible refine bstep ?_ (by with_reducible assumption))) hb1
    have A1 := Lib.hid (HA.out.call B1)
    have z1 : w.heap.size + 1 < w1.heap.size := by have := hb1.size; simp at this; omega
    clear hb1
    have K1c0 := K1.c0
    have K1c1 := K1.c1
    have K1c2 := K1.c2
    have K1c3 := K1.c3
    have K1c4 := K1.c4
    have K1l := K1.lt
    have L1c0 := L1.c0
    have L1c1 := L1.c1
    have L1c2 := L1.c2
    have L1c3 := L1.c3
    have L1c4 := L1.c4
    have L1c5 := L1.c5
    have L1l := L1.lt
    go_wp2_with fail
    go_region_held3 (fun W9 => (W9.cell? ⟨w.heap.size, 0, none⟩ = some (.int .i64 f) ∧ W9.cell? ⟨w.heap.size, 1, none⟩ = some (.int .i64 A) ∧ W9.cell? ⟨w.heap.size, 2, none⟩ = some (.int .i64 B) ∧ W9.cell? ⟨w.heap.size, 3, none⟩ = some (.int .i64 C) ∧ W9.cell? ⟨w.heap.size, 4, none⟩ = some (.slice ao n cap)) ∧ (W9.cell? ⟨w.heap.size + 1, 0, none⟩ = some (.int .i64 a) ∧ W9.cell? ⟨w.heap.size + 1, 1, none⟩ = some (.int .i64 b) ∧ W9.cell? ⟨w.heap.size + 1, 2, none⟩ = some (.int .i64 c) ∧ W9.cell? ⟨w.heap.size + 1, 3, none⟩ = some (.int .i64 d) ∧ W9.cell? ⟨w.heap.size + 1, 4, none⟩ = some (.int .i64 x) ∧ W9.cell? ⟨w.heap.size + 1, 5, none⟩ = some (.int .i64 y))) ((refine (And.intro (Bx.cells5 ?_) (Bx.cells6 ?_))) <;> (repeat (first | with_reducible assumption | with_reducible refine Bx.drew ?_ | with_reducible refine Bx.alloc ?_ _ | with_reducible refine Bx.call ?_ (by with_reducible assumption))))
      (first
        | (go_at_call 11; with_reducible refine (toPat_any f A B C (A1.out.call (by repeat (first | with_reducible assumption | with_reducible exact Below.refl _ _ | with_reducible refine Below.drew ?_ | with_reducible refine Below.alloc ?_ (by first | omega | (simp <;> omega)) _ | with_reducible refine Below.setCell ?_ (by first | omega | (dsimp only; omega)) _ | with_reducible refine bstep ?_ (by with_reducible assumption)))) HN.out).mono ?_; rintro e u2p ⟨v2p, rfl, r2p, hb2p⟩; obtain ⟨ao2p, cap2p, rfl⟩ := r2p.slice; have c2p : Below w1.heap.size w1 u2p := (by repeat (first | with_reducible assumption | with_reducible exact Below.refl _ _ | with_reducible refine Below.drew ?_ | with_reducible refine Below.alloc ?_ (by first | omega | (simp <;> omega)) _ | with_reducible refine Below.setCell ?_ (by first | omega | (dsimp only; omega)) _ | with_reducible refine bstep ?_ (by with_reducible assumption))))
        | (go_at_call 19; with_reducible refine (toMo_any a b c d x y _).mono ?_; rintro e u2v ⟨rfl, hb2v⟩; have c2v : Below w1.heap.size w1 u2v := (by repeat (first | with_reducible assumption | with_reducible exact Below.refl _ _ | with_reducible refine Below.drew ?_ | with_reducible refine Below.alloc ?_ (by first | omega | (simp <;> omega)) _ | with_reducible refine Below.setCell ?_ (by first | omega | (dsimp only; omega)) _ | with_reducible refine bstep ?_ (by with_reducible assumption))))
        | (go_at_call 18; with_reducible refine (specSym_any f A B C a b c d x y (SRow.call r2p (by repeat (first | with_reducible assumption | with_reducible exact Below.refl _ _ | with_reducible refine Below.drew ?_ | with_reducible refine Below.alloc ?_ (by first | omega | (simp <;> omega)) _ | with_reducible refine Below.setCell ?_ (by first | omega | (dsimp only; omega)) _ | with_reducible refine bstep ?_ (by with_reducible assumption))))).mono ?_; rintro e u2c ⟨rfl, hb2c⟩; rw [← HS0.out.1, ← HS0.out.2]; have c2c : Below w1.heap.size w1 u2c := (by repeat (first | with_reducible assumption | with_reducible exact Below.refl _ _ | with_reducible refine Below.drew ?_ | with_reducible refine Below.alloc ?_ (by first | omega | (simp <;> omega)) _ | with_reducible refine Below.setCell ?_ (by first | omega | (dsimp only; omega)) _ | with_reducible refine bstep ?_ (by with_reducible assumption)))))
    all_goals
      obtain ⟨w2, hw2⟩ : ∃ z, z = u2c := ⟨_, rfl⟩
      subst hw2
      have K2 : Bx (w.heap.size) [.int .i64 f, .int .i64 A, .int .i64 B, .int .i64 C, .slice ao n cap] w2 := Bx.call K1 c2c
      have L2 : Bx (w.heap.size + 1) [.int .i64 a, .int .i64 b, .int .i64 c, .int .i64 d, .int .i64 x, .int .i64 y] w2 := Bx.call L1 c2c
      have B2 : Below w.heap.size w w2 := bstep B1 c2c
      have A2 := Lib.hid (HA.out.call B2)
      have z2 : w1.heap.size ≤ w2.heap.size := c2c.size
      clear K1 L1 B1 A1 K1c0 K1c1 K1c2 K1c3 K1c4 K1l L1c0 L1c1 L1c2 L1c3 L1c4 L1c5 L1l c2c
      have K2c0 := K2.c0
      have K2c1 := K2.c1
      have K2c2 := K2.c2
      have K2c3 := K2.c3
      have K2c4 := K2.c4
      have K2l := K2.lt
      go_wp2_with fail
      with_reducible refine (toPat_any f A B C A2.out HN.out).mono ?_
      rintro e w3 ⟨v3, rfl, r3, hb3⟩
      have K3 : Bx (w.heap.size) [.int .i64 f, .int .i64 A, .int .i64 B, .int .i64 C, .slice ao n cap] w3 := Bx.call K2 hb3
      have L3 : Bx (w.heap.size + 1) [.int .i64 a, .int .i64 b, .int .i64 c, .int .i64 d, .int .i64 x, .int .i64 y] w3 := Bx.call L2 hb3
      have B3 : Below w.heap.size w w3 := bstep B2 hb3
      have A3 := Lib.hid (HA.out.call B3)
      have z3 : w2.heap.size ≤ w3.heap.size := hb3.size
      clear K2 L2 B2 A2 K2c0 K2c1 K2c2 K2c3 K2c4 K2l hb3
      obtain ⟨ao3, cap3, rfl⟩ := r3.slice
      have x3 := Lib.hid r3
      clear r3
      go_upto_region 1 with fail
      have K4 : Bx (w.heap.size) [.int .i64 f, .int .i64 A, .int .i64 B, .int .i64 C, .slice ao n cap] (w3.alloc (.cells #[.int .i64 f, .int .i64 A, .int .i64 B, .int .i64 C, .slice ao3 n cap3] 33)) := Bx.alloc K3 _
      have L4 : Bx (w.heap.size + 1) [.int .i64 a, .int .i64 b, .int .i64 c, .int .i64 d, .int .i64 x, .int .i64 y] (w3.alloc (.cells #[.int .i64 f, .int .i64 A, .int .i64 B, .int .i64 C, .slice ao3 n cap3] 33)) := Bx.alloc L3 _
      have X4 : Bx (w3.heap.size) [.int .i64 f, .int .i64 A, .int .i64 B, .int .i64 C, .slice ao3 n cap3] (w3.alloc (.cells #[.int .i64 f, .int .i64 A, .int .i64 B, .int .i64 C, .slice ao3 n cap3] 33)) := Bx.at _ rfl
      have B4 : Below w.heap.size w (w3.alloc (.cells #[.int .i64 f, .int .i64 A, .int .i64 B, .int .i64 C, .slice ao3 n cap3] 33)) := bstep B3 (show Below w3.heap.size w3 (w3.alloc (.cells #[.int .i64 f, .int .i64 A, .int .i64 B, .int .i64 C, .slice ao3 n cap3] 33)) from (Below.refl _ _).alloc (Nat.le_refl _) _)
      have z4 : w3.heap.size + 1 ≤ (w3.alloc (.cells #[.int .i64 f, .int .i64 A, .int .i64 B, .int .i64 C, .slice ao3 n cap3] 33)).heap.size := by simp
      have x4 := Lib.hid (SRow.call x3.out (show Below w3.heap.size w3 (w3.alloc (.cells #[.int .i64 f, .int .i64 A, .int .i64 B, .int .i64 C, .slice ao3 n cap3] 33)) from (Below.refl _ _).alloc (Nat.le_refl _) _))
      generalize hW4 : w3.alloc (.cells #[.int .i64 f, .int .i64 A, .int .i64 B, .int .i64 C, .slice ao3 n cap3] 33) = w4 at *
      clear hW4
      have A4 := Lib.hid (HA.out.call B4)
      clear K3 L3 B3 A3 x3
      have X4c0 := X4.c0
      have X4c1 := X4.c1
      have X4c2 := X4.c2
      have X4c3 := X4.c3
      have X4c4 := X4.c4
      have X4l := X4.lt
      have L4c0 := L4.c0
      have L4c1 := L4.c1
      have L4c2 := L4.c2
      have L4c3 := L4.c3
      have L4c4 := L4.c4
      have L4c5 := L4.c5
      have L4l := L4.lt
      go_region_held3 (fun W9 => (W9.cell? ⟨w3.heap.size, 0, none⟩ = some (.int .i64 f) ∧ W9.cell? ⟨w3.heap.size, 1, none⟩ = some (.int .i64 A) ∧ W9.cell? ⟨w3.heap.size, 2, none⟩ = some (.int .i64 B) ∧ W9.cell? ⟨w3.heap.size, 3, none⟩ = some (.int .i64 C) ∧ W9.cell? ⟨w3.heap.size, 4, none⟩ = some (.slice ao3 n cap3)) ∧ (W9.cell? ⟨w.heap.size + 1, 0, none⟩ = some (.int .i64 a) ∧ W9.cell? ⟨w.heap.size + 1, 1, none⟩ = some (.int .i64 b) ∧ W9.cell? ⟨w.heap.size + 1, 2, none⟩ = some (.int .i64 c) ∧ W9.cell? ⟨w.heap.size + 1, 3, none⟩ = some (.int .i64 d) ∧ W9.cell? ⟨w.heap.size + 1, 4, none⟩ = some (.int .i64 x) ∧ W9.cell? ⟨w.heap.size + 1, 5, none⟩ = some (.int .i64 y))) ((refine (And.intro (Bx.cells5 ?_) (Bx.cells6 ?_))) <;> (repeat (first | with_reducible assumption | with_reducible refine Bx.drew ?_ | with_reducible refine Bx.alloc ?_ _ | with_reducible refine Bx.call ?_ (by with_reducible assumption))))
        (first
          | (go_at_call 19; with_reducible refine (toMo_any a b c d x y _).mono ?_; rintro e u5v ⟨rfl, hb5v⟩; have c5v : Below w4.heap.size w4 u5v := (by repeat (first | with_reducible assumption | with_reducible exact Below.refl _ _ | with_reducible refine Below.drew ?_ | with_reducible refine Below.alloc ?_ (by first | omega | (simp <;> omega)) _ | with_reducible refine Below.setCell ?_ (by first | omega | (dsimp only; omega)) _ | with_reducible refine bstep ?_ (by with_reducible assumption))))
          | (go_at_call 20; with_reducible refine (implSym_any f A B C a b c d x y (SRow.call x4.out (by repeat (first | with_reducible assumption | with_reducible exact Below.refl _ _ | with_reducible refine Below.drew ?_ | with_reducible refine Below.alloc ?_ (by first | omega | (simp <;> omega)) _ | with_reducible refine Below.setCell ?_ (by first | omega | (dsimp only; omega)) _ | with_reducible refine bstep ?_ (by with_reducible assumption)))) (HU.out.call (by repeat (first | with_reducible assumption | with_reducible exact Below.refl _ _ | with_reducible refine Below.drew ?_ | with_reducible refine Below.alloc ?_ (by first | omega | (simp <;> omega)) _ | with_reducible refine Below.setCell ?_ (by first | omega | (dsimp only; omega)) _ | with_reducible refine bstep ?_ (by with_reducible assumption))))).mono ?_; rintro e u5c ⟨rfl, hb5c⟩; rw [← HS0.out.1, ← HS0.out.2]; have c5c : Below w4.heap.size w4 u5c := (by repeat (first | with_reducible assumption | with_reducible exact Below.refl _ _ | with_reducible refine Below.drew ?_ | with_reducible refine Below.alloc ?_ (by first | omega | (simp <;> omega)) _ | with_reducible refine Below.setCell ?_ (by first | omega | (dsimp only; omega)) _ | with_reducible refine bstep ?_ (by with_reducible assumption)))))
      all_goals
        obtain ⟨w5, hw5⟩ : ∃ z, z = u5c := ⟨_, rfl⟩
        subst hw5
        have K5 : Bx (w.heap.size) [.int .i64 f, .int .i64 A, .int .i64 B, .int .i64 C, .slice ao n cap] w5 := Bx.call K4 c5c
        have L5 : Bx (w.heap.size + 1) [.int .i64 a, .int .i64 b, .int .i64 c, .int .i64 d, .int .i64 x, .int .i64 y] w5 := Bx.call L4 c5c
        have X5 : Bx (w3.heap.size) [.int .i64 f, .int .i64 A, .int .i64 B, .int .i64 C, .slice ao3 n cap3] w5 := Bx.call X4 c5c
        have B5 : Below w.heap.size w w5 := bstep B4 c5c
        have A5 := Lib.hid (HA.out.call B5)
        have z5 : w4.heap.size ≤ w5.heap.size := c5c.size
        have x5 := Lib.hid (SRow.call x4.out c5c)
        clear K4 L4 X4 B4 A4 x4 X4c0 X4c1 X4c2 X4c3 X4c4 X4l L4c0 L4c1 L4c2 L4c3 L4c4 L4c5 L4l c5c
        have K5c0 := K5.c0
        have K5c1 := K5.c1
        have K5c2 := K5.c2
        have K5c3 := K5.c3
        have K5c4 := K5.c4
        have K5l := K5.lt
        have X5c0 := X5.c0
        have X5c1 := X5.c1
        have X5c2 := X5.c2
        have X5c3 := X5.c3
        have X5c4 := X5.c4
        have X5l := X5.lt
        go_wp2_with fail
        go_region_held3 (fun W9 => (W9.cell? ⟨w.heap.size, 0, none⟩ = some (.int .i64 f) ∧ W9.cell? ⟨w.heap.size, 1, none⟩ = some (.int .i64 A) ∧ W9.cell? ⟨w.heap.size, 2, none⟩ = some (.int .i64 B) ∧ W9.cell? ⟨w.heap.size, 3, none⟩ = some (.int .i64 C) ∧ W9.cell? ⟨w.heap.size, 4, none⟩ = some (.slice ao n cap)) ∧ (W9.cell? ⟨w3.heap.size, 0, none⟩ = some (.int .i64 f) ∧ W9.cell? ⟨w3.heap.size, 1, none⟩ = some (.int .i64 A) ∧ W9.cell? ⟨w3.heap.size, 2, none⟩ = some (.int .i64 B) ∧ W9.cell? ⟨w3.heap.size, 3, none⟩ = some (.int .i64 C) ∧ W9.cell? ⟨w3.heap.size, 4, none⟩ = some (.slice ao3 n cap3))) ((refine (And.intro (Bx.cells5 ?_) (Bx.cells5 ?_))) <;> (repeat (first | with_reducible assumption | with_reducible refine Bx.drew ?_ | with_reducible refine Bx.alloc ?_ _ | with_reducible refine Bx.call ?_ (by with_reducible assumption))))
          (first
            | (go_at_call 11; with_reducible refine (toPat_any f A B C (A5.out.call (by repeat (first | with_reducible assumption | with_reducible exact Below.refl _ _ | with_reducible refine Below.drew ?_ | with_reducible refine Below.alloc ?_ (by first | omega | (simp <;> omega)) _ | with_reducible refine Below.setCell ?_ (by first | omega | (dsimp only; omega)) _ | with_reducible refine bstep ?_ (by with_reducible assumption)))) HN.out).mono ?_; rintro e u6p ⟨v6p, rfl, r6p, hb6p⟩; obtain ⟨ao6p, cap6p, rfl⟩ := r6p.slice; have c6p : Below w5.heap.size w5 u6p := (by repeat (first | with_reducible assumption | with_reducible exact Below.refl _ _ | with_reducible refine Below.drew ?_ | with_reducible refine Below.alloc ?_ (by first | omega | (simp <;> omega)) _ | with_reducible refine Below.setCell ?_ (by first | omega | (dsimp only; omega)) _ | with_reducible refine bstep ?_ (by with_reducible assumption))))
            | (go_at_call 14; with_reducible refine (eqPat_any f A B C (SRow.call x5.out (by repeat (first | with_reducible assumption | with_reducible exact Below.refl _ _ | with_reducible refine Below.drew ?_ | with_reducible refine Below.alloc ?_ (by first | omega | (simp <;> omega)) _ | with_reducible refine Below.setCell ?_ (by first | omega | (dsimp only; omega)) _ | with_reducible refine bstep ?_ (by with_reducible assumption)))) (SRow.call r6p (by repeat (first | with_reducible assumption | with_reducible exact Below.refl _ _ | with_reducible refine Below.drew ?_ | with_reducible refine Below.alloc ?_ (by first | omega | (simp <;> omega)) _ | with_reducible refine Below.setCell ?_ (by first | omega | (dsimp only; omega)) _ | with_reducible refine bstep ?_ (by with_reducible assumption))))).mono ?_; rintro e u6q ⟨rfl, hb6q⟩; have c6q : Below w5.heap.size w5 u6q := (by repeat (first | with_reducible assumption | with_reducible exact Below.refl _ _ | with_reducible refine Below.drew ?_ | with_reducible refine Below.alloc ?_ (by first | omega | (simp <;> omega)) _ | with_reducible refine Below.setCell ?_ (by first | omega | (dsimp only; omega)) _ | with_reducible refine bstep ?_ (by with_reducible assumption)))))
        all_goals
          obtain ⟨w6, hw6⟩ : ∃ z, z = u6q := ⟨_, rfl⟩
          subst hw6
          have K6 : Bx (w.heap.size) [.int .i64 f, .int .i64 A, .int .i64 B, .int .i64 C, .slice ao n cap] w6 := Bx.call K5 c6q
          have L6 : Bx (w.heap.size + 1) [.int .i64 a, .int .i64 b, .int .i64 c, .int .i64 d, .int .i64 x, .int .i64 y] w6 := Bx.call L5 c6q
          have X6 : Bx (w3.heap.size) [.int .i64 f, .int .i64 A, .int .i64 B, .int .i64 C, .slice ao3 n cap3] w6 := Bx.call X5 c6q
          have B6 : Below w.heap.size w w6 := bstep B5 c6q
          have A6 := Lib.hid (HA.out.call B6)
          have z6 : w5.heap.size ≤ w6.heap.size := c6q.size
          have x6 := Lib.hid (SRow.call x5.out c6q)
          clear K5 L5 X5 B5 A5 x5 K5c0 K5c1 K5c2 K5c3 K5c4 K5l X5c0 X5c1 X5c2 X5c3 X5c4 X5l c6q
          go_wp2
          go_ret
          exact ⟨rfl, B6⟩
  · have hz : (if (n : Int) ≤ 1048576 then 1048576 - (n : Int) else -1) = -1 := if_neg (by omega)
    go_enter Tryd.func4, Tryd.ntmps4
    go_wp2_with fail
    refine (szPat_any f A B C ao n cap 1048576 _ hm (by omega)).mono ?_
    rintro e w1 ⟨rfl, hb1⟩
    rw [hz]
    go_wp2
    go_ret
    exact ⟨rfl, bstep (by repeat (first | with_reducible assumption | with_reducible exact Below.refl _ _ | with_reducible refine Below.drew ?_ | with_reducible refine Below.alloc ?_ (by first | omega | (simp <;> omega)) _ | with_reducible refine Below.setCell ?_ (by first | omega | (dsimp only; omega)) _ | with_reducible refine bstep ?_ (by with_reducible assumption))) hb1⟩
end Go.Proofs.YtkfdaepnjdnnmaaDoor
