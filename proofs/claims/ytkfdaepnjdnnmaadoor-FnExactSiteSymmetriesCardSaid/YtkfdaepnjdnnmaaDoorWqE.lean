/-
  The walk of the exact law of SiteSymmetries: the law returns true and writes nothing that was there. Conditions: the list's length is one that a slice can have; the program's variable unitMatrix holds the unit.
-/
import Derived.Test.YtkfdaepnjdnnmaaDoorSyV
import Derived.Test.YtkfdaepnjdnnmaaDoorPtW
import Derived.Test.YtkfdaepnjdnnmaaDoorMk6
namespace Go.Proofs.YtkfdaepnjdnnmaaDoor
open Go.RowKit
set_option linter.unusedSimpArgs false
set_option linter.unusedVariables false

set_option maxRecDepth 100000 in
set_option maxHeartbeats 16000000 in
theorem walkSite (f A B C : Int) (v : Value) (n : Nat) (F : Nat → Int) (x y : Int) (w : World) (hA : ARw v n F w) (hm : n ≤ 9223372036854775807) (hU : UnitOK w) :
    Calls Tryd.prog 7 #[.agg #[.int .i64 f, .int .i64 A, .int .i64 B, .int .i64 C, v], .agg #[.int .i64 x, .int .i64 y]] w fun e w' => e = .returned (.bool true) ∧ Below w.heap.size w w' := by
  have HA := Lib.hid hA
  obtain ⟨ao, cap, rfl, _⟩ := hA
  have HU := Lib.hid hU
  clear hU
  obtain ⟨m9, hm9⟩ : ∃ m, m = (ssL f A B C n F x y).length := ⟨_, rfl⟩
  have hm5 : m9 ≤ 5184 := by rw [hm9]; exact ssL_len f A B C n F x y
  obtain ⟨c9, hc9⟩ : ∃ c, c = ssC f A B C n F x y := ⟨_, rfl⟩
  obtain ⟨F9, hF9⟩ : ∃ F9, F9 = fm (ssL f A B C n F x y) := ⟨_, rfl⟩
  have HMF := Lib.hid (And.intro hm9 (And.intro hc9 hF9))
  clear hm9 hc9 hF9
  by_cases hbig : n ≤ 1048576
  · have hz : (if (n : Int) ≤ 1048576 then 1048576 - (n : Int) else -1) = 1048576 - (n : Int) := if_pos (by omega)
    have HN := Lib.hid hbig
    have hn1 : ¬ (1048576 - (n : Int) < 0) := by omega
    clear hbig
    go_enter Tryd.func7, Tryd.ntmps7
    go_wp2_with fail
    with_reducible refine (szPat_any f A B C ao n cap 1048576 _ hm (by omega)).mono ?_
    rintro e w1 ⟨rfl, hb1⟩
    rw [hz]
    have K1 : Bx (w.heap.size) [.int .i64 f, .int .i64 A, .int .i64 B, .int .i64 C, .slice ao n cap] w1 := Bx.call ((Bx.at _ rfl).alloc _) hb1
    have L1 : Bx (w.heap.size + 1) [.int .i64 x, .int .i64 y] w1 := Bx.call ((Bx.at _ (by simp))) hb1
    have B1 : Below w.heap.size w w1 := bstep (by repeat (first | with_reducible assumption | with_reducible exact Below.refl _ _ | with_reducible refine Below.drew ?_ | with_reducible refine Below.alloc ?_ (by first | omega | (simp <;> omega)) _ | with_reducible refine Below.setCell ?_ (by first | omega | (dsimp only; omega)) _ | with_reducible refine bstep ?_ (by with_reducible assumption))) hb1
    have A1 := Lib.hid (HA.out.call B1)
    have z1 : w.heap.size + 1 < w1.heap.size := by have := hb1.size; simp at this; omega
    clear hb1
    have K1c0 := K1.c0
    have K1c1 := K1.c1
    have K1c2 := K1.c2
    have K1c3 := K1.c3
    have K1c4 := K1.c4
    have K1l := K1.lt
    have L1c0 := L1.c0
    have L1c1 := L1.c1
    have L1l := L1.lt
    go_wp2_with fail
    go_region_held3 (fun W9 => (W9.cell? ⟨w.heap.size, 0, none⟩ = some (.int .i64 f) ∧ W9.cell? ⟨w.heap.size, 1, none⟩ = some (.int .i64 A) ∧ W9.cell? ⟨w.heap.size, 2, none⟩ = some (.int .i64 B) ∧ W9.cell? ⟨w.heap.size, 3, none⟩ = some (.int .i64 C) ∧ W9.cell? ⟨w.heap.size, 4, none⟩ = some (.slice ao n cap)) ∧ (W9.cell? ⟨w.heap.size + 1, 0, none⟩ = some (.int .i64 x) ∧ W9.cell? ⟨w.heap.size + 1, 1, none⟩ = some (.int .i64 y))) ((refine (And.intro (Bx.cells5 ?_) (Bx.cells2 ?_))) <;> (repeat (first | with_reducible assumption | with_reducible refine Bx.drew ?_ | with_reducible refine Bx.alloc ?_ _ | with_reducible refine Bx.call ?_ (by with_reducible assumption))))
      (first
        | (go_at_call 11; with_reducible refine (toPat_any f A B C (A1.out.call (by repeat (first | with_reducible assumption | with_reducible exact Below.refl _ _ | with_reducible refine Below.drew ?_ | with_reducible refine Below.alloc ?_ (by first | omega | (simp <;> omega)) _ | with_reducible refine Below.setCell ?_ (by first | omega | (dsimp only; omega)) _ | with_reducible refine bstep ?_ (by with_reducible assumption)))) HN.out).mono ?_; rintro e u2p ⟨v2p, rfl, r2p, hb2p⟩; obtain ⟨ao2p, cap2p, rfl⟩ := r2p.slice; have c2p : Below w1.heap.size w1 u2p := (by repeat (first | with_reducible assumption | with_reducible exact Below.refl _ _ | with_reducible refine Below.drew ?_ | with_reducible refine Below.alloc ?_ (by first | omega | (simp <;> omega)) _ | with_reducible refine Below.setCell ?_ (by first | omega | (dsimp only; omega)) _ | with_reducible refine bstep ?_ (by with_reducible assumption))))
        | (go_at_call 27; with_reducible refine (toVec_any x y _).mono ?_; rintro e u2v ⟨rfl, hb2v⟩; have c2v : Below w1.heap.size w1 u2v := (by repeat (first | with_reducible assumption | with_reducible exact Below.refl _ _ | with_reducible refine Below.drew ?_ | with_reducible refine Below.alloc ?_ (by first | omega | (simp <;> omega)) _ | with_reducible refine Below.setCell ?_ (by first | omega | (dsimp only; omega)) _ | with_reducible refine bstep ?_ (by with_reducible assumption))))
        | (go_at_call 26; with_reducible refine (specSS_any f A B C x y (SRow.call r2p (by repeat (first | with_reducible assumption | with_reducible exact Below.refl _ _ | with_reducible refine Below.drew ?_ | with_reducible refine Below.alloc ?_ (by first | omega | (simp <;> omega)) _ | with_reducible refine Below.setCell ?_ (by first | omega | (dsimp only; omega)) _ | with_reducible refine bstep ?_ (by with_reducible assumption))))).mono ?_; rintro e u2c hh2c; unfold MAns at hh2c; rw [← HMF.out.1, ← HMF.out.2.1, ← HMF.out.2.2] at hh2c; obtain ⟨v2c, rfl, rq2c, hb2c⟩ := hh2c; obtain ⟨ao2c, cap2c, rfl⟩ := rq2c.slice; have rl2c := SRow.lower7 rq2c (lo' := w1.heap.size) (Below.size (B := w1.heap.size) (by repeat (first | with_reducible assumption | with_reducible exact Below.refl _ _ | with_reducible refine Below.drew ?_ | with_reducible refine Below.alloc ?_ (by first | omega | (simp <;> omega)) _ | with_reducible refine Below.setCell ?_ (by first | omega | (dsimp only; omega)) _ | with_reducible refine bstep ?_ (by with_reducible assumption)))); clear rq2c; have c2c : Below w1.heap.size w1 u2c := (by repeat (first | with_reducible assumption | with_reducible exact Below.refl _ _ | with_reducible refine Below.drew ?_ | with_reducible refine Below.alloc ?_ (by first | omega | (simp <;> omega)) _ | with_reducible refine Below.setCell ?_ (by first | omega | (dsimp only; omega)) _ | with_reducible refine bstep ?_ (by with_reducible assumption)))))
    all_goals
      obtain ⟨w2, hw2⟩ : ∃ z, z = u2c := ⟨_, rfl⟩
      subst hw2
      have K2 : Bx (w.heap.size) [.int .i64 f, .int .i64 A, .int .i64 B, .int .i64 C, .slice ao n cap] w2 := Bx.call K1 c2c
      have L2 : Bx (w.heap.size + 1) [.int .i64 x, .int .i64 y] w2 := Bx.call L1 c2c
      have B2 : Below w.heap.size w w2 := bstep B1 c2c
      have A2 := Lib.hid (HA.out.call B2)
      have z2 : w1.heap.size ≤ w2.heap.size := c2c.size
      clear K1 L1 B1 A1 K1c0 K1c1 K1c2 K1c3 K1c4 K1l L1c0 L1c1 L1l c2c
      have y2 := Lib.hid rl2c
      clear rl2c
      have K2c0 := K2.c0
      have K2c1 := K2.c1
      have K2c2 := K2.c2
      have K2c3 := K2.c3
      have K2c4 := K2.c4
      have K2l := K2.lt
      go_wp2_with fail
      with_reducible refine (toPat_any f A B C A2.out HN.out).mono ?_
      rintro e w3 ⟨v3, rfl, r3, hb3⟩
      have K3 : Bx (w.heap.size) [.int .i64 f, .int .i64 A, .int .i64 B, .int .i64 C, .slice ao n cap] w3 := Bx.call K2 hb3
      have L3 : Bx (w.heap.size + 1) [.int .i64 x, .int .i64 y] w3 := Bx.call L2 hb3
      have B3 : Below w.heap.size w w3 := bstep B2 hb3
      have A3 := Lib.hid (HA.out.call B3)
      have z3 : w2.heap.size ≤ w3.heap.size := hb3.size
      have y3 := Lib.hid (SRow.call y2.out hb3)
      clear K2 L2 B2 A2 y2 K2c0 K2c1 K2c2 K2c3 K2c4 K2l hb3
      obtain ⟨ao3, cap3, rfl⟩ := r3.slice
      have x3 := Lib.hid r3
      clear r3
      go_upto_region 1 with fail
      have K4 : Bx (w.heap.size) [.int .i64 f, .int .i64 A, .int .i64 B, .int .i64 C, .slice ao n cap] (w3.alloc (.cells #[.int .i64 f, .int .i64 A, .int .i64 B, .int .i64 C, .slice ao3 n cap3] 33)) := Bx.alloc K3 _
      have L4 : Bx (w.heap.size + 1) [.int .i64 x, .int .i64 y] (w3.alloc (.cells #[.int .i64 f, .int .i64 A, .int .i64 B, .int .i64 C, .slice ao3 n cap3] 33)) := Bx.alloc L3 _
      have X4 : Bx (w3.heap.size) [.int .i64 f, .int .i64 A, .int .i64 B, .int .i64 C, .slice ao3 n cap3] (w3.alloc (.cells #[.int .i64 f, .int .i64 A, .int .i64 B, .int .i64 C, .slice ao3 n cap3] 33)) := Bx.at _ rfl
      have B4 : Below w.heap.size w (w3.alloc (.cells #[.int .i64 f, .int .i64 A, .int .i64 B, .int .i64 C, .slice ao3 n cap3] 33)) := bstep B3 (show Below w3.heap.size w3 (w3.alloc (.cells #[.int .i64 f, .int .i64 A, .int .i64 B, .int .i64 C, .slice ao3 n cap3] 33)) from (Below.refl _ _).alloc (Nat.le_refl _) _)
      have z4 : w3.heap.size + 1 ≤ (w3.alloc (.cells #[.int .i64 f, .int .i64 A, .int .i64 B, .int .i64 C, .slice ao3 n cap3] 33)).heap.size := by simp
      have y4 := Lib.hid (SRow.call y3.out (show Below w3.heap.size w3 (w3.alloc (.cells #[.int .i64 f, .int .i64 A, .int .i64 B, .int .i64 C, .slice ao3 n cap3] 33)) from (Below.refl _ _).alloc (Nat.le_refl _) _))
      have x4 := Lib.hid (SRow.call x3.out (show Below w3.heap.size w3 (w3.alloc (.cells #[.int .i64 f, .int .i64 A, .int .i64 B, .int .i64 C, .slice ao3 n cap3] 33)) from (Below.refl _ _).alloc (Nat.le_refl _) _))
      generalize hW4 : w3.alloc (.cells #[.int .i64 f, .int .i64 A, .int .i64 B, .int .i64 C, .slice ao3 n cap3] 33) = w4 at *
      clear hW4
      have A4 := Lib.hid (HA.out.call B4)
      clear K3 L3 B3 A3 y3 x3
      have X4c0 := X4.c0
      have X4c1 := X4.c1
      have X4c2 := X4.c2
      have X4c3 := X4.c3
      have X4c4 := X4.c4
      have X4l := X4.lt
      have L4c0 := L4.c0
      have L4c1 := L4.c1
      have L4l := L4.lt
      go_region_held3 (fun W9 => (W9.cell? ⟨w3.heap.size, 0, none⟩ = some (.int .i64 f) ∧ W9.cell? ⟨w3.heap.size, 1, none⟩ = some (.int .i64 A) ∧ W9.cell? ⟨w3.heap.size, 2, none⟩ = some (.int .i64 B) ∧ W9.cell? ⟨w3.heap.size, 3, none⟩ = some (.int .i64 C) ∧ W9.cell? ⟨w3.heap.size, 4, none⟩ = some (.slice ao3 n cap3)) ∧ (W9.cell? ⟨w.heap.size + 1, 0, none⟩ = some (.int .i64 x) ∧ W9.cell? ⟨w.heap.size + 1, 1, none⟩ = some (.int .i64 y))) ((refine (And.intro (Bx.cells5 ?_) (Bx.cells2 ?_))) <;> (repeat (first | with_reducible assumption | with_reducible refine Bx.drew ?_ | with_reducible refine Bx.alloc ?_ _ | with_reducible refine Bx.call ?_ (by with_reducible assumption))))
        (first
          | (go_at_call 27; with_reducible refine (toVec_any x y _).mono ?_; rintro e u5v ⟨rfl, hb5v⟩; have c5v : Below w4.heap.size w4 u5v := (by repeat (first | with_reducible assumption | with_reducible exact Below.refl _ _ | with_reducible refine Below.drew ?_ | with_reducible refine Below.alloc ?_ (by first | omega | (simp <;> omega)) _ | with_reducible refine Below.setCell ?_ (by first | omega | (dsimp only; omega)) _ | with_reducible refine bstep ?_ (by with_reducible assumption))))
          | (go_at_call 28; with_reducible refine (implSS_any f A B C x y (SRow.call x4.out (by repeat (first | with_reducible assumption | with_reducible exact Below.refl _ _ | with_reducible refine Below.drew ?_ | with_reducible refine Below.alloc ?_ (by first | omega | (simp <;> omega)) _ | with_reducible refine Below.setCell ?_ (by first | omega | (dsimp only; omega)) _ | with_reducible refine bstep ?_ (by with_reducible assumption)))) (HU.out.call (by repeat (first | with_reducible assumption | with_reducible exact Below.refl _ _ | with_reducible refine Below.drew ?_ | with_reducible refine Below.alloc ?_ (by first | omega | (simp <;> omega)) _ | with_reducible refine Below.setCell ?_ (by first | omega | (dsimp only; omega)) _ | with_reducible refine bstep ?_ (by with_reducible assumption))))).mono ?_; rintro e u5c hh5c; unfold MAns at hh5c; rw [← HMF.out.1, ← HMF.out.2.1, ← HMF.out.2.2] at hh5c; obtain ⟨v5c, rfl, rq5c, hb5c⟩ := hh5c; obtain ⟨ao5c, cap5c, rfl⟩ := rq5c.slice; have rl5c := SRow.lower7 rq5c (lo' := w4.heap.size) (Below.size (B := w4.heap.size) (by repeat (first | with_reducible assumption | with_reducible exact Below.refl _ _ | with_reducible refine Below.drew ?_ | with_reducible refine Below.alloc ?_ (by first | omega | (simp <;> omega)) _ | with_reducible refine Below.setCell ?_ (by first | omega | (dsimp only; omega)) _ | with_reducible refine bstep ?_ (by with_reducible assumption)))); clear rq5c; have c5c : Below w4.heap.size w4 u5c := (by repeat (first | with_reducible assumption | with_reducible exact Below.refl _ _ | with_reducible refine Below.drew ?_ | with_reducible refine Below.alloc ?_ (by first | omega | (simp <;> omega)) _ | with_reducible refine Below.setCell ?_ (by first | omega | (dsimp only; omega)) _ | with_reducible refine bstep ?_ (by with_reducible assumption)))))
      all_goals
        obtain ⟨w5, hw5⟩ : ∃ z, z = u5c := ⟨_, rfl⟩
        subst hw5
        have K5 : Bx (w.heap.size) [.int .i64 f, .int .i64 A, .int .i64 B, .int .i64 C, .slice ao n cap] w5 := Bx.call K4 c5c
        have L5 : Bx (w.heap.size + 1) [.int .i64 x, .int .i64 y] w5 := Bx.call L4 c5c
        have X5 : Bx (w3.heap.size) [.int .i64 f, .int .i64 A, .int .i64 B, .int .i64 C, .slice ao3 n cap3] w5 := Bx.call X4 c5c
        have B5 : Below w.heap.size w w5 := bstep B4 c5c
        have A5 := Lib.hid (HA.out.call B5)
        have z5 : w4.heap.size ≤ w5.heap.size := c5c.size
        have y5 := Lib.hid (SRow.call y4.out c5c)
        have x5 := Lib.hid (SRow.call x4.out c5c)
        clear K4 L4 X4 B4 A4 y4 x4 X4c0 X4c1 X4c2 X4c3 X4c4 X4l L4c0 L4c1 L4l c5c
        have g5 := Lib.hid rl5c
        clear rl5c
        go_wp2_with fail
        with_reducible refine (eqMotionS_any g5.out y5.out).mono ?_
        rintro e w6 ⟨rfl, hb6⟩
        have K6 : Bx (w.heap.size) [.int .i64 f, .int .i64 A, .int .i64 B, .int .i64 C, .slice ao n cap] w6 := Bx.call K5 hb6
        have L6 : Bx (w.heap.size + 1) [.int .i64 x, .int .i64 y] w6 := Bx.call L5 hb6
        have X6 : Bx (w3.heap.size) [.int .i64 f, .int .i64 A, .int .i64 B, .int .i64 C, .slice ao3 n cap3] w6 := Bx.call X5 hb6
        have B6 : Below w.heap.size w w6 := bstep B5 hb6
        have A6 := Lib.hid (HA.out.call B6)
        have z6 : w5.heap.size ≤ w6.heap.size := hb6.size
        have y6 := Lib.hid (SRow.call y5.out hb6)
        have x6 := Lib.hid (SRow.call x5.out hb6)
        have g6 := Lib.hid (SRow.call g5.out hb6)
        clear K5 L5 X5 B5 A5 y5 x5 g5 hb6
        have K6c0 := K6.c0
        have K6c1 := K6.c1
        have K6c2 := K6.c2
        have K6c3 := K6.c3
        have K6c4 := K6.c4
        have K6l := K6.lt
        have X6c0 := X6.c0
        have X6c1 := X6.c1
        have X6c2 := X6.c2
        have X6c3 := X6.c3
        have X6c4 := X6.c4
        have X6l := X6.lt
        go_wp2_with fail
        go_region_held3 (fun W9 => (W9.cell? ⟨w.heap.size, 0, none⟩ = some (.int .i64 f) ∧ W9.cell? ⟨w.heap.size, 1, none⟩ = some (.int .i64 A) ∧ W9.cell? ⟨w.heap.size, 2, none⟩ = some (.int .i64 B) ∧ W9.cell? ⟨w.heap.size, 3, none⟩ = some (.int .i64 C) ∧ W9.cell? ⟨w.heap.size, 4, none⟩ = some (.slice ao n cap)) ∧ (W9.cell? ⟨w3.heap.size, 0, none⟩ = some (.int .i64 f) ∧ W9.cell? ⟨w3.heap.size, 1, none⟩ = some (.int .i64 A) ∧ W9.cell? ⟨w3.heap.size, 2, none⟩ = some (.int .i64 B) ∧ W9.cell? ⟨w3.heap.size, 3, none⟩ = some (.int .i64 C) ∧ W9.cell? ⟨w3.heap.size, 4, none⟩ = some (.slice ao3 n cap3))) ((refine (And.intro (Bx.cells5 ?_) (Bx.cells5 ?_))) <;> (repeat (first | with_reducible assumption | with_reducible refine Bx.drew ?_ | with_reducible refine Bx.alloc ?_ _ | with_reducible refine Bx.call ?_ (by with_reducible assumption))))
          (first
            | (go_at_call 11; with_reducible refine (toPat_any f A B C (A6.out.call (by repeat (first | with_reducible assumption | with_reducible exact Below.refl _ _ | with_reducible refine Below.drew ?_ | with_reducible refine Below.alloc ?_ (by first | omega | (simp <;> omega)) _ | with_reducible refine Below.setCell ?_ (by first | omega | (dsimp only; omega)) _ | with_reducible refine bstep ?_ (by with_reducible assumption)))) HN.out).mono ?_; rintro e u7p ⟨v7p, rfl, r7p, hb7p⟩; obtain ⟨ao7p, cap7p, rfl⟩ := r7p.slice; have c7p : Below w6.heap.size w6 u7p := (by repeat (first | with_reducible assumption | with_reducible exact Below.refl _ _ | with_reducible refine Below.drew ?_ | with_reducible refine Below.alloc ?_ (by first | omega | (simp <;> omega)) _ | with_reducible refine Below.setCell ?_ (by first | omega | (dsimp only; omega)) _ | with_reducible refine bstep ?_ (by with_reducible assumption))))
            | (go_at_call 14; with_reducible refine (eqPat_any f A B C (SRow.call x6.out (by repeat (first | with_reducible assumption | with_reducible exact Below.refl _ _ | with_reducible refine Below.drew ?_ | with_reducible refine Below.alloc ?_ (by first | omega | (simp <;> omega)) _ | with_reducible refine Below.setCell ?_ (by first | omega | (dsimp only; omega)) _ | with_reducible refine bstep ?_ (by with_reducible assumption)))) (SRow.call r7p (by repeat (first | with_reducible assumption | with_reducible exact Below.refl _ _ | with_reducible refine Below.drew ?_ | with_reducible refine Below.alloc ?_ (by first | omega | (simp <;> omega)) _ | with_reducible refine Below.setCell ?_ (by first | omega | (dsimp only; omega)) _ | with_reducible refine bstep ?_ (by with_reducible assumption))))).mono ?_; rintro e u7q ⟨rfl, hb7q⟩; have c7q : Below w6.heap.size w6 u7q := (by repeat (first | with_reducible assumption | with_reducible exact Below.refl _ _ | with_reducible refine Below.drew ?_ | with_reducible refine Below.alloc ?_ (by first | omega | (simp <;> omega)) _ | with_reducible refine Below.setCell ?_ (by first | omega | (dsimp only; omega)) _ | with_reducible refine bstep ?_ (by with_reducible assumption)))))
        all_goals
          obtain ⟨w7, hw7⟩ : ∃ z, z = u7q := ⟨_, rfl⟩
          subst hw7
          have K7 : Bx (w.heap.size) [.int .i64 f, .int .i64 A, .int .i64 B, .int .i64 C, .slice ao n cap] w7 := Bx.call K6 c7q
          have L7 : Bx (w.heap.size + 1) [.int .i64 x, .int .i64 y] w7 := Bx.call L6 c7q
          have X7 : Bx (w3.heap.size) [.int .i64 f, .int .i64 A, .int .i64 B, .int .i64 C, .slice ao3 n cap3] w7 := Bx.call X6 c7q
          have B7 : Below w.heap.size w w7 := bstep B6 c7q
          have A7 := Lib.hid (HA.out.call B7)
          have z7 : w6.heap.size ≤ w7.heap.size := c7q.size
          have y7 := Lib.hid (SRow.call y6.out c7q)
          have x7 := Lib.hid (SRow.call x6.out c7q)
          have g7 := Lib.hid (SRow.call g6.out c7q)
          clear K6 L6 X6 B6 A6 y6 x6 g6 K6c0 K6c1 K6c2 K6c3 K6c4 K6l X6c0 X6c1 X6c2 X6c3 X6c4 X6l c7q
          have X7c0 := X7.c0
          have X7c1 := X7.c1
          have X7c2 := X7.c2
          have X7c3 := X7.c3
          have X7c4 := X7.c4
          have X7l := X7.lt
          go_wp2_with fail
          with_reducible refine (markPat_any f A B C x7.out (by omega)).mono ?_
          rintro e w8 ⟨rfl, rm8, hb8, hk8⟩
          have z8 : w7.heap.size ≤ w8.heap.size := hb8.size
          have K8 : Bx (w.heap.size) [.int .i64 f, .int .i64 A, .int .i64 B, .int .i64 C, .slice ao n cap] w8 := Bx.keepV K7 hk8 (SRow.off x7.out (by omega)) z8
          have L8 : Bx (w.heap.size + 1) [.int .i64 x, .int .i64 y] w8 := Bx.keepV L7 hk8 (SRow.off x7.out (by omega)) z8
          have X8 : Bx (w3.heap.size) [.int .i64 f, .int .i64 A, .int .i64 B, .int .i64 C, .slice ao3 n cap3] w8 := Bx.keepV X7 hk8 (SRow.off x7.out (by omega)) z8
          have B8 : Below w.heap.size w w8 := B7.trans (hb8.mono (by omega))
          have A8 := Lib.hid (HA.out.call B8)
          have y8 := Lib.hid (SRow.keepV y7.out hk8 (fun b9 h8 h9 => SRow.off x7.out (by omega)) z8)
          have g8 := Lib.hid (SRow.keepV g7.out hk8 (fun b9 h8 h9 => SRow.off x7.out (by omega)) z8)
          have x8 := Lib.hid rm8
          clear rm8 hb8 hk8 K7 L7 X7 B7 A7 y7 x7 g7 X7c0 X7c1 X7c2 X7c3 X7c4 X7l
          clear x8
          clear X8
          have hk9 : ¬ ((n : Int) * 1 + 1 < 0) := by omega
          go_wp2_with fail
          with_reducible refine (eqMotionS_any g8.out y8.out).mono ?_
          rintro e w9 ⟨rfl, hb9⟩
          have K9 : Bx (w.heap.size) [.int .i64 f, .int .i64 A, .int .i64 B, .int .i64 C, .slice ao n cap] w9 := Bx.call K8 hb9
          have L9 : Bx (w.heap.size + 1) [.int .i64 x, .int .i64 y] w9 := Bx.call L8 hb9
          have B9 : Below w.heap.size w w9 := bstep B8 hb9
          have A9 := Lib.hid (HA.out.call B9)
          have z9 : w8.heap.size ≤ w9.heap.size := hb9.size
          have y9 := Lib.hid (SRow.call y8.out hb9)
          have g9 := Lib.hid (SRow.call g8.out hb9)
          clear K8 L8 B8 A8 y8 g8 hb9
          go_wp2_with fail
          with_reducible refine (markMotionS_off 1 (by omega) (by omega) g9.out).mono ?_
          rintro e w10 ⟨rfl, rm10, hb10, hk10⟩
          have z10 : w9.heap.size ≤ w10.heap.size := hb10.size
          have K10 : Bx (w.heap.size) [.int .i64 f, .int .i64 A, .int .i64 B, .int .i64 C, .slice ao n cap] w10 := K9.grow hb10 (by omega)
          have L10 : Bx (w.heap.size + 1) [.int .i64 x, .int .i64 y] w10 := L9.grow hb10 (by omega)
          have B10 : Below w.heap.size w w10 := B9.trans (hb10.mono (by omega))
          have A10 := Lib.hid (HA.out.call B10)
          have y10 := Lib.hid (SRow.grow y9.out hb10 (by omega))
          have g10 := Lib.hid (show SRow _ _ 6 _ _ mark6 w10 from rm10)
          clear rm10 hb10 hk10 K9 L9 B9 A9 y9 g9
          have hk8 : ¬ ((m9 : Int) * 6 + 1 < 0) := by omega
          have hq8 : (((m9 : Int) * 6 + 1) != (m9 : Int) * 6 + 1) = false := by simp
          go_wp2_with fail
          with_reducible refine (heldMotionS_any g10.out).mono ?_
          rintro e w11 ⟨rfl, hb11⟩
          have K11 : Bx (w.heap.size) [.int .i64 f, .int .i64 A, .int .i64 B, .int .i64 C, .slice ao n cap] w11 := Bx.call K10 hb11
          have L11 : Bx (w.heap.size + 1) [.int .i64 x, .int .i64 y] w11 := Bx.call L10 hb11
          have B11 : Below w.heap.size w w11 := bstep B10 hb11
          have A11 := Lib.hid (HA.out.call B11)
          have z11 : w10.heap.size ≤ w11.heap.size := hb11.size
          have y11 := Lib.hid (SRow.call y10.out hb11)
          have g11 := Lib.hid (SRow.call g10.out hb11)
          clear K10 L10 B10 A10 y10 g10 hb11
          have K11c0 := K11.c0
          have K11c1 := K11.c1
          have K11c2 := K11.c2
          have K11c3 := K11.c3
          have K11c4 := K11.c4
          have K11l := K11.lt
          have L11c0 := L11.c0
          have L11c1 := L11.c1
          have L11l := L11.lt
          go_wp2_with fail
          go_region_held3 (fun W9 => (W9.cell? ⟨w.heap.size, 0, none⟩ = some (.int .i64 f) ∧ W9.cell? ⟨w.heap.size, 1, none⟩ = some (.int .i64 A) ∧ W9.cell? ⟨w.heap.size, 2, none⟩ = some (.int .i64 B) ∧ W9.cell? ⟨w.heap.size, 3, none⟩ = some (.int .i64 C) ∧ W9.cell? ⟨w.heap.size, 4, none⟩ = some (.slice ao n cap)) ∧ (W9.cell? ⟨w.heap.size + 1, 0, none⟩ = some (.int .i64 x) ∧ W9.cell? ⟨w.heap.size + 1, 1, none⟩ = some (.int .i64 y))) ((refine (And.intro (Bx.cells5 ?_) (Bx.cells2 ?_))) <;> (repeat (first | with_reducible assumption | with_reducible refine Bx.drew ?_ | with_reducible refine Bx.alloc ?_ _ | with_reducible refine Bx.call ?_ (by with_reducible assumption))))
            (first
              | (go_at_call 11; with_reducible refine (toPat_any f A B C (A11.out.call (by repeat (first | with_reducible assumption | with_reducible exact Below.refl _ _ | with_reducible refine Below.drew ?_ | with_reducible refine Below.alloc ?_ (by first | omega | (simp <;> omega)) _ | with_reducible refine Below.setCell ?_ (by first | omega | (dsimp only; omega)) _ | with_reducible refine bstep ?_ (by with_reducible assumption)))) HN.out).mono ?_; rintro e u12p ⟨v12p, rfl, r12p, hb12p⟩; obtain ⟨ao12p, cap12p, rfl⟩ := r12p.slice; have c12p : Below w11.heap.size w11 u12p := (by repeat (first | with_reducible assumption | with_reducible exact Below.refl _ _ | with_reducible refine Below.drew ?_ | with_reducible refine Below.alloc ?_ (by first | omega | (simp <;> omega)) _ | with_reducible refine Below.setCell ?_ (by first | omega | (dsimp only; omega)) _ | with_reducible refine bstep ?_ (by with_reducible assumption))))
              | (go_at_call 27; with_reducible refine (toVec_any x y _).mono ?_; rintro e u12v ⟨rfl, hb12v⟩; have c12v : Below w11.heap.size w11 u12v := (by repeat (first | with_reducible assumption | with_reducible exact Below.refl _ _ | with_reducible refine Below.drew ?_ | with_reducible refine Below.alloc ?_ (by first | omega | (simp <;> omega)) _ | with_reducible refine Below.setCell ?_ (by first | omega | (dsimp only; omega)) _ | with_reducible refine bstep ?_ (by with_reducible assumption))))
              | (go_at_call 28; with_reducible refine (implSS_any f A B C x y (SRow.call r12p (by repeat (first | with_reducible assumption | with_reducible exact Below.refl _ _ | with_reducible refine Below.drew ?_ | with_reducible refine Below.alloc ?_ (by first | omega | (simp <;> omega)) _ | with_reducible refine Below.setCell ?_ (by first | omega | (dsimp only; omega)) _ | with_reducible refine bstep ?_ (by with_reducible assumption)))) (HU.out.call (by repeat (first | with_reducible assumption | with_reducible exact Below.refl _ _ | with_reducible refine Below.drew ?_ | with_reducible refine Below.alloc ?_ (by first | omega | (simp <;> omega)) _ | with_reducible refine Below.setCell ?_ (by first | omega | (dsimp only; omega)) _ | with_reducible refine bstep ?_ (by with_reducible assumption))))).mono ?_; rintro e u12c hh12c; unfold MAns at hh12c; rw [← HMF.out.1, ← HMF.out.2.1, ← HMF.out.2.2] at hh12c; obtain ⟨v12c, rfl, rq12c, hb12c⟩ := hh12c; obtain ⟨ao12c, cap12c, rfl⟩ := rq12c.slice; have rl12c := SRow.lower7 rq12c (lo' := w11.heap.size) (Below.size (B := w11.heap.size) (by repeat (first | with_reducible assumption | with_reducible exact Below.refl _ _ | with_reducible refine Below.drew ?_ | with_reducible refine Below.alloc ?_ (by first | omega | (simp <;> omega)) _ | with_reducible refine Below.setCell ?_ (by first | omega | (dsimp only; omega)) _ | with_reducible refine bstep ?_ (by with_reducible assumption)))); clear rq12c; have c12c : Below w11.heap.size w11 u12c := (by repeat (first | with_reducible assumption | with_reducible exact Below.refl _ _ | with_reducible refine Below.drew ?_ | with_reducible refine Below.alloc ?_ (by first | omega | (simp <;> omega)) _ | with_reducible refine Below.setCell ?_ (by first | omega | (dsimp only; omega)) _ | with_reducible refine bstep ?_ (by with_reducible assumption)))))
          all_goals
            obtain ⟨w12, hw12⟩ : ∃ z, z = u12c := ⟨_, rfl⟩
            subst hw12
            have K12 : Bx (w.heap.size) [.int .i64 f, .int .i64 A, .int .i64 B, .int .i64 C, .slice ao n cap] w12 := Bx.call K11 c12c
            have L12 : Bx (w.heap.size + 1) [.int .i64 x, .int .i64 y] w12 := Bx.call L11 c12c
            have B12 : Below w.heap.size w w12 := bstep B11 c12c
            have A12 := Lib.hid (HA.out.call B12)
            have z12 : w11.heap.size ≤ w12.heap.size := c12c.size
            have y12 := Lib.hid (SRow.call y11.out c12c)
            have g12 := Lib.hid (SRow.call g11.out c12c)
            clear K11 L11 B11 A11 y11 g11 K11c0 K11c1 K11c2 K11c3 K11c4 K11l L11c0 L11c1 L11l c12c
            have h12 := Lib.hid rl12c
            clear rl12c
            go_wp2_with fail
            with_reducible refine (eqMotionS_any h12.out y12.out).mono ?_
            rintro e w13 ⟨rfl, hb13⟩
            have K13 : Bx (w.heap.size) [.int .i64 f, .int .i64 A, .int .i64 B, .int .i64 C, .slice ao n cap] w13 := Bx.call K12 hb13
            have L13 : Bx (w.heap.size + 1) [.int .i64 x, .int .i64 y] w13 := Bx.call L12 hb13
            have B13 : Below w.heap.size w w13 := bstep B12 hb13
            have A13 := Lib.hid (HA.out.call B13)
            have z13 : w12.heap.size ≤ w13.heap.size := hb13.size
            have y13 := Lib.hid (SRow.call y12.out hb13)
            have g13 := Lib.hid (SRow.call g12.out hb13)
            have h13 := Lib.hid (SRow.call h12.out hb13)
            clear K12 L12 B12 A12 y12 g12 h12 hb13
            clear h13
            clear y13
            go_wp2_with fail
            with_reducible refine (heldMotionS_any g13.out).mono ?_
            rintro e w14 ⟨rfl, hb14⟩
            have K14 : Bx (w.heap.size) [.int .i64 f, .int .i64 A, .int .i64 B, .int .i64 C, .slice ao n cap] w14 := Bx.call K13 hb14
            have L14 : Bx (w.heap.size + 1) [.int .i64 x, .int .i64 y] w14 := Bx.call L13 hb14
            have B14 : Below w.heap.size w w14 := bstep B13 hb14
            have A14 := Lib.hid (HA.out.call B14)
            have z14 : w13.heap.size ≤ w14.heap.size := hb14.size
            have g14 := Lib.hid (SRow.call g13.out hb14)
            clear K13 L13 B13 A13 g13 hb14
            go_wp2
            go_ret
            exact ⟨rfl, B14⟩
  · have hz : (if (n : Int) ≤ 1048576 then 1048576 - (n : Int) else -1) = -1 := if_neg (by omega)
    go_enter Tryd.func7, Tryd.ntmps7
    go_wp2_with fail
    refine (szPat_any f A B C ao n cap 1048576 _ hm (by omega)).mono ?_
    rintro e w1 ⟨rfl, hb1⟩
    rw [hz]
    go_wp2
    go_ret
    exact ⟨rfl, bstep (by repeat (first | with_reducible assumption | with_reducible exact Below.refl _ _ | with_reducible refine Below.drew ?_ | with_reducible refine Below.alloc ?_ (by first | omega | (simp <;> omega)) _ | with_reducible refine Below.setCell ?_ (by first | omega | (dsimp only; omega)) _ | with_reducible refine bstep ?_ (by with_reducible assumption))) hb1⟩
end Go.Proofs.YtkfdaepnjdnnmaaDoor
