/-
  The walk of the exact law of CountSymmetries: the law returns true and writes nothing that was there. Conditions: the list's length is one that a slice can have; the program's variable unitMatrix holds the unit.
-/
import Derived.Test.YtkfdaepnjdnnmaaDoorSyH
import Derived.Test.YtkfdaepnjdnnmaaDoorPtW
namespace Go.Proofs.YtkfdaepnjdnnmaaDoor
open Go.RowKit
set_option linter.unusedSimpArgs false
set_option linter.unusedVariables false

set_option maxRecDepth 100000 in
set_option maxHeartbeats 16000000 in
theorem walkCntS (f A B C : Int) (v : Value) (n : Nat) (F : Nat → Int) (w : World) (hA : ARw v n F w) (hm : n ≤ 9223372036854775807) (hU : UnitOK w) :
    Calls Tryd.prog 6 #[.agg #[.int .i64 f, .int .i64 A, .int .i64 B, .int .i64 C, v]] w fun e w' => e = .returned (.bool true) ∧ Below w.heap.size w w' := by
  have HA := Lib.hid hA
  obtain ⟨ao, cap, rfl, _⟩ := hA
  have HU := Lib.hid hU
  clear hU
  obtain ⟨t0, hz0⟩ : ∃ z : Int, z = ((sgL f A B C n F).length : Int) := ⟨_, rfl⟩
  obtain ⟨t1, hz1⟩ : ∃ z : Int, z = sgC f A B C n F := ⟨_, rfl⟩
  have HZ := Lib.hid (And.intro hz0 hz1)
  clear hz0 hz1
  by_cases hbig : n ≤ 1048576
  · have hz : (if (n : Int) ≤ 1048576 then 1048576 - (n : Int) else -1) = 1048576 - (n : Int) := if_pos (by omega)
    have HN := Lib.hid hbig
    have hn1 : ¬ (1048576 - (n : Int) < 0) := by omega
    clear hbig
    go_enter Tryd.func6, Tryd.ntmps6
    go_wp2_with fail
    with_reducible refine (szPat_any f A B C ao n cap 1048576 _ hm (by omega)).mono ?_
    rintro e w1 ⟨rfl, hb1⟩
    rw [hz]
    have K1 : Bx (w.heap.size) [.int .i64 f, .int .i64 A, .int .i64 B, .int .i64 C, .slice ao n cap] w1 := Bx.call ((Bx.at _ rfl)) hb1
    have B1 : Below w.heap.size w w1 := bstep (by repeat (first | with_reducible assumption | with_reducible exact Below.refl _ _ | with_reducible refine Below.drew ?_ | with_reducible refine Below.alloc ?_ (by first | omega | (simp <;> omega)) _ | with_reducible refine Below.setCell ?_ (by first | omega | (dsimp only; omega)) _ | with_reducible refine bstep ?_ (by with_reducible assumption))) hb1
    have A1 := Lib.hid (HA.out.call B1)
    have z1 : w.heap.size + 0 < w1.heap.size := by have := hb1.size; simp at this; omega
    clear hb1
    have K1c0 := K1.c0
    have K1c1 := K1.c1
    have K1c2 := K1.c2
    have K1c3 := K1.c3
    have K1c4 := K1.c4
    have K1l := K1.lt
    go_wp2_with fail
    with_reducible refine (toPat_any f A B C A1.out HN.out).mono ?_
    rintro e w2 ⟨v2, rfl, r2, hb2⟩
    have K2 : Bx (w.heap.size) [.int .i64 f, .int .i64 A, .int .i64 B, .int .i64 C, .slice ao n cap] w2 := Bx.call K1 hb2
    have B2 : Below w.heap.size w w2 := bstep B1 hb2
    have A2 := Lib.hid (HA.out.call B2)
    have z2 : w1.heap.size ≤ w2.heap.size := hb2.size
    clear K1 B1 A1 K1c0 K1c1 K1c2 K1c3 K1c4 K1l hb2
    obtain ⟨ao2, cap2, rfl⟩ := r2.slice
    have q2 := Lib.hid r2
    clear r2
    go_wp2_with fail
    with_reducible refine (specCntS_any f A B C q2.out).mono ?_
    rintro e w3 ⟨rfl, hb3⟩
    rw [← HZ.out.1, ← HZ.out.2]
    have K3 : Bx (w.heap.size) [.int .i64 f, .int .i64 A, .int .i64 B, .int .i64 C, .slice ao n cap] w3 := Bx.call K2 hb3
    have B3 : Below w.heap.size w w3 := bstep B2 hb3
    have A3 := Lib.hid (HA.out.call B3)
    have z3 : w2.heap.size ≤ w3.heap.size := hb3.size
    have q3 := Lib.hid (SRow.call q2.out hb3)
    clear K2 B2 A2 q2 hb3
    clear q3
    have K3c0 := K3.c0
    have K3c1 := K3.c1
    have K3c2 := K3.c2
    have K3c3 := K3.c3
    have K3c4 := K3.c4
    have K3l := K3.lt
    go_wp2_with fail
    with_reducible refine (toPat_any f A B C A3.out HN.out).mono ?_
    rintro e w4 ⟨v4, rfl, r4, hb4⟩
    have K4 : Bx (w.heap.size) [.int .i64 f, .int .i64 A, .int .i64 B, .int .i64 C, .slice ao n cap] w4 := Bx.call K3 hb4
    have B4 : Below w.heap.size w w4 := bstep B3 hb4
    have A4 := Lib.hid (HA.out.call B4)
    have z4 : w3.heap.size ≤ w4.heap.size := hb4.size
    clear K3 B3 A3 K3c0 K3c1 K3c2 K3c3 K3c4 K3l hb4
    obtain ⟨ao4, cap4, rfl⟩ := r4.slice
    have x4 := Lib.hid r4
    clear r4
    go_wp2_with fail
    have K5 : Bx (w.heap.size) [.int .i64 f, .int .i64 A, .int .i64 B, .int .i64 C, .slice ao n cap] (w4.alloc (.cells #[.int .i64 f, .int .i64 A, .int .i64 B, .int .i64 C, .slice ao4 n cap4] 33)) := Bx.alloc K4 _
    have X5 : Bx (w4.heap.size) [.int .i64 f, .int .i64 A, .int .i64 B, .int .i64 C, .slice ao4 n cap4] (w4.alloc (.cells #[.int .i64 f, .int .i64 A, .int .i64 B, .int .i64 C, .slice ao4 n cap4] 33)) := Bx.at _ rfl
    have B5 : Below w.heap.size w (w4.alloc (.cells #[.int .i64 f, .int .i64 A, .int .i64 B, .int .i64 C, .slice ao4 n cap4] 33)) := bstep B4 (show Below w4.heap.size w4 (w4.alloc (.cells #[.int .i64 f, .int .i64 A, .int .i64 B, .int .i64 C, .slice ao4 n cap4] 33)) from (Below.refl _ _).alloc (Nat.le_refl _) _)
    have z5 : w4.heap.size + 1 ≤ (w4.alloc (.cells #[.int .i64 f, .int .i64 A, .int .i64 B, .int .i64 C, .slice ao4 n cap4] 33)).heap.size := by simp
    have x5 := Lib.hid (SRow.call x4.out (show Below w4.heap.size w4 (w4.alloc (.cells #[.int .i64 f, .int .i64 A, .int .i64 B, .int .i64 C, .slice ao4 n cap4] 33)) from (Below.refl _ _).alloc (Nat.le_refl _) _))
    generalize hW5 : w4.alloc (.cells #[.int .i64 f, .int .i64 A, .int .i64 B, .int .i64 C, .slice ao4 n cap4] 33) = w5 at *
    clear hW5
    have A5 := Lib.hid (HA.out.call B5)
    clear K4 B4 A4 x4
    with_reducible refine (implCntS_any f A B C x5.out (HU.out.call B5)).mono ?_
    rintro e w6 ⟨rfl, hb6⟩
    rw [← HZ.out.1, ← HZ.out.2]
    have K6 : Bx (w.heap.size) [.int .i64 f, .int .i64 A, .int .i64 B, .int .i64 C, .slice ao n cap] w6 := Bx.call K5 hb6
    have X6 : Bx (w4.heap.size) [.int .i64 f, .int .i64 A, .int .i64 B, .int .i64 C, .slice ao4 n cap4] w6 := Bx.call X5 hb6
    have B6 : Below w.heap.size w w6 := bstep B5 hb6
    have A6 := Lib.hid (HA.out.call B6)
    have z6 : w5.heap.size ≤ w6.heap.size := hb6.size
    have x6 := Lib.hid (SRow.call x5.out hb6)
    clear K5 X5 B5 A5 x5 hb6
    have K6c0 := K6.c0
    have K6c1 := K6.c1
    have K6c2 := K6.c2
    have K6c3 := K6.c3
    have K6c4 := K6.c4
    have K6l := K6.lt
    have X6c0 := X6.c0
    have X6c1 := X6.c1
    have X6c2 := X6.c2
    have X6c3 := X6.c3
    have X6c4 := X6.c4
    have X6l := X6.lt
    go_wp2_with fail
    go_region_held3 (fun W9 => (W9.cell? ⟨w.heap.size, 0, none⟩ = some (.int .i64 f) ∧ W9.cell? ⟨w.heap.size, 1, none⟩ = some (.int .i64 A) ∧ W9.cell? ⟨w.heap.size, 2, none⟩ = some (.int .i64 B) ∧ W9.cell? ⟨w.heap.size, 3, none⟩ = some (.int .i64 C) ∧ W9.cell? ⟨w.heap.size, 4, none⟩ = some (.slice ao n cap)) ∧ (W9.cell? ⟨w4.heap.size, 0, none⟩ = some (.int .i64 f) ∧ W9.cell? ⟨w4.heap.size, 1, none⟩ = some (.int .i64 A) ∧ W9.cell? ⟨w4.heap.size, 2, none⟩ = some (.int .i64 B) ∧ W9.cell? ⟨w4.heap.size, 3, none⟩ = some (.int .i64 C) ∧ W9.cell? ⟨w4.heap.size, 4, none⟩ = some (.slice ao4 n cap4))) ((refine (And.intro (Bx.cells5 ?_) (Bx.cells5 ?_))) <;> (repeat (first | with_reducible assumption | with_reducible refine Bx.drew ?_ | with_reducible refine Bx.alloc ?_ _ | with_reducible refine Bx.call ?_ (by with_reducible assumption))))
      (first
        | (go_at_call 11; with_reducible refine (toPat_any f A B C (A6.out.call (by repeat (first | with_reducible assumption | with_reducible exact Below.refl _ _ | with_reducible refine Below.drew ?_ | with_reducible refine Below.alloc ?_ (by first | omega | (simp <;> omega)) _ | with_reducible refine Below.setCell ?_ (by first | omega | (dsimp only; omega)) _ | with_reducible refine bstep ?_ (by with_reducible assumption)))) HN.out).mono ?_; rintro e u7p ⟨v7p, rfl, r7p, hb7p⟩; obtain ⟨ao7p, cap7p, rfl⟩ := r7p.slice; have c7p : Below w6.heap.size w6 u7p := (by repeat (first | with_reducible assumption | with_reducible exact Below.refl _ _ | with_reducible refine Below.drew ?_ | with_reducible refine Below.alloc ?_ (by first | omega | (simp <;> omega)) _ | with_reducible refine Below.setCell ?_ (by first | omega | (dsimp only; omega)) _ | with_reducible refine bstep ?_ (by with_reducible assumption))))
        | (go_at_call 14; with_reducible refine (eqPat_any f A B C (SRow.call x6.out (by repeat (first | with_reducible assumption | with_reducible exact Below.refl _ _ | with_reducible refine Below.drew ?_ | with_reducible refine Below.alloc ?_ (by first | omega | (simp <;> omega)) _ | with_reducible refine Below.setCell ?_ (by first | omega | (dsimp only; omega)) _ | with_reducible refine bstep ?_ (by with_reducible assumption)))) (SRow.call r7p (by repeat (first | with_reducible assumption | with_reducible exact Below.refl _ _ | with_reducible refine Below.drew ?_ | with_reducible refine Below.alloc ?_ (by first | omega | (simp <;> omega)) _ | with_reducible refine Below.setCell ?_ (by first | omega | (dsimp only; omega)) _ | with_reducible refine bstep ?_ (by with_reducible assumption))))).mono ?_; rintro e u7q ⟨rfl, hb7q⟩; have c7q : Below w6.heap.size w6 u7q := (by repeat (first | with_reducible assumption | with_reducible exact Below.refl _ _ | with_reducible refine Below.drew ?_ | with_reducible refine Below.alloc ?_ (by first | omega | (simp <;> omega)) _ | with_reducible refine Below.setCell ?_ (by first | omega | (dsimp only; omega)) _ | with_reducible refine bstep ?_ (by with_reducible assumption)))))
    all_goals
      obtain ⟨w7, hw7⟩ : ∃ z, z = u7q := ⟨_, rfl⟩
      subst hw7
      have K7 : Bx (w.heap.size) [.int .i64 f, .int .i64 A, .int .i64 B, .int .i64 C, .slice ao n cap] w7 := Bx.call K6 c7q
      have X7 : Bx (w4.heap.size) [.int .i64 f, .int .i64 A, .int .i64 B, .int .i64 C, .slice ao4 n cap4] w7 := Bx.call X6 c7q
      have B7 : Below w.heap.size w w7 := bstep B6 c7q
      have A7 := Lib.hid (HA.out.call B7)
      have z7 : w6.heap.size ≤ w7.heap.size := c7q.size
      have x7 := Lib.hid (SRow.call x6.out c7q)
      clear K6 X6 B6 A6 x6 K6c0 K6c1 K6c2 K6c3 K6c4 K6l X6c0 X6c1 X6c2 X6c3 X6c4 X6l c7q
      go_wp2
      go_ret
      exact ⟨rfl, B7⟩
  · have hz : (if (n : Int) ≤ 1048576 then 1048576 - (n : Int) else -1) = -1 := if_neg (by omega)
    go_enter Tryd.func6, Tryd.ntmps6
    go_wp2_with fail
    refine (szPat_any f A B C ao n cap 1048576 _ hm (by omega)).mono ?_
    rintro e w1 ⟨rfl, hb1⟩
    rw [hz]
    go_wp2
    go_ret
    exact ⟨rfl, bstep (by repeat (first | with_reducible assumption | with_reducible exact Below.refl _ _ | with_reducible refine Below.drew ?_ | with_reducible refine Below.alloc ?_ (by first | omega | (simp <;> omega)) _ | with_reducible refine Below.setCell ?_ (by first | omega | (dsimp only; omega)) _ | with_reducible refine bstep ?_ (by with_reducible assumption))) hb1⟩
end Go.Proofs.YtkfdaepnjdnnmaaDoor
