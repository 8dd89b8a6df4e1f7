/-
 The walk of the exact law of OrbitColours: the law returns true and writes nothing that was there. Conditions: the lists' lengths are ones that a slice can have; the program's variable unitMatrix holds the unit.
-/
import Derived.Test.YtdgophfembpniaaGreatDoorIo
import Derived.Test.YtdgophfembpniaaGreatDoorPtW9
import Derived.Test.YtdgophfembpniaaGreatDoorGq
import Derived.Test.YtdgophfembpniaaGreatDoorGv
namespace Go.Proofs.YtdgophfembpniaaGreatDoor
open Go.RowKit
set_option linter.unusedSimpArgs false
set_option linter.unusedVariables false

set_option maxRecDepth 100000 in
set_option maxHeartbeats 16000000 in
theorem walkIo (f A B C : Int) (v : Value) (n : Nat) (F : Nat → Int) (v9 : Value) (xs : List M6) (w : World) (hA : ARw v n F w) (hm : n ≤ 9223372036854775807) (hA2 : ARow v9 xs w) (hm2 : xs.length ≤ 9223372036854775807) (hU : UnitOK w) :
  Calls Tryz.prog 4 #[.agg #[.int .i64 f, .int .i64 A, .int .i64 B, .int .i64 C, v], v9] w fun e w' => e = .returned (.bool true) ∧ Below w.heap.size w w' := by
 have HA := Lib.hid hA
 obtain ⟨ao, cap, rfl, _⟩ := hA
 have HU := Lib.hid hU
 have HA2 := Lib.hid hA2
 clear hU
 obtain ⟨ao9, cap9, rfl, _⟩ := hA2
 obtain ⟨m9, hm9⟩ : ∃ m, m = (ioL f A B C n F xs).length := ⟨_, rfl⟩
 have hm5 : m9 ≤ 64 := by rw [hm9]; exact ioL_len f A B C n F xs
 obtain ⟨c9, hc9⟩ : ∃ c, c = ioC f A B C n F xs := ⟨_, rfl⟩
 obtain ⟨F9, hF9⟩ : ∃ F9, F9 = intAt (inV (ioL f A B C n F xs)) := ⟨_, rfl⟩
 have HMF := Lib.hid (And.intro hm9 (And.intro hc9 hF9))
 clear hm9 hc9 hF9
 by_cases hbig : n ≤ 1048576
 ·have hz : (if (n : Int) ≤ 1048576 then 1048576 - (n : Int) else -1) = 1048576 - (n : Int) := if_pos (by omega)
  have HN := Lib.hid hbig
  have hn1 : ¬ (1048576 - (n : Int) < 0) := by omega
  clear hbig
  go_enter Tryz.func4, Tryz.ntmps4
  go_wp2_with fail
  with_reducible refine (szPat_any f A B C ao n cap 1048576 _ hm (by omega)).mono ?_
  rintro e w1 ⟨rfl, hb1⟩
  rw [hz]
  have K1 : Bx (w.heap.size) [.int .i64 f, .int .i64 A, .int .i64 B, .int .i64 C, .slice ao n cap] w1 := Bx.call ((Bx.at _ rfl)) hb1
  have B1 : Below w.heap.size w w1 := bstep (by repeat (first | with_reducible assumption | with_reducible exact Below.refl _ _ | with_reducible refine Below.drew ?_ | with_reducible refine Below.alloc ?_ (by first | omega | (simp <;> omega)) _ | with_reducible refine Below.setCell ?_ (by first | omega | (dsimp only; omega)) _ | with_reducible refine bstep ?_ (by with_reducible assumption))) hb1
  have A1 := Lib.hid (HA.out.call B1)
  have z1 : w.heap.size + 0 < w1.heap.size := by have := hb1.size; simp at this; omega
  clear hb1
  have K1c0 := K1.c0
  have K1c1 := K1.c1
  have K1c2 := K1.c2
  have K1c3 := K1.c3
  have K1c4 := K1.c4
  have K1l := K1.lt
  by_cases hbig2 : (xs.length : Int) ≤ 1048576 - (n : Int)
  ·have hbig3 := Lib.hid hbig2
   have HN2 := Lib.hid (show xs.length ≤ 1048576 from by omega)
   have hn2 : ¬ (1048576 - (n : Int) - (xs.length : Int) < 0) := by omega
   clear hbig2
   go_wp2_with fail
   with_reducible refine (szMo_any ao9 xs.length cap9 (1048576 - (n : Int)) _ hm2 (by have := HN.out; omega)).mono ?_
   rintro e w2 ⟨rfl, hb2⟩
   rw [if_pos hbig3.out]
   have K2 : Bx (w.heap.size) [.int .i64 f, .int .i64 A, .int .i64 B, .int .i64 C, .slice ao n cap] w2 := Bx.call K1 hb2
   have B2 : Below w.heap.size w w2 := bstep B1 hb2
   have A2 := Lib.hid (HA.out.call B2)
   have z2 : w1.heap.size ≤ w2.heap.size := hb2.size
   clear K1 B1 A1 K1c0 K1c1 K1c2 K1c3 K1c4 K1l hb2
   have K2c0 := K2.c0
   have K2c1 := K2.c1
   have K2c2 := K2.c2
   have K2c3 := K2.c3
   have K2c4 := K2.c4
   have K2l := K2.lt
   go_wp2_with fail
   with_reducible refine (toPat_any f A B C A2.out HN.out).mono ?_
   rintro e w3 ⟨v3, rfl, r3, hb3⟩
   have K3 : Bx (w.heap.size) [.int .i64 f, .int .i64 A, .int .i64 B, .int .i64 C, .slice ao n cap] w3 := Bx.call K2 hb3
   have B3 : Below w.heap.size w w3 := bstep B2 hb3
   have A3 := Lib.hid (HA.out.call B3)
   have z3 : w2.heap.size ≤ w3.heap.size := hb3.size
   clear K2 B2 A2 K2c0 K2c1 K2c2 K2c3 K2c4 K2l hb3
   obtain ⟨ao3, cap3, rfl⟩ := r3.slice
   have q3 := Lib.hid r3
   clear r3
   go_wp2_with fail
   with_reducible refine (toMotionS_any (HA2.out.grow (w2 := w3) B3) HN2.out).mono ?_
   rintro e w4 ⟨v4, rfl, r4, hb4⟩
   have K4 : Bx (w.heap.size) [.int .i64 f, .int .i64 A, .int .i64 B, .int .i64 C, .slice ao n cap] w4 := Bx.call K3 hb4
   have B4 : Below w.heap.size w w4 := bstep B3 hb4
   have A4 := Lib.hid (HA.out.call B4)
   have z4 : w3.heap.size ≤ w4.heap.size := hb4.size
   have q4 := Lib.hid (SRow.call q3.out hb4)
   clear K3 B3 A3 q3 hb4
   obtain ⟨ao4, cap4, rfl⟩ := r4.slice
   have p4 := Lib.hid r4
   clear r4
   go_wp2_with fail
   with_reducible refine (specIo_any f A B C q4.out p4.out HN2.out).mono ?_
   rintro e w5 hh
   unfold IoAns at hh
   rw [← HMF.out.1, ← HMF.out.2.1, ← HMF.out.2.2] at hh
   obtain ⟨v5, rfl, rq5, hb5⟩ := hh
   obtain ⟨ao5, cap5, rfl⟩ := rq5.slice
   have K5 : Bx (w.heap.size) [.int .i64 f, .int .i64 A, .int .i64 B, .int .i64 C, .slice ao n cap] w5 := Bx.call K4 hb5
   have B5 : Below w.heap.size w w5 := bstep B4 hb5
   have A5 := Lib.hid (HA.out.call B5)
   have z5 : w4.heap.size ≤ w5.heap.size := hb5.size
   have q5 := Lib.hid (SRow.call q4.out hb5)
   have p5 := Lib.hid (SRow.call p4.out hb5)
   clear K4 B4 A4 q4 p4 hb5
   have y5 := Lib.hid rq5
   clear rq5
   clear q5
   clear p5
   have K5c0 := K5.c0
   have K5c1 := K5.c1
   have K5c2 := K5.c2
   have K5c3 := K5.c3
   have K5c4 := K5.c4
   have K5l := K5.lt
   go_wp2_with fail
   with_reducible refine (toPat_any f A B C A5.out HN.out).mono ?_
   rintro e w6 ⟨v6, rfl, r6, hb6⟩
   have K6 : Bx (w.heap.size) [.int .i64 f, .int .i64 A, .int .i64 B, .int .i64 C, .slice ao n cap] w6 := Bx.call K5 hb6
   have B6 : Below w.heap.size w w6 := bstep B5 hb6
   have A6 := Lib.hid (HA.out.call B6)
   have z6 : w5.heap.size ≤ w6.heap.size := hb6.size
   have y6 := Lib.hid (SRow.call y5.out hb6)
   clear K5 B5 A5 y5 K5c0 K5c1 K5c2 K5c3 K5c4 K5l hb6
   obtain ⟨ao6, cap6, rfl⟩ := r6.slice
   have x6 := Lib.hid r6
   clear r6
   go_wp2_with fail
   have K7 : Bx (w.heap.size) [.int .i64 f, .int .i64 A, .int .i64 B, .int .i64 C, .slice ao n cap] (w6.alloc (.cells #[.int .i64 f, .int .i64 A, .int .i64 B, .int .i64 C, .slice ao6 n cap6] 34)) := Bx.alloc K6 _
   have X7 : Bx (w6.heap.size) [.int .i64 f, .int .i64 A, .int .i64 B, .int .i64 C, .slice ao6 n cap6] (w6.alloc (.cells #[.int .i64 f, .int .i64 A, .int .i64 B, .int .i64 C, .slice ao6 n cap6] 34)) := Bx.at _ rfl
   have B7 : Below w.heap.size w (w6.alloc (.cells #[.int .i64 f, .int .i64 A, .int .i64 B, .int .i64 C, .slice ao6 n cap6] 34)) := bstep B6 (show Below w6.heap.size w6 (w6.alloc (.cells #[.int .i64 f, .int .i64 A, .int .i64 B, .int .i64 C, .slice ao6 n cap6] 34)) from (Below.refl _ _).alloc (Nat.le_refl _) _)
   have z7 : w6.heap.size + 1 ≤ (w6.alloc (.cells #[.int .i64 f, .int .i64 A, .int .i64 B, .int .i64 C, .slice ao6 n cap6] 34)).heap.size := by simp
   have y7 := Lib.hid (SRow.call y6.out (show Below w6.heap.size w6 (w6.alloc (.cells #[.int .i64 f, .int .i64 A, .int .i64 B, .int .i64 C, .slice ao6 n cap6] 34)) from (Below.refl _ _).alloc (Nat.le_refl _) _))
   have x7 := Lib.hid (SRow.call x6.out (show Below w6.heap.size w6 (w6.alloc (.cells #[.int .i64 f, .int .i64 A, .int .i64 B, .int .i64 C, .slice ao6 n cap6] 34)) from (Below.refl _ _).alloc (Nat.le_refl _) _))
   generalize hW7 : w6.alloc (.cells #[.int .i64 f, .int .i64 A, .int .i64 B, .int .i64 C, .slice ao6 n cap6] 34) = w7 at *
   clear hW7
   have A7 := Lib.hid (HA.out.call B7)
   clear K6 B6 A6 y6 x6
   with_reducible refine (toMotionS_any (HA2.out.grow (w2 := w7) B7) HN2.out).mono ?_
   rintro e w8 ⟨v8, rfl, r8, hb8⟩
   have K8 : Bx (w.heap.size) [.int .i64 f, .int .i64 A, .int .i64 B, .int .i64 C, .slice ao n cap] w8 := Bx.call K7 hb8
   have X8 : Bx (w6.heap.size) [.int .i64 f, .int .i64 A, .int .i64 B, .int .i64 C, .slice ao6 n cap6] w8 := Bx.call X7 hb8
   have B8 : Below w.heap.size w w8 := bstep B7 hb8
   have A8 := Lib.hid (HA.out.call B8)
   have z8 : w7.heap.size ≤ w8.heap.size := hb8.size
   have y8 := Lib.hid (SRow.call y7.out hb8)
   have x8 := Lib.hid (SRow.call x7.out hb8)
   clear K7 X7 B7 A7 y7 x7 hb8
   obtain ⟨ao8, cap8, rfl⟩ := r8.slice
   have l8 := Lib.hid r8
   clear r8
   have X8c0 := X8.c0
   have X8c1 := X8.c1
   have X8c2 := X8.c2
   have X8c3 := X8.c3
   have X8c4 := X8.c4
   have X8l := X8.lt
   go_wp2_with fail
   with_reducible refine (implIo_any f A B C x8.out l8.out HN2.out (HU.out.call B8)).mono ?_
   rintro e w9 hh
   unfold IoAns at hh
   rw [← HMF.out.1, ← HMF.out.2.1, ← HMF.out.2.2] at hh
   obtain ⟨v9, rfl, rq9, hb9⟩ := hh
   obtain ⟨ao9, cap9, rfl⟩ := rq9.slice
   have K9 : Bx (w.heap.size) [.int .i64 f, .int .i64 A, .int .i64 B, .int .i64 C, .slice ao n cap] w9 := Bx.call K8 hb9
   have X9 : Bx (w6.heap.size) [.int .i64 f, .int .i64 A, .int .i64 B, .int .i64 C, .slice ao6 n cap6] w9 := Bx.call X8 hb9
   have B9 : Below w.heap.size w w9 := bstep B8 hb9
   have A9 := Lib.hid (HA.out.call B9)
   have z9 : w8.heap.size ≤ w9.heap.size := hb9.size
   have y9 := Lib.hid (SRow.call y8.out hb9)
   have x9 := Lib.hid (SRow.call x8.out hb9)
   have l9 := Lib.hid (SRow.call l8.out hb9)
   clear K8 X8 B8 A8 y8 x8 l8 X8c0 X8c1 X8c2 X8c3 X8c4 X8l hb9
   have g9 := Lib.hid rq9
   clear rq9
   go_wp2_with fail
   with_reducible refine (eqInt64S_any g9.out y9.out).mono ?_
   rintro e w10 ⟨rfl, hb10⟩
   have K10 : Bx (w.heap.size) [.int .i64 f, .int .i64 A, .int .i64 B, .int .i64 C, .slice ao n cap] w10 := Bx.call K9 hb10
   have X10 : Bx (w6.heap.size) [.int .i64 f, .int .i64 A, .int .i64 B, .int .i64 C, .slice ao6 n cap6] w10 := Bx.call X9 hb10
   have B10 : Below w.heap.size w w10 := bstep B9 hb10
   have A10 := Lib.hid (HA.out.call B10)
   have z10 : w9.heap.size ≤ w10.heap.size := hb10.size
   have y10 := Lib.hid (SRow.call y9.out hb10)
   have x10 := Lib.hid (SRow.call x9.out hb10)
   have l10 := Lib.hid (SRow.call l9.out hb10)
   have g10 := Lib.hid (SRow.call g9.out hb10)
   clear K9 X9 B9 A9 y9 x9 l9 g9 hb10
   have K10c0 := K10.c0
   have K10c1 := K10.c1
   have K10c2 := K10.c2
   have K10c3 := K10.c3
   have K10c4 := K10.c4
   have K10l := K10.lt
   have X10c0 := X10.c0
   have X10c1 := X10.c1
   have X10c2 := X10.c2
   have X10c3 := X10.c3
   have X10c4 := X10.c4
   have X10l := X10.lt
   go_wp2_with fail
   go_region_held3 (fun W9 => (W9.cell? ⟨w.heap.size, 0, none⟩ = some (.int .i64 f) ∧ W9.cell? ⟨w.heap.size, 1, none⟩ = some (.int .i64 A) ∧ W9.cell? ⟨w.heap.size, 2, none⟩ = some (.int .i64 B) ∧ W9.cell? ⟨w.heap.size, 3, none⟩ = some (.int .i64 C) ∧ W9.cell? ⟨w.heap.size, 4, none⟩ = some (.slice ao n cap)) ∧ (W9.cell? ⟨w6.heap.size, 0, none⟩ = some (.int .i64 f) ∧ W9.cell? ⟨w6.heap.size, 1, none⟩ = some (.int .i64 A) ∧ W9.cell? ⟨w6.heap.size, 2, none⟩ = some (.int .i64 B) ∧ W9.cell? ⟨w6.heap.size, 3, none⟩ = some (.int .i64 C) ∧ W9.cell? ⟨w6.heap.size, 4, none⟩ = some (.slice ao6 n cap6))) ((refine (And.intro (Bx.cells5 ?_) (Bx.cells5 ?_))) <;> (with_reducible repeat (first | assumption | refine Bx.drew ?_ | refine Bx.alloc ?_ _ | refine Bx.call ?_ (by assumption))))
    (first
     | (go_at_call 13; with_reducible refine (toPat_any f A B C (A10.out.call (by repeat (first | with_reducible assumption | with_reducible exact Below.refl _ _ | with_reducible refine Below.drew ?_ | with_reducible refine Below.alloc ?_ (by first | omega | (simp <;> omega)) _ | with_reducible refine Below.setCell ?_ (by first | omega | (dsimp only; omega)) _ | with_reducible refine bstep ?_ (by with_reducible assumption)))) HN.out).mono ?_; rintro e u11p ⟨v11p, rfl, r11p, hb11p⟩; obtain ⟨ao11p, cap11p, rfl⟩ := r11p.slice; have c11p : Below w10.heap.size w10 u11p := (by repeat (first | with_reducible assumption | with_reducible exact Below.refl _ _ | with_reducible refine Below.drew ?_ | with_reducible refine Below.alloc ?_ (by first | omega | (simp <;> omega)) _ | with_reducible refine Below.setCell ?_ (by first | omega | (dsimp only; omega)) _ | with_reducible refine bstep ?_ (by with_reducible assumption))))
     | (go_at_call 16; with_reducible refine (eqPat_any f A B C (SRow.call x10.out (by repeat (first | with_reducible assumption | with_reducible exact Below.refl _ _ | with_reducible refine Below.drew ?_ | with_reducible refine Below.alloc ?_ (by first | omega | (simp <;> omega)) _ | with_reducible refine Below.setCell ?_ (by first | omega | (dsimp only; omega)) _ | with_reducible refine bstep ?_ (by with_reducible assumption)))) (SRow.call r11p (by repeat (first | with_reducible assumption | with_reducible exact Below.refl _ _ | with_reducible refine Below.drew ?_ | with_reducible refine Below.alloc ?_ (by first | omega | (simp <;> omega)) _ | with_reducible refine Below.setCell ?_ (by first | omega | (dsimp only; omega)) _ | with_reducible refine bstep ?_ (by with_reducible assumption))))).mono ?_; rintro e u11q ⟨rfl, hb11q⟩; have c11q : Below w10.heap.size w10 u11q := (by repeat (first | with_reducible assumption | with_reducible exact Below.refl _ _ | with_reducible refine Below.drew ?_ | with_reducible refine Below.alloc ?_ (by first | omega | (simp <;> omega)) _ | with_reducible refine Below.setCell ?_ (by first | omega | (dsimp only; omega)) _ | with_reducible refine bstep ?_ (by with_reducible assumption)))))
   all_goals
    obtain ⟨w11, hw11⟩ : ∃ z, z = u11q := ⟨_, rfl⟩
    subst hw11
    have K11 : Bx (w.heap.size) [.int .i64 f, .int .i64 A, .int .i64 B, .int .i64 C, .slice ao n cap] w11 := Bx.call K10 c11q
    have X11 : Bx (w6.heap.size) [.int .i64 f, .int .i64 A, .int .i64 B, .int .i64 C, .slice ao6 n cap6] w11 := Bx.call X10 c11q
    have B11 : Below w.heap.size w w11 := bstep B10 c11q
    have A11 := Lib.hid (HA.out.call B11)
    have z11 : w10.heap.size ≤ w11.heap.size := c11q.size
    have y11 := Lib.hid (SRow.call y10.out c11q)
    have x11 := Lib.hid (SRow.call x10.out c11q)
    have l11 := Lib.hid (SRow.call l10.out c11q)
    have g11 := Lib.hid (SRow.call g10.out c11q)
    clear K10 X10 B10 A10 y10 x10 l10 g10 K10c0 K10c1 K10c2 K10c3 K10c4 K10l X10c0 X10c1 X10c2 X10c3 X10c4 X10l c11q
    go_wp2_with fail
    with_reducible refine (toMotionS_any (HA2.out.grow (w2 := w11) B11) HN2.out).mono ?_
    rintro e w12 ⟨v12, rfl, r12, hb12⟩
    have K12 : Bx (w.heap.size) [.int .i64 f, .int .i64 A, .int .i64 B, .int .i64 C, .slice ao n cap] w12 := Bx.call K11 hb12
    have X12 : Bx (w6.heap.size) [.int .i64 f, .int .i64 A, .int .i64 B, .int .i64 C, .slice ao6 n cap6] w12 := Bx.call X11 hb12
    have B12 : Below w.heap.size w w12 := bstep B11 hb12
    have A12 := Lib.hid (HA.out.call B12)
    have z12 : w11.heap.size ≤ w12.heap.size := hb12.size
    have y12 := Lib.hid (SRow.call y11.out hb12)
    have x12 := Lib.hid (SRow.call x11.out hb12)
    have l12 := Lib.hid (SRow.call l11.out hb12)
    have g12 := Lib.hid (SRow.call g11.out hb12)
    clear K11 X11 B11 A11 y11 x11 l11 g11 hb12
    obtain ⟨ao12, cap12, rfl⟩ := r12.slice
    have m12 := Lib.hid r12
    clear r12
    go_wp2_with fail
    with_reducible refine (eqMotionS_any l12.out m12.out).mono ?_
    rintro e w13 ⟨rfl, hb13⟩
    have K13 : Bx (w.heap.size) [.int .i64 f, .int .i64 A, .int .i64 B, .int .i64 C, .slice ao n cap] w13 := Bx.call K12 hb13
    have X13 : Bx (w6.heap.size) [.int .i64 f, .int .i64 A, .int .i64 B, .int .i64 C, .slice ao6 n cap6] w13 := Bx.call X12 hb13
    have B13 : Below w.heap.size w w13 := bstep B12 hb13
    have A13 := Lib.hid (HA.out.call B13)
    have z13 : w12.heap.size ≤ w13.heap.size := hb13.size
    have y13 := Lib.hid (SRow.call y12.out hb13)
    have x13 := Lib.hid (SRow.call x12.out hb13)
    have l13 := Lib.hid (SRow.call l12.out hb13)
    have g13 := Lib.hid (SRow.call g12.out hb13)
    have m13 := Lib.hid (SRow.call m12.out hb13)
    clear K12 X12 B12 A12 y12 x12 l12 g12 m12 hb13
    clear m13
    have X13c0 := X13.c0
    have X13c1 := X13.c1
    have X13c2 := X13.c2
    have X13c3 := X13.c3
    have X13c4 := X13.c4
    have X13l := X13.lt
    go_wp2_with fail
    with_reducible refine (markPat_any f A B C x13.out (by omega)).mono ?_
    rintro e w14 ⟨rfl, rm14, hb14, hk14⟩
    have z14 : w13.heap.size ≤ w14.heap.size := hb14.size
    have K14 : Bx (w.heap.size) [.int .i64 f, .int .i64 A, .int .i64 B, .int .i64 C, .slice ao n cap] w14 := Bx.keepV K13 hk14 (SRow.off x13.out (by omega)) z14
    have X14 : Bx (w6.heap.size) [.int .i64 f, .int .i64 A, .int .i64 B, .int .i64 C, .slice ao6 n cap6] w14 := Bx.keepV X13 hk14 (SRow.off x13.out (by omega)) z14
    have B14 : Below w.heap.size w w14 := B13.trans (hb14.mono (by omega))
    have A14 := Lib.hid (HA.out.call B14)
    have y14 := Lib.hid (SRow.keepV y13.out hk14 (fun b9 h8 h9 => SRow.off x13.out (by omega)) z14)
    have l14 := Lib.hid (SRow.keepV l13.out hk14 (fun b9 h8 h9 => SRow.off x13.out (by omega)) z14)
    have g14 := Lib.hid (SRow.keepV g13.out hk14 (fun b9 h8 h9 => SRow.off x13.out (by omega)) z14)
    have x14 := Lib.hid rm14
    clear rm14 hb14 hk14 K13 X13 B13 A13 y13 x13 l13 g13 X13c0 X13c1 X13c2 X13c3 X13c4 X13l
    clear x14
    clear X14
    have hn5 := HN.out
    have hk9 : ¬ ((n : Int) * 1 + 1 < 0) := by omega
    go_wp2_with fail
    with_reducible refine (markMotionS_off ((n : Int) + 1) (by omega) (by omega) l14.out).mono ?_
    rintro e w15 ⟨rfl, rm15, hb15, hk15⟩
    have z15 : w14.heap.size ≤ w15.heap.size := hb15.size
    have K15 : Bx (w.heap.size) [.int .i64 f, .int .i64 A, .int .i64 B, .int .i64 C, .slice ao n cap] w15 := K14.grow hb15 (by omega)
    have B15 : Below w.heap.size w w15 := B14.trans (hb15.mono (by omega))
    have A15 := Lib.hid (HA.out.call B15)
    have y15 := Lib.hid (SRow.grow y14.out hb15 (by omega))
    have g15 := Lib.hid (SRow.keepHi g14.out hk15 (by omega) hb15.size)
    have l15 := Lib.hid rm15
    clear rm15 hb15 hk15 K14 B14 A14 y14 l14 g14
    clear l15
    have hk7 : ¬ ((xs.length : Int) * 6 + ((n : Int) + 1) < 0) := by omega
    go_wp2_with fail
    with_reducible refine (eqInt64S_any g15.out y15.out).mono ?_
    rintro e w16 ⟨rfl, hb16⟩
    have K16 : Bx (w.heap.size) [.int .i64 f, .int .i64 A, .int .i64 B, .int .i64 C, .slice ao n cap] w16 := Bx.call K15 hb16
    have B16 : Below w.heap.size w w16 := bstep B15 hb16
    have A16 := Lib.hid (HA.out.call B16)
    have z16 : w15.heap.size ≤ w16.heap.size := hb16.size
    have y16 := Lib.hid (SRow.call y15.out hb16)
    have g16 := Lib.hid (SRow.call g15.out hb16)
    clear K15 B15 A15 y15 g15 hb16
    go_wp2_with fail
    with_reducible refine (markInt64S_any g16.out).mono ?_
    rintro e w17 ⟨rfl, rm17, hb17⟩
    have z17 : w16.heap.size ≤ w17.heap.size := hb17.size
    have K17 : Bx (w.heap.size) [.int .i64 f, .int .i64 A, .int .i64 B, .int .i64 C, .slice ao n cap] w17 := K16.grow hb17 (by omega)
    have B17 : Below w.heap.size w w17 := B16.trans (hb17.mono (by omega))
    have A17 := Lib.hid (HA.out.call B17)
    have y17 := Lib.hid (SRow.grow y16.out hb17 (by omega))
    have g17 := Lib.hid rm17
    clear rm17 hb17 K16 B16 A16 y16 g16
    have hk8 : ¬ ((m9 : Int) * 1 + 1 < 0) := by omega
    have hq8 : (((m9 : Int) * 1 + 1) != (m9 : Int) * 1 + 1) = false := by simp
    have hm8 : (m9 : Int) ≤ 64 := by omega
    go_wp2_with fail
    with_reducible refine (heldInt64S_any g17.out).mono ?_
    rintro e w18 ⟨rfl, hb18⟩
    have K18 : Bx (w.heap.size) [.int .i64 f, .int .i64 A, .int .i64 B, .int .i64 C, .slice ao n cap] w18 := Bx.call K17 hb18
    have B18 : Below w.heap.size w w18 := bstep B17 hb18
    have A18 := Lib.hid (HA.out.call B18)
    have z18 : w17.heap.size ≤ w18.heap.size := hb18.size
    have y18 := Lib.hid (SRow.call y17.out hb18)
    have g18 := Lib.hid (SRow.call g17.out hb18)
    clear K17 B17 A17 y17 g17 hb18
    have K18c0 := K18.c0
    have K18c1 := K18.c1
    have K18c2 := K18.c2
    have K18c3 := K18.c3
    have K18c4 := K18.c4
    have K18l := K18.lt
    go_wp2_with fail
    with_reducible refine (toPat_any f A B C A18.out HN.out).mono ?_
    rintro e w19 ⟨v19, rfl, r19, hb19⟩
    have K19 : Bx (w.heap.size) [.int .i64 f, .int .i64 A, .int .i64 B, .int .i64 C, .slice ao n cap] w19 := Bx.call K18 hb19
    have B19 : Below w.heap.size w w19 := bstep B18 hb19
    have A19 := Lib.hid (HA.out.call B19)
    have z19 : w18.heap.size ≤ w19.heap.size := hb19.size
    have y19 := Lib.hid (SRow.call y18.out hb19)
    have g19 := Lib.hid (SRow.call g18.out hb19)
    clear K18 B18 A18 y18 g18 K18c0 K18c1 K18c2 K18c3 K18c4 K18l hb19
    obtain ⟨ao19, cap19, rfl⟩ := r19.slice
    have q19 := Lib.hid r19
    clear r19
    go_wp2_with fail
    with_reducible refine (toMotionS_any (HA2.out.grow (w2 := w19) B19) HN2.out).mono ?_
    rintro e w20 ⟨v20, rfl, r20, hb20⟩
    have K20 : Bx (w.heap.size) [.int .i64 f, .int .i64 A, .int .i64 B, .int .i64 C, .slice ao n cap] w20 := Bx.call K19 hb20
    have B20 : Below w.heap.size w w20 := bstep B19 hb20
    have A20 := Lib.hid (HA.out.call B20)
    have z20 : w19.heap.size ≤ w20.heap.size := hb20.size
    have y20 := Lib.hid (SRow.call y19.out hb20)
    have g20 := Lib.hid (SRow.call g19.out hb20)
    have q20 := Lib.hid (SRow.call q19.out hb20)
    clear K19 B19 A19 y19 g19 q19 hb20
    obtain ⟨ao20, cap20, rfl⟩ := r20.slice
    have p20 := Lib.hid r20
    clear r20
    go_wp2_with fail
    with_reducible refine (implIo_any f A B C q20.out p20.out HN2.out (HU.out.call B20)).mono ?_
    rintro e w21 hh
    unfold IoAns at hh
    rw [← HMF.out.1, ← HMF.out.2.1, ← HMF.out.2.2] at hh
    obtain ⟨v21, rfl, rq21, hb21⟩ := hh
    obtain ⟨ao21, cap21, rfl⟩ := rq21.slice
    have K21 : Bx (w.heap.size) [.int .i64 f, .int .i64 A, .int .i64 B, .int .i64 C, .slice ao n cap] w21 := Bx.call K20 hb21
    have B21 : Below w.heap.size w w21 := bstep B20 hb21
    have A21 := Lib.hid (HA.out.call B21)
    have z21 : w20.heap.size ≤ w21.heap.size := hb21.size
    have y21 := Lib.hid (SRow.call y20.out hb21)
    have g21 := Lib.hid (SRow.call g20.out hb21)
    have q21 := Lib.hid (SRow.call q20.out hb21)
    have p21 := Lib.hid (SRow.call p20.out hb21)
    clear K20 B20 A20 y20 g20 q20 p20 hb21
    have h21 := Lib.hid rq21
    clear rq21
    clear q21
    clear p21
    go_wp2_with fail
    with_reducible refine (eqInt64S_any h21.out y21.out).mono ?_
    rintro e w22 ⟨rfl, hb22⟩
    have K22 : Bx (w.heap.size) [.int .i64 f, .int .i64 A, .int .i64 B, .int .i64 C, .slice ao n cap] w22 := Bx.call K21 hb22
    have B22 : Below w.heap.size w w22 := bstep B21 hb22
    have A22 := Lib.hid (HA.out.call B22)
    have z22 : w21.heap.size ≤ w22.heap.size := hb22.size
    have y22 := Lib.hid (SRow.call y21.out hb22)
    have g22 := Lib.hid (SRow.call g21.out hb22)
    have h22 := Lib.hid (SRow.call h21.out hb22)
    clear K21 B21 A21 y21 g21 h21 hb22
    clear h22
    clear y22
    go_wp2_with fail
    with_reducible refine (heldInt64S_any g22.out).mono ?_
    rintro e w23 ⟨rfl, hb23⟩
    have K23 : Bx (w.heap.size) [.int .i64 f, .int .i64 A, .int .i64 B, .int .i64 C, .slice ao n cap] w23 := Bx.call K22 hb23
    have B23 : Below w.heap.size w w23 := bstep B22 hb23
    have A23 := Lib.hid (HA.out.call B23)
    have z23 : w22.heap.size ≤ w23.heap.size := hb23.size
    have g23 := Lib.hid (SRow.call g22.out hb23)
    clear K22 B22 A22 g22 hb23
    go_wp2
    go_ret
    exact ⟨rfl, B23⟩
  ·have hbig3 := Lib.hid hbig2
   clear hbig2
   go_wp2_with fail
   with_reducible refine (szMo_any ao9 xs.length cap9 (1048576 - (n : Int)) _ hm2 (by have := HN.out; omega)).mono ?_
   rintro e w2 ⟨rfl, hb2⟩
   rw [if_neg (by have := hbig3.out; omega)]
   go_wp2
   go_ret
   exact ⟨rfl, bstep B1 hb2⟩
 ·have hz : (if (n : Int) ≤ 1048576 then 1048576 - (n : Int) else -1) = -1 := if_neg (by omega)
  go_enter Tryz.func4, Tryz.ntmps4
  go_wp2_with fail
  refine (szPat_any f A B C ao n cap 1048576 _ hm (by omega)).mono ?_
  rintro e w1 ⟨rfl, hb1⟩
  rw [hz]
  go_wp2
  go_ret
  exact ⟨rfl, bstep (by repeat (first | with_reducible assumption | with_reducible exact Below.refl _ _ | with_reducible refine Below.drew ?_ | with_reducible refine Below.alloc ?_ (by first | omega | (simp <;> omega)) _ | with_reducible refine Below.setCell ?_ (by first | omega | (dsimp only; omega)) _ | with_reducible refine bstep ?_ (by with_reducible assumption))) hb1⟩
end Go.Proofs.YtdgophfembpniaaGreatDoor
