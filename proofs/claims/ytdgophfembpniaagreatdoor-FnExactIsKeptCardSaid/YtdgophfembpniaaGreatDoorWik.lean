/-
 The walk of the exact law of IsKept: the law returns true and writes nothing that was there. Conditions: the lists' lengths are ones that a slice can have; the program's variable unitMatrix holds the unit.
-/
import Derived.Test.YtdgophfembpniaaGreatDoorIk
import Derived.Test.YtdgophfembpniaaGreatDoorPtW9
import Derived.Test.YtdgophfembpniaaGreatDoorGq
namespace Go.Proofs.YtdgophfembpniaaGreatDoor
open Go.RowKit
set_option linter.unusedSimpArgs false
set_option linter.unusedVariables false

set_option maxRecDepth 100000 in
set_option maxHeartbeats 16000000 in
theorem walkIk (f A B C : Int) (v : Value) (n : Nat) (F : Nat → Int) (v9 : Value) (xs : List M6) (w : World) (hA : ARw v n F w) (hm : n ≤ 9223372036854775807) (hA2 : ARow v9 xs w) (hm2 : xs.length ≤ 9223372036854775807) (hU : UnitOK w) :
  Calls Tryz.prog 3 #[.agg #[.int .i64 f, .int .i64 A, .int .i64 B, .int .i64 C, v], v9] w fun e w' => e = .returned (.bool true) ∧ Below w.heap.size w w' := by
 have HA := Lib.hid hA
 obtain ⟨ao, cap, rfl, _⟩ := hA
 have HU := Lib.hid hU
 have HA2 := Lib.hid hA2
 clear hU
 obtain ⟨ao9, cap9, rfl, _⟩ := hA2
 obtain ⟨r0, hr0⟩ : ∃ r, r = ikB f A B C n F xs := ⟨_, rfl⟩
 obtain ⟨r1, hr1⟩ : ∃ r, r = ikC f A B C n F xs := ⟨_, rfl⟩
 have HT := Lib.hid (show ikT f A B C n F xs = .tuple #[.bool r0, .int .i64 r1] from by rw [hr0, hr1]; rfl)
 clear hr0 hr1
 by_cases hbig : n ≤ 1048576
 ·have hz : (if (n : Int) ≤ 1048576 then 1048576 - (n : Int) else -1) = 1048576 - (n : Int) := if_pos (by omega)
  have HN := Lib.hid hbig
  have hn1 : ¬ (1048576 - (n : Int) < 0) := by omega
  clear hbig
  go_enter Tryz.func3, Tryz.ntmps3
  go_wp2_with fail
  with_reducible refine (szPat_any f A B C ao n cap 1048576 _ hm (by omega)).mono ?_
  rintro e w1 ⟨rfl, hb1⟩
  rw [hz]
  have K1 : Bx (w.heap.size) [.int .i64 f, .int .i64 A, .int .i64 B, .int .i64 C, .slice ao n cap] w1 := Bx.call ((Bx.at _ rfl)) hb1
  have B1 : Below w.heap.size w w1 := bstep (by repeat (first | with_reducible assumption | with_reducible exact Below.refl _ _ | with_reducible refine Below.drew ?_ | with_reducible refine Below.alloc ?_ (by first | omega | (simp <;> omega)) _ | with_reducible refine Below.setCell ?_ (by first | omega | (dsimp only; omega)) _ | with_reducible refine bstep ?_ (by with_reducible assumption))) hb1
  have A1 := Lib.hid (HA.out.call B1)
  have z1 : w.heap.size + 0 < w1.heap.size := by have := hb1.size; simp at this; omega
  clear hb1
  have K1c0 := K1.c0
  have K1c1 := K1.c1
  have K1c2 := K1.c2
  have K1c3 := K1.c3
  have K1c4 := K1.c4
  have K1l := K1.lt
  by_cases hbig2 : (xs.length : Int) ≤ 1048576 - (n : Int)
  ·have hbig3 := Lib.hid hbig2
   have HN2 := Lib.hid (show xs.length ≤ 1048576 from by omega)
   have hn2 : ¬ (1048576 - (n : Int) - (xs.length : Int) < 0) := by omega
   clear hbig2
   go_wp2_with fail
   with_reducible refine (szMo_any ao9 xs.length cap9 (1048576 - (n : Int)) _ hm2 (by have := HN.out; omega)).mono ?_
   rintro e w2 ⟨rfl, hb2⟩
   rw [if_pos hbig3.out]
   have K2 : Bx (w.heap.size) [.int .i64 f, .int .i64 A, .int .i64 B, .int .i64 C, .slice ao n cap] w2 := Bx.call K1 hb2
   have B2 : Below w.heap.size w w2 := bstep B1 hb2
   have A2 := Lib.hid (HA.out.call B2)
   have z2 : w1.heap.size ≤ w2.heap.size := hb2.size
   clear K1 B1 A1 K1c0 K1c1 K1c2 K1c3 K1c4 K1l hb2
   have K2c0 := K2.c0
   have K2c1 := K2.c1
   have K2c2 := K2.c2
   have K2c3 := K2.c3
   have K2c4 := K2.c4
   have K2l := K2.lt
   go_wp2_with fail
   with_reducible refine (toPat_any f A B C A2.out HN.out).mono ?_
   rintro e w3 ⟨v3, rfl, r3, hb3⟩
   have K3 : Bx (w.heap.size) [.int .i64 f, .int .i64 A, .int .i64 B, .int .i64 C, .slice ao n cap] w3 := Bx.call K2 hb3
   have B3 : Below w.heap.size w w3 := bstep B2 hb3
   have A3 := Lib.hid (HA.out.call B3)
   have z3 : w2.heap.size ≤ w3.heap.size := hb3.size
   clear K2 B2 A2 K2c0 K2c1 K2c2 K2c3 K2c4 K2l hb3
   obtain ⟨ao3, cap3, rfl⟩ := r3.slice
   have q3 := Lib.hid r3
   clear r3
   go_wp2_with fail
   with_reducible refine (toMotionS_any (HA2.out.grow (w2 := w3) B3) HN2.out).mono ?_
   rintro e w4 ⟨v4, rfl, r4, hb4⟩
   have K4 : Bx (w.heap.size) [.int .i64 f, .int .i64 A, .int .i64 B, .int .i64 C, .slice ao n cap] w4 := Bx.call K3 hb4
   have B4 : Below w.heap.size w w4 := bstep B3 hb4
   have A4 := Lib.hid (HA.out.call B4)
   have z4 : w3.heap.size ≤ w4.heap.size := hb4.size
   have q4 := Lib.hid (SRow.call q3.out hb4)
   clear K3 B3 A3 q3 hb4
   obtain ⟨ao4, cap4, rfl⟩ := r4.slice
   have p4 := Lib.hid r4
   clear r4
   go_wp2_with fail
   with_reducible refine (specIk_any f A B C q4.out p4.out HN2.out).mono ?_
   rintro e w5 ⟨rfl, hb5⟩
   rw [HT.out]
   have K5 : Bx (w.heap.size) [.int .i64 f, .int .i64 A, .int .i64 B, .int .i64 C, .slice ao n cap] w5 := Bx.call K4 hb5
   have B5 : Below w.heap.size w w5 := bstep B4 hb5
   have A5 := Lib.hid (HA.out.call B5)
   have z5 : w4.heap.size ≤ w5.heap.size := hb5.size
   have q5 := Lib.hid (SRow.call q4.out hb5)
   have p5 := Lib.hid (SRow.call p4.out hb5)
   clear K4 B4 A4 q4 p4 hb5
   clear q5
   clear p5
   have K5c0 := K5.c0
   have K5c1 := K5.c1
   have K5c2 := K5.c2
   have K5c3 := K5.c3
   have K5c4 := K5.c4
   have K5l := K5.lt
   go_wp2_with fail
   with_reducible refine (toPat_any f A B C A5.out HN.out).mono ?_
   rintro e w6 ⟨v6, rfl, r6, hb6⟩
   have K6 : Bx (w.heap.size) [.int .i64 f, .int .i64 A, .int .i64 B, .int .i64 C, .slice ao n cap] w6 := Bx.call K5 hb6
   have B6 : Below w.heap.size w w6 := bstep B5 hb6
   have A6 := Lib.hid (HA.out.call B6)
   have z6 : w5.heap.size ≤ w6.heap.size := hb6.size
   clear K5 B5 A5 K5c0 K5c1 K5c2 K5c3 K5c4 K5l hb6
   obtain ⟨ao6, cap6, rfl⟩ := r6.slice
   have x6 := Lib.hid r6
   clear r6
   go_wp2_with fail
   have K7 : Bx (w.heap.size) [.int .i64 f, .int .i64 A, .int .i64 B, .int .i64 C, .slice ao n cap] (w6.alloc (.cells #[.int .i64 f, .int .i64 A, .int .i64 B, .int .i64 C, .slice ao6 n cap6] 34)) := Bx.alloc K6 _
   have X7 : Bx (w6.heap.size) [.int .i64 f, .int .i64 A, .int .i64 B, .int .i64 C, .slice ao6 n cap6] (w6.alloc (.cells #[.int .i64 f, .int .i64 A, .int .i64 B, .int .i64 C, .slice ao6 n cap6] 34)) := Bx.at _ rfl
   have B7 : Below w.heap.size w (w6.alloc (.cells #[.int .i64 f, .int .i64 A, .int .i64 B, .int .i64 C, .slice ao6 n cap6] 34)) := bstep B6 (show Below w6.heap.size w6 (w6.alloc (.cells #[.int .i64 f, .int .i64 A, .int .i64 B, .int .i64 C, .slice ao6 n cap6] 34)) from (Below.refl _ _).alloc (Nat.le_refl _) _)
   have z7 : w6.heap.size + 1 ≤ (w6.alloc (.cells #[.int .i64 f, .int .i64 A, .int .i64 B, .int .i64 C, .slice ao6 n cap6] 34)).heap.size := by simp
   have x7 := Lib.hid (SRow.call x6.out (show Below w6.heap.size w6 (w6.alloc (.cells #[.int .i64 f, .int .i64 A, .int .i64 B, .int .i64 C, .slice ao6 n cap6] 34)) from (Below.refl _ _).alloc (Nat.le_refl _) _))
   generalize hW7 : w6.alloc (.cells #[.int .i64 f, .int .i64 A, .int .i64 B, .int .i64 C, .slice ao6 n cap6] 34) = w7 at *
   clear hW7
   have A7 := Lib.hid (HA.out.call B7)
   clear K6 B6 A6 x6
   with_reducible refine (toMotionS_any (HA2.out.grow (w2 := w7) B7) HN2.out).mono ?_
   rintro e w8 ⟨v8, rfl, r8, hb8⟩
   have K8 : Bx (w.heap.size) [.int .i64 f, .int .i64 A, .int .i64 B, .int .i64 C, .slice ao n cap] w8 := Bx.call K7 hb8
   have X8 : Bx (w6.heap.size) [.int .i64 f, .int .i64 A, .int .i64 B, .int .i64 C, .slice ao6 n cap6] w8 := Bx.call X7 hb8
   have B8 : Below w.heap.size w w8 := bstep B7 hb8
   have A8 := Lib.hid (HA.out.call B8)
   have z8 : w7.heap.size ≤ w8.heap.size := hb8.size
   have x8 := Lib.hid (SRow.call x7.out hb8)
   clear K7 X7 B7 A7 x7 hb8
   obtain ⟨ao8, cap8, rfl⟩ := r8.slice
   have l8 := Lib.hid r8
   clear r8
   have X8c0 := X8.c0
   have X8c1 := X8.c1
   have X8c2 := X8.c2
   have X8c3 := X8.c3
   have X8c4 := X8.c4
   have X8l := X8.lt
   go_wp2_with fail
   with_reducible refine (implIk_any f A B C x8.out l8.out HN2.out (HU.out.call B8)).mono ?_
   rintro e w9 ⟨rfl, hb9⟩
   rw [HT.out]
   have K9 : Bx (w.heap.size) [.int .i64 f, .int .i64 A, .int .i64 B, .int .i64 C, .slice ao n cap] w9 := Bx.call K8 hb9
   have X9 : Bx (w6.heap.size) [.int .i64 f, .int .i64 A, .int .i64 B, .int .i64 C, .slice ao6 n cap6] w9 := Bx.call X8 hb9
   have B9 : Below w.heap.size w w9 := bstep B8 hb9
   have A9 := Lib.hid (HA.out.call B9)
   have z9 : w8.heap.size ≤ w9.heap.size := hb9.size
   have x9 := Lib.hid (SRow.call x8.out hb9)
   have l9 := Lib.hid (SRow.call l8.out hb9)
   clear K8 X8 B8 A8 x8 l8 X8c0 X8c1 X8c2 X8c3 X8c4 X8l hb9
   have K9c0 := K9.c0
   have K9c1 := K9.c1
   have K9c2 := K9.c2
   have K9c3 := K9.c3
   have K9c4 := K9.c4
   have K9l := K9.lt
   have X9c0 := X9.c0
   have X9c1 := X9.c1
   have X9c2 := X9.c2
   have X9c3 := X9.c3
   have X9c4 := X9.c4
   have X9l := X9.lt
   go_wp2_with fail
   go_region_held3 (fun W9 => (W9.cell? ⟨w.heap.size, 0, none⟩ = some (.int .i64 f) ∧ W9.cell? ⟨w.heap.size, 1, none⟩ = some (.int .i64 A) ∧ W9.cell? ⟨w.heap.size, 2, none⟩ = some (.int .i64 B) ∧ W9.cell? ⟨w.heap.size, 3, none⟩ = some (.int .i64 C) ∧ W9.cell? ⟨w.heap.size, 4, none⟩ = some (.slice ao n cap)) ∧ (W9.cell? ⟨w6.heap.size, 0, none⟩ = some (.int .i64 f) ∧ W9.cell? ⟨w6.heap.size, 1, none⟩ = some (.int .i64 A) ∧ W9.cell? ⟨w6.heap.size, 2, none⟩ = some (.int .i64 B) ∧ W9.cell? ⟨w6.heap.size, 3, none⟩ = some (.int .i64 C) ∧ W9.cell? ⟨w6.heap.size, 4, none⟩ = some (.slice ao6 n cap6))) ((refine (And.intro (Bx.cells5 ?_) (Bx.cells5 ?_))) <;> (with_reducible repeat (first | assumption | refine Bx.drew ?_ | refine Bx.alloc ?_ _ | refine Bx.call ?_ (by assumption))))
    (first
     | (go_at_call 13; with_reducible refine (toPat_any f A B C (A9.out.call (by repeat (first | with_reducible assumption | with_reducible exact Below.refl _ _ | with_reducible refine Below.drew ?_ | with_reducible refine Below.alloc ?_ (by first | omega | (simp <;> omega)) _ | with_reducible refine Below.setCell ?_ (by first | omega | (dsimp only; omega)) _ | with_reducible refine bstep ?_ (by with_reducible assumption)))) HN.out).mono ?_; rintro e u10p ⟨v10p, rfl, r10p, hb10p⟩; obtain ⟨ao10p, cap10p, rfl⟩ := r10p.slice; have c10p : Below w9.heap.size w9 u10p := (by repeat (first | with_reducible assumption | with_reducible exact Below.refl _ _ | with_reducible refine Below.drew ?_ | with_reducible refine Below.alloc ?_ (by first | omega | (simp <;> omega)) _ | with_reducible refine Below.setCell ?_ (by first | omega | (dsimp only; omega)) _ | with_reducible refine bstep ?_ (by with_reducible assumption))))
     | (go_at_call 16; with_reducible refine (eqPat_any f A B C (SRow.call x9.out (by repeat (first | with_reducible assumption | with_reducible exact Below.refl _ _ | with_reducible refine Below.drew ?_ | with_reducible refine Below.alloc ?_ (by first | omega | (simp <;> omega)) _ | with_reducible refine Below.setCell ?_ (by first | omega | (dsimp only; omega)) _ | with_reducible refine bstep ?_ (by with_reducible assumption)))) (SRow.call r10p (by repeat (first | with_reducible assumption | with_reducible exact Below.refl _ _ | with_reducible refine Below.drew ?_ | with_reducible refine Below.alloc ?_ (by first | omega | (simp <;> omega)) _ | with_reducible refine Below.setCell ?_ (by first | omega | (dsimp only; omega)) _ | with_reducible refine bstep ?_ (by with_reducible assumption))))).mono ?_; rintro e u10q ⟨rfl, hb10q⟩; have c10q : Below w9.heap.size w9 u10q := (by repeat (first | with_reducible assumption | with_reducible exact Below.refl _ _ | with_reducible refine Below.drew ?_ | with_reducible refine Below.alloc ?_ (by first | omega | (simp <;> omega)) _ | with_reducible refine Below.setCell ?_ (by first | omega | (dsimp only; omega)) _ | with_reducible refine bstep ?_ (by with_reducible assumption)))))
   all_goals
    obtain ⟨w10, hw10⟩ : ∃ z, z = u10q := ⟨_, rfl⟩
    subst hw10
    have K10 : Bx (w.heap.size) [.int .i64 f, .int .i64 A, .int .i64 B, .int .i64 C, .slice ao n cap] w10 := Bx.call K9 c10q
    have X10 : Bx (w6.heap.size) [.int .i64 f, .int .i64 A, .int .i64 B, .int .i64 C, .slice ao6 n cap6] w10 := Bx.call X9 c10q
    have B10 : Below w.heap.size w w10 := bstep B9 c10q
    have A10 := Lib.hid (HA.out.call B10)
    have z10 : w9.heap.size ≤ w10.heap.size := c10q.size
    have x10 := Lib.hid (SRow.call x9.out c10q)
    have l10 := Lib.hid (SRow.call l9.out c10q)
    clear K9 X9 B9 A9 x9 l9 K9c0 K9c1 K9c2 K9c3 K9c4 K9l X9c0 X9c1 X9c2 X9c3 X9c4 X9l c10q
    go_wp2_with fail
    with_reducible refine (toMotionS_any (HA2.out.grow (w2 := w10) B10) HN2.out).mono ?_
    rintro e w11 ⟨v11, rfl, r11, hb11⟩
    have K11 : Bx (w.heap.size) [.int .i64 f, .int .i64 A, .int .i64 B, .int .i64 C, .slice ao n cap] w11 := Bx.call K10 hb11
    have X11 : Bx (w6.heap.size) [.int .i64 f, .int .i64 A, .int .i64 B, .int .i64 C, .slice ao6 n cap6] w11 := Bx.call X10 hb11
    have B11 : Below w.heap.size w w11 := bstep B10 hb11
    have A11 := Lib.hid (HA.out.call B11)
    have z11 : w10.heap.size ≤ w11.heap.size := hb11.size
    have x11 := Lib.hid (SRow.call x10.out hb11)
    have l11 := Lib.hid (SRow.call l10.out hb11)
    clear K10 X10 B10 A10 x10 l10 hb11
    obtain ⟨ao11, cap11, rfl⟩ := r11.slice
    have m11 := Lib.hid r11
    clear r11
    go_wp2_with fail
    with_reducible refine (eqMotionS_any l11.out m11.out).mono ?_
    rintro e w12 ⟨rfl, hb12⟩
    have K12 : Bx (w.heap.size) [.int .i64 f, .int .i64 A, .int .i64 B, .int .i64 C, .slice ao n cap] w12 := Bx.call K11 hb12
    have X12 : Bx (w6.heap.size) [.int .i64 f, .int .i64 A, .int .i64 B, .int .i64 C, .slice ao6 n cap6] w12 := Bx.call X11 hb12
    have B12 : Below w.heap.size w w12 := bstep B11 hb12
    have A12 := Lib.hid (HA.out.call B12)
    have z12 : w11.heap.size ≤ w12.heap.size := hb12.size
    have x12 := Lib.hid (SRow.call x11.out hb12)
    have l12 := Lib.hid (SRow.call l11.out hb12)
    have m12 := Lib.hid (SRow.call m11.out hb12)
    clear K11 X11 B11 A11 x11 l11 m11 hb12
    clear m12
    go_wp2
    go_ret
    exact ⟨rfl, B12⟩
  ·have hbig3 := Lib.hid hbig2
   clear hbig2
   go_wp2_with fail
   with_reducible refine (szMo_any ao9 xs.length cap9 (1048576 - (n : Int)) _ hm2 (by have := HN.out; omega)).mono ?_
   rintro e w2 ⟨rfl, hb2⟩
   rw [if_neg (by have := hbig3.out; omega)]
   go_wp2
   go_ret
   exact ⟨rfl, bstep B1 hb2⟩
 ·have hz : (if (n : Int) ≤ 1048576 then 1048576 - (n : Int) else -1) = -1 := if_neg (by omega)
  go_enter Tryz.func3, Tryz.ntmps3
  go_wp2_with fail
  refine (szPat_any f A B C ao n cap 1048576 _ hm (by omega)).mono ?_
  rintro e w1 ⟨rfl, hb1⟩
  rw [hz]
  go_wp2
  go_ret
  exact ⟨rfl, bstep (by repeat (first | with_reducible assumption | with_reducible exact Below.refl _ _ | with_reducible refine Below.drew ?_ | with_reducible refine Below.alloc ?_ (by first | omega | (simp <;> omega)) _ | with_reducible refine Below.setCell ?_ (by first | omega | (dsimp only; omega)) _ | with_reducible refine bstep ?_ (by with_reducible assumption))) hb1⟩
end Go.Proofs.YtdgophfembpniaaGreatDoor
