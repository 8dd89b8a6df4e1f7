/-
 The walk of the exact law of PaintOrbits: the law returns true and writes nothing that was there. Conditions: the lists' lengths are ones that a slice can have; the program's variable unitMatrix holds the unit.
-/
import Derived.Test.YtdgophfembpniaaGreatDoorPo
import Derived.Test.YtdgophfembpniaaGreatDoorPtW9
import Derived.Test.YtdgophfembpniaaGreatDoorGq
import Derived.Test.YtdgophfembpniaaGreatDoorOpI
namespace Go.Proofs.YtdgophfembpniaaGreatDoor
open Go.RowKit
set_option linter.unusedSimpArgs false
set_option linter.unusedVariables false

theorem pkWpo0 {P : Prop} (h : P := by repeat (first | with_reducible assumption | with_reducible exact Below.refl _ _ | with_reducible refine Below.drew ?_ | with_reducible refine Below.alloc ?_ (by first | omega | (simp <;> omega)) _ | with_reducible refine Below.setCell ?_ (by first | omega | (dsimp only; omega)) _ | with_reducible refine bstep ?_ (by with_reducible assumption))) : P := h
set_option maxRecDepth 100000 in
set_option maxHeartbeats 16000000 in
theorem walkPo (f A B C : Int) (v9 : Value) (xs : List M6) (v3 : Value) (n : Nat) (F : Nat → Int) (w : World) (hA2 : ARow v9 xs w) (hm2 : xs.length ≤ 9223372036854775807) (hA3 : ARw v3 n F w) (hm3 : n ≤ 9223372036854775807) (hU : UnitOK w) :
  Calls Tryz.prog 5 #[.int .i64 f, .agg #[.int .i64 A, .int .i64 B, .int .i64 C], v9, v3] w fun e w' => e = .returned (.bool true) ∧ Below w.heap.size w w' := by
 have HU := Lib.hid hU
 have HA2 := Lib.hid hA2
 have HA3 := Lib.hid hA3
 clear hU
 obtain ⟨ao9, cap9, rfl, _⟩ := hA2
 obtain ⟨ao8, cap8, rfl, _⟩ := hA3
 have hmi : (n : Int) ≤ 9223372036854775807 := by omega
 by_cases hb3 : n ≤ 1048576
 ·have HN3 := Lib.hid hb3
  have hn3 : ¬ ((n : Int) > 1048576) := by omega
  clear hb3
  by_cases hb2 : (xs.length : Int) ≤ 1048576
  ·have hbig2 := Lib.hid hb2
   have HN2 := Lib.hid (show xs.length ≤ 1048576 from by omega)
   have hn2 : ¬ (1048576 - (xs.length : Int) < 0) := by omega
   clear hb2
   go_enter Tryz.func5, Tryz.ntmps5
   go_wp2_with fail
   with_reducible refine (szMo_any ao9 xs.length cap9 1048576 _ hm2 (by omega)).mono ?_
   rintro e w1 ⟨rfl, hb1⟩
   rw [if_pos hbig2.out]
   have K1 : Bx (w.heap.size) [.int .i64 A, .int .i64 B, .int .i64 C] w1 := Bx.call ((Bx.at _ rfl)) hb1
   have B1 : Below w.heap.size w w1 := bstep (by exact pkWpo0) hb1
   have z1 : w.heap.size + 0 < w1.heap.size := by have := hb1.size; simp at this; omega
   clear hb1
   have K1c0 := K1.c0
   have K1c1 := K1.c1
   have K1c2 := K1.c2
   have K1l := K1.lt
   go_wp2_with fail
   with_reducible refine (toLat_any _ _ _ _).mono ?_
   rintro e w2 ⟨rfl, hb2⟩
   have K2 : Bx (w.heap.size) [.int .i64 A, .int .i64 B, .int .i64 C] w2 := Bx.call K1 hb2
   have B2 : Below w.heap.size w w2 := bstep B1 hb2
   have z2 : w1.heap.size ≤ w2.heap.size := hb2.size
   clear K1 B1 K1c0 K1c1 K1c2 K1l hb2
   go_wp2_with fail
   with_reducible refine (toMotionS_any (HA2.out.grow (w2 := w2) B2) HN2.out).mono ?_
   rintro e w3 ⟨v3, rfl, r3, hb3⟩
   have K3 : Bx (w.heap.size) [.int .i64 A, .int .i64 B, .int .i64 C] w3 := Bx.call K2 hb3
   have B3 : Below w.heap.size w w3 := bstep B2 hb3
   have z3 : w2.heap.size ≤ w3.heap.size := hb3.size
   clear K2 B2 hb3
   obtain ⟨ao3, cap3, rfl⟩ := r3.slice
   have p3 := Lib.hid r3
   clear r3
   go_wp2_with fail
   with_reducible refine (toInt_any (HA3.out.call B3) HN3.out).mono ?_
   rintro e w4 ⟨v4, rfl, r4, hb4⟩
   have K4 : Bx (w.heap.size) [.int .i64 A, .int .i64 B, .int .i64 C] w4 := Bx.call K3 hb4
   have B4 : Below w.heap.size w w4 := bstep B3 hb4
   have z4 : w3.heap.size ≤ w4.heap.size := hb4.size
   have p4 := Lib.hid (SRow.call p3.out hb4)
   clear K3 B3 p3 hb4
   obtain ⟨ao4, cap4, rfl⟩ := r4.slice
   have l4 := Lib.hid r4
   clear r4
   go_wp2_with fail
   with_reducible refine (specPo_any f A B C p4.out HN2.out l4.out).mono ?_
   rintro e w5 hh
   unfold PAnK at hh
   obtain ⟨pf5, pa5, pb5, pc5, m5, G5, c5, v5, hr5, rfl, rq5, hb5⟩ := hh
   obtain ⟨ao5, cap5, rfl⟩ := rq5.slice
   have HP := Lib.hid hr5
   clear hr5
   have K5 : Bx (w.heap.size) [.int .i64 A, .int .i64 B, .int .i64 C] w5 := Bx.call K4 hb5
   have B5 : Below w.heap.size w w5 := bstep B4 hb5
   have z5 : w4.heap.size ≤ w5.heap.size := hb5.size
   have p5 := Lib.hid (SRow.call p4.out hb5)
   have l5 := Lib.hid (SRow.call l4.out hb5)
   clear K4 B4 p4 l4 hb5
   have y5 := Lib.hid rq5
   clear rq5
   clear p5
   clear l5
   go_wp2_with fail
   have K6 : Bx (w.heap.size) [.int .i64 A, .int .i64 B, .int .i64 C] (w5.alloc (.cells #[.int .i64 pf5, .int .i64 pa5, .int .i64 pb5, .int .i64 pc5, .slice ao5 m5 cap5] 34)) := Bx.alloc K5 _
   have Y6 : Bx (w5.heap.size) [.int .i64 pf5, .int .i64 pa5, .int .i64 pb5, .int .i64 pc5, .slice ao5 m5 cap5] (w5.alloc (.cells #[.int .i64 pf5, .int .i64 pa5, .int .i64 pb5, .int .i64 pc5, .slice ao5 m5 cap5] 34)) := Bx.at _ rfl
   have B6 : Below w.heap.size w (w5.alloc (.cells #[.int .i64 pf5, .int .i64 pa5, .int .i64 pb5, .int .i64 pc5, .slice ao5 m5 cap5] 34)) := bstep B5 (show Below w5.heap.size w5 (w5.alloc (.cells #[.int .i64 pf5, .int .i64 pa5, .int .i64 pb5, .int .i64 pc5, .slice ao5 m5 cap5] 34)) from (Below.refl _ _).alloc (Nat.le_refl _) _)
   have z6 : w5.heap.size + 1 ≤ (w5.alloc (.cells #[.int .i64 pf5, .int .i64 pa5, .int .i64 pb5, .int .i64 pc5, .slice ao5 m5 cap5] 34)).heap.size := by simp
   have y6 := Lib.hid (SRow.call y5.out (show Below w5.heap.size w5 (w5.alloc (.cells #[.int .i64 pf5, .int .i64 pa5, .int .i64 pb5, .int .i64 pc5, .slice ao5 m5 cap5] 34)) from (Below.refl _ _).alloc (Nat.le_refl _) _))
   generalize hW6 : w5.alloc (.cells #[.int .i64 pf5, .int .i64 pa5, .int .i64 pb5, .int .i64 pc5, .slice ao5 m5 cap5] 34) = w6 at *
   clear hW6
   clear K5 B5 y5
   with_reducible refine (toMotionS_any (HA2.out.grow (w2 := w6) B6) HN2.out).mono ?_
   rintro e w7 ⟨v7, rfl, r7, hb7⟩
   have K7 : Bx (w.heap.size) [.int .i64 A, .int .i64 B, .int .i64 C] w7 := Bx.call K6 hb7
   have Y7 : Bx (w5.heap.size) [.int .i64 pf5, .int .i64 pa5, .int .i64 pb5, .int .i64 pc5, .slice ao5 m5 cap5] w7 := Bx.call Y6 hb7
   have B7 : Below w.heap.size w w7 := bstep B6 hb7
   have z7 : w6.heap.size ≤ w7.heap.size := hb7.size
   have y7 := Lib.hid (SRow.call y6.out hb7)
   clear K6 Y6 B6 y6 hb7
   obtain ⟨ao7, cap7, rfl⟩ := r7.slice
   have x7 := Lib.hid r7
   clear r7
   go_wp2_with fail
   with_reducible refine (toInt_any (HA3.out.call B7) HN3.out).mono ?_
   rintro e w8 ⟨v8, rfl, r8, hb8⟩
   have K8 : Bx (w.heap.size) [.int .i64 A, .int .i64 B, .int .i64 C] w8 := Bx.call K7 hb8
   have Y8 : Bx (w5.heap.size) [.int .i64 pf5, .int .i64 pa5, .int .i64 pb5, .int .i64 pc5, .slice ao5 m5 cap5] w8 := Bx.call Y7 hb8
   have B8 : Below w.heap.size w w8 := bstep B7 hb8
   have z8 : w7.heap.size ≤ w8.heap.size := hb8.size
   have y8 := Lib.hid (SRow.call y7.out hb8)
   have x8 := Lib.hid (SRow.call x7.out hb8)
   clear K7 Y7 B7 y7 x7 hb8
   obtain ⟨ao8, cap8, rfl⟩ := r8.slice
   have m8 := Lib.hid r8
   clear r8
   have K8c0 := K8.c0
   have K8c1 := K8.c1
   have K8c2 := K8.c2
   have K8l := K8.lt
   go_wp2_with fail
   with_reducible refine (toLat_any _ _ _ _).mono ?_
   rintro e w9 ⟨rfl, hb9⟩
   have K9 : Bx (w.heap.size) [.int .i64 A, .int .i64 B, .int .i64 C] w9 := Bx.call K8 hb9
   have Y9 : Bx (w5.heap.size) [.int .i64 pf5, .int .i64 pa5, .int .i64 pb5, .int .i64 pc5, .slice ao5 m5 cap5] w9 := Bx.call Y8 hb9
   have B9 : Below w.heap.size w w9 := bstep B8 hb9
   have z9 : w8.heap.size ≤ w9.heap.size := hb9.size
   have y9 := Lib.hid (SRow.call y8.out hb9)
   have x9 := Lib.hid (SRow.call x8.out hb9)
   have m9 := Lib.hid (SRow.call m8.out hb9)
   clear K8 Y8 B8 y8 x8 m8 K8c0 K8c1 K8c2 K8l hb9
   go_wp2_with fail
   with_reducible refine (implPo_any f A B C x9.out HN2.out m9.out (HU.out.call B9)).mono ?_
   rintro e w10 hh
   unfold PAnK at hh
   obtain ⟨pf10, pa10, pb10, pc10, m10, G10, c10, v10, hr10, rfl, rq10, hb10⟩ := hh
   obtain ⟨ao10, cap10, rfl⟩ := rq10.slice
   obtain ⟨rfl, rfl, rfl, rfl, rfl, rfl, rfl⟩ : pf5 = pf10 ∧ pa5 = pa10 ∧ pb5 = pb10 ∧ pc5 = pc10 ∧ m5 = m10 ∧ G5 = G10 ∧ c5 = c10 := by have h9 := HP.out.symm.trans hr10; simpa using h9
   clear hr10
   have K10 : Bx (w.heap.size) [.int .i64 A, .int .i64 B, .int .i64 C] w10 := Bx.call K9 hb10
   have Y10 : Bx (w5.heap.size) [.int .i64 pf5, .int .i64 pa5, .int .i64 pb5, .int .i64 pc5, .slice ao5 m5 cap5] w10 := Bx.call Y9 hb10
   have B10 : Below w.heap.size w w10 := bstep B9 hb10
   have z10 : w9.heap.size ≤ w10.heap.size := hb10.size
   have y10 := Lib.hid (SRow.call y9.out hb10)
   have x10 := Lib.hid (SRow.call x9.out hb10)
   have m10 := Lib.hid (SRow.call m9.out hb10)
   clear K9 Y9 B9 y9 x9 m9 hb10
   have g10 := Lib.hid rq10
   clear rq10
   have Y10c0 := Y10.c0
   have Y10c1 := Y10.c1
   have Y10c2 := Y10.c2
   have Y10c3 := Y10.c3
   have Y10c4 := Y10.c4
   have Y10l := Y10.lt
   go_wp2_with fail
   have K11 : Bx (w.heap.size) [.int .i64 A, .int .i64 B, .int .i64 C] (w10.alloc (.cells #[.int .i64 pf5, .int .i64 pa5, .int .i64 pb5, .int .i64 pc5, .slice ao10 m5 cap10] 34)) := Bx.alloc K10 _
   have Y11 : Bx (w5.heap.size) [.int .i64 pf5, .int .i64 pa5, .int .i64 pb5, .int .i64 pc5, .slice ao5 m5 cap5] (w10.alloc (.cells #[.int .i64 pf5, .int .i64 pa5, .int .i64 pb5, .int .i64 pc5, .slice ao10 m5 cap10] 34)) := Bx.alloc Y10 _
   have G11 : Bx (w10.heap.size) [.int .i64 pf5, .int .i64 pa5, .int .i64 pb5, .int .i64 pc5, .slice ao10 m5 cap10] (w10.alloc (.cells #[.int .i64 pf5, .int .i64 pa5, .int .i64 pb5, .int .i64 pc5, .slice ao10 m5 cap10] 34)) := Bx.at _ rfl
   have B11 : Below w.heap.size w (w10.alloc (.cells #[.int .i64 pf5, .int .i64 pa5, .int .i64 pb5, .int .i64 pc5, .slice ao10 m5 cap10] 34)) := bstep B10 (show Below w10.heap.size w10 (w10.alloc (.cells #[.int .i64 pf5, .int .i64 pa5, .int .i64 pb5, .int .i64 pc5, .slice ao10 m5 cap10] 34)) from (Below.refl _ _).alloc (Nat.le_refl _) _)
   have z11 : w10.heap.size + 1 ≤ (w10.alloc (.cells #[.int .i64 pf5, .int .i64 pa5, .int .i64 pb5, .int .i64 pc5, .slice ao10 m5 cap10] 34)).heap.size := by simp
   have y11 := Lib.hid (SRow.call y10.out (show Below w10.heap.size w10 (w10.alloc (.cells #[.int .i64 pf5, .int .i64 pa5, .int .i64 pb5, .int .i64 pc5, .slice ao10 m5 cap10] 34)) from (Below.refl _ _).alloc (Nat.le_refl _) _))
   have x11 := Lib.hid (SRow.call x10.out (show Below w10.heap.size w10 (w10.alloc (.cells #[.int .i64 pf5, .int .i64 pa5, .int .i64 pb5, .int .i64 pc5, .slice ao10 m5 cap10] 34)) from (Below.refl _ _).alloc (Nat.le_refl _) _))
   have m11 := Lib.hid (SRow.call m10.out (show Below w10.heap.size w10 (w10.alloc (.cells #[.int .i64 pf5, .int .i64 pa5, .int .i64 pb5, .int .i64 pc5, .slice ao10 m5 cap10] 34)) from (Below.refl _ _).alloc (Nat.le_refl _) _))
   have g11 := Lib.hid (SRow.call g10.out (show Below w10.heap.size w10 (w10.alloc (.cells #[.int .i64 pf5, .int .i64 pa5, .int .i64 pb5, .int .i64 pc5, .slice ao10 m5 cap10] 34)) from (Below.refl _ _).alloc (Nat.le_refl _) _))
   generalize hW11 : w10.alloc (.cells #[.int .i64 pf5, .int .i64 pa5, .int .i64 pb5, .int .i64 pc5, .slice ao10 m5 cap10] 34) = w11 at *
   clear hW11
   clear K10 Y10 B10 y10 x10 m10 g10 Y10c0 Y10c1 Y10c2 Y10c3 Y10c4 Y10l
   with_reducible refine (eqPat_any pf5 pa5 pb5 pc5 g11.out y11.out).mono ?_
   rintro e w12 ⟨rfl, hb12⟩
   have K12 : Bx (w.heap.size) [.int .i64 A, .int .i64 B, .int .i64 C] w12 := Bx.call K11 hb12
   have Y12 : Bx (w5.heap.size) [.int .i64 pf5, .int .i64 pa5, .int .i64 pb5, .int .i64 pc5, .slice ao5 m5 cap5] w12 := Bx.call Y11 hb12
   have G12 : Bx (w10.heap.size) [.int .i64 pf5, .int .i64 pa5, .int .i64 pb5, .int .i64 pc5, .slice ao10 m5 cap10] w12 := Bx.call G11 hb12
   have B12 : Below w.heap.size w w12 := bstep B11 hb12
   have z12 : w11.heap.size ≤ w12.heap.size := hb12.size
   have y12 := Lib.hid (SRow.call y11.out hb12)
   have x12 := Lib.hid (SRow.call x11.out hb12)
   have m12 := Lib.hid (SRow.call m11.out hb12)
   have g12 := Lib.hid (SRow.call g11.out hb12)
   clear K11 Y11 G11 B11 y11 x11 m11 g11 hb12
   go_wp2_with fail
   with_reducible refine (toMotionS_any (HA2.out.grow (w2 := w12) B12) HN2.out).mono ?_
   rintro e w13 ⟨v13, rfl, r13, hb13⟩
   have K13 : Bx (w.heap.size) [.int .i64 A, .int .i64 B, .int .i64 C] w13 := Bx.call K12 hb13
   have Y13 : Bx (w5.heap.size) [.int .i64 pf5, .int .i64 pa5, .int .i64 pb5, .int .i64 pc5, .slice ao5 m5 cap5] w13 := Bx.call Y12 hb13
   have G13 : Bx (w10.heap.size) [.int .i64 pf5, .int .i64 pa5, .int .i64 pb5, .int .i64 pc5, .slice ao10 m5 cap10] w13 := Bx.call G12 hb13
   have B13 : Below w.heap.size w w13 := bstep B12 hb13
   have z13 : w12.heap.size ≤ w13.heap.size := hb13.size
   have y13 := Lib.hid (SRow.call y12.out hb13)
   have x13 := Lib.hid (SRow.call x12.out hb13)
   have m13 := Lib.hid (SRow.call m12.out hb13)
   have g13 := Lib.hid (SRow.call g12.out hb13)
   clear K12 Y12 G12 B12 y12 x12 m12 g12 hb13
   obtain ⟨ao13, cap13, rfl⟩ := r13.slice
   have q13 := Lib.hid r13
   clear r13
   go_wp2_with fail
   with_reducible refine (eqMotionS_any x13.out q13.out).mono ?_
   rintro e w14 ⟨rfl, hb14⟩
   have K14 : Bx (w.heap.size) [.int .i64 A, .int .i64 B, .int .i64 C] w14 := Bx.call K13 hb14
   have Y14 : Bx (w5.heap.size) [.int .i64 pf5, .int .i64 pa5, .int .i64 pb5, .int .i64 pc5, .slice ao5 m5 cap5] w14 := Bx.call Y13 hb14
   have G14 : Bx (w10.heap.size) [.int .i64 pf5, .int .i64 pa5, .int .i64 pb5, .int .i64 pc5, .slice ao10 m5 cap10] w14 := Bx.call G13 hb14
   have B14 : Below w.heap.size w w14 := bstep B13 hb14
   have z14 : w13.heap.size ≤ w14.heap.size := hb14.size
   have y14 := Lib.hid (SRow.call y13.out hb14)
   have x14 := Lib.hid (SRow.call x13.out hb14)
   have m14 := Lib.hid (SRow.call m13.out hb14)
   have g14 := Lib.hid (SRow.call g13.out hb14)
   have q14 := Lib.hid (SRow.call q13.out hb14)
   clear K13 Y13 G13 B13 y13 x13 m13 g13 q13 hb14
   clear q14
   go_wp2_with fail
   with_reducible refine (toInt_any (HA3.out.call B14) HN3.out).mono ?_
   rintro e w15 ⟨v15, rfl, r15, hb15⟩
   have K15 : Bx (w.heap.size) [.int .i64 A, .int .i64 B, .int .i64 C] w15 := Bx.call K14 hb15
   have Y15 : Bx (w5.heap.size) [.int .i64 pf5, .int .i64 pa5, .int .i64 pb5, .int .i64 pc5, .slice ao5 m5 cap5] w15 := Bx.call Y14 hb15
   have G15 : Bx (w10.heap.size) [.int .i64 pf5, .int .i64 pa5, .int .i64 pb5, .int .i64 pc5, .slice ao10 m5 cap10] w15 := Bx.call G14 hb15
   have B15 : Below w.heap.size w w15 := bstep B14 hb15
   have z15 : w14.heap.size ≤ w15.heap.size := hb15.size
   have y15 := Lib.hid (SRow.call y14.out hb15)
   have x15 := Lib.hid (SRow.call x14.out hb15)
   have m15 := Lib.hid (SRow.call m14.out hb15)
   have g15 := Lib.hid (SRow.call g14.out hb15)
   clear K14 Y14 G14 B14 y14 x14 m14 g14 hb15
   obtain ⟨ao15, cap15, rfl⟩ := r15.slice
   have q15 := Lib.hid r15
   clear r15
   go_wp2_with fail
   with_reducible refine (eqInt64S_any m15.out q15.out).mono ?_
   rintro e w16 ⟨rfl, hb16⟩
   have K16 : Bx (w.heap.size) [.int .i64 A, .int .i64 B, .int .i64 C] w16 := Bx.call K15 hb16
   have Y16 : Bx (w5.heap.size) [.int .i64 pf5, .int .i64 pa5, .int .i64 pb5, .int .i64 pc5, .slice ao5 m5 cap5] w16 := Bx.call Y15 hb16
   have G16 : Bx (w10.heap.size) [.int .i64 pf5, .int .i64 pa5, .int .i64 pb5, .int .i64 pc5, .slice ao10 m5 cap10] w16 := Bx.call G15 hb16
   have B16 : Below w.heap.size w w16 := bstep B15 hb16
   have z16 : w15.heap.size ≤ w16.heap.size := hb16.size
   have y16 := Lib.hid (SRow.call y15.out hb16)
   have x16 := Lib.hid (SRow.call x15.out hb16)
   have m16 := Lib.hid (SRow.call m15.out hb16)
   have g16 := Lib.hid (SRow.call g15.out hb16)
   have q16 := Lib.hid (SRow.call q15.out hb16)
   clear K15 Y15 G15 B15 y15 x15 m15 g15 q15 hb16
   clear q16
   have hn6 : (xs.length : Int) ≤ 1048576 := by have := HN2.out; omega
   have hn7 : (n : Int) ≤ 1048576 := by have := HN3.out; omega
   have hk7 : ¬ ((xs.length : Int) * 6 + 1 < 0) := by omega
   go_wp2_with fail
   with_reducible refine (markMotionS_off 1 (by omega) (by omega) x16.out).mono ?_
   rintro e w17 ⟨rfl, rm17, hb17, hk17⟩
   have z17 : w16.heap.size ≤ w17.heap.size := hb17.size
   have K17 : Bx (w.heap.size) [.int .i64 A, .int .i64 B, .int .i64 C] w17 := K16.grow hb17 (by omega)
   have Y17 : Bx (w5.heap.size) [.int .i64 pf5, .int .i64 pa5, .int .i64 pb5, .int .i64 pc5, .slice ao5 m5 cap5] w17 := Y16.grow hb17 (by omega)
   have G17 : Bx (w10.heap.size) [.int .i64 pf5, .int .i64 pa5, .int .i64 pb5, .int .i64 pc5, .slice ao10 m5 cap10] w17 := Bx.sameK G16 z17 (hk17 _ (by omega))
   have B17 : Below w.heap.size w w17 := B16.trans (hb17.mono (by omega))
   have y17 := Lib.hid (SRow.grow y16.out hb17 (by omega))
   have m17 := Lib.hid (SRow.keepHi m16.out hk17 (by omega) hb17.size)
   have g17 := Lib.hid (SRow.keepHi g16.out hk17 (by omega) hb17.size)
   have x17 := Lib.hid rm17
   clear rm17 hb17 hk17 K16 Y16 G16 B16 y16 x16 m16 g16
   clear x17
   have hk9 : ¬ ((n : Int) * 1 + ((xs.length : Int) * 6 + 1) < 0) := by omega
   go_wp2_with fail
   with_reducible refine (markIntZ_any ((xs.length : Int) * 6 + 1) (by omega) (by omega) m17.out).mono ?_
   rintro e w18 ⟨rfl, rm18, hb18, hk18⟩
   have z18 : w17.heap.size ≤ w18.heap.size := hb18.size
   have K18 : Bx (w.heap.size) [.int .i64 A, .int .i64 B, .int .i64 C] w18 := K17.grow hb18 (by omega)
   have Y18 : Bx (w5.heap.size) [.int .i64 pf5, .int .i64 pa5, .int .i64 pb5, .int .i64 pc5, .slice ao5 m5 cap5] w18 := Bx.keepV Y17 hk18 (SRow.off m17.out (by omega)) z18
   have G18 : Bx (w10.heap.size) [.int .i64 pf5, .int .i64 pa5, .int .i64 pb5, .int .i64 pc5, .slice ao10 m5 cap10] w18 := Bx.keepV G17 hk18 (SRow.off m17.out (by omega)) z18
   have B18 : Below w.heap.size w w18 := B17.trans (hb18.mono (by omega))
   have y18 := Lib.hid (SRow.grow y17.out hb18 (by omega))
   have g18 := Lib.hid (SRow.keepV g17.out hk18 (fun b9 h8 h9 => SRow.off m17.out (by omega)) z18)
   have m18 := Lib.hid rm18
   clear rm18 hb18 hk18 K17 Y17 G17 B17 y17 m17 g17
   clear m18
   have G18c0 := G18.c0
   have G18c1 := G18.c1
   have G18c2 := G18.c2
   have G18c3 := G18.c3
   have G18c4 := G18.c4
   have G18l := G18.lt
   have Y18c0 := Y18.c0
   have Y18c1 := Y18.c1
   have Y18c2 := Y18.c2
   have Y18c3 := Y18.c3
   have Y18c4 := Y18.c4
   have Y18l := Y18.lt
   go_wp2_with fail
   with_reducible refine (eqPat_any pf5 pa5 pb5 pc5 g18.out y18.out).mono ?_
   rintro e w19 ⟨rfl, hb19⟩
   have K19 : Bx (w.heap.size) [.int .i64 A, .int .i64 B, .int .i64 C] w19 := Bx.call K18 hb19
   have Y19 : Bx (w5.heap.size) [.int .i64 pf5, .int .i64 pa5, .int .i64 pb5, .int .i64 pc5, .slice ao5 m5 cap5] w19 := Bx.call Y18 hb19
   have G19 : Bx (w10.heap.size) [.int .i64 pf5, .int .i64 pa5, .int .i64 pb5, .int .i64 pc5, .slice ao10 m5 cap10] w19 := Bx.call G18 hb19
   have B19 : Below w.heap.size w w19 := bstep B18 hb19
   have z19 : w18.heap.size ≤ w19.heap.size := hb19.size
   have y19 := Lib.hid (SRow.call y18.out hb19)
   have g19 := Lib.hid (SRow.call g18.out hb19)
   clear K18 Y18 G18 B18 y18 g18 G18c0 G18c1 G18c2 G18c3 G18c4 G18l Y18c0 Y18c1 Y18c2 Y18c3 Y18c4 Y18l hb19
   have G19c0 := G19.c0
   have G19c1 := G19.c1
   have G19c2 := G19.c2
   have G19c3 := G19.c3
   have G19c4 := G19.c4
   have G19l := G19.lt
   go_wp2_with fail
   with_reducible refine (markPat_any pf5 pa5 pb5 pc5 g19.out (by omega)).mono ?_
   rintro e w20 ⟨rfl, rm20, hb20, hk20⟩
   have z20 : w19.heap.size ≤ w20.heap.size := hb20.size
   have K20 : Bx (w.heap.size) [.int .i64 A, .int .i64 B, .int .i64 C] w20 := Bx.keepV K19 hk20 (SRow.off g19.out (by omega)) z20
   have Y20 : Bx (w5.heap.size) [.int .i64 pf5, .int .i64 pa5, .int .i64 pb5, .int .i64 pc5, .slice ao5 m5 cap5] w20 := Bx.keepV Y19 hk20 (SRow.off g19.out (by omega)) z20
   have G20 : Bx (w10.heap.size) [.int .i64 pf5, .int .i64 pa5, .int .i64 pb5, .int .i64 pc5, .slice ao10 m5 cap10] w20 := Bx.keepV G19 hk20 (SRow.off g19.out (by omega)) z20
   have B20 : Below w.heap.size w w20 := B19.trans (hb20.mono (by omega))
   have y20 := Lib.hid (SRow.keepV y19.out hk20 (fun b9 h8 h9 => SRow.off g19.out (by omega)) z20)
   have g20 := Lib.hid rm20
   clear rm20 hb20 hk20 K19 Y19 G19 B19 y19 g19 G19c0 G19c1 G19c2 G19c3 G19c4 G19l
   have hk8 : ¬ ((m5 : Int) * 1 + 1 < 0) := by have := g20.out.2.1; omega
   have hq8 : (((m5 : Int) * 1 + 1) != (m5 : Int) * 1 + 1) = false := by simp
   have hm8 : (m5 : Int) ≤ 2000000 := by have := g20.out.2.1; omega
   have G20c0 := G20.c0
   have G20c1 := G20.c1
   have G20c2 := G20.c2
   have G20c3 := G20.c3
   have G20c4 := G20.c4
   have G20l := G20.lt
   go_wp2_with fail
   with_reducible refine (heldPat_any pf5 pa5 pb5 pc5 g20.out).mono ?_
   rintro e w21 ⟨rfl, hb21⟩
   have K21 : Bx (w.heap.size) [.int .i64 A, .int .i64 B, .int .i64 C] w21 := Bx.call K20 hb21
   have Y21 : Bx (w5.heap.size) [.int .i64 pf5, .int .i64 pa5, .int .i64 pb5, .int .i64 pc5, .slice ao5 m5 cap5] w21 := Bx.call Y20 hb21
   have G21 : Bx (w10.heap.size) [.int .i64 pf5, .int .i64 pa5, .int .i64 pb5, .int .i64 pc5, .slice ao10 m5 cap10] w21 := Bx.call G20 hb21
   have B21 : Below w.heap.size w w21 := bstep B20 hb21
   have z21 : w20.heap.size ≤ w21.heap.size := hb21.size
   have y21 := Lib.hid (SRow.call y20.out hb21)
   have g21 := Lib.hid (SRow.call g20.out hb21)
   clear K20 Y20 G20 B20 y20 g20 G20c0 G20c1 G20c2 G20c3 G20c4 G20l hb21
   have K21c0 := K21.c0
   have K21c1 := K21.c1
   have K21c2 := K21.c2
   have K21l := K21.lt
   go_wp2_with fail
   with_reducible refine (toLat_any _ _ _ _).mono ?_
   rintro e w22 ⟨rfl, hb22⟩
   have K22 : Bx (w.heap.size) [.int .i64 A, .int .i64 B, .int .i64 C] w22 := Bx.call K21 hb22
   have Y22 : Bx (w5.heap.size) [.int .i64 pf5, .int .i64 pa5, .int .i64 pb5, .int .i64 pc5, .slice ao5 m5 cap5] w22 := Bx.call Y21 hb22
   have G22 : Bx (w10.heap.size) [.int .i64 pf5, .int .i64 pa5, .int .i64 pb5, .int .i64 pc5, .slice ao10 m5 cap10] w22 := Bx.call G21 hb22
   have B22 : Below w.heap.size w w22 := bstep B21 hb22
   have z22 : w21.heap.size ≤ w22.heap.size := hb22.size
   have y22 := Lib.hid (SRow.call y21.out hb22)
   have g22 := Lib.hid (SRow.call g21.out hb22)
   clear K21 Y21 G21 B21 y21 g21 K21c0 K21c1 K21c2 K21l hb22
   go_wp2_with fail
   with_reducible refine (toMotionS_any (HA2.out.grow (w2 := w22) B22) HN2.out).mono ?_
   rintro e w23 ⟨v23, rfl, r23, hb23⟩
   have K23 : Bx (w.heap.size) [.int .i64 A, .int .i64 B, .int .i64 C] w23 := Bx.call K22 hb23
   have Y23 : Bx (w5.heap.size) [.int .i64 pf5, .int .i64 pa5, .int .i64 pb5, .int .i64 pc5, .slice ao5 m5 cap5] w23 := Bx.call Y22 hb23
   have G23 : Bx (w10.heap.size) [.int .i64 pf5, .int .i64 pa5, .int .i64 pb5, .int .i64 pc5, .slice ao10 m5 cap10] w23 := Bx.call G22 hb23
   have B23 : Below w.heap.size w w23 := bstep B22 hb23
   have z23 : w22.heap.size ≤ w23.heap.size := hb23.size
   have y23 := Lib.hid (SRow.call y22.out hb23)
   have g23 := Lib.hid (SRow.call g22.out hb23)
   clear K22 Y22 G22 B22 y22 g22 hb23
   obtain ⟨ao23, cap23, rfl⟩ := r23.slice
   have p23 := Lib.hid r23
   clear r23
   go_wp2_with fail
   with_reducible refine (toInt_any (HA3.out.call B23) HN3.out).mono ?_
   rintro e w24 ⟨v24, rfl, r24, hb24⟩
   have K24 : Bx (w.heap.size) [.int .i64 A, .int .i64 B, .int .i64 C] w24 := Bx.call K23 hb24
   have Y24 : Bx (w5.heap.size) [.int .i64 pf5, .int .i64 pa5, .int .i64 pb5, .int .i64 pc5, .slice ao5 m5 cap5] w24 := Bx.call Y23 hb24
   have G24 : Bx (w10.heap.size) [.int .i64 pf5, .int .i64 pa5, .int .i64 pb5, .int .i64 pc5, .slice ao10 m5 cap10] w24 := Bx.call G23 hb24
   have B24 : Below w.heap.size w w24 := bstep B23 hb24
   have z24 : w23.heap.size ≤ w24.heap.size := hb24.size
   have y24 := Lib.hid (SRow.call y23.out hb24)
   have g24 := Lib.hid (SRow.call g23.out hb24)
   have p24 := Lib.hid (SRow.call p23.out hb24)
   clear K23 Y23 G23 B23 y23 g23 p23 hb24
   obtain ⟨ao24, cap24, rfl⟩ := r24.slice
   have l24 := Lib.hid r24
   clear r24
   go_wp2_with fail
   with_reducible refine (implPo_any f A B C p24.out HN2.out l24.out (HU.out.call B24)).mono ?_
   rintro e w25 hh
   unfold PAnK at hh
   obtain ⟨pf25, pa25, pb25, pc25, m25, G25, c25, v25, hr25, rfl, rq25, hb25⟩ := hh
   obtain ⟨ao25, cap25, rfl⟩ := rq25.slice
   obtain ⟨rfl, rfl, rfl, rfl, rfl, rfl, rfl⟩ : pf5 = pf25 ∧ pa5 = pa25 ∧ pb5 = pb25 ∧ pc5 = pc25 ∧ m5 = m25 ∧ G5 = G25 ∧ c5 = c25 := by have h9 := HP.out.symm.trans hr25; simpa using h9
   clear hr25
   have K25 : Bx (w.heap.size) [.int .i64 A, .int .i64 B, .int .i64 C] w25 := Bx.call K24 hb25
   have Y25 : Bx (w5.heap.size) [.int .i64 pf5, .int .i64 pa5, .int .i64 pb5, .int .i64 pc5, .slice ao5 m5 cap5] w25 := Bx.call Y24 hb25
   have G25 : Bx (w10.heap.size) [.int .i64 pf5, .int .i64 pa5, .int .i64 pb5, .int .i64 pc5, .slice ao10 m5 cap10] w25 := Bx.call G24 hb25
   have B25 : Below w.heap.size w w25 := bstep B24 hb25
   have z25 : w24.heap.size ≤ w25.heap.size := hb25.size
   have y25 := Lib.hid (SRow.call y24.out hb25)
   have g25 := Lib.hid (SRow.call g24.out hb25)
   have p25 := Lib.hid (SRow.call p24.out hb25)
   have l25 := Lib.hid (SRow.call l24.out hb25)
   clear K24 Y24 G24 B24 y24 g24 p24 l24 hb25
   have h25 := Lib.hid rq25
   clear rq25
   clear p25
   clear l25
   have Y25c0 := Y25.c0
   have Y25c1 := Y25.c1
   have Y25c2 := Y25.c2
   have Y25c3 := Y25.c3
   have Y25c4 := Y25.c4
   have Y25l := Y25.lt
   go_wp2_with fail
   have K26 : Bx (w.heap.size) [.int .i64 A, .int .i64 B, .int .i64 C] (w25.alloc (.cells #[.int .i64 pf5, .int .i64 pa5, .int .i64 pb5, .int .i64 pc5, .slice ao25 m5 cap25] 34)) := Bx.alloc K25 _
   have Y26 : Bx (w5.heap.size) [.int .i64 pf5, .int .i64 pa5, .int .i64 pb5, .int .i64 pc5, .slice ao5 m5 cap5] (w25.alloc (.cells #[.int .i64 pf5, .int .i64 pa5, .int .i64 pb5, .int .i64 pc5, .slice ao25 m5 cap25] 34)) := Bx.alloc Y25 _
   have G26 : Bx (w10.heap.size) [.int .i64 pf5, .int .i64 pa5, .int .i64 pb5, .int .i64 pc5, .slice ao10 m5 cap10] (w25.alloc (.cells #[.int .i64 pf5, .int .i64 pa5, .int .i64 pb5, .int .i64 pc5, .slice ao25 m5 cap25] 34)) := Bx.alloc G25 _
   have H26 : Bx (w25.heap.size) [.int .i64 pf5, .int .i64 pa5, .int .i64 pb5, .int .i64 pc5, .slice ao25 m5 cap25] (w25.alloc (.cells #[.int .i64 pf5, .int .i64 pa5, .int .i64 pb5, .int .i64 pc5, .slice ao25 m5 cap25] 34)) := Bx.at _ rfl
   have B26 : Below w.heap.size w (w25.alloc (.cells #[.int .i64 pf5, .int .i64 pa5, .int .i64 pb5, .int .i64 pc5, .slice ao25 m5 cap25] 34)) := bstep B25 (show Below w25.heap.size w25 (w25.alloc (.cells #[.int .i64 pf5, .int .i64 pa5, .int .i64 pb5, .int .i64 pc5, .slice ao25 m5 cap25] 34)) from (Below.refl _ _).alloc (Nat.le_refl _) _)
   have z26 : w25.heap.size + 1 ≤ (w25.alloc (.cells #[.int .i64 pf5, .int .i64 pa5, .int .i64 pb5, .int .i64 pc5, .slice ao25 m5 cap25] 34)).heap.size := by simp
   have y26 := Lib.hid (SRow.call y25.out (show Below w25.heap.size w25 (w25.alloc (.cells #[.int .i64 pf5, .int .i64 pa5, .int .i64 pb5, .int .i64 pc5, .slice ao25 m5 cap25] 34)) from (Below.refl _ _).alloc (Nat.le_refl _) _))
   have g26 := Lib.hid (SRow.call g25.out (show Below w25.heap.size w25 (w25.alloc (.cells #[.int .i64 pf5, .int .i64 pa5, .int .i64 pb5, .int .i64 pc5, .slice ao25 m5 cap25] 34)) from (Below.refl _ _).alloc (Nat.le_refl _) _))
   have h26 := Lib.hid (SRow.call h25.out (show Below w25.heap.size w25 (w25.alloc (.cells #[.int .i64 pf5, .int .i64 pa5, .int .i64 pb5, .int .i64 pc5, .slice ao25 m5 cap25] 34)) from (Below.refl _ _).alloc (Nat.le_refl _) _))
   generalize hW26 : w25.alloc (.cells #[.int .i64 pf5, .int .i64 pa5, .int .i64 pb5, .int .i64 pc5, .slice ao25 m5 cap25] 34) = w26 at *
   clear hW26
   clear K25 Y25 G25 B25 y25 g25 h25 Y25c0 Y25c1 Y25c2 Y25c3 Y25c4 Y25l
   with_reducible refine (eqPat_any pf5 pa5 pb5 pc5 h26.out y26.out).mono ?_
   rintro e w27 ⟨rfl, hb27⟩
   have K27 : Bx (w.heap.size) [.int .i64 A, .int .i64 B, .int .i64 C] w27 := Bx.call K26 hb27
   have Y27 : Bx (w5.heap.size) [.int .i64 pf5, .int .i64 pa5, .int .i64 pb5, .int .i64 pc5, .slice ao5 m5 cap5] w27 := Bx.call Y26 hb27
   have G27 : Bx (w10.heap.size) [.int .i64 pf5, .int .i64 pa5, .int .i64 pb5, .int .i64 pc5, .slice ao10 m5 cap10] w27 := Bx.call G26 hb27
   have H27 : Bx (w25.heap.size) [.int .i64 pf5, .int .i64 pa5, .int .i64 pb5, .int .i64 pc5, .slice ao25 m5 cap25] w27 := Bx.call H26 hb27
   have B27 : Below w.heap.size w w27 := bstep B26 hb27
   have z27 : w26.heap.size ≤ w27.heap.size := hb27.size
   have y27 := Lib.hid (SRow.call y26.out hb27)
   have g27 := Lib.hid (SRow.call g26.out hb27)
   have h27 := Lib.hid (SRow.call h26.out hb27)
   clear K26 Y26 G26 H26 B26 y26 g26 h26 hb27
   clear h27
   clear y27
   clear H27
   clear Y27
   have G27c0 := G27.c0
   have G27c1 := G27.c1
   have G27c2 := G27.c2
   have G27c3 := G27.c3
   have G27c4 := G27.c4
   have G27l := G27.lt
   go_wp2_with fail
   with_reducible refine (heldPat_any pf5 pa5 pb5 pc5 g27.out).mono ?_
   rintro e w28 ⟨rfl, hb28⟩
   have K28 : Bx (w.heap.size) [.int .i64 A, .int .i64 B, .int .i64 C] w28 := Bx.call K27 hb28
   have G28 : Bx (w10.heap.size) [.int .i64 pf5, .int .i64 pa5, .int .i64 pb5, .int .i64 pc5, .slice ao10 m5 cap10] w28 := Bx.call G27 hb28
   have B28 : Below w.heap.size w w28 := bstep B27 hb28
   have z28 : w27.heap.size ≤ w28.heap.size := hb28.size
   have g28 := Lib.hid (SRow.call g27.out hb28)
   clear K27 G27 B27 g27 G27c0 G27c1 G27c2 G27c3 G27c4 G27l hb28
   go_wp2
   go_ret
   exact ⟨rfl, B28⟩
  ·have hbig3 := Lib.hid hb2
   clear hb2
   go_enter Tryz.func5, Tryz.ntmps5
   go_wp2_with fail
   with_reducible refine (szMo_any ao9 xs.length cap9 1048576 _ hm2 (by omega)).mono ?_
   rintro e w1 ⟨rfl, hb1⟩
   rw [if_neg (by have := hbig3.out; omega)]
   go_wp2
   go_ret
   exact ⟨rfl, bstep (by exact pkWpo0) hb1⟩
 ·have hn3 : (n : Int) > 1048576 := by omega
  go_enter Tryz.func5, Tryz.ntmps5
  go_wp2
  go_ret
  exact ⟨rfl, by exact pkWpo0⟩
end Go.Proofs.YtdgophfembpniaaGreatDoor
