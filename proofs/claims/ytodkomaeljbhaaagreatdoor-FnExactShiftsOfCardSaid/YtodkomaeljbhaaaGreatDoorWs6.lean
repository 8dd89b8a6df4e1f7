/-
  The walk of the exact law of ShiftsOf: the law returns true and writes nothing that was there. Conditions: the list's length is one that a slice can have, and the program's variable unitMatrix holds the unit.
-/
import Derived.Test.YtodkomaeljbhaaaGreatDoorGo
import Derived.Test.YtodkomaeljbhaaaGreatDoorGq
import Derived.Test.YtodkomaeljbhaaaGreatDoorSl2
namespace Go.Proofs.YtodkomaeljbhaaaGreatDoor
open Go.RowKit
set_option linter.unusedSimpArgs false
set_option linter.unusedVariables false

set_option maxRecDepth 100000 in
set_option maxHeartbeats 8000000 in
theorem walkShifts (f A B C : Int) (v : Value) (xs : List M6) (w : World) (hA : ARow v xs w) (hm : xs.length ≤ 9223372036854775807) (hU : UnitOK w) :
    Calls Tryz.prog 6 #[.int .i64 f, .agg #[.int .i64 A, .int .i64 B, .int .i64 C], v] w fun e w' => e = .returned (.bool true) ∧ Below w.heap.size w w' := by
  have L0 : Kt w.heap.size A B C (w.alloc (.cells #[.int .i64 A, .int .i64 B, .int .i64 C] 23)) := Kt.at _ rfl
  have B0 : Below w.heap.size w (w.alloc (.cells #[.int .i64 A, .int .i64 B, .int .i64 C] 23)) := (Below.refl _ _).alloc (Nat.le_refl _) _
  have HA := Lib.hid hA
  have HU := Lib.hid hU
  obtain ⟨ao, cap, rfl, _⟩ := hA
  clear hU
  by_cases hbig : xs.length ≤ 1048576
  · have hz : (if (xs.length : Int) ≤ 1048576 then 1048576 - (xs.length : Int) else -1) = 1048576 - (xs.length : Int) := if_pos (by omega)
    have HN := Lib.hid hbig
    have hn1 : (xs.length : Int) ≤ 1048576 := by omega
    have hn2 : 0 ≤ (xs.length : Int) := by omega
    have hk1 : ¬ ((xs.length : Int) * 6 + 1 < 0) := by omega
    have hsm : ((shL f A B C xs).length) ≤ 1000000 := Nat.le_trans (shL_len f A B C xs) (by omega)
    have HSM := Lib.hid hsm
    have hk2 : ¬ ((((shL f A B C xs).length : Nat) : Int) * 2 + 1 < 0) := by omega
    have hq : (((((shL f A B C xs).length : Nat) : Int) * 2 + 1) != (((shL f A B C xs).length : Nat) : Int) * 2 + 1) = false := by simp
    clear hbig hsm
    go_enter Tryz.func6, Tryz.ntmps6
    go_wp2_with fail
    refine (szMo_any ao xs.length cap 1048576 _ hm (by omega)).mono ?_
    rintro e w1 ⟨rfl, hb1⟩
    rw [hz]
    have L1 := L0.call hb1
    have B1 := bstep B0 hb1
    have L1c := L1.cells
    clear hz hb1 L0 B0
    go_wp2_with fail
    refine (toLat_any _ _ _ _).mono ?_
    rintro e w2 ⟨rfl, hb2⟩
    have L2 := L1.call hb2
    have B2 := bstep B1 hb2
    have A2 := HA.out.grow (w2 := w2) B2
    clear hb2 L1 B1 L1c
    go_wp2_with fail
    refine (toMotionS_any A2 HN.out).mono ?_
    rintro e w3 ⟨v3, rfl, s3, hb3⟩
    have L3 := L2.call hb3
    have B3 := bstep B2 hb3
    have U3 : UnitOK w3 := Kq.call HU.out B3
    clear hb3 A2 L2 B2
    go_wp2_with fail
    refine (specShifts_any f A B C s3 HN.out).mono ?_
    rintro e w4 ⟨v4, rfl, t4, hb4⟩
    have L4 := L3.call hb4
    have B4 := bstep B3 hb4
    have A4 := HA.out.grow (w2 := w4) B4
    have L4l := Lib.hid (show w.heap.size < w4.heap.size from L4.1)
    clear hb4 L3 B3 s3 U3
    go_wp2_with fail
    refine (toMotionS_any A4 HN.out).mono ?_
    rintro e w5 ⟨v5, rfl, x5, hb5⟩
    have L5 := L4.call hb5
    have B5 := bstep B4 hb5
    have t5 := t4.call hb5
    have L5c := L5.cells
    have z5 := hb5.size
    clear hb5 A4 L4 B4 t4
    go_wp2_with fail
    refine (toLat_any _ _ _ _).mono ?_
    rintro e w6 ⟨rfl, hb6⟩
    have L6 := L5.call hb6
    have B6 := bstep B5 hb6
    have t6 := t5.call hb6
    have x6 := x5.call hb6
    have z6 := hb6.size
    have U6 : UnitOK w6 := Kq.call HU.out B6
    clear hb6 L5 B5 t5 x5 L5c
    go_wp2_with fail
    refine (implShifts_any f A B C x6 HN.out U6).mono ?_
    rintro e w7 ⟨v7, rfl, g7, hb7⟩
    have L7 := L6.call hb7
    have B7 := bstep B6 hb7
    have t7 := t6.call hb7
    have x7 := x6.call hb7
    have z7 := hb7.size
    clear hb7 L6 B6 t6 x6 U6
    go_wp2_with fail
    refine (eqVecS_any g7 t7).mono ?_
    rintro e w8 ⟨rfl, hb8⟩
    have L8 := L7.call hb8
    have B8 := bstep B7 hb8
    have t8 := t7.call hb8
    have x8 := x7.call hb8
    have g8 := g7.call hb8
    have A8 := HA.out.grow (w2 := w8) B8
    have z8 := hb8.size
    clear hb8 L7 B7 t7 x7 g7
    go_wp2_with fail
    refine (toMotionS_any A8 HN.out).mono ?_
    rintro e w9 ⟨v9, rfl, y9, hb9⟩
    have L9 := L8.call hb9
    have B9 := bstep B8 hb9
    have t9 := t8.call hb9
    have x9 := x8.call hb9
    have g9 := g8.call hb9
    have z9 := hb9.size
    clear hb9 A8 L8 B8 t8 x8 g8
    go_wp2_with fail
    refine (eqMotionS_any x9 y9).mono ?_
    rintro e w10 ⟨rfl, hb10⟩
    have L10 := L9.call hb10
    have B10 := bstep B9 hb10
    have t10 := t9.call hb10
    have x10 := x9.call hb10
    have g10 := g9.call hb10
    have z10 := hb10.size
    have zB4 : w.heap.size ≤ w4.heap.size := Nat.le_of_lt L4l.out
    clear hb10 y9 L9 B9 t9 x9 g9
    go_wp2_with fail
    refine (markMotionS_off 1 (by omega) (by omega) x10).mono ?_
    rintro e w11 ⟨rfl, x11, hb11, hk11⟩
    have t11 := t10.grow hb11 (Nat.le_refl _)
    have g11 := g10.keepHi hk11 z6 hb11.size
    have B11 := B10.trans (hb11.mono zB4)
    have z11 := hb11.size
    have L11 := L10.grow hb11 (by have := L4l.out; omega)
    clear hb11 hk11 x10 L10 B10 t10 g10 x11
    go_wp2_with fail
    refine (eqVecS_any g11 t11).mono ?_
    rintro e w12 ⟨rfl, hb12⟩
    have L12 := L11.call hb12
    have B12 := bstep B11 hb12
    have t12 := t11.call hb12
    have g12 := g11.call hb12
    clear hb12 L11 B11 t11 g11
    go_wp2_with fail
    refine (markVecS_any g12).mono ?_
    rintro e w13 ⟨rfl, g13, hb13⟩
    have t13 := t12.grow hb13 (by omega)
    have L13 := L12.grow hb13 (by have := L4l.out; omega)
    have B13 := B12.trans (hb13.mono (by omega))
    have m13 : SRow w6.heap.size w7.heap.size 2 v7 (shL f A B C xs).length mark2 w13 := g13
    clear hb13 g12 g13 L12 B12 t12
    go_wp2_with fail
    refine (heldVecS_any m13).mono ?_
    rintro e w14 ⟨rfl, hb14⟩
    have L14 := L13.call hb14
    have B14 := bstep B13 hb14
    have t14 := t13.call hb14
    have m14 := m13.call hb14
    have L14c := L14.cells
    clear hb14 L13 B13 t13 m13
    go_wp2_with fail
    refine (toLat_any _ _ _ _).mono ?_
    rintro e w15 ⟨rfl, hb15⟩
    have B15 := bstep B14 hb15
    have t15 := t14.call hb15
    have m15 := m14.call hb15
    have A15 := HA.out.grow (w2 := w15) B15
    clear hb15 L14 B14 t14 m14 L14c
    go_wp2_with fail
    refine (toMotionS_any A15 HN.out).mono ?_
    rintro e w16 ⟨v16, rfl, s16, hb16⟩
    have B16 := bstep B15 hb16
    have t16 := t15.call hb16
    have m16 := m15.call hb16
    have U16 : UnitOK w16 := Kq.call HU.out B16
    clear hb16 A15 B15 t15 m15
    go_wp2_with fail
    refine (implShifts_any f A B C s16 HN.out U16).mono ?_
    rintro e w17 ⟨v17, rfl, h17, hb17⟩
    have B17 := bstep B16 hb17
    have t17 := t16.call hb17
    have m17 := m16.call hb17
    clear hb17 s16 U16 B16 t16 m16
    go_wp2_with fail
    refine (eqVecS_any h17 t17).mono ?_
    rintro e w18 ⟨rfl, hb18⟩
    have B18 := bstep B17 hb18
    have m18 := m17.call hb18
    clear hb18 h17 B17 t17 m17
    go_wp2_with fail
    refine (heldVecS_any m18).mono ?_
    rintro e w19 ⟨rfl, hb19⟩
    have B19 := bstep B18 hb19
    clear hb19 B18 m18
    go_wp2
    all_goals
      first
      | (go_ret; exact ⟨rfl, B19⟩)
      | (exfalso; simp_all)
  · have hz : (if (xs.length : Int) ≤ 1048576 then 1048576 - (xs.length : Int) else -1) = -1 := if_neg (by omega)
    go_enter Tryz.func6, Tryz.ntmps6
    go_wp2_with fail
    refine (szMo_any ao xs.length cap 1048576 _ hm (by omega)).mono ?_
    rintro e w1 ⟨rfl, hb1⟩
    rw [hz]
    have B1 := bstep B0 hb1
    clear hz hb1 L0 B0
    go_wp2
    go_ret
    exact ⟨rfl, B1⟩

end Go.Proofs.YtodkomaeljbhaaaGreatDoor
