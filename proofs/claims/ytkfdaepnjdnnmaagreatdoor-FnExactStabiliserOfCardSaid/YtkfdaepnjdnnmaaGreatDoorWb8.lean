/-
  The walk of the exact law of StabiliserOf: the law returns true and writes nothing that was there. Conditions: the list's length is one that a slice can have, and the program's variable unitMatrix holds the unit.
-/
import Derived.Test.YtkfdaepnjdnnmaaGreatDoorSb8
import Derived.Test.YtkfdaepnjdnnmaaGreatDoorGq
namespace Go.Proofs.YtkfdaepnjdnnmaaGreatDoor
open Go.RowKit
set_option linter.unusedSimpArgs false
set_option linter.unusedVariables false

theorem unitOK_call7 {W w1 : World} (h : UnitOK W) (hb : Below W.heap.size W w1) : UnitOK w1 := Kq.call h hb
theorem Kg.grow7 {g B : Nat} {a b : Int} {W w1 : World} (h : Kg g a b W) (hb : Below B W w1) (hg : g < B) : Kg g a b w1 :=
  ⟨Nat.lt_of_lt_of_le h.1 hb.size, by rw [hb.cell (p := ⟨g, 0, none⟩) hg]; exact h.2.1, by rw [hb.cell (p := ⟨g, 1, none⟩) hg]; exact h.2.2⟩
set_option maxRecDepth 100000 in
set_option maxHeartbeats 8000000 in
theorem walkStab (f A B C : Int) (v : Value) (xs : List M6) (p q : Int) (w : World) (hA : ARow v xs w) (hm : xs.length ≤ 9223372036854775807) (hU : UnitOK w) :
    Calls Tryz.prog 5 #[.int .i64 f, .agg #[.int .i64 A, .int .i64 B, .int .i64 C], v, .agg #[.int .i64 p, .int .i64 q]] w fun e w' => e = .returned (.bool true) ∧ Below w.heap.size w w' := by
  have L0 : Kt w.heap.size A B C ((w.alloc (.cells #[.int .i64 A, .int .i64 B, .int .i64 C] 23)).alloc (.cells #[.int .i64 p, .int .i64 q] 51)) := Kt.alloc (Kt.at _ rfl) _
  have V0 : Kg (w.heap.size + 1) p q ((w.alloc (.cells #[.int .i64 A, .int .i64 B, .int .i64 C] 23)).alloc (.cells #[.int .i64 p, .int .i64 q] 51)) := Kg.at2 _ (by simp)
  have B0 : Below w.heap.size w ((w.alloc (.cells #[.int .i64 A, .int .i64 B, .int .i64 C] 23)).alloc (.cells #[.int .i64 p, .int .i64 q] 51)) := ((Below.refl _ _).alloc (Nat.le_refl _) _).alloc (by simp) _
  have HA := Lib.hid hA
  have HU := Lib.hid hU
  obtain ⟨ao, cap, rfl, _⟩ := hA
  clear hU
  by_cases hbig : xs.length ≤ 1048576
  · have hz : (if (xs.length : Int) ≤ 1048576 then 1048576 - (xs.length : Int) else -1) = 1048576 - (xs.length : Int) := if_pos (by omega)
    have HN := Lib.hid hbig
    have hn1 : (xs.length : Int) ≤ 1048576 := by omega
    have hn2 : 0 ≤ (xs.length : Int) := by omega
    have hk1 : ¬ ((xs.length : Int) * 6 + 1 < 0) := by omega
    have hsm : (sbL f A B C xs p q).length ≤ 1000000 := Nat.le_trans (sbL_len f A B C xs p q) (by omega)
    have HSM := Lib.hid hsm
    have hk2 : ¬ ((((sbL f A B C xs p q).length : Nat) : Int) * 6 + 1 < 0) := by omega
    have hq : (((((sbL f A B C xs p q).length : Nat) : Int) * 6 + 1) != (((sbL f A B C xs p q).length : Nat) : Int) * 6 + 1) = false := by simp
    clear hbig hsm
    go_enter Tryz.func5, Tryz.ntmps5
    go_wp2_with fail
    refine (szMo_any ao xs.length cap 1048576 _ hm (by omega)).mono ?_
    rintro e w1 ⟨rfl, hb1⟩
    rw [hz]
    have L1 := L0.call hb1
    have V1 := V0.call hb1
    have B1 := bstep B0 hb1
    clear L0 V0 B0 hb1
    go_wp2_with fail
    go_region_held3 (fun W => (W.cell? ⟨w.heap.size, 0, none⟩ = some (.int .i64 A) ∧ W.cell? ⟨w.heap.size, 1, none⟩ = some (.int .i64 B) ∧ W.cell? ⟨w.heap.size, 2, none⟩ = some (.int .i64 C)) ∧ (W.cell? ⟨w.heap.size + 1, 0, none⟩ = some (.int .i64 p) ∧ W.cell? ⟨w.heap.size + 1, 1, none⟩ = some (.int .i64 q))) ((refine And.intro (Kt.cells ?_) (Kg.cells ?_)) <;> repeat (first | with_reducible assumption | with_reducible refine Kt.drew ?_ | with_reducible refine Kt.alloc ?_ _ | with_reducible refine Kt.call ?_ (by with_reducible assumption) | with_reducible refine Kg.drew ?_ | with_reducible refine Kg.alloc ?_ _ | with_reducible refine Kg.call ?_ (by with_reducible assumption)))
      (first
        | (go_at_call 18; with_reducible refine (toLat_any _ _ _ _).mono ?_; rintro e w2 ⟨rfl, hb2⟩; have c2 : Below w1.heap.size w1 w2 := bstep (by repeat (first | with_reducible exact Below.refl _ _ | with_reducible refine Below.drew ?_)) hb2; have L2 : Kt w.heap.size A B C w2 := (by repeat (first | with_reducible assumption | with_reducible refine Kt.drew ?_ | with_reducible refine Kt.alloc ?_ _ | with_reducible refine Kt.call ?_ (by with_reducible assumption) | with_reducible refine Kg.drew ?_ | with_reducible refine Kg.alloc ?_ _ | with_reducible refine Kg.call ?_ (by with_reducible assumption))); have V2 : Kg (w.heap.size + 1) p q w2 := (by repeat (first | with_reducible assumption | with_reducible refine Kt.drew ?_ | with_reducible refine Kt.alloc ?_ _ | with_reducible refine Kt.call ?_ (by with_reducible assumption) | with_reducible refine Kg.drew ?_ | with_reducible refine Kg.alloc ?_ _ | with_reducible refine Kg.call ?_ (by with_reducible assumption))); have B2 : Below w.heap.size w w2 := (by repeat (first | with_reducible assumption | with_reducible exact Below.refl _ _ | with_reducible refine Below.alloc ?_ (by first | omega | (simp <;> omega)) _ | with_reducible refine bstep ?_ (by with_reducible assumption) | with_reducible refine Below.drew ?_)))
        | (go_at_call 10; with_reducible refine (toMotionS_any (HA.out.grow (w2 := w) (by repeat (first | with_reducible assumption | with_reducible exact Below.refl _ _ | with_reducible refine Below.alloc ?_ (by first | omega | (simp <;> omega)) _ | with_reducible refine bstep ?_ (by with_reducible assumption) | with_reducible refine Below.drew ?_))) HN.out).mono ?_; rintro e w3 ⟨v3, rfl, s3, hb3⟩; have c3 : Below w1.heap.size w1 w3 := bstep (by repeat (first | with_reducible exact c2 | with_reducible exact Below.refl _ _ | with_reducible refine Below.drew ?_)) hb3; have L3 : Kt w.heap.size A B C w3 := (by repeat (first | with_reducible assumption | with_reducible refine Kt.drew ?_ | with_reducible refine Kt.alloc ?_ _ | with_reducible refine Kt.call ?_ (by with_reducible assumption) | with_reducible refine Kg.drew ?_ | with_reducible refine Kg.alloc ?_ _ | with_reducible refine Kg.call ?_ (by with_reducible assumption))); have V3 : Kg (w.heap.size + 1) p q w3 := (by repeat (first | with_reducible assumption | with_reducible refine Kt.drew ?_ | with_reducible refine Kt.alloc ?_ _ | with_reducible refine Kt.call ?_ (by with_reducible assumption) | with_reducible refine Kg.drew ?_ | with_reducible refine Kg.alloc ?_ _ | with_reducible refine Kg.call ?_ (by with_reducible assumption))); have B3 : Below w.heap.size w w3 := (by repeat (first | with_reducible assumption | with_reducible exact Below.refl _ _ | with_reducible refine Below.alloc ?_ (by first | omega | (simp <;> omega)) _ | with_reducible refine bstep ?_ (by with_reducible assumption) | with_reducible refine Below.drew ?_)))
        | (go_at_call 24; with_reducible refine (toVec_any _ _ _).mono ?_; rintro e w4 ⟨rfl, hb4⟩; have c4 : Below w1.heap.size w1 w4 := bstep (by repeat (first | with_reducible exact c3 | with_reducible exact Below.refl _ _ | with_reducible refine Below.drew ?_)) hb4; have L4 : Kt w.heap.size A B C w4 := (by repeat (first | with_reducible assumption | with_reducible refine Kt.drew ?_ | with_reducible refine Kt.alloc ?_ _ | with_reducible refine Kt.call ?_ (by with_reducible assumption) | with_reducible refine Kg.drew ?_ | with_reducible refine Kg.alloc ?_ _ | with_reducible refine Kg.call ?_ (by with_reducible assumption))); have V4 : Kg (w.heap.size + 1) p q w4 := (by repeat (first | with_reducible assumption | with_reducible refine Kt.drew ?_ | with_reducible refine Kt.alloc ?_ _ | with_reducible refine Kt.call ?_ (by with_reducible assumption) | with_reducible refine Kg.drew ?_ | with_reducible refine Kg.alloc ?_ _ | with_reducible refine Kg.call ?_ (by with_reducible assumption))); have B4 : Below w.heap.size w w4 := (by repeat (first | with_reducible assumption | with_reducible exact Below.refl _ _ | with_reducible refine Below.alloc ?_ (by first | omega | (simp <;> omega)) _ | with_reducible refine bstep ?_ (by with_reducible assumption) | with_reducible refine Below.drew ?_)); have s4 := SRow.call s3 (bstep (by repeat (first | with_reducible exact Below.refl _ _ | with_reducible refine Below.drew ?_)) hb4))
        | (go_at_call 23; with_reducible refine (specStab_any f A B C p q (SRow.call s4 (by repeat (first | with_reducible assumption | with_reducible exact Below.refl _ _ | with_reducible refine Below.alloc ?_ (by first | omega | (simp <;> omega)) _ | with_reducible refine bstep ?_ (by with_reducible assumption) | with_reducible refine Below.drew ?_))) HN.out).mono ?_; rintro e w5 hh; unfold LAns at hh; obtain ⟨v5, rfl, aa, hb5⟩ := hh; have c5 : Below w1.heap.size w1 w5 := bstep (by repeat (first | with_reducible exact c4 | with_reducible exact Below.refl _ _ | with_reducible refine Below.drew ?_)) hb5; have L5 : Kt w.heap.size A B C w5 := (by repeat (first | with_reducible assumption | with_reducible refine Kt.drew ?_ | with_reducible refine Kt.alloc ?_ _ | with_reducible refine Kt.call ?_ (by with_reducible assumption) | with_reducible refine Kg.drew ?_ | with_reducible refine Kg.alloc ?_ _ | with_reducible refine Kg.call ?_ (by with_reducible assumption))); have V5 : Kg (w.heap.size + 1) p q w5 := (by repeat (first | with_reducible assumption | with_reducible refine Kt.drew ?_ | with_reducible refine Kt.alloc ?_ _ | with_reducible refine Kt.call ?_ (by with_reducible assumption) | with_reducible refine Kg.drew ?_ | with_reducible refine Kg.alloc ?_ _ | with_reducible refine Kg.call ?_ (by with_reducible assumption))); have B5 : Below w.heap.size w w5 := (by repeat (first | with_reducible assumption | with_reducible exact Below.refl _ _ | with_reducible refine Below.alloc ?_ (by first | omega | (simp <;> omega)) _ | with_reducible refine bstep ?_ (by with_reducible assumption) | with_reducible refine Below.drew ?_)); have zz5 : w4.heap.size ≤ w5.heap.size := Below.size (show Below w4.heap.size w4 w5 from bstep (by repeat (first | with_reducible exact Below.refl _ _ | with_reducible refine Below.drew ?_)) hb5); have t5 : SRow w4.heap.size w5.heap.size 6 v5 (sbL f A B C xs p q).length (fm (sbL f A B C xs p q)) w5 := aa))
    all_goals
      clear L1 V1 B1 L2 V2 B2 hb2 L3 V3 B3 hb3 s3 L4 V4 B4 hb4 s4 hb5 c2 c3 c4 c5 aa
      have A5 := HA.out.grow (w2 := w5) B5
      have L5l := Lib.hid (show w.heap.size < w5.heap.size from L5.1)
      have V5l := Lib.hid (show w.heap.size + 1 < w5.heap.size from V5.1)
      go_wp2_with fail
      refine (toMotionS_any A5 HN.out).mono ?_
      rintro e w6 ⟨v6, rfl, x6, hb6⟩
      have L6 := L5.call hb6
      have V6 := V5.call hb6
      have t6 := t5.call hb6
      have B6 := bstep B5 hb6
      have z6 := hb6.size
      clear A5
      clear L5 V5 t5 B5 hb6
      go_wp2_with fail
      go_region_held3 (fun W => (W.cell? ⟨w.heap.size, 0, none⟩ = some (.int .i64 A) ∧ W.cell? ⟨w.heap.size, 1, none⟩ = some (.int .i64 B) ∧ W.cell? ⟨w.heap.size, 2, none⟩ = some (.int .i64 C)) ∧ (W.cell? ⟨w.heap.size + 1, 0, none⟩ = some (.int .i64 p) ∧ W.cell? ⟨w.heap.size + 1, 1, none⟩ = some (.int .i64 q))) ((refine And.intro (Kt.cells ?_) (Kg.cells ?_)) <;> repeat (first | with_reducible assumption | with_reducible refine Kt.drew ?_ | with_reducible refine Kt.alloc ?_ _ | with_reducible refine Kt.call ?_ (by with_reducible assumption) | with_reducible refine Kg.drew ?_ | with_reducible refine Kg.alloc ?_ _ | with_reducible refine Kg.call ?_ (by with_reducible assumption)))
        (first
          | (go_at_call 18; with_reducible refine (toLat_any _ _ _ _).mono ?_; rintro e w7 ⟨rfl, hb7⟩; have c7 : Below w6.heap.size w6 w7 := bstep (by repeat (first | with_reducible exact Below.refl _ _ | with_reducible refine Below.drew ?_)) hb7; have L7 : Kt w.heap.size A B C w7 := (by repeat (first | with_reducible assumption | with_reducible refine Kt.drew ?_ | with_reducible refine Kt.alloc ?_ _ | with_reducible refine Kt.call ?_ (by with_reducible assumption) | with_reducible refine Kg.drew ?_ | with_reducible refine Kg.alloc ?_ _ | with_reducible refine Kg.call ?_ (by with_reducible assumption))); have V7 : Kg (w.heap.size + 1) p q w7 := (by repeat (first | with_reducible assumption | with_reducible refine Kt.drew ?_ | with_reducible refine Kt.alloc ?_ _ | with_reducible refine Kt.call ?_ (by with_reducible assumption) | with_reducible refine Kg.drew ?_ | with_reducible refine Kg.alloc ?_ _ | with_reducible refine Kg.call ?_ (by with_reducible assumption))); have B7 : Below w.heap.size w w7 := (by repeat (first | with_reducible assumption | with_reducible exact Below.refl _ _ | with_reducible refine Below.alloc ?_ (by first | omega | (simp <;> omega)) _ | with_reducible refine bstep ?_ (by with_reducible assumption) | with_reducible refine Below.drew ?_)))
          | (go_at_call 24; with_reducible refine (toVec_any _ _ _).mono ?_; rintro e w8 ⟨rfl, hb8⟩; have c8 : Below w6.heap.size w6 w8 := bstep (by repeat (first | with_reducible exact c7 | with_reducible exact Below.refl _ _ | with_reducible refine Below.drew ?_)) hb8; have L8 : Kt w.heap.size A B C w8 := (by repeat (first | with_reducible assumption | with_reducible refine Kt.drew ?_ | with_reducible refine Kt.alloc ?_ _ | with_reducible refine Kt.call ?_ (by with_reducible assumption) | with_reducible refine Kg.drew ?_ | with_reducible refine Kg.alloc ?_ _ | with_reducible refine Kg.call ?_ (by with_reducible assumption))); have V8 : Kg (w.heap.size + 1) p q w8 := (by repeat (first | with_reducible assumption | with_reducible refine Kt.drew ?_ | with_reducible refine Kt.alloc ?_ _ | with_reducible refine Kt.call ?_ (by with_reducible assumption) | with_reducible refine Kg.drew ?_ | with_reducible refine Kg.alloc ?_ _ | with_reducible refine Kg.call ?_ (by with_reducible assumption))); have B8 : Below w.heap.size w w8 := (by repeat (first | with_reducible assumption | with_reducible exact Below.refl _ _ | with_reducible refine Below.alloc ?_ (by first | omega | (simp <;> omega)) _ | with_reducible refine bstep ?_ (by with_reducible assumption) | with_reducible refine Below.drew ?_)); have t8 := SRow.call t6 c8; have x8 := SRow.call x6 c8; have z8 : w6.heap.size ≤ w8.heap.size := c8.size)
          | (go_at_call 25; with_reducible refine (implStab_any f A B C p q (SRow.call x8 (by repeat (first | with_reducible assumption | with_reducible exact Below.refl _ _ | with_reducible refine Below.alloc ?_ (by first | omega | (simp <;> omega)) _ | with_reducible refine bstep ?_ (by with_reducible assumption) | with_reducible refine Below.drew ?_))) HN.out (unitOK_call7 HU.out (by repeat (first | with_reducible assumption | with_reducible exact Below.refl _ _ | with_reducible refine Below.alloc ?_ (by first | omega | (simp <;> omega)) _ | with_reducible refine bstep ?_ (by with_reducible assumption) | with_reducible refine Below.drew ?_)))).mono ?_; rintro e w9 hh; unfold LAns at hh; obtain ⟨v9, rfl, aa, hb9⟩ := hh; have c9 : Below w6.heap.size w6 w9 := bstep (by repeat (first | with_reducible exact c8 | with_reducible exact Below.refl _ _ | with_reducible refine Below.drew ?_)) hb9; have L9 : Kt w.heap.size A B C w9 := (by repeat (first | with_reducible assumption | with_reducible refine Kt.drew ?_ | with_reducible refine Kt.alloc ?_ _ | with_reducible refine Kt.call ?_ (by with_reducible assumption) | with_reducible refine Kg.drew ?_ | with_reducible refine Kg.alloc ?_ _ | with_reducible refine Kg.call ?_ (by with_reducible assumption))); have V9 : Kg (w.heap.size + 1) p q w9 := (by repeat (first | with_reducible assumption | with_reducible refine Kt.drew ?_ | with_reducible refine Kt.alloc ?_ _ | with_reducible refine Kt.call ?_ (by with_reducible assumption) | with_reducible refine Kg.drew ?_ | with_reducible refine Kg.alloc ?_ _ | with_reducible refine Kg.call ?_ (by with_reducible assumption))); have B9 : Below w.heap.size w w9 := (by repeat (first | with_reducible assumption | with_reducible exact Below.refl _ _ | with_reducible refine Below.alloc ?_ (by first | omega | (simp <;> omega)) _ | with_reducible refine bstep ?_ (by with_reducible assumption) | with_reducible refine Below.drew ?_)); have t9 := SRow.call t6 c9; have x9 := SRow.call x6 c9; have zz9 : w8.heap.size ≤ w9.heap.size := Below.size (show Below w8.heap.size w8 w9 from bstep (by repeat (first | with_reducible exact Below.refl _ _ | with_reducible refine Below.drew ?_)) hb9); have g9 : SRow w8.heap.size w9.heap.size 6 v9 (sbL f A B C xs p q).length (fm (sbL f A B C xs p q)) w9 := aa))
      all_goals
        clear L6 V6 B6 t6 x6 L7 V7 B7 hb7 L8 V8 B8 t8 x8 hb8 hb9 c7 c8 c9 aa
        go_wp2_with fail
        refine (eqMotionS_any g9 t9).mono ?_
        rintro e w10 ⟨rfl, hb10⟩
        have L10 := L9.call hb10
        have V10 := V9.call hb10
        have t10 := t9.call hb10
        have x10 := x9.call hb10
        have g10 := g9.call hb10
        have B10 := bstep B9 hb10
        have z10 := hb10.size
        have A10 := HA.out.grow (w2 := w10) B10
        clear L9 V9 t9 x9 g9 B9 hb10
        go_wp2_with fail
        refine (toMotionS_any A10 HN.out).mono ?_
        rintro e w11 ⟨v11, rfl, s11, hb11⟩
        have L11 := L10.call hb11
        have V11 := V10.call hb11
        have t11 := t10.call hb11
        have x11 := x10.call hb11
        have g11 := g10.call hb11
        have B11 := bstep B10 hb11
        have z11 := hb11.size
        clear A10
        clear L10 V10 t10 x10 g10 B10 hb11
        go_wp2_with fail
        refine (eqMotionS_any x11 s11).mono ?_
        rintro e w12 ⟨rfl, hb12⟩
        have L12 := L11.call hb12
        have V12 := V11.call hb12
        have t12 := t11.call hb12
        have x12 := x11.call hb12
        have g12 := g11.call hb12
        have B12 := bstep B11 hb12
        have z12 := hb12.size
        have zB5 : w.heap.size ≤ w5.heap.size := Nat.le_of_lt L5l.out
        have zV5 : w.heap.size + 1 < w5.heap.size := V5l.out
        clear L11 V11 t11 x11 g11 s11 B11 hb12
        go_wp2_with fail
        refine (markMotionS_off 1 (by omega) (by omega) x12).mono ?_
        rintro e w13 ⟨rfl, xx, hb13, hk13⟩
        have L13 := L12.grow hb13 L5l.out
        have V13 := Kg.grow7 V12 hb13 zV5
        have t13 := t12.grow hb13 (Nat.le_refl _)
        have g13 := g12.keepHi hk13 (by omega) hb13.size
        have B13 := B12.trans (hb13.mono zB5)
        have z13 := hb13.size
        clear xx hk13
        clear L12 V12 t12 x12 g12 B12 hb13
        go_wp2_with fail
        refine (eqMotionS_any g13 t13).mono ?_
        rintro e w14 ⟨rfl, hb14⟩
        have L14 := L13.call hb14
        have V14 := V13.call hb14
        have t14 := t13.call hb14
        have g14 := g13.call hb14
        have B14 := bstep B13 hb14
        clear L13 V13 t13 g13 B13 hb14
        go_wp2_with fail
        refine (markMotionS_at 1 (by omega) (by omega) g14).mono ?_
        rintro e w15 ⟨rfl, gg, hb15⟩
        have L15 := L14.grow hb15 (by have := L5l.out; omega)
        have V15 := Kg.grow7 V14 hb15 (by omega)
        have t15 := t14.grow hb15 (by omega)
        have B15 := B14.trans (hb15.mono (by omega))
        have m15 : SRow w8.heap.size w9.heap.size 6 v9 (sbL f A B C xs p q).length mark6 w15 := gg
        clear gg
        clear L14 V14 t14 g14 B14 hb15
        go_wp2_with fail
        refine (heldMotionS_any m15).mono ?_
        rintro e w16 ⟨rfl, hb16⟩
        have L16 := L15.call hb16
        have V16 := V15.call hb16
        have t16 := t15.call hb16
        have m16 := m15.call hb16
        have B16 := bstep B15 hb16
        clear L15 V15 t15 m15 B15 hb16
        go_wp2_with fail
        go_region_held3 (fun W => (W.cell? ⟨w.heap.size, 0, none⟩ = some (.int .i64 A) ∧ W.cell? ⟨w.heap.size, 1, none⟩ = some (.int .i64 B) ∧ W.cell? ⟨w.heap.size, 2, none⟩ = some (.int .i64 C)) ∧ (W.cell? ⟨w.heap.size + 1, 0, none⟩ = some (.int .i64 p) ∧ W.cell? ⟨w.heap.size + 1, 1, none⟩ = some (.int .i64 q))) ((refine And.intro (Kt.cells ?_) (Kg.cells ?_)) <;> repeat (first | with_reducible assumption | with_reducible refine Kt.drew ?_ | with_reducible refine Kt.alloc ?_ _ | with_reducible refine Kt.call ?_ (by with_reducible assumption) | with_reducible refine Kg.drew ?_ | with_reducible refine Kg.alloc ?_ _ | with_reducible refine Kg.call ?_ (by with_reducible assumption)))
          (first
            | (go_at_call 18; with_reducible refine (toLat_any _ _ _ _).mono ?_; rintro e w17 ⟨rfl, hb17⟩; have c17 : Below w16.heap.size w16 w17 := bstep (by repeat (first | with_reducible exact Below.refl _ _ | with_reducible refine Below.drew ?_)) hb17; have L17 : Kt w.heap.size A B C w17 := (by repeat (first | with_reducible assumption | with_reducible refine Kt.drew ?_ | with_reducible refine Kt.alloc ?_ _ | with_reducible refine Kt.call ?_ (by with_reducible assumption) | with_reducible refine Kg.drew ?_ | with_reducible refine Kg.alloc ?_ _ | with_reducible refine Kg.call ?_ (by with_reducible assumption))); have V17 : Kg (w.heap.size + 1) p q w17 := (by repeat (first | with_reducible assumption | with_reducible refine Kt.drew ?_ | with_reducible refine Kt.alloc ?_ _ | with_reducible refine Kt.call ?_ (by with_reducible assumption) | with_reducible refine Kg.drew ?_ | with_reducible refine Kg.alloc ?_ _ | with_reducible refine Kg.call ?_ (by with_reducible assumption))); have B17 : Below w.heap.size w w17 := (by repeat (first | with_reducible assumption | with_reducible exact Below.refl _ _ | with_reducible refine Below.alloc ?_ (by first | omega | (simp <;> omega)) _ | with_reducible refine bstep ?_ (by with_reducible assumption) | with_reducible refine Below.drew ?_)))
            | (go_at_call 10; with_reducible refine (toMotionS_any (HA.out.grow (w2 := w) (by repeat (first | with_reducible assumption | with_reducible exact Below.refl _ _ | with_reducible refine Below.alloc ?_ (by first | omega | (simp <;> omega)) _ | with_reducible refine bstep ?_ (by with_reducible assumption) | with_reducible refine Below.drew ?_))) HN.out).mono ?_; rintro e w18 ⟨v18, rfl, s18, hb18⟩; have c18 : Below w16.heap.size w16 w18 := bstep (by repeat (first | with_reducible exact c17 | with_reducible exact Below.refl _ _ | with_reducible refine Below.drew ?_)) hb18; have L18 : Kt w.heap.size A B C w18 := (by repeat (first | with_reducible assumption | with_reducible refine Kt.drew ?_ | with_reducible refine Kt.alloc ?_ _ | with_reducible refine Kt.call ?_ (by with_reducible assumption) | with_reducible refine Kg.drew ?_ | with_reducible refine Kg.alloc ?_ _ | with_reducible refine Kg.call ?_ (by with_reducible assumption))); have V18 : Kg (w.heap.size + 1) p q w18 := (by repeat (first | with_reducible assumption | with_reducible refine Kt.drew ?_ | with_reducible refine Kt.alloc ?_ _ | with_reducible refine Kt.call ?_ (by with_reducible assumption) | with_reducible refine Kg.drew ?_ | with_reducible refine Kg.alloc ?_ _ | with_reducible refine Kg.call ?_ (by with_reducible assumption))); have B18 : Below w.heap.size w w18 := (by repeat (first | with_reducible assumption | with_reducible exact Below.refl _ _ | with_reducible refine Below.alloc ?_ (by first | omega | (simp <;> omega)) _ | with_reducible refine bstep ?_ (by with_reducible assumption) | with_reducible refine Below.drew ?_)))
            | (go_at_call 24; with_reducible refine (toVec_any _ _ _).mono ?_; rintro e w19 ⟨rfl, hb19⟩; have c19 : Below w16.heap.size w16 w19 := bstep (by repeat (first | with_reducible exact c18 | with_reducible exact Below.refl _ _ | with_reducible refine Below.drew ?_)) hb19; have L19 : Kt w.heap.size A B C w19 := (by repeat (first | with_reducible assumption | with_reducible refine Kt.drew ?_ | with_reducible refine Kt.alloc ?_ _ | with_reducible refine Kt.call ?_ (by with_reducible assumption) | with_reducible refine Kg.drew ?_ | with_reducible refine Kg.alloc ?_ _ | with_reducible refine Kg.call ?_ (by with_reducible assumption))); have V19 : Kg (w.heap.size + 1) p q w19 := (by repeat (first | with_reducible assumption | with_reducible refine Kt.drew ?_ | with_reducible refine Kt.alloc ?_ _ | with_reducible refine Kt.call ?_ (by with_reducible assumption) | with_reducible refine Kg.drew ?_ | with_reducible refine Kg.alloc ?_ _ | with_reducible refine Kg.call ?_ (by with_reducible assumption))); have B19 : Below w.heap.size w w19 := (by repeat (first | with_reducible assumption | with_reducible exact Below.refl _ _ | with_reducible refine Below.alloc ?_ (by first | omega | (simp <;> omega)) _ | with_reducible refine bstep ?_ (by with_reducible assumption) | with_reducible refine Below.drew ?_)); have s19 := SRow.call s18 (bstep (by repeat (first | with_reducible exact Below.refl _ _ | with_reducible refine Below.drew ?_)) hb19); have t19 := SRow.call t16 c19; have m19 := SRow.call m16 c19)
            | (go_at_call 25; with_reducible refine (implStab_any f A B C p q (SRow.call s19 (by repeat (first | with_reducible assumption | with_reducible exact Below.refl _ _ | with_reducible refine Below.alloc ?_ (by first | omega | (simp <;> omega)) _ | with_reducible refine bstep ?_ (by with_reducible assumption) | with_reducible refine Below.drew ?_))) HN.out (unitOK_call7 HU.out (by repeat (first | with_reducible assumption | with_reducible exact Below.refl _ _ | with_reducible refine Below.alloc ?_ (by first | omega | (simp <;> omega)) _ | with_reducible refine bstep ?_ (by with_reducible assumption) | with_reducible refine Below.drew ?_)))).mono ?_; rintro e w20 hh; unfold LAns at hh; obtain ⟨v20, rfl, aa, hb20⟩ := hh; have c20 : Below w16.heap.size w16 w20 := bstep (by repeat (first | with_reducible exact c19 | with_reducible exact Below.refl _ _ | with_reducible refine Below.drew ?_)) hb20; have L20 : Kt w.heap.size A B C w20 := (by repeat (first | with_reducible assumption | with_reducible refine Kt.drew ?_ | with_reducible refine Kt.alloc ?_ _ | with_reducible refine Kt.call ?_ (by with_reducible assumption) | with_reducible refine Kg.drew ?_ | with_reducible refine Kg.alloc ?_ _ | with_reducible refine Kg.call ?_ (by with_reducible assumption))); have V20 : Kg (w.heap.size + 1) p q w20 := (by repeat (first | with_reducible assumption | with_reducible refine Kt.drew ?_ | with_reducible refine Kt.alloc ?_ _ | with_reducible refine Kt.call ?_ (by with_reducible assumption) | with_reducible refine Kg.drew ?_ | with_reducible refine Kg.alloc ?_ _ | with_reducible refine Kg.call ?_ (by with_reducible assumption))); have B20 : Below w.heap.size w w20 := (by repeat (first | with_reducible assumption | with_reducible exact Below.refl _ _ | with_reducible refine Below.alloc ?_ (by first | omega | (simp <;> omega)) _ | with_reducible refine bstep ?_ (by with_reducible assumption) | with_reducible refine Below.drew ?_)); have t20 := SRow.call t16 c20; have m20 := SRow.call m16 c20; have zz20 : w19.heap.size ≤ w20.heap.size := Below.size (show Below w19.heap.size w19 w20 from bstep (by repeat (first | with_reducible exact Below.refl _ _ | with_reducible refine Below.drew ?_)) hb20); have h20 : SRow w19.heap.size w20.heap.size 6 v20 (sbL f A B C xs p q).length (fm (sbL f A B C xs p q)) w20 := aa))
        all_goals
          clear L16 V16 B16 t16 m16 L17 V17 B17 hb17 L18 V18 B18 hb18 s18 L19 V19 B19 hb19 s19 t19 m19 hb20 zz20 c17 c18 c19 c20 aa
          clear L20 V20
          go_wp2_with fail
          refine (eqMotionS_any h20 t20).mono ?_
          rintro e w21 ⟨rfl, hb21⟩
          have m21 := m20.call hb21
          have B21 := bstep B20 hb21
          clear t20 m20 h20 B20 hb21
          go_wp2_with fail
          refine (heldMotionS_any m21).mono ?_
          rintro e w22 ⟨rfl, hb22⟩
          have B22 := bstep B21 hb22
          clear m21 B21 hb22
          go_wp2
          all_goals
            first
            | (go_ret; exact ⟨rfl, B22⟩)
            | (exfalso; simp_all)
          
  · have hz : (if (xs.length : Int) ≤ 1048576 then 1048576 - (xs.length : Int) else -1) = -1 := if_neg (by omega)
    clear L0 V0
    go_enter Tryz.func5, Tryz.ntmps5
    go_wp2_with fail
    refine (szMo_any ao xs.length cap 1048576 _ hm (by omega)).mono ?_
    rintro e w1 ⟨rfl, hb1⟩
    rw [hz]
    have B1 := bstep B0 hb1
    clear B0 hb1
    go_wp2
    go_ret
    exact ⟨rfl, B1⟩

end Go.Proofs.YtkfdaepnjdnnmaaGreatDoor
