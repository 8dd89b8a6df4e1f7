/-
  The walks of chapter 5's exact laws on motions: each returns true at every argument and writes nothing that was there. Condition: the program's variable unitMatrix holds the unit.
-/
import Derived.Test.YtpdekopmnchanaaDoorMo4
import Derived.Test.YtpdekopmnchanaaDoorMo5
namespace Go.Proofs.YtpdekopmnchanaaDoor
open Go.RowKit
set_option linter.unusedSimpArgs false
set_option linter.unusedVariables false

theorem unitOK_of {W : World} (h : Kq (0) 1 0 0 1 W) : UnitOK W := h
set_option maxRecDepth 100000 in
set_option maxHeartbeats 4000000 in
theorem toMo_any (a b c d x y : Int) (w : World) :
    Calls Tryd.prog 6 #[.agg #[.int .i64 a, .int .i64 b, .int .i64 c, .int .i64 d, .int .i64 x, .int .i64 y]] w fun e w' => e = .returned (.agg #[.int .i64 a, .int .i64 b, .int .i64 c, .int .i64 d, .int .i64 x, .int .i64 y]) ∧ Below w.heap.size w w' := by
  have M0 : Km (w.heap.size) a b c d x y (((w.alloc (.cells #[.int .i64 a, .int .i64 b, .int .i64 c, .int .i64 d, .int .i64 x, .int .i64 y] 27)).alloc (.cells #[.int .i64 0, .int .i64 0, .int .i64 0, .int .i64 0, .int .i64 0, .int .i64 0] 31)).alloc (.cells #[.int .i64 0, .int .i64 0, .int .i64 0, .int .i64 0, .int .i64 0, .int .i64 0] 31)) := (((Km.at (w.heap.size) rfl).alloc _).alloc _)
  have R0 : KM (w.heap.size + 1) 0 0 0 0 0 0 (((w.alloc (.cells #[.int .i64 a, .int .i64 b, .int .i64 c, .int .i64 d, .int .i64 x, .int .i64 y] 27)).alloc (.cells #[.int .i64 0, .int .i64 0, .int .i64 0, .int .i64 0, .int .i64 0, .int .i64 0] 31)).alloc (.cells #[.int .i64 0, .int .i64 0, .int .i64 0, .int .i64 0, .int .i64 0, .int .i64 0] 31)) := ((KM.at (w.heap.size + 1) (by simp)).alloc _)
  have O0 : KM (w.heap.size + 1 + 1) 0 0 0 0 0 0 (((w.alloc (.cells #[.int .i64 a, .int .i64 b, .int .i64 c, .int .i64 d, .int .i64 x, .int .i64 y] 27)).alloc (.cells #[.int .i64 0, .int .i64 0, .int .i64 0, .int .i64 0, .int .i64 0, .int .i64 0] 31)).alloc (.cells #[.int .i64 0, .int .i64 0, .int .i64 0, .int .i64 0, .int .i64 0, .int .i64 0] 31)) := (KM.at (w.heap.size + 1 + 1) (by simp))
  have B0 : Below w.heap.size w (((w.alloc (.cells #[.int .i64 a, .int .i64 b, .int .i64 c, .int .i64 d, .int .i64 x, .int .i64 y] 27)).alloc (.cells #[.int .i64 0, .int .i64 0, .int .i64 0, .int .i64 0, .int .i64 0, .int .i64 0] 31)).alloc (.cells #[.int .i64 0, .int .i64 0, .int .i64 0, .int .i64 0, .int .i64 0, .int .i64 0] 31)) := (Below.alloc (Below.alloc (Below.alloc (Below.refl _ _) (by first | with_reducible exact Nat.le_refl _ | (simp <;> omega)) _) (by first | with_reducible exact Nat.le_refl _ | (simp <;> omega)) _) (by first | with_reducible exact Nat.le_refl _ | (simp <;> omega)) _)
  go_enter Tryd.func6, Tryd.ntmps6
  have M0c0 := M0.c0
  have M0c1 := M0.c1
  have M0c2 := M0.c2
  have M0c3 := M0.c3
  have M0c4 := M0.c4
  have M0c5 := M0.c5
  have M0l := M0.1
  have R0c0 := R0.c0
  have R0c1 := R0.c1
  have R0c2 := R0.c2
  have R0c3 := R0.c3
  have R0c4 := R0.c4
  have R0c5 := R0.c5
  have R0f0 := R0.f0
  have R0f1 := R0.f1
  have R0f2 := R0.f2
  have R0f3 := R0.f3
  have R0f4 := R0.f4
  have R0f5 := R0.f5
  have R0l := R0.lt
  have O0c0 := O0.c0
  have O0c1 := O0.c1
  have O0c2 := O0.c2
  have O0c3 := O0.c3
  have O0c4 := O0.c4
  have O0c5 := O0.c5
  have O0f0 := O0.f0
  have O0f1 := O0.f1
  have O0f2 := O0.f2
  have O0f3 := O0.f3
  have O0f4 := O0.f4
  have O0f5 := O0.f5
  have O0l := O0.lt
  go_wp2_with fail
  refine (toMat_any _ _ _ _ _).mono ?_
  rintro e w1 ⟨rfl, hb1⟩
  have M1 : Km (w.heap.size) a b c d x y w1 := Km.call M0 hb1
  have R1 : KM (w.heap.size + 1) 0 0 0 0 0 0 w1 := KM.call R0 hb1
  have O1 : KM (w.heap.size + 1 + 1) 0 0 0 0 0 0 w1 := KM.call O0 hb1
  have B1 : Below w.heap.size w w1 := bstep B0 hb1
  clear hb1 B0 M0 R0 O0
  have M1c0 := M1.c0
  have M1c1 := M1.c1
  have M1c2 := M1.c2
  have M1c3 := M1.c3
  have M1c4 := M1.c4
  have M1c5 := M1.c5
  have M1l := M1.1
  have M1n : ¬ w.heap.size = w1.heap.size := by omega
  have R1c0 := R1.c0
  have R1c1 := R1.c1
  have R1c2 := R1.c2
  have R1c3 := R1.c3
  have R1c4 := R1.c4
  have R1c5 := R1.c5
  have R1f0 := R1.f0
  have R1f1 := R1.f1
  have R1f2 := R1.f2
  have R1f3 := R1.f3
  have R1f4 := R1.f4
  have R1f5 := R1.f5
  have R1l := R1.lt
  have R1n : ¬ w.heap.size + 1 = w1.heap.size := by omega
  have O1c0 := O1.c0
  have O1c1 := O1.c1
  have O1c2 := O1.c2
  have O1c3 := O1.c3
  have O1c4 := O1.c4
  have O1c5 := O1.c5
  have O1f0 := O1.f0
  have O1f1 := O1.f1
  have O1f2 := O1.f2
  have O1f3 := O1.f3
  have O1f4 := O1.f4
  have O1f5 := O1.f5
  have O1l := O1.lt
  have O1n : ¬ w.heap.size + 1 + 1 = w1.heap.size := by omega
  go_wp2_with fail
  refine (toVec_any _ _ _).mono ?_
  rintro e w2 ⟨rfl, hb2⟩
  have M2 : Km (w.heap.size) a b c d x y w2 := Km.call (show Km (w.heap.size) a b c d x y _ from by repeat (first | with_reducible assumption | with_reducible refine KM.drew ?_ | with_reducible refine KM.alloc ?_ _ | with_reducible refine KM.call ?_ (by with_reducible assumption) | with_reducible refine Km.drew ?_ | with_reducible refine Km.alloc ?_ _ | with_reducible refine Km.call ?_ (by with_reducible assumption) | ((with_reducible refine KM.put ?_ ?_); (first | omega | (dsimp only; omega))) | ((with_reducible refine Km.put ?_ ?_); (first | omega | (dsimp only; omega))) | ((with_reducible refine KM.far ?_ ?_); (first | omega | (dsimp only; omega))) | ((with_reducible refine Km.far ?_ ?_); (first | omega | (dsimp only; omega))))) hb2
  have R2 : KM (w.heap.size + 1) 0 0 0 0 0 0 w2 := KM.call (show KM (w.heap.size + 1) 0 0 0 0 0 0 _ from by repeat (first | with_reducible assumption | with_reducible refine KM.drew ?_ | with_reducible refine KM.alloc ?_ _ | with_reducible refine KM.call ?_ (by with_reducible assumption) | with_reducible refine Km.drew ?_ | with_reducible refine Km.alloc ?_ _ | with_reducible refine Km.call ?_ (by with_reducible assumption) | ((with_reducible refine KM.put ?_ ?_); (first | omega | (dsimp only; omega))) | ((with_reducible refine Km.put ?_ ?_); (first | omega | (dsimp only; omega))) | ((with_reducible refine KM.far ?_ ?_); (first | omega | (dsimp only; omega))) | ((with_reducible refine Km.far ?_ ?_); (first | omega | (dsimp only; omega))))) hb2
  have O2 : KM (w.heap.size + 1 + 1) a b c d 0 0 w2 := KM.call (KM.storeM O1 _ _ _ _) hb2
  have B2 : Below w.heap.size w w2 := bstep (by repeat (first | with_reducible assumption | with_reducible exact Below.refl _ _ | with_reducible refine Below.setCell ?_ (by first | omega | (simp <;> omega)) _ | with_reducible refine Below.alloc ?_ (by first | omega | (simp <;> omega)) _ | with_reducible refine bstep ?_ (by with_reducible assumption) | with_reducible refine Below.drew ?_)) hb2
  clear hb2 B1 M1 R1 O1
  have M2c0 := M2.c0
  have M2c1 := M2.c1
  have M2c2 := M2.c2
  have M2c3 := M2.c3
  have M2c4 := M2.c4
  have M2c5 := M2.c5
  have M2l := M2.1
  have M2n : ¬ w.heap.size = w2.heap.size := by omega
  have R2c0 := R2.c0
  have R2c1 := R2.c1
  have R2c2 := R2.c2
  have R2c3 := R2.c3
  have R2c4 := R2.c4
  have R2c5 := R2.c5
  have R2f0 := R2.f0
  have R2f1 := R2.f1
  have R2f2 := R2.f2
  have R2f3 := R2.f3
  have R2f4 := R2.f4
  have R2f5 := R2.f5
  have R2l := R2.lt
  have R2n : ¬ w.heap.size + 1 = w2.heap.size := by omega
  have O2c0 := O2.c0
  have O2c1 := O2.c1
  have O2c2 := O2.c2
  have O2c3 := O2.c3
  have O2c4 := O2.c4
  have O2c5 := O2.c5
  have O2f0 := O2.f0
  have O2f1 := O2.f1
  have O2f2 := O2.f2
  have O2f3 := O2.f3
  have O2f4 := O2.f4
  have O2f5 := O2.f5
  have O2l := O2.lt
  have O2n : ¬ w.heap.size + 1 + 1 = w2.heap.size := by omega
  go_wp2
  refine bodyPost_ret (v := .agg #[.int .i64 a, .int .i64 b, .int .i64 c, .int .i64 d, .int .i64 x, .int .i64 y]) (by simp [results, Tryd.results6, go_sem, *]) rfl ⟨rfl, ?_⟩
  repeat (first | with_reducible assumption | with_reducible exact Below.refl _ _ | with_reducible refine Below.setCell ?_ (by first | omega | (simp <;> omega)) _ | with_reducible refine Below.alloc ?_ (by first | omega | (simp <;> omega)) _ | with_reducible refine bstep ?_ (by with_reducible assumption) | with_reducible refine Below.drew ?_)

set_option maxRecDepth 100000 in
set_option maxHeartbeats 4000000 in
theorem eqMotion_any (a b c d x y : Int) (w : World) :
    Calls Tryd.prog 8 #[.agg #[.int .i64 a, .int .i64 b, .int .i64 c, .int .i64 d, .int .i64 x, .int .i64 y], .agg #[.int .i64 a, .int .i64 b, .int .i64 c, .int .i64 d, .int .i64 x, .int .i64 y]] w fun e w' => e = .returned (.bool true) ∧ Below w.heap.size w w' := by
  have M0 : Km (w.heap.size) a b c d x y ((w.alloc (.cells #[.int .i64 a, .int .i64 b, .int .i64 c, .int .i64 d, .int .i64 x, .int .i64 y] 31)).alloc (.cells #[.int .i64 a, .int .i64 b, .int .i64 c, .int .i64 d, .int .i64 x, .int .i64 y] 31)) := ((Km.at (w.heap.size) rfl).alloc _)
  have N0 : Km (w.heap.size + 1) a b c d x y ((w.alloc (.cells #[.int .i64 a, .int .i64 b, .int .i64 c, .int .i64 d, .int .i64 x, .int .i64 y] 31)).alloc (.cells #[.int .i64 a, .int .i64 b, .int .i64 c, .int .i64 d, .int .i64 x, .int .i64 y] 31)) := (Km.at (w.heap.size + 1) (by simp))
  have B0 : Below w.heap.size w ((w.alloc (.cells #[.int .i64 a, .int .i64 b, .int .i64 c, .int .i64 d, .int .i64 x, .int .i64 y] 31)).alloc (.cells #[.int .i64 a, .int .i64 b, .int .i64 c, .int .i64 d, .int .i64 x, .int .i64 y] 31)) := (Below.alloc (Below.alloc (Below.refl _ _) (by first | with_reducible exact Nat.le_refl _ | (simp <;> omega)) _) (by first | with_reducible exact Nat.le_refl _ | (simp <;> omega)) _)
  go_enter Tryd.func8, Tryd.ntmps8
  have M0c0 := M0.c0
  have M0c1 := M0.c1
  have M0c2 := M0.c2
  have M0c3 := M0.c3
  have M0c4 := M0.c4
  have M0c5 := M0.c5
  have M0l := M0.1
  have N0c0 := N0.c0
  have N0c1 := N0.c1
  have N0c2 := N0.c2
  have N0c3 := N0.c3
  have N0c4 := N0.c4
  have N0c5 := N0.c5
  have N0l := N0.1
  have he1 := eqM_rfl a b c d
  have he2 := eqB_rfl x y
  go_wp2_with fail
  refine (eqMat_any _ _ _ _ _ _ _ _ _).mono ?_
  rintro e w1 ⟨rfl, hb1⟩
  have M1 : Km (w.heap.size) a b c d x y w1 := Km.call M0 hb1
  have N1 : Km (w.heap.size + 1) a b c d x y w1 := Km.call N0 hb1
  have B1 : Below w.heap.size w w1 := bstep B0 hb1
  clear hb1 B0 M0 N0
  have M1c0 := M1.c0
  have M1c1 := M1.c1
  have M1c2 := M1.c2
  have M1c3 := M1.c3
  have M1c4 := M1.c4
  have M1c5 := M1.c5
  have M1l := M1.1
  have M1n : ¬ w.heap.size = w1.heap.size := by omega
  have N1c0 := N1.c0
  have N1c1 := N1.c1
  have N1c2 := N1.c2
  have N1c3 := N1.c3
  have N1c4 := N1.c4
  have N1c5 := N1.c5
  have N1l := N1.1
  have N1n : ¬ w.heap.size + 1 = w1.heap.size := by omega
  go_wp2_with fail
  refine (eqVec_any _ _ _ _ _).mono ?_
  rintro e w2 ⟨rfl, hb2⟩
  have M2 : Km (w.heap.size) a b c d x y w2 := Km.call M1 hb2
  have N2 : Km (w.heap.size + 1) a b c d x y w2 := Km.call N1 hb2
  have B2 : Below w.heap.size w w2 := bstep B1 hb2
  clear hb2 B1 M1 N1
  go_wp2
  go_ret
  refine ⟨rfl, ?_⟩
  repeat (first | with_reducible assumption | with_reducible exact Below.refl _ _ | with_reducible refine Below.setCell ?_ (by first | omega | (simp <;> omega)) _ | with_reducible refine Below.alloc ?_ (by first | omega | (simp <;> omega)) _ | with_reducible refine bstep ?_ (by with_reducible assumption) | with_reducible refine Below.drew ?_)

set_option maxRecDepth 100000 in
set_option maxHeartbeats 2000000 in
theorem walkInvMo (a b c d x y : Int) (w : World) (hU : UnitOK w) :
    Calls Tryd.prog 4 #[.agg #[.int .i64 a, .int .i64 b, .int .i64 c, .int .i64 d, .int .i64 x, .int .i64 y]] w fun e w' => e = .returned (.bool true) ∧ Below w.heap.size w w' := by
  have M0 : Km (w.heap.size) a b c d x y (w.alloc (.cells #[.int .i64 a, .int .i64 b, .int .i64 c, .int .i64 d, .int .i64 x, .int .i64 y] 27)) := (Km.at (w.heap.size) rfl)
  have U0 : Kq (0) 1 0 0 1 (w.alloc (.cells #[.int .i64 a, .int .i64 b, .int .i64 c, .int .i64 d, .int .i64 x, .int .i64 y] 27)) := (hU.alloc _)
  have B0 : Below w.heap.size w (w.alloc (.cells #[.int .i64 a, .int .i64 b, .int .i64 c, .int .i64 d, .int .i64 x, .int .i64 y] 27)) := (Below.alloc (Below.refl _ _) (by first | with_reducible exact Nat.le_refl _ | (simp <;> omega)) _)
  go_enter Tryd.func4, Tryd.ntmps4
  have M0c0 := M0.c0
  have M0c1 := M0.c1
  have M0c2 := M0.c2
  have M0c3 := M0.c3
  have M0c4 := M0.c4
  have M0c5 := M0.c5
  have M0l := M0.1
  have U0c0 := U0.c0
  have U0c1 := U0.c1
  have U0c2 := U0.c2
  have U0c3 := U0.c3
  have U0l := U0.1
  go_wp2_with fail
  refine (toMo_any _ _ _ _ _ _ _).mono ?_
  rintro e w1 ⟨rfl, hb1⟩
  have M1 : Km (w.heap.size) a b c d x y w1 := Km.call M0 hb1
  have U1 : Kq (0) 1 0 0 1 w1 := Kq.call U0 hb1
  have B1 : Below w.heap.size w w1 := bstep B0 hb1
  clear hb1 B0 M0 U0
  have M1c0 := M1.c0
  have M1c1 := M1.c1
  have M1c2 := M1.c2
  have M1c3 := M1.c3
  have M1c4 := M1.c4
  have M1c5 := M1.c5
  have M1l := M1.1
  have M1n : ¬ w.heap.size = w1.heap.size := by omega
  have U1c0 := U1.c0
  have U1c1 := U1.c1
  have U1c2 := U1.c2
  have U1c3 := U1.c3
  have U1l := U1.1
  have U1n : ¬ 0 = w1.heap.size := by omega
  go_wp2_with fail
  refine (specInvMo_any _ _ _ _ _ _ _).mono ?_
  rintro e w2 ⟨he, hb2⟩
  unfold motT at he
  subst he
  have M2 : Km (w.heap.size) a b c d x y w2 := Km.call M1 hb2
  have U2 : Kq (0) 1 0 0 1 w2 := Kq.call U1 hb2
  have B2 : Below w.heap.size w w2 := bstep B1 hb2
  clear hb2 B1 M1 U1
  have M2c0 := M2.c0
  have M2c1 := M2.c1
  have M2c2 := M2.c2
  have M2c3 := M2.c3
  have M2c4 := M2.c4
  have M2c5 := M2.c5
  have M2l := M2.1
  have M2n : ¬ w.heap.size = w2.heap.size := by omega
  have U2c0 := U2.c0
  have U2c1 := U2.c1
  have U2c2 := U2.c2
  have U2c3 := U2.c3
  have U2l := U2.1
  have U2n : ¬ 0 = w2.heap.size := by omega
  go_wp2_with fail
  refine (toMo_any _ _ _ _ _ _ _).mono ?_
  rintro e w3 ⟨rfl, hb3⟩
  have M3 : Km (w.heap.size) a b c d x y w3 := Km.call (M2.alloc _) hb3
  have U3 : Kq (0) 1 0 0 1 w3 := Kq.call (U2.alloc _) hb3
  have P3 : Km (w2.heap.size) ((ibkR a b c d x y).1) ((ibkR a b c d x y).2.1) ((ibkR a b c d x y).2.2.1) ((ibkR a b c d x y).2.2.2.1) ((ibkR a b c d x y).2.2.2.2.1) ((ibkR a b c d x y).2.2.2.2.2.1) w3 := (Km.at (w2.heap.size) (by simp) : Km (w2.heap.size) ((ibkR a b c d x y).1) ((ibkR a b c d x y).2.1) ((ibkR a b c d x y).2.2.1) ((ibkR a b c d x y).2.2.2.1) ((ibkR a b c d x y).2.2.2.2.1) ((ibkR a b c d x y).2.2.2.2.2.1) _).call hb3
  have B3 : Below w.heap.size w w3 := bstep (Below.alloc B2 (by have := B2.size; first | omega | (simp <;> omega)) _) hb3
  clear hb3 B2 M2 U2
  have M3c0 := M3.c0
  have M3c1 := M3.c1
  have M3c2 := M3.c2
  have M3c3 := M3.c3
  have M3c4 := M3.c4
  have M3c5 := M3.c5
  have M3l := M3.1
  have M3n : ¬ w.heap.size = w3.heap.size := by omega
  have U3c0 := U3.c0
  have U3c1 := U3.c1
  have U3c2 := U3.c2
  have U3c3 := U3.c3
  have U3l := U3.1
  have U3n : ¬ 0 = w3.heap.size := by omega
  have P3c0 := P3.c0
  have P3c1 := P3.c1
  have P3c2 := P3.c2
  have P3c3 := P3.c3
  have P3c4 := P3.c4
  have P3c5 := P3.c5
  have P3l := P3.1
  have P3n : ¬ w2.heap.size = w3.heap.size := by omega
  go_wp2_with fail
  refine (implInvMo_any _ _ _ _ _ _ _ U3).mono ?_
  rintro e w4 ⟨he, hb4⟩
  unfold motT at he
  subst he
  have M4 : Km (w.heap.size) a b c d x y w4 := Km.call M3 hb4
  have U4 : Kq (0) 1 0 0 1 w4 := Kq.call U3 hb4
  have P4 : Km (w2.heap.size) ((ibkR a b c d x y).1) ((ibkR a b c d x y).2.1) ((ibkR a b c d x y).2.2.1) ((ibkR a b c d x y).2.2.2.1) ((ibkR a b c d x y).2.2.2.2.1) ((ibkR a b c d x y).2.2.2.2.2.1) w4 := Km.call P3 hb4
  have B4 : Below w.heap.size w w4 := bstep B3 hb4
  clear hb4 B3 M3 U3 P3
  have M4c0 := M4.c0
  have M4c1 := M4.c1
  have M4c2 := M4.c2
  have M4c3 := M4.c3
  have M4c4 := M4.c4
  have M4c5 := M4.c5
  have M4l := M4.1
  have M4n : ¬ w.heap.size = w4.heap.size := by omega
  have U4c0 := U4.c0
  have U4c1 := U4.c1
  have U4c2 := U4.c2
  have U4c3 := U4.c3
  have U4l := U4.1
  have U4n : ¬ 0 = w4.heap.size := by omega
  have P4c0 := P4.c0
  have P4c1 := P4.c1
  have P4c2 := P4.c2
  have P4c3 := P4.c3
  have P4c4 := P4.c4
  have P4c5 := P4.c5
  have P4l := P4.1
  have P4n : ¬ w2.heap.size = w4.heap.size := by omega
  go_wp2_with fail
  refine (eqMotion_any _ _ _ _ _ _ _).mono ?_
  rintro e w5 ⟨rfl, hb5⟩
  have M5 : Km (w.heap.size) a b c d x y w5 := Km.call (M4.alloc _) hb5
  have U5 : Kq (0) 1 0 0 1 w5 := Kq.call (U4.alloc _) hb5
  have P5 : Km (w2.heap.size) ((ibkR a b c d x y).1) ((ibkR a b c d x y).2.1) ((ibkR a b c d x y).2.2.1) ((ibkR a b c d x y).2.2.2.1) ((ibkR a b c d x y).2.2.2.2.1) ((ibkR a b c d x y).2.2.2.2.2.1) w5 := Km.call (P4.alloc _) hb5
  have Q5 : Km (w4.heap.size) ((ibkR a b c d x y).1) ((ibkR a b c d x y).2.1) ((ibkR a b c d x y).2.2.1) ((ibkR a b c d x y).2.2.2.1) ((ibkR a b c d x y).2.2.2.2.1) ((ibkR a b c d x y).2.2.2.2.2.1) w5 := (Km.at (w4.heap.size) (by simp) : Km (w4.heap.size) ((ibkR a b c d x y).1) ((ibkR a b c d x y).2.1) ((ibkR a b c d x y).2.2.1) ((ibkR a b c d x y).2.2.2.1) ((ibkR a b c d x y).2.2.2.2.1) ((ibkR a b c d x y).2.2.2.2.2.1) _).call hb5
  have B5 : Below w.heap.size w w5 := bstep (Below.alloc B4 (by have := B4.size; first | omega | (simp <;> omega)) _) hb5
  clear hb5 B4 M4 U4 P4
  have M5c0 := M5.c0
  have M5c1 := M5.c1
  have M5c2 := M5.c2
  have M5c3 := M5.c3
  have M5c4 := M5.c4
  have M5c5 := M5.c5
  have M5l := M5.1
  have M5n : ¬ w.heap.size = w5.heap.size := by omega
  have U5c0 := U5.c0
  have U5c1 := U5.c1
  have U5c2 := U5.c2
  have U5c3 := U5.c3
  have U5l := U5.1
  have U5n : ¬ 0 = w5.heap.size := by omega
  have P5c0 := P5.c0
  have P5c1 := P5.c1
  have P5c2 := P5.c2
  have P5c3 := P5.c3
  have P5c4 := P5.c4
  have P5c5 := P5.c5
  have P5l := P5.1
  have P5n : ¬ w2.heap.size = w5.heap.size := by omega
  have Q5c0 := Q5.c0
  have Q5c1 := Q5.c1
  have Q5c2 := Q5.c2
  have Q5c3 := Q5.c3
  have Q5c4 := Q5.c4
  have Q5c5 := Q5.c5
  have Q5l := Q5.1
  have Q5n : ¬ w4.heap.size = w5.heap.size := by omega
  go_wp2
  go_ret
  refine ⟨rfl, ?_⟩
  repeat (first | with_reducible assumption | with_reducible exact Below.refl _ _ | with_reducible refine Below.setCell ?_ (by first | omega | (simp <;> omega)) _ | with_reducible refine Below.alloc ?_ (by first | omega | (simp <;> omega)) _ | with_reducible refine bstep ?_ (by with_reducible assumption) | with_reducible refine Below.drew ?_)

def CmpP (w : World) (a b c d x y a' b' c' d' x' y' : Int) (s5 s6 : Value) (wx : World) : Prop :=
  ∃ g0 : Nat, s5 = .pointer (some ⟨g0, 0, none⟩) ∧ s6 = .int .i64 ((cmpR a b c d x y a' b' c' d' x' y').2.2.2.2.2.2) ∧ KM g0 ((cmpR a b c d x y a' b' c' d' x' y').1) ((cmpR a b c d x y a' b' c' d' x' y').2.1) ((cmpR a b c d x y a' b' c' d' x' y').2.2.1) ((cmpR a b c d x y a' b' c' d' x' y').2.2.2.1) ((cmpR a b c d x y a' b' c' d' x' y').2.2.2.2.1) ((cmpR a b c d x y a' b' c' d' x' y').2.2.2.2.2.1) wx ∧ Km (w.heap.size) a b c d x y wx ∧ Km (w.heap.size + 1) a' b' c' d' x' y' wx ∧ Kq (0) 1 0 0 1 wx ∧ w.heap.size + 1 + 1 ≤ g0 ∧ Below w.heap.size w wx
def CmpQ (w : World) (g0 : Nat) (a b c d x y a' b' c' d' x' y' : Int) (s7 s8 : Value) (wx : World) : Prop :=
  ∃ g1 : Nat, s7 = .pointer (some ⟨g1, 0, none⟩) ∧ s8 = .int .i64 ((cmpR a b c d x y a' b' c' d' x' y').2.2.2.2.2.2) ∧ KM g1 ((cmpR a b c d x y a' b' c' d' x' y').1) ((cmpR a b c d x y a' b' c' d' x' y').2.1) ((cmpR a b c d x y a' b' c' d' x' y').2.2.1) ((cmpR a b c d x y a' b' c' d' x' y').2.2.2.1) ((cmpR a b c d x y a' b' c' d' x' y').2.2.2.2.1) ((cmpR a b c d x y a' b' c' d' x' y').2.2.2.2.2.1) wx ∧ KM (g0) ((cmpR a b c d x y a' b' c' d' x' y').1) ((cmpR a b c d x y a' b' c' d' x' y').2.1) ((cmpR a b c d x y a' b' c' d' x' y').2.2.1) ((cmpR a b c d x y a' b' c' d' x' y').2.2.2.1) ((cmpR a b c d x y a' b' c' d' x' y').2.2.2.2.1) ((cmpR a b c d x y a' b' c' d' x' y').2.2.2.2.2.1) wx ∧ Km (w.heap.size) a b c d x y wx ∧ Km (w.heap.size + 1) a' b' c' d' x' y' wx ∧ Kq (0) 1 0 0 1 wx ∧ w.heap.size + 1 + 1 ≤ g1 ∧ Below w.heap.size w wx
set_option maxRecDepth 100000 in
set_option maxHeartbeats 2000000 in
theorem walkCmp (a b c d x y a' b' c' d' x' y' : Int) (w : World) (hU : UnitOK w) :
    Calls Tryd.prog 3 #[.agg #[.int .i64 a, .int .i64 b, .int .i64 c, .int .i64 d, .int .i64 x, .int .i64 y], .agg #[.int .i64 a', .int .i64 b', .int .i64 c', .int .i64 d', .int .i64 x', .int .i64 y']] w fun e w' => e = .returned (.bool true) ∧ Below w.heap.size w w' := by
  have M0 : Km (w.heap.size) a b c d x y ((w.alloc (.cells #[.int .i64 a, .int .i64 b, .int .i64 c, .int .i64 d, .int .i64 x, .int .i64 y] 27)).alloc (.cells #[.int .i64 a', .int .i64 b', .int .i64 c', .int .i64 d', .int .i64 x', .int .i64 y'] 27)) := ((Km.at (w.heap.size) rfl).alloc _)
  have N0 : Km (w.heap.size + 1) a' b' c' d' x' y' ((w.alloc (.cells #[.int .i64 a, .int .i64 b, .int .i64 c, .int .i64 d, .int .i64 x, .int .i64 y] 27)).alloc (.cells #[.int .i64 a', .int .i64 b', .int .i64 c', .int .i64 d', .int .i64 x', .int .i64 y'] 27)) := (Km.at (w.heap.size + 1) (by simp))
  have U0 : Kq (0) 1 0 0 1 ((w.alloc (.cells #[.int .i64 a, .int .i64 b, .int .i64 c, .int .i64 d, .int .i64 x, .int .i64 y] 27)).alloc (.cells #[.int .i64 a', .int .i64 b', .int .i64 c', .int .i64 d', .int .i64 x', .int .i64 y'] 27)) := ((hU.alloc _).alloc _)
  have B0 : Below w.heap.size w ((w.alloc (.cells #[.int .i64 a, .int .i64 b, .int .i64 c, .int .i64 d, .int .i64 x, .int .i64 y] 27)).alloc (.cells #[.int .i64 a', .int .i64 b', .int .i64 c', .int .i64 d', .int .i64 x', .int .i64 y'] 27)) := (Below.alloc (Below.alloc (Below.refl _ _) (by first | with_reducible exact Nat.le_refl _ | (simp <;> omega)) _) (by first | with_reducible exact Nat.le_refl _ | (simp <;> omega)) _)
  go_enter Tryd.func3, Tryd.ntmps3
  have M0c0 := M0.c0
  have M0c1 := M0.c1
  have M0c2 := M0.c2
  have M0c3 := M0.c3
  have M0c4 := M0.c4
  have M0c5 := M0.c5
  have M0l := M0.1
  have N0c0 := N0.c0
  have N0c1 := N0.c1
  have N0c2 := N0.c2
  have N0c3 := N0.c3
  have N0c4 := N0.c4
  have N0c5 := N0.c5
  have N0l := N0.1
  have U0c0 := U0.c0
  have U0c1 := U0.c1
  have U0c2 := U0.c2
  have U0c3 := U0.c3
  have U0l := U0.1
  clear M0c0 M0c1 M0c2 M0c3 M0c4 M0c5 M0l
  clear N0c0 N0c1 N0c2 N0c3 N0c4 N0c5 N0l
  clear U0c0 U0c1 U0c2 U0c3 U0l
  have M0lt := M0.1
  have N0lt := N0.1
  have U0lt := U0.1
  go_upto_region 1 with fail
  go_cut [5, 6] (fun s5 s6 wx => CmpP w a b c d x y a' b' c' d' x' y' s5 s6 wx)
  case first =>
    go_region_held3 (fun W => (W.cell? ⟨w.heap.size, 0, none⟩ = some (.int .i64 a) ∧ W.cell? ⟨w.heap.size, 1, none⟩ = some (.int .i64 b) ∧ W.cell? ⟨w.heap.size, 2, none⟩ = some (.int .i64 c) ∧ W.cell? ⟨w.heap.size, 3, none⟩ = some (.int .i64 d) ∧ W.cell? ⟨w.heap.size, 4, none⟩ = some (.int .i64 x) ∧ W.cell? ⟨w.heap.size, 5, none⟩ = some (.int .i64 y)) ∧ (W.cell? ⟨w.heap.size + 1, 0, none⟩ = some (.int .i64 a') ∧ W.cell? ⟨w.heap.size + 1, 1, none⟩ = some (.int .i64 b') ∧ W.cell? ⟨w.heap.size + 1, 2, none⟩ = some (.int .i64 c') ∧ W.cell? ⟨w.heap.size + 1, 3, none⟩ = some (.int .i64 d') ∧ W.cell? ⟨w.heap.size + 1, 4, none⟩ = some (.int .i64 x') ∧ W.cell? ⟨w.heap.size + 1, 5, none⟩ = some (.int .i64 y'))) ((refine ⟨Km.cells ?_, Km.cells ?_⟩ <;> repeat (first | with_reducible assumption | with_reducible refine KM.drew ?_ | with_reducible refine KM.alloc ?_ _ | with_reducible refine KM.call ?_ (by with_reducible assumption) | with_reducible refine Km.drew ?_ | with_reducible refine Km.alloc ?_ _ | with_reducible refine Km.call ?_ (by with_reducible assumption) | with_reducible refine Kq.drew ?_ | with_reducible refine Kq.alloc ?_ _ | with_reducible refine Kq.call ?_ (by with_reducible assumption) | ((with_reducible refine KM.put ?_ ?_); (first | omega | (dsimp only; omega))) | ((with_reducible refine Km.put ?_ ?_); (first | omega | (dsimp only; omega))) | ((with_reducible refine Kq.put ?_ ?_); (first | omega | (dsimp only; omega))) | ((with_reducible refine KM.far ?_ ?_); (first | omega | (dsimp only; omega))) | ((with_reducible refine Km.far ?_ ?_); (first | omega | (dsimp only; omega))) | ((with_reducible refine Kq.far ?_ ?_); (first | omega | (dsimp only; omega))))))
      (first
        | (go_at_call_of 6 (Value.agg #[Value.int IntKind.i64 a, Value.int IntKind.i64 b, Value.int IntKind.i64 c, Value.int IntKind.i64 d, Value.int IntKind.i64 x, Value.int IntKind.i64 y]); ((with_reducible refine (toMo_any _ _ _ _ _ _ _).mono ?_); rintro e w1 ⟨rfl, hb1⟩; have M1 : Km (w.heap.size) a b c d x y w1 := (by repeat (first | with_reducible assumption | with_reducible refine KM.drew ?_ | with_reducible refine KM.alloc ?_ _ | with_reducible refine KM.call ?_ (by with_reducible assumption) | with_reducible refine Km.drew ?_ | with_reducible refine Km.alloc ?_ _ | with_reducible refine Km.call ?_ (by with_reducible assumption) | with_reducible refine Kq.drew ?_ | with_reducible refine Kq.alloc ?_ _ | with_reducible refine Kq.call ?_ (by with_reducible assumption))); have M1l := M1.1; have N1 : Km (w.heap.size + 1) a' b' c' d' x' y' w1 := (by repeat (first | with_reducible assumption | with_reducible refine KM.drew ?_ | with_reducible refine KM.alloc ?_ _ | with_reducible refine KM.call ?_ (by with_reducible assumption) | with_reducible refine Km.drew ?_ | with_reducible refine Km.alloc ?_ _ | with_reducible refine Km.call ?_ (by with_reducible assumption) | with_reducible refine Kq.drew ?_ | with_reducible refine Kq.alloc ?_ _ | with_reducible refine Kq.call ?_ (by with_reducible assumption))); have N1l := N1.1; have U1 : Kq (0) 1 0 0 1 w1 := (by repeat (first | with_reducible assumption | with_reducible refine KM.drew ?_ | with_reducible refine KM.alloc ?_ _ | with_reducible refine KM.call ?_ (by with_reducible assumption) | with_reducible refine Km.drew ?_ | with_reducible refine Km.alloc ?_ _ | with_reducible refine Km.call ?_ (by with_reducible assumption) | with_reducible refine Kq.drew ?_ | with_reducible refine Kq.alloc ?_ _ | with_reducible refine Kq.call ?_ (by with_reducible assumption))); have U1l := U1.1; (try ((refine useIt (P := KM (w.heap.size + 1 + 1) 0 0 0 0 0 0 w1) ?_ ?_); (repeat (first | with_reducible assumption | (with_reducible exact KM.at _ (by first | with_reducible rfl | (simp; done) | fail)) | with_reducible refine KM.drew ?_ | with_reducible refine KM.alloc ?_ _ | with_reducible refine KM.call ?_ (by with_reducible assumption) | with_reducible refine Km.drew ?_ | with_reducible refine Km.alloc ?_ _ | with_reducible refine Km.call ?_ (by with_reducible assumption) | with_reducible refine Kq.drew ?_ | with_reducible refine Kq.alloc ?_ _ | with_reducible refine Kq.call ?_ (by with_reducible assumption))); intro P1_e; have P1_ec0 := P1_e.c0; have P1_ef0 := P1_e.f0; have P1_ec1 := P1_e.c1; have P1_ef1 := P1_e.f1; have P1_ec2 := P1_e.c2; have P1_ef2 := P1_e.f2; have P1_ec3 := P1_e.c3; have P1_ef3 := P1_e.f3; have P1_ec4 := P1_e.c4; have P1_ef4 := P1_e.f4; have P1_ec5 := P1_e.c5; have P1_ef5 := P1_e.f5; have P1_el := P1_e.lt)); (try ((refine useIt (P := KM (w2.heap.size) 0 0 0 0 0 0 w1) ?_ ?_); (repeat (first | with_reducible assumption | (with_reducible exact KM.at _ (by first | with_reducible rfl | (simp; done) | fail)) | with_reducible refine KM.drew ?_ | with_reducible refine KM.alloc ?_ _ | with_reducible refine KM.call ?_ (by with_reducible assumption) | with_reducible refine Km.drew ?_ | with_reducible refine Km.alloc ?_ _ | with_reducible refine Km.call ?_ (by with_reducible assumption) | with_reducible refine Kq.drew ?_ | with_reducible refine Kq.alloc ?_ _ | with_reducible refine Kq.call ?_ (by with_reducible assumption))); intro P1_w2; have P1_w2c0 := P1_w2.c0; have P1_w2f0 := P1_w2.f0; have P1_w2c1 := P1_w2.c1; have P1_w2f1 := P1_w2.f1; have P1_w2c2 := P1_w2.c2; have P1_w2f2 := P1_w2.f2; have P1_w2c3 := P1_w2.c3; have P1_w2f3 := P1_w2.f3; have P1_w2c4 := P1_w2.c4; have P1_w2f4 := P1_w2.f4; have P1_w2c5 := P1_w2.c5; have P1_w2f5 := P1_w2.f5; have P1_w2l := P1_w2.lt)); (try ((refine useIt (P := KM (w3.heap.size) 0 0 0 0 0 0 w1) ?_ ?_); (repeat (first | with_reducible assumption | (with_reducible exact KM.at _ (by first | with_reducible rfl | (simp; done) | fail)) | with_reducible refine KM.drew ?_ | with_reducible refine KM.alloc ?_ _ | with_reducible refine KM.call ?_ (by with_reducible assumption) | with_reducible refine Km.drew ?_ | with_reducible refine Km.alloc ?_ _ | with_reducible refine Km.call ?_ (by with_reducible assumption) | with_reducible refine Kq.drew ?_ | with_reducible refine Kq.alloc ?_ _ | with_reducible refine Kq.call ?_ (by with_reducible assumption))); intro P1_w3; have P1_w3c0 := P1_w3.c0; have P1_w3f0 := P1_w3.f0; have P1_w3c1 := P1_w3.c1; have P1_w3f1 := P1_w3.f1; have P1_w3c2 := P1_w3.c2; have P1_w3f2 := P1_w3.f2; have P1_w3c3 := P1_w3.c3; have P1_w3f3 := P1_w3.f3; have P1_w3c4 := P1_w3.c4; have P1_w3f4 := P1_w3.f4; have P1_w3c5 := P1_w3.c5; have P1_w3f5 := P1_w3.f5; have P1_w3l := P1_w3.lt)); have B1 : Below w.heap.size w w1 := (by repeat (first | with_reducible assumption | with_reducible refine Below.drew ?_ | with_reducible refine Below.alloc ?_ (by first | omega | (simp <;> omega)) _ | with_reducible refine bstep ?_ (by with_reducible assumption)))))
        | (go_at_call_of 6 (Value.agg #[Value.int IntKind.i64 a', Value.int IntKind.i64 b', Value.int IntKind.i64 c', Value.int IntKind.i64 d', Value.int IntKind.i64 x', Value.int IntKind.i64 y']); ((with_reducible refine (toMo_any _ _ _ _ _ _ _).mono ?_); rintro e w2 ⟨rfl, hb2⟩; have M2 : Km (w.heap.size) a b c d x y w2 := (by repeat (first | with_reducible assumption | with_reducible refine KM.drew ?_ | with_reducible refine KM.alloc ?_ _ | with_reducible refine KM.call ?_ (by with_reducible assumption) | with_reducible refine Km.drew ?_ | with_reducible refine Km.alloc ?_ _ | with_reducible refine Km.call ?_ (by with_reducible assumption) | with_reducible refine Kq.drew ?_ | with_reducible refine Kq.alloc ?_ _ | with_reducible refine Kq.call ?_ (by with_reducible assumption))); have M2l := M2.1; have N2 : Km (w.heap.size + 1) a' b' c' d' x' y' w2 := (by repeat (first | with_reducible assumption | with_reducible refine KM.drew ?_ | with_reducible refine KM.alloc ?_ _ | with_reducible refine KM.call ?_ (by with_reducible assumption) | with_reducible refine Km.drew ?_ | with_reducible refine Km.alloc ?_ _ | with_reducible refine Km.call ?_ (by with_reducible assumption) | with_reducible refine Kq.drew ?_ | with_reducible refine Kq.alloc ?_ _ | with_reducible refine Kq.call ?_ (by with_reducible assumption))); have N2l := N2.1; have U2 : Kq (0) 1 0 0 1 w2 := (by repeat (first | with_reducible assumption | with_reducible refine KM.drew ?_ | with_reducible refine KM.alloc ?_ _ | with_reducible refine KM.call ?_ (by with_reducible assumption) | with_reducible refine Km.drew ?_ | with_reducible refine Km.alloc ?_ _ | with_reducible refine Km.call ?_ (by with_reducible assumption) | with_reducible refine Kq.drew ?_ | with_reducible refine Kq.alloc ?_ _ | with_reducible refine Kq.call ?_ (by with_reducible assumption))); have U2l := U2.1; (try ((refine useIt (P := KM (w.heap.size + 1 + 1) 0 0 0 0 0 0 w2) ?_ ?_); (repeat (first | with_reducible assumption | (with_reducible exact KM.at _ (by first | with_reducible rfl | (simp; done) | fail)) | with_reducible refine KM.drew ?_ | with_reducible refine KM.alloc ?_ _ | with_reducible refine KM.call ?_ (by with_reducible assumption) | with_reducible refine Km.drew ?_ | with_reducible refine Km.alloc ?_ _ | with_reducible refine Km.call ?_ (by with_reducible assumption) | with_reducible refine Kq.drew ?_ | with_reducible refine Kq.alloc ?_ _ | with_reducible refine Kq.call ?_ (by with_reducible assumption))); intro P2_e; have P2_ec0 := P2_e.c0; have P2_ef0 := P2_e.f0; have P2_ec1 := P2_e.c1; have P2_ef1 := P2_e.f1; have P2_ec2 := P2_e.c2; have P2_ef2 := P2_e.f2; have P2_ec3 := P2_e.c3; have P2_ef3 := P2_e.f3; have P2_ec4 := P2_e.c4; have P2_ef4 := P2_e.f4; have P2_ec5 := P2_e.c5; have P2_ef5 := P2_e.f5; have P2_el := P2_e.lt)); (try ((refine useIt (P := KM (w1.heap.size) 0 0 0 0 0 0 w2) ?_ ?_); (repeat (first | with_reducible assumption | (with_reducible exact KM.at _ (by first | with_reducible rfl | (simp; done) | fail)) | with_reducible refine KM.drew ?_ | with_reducible refine KM.alloc ?_ _ | with_reducible refine KM.call ?_ (by with_reducible assumption) | with_reducible refine Km.drew ?_ | with_reducible refine Km.alloc ?_ _ | with_reducible refine Km.call ?_ (by with_reducible assumption) | with_reducible refine Kq.drew ?_ | with_reducible refine Kq.alloc ?_ _ | with_reducible refine Kq.call ?_ (by with_reducible assumption))); intro P2_w1; have P2_w1c0 := P2_w1.c0; have P2_w1f0 := P2_w1.f0; have P2_w1c1 := P2_w1.c1; have P2_w1f1 := P2_w1.f1; have P2_w1c2 := P2_w1.c2; have P2_w1f2 := P2_w1.f2; have P2_w1c3 := P2_w1.c3; have P2_w1f3 := P2_w1.f3; have P2_w1c4 := P2_w1.c4; have P2_w1f4 := P2_w1.f4; have P2_w1c5 := P2_w1.c5; have P2_w1f5 := P2_w1.f5; have P2_w1l := P2_w1.lt)); (try ((refine useIt (P := KM (w3.heap.size) 0 0 0 0 0 0 w2) ?_ ?_); (repeat (first | with_reducible assumption | (with_reducible exact KM.at _ (by first | with_reducible rfl | (simp; done) | fail)) | with_reducible refine KM.drew ?_ | with_reducible refine KM.alloc ?_ _ | with_reducible refine KM.call ?_ (by with_reducible assumption) | with_reducible refine Km.drew ?_ | with_reducible refine Km.alloc ?_ _ | with_reducible refine Km.call ?_ (by with_reducible assumption) | with_reducible refine Kq.drew ?_ | with_reducible refine Kq.alloc ?_ _ | with_reducible refine Kq.call ?_ (by with_reducible assumption))); intro P2_w3; have P2_w3c0 := P2_w3.c0; have P2_w3f0 := P2_w3.f0; have P2_w3c1 := P2_w3.c1; have P2_w3f1 := P2_w3.f1; have P2_w3c2 := P2_w3.c2; have P2_w3f2 := P2_w3.f2; have P2_w3c3 := P2_w3.c3; have P2_w3f3 := P2_w3.f3; have P2_w3c4 := P2_w3.c4; have P2_w3f4 := P2_w3.f4; have P2_w3c5 := P2_w3.c5; have P2_w3f5 := P2_w3.f5; have P2_w3l := P2_w3.lt)); have B2 : Below w.heap.size w w2 := (by repeat (first | with_reducible assumption | with_reducible refine Below.drew ?_ | with_reducible refine Below.alloc ?_ (by first | omega | (simp <;> omega)) _ | with_reducible refine bstep ?_ (by with_reducible assumption)))))
        | (go_at_call 5; ((with_reducible refine (specCmp_any _ _ _ _ _ _ _ _ _ _ _ _ _).mono ?_); rintro e w3 ⟨he, hb3⟩; unfold motT at he; subst he; have M3 : Km (w.heap.size) a b c d x y w3 := (by repeat (first | with_reducible assumption | with_reducible refine KM.drew ?_ | with_reducible refine KM.alloc ?_ _ | with_reducible refine KM.call ?_ (by with_reducible assumption) | with_reducible refine Km.drew ?_ | with_reducible refine Km.alloc ?_ _ | with_reducible refine Km.call ?_ (by with_reducible assumption) | with_reducible refine Kq.drew ?_ | with_reducible refine Kq.alloc ?_ _ | with_reducible refine Kq.call ?_ (by with_reducible assumption))); have M3l := M3.1; have N3 : Km (w.heap.size + 1) a' b' c' d' x' y' w3 := (by repeat (first | with_reducible assumption | with_reducible refine KM.drew ?_ | with_reducible refine KM.alloc ?_ _ | with_reducible refine KM.call ?_ (by with_reducible assumption) | with_reducible refine Km.drew ?_ | with_reducible refine Km.alloc ?_ _ | with_reducible refine Km.call ?_ (by with_reducible assumption) | with_reducible refine Kq.drew ?_ | with_reducible refine Kq.alloc ?_ _ | with_reducible refine Kq.call ?_ (by with_reducible assumption))); have N3l := N3.1; have U3 : Kq (0) 1 0 0 1 w3 := (by repeat (first | with_reducible assumption | with_reducible refine KM.drew ?_ | with_reducible refine KM.alloc ?_ _ | with_reducible refine KM.call ?_ (by with_reducible assumption) | with_reducible refine Km.drew ?_ | with_reducible refine Km.alloc ?_ _ | with_reducible refine Km.call ?_ (by with_reducible assumption) | with_reducible refine Kq.drew ?_ | with_reducible refine Kq.alloc ?_ _ | with_reducible refine Kq.call ?_ (by with_reducible assumption))); have U3l := U3.1; (try ((refine useIt (P := KM (w.heap.size + 1 + 1) 0 0 0 0 0 0 w3) ?_ ?_); (repeat (first | with_reducible assumption | (with_reducible exact KM.at _ (by first | with_reducible rfl | (simp; done) | fail)) | with_reducible refine KM.drew ?_ | with_reducible refine KM.alloc ?_ _ | with_reducible refine KM.call ?_ (by with_reducible assumption) | with_reducible refine Km.drew ?_ | with_reducible refine Km.alloc ?_ _ | with_reducible refine Km.call ?_ (by with_reducible assumption) | with_reducible refine Kq.drew ?_ | with_reducible refine Kq.alloc ?_ _ | with_reducible refine Kq.call ?_ (by with_reducible assumption))); intro P3_e; have P3_ec0 := P3_e.c0; have P3_ef0 := P3_e.f0; have P3_ec1 := P3_e.c1; have P3_ef1 := P3_e.f1; have P3_ec2 := P3_e.c2; have P3_ef2 := P3_e.f2; have P3_ec3 := P3_e.c3; have P3_ef3 := P3_e.f3; have P3_ec4 := P3_e.c4; have P3_ef4 := P3_e.f4; have P3_ec5 := P3_e.c5; have P3_ef5 := P3_e.f5; have P3_el := P3_e.lt)); (try ((refine useIt (P := KM (w1.heap.size) 0 0 0 0 0 0 w3) ?_ ?_); (repeat (first | with_reducible assumption | (with_reducible exact KM.at _ (by first | with_reducible rfl | (simp; done) | fail)) | with_reducible refine KM.drew ?_ | with_reducible refine KM.alloc ?_ _ | with_reducible refine KM.call ?_ (by with_reducible assumption) | with_reducible refine Km.drew ?_ | with_reducible refine Km.alloc ?_ _ | with_reducible refine Km.call ?_ (by with_reducible assumption) | with_reducible refine Kq.drew ?_ | with_reducible refine Kq.alloc ?_ _ | with_reducible refine Kq.call ?_ (by with_reducible assumption))); intro P3_w1; have P3_w1c0 := P3_w1.c0; have P3_w1f0 := P3_w1.f0; have P3_w1c1 := P3_w1.c1; have P3_w1f1 := P3_w1.f1; have P3_w1c2 := P3_w1.c2; have P3_w1f2 := P3_w1.f2; have P3_w1c3 := P3_w1.c3; have P3_w1f3 := P3_w1.f3; have P3_w1c4 := P3_w1.c4; have P3_w1f4 := P3_w1.f4; have P3_w1c5 := P3_w1.c5; have P3_w1f5 := P3_w1.f5; have P3_w1l := P3_w1.lt)); (try ((refine useIt (P := KM (w2.heap.size) 0 0 0 0 0 0 w3) ?_ ?_); (repeat (first | with_reducible assumption | (with_reducible exact KM.at _ (by first | with_reducible rfl | (simp; done) | fail)) | with_reducible refine KM.drew ?_ | with_reducible refine KM.alloc ?_ _ | with_reducible refine KM.call ?_ (by with_reducible assumption) | with_reducible refine Km.drew ?_ | with_reducible refine Km.alloc ?_ _ | with_reducible refine Km.call ?_ (by with_reducible assumption) | with_reducible refine Kq.drew ?_ | with_reducible refine Kq.alloc ?_ _ | with_reducible refine Kq.call ?_ (by with_reducible assumption))); intro P3_w2; have P3_w2c0 := P3_w2.c0; have P3_w2f0 := P3_w2.f0; have P3_w2c1 := P3_w2.c1; have P3_w2f1 := P3_w2.f1; have P3_w2c2 := P3_w2.c2; have P3_w2f2 := P3_w2.f2; have P3_w2c3 := P3_w2.c3; have P3_w2f3 := P3_w2.f3; have P3_w2c4 := P3_w2.c4; have P3_w2f4 := P3_w2.f4; have P3_w2c5 := P3_w2.c5; have P3_w2f5 := P3_w2.f5; have P3_w2l := P3_w2.lt)); have B3 : Below w.heap.size w w3 := (by repeat (first | with_reducible assumption | with_reducible refine Below.drew ?_ | with_reducible refine Below.alloc ?_ (by first | omega | (simp <;> omega)) _ | with_reducible refine bstep ?_ (by with_reducible assumption))))))
    all_goals
      go_wp2_with fail
      go_meet
      exact ⟨_, rfl, rfl, (by first | (with_reducible exact KM.at _ (by first | with_reducible rfl | (simp; done) | fail)) | (with_reducible exact KM.store (by repeat (first | with_reducible assumption | (with_reducible exact KM.at _ (by first | with_reducible rfl | (simp; done) | fail)) | with_reducible refine KM.drew ?_ | with_reducible refine KM.alloc ?_ _ | with_reducible refine KM.call ?_ (by with_reducible assumption) | with_reducible refine Km.drew ?_ | with_reducible refine Km.alloc ?_ _ | with_reducible refine Km.call ?_ (by with_reducible assumption) | with_reducible refine Kq.drew ?_ | with_reducible refine Kq.alloc ?_ _ | with_reducible refine Kq.call ?_ (by with_reducible assumption))) _ _ _ _ _ _) | fail), by repeat (first | with_reducible assumption | with_reducible refine KM.drew ?_ | with_reducible refine KM.alloc ?_ _ | with_reducible refine KM.call ?_ (by with_reducible assumption) | with_reducible refine Km.drew ?_ | with_reducible refine Km.alloc ?_ _ | with_reducible refine Km.call ?_ (by with_reducible assumption) | with_reducible refine Kq.drew ?_ | with_reducible refine Kq.alloc ?_ _ | with_reducible refine Kq.call ?_ (by with_reducible assumption) | ((with_reducible refine KM.put ?_ ?_); (first | omega | (dsimp only; omega))) | ((with_reducible refine Km.put ?_ ?_); (first | omega | (dsimp only; omega))) | ((with_reducible refine Kq.put ?_ ?_); (first | omega | (dsimp only; omega))) | ((with_reducible refine KM.far ?_ ?_); (first | omega | (dsimp only; omega))) | ((with_reducible refine Km.far ?_ ?_); (first | omega | (dsimp only; omega))) | ((with_reducible refine Kq.far ?_ ?_); (first | omega | (dsimp only; omega)))), by repeat (first | with_reducible assumption | with_reducible refine KM.drew ?_ | with_reducible refine KM.alloc ?_ _ | with_reducible refine KM.call ?_ (by with_reducible assumption) | with_reducible refine Km.drew ?_ | with_reducible refine Km.alloc ?_ _ | with_reducible refine Km.call ?_ (by with_reducible assumption) | with_reducible refine Kq.drew ?_ | with_reducible refine Kq.alloc ?_ _ | with_reducible refine Kq.call ?_ (by with_reducible assumption) | ((with_reducible refine KM.put ?_ ?_); (first | omega | (dsimp only; omega))) | ((with_reducible refine Km.put ?_ ?_); (first | omega | (dsimp only; omega))) | ((with_reducible refine Kq.put ?_ ?_); (first | omega | (dsimp only; omega))) | ((with_reducible refine KM.far ?_ ?_); (first | omega | (dsimp only; omega))) | ((with_reducible refine Km.far ?_ ?_); (first | omega | (dsimp only; omega))) | ((with_reducible refine Kq.far ?_ ?_); (first | omega | (dsimp only; omega)))), by repeat (first | with_reducible assumption | with_reducible refine KM.drew ?_ | with_reducible refine KM.alloc ?_ _ | with_reducible refine KM.call ?_ (by with_reducible assumption) | with_reducible refine Km.drew ?_ | with_reducible refine Km.alloc ?_ _ | with_reducible refine Km.call ?_ (by with_reducible assumption) | with_reducible refine Kq.drew ?_ | with_reducible refine Kq.alloc ?_ _ | with_reducible refine Kq.call ?_ (by with_reducible assumption) | ((with_reducible refine KM.put ?_ ?_); (first | omega | (dsimp only; omega))) | ((with_reducible refine Km.put ?_ ?_); (first | omega | (dsimp only; omega))) | ((with_reducible refine Kq.put ?_ ?_); (first | omega | (dsimp only; omega))) | ((with_reducible refine KM.far ?_ ?_); (first | omega | (dsimp only; omega))) | ((with_reducible refine Km.far ?_ ?_); (first | omega | (dsimp only; omega))) | ((with_reducible refine Kq.far ?_ ?_); (first | omega | (dsimp only; omega)))), by first | omega | (simp <;> omega), by repeat (first | with_reducible assumption | with_reducible exact Below.refl _ _ | with_reducible refine Below.setCell ?_ (by first | omega | (simp <;> omega)) _ | with_reducible refine Below.alloc ?_ (by first | omega | (simp <;> omega)) _ | with_reducible refine bstep ?_ (by with_reducible assumption) | with_reducible refine Below.drew ?_)⟩
  case rest =>
    obtain ⟨g0, rfl, rfl, P4, M4, N4, U4, leg0, B4⟩ := hcut
    obtain ⟨w4, hw4⟩ : ∃ z, z = wc := ⟨_, rfl⟩
    subst hw4
    have P4c0 := P4.c0
    have P4c1 := P4.c1
    have P4c2 := P4.c2
    have P4c3 := P4.c3
    have P4c4 := P4.c4
    have P4c5 := P4.c5
    have P4f0 := P4.f0
    have P4f1 := P4.f1
    have P4f2 := P4.f2
    have P4f3 := P4.f3
    have P4f4 := P4.f4
    have P4f5 := P4.f5
    have P4l := P4.lt
    have P4n : ¬ g0 = w4.heap.size := by omega
    have M4c0 := M4.c0
    have M4c1 := M4.c1
    have M4c2 := M4.c2
    have M4c3 := M4.c3
    have M4c4 := M4.c4
    have M4c5 := M4.c5
    have M4l := M4.1
    have M4n : ¬ w.heap.size = w4.heap.size := by omega
    have N4c0 := N4.c0
    have N4c1 := N4.c1
    have N4c2 := N4.c2
    have N4c3 := N4.c3
    have N4c4 := N4.c4
    have N4c5 := N4.c5
    have N4l := N4.1
    have N4n : ¬ w.heap.size + 1 = w4.heap.size := by omega
    have U4c0 := U4.c0
    have U4c1 := U4.c1
    have U4c2 := U4.c2
    have U4c3 := U4.c3
    have U4l := U4.1
    have U4n : ¬ 0 = w4.heap.size := by omega
    clear P4c0 P4c1 P4c2 P4c3 P4c4 P4c5 P4f0 P4f1 P4f2 P4f3 P4f4 P4f5 P4l P4n
    clear M4c0 M4c1 M4c2 M4c3 M4c4 M4c5 M4l M4n
    clear N4c0 N4c1 N4c2 N4c3 N4c4 N4c5 N4l N4n
    clear U4c0 U4c1 U4c2 U4c3 U4l U4n
    have P4lt := P4.lt
    have M4lt := M4.1
    have N4lt := N4.1
    have U4lt := U4.1
    go_upto_region 1 with fail
    go_cut [7, 8] (fun s7 s8 wx => CmpQ w g0 a b c d x y a' b' c' d' x' y' s7 s8 wx)
    case first =>
      go_region_held3 (fun W => (W.cell? ⟨w.heap.size, 0, none⟩ = some (.int .i64 a) ∧ W.cell? ⟨w.heap.size, 1, none⟩ = some (.int .i64 b) ∧ W.cell? ⟨w.heap.size, 2, none⟩ = some (.int .i64 c) ∧ W.cell? ⟨w.heap.size, 3, none⟩ = some (.int .i64 d) ∧ W.cell? ⟨w.heap.size, 4, none⟩ = some (.int .i64 x) ∧ W.cell? ⟨w.heap.size, 5, none⟩ = some (.int .i64 y)) ∧ (W.cell? ⟨w.heap.size + 1, 0, none⟩ = some (.int .i64 a') ∧ W.cell? ⟨w.heap.size + 1, 1, none⟩ = some (.int .i64 b') ∧ W.cell? ⟨w.heap.size + 1, 2, none⟩ = some (.int .i64 c') ∧ W.cell? ⟨w.heap.size + 1, 3, none⟩ = some (.int .i64 d') ∧ W.cell? ⟨w.heap.size + 1, 4, none⟩ = some (.int .i64 x') ∧ W.cell? ⟨w.heap.size + 1, 5, none⟩ = some (.int .i64 y'))) ((refine ⟨Km.cells ?_, Km.cells ?_⟩ <;> repeat (first | with_reducible assumption | with_reducible refine KM.drew ?_ | with_reducible refine KM.alloc ?_ _ | with_reducible refine KM.call ?_ (by with_reducible assumption) | with_reducible refine Km.drew ?_ | with_reducible refine Km.alloc ?_ _ | with_reducible refine Km.call ?_ (by with_reducible assumption) | with_reducible refine Kq.drew ?_ | with_reducible refine Kq.alloc ?_ _ | with_reducible refine Kq.call ?_ (by with_reducible assumption) | ((with_reducible refine KM.put ?_ ?_); (first | omega | (dsimp only; omega))) | ((with_reducible refine Km.put ?_ ?_); (first | omega | (dsimp only; omega))) | ((with_reducible refine Kq.put ?_ ?_); (first | omega | (dsimp only; omega))) | ((with_reducible refine KM.far ?_ ?_); (first | omega | (dsimp only; omega))) | ((with_reducible refine Km.far ?_ ?_); (first | omega | (dsimp only; omega))) | ((with_reducible refine Kq.far ?_ ?_); (first | omega | (dsimp only; omega))))))
        (first
          | (go_at_call_of 6 (Value.agg #[Value.int IntKind.i64 a, Value.int IntKind.i64 b, Value.int IntKind.i64 c, Value.int IntKind.i64 d, Value.int IntKind.i64 x, Value.int IntKind.i64 y]); ((with_reducible refine (toMo_any _ _ _ _ _ _ _).mono ?_); rintro e w5 ⟨rfl, hb5⟩; have P5 : KM (g0) ((cmpR a b c d x y a' b' c' d' x' y').1) ((cmpR a b c d x y a' b' c' d' x' y').2.1) ((cmpR a b c d x y a' b' c' d' x' y').2.2.1) ((cmpR a b c d x y a' b' c' d' x' y').2.2.2.1) ((cmpR a b c d x y a' b' c' d' x' y').2.2.2.2.1) ((cmpR a b c d x y a' b' c' d' x' y').2.2.2.2.2.1) w5 := (by repeat (first | with_reducible assumption | with_reducible refine KM.drew ?_ | with_reducible refine KM.alloc ?_ _ | with_reducible refine KM.call ?_ (by with_reducible assumption) | with_reducible refine Km.drew ?_ | with_reducible refine Km.alloc ?_ _ | with_reducible refine Km.call ?_ (by with_reducible assumption) | with_reducible refine Kq.drew ?_ | with_reducible refine Kq.alloc ?_ _ | with_reducible refine Kq.call ?_ (by with_reducible assumption))); have P5l := P5.lt; have M5 : Km (w.heap.size) a b c d x y w5 := (by repeat (first | with_reducible assumption | with_reducible refine KM.drew ?_ | with_reducible refine KM.alloc ?_ _ | with_reducible refine KM.call ?_ (by with_reducible assumption) | with_reducible refine Km.drew ?_ | with_reducible refine Km.alloc ?_ _ | with_reducible refine Km.call ?_ (by with_reducible assumption) | with_reducible refine Kq.drew ?_ | with_reducible refine Kq.alloc ?_ _ | with_reducible refine Kq.call ?_ (by with_reducible assumption))); have M5l := M5.1; have N5 : Km (w.heap.size + 1) a' b' c' d' x' y' w5 := (by repeat (first | with_reducible assumption | with_reducible refine KM.drew ?_ | with_reducible refine KM.alloc ?_ _ | with_reducible refine KM.call ?_ (by with_reducible assumption) | with_reducible refine Km.drew ?_ | with_reducible refine Km.alloc ?_ _ | with_reducible refine Km.call ?_ (by with_reducible assumption) | with_reducible refine Kq.drew ?_ | with_reducible refine Kq.alloc ?_ _ | with_reducible refine Kq.call ?_ (by with_reducible assumption))); have N5l := N5.1; have U5 : Kq (0) 1 0 0 1 w5 := (by repeat (first | with_reducible assumption | with_reducible refine KM.drew ?_ | with_reducible refine KM.alloc ?_ _ | with_reducible refine KM.call ?_ (by with_reducible assumption) | with_reducible refine Km.drew ?_ | with_reducible refine Km.alloc ?_ _ | with_reducible refine Km.call ?_ (by with_reducible assumption) | with_reducible refine Kq.drew ?_ | with_reducible refine Kq.alloc ?_ _ | with_reducible refine Kq.call ?_ (by with_reducible assumption))); have U5l := U5.1; (try ((refine useIt (P := KM (w4.heap.size) 0 0 0 0 0 0 w5) ?_ ?_); (repeat (first | with_reducible assumption | (with_reducible exact KM.at _ (by first | with_reducible rfl | (simp; done) | fail)) | with_reducible refine KM.drew ?_ | with_reducible refine KM.alloc ?_ _ | with_reducible refine KM.call ?_ (by with_reducible assumption) | with_reducible refine Km.drew ?_ | with_reducible refine Km.alloc ?_ _ | with_reducible refine Km.call ?_ (by with_reducible assumption) | with_reducible refine Kq.drew ?_ | with_reducible refine Kq.alloc ?_ _ | with_reducible refine Kq.call ?_ (by with_reducible assumption))); intro Q5_e; have Q5_ec0 := Q5_e.c0; have Q5_ef0 := Q5_e.f0; have Q5_ec1 := Q5_e.c1; have Q5_ef1 := Q5_e.f1; have Q5_ec2 := Q5_e.c2; have Q5_ef2 := Q5_e.f2; have Q5_ec3 := Q5_e.c3; have Q5_ef3 := Q5_e.f3; have Q5_ec4 := Q5_e.c4; have Q5_ef4 := Q5_e.f4; have Q5_ec5 := Q5_e.c5; have Q5_ef5 := Q5_e.f5; have Q5_el := Q5_e.lt)); (try ((refine useIt (P := KM (w6.heap.size) 0 0 0 0 0 0 w5) ?_ ?_); (repeat (first | with_reducible assumption | (with_reducible exact KM.at _ (by first | with_reducible rfl | (simp; done) | fail)) | with_reducible refine KM.drew ?_ | with_reducible refine KM.alloc ?_ _ | with_reducible refine KM.call ?_ (by with_reducible assumption) | with_reducible refine Km.drew ?_ | with_reducible refine Km.alloc ?_ _ | with_reducible refine Km.call ?_ (by with_reducible assumption) | with_reducible refine Kq.drew ?_ | with_reducible refine Kq.alloc ?_ _ | with_reducible refine Kq.call ?_ (by with_reducible assumption))); intro Q5_w6; have Q5_w6c0 := Q5_w6.c0; have Q5_w6f0 := Q5_w6.f0; have Q5_w6c1 := Q5_w6.c1; have Q5_w6f1 := Q5_w6.f1; have Q5_w6c2 := Q5_w6.c2; have Q5_w6f2 := Q5_w6.f2; have Q5_w6c3 := Q5_w6.c3; have Q5_w6f3 := Q5_w6.f3; have Q5_w6c4 := Q5_w6.c4; have Q5_w6f4 := Q5_w6.f4; have Q5_w6c5 := Q5_w6.c5; have Q5_w6f5 := Q5_w6.f5; have Q5_w6l := Q5_w6.lt)); (try ((refine useIt (P := KM (w7.heap.size) 0 0 0 0 0 0 w5) ?_ ?_); (repeat (first | with_reducible assumption | (with_reducible exact KM.at _ (by first | with_reducible rfl | (simp; done) | fail)) | with_reducible refine KM.drew ?_ | with_reducible refine KM.alloc ?_ _ | with_reducible refine KM.call ?_ (by with_reducible assumption) | with_reducible refine Km.drew ?_ | with_reducible refine Km.alloc ?_ _ | with_reducible refine Km.call ?_ (by with_reducible assumption) | with_reducible refine Kq.drew ?_ | with_reducible refine Kq.alloc ?_ _ | with_reducible refine Kq.call ?_ (by with_reducible assumption))); intro Q5_w7; have Q5_w7c0 := Q5_w7.c0; have Q5_w7f0 := Q5_w7.f0; have Q5_w7c1 := Q5_w7.c1; have Q5_w7f1 := Q5_w7.f1; have Q5_w7c2 := Q5_w7.c2; have Q5_w7f2 := Q5_w7.f2; have Q5_w7c3 := Q5_w7.c3; have Q5_w7f3 := Q5_w7.f3; have Q5_w7c4 := Q5_w7.c4; have Q5_w7f4 := Q5_w7.f4; have Q5_w7c5 := Q5_w7.c5; have Q5_w7f5 := Q5_w7.f5; have Q5_w7l := Q5_w7.lt)); have B5 : Below w.heap.size w w5 := (by repeat (first | with_reducible assumption | with_reducible refine Below.drew ?_ | with_reducible refine Below.alloc ?_ (by first | omega | (simp <;> omega)) _ | with_reducible refine bstep ?_ (by with_reducible assumption)))))
          | (go_at_call_of 6 (Value.agg #[Value.int IntKind.i64 a', Value.int IntKind.i64 b', Value.int IntKind.i64 c', Value.int IntKind.i64 d', Value.int IntKind.i64 x', Value.int IntKind.i64 y']); ((with_reducible refine (toMo_any _ _ _ _ _ _ _).mono ?_); rintro e w6 ⟨rfl, hb6⟩; have P6 : KM (g0) ((cmpR a b c d x y a' b' c' d' x' y').1) ((cmpR a b c d x y a' b' c' d' x' y').2.1) ((cmpR a b c d x y a' b' c' d' x' y').2.2.1) ((cmpR a b c d x y a' b' c' d' x' y').2.2.2.1) ((cmpR a b c d x y a' b' c' d' x' y').2.2.2.2.1) ((cmpR a b c d x y a' b' c' d' x' y').2.2.2.2.2.1) w6 := (by repeat (first | with_reducible assumption | with_reducible refine KM.drew ?_ | with_reducible refine KM.alloc ?_ _ | with_reducible refine KM.call ?_ (by with_reducible assumption) | with_reducible refine Km.drew ?_ | with_reducible refine Km.alloc ?_ _ | with_reducible refine Km.call ?_ (by with_reducible assumption) | with_reducible refine Kq.drew ?_ | with_reducible refine Kq.alloc ?_ _ | with_reducible refine Kq.call ?_ (by with_reducible assumption))); have P6l := P6.lt; have M6 : Km (w.heap.size) a b c d x y w6 := (by repeat (first | with_reducible assumption | with_reducible refine KM.drew ?_ | with_reducible refine KM.alloc ?_ _ | with_reducible refine KM.call ?_ (by with_reducible assumption) | with_reducible refine Km.drew ?_ | with_reducible refine Km.alloc ?_ _ | with_reducible refine Km.call ?_ (by with_reducible assumption) | with_reducible refine Kq.drew ?_ | with_reducible refine Kq.alloc ?_ _ | with_reducible refine Kq.call ?_ (by with_reducible assumption))); have M6l := M6.1; have N6 : Km (w.heap.size + 1) a' b' c' d' x' y' w6 := (by repeat (first | with_reducible assumption | with_reducible refine KM.drew ?_ | with_reducible refine KM.alloc ?_ _ | with_reducible refine KM.call ?_ (by with_reducible assumption) | with_reducible refine Km.drew ?_ | with_reducible refine Km.alloc ?_ _ | with_reducible refine Km.call ?_ (by with_reducible assumption) | with_reducible refine Kq.drew ?_ | with_reducible refine Kq.alloc ?_ _ | with_reducible refine Kq.call ?_ (by with_reducible assumption))); have N6l := N6.1; have U6 : Kq (0) 1 0 0 1 w6 := (by repeat (first | with_reducible assumption | with_reducible refine KM.drew ?_ | with_reducible refine KM.alloc ?_ _ | with_reducible refine KM.call ?_ (by with_reducible assumption) | with_reducible refine Km.drew ?_ | with_reducible refine Km.alloc ?_ _ | with_reducible refine Km.call ?_ (by with_reducible assumption) | with_reducible refine Kq.drew ?_ | with_reducible refine Kq.alloc ?_ _ | with_reducible refine Kq.call ?_ (by with_reducible assumption))); have U6l := U6.1; (try ((refine useIt (P := KM (w4.heap.size) 0 0 0 0 0 0 w6) ?_ ?_); (repeat (first | with_reducible assumption | (with_reducible exact KM.at _ (by first | with_reducible rfl | (simp; done) | fail)) | with_reducible refine KM.drew ?_ | with_reducible refine KM.alloc ?_ _ | with_reducible refine KM.call ?_ (by with_reducible assumption) | with_reducible refine Km.drew ?_ | with_reducible refine Km.alloc ?_ _ | with_reducible refine Km.call ?_ (by with_reducible assumption) | with_reducible refine Kq.drew ?_ | with_reducible refine Kq.alloc ?_ _ | with_reducible refine Kq.call ?_ (by with_reducible assumption))); intro Q6_e; have Q6_ec0 := Q6_e.c0; have Q6_ef0 := Q6_e.f0; have Q6_ec1 := Q6_e.c1; have Q6_ef1 := Q6_e.f1; have Q6_ec2 := Q6_e.c2; have Q6_ef2 := Q6_e.f2; have Q6_ec3 := Q6_e.c3; have Q6_ef3 := Q6_e.f3; have Q6_ec4 := Q6_e.c4; have Q6_ef4 := Q6_e.f4; have Q6_ec5 := Q6_e.c5; have Q6_ef5 := Q6_e.f5; have Q6_el := Q6_e.lt)); (try ((refine useIt (P := KM (w5.heap.size) 0 0 0 0 0 0 w6) ?_ ?_); (repeat (first | with_reducible assumption | (with_reducible exact KM.at _ (by first | with_reducible rfl | (simp; done) | fail)) | with_reducible refine KM.drew ?_ | with_reducible refine KM.alloc ?_ _ | with_reducible refine KM.call ?_ (by with_reducible assumption) | with_reducible refine Km.drew ?_ | with_reducible refine Km.alloc ?_ _ | with_reducible refine Km.call ?_ (by with_reducible assumption) | with_reducible refine Kq.drew ?_ | with_reducible refine Kq.alloc ?_ _ | with_reducible refine Kq.call ?_ (by with_reducible assumption))); intro Q6_w5; have Q6_w5c0 := Q6_w5.c0; have Q6_w5f0 := Q6_w5.f0; have Q6_w5c1 := Q6_w5.c1; have Q6_w5f1 := Q6_w5.f1; have Q6_w5c2 := Q6_w5.c2; have Q6_w5f2 := Q6_w5.f2; have Q6_w5c3 := Q6_w5.c3; have Q6_w5f3 := Q6_w5.f3; have Q6_w5c4 := Q6_w5.c4; have Q6_w5f4 := Q6_w5.f4; have Q6_w5c5 := Q6_w5.c5; have Q6_w5f5 := Q6_w5.f5; have Q6_w5l := Q6_w5.lt)); (try ((refine useIt (P := KM (w7.heap.size) 0 0 0 0 0 0 w6) ?_ ?_); (repeat (first | with_reducible assumption | (with_reducible exact KM.at _ (by first | with_reducible rfl | (simp; done) | fail)) | with_reducible refine KM.drew ?_ | with_reducible refine KM.alloc ?_ _ | with_reducible refine KM.call ?_ (by with_reducible assumption) | with_reducible refine Km.drew ?_ | with_reducible refine Km.alloc ?_ _ | with_reducible refine Km.call ?_ (by with_reducible assumption) | with_reducible refine Kq.drew ?_ | with_reducible refine Kq.alloc ?_ _ | with_reducible refine Kq.call ?_ (by with_reducible assumption))); intro Q6_w7; have Q6_w7c0 := Q6_w7.c0; have Q6_w7f0 := Q6_w7.f0; have Q6_w7c1 := Q6_w7.c1; have Q6_w7f1 := Q6_w7.f1; have Q6_w7c2 := Q6_w7.c2; have Q6_w7f2 := Q6_w7.f2; have Q6_w7c3 := Q6_w7.c3; have Q6_w7f3 := Q6_w7.f3; have Q6_w7c4 := Q6_w7.c4; have Q6_w7f4 := Q6_w7.f4; have Q6_w7c5 := Q6_w7.c5; have Q6_w7f5 := Q6_w7.f5; have Q6_w7l := Q6_w7.lt)); have B6 : Below w.heap.size w w6 := (by repeat (first | with_reducible assumption | with_reducible refine Below.drew ?_ | with_reducible refine Below.alloc ?_ (by first | omega | (simp <;> omega)) _ | with_reducible refine bstep ?_ (by with_reducible assumption)))))
          | (go_at_call 7; ((with_reducible refine (implCmp_any _ _ _ _ _ _ _ _ _ _ _ _ _ (unitOK_of (by repeat (first | with_reducible assumption | with_reducible refine Kq.drew ?_ | with_reducible refine Kq.alloc ?_ _ | with_reducible refine Kq.call ?_ (by with_reducible assumption))))).mono ?_); rintro e w7 ⟨he, hb7⟩; unfold motT at he; subst he; have P7 : KM (g0) ((cmpR a b c d x y a' b' c' d' x' y').1) ((cmpR a b c d x y a' b' c' d' x' y').2.1) ((cmpR a b c d x y a' b' c' d' x' y').2.2.1) ((cmpR a b c d x y a' b' c' d' x' y').2.2.2.1) ((cmpR a b c d x y a' b' c' d' x' y').2.2.2.2.1) ((cmpR a b c d x y a' b' c' d' x' y').2.2.2.2.2.1) w7 := (by repeat (first | with_reducible assumption | with_reducible refine KM.drew ?_ | with_reducible refine KM.alloc ?_ _ | with_reducible refine KM.call ?_ (by with_reducible assumption) | with_reducible refine Km.drew ?_ | with_reducible refine Km.alloc ?_ _ | with_reducible refine Km.call ?_ (by with_reducible assumption) | with_reducible refine Kq.drew ?_ | with_reducible refine Kq.alloc ?_ _ | with_reducible refine Kq.call ?_ (by with_reducible assumption))); have P7l := P7.lt; have M7 : Km (w.heap.size) a b c d x y w7 := (by repeat (first | with_reducible assumption | with_reducible refine KM.drew ?_ | with_reducible refine KM.alloc ?_ _ | with_reducible refine KM.call ?_ (by with_reducible assumption) | with_reducible refine Km.drew ?_ | with_reducible refine Km.alloc ?_ _ | with_reducible refine Km.call ?_ (by with_reducible assumption) | with_reducible refine Kq.drew ?_ | with_reducible refine Kq.alloc ?_ _ | with_reducible refine Kq.call ?_ (by with_reducible assumption))); have M7l := M7.1; have N7 : Km (w.heap.size + 1) a' b' c' d' x' y' w7 := (by repeat (first | with_reducible assumption | with_reducible refine KM.drew ?_ | with_reducible refine KM.alloc ?_ _ | with_reducible refine KM.call ?_ (by with_reducible assumption) | with_reducible refine Km.drew ?_ | with_reducible refine Km.alloc ?_ _ | with_reducible refine Km.call ?_ (by with_reducible assumption) | with_reducible refine Kq.drew ?_ | with_reducible refine Kq.alloc ?_ _ | with_reducible refine Kq.call ?_ (by with_reducible assumption))); have N7l := N7.1; have U7 : Kq (0) 1 0 0 1 w7 := (by repeat (first | with_reducible assumption | with_reducible refine KM.drew ?_ | with_reducible refine KM.alloc ?_ _ | with_reducible refine KM.call ?_ (by with_reducible assumption) | with_reducible refine Km.drew ?_ | with_reducible refine Km.alloc ?_ _ | with_reducible refine Km.call ?_ (by with_reducible assumption) | with_reducible refine Kq.drew ?_ | with_reducible refine Kq.alloc ?_ _ | with_reducible refine Kq.call ?_ (by with_reducible assumption))); have U7l := U7.1; (try ((refine useIt (P := KM (w4.heap.size) 0 0 0 0 0 0 w7) ?_ ?_); (repeat (first | with_reducible assumption | (with_reducible exact KM.at _ (by first | with_reducible rfl | (simp; done) | fail)) | with_reducible refine KM.drew ?_ | with_reducible refine KM.alloc ?_ _ | with_reducible refine KM.call ?_ (by with_reducible assumption) | with_reducible refine Km.drew ?_ | with_reducible refine Km.alloc ?_ _ | with_reducible refine Km.call ?_ (by with_reducible assumption) | with_reducible refine Kq.drew ?_ | with_reducible refine Kq.alloc ?_ _ | with_reducible refine Kq.call ?_ (by with_reducible assumption))); intro Q7_e; have Q7_ec0 := Q7_e.c0; have Q7_ef0 := Q7_e.f0; have Q7_ec1 := Q7_e.c1; have Q7_ef1 := Q7_e.f1; have Q7_ec2 := Q7_e.c2; have Q7_ef2 := Q7_e.f2; have Q7_ec3 := Q7_e.c3; have Q7_ef3 := Q7_e.f3; have Q7_ec4 := Q7_e.c4; have Q7_ef4 := Q7_e.f4; have Q7_ec5 := Q7_e.c5; have Q7_ef5 := Q7_e.f5; have Q7_el := Q7_e.lt)); (try ((refine useIt (P := KM (w5.heap.size) 0 0 0 0 0 0 w7) ?_ ?_); (repeat (first | with_reducible assumption | (with_reducible exact KM.at _ (by first | with_reducible rfl | (simp; done) | fail)) | with_reducible refine KM.drew ?_ | with_reducible refine KM.alloc ?_ _ | with_reducible refine KM.call ?_ (by with_reducible assumption) | with_reducible refine Km.drew ?_ | with_reducible refine Km.alloc ?_ _ | with_reducible refine Km.call ?_ (by with_reducible assumption) | with_reducible refine Kq.drew ?_ | with_reducible refine Kq.alloc ?_ _ | with_reducible refine Kq.call ?_ (by with_reducible assumption))); intro Q7_w5; have Q7_w5c0 := Q7_w5.c0; have Q7_w5f0 := Q7_w5.f0; have Q7_w5c1 := Q7_w5.c1; have Q7_w5f1 := Q7_w5.f1; have Q7_w5c2 := Q7_w5.c2; have Q7_w5f2 := Q7_w5.f2; have Q7_w5c3 := Q7_w5.c3; have Q7_w5f3 := Q7_w5.f3; have Q7_w5c4 := Q7_w5.c4; have Q7_w5f4 := Q7_w5.f4; have Q7_w5c5 := Q7_w5.c5; have Q7_w5f5 := Q7_w5.f5; have Q7_w5l := Q7_w5.lt)); (try ((refine useIt (P := KM (w6.heap.size) 0 0 0 0 0 0 w7) ?_ ?_); (repeat (first | with_reducible assumption | (with_reducible exact KM.at _ (by first | with_reducible rfl | (simp; done) | fail)) | with_reducible refine KM.drew ?_ | with_reducible refine KM.alloc ?_ _ | with_reducible refine KM.call ?_ (by with_reducible assumption) | with_reducible refine Km.drew ?_ | with_reducible refine Km.alloc ?_ _ | with_reducible refine Km.call ?_ (by with_reducible assumption) | with_reducible refine Kq.drew ?_ | with_reducible refine Kq.alloc ?_ _ | with_reducible refine Kq.call ?_ (by with_reducible assumption))); intro Q7_w6; have Q7_w6c0 := Q7_w6.c0; have Q7_w6f0 := Q7_w6.f0; have Q7_w6c1 := Q7_w6.c1; have Q7_w6f1 := Q7_w6.f1; have Q7_w6c2 := Q7_w6.c2; have Q7_w6f2 := Q7_w6.f2; have Q7_w6c3 := Q7_w6.c3; have Q7_w6f3 := Q7_w6.f3; have Q7_w6c4 := Q7_w6.c4; have Q7_w6f4 := Q7_w6.f4; have Q7_w6c5 := Q7_w6.c5; have Q7_w6f5 := Q7_w6.f5; have Q7_w6l := Q7_w6.lt)); have B7 : Below w.heap.size w w7 := (by repeat (first | with_reducible assumption | with_reducible refine Below.drew ?_ | with_reducible refine Below.alloc ?_ (by first | omega | (simp <;> omega)) _ | with_reducible refine bstep ?_ (by with_reducible assumption))))))
      all_goals
        go_wp2_with fail
        go_meet
        exact ⟨_, rfl, rfl, (by first | (with_reducible exact KM.at _ (by first | with_reducible rfl | (simp; done) | fail)) | (with_reducible exact KM.store (by repeat (first | with_reducible assumption | (with_reducible exact KM.at _ (by first | with_reducible rfl | (simp; done) | fail)) | with_reducible refine KM.drew ?_ | with_reducible refine KM.alloc ?_ _ | with_reducible refine KM.call ?_ (by with_reducible assumption) | with_reducible refine Km.drew ?_ | with_reducible refine Km.alloc ?_ _ | with_reducible refine Km.call ?_ (by with_reducible assumption) | with_reducible refine Kq.drew ?_ | with_reducible refine Kq.alloc ?_ _ | with_reducible refine Kq.call ?_ (by with_reducible assumption))) _ _ _ _ _ _) | fail), by repeat (first | with_reducible assumption | with_reducible refine KM.drew ?_ | with_reducible refine KM.alloc ?_ _ | with_reducible refine KM.call ?_ (by with_reducible assumption) | with_reducible refine Km.drew ?_ | with_reducible refine Km.alloc ?_ _ | with_reducible refine Km.call ?_ (by with_reducible assumption) | with_reducible refine Kq.drew ?_ | with_reducible refine Kq.alloc ?_ _ | with_reducible refine Kq.call ?_ (by with_reducible assumption) | ((with_reducible refine KM.put ?_ ?_); (first | omega | (dsimp only; omega))) | ((with_reducible refine Km.put ?_ ?_); (first | omega | (dsimp only; omega))) | ((with_reducible refine Kq.put ?_ ?_); (first | omega | (dsimp only; omega))) | ((with_reducible refine KM.far ?_ ?_); (first | omega | (dsimp only; omega))) | ((with_reducible refine Km.far ?_ ?_); (first | omega | (dsimp only; omega))) | ((with_reducible refine Kq.far ?_ ?_); (first | omega | (dsimp only; omega)))), by repeat (first | with_reducible assumption | with_reducible refine KM.drew ?_ | with_reducible refine KM.alloc ?_ _ | with_reducible refine KM.call ?_ (by with_reducible assumption) | with_reducible refine Km.drew ?_ | with_reducible refine Km.alloc ?_ _ | with_reducible refine Km.call ?_ (by with_reducible assumption) | with_reducible refine Kq.drew ?_ | with_reducible refine Kq.alloc ?_ _ | with_reducible refine Kq.call ?_ (by with_reducible assumption) | ((with_reducible refine KM.put ?_ ?_); (first | omega | (dsimp only; omega))) | ((with_reducible refine Km.put ?_ ?_); (first | omega | (dsimp only; omega))) | ((with_reducible refine Kq.put ?_ ?_); (first | omega | (dsimp only; omega))) | ((with_reducible refine KM.far ?_ ?_); (first | omega | (dsimp only; omega))) | ((with_reducible refine Km.far ?_ ?_); (first | omega | (dsimp only; omega))) | ((with_reducible refine Kq.far ?_ ?_); (first | omega | (dsimp only; omega)))), by repeat (first | with_reducible assumption | with_reducible refine KM.drew ?_ | with_reducible refine KM.alloc ?_ _ | with_reducible refine KM.call ?_ (by with_reducible assumption) | with_reducible refine Km.drew ?_ | with_reducible refine Km.alloc ?_ _ | with_reducible refine Km.call ?_ (by with_reducible assumption) | with_reducible refine Kq.drew ?_ | with_reducible refine Kq.alloc ?_ _ | with_reducible refine Kq.call ?_ (by with_reducible assumption) | ((with_reducible refine KM.put ?_ ?_); (first | omega | (dsimp only; omega))) | ((with_reducible refine Km.put ?_ ?_); (first | omega | (dsimp only; omega))) | ((with_reducible refine Kq.put ?_ ?_); (first | omega | (dsimp only; omega))) | ((with_reducible refine KM.far ?_ ?_); (first | omega | (dsimp only; omega))) | ((with_reducible refine Km.far ?_ ?_); (first | omega | (dsimp only; omega))) | ((with_reducible refine Kq.far ?_ ?_); (first | omega | (dsimp only; omega)))), by repeat (first | with_reducible assumption | with_reducible refine KM.drew ?_ | with_reducible refine KM.alloc ?_ _ | with_reducible refine KM.call ?_ (by with_reducible assumption) | with_reducible refine Km.drew ?_ | with_reducible refine Km.alloc ?_ _ | with_reducible refine Km.call ?_ (by with_reducible assumption) | with_reducible refine Kq.drew ?_ | with_reducible refine Kq.alloc ?_ _ | with_reducible refine Kq.call ?_ (by with_reducible assumption) | ((with_reducible refine KM.put ?_ ?_); (first | omega | (dsimp only; omega))) | ((with_reducible refine Km.put ?_ ?_); (first | omega | (dsimp only; omega))) | ((with_reducible refine Kq.put ?_ ?_); (first | omega | (dsimp only; omega))) | ((with_reducible refine KM.far ?_ ?_); (first | omega | (dsimp only; omega))) | ((with_reducible refine Km.far ?_ ?_); (first | omega | (dsimp only; omega))) | ((with_reducible refine Kq.far ?_ ?_); (first | omega | (dsimp only; omega)))), by first | omega | (simp <;> omega), by repeat (first | with_reducible assumption | with_reducible exact Below.refl _ _ | with_reducible refine Below.setCell ?_ (by first | omega | (simp <;> omega)) _ | with_reducible refine Below.alloc ?_ (by first | omega | (simp <;> omega)) _ | with_reducible refine bstep ?_ (by with_reducible assumption) | with_reducible refine Below.drew ?_)⟩
    case rest =>
      obtain ⟨g1, rfl, rfl, Q8, P8, M8, N8, U8, leg1, B8⟩ := hcut
      obtain ⟨w8, hw8⟩ : ∃ z, z = wc := ⟨_, rfl⟩
      subst hw8
      have Q8c0 := Q8.c0
      have Q8c1 := Q8.c1
      have Q8c2 := Q8.c2
      have Q8c3 := Q8.c3
      have Q8c4 := Q8.c4
      have Q8c5 := Q8.c5
      have Q8f0 := Q8.f0
      have Q8f1 := Q8.f1
      have Q8f2 := Q8.f2
      have Q8f3 := Q8.f3
      have Q8f4 := Q8.f4
      have Q8f5 := Q8.f5
      have Q8l := Q8.lt
      have Q8n : ¬ g1 = w8.heap.size := by omega
      have P8c0 := P8.c0
      have P8c1 := P8.c1
      have P8c2 := P8.c2
      have P8c3 := P8.c3
      have P8c4 := P8.c4
      have P8c5 := P8.c5
      have P8f0 := P8.f0
      have P8f1 := P8.f1
      have P8f2 := P8.f2
      have P8f3 := P8.f3
      have P8f4 := P8.f4
      have P8f5 := P8.f5
      have P8l := P8.lt
      have P8n : ¬ g0 = w8.heap.size := by omega
      have M8c0 := M8.c0
      have M8c1 := M8.c1
      have M8c2 := M8.c2
      have M8c3 := M8.c3
      have M8c4 := M8.c4
      have M8c5 := M8.c5
      have M8l := M8.1
      have M8n : ¬ w.heap.size = w8.heap.size := by omega
      have N8c0 := N8.c0
      have N8c1 := N8.c1
      have N8c2 := N8.c2
      have N8c3 := N8.c3
      have N8c4 := N8.c4
      have N8c5 := N8.c5
      have N8l := N8.1
      have N8n : ¬ w.heap.size + 1 = w8.heap.size := by omega
      have U8c0 := U8.c0
      have U8c1 := U8.c1
      have U8c2 := U8.c2
      have U8c3 := U8.c3
      have U8l := U8.1
      have U8n : ¬ 0 = w8.heap.size := by omega
      go_wp2_with fail
      refine (eqMotion_any _ _ _ _ _ _ _).mono ?_
      rintro e w9 ⟨rfl, hb9⟩
      have Q9 : KM (g1) ((cmpR a b c d x y a' b' c' d' x' y').1) ((cmpR a b c d x y a' b' c' d' x' y').2.1) ((cmpR a b c d x y a' b' c' d' x' y').2.2.1) ((cmpR a b c d x y a' b' c' d' x' y').2.2.2.1) ((cmpR a b c d x y a' b' c' d' x' y').2.2.2.2.1) ((cmpR a b c d x y a' b' c' d' x' y').2.2.2.2.2.1) w9 := KM.call Q8 hb9
      have P9 : KM (g0) ((cmpR a b c d x y a' b' c' d' x' y').1) ((cmpR a b c d x y a' b' c' d' x' y').2.1) ((cmpR a b c d x y a' b' c' d' x' y').2.2.1) ((cmpR a b c d x y a' b' c' d' x' y').2.2.2.1) ((cmpR a b c d x y a' b' c' d' x' y').2.2.2.2.1) ((cmpR a b c d x y a' b' c' d' x' y').2.2.2.2.2.1) w9 := KM.call P8 hb9
      have M9 : Km (w.heap.size) a b c d x y w9 := Km.call M8 hb9
      have N9 : Km (w.heap.size + 1) a' b' c' d' x' y' w9 := Km.call N8 hb9
      have U9 : Kq (0) 1 0 0 1 w9 := Kq.call U8 hb9
      have B9 : Below w.heap.size w w9 := bstep B8 hb9
      clear hb9 B8 Q8 P8 M8 N8 U8
      have Q9c0 := Q9.c0
      have Q9c1 := Q9.c1
      have Q9c2 := Q9.c2
      have Q9c3 := Q9.c3
      have Q9c4 := Q9.c4
      have Q9c5 := Q9.c5
      have Q9f0 := Q9.f0
      have Q9f1 := Q9.f1
      have Q9f2 := Q9.f2
      have Q9f3 := Q9.f3
      have Q9f4 := Q9.f4
      have Q9f5 := Q9.f5
      have Q9l := Q9.lt
      have Q9n : ¬ g1 = w9.heap.size := by omega
      have P9c0 := P9.c0
      have P9c1 := P9.c1
      have P9c2 := P9.c2
      have P9c3 := P9.c3
      have P9c4 := P9.c4
      have P9c5 := P9.c5
      have P9f0 := P9.f0
      have P9f1 := P9.f1
      have P9f2 := P9.f2
      have P9f3 := P9.f3
      have P9f4 := P9.f4
      have P9f5 := P9.f5
      have P9l := P9.lt
      have P9n : ¬ g0 = w9.heap.size := by omega
      have M9c0 := M9.c0
      have M9c1 := M9.c1
      have M9c2 := M9.c2
      have M9c3 := M9.c3
      have M9c4 := M9.c4
      have M9c5 := M9.c5
      have M9l := M9.1
      have M9n : ¬ w.heap.size = w9.heap.size := by omega
      have N9c0 := N9.c0
      have N9c1 := N9.c1
      have N9c2 := N9.c2
      have N9c3 := N9.c3
      have N9c4 := N9.c4
      have N9c5 := N9.c5
      have N9l := N9.1
      have N9n : ¬ w.heap.size + 1 = w9.heap.size := by omega
      have U9c0 := U9.c0
      have U9c1 := U9.c1
      have U9c2 := U9.c2
      have U9c3 := U9.c3
      have U9l := U9.1
      have U9n : ¬ 0 = w9.heap.size := by omega
      go_wp2
      go_ret
      refine ⟨rfl, ?_⟩
      repeat (first | with_reducible assumption | with_reducible exact Below.refl _ _ | with_reducible refine Below.setCell ?_ (by first | omega | (simp <;> omega)) _ | with_reducible refine Below.alloc ?_ (by first | omega | (simp <;> omega)) _ | with_reducible refine bstep ?_ (by with_reducible assumption) | with_reducible refine Below.drew ?_)

end Go.Proofs.YtpdekopmnchanaaDoor
