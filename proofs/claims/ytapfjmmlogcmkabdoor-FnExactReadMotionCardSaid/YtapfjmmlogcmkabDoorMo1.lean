/-
  Contracts of the program's small functions on motions (chapter 5). Conditions: those stated; the program's variable unitMatrix holds the unit where the order is asked.
-/
import Derived.Test.YtapfjmmlogcmkabDoorMoF
import Derived.Test.YtapfjmmlogcmkabDoorKeep5
import Derived.Test.YtapfjmmlogcmkabDoorMat3
import Derived.Test.YtapfjmmlogcmkabDoorGcd2
import Derived.Test.YtapfjmmlogcmkabDoorOrd
import Derived.Test.YtapfjmmlogcmkabDoorChap1
import Derived.Deep.RegionHeld3
import Derived.IntWalk
namespace Go.Proofs.YtapfjmmlogcmkabDoor
open Go.RowKit
set_option linter.unusedSimpArgs false
set_option linter.unusedVariables false

set_option maxRecDepth 100000 in
set_option maxHeartbeats 2000000 in
theorem motionOf_any (a b c d x y : Int) (w : World) :
    Calls Tryd.prog 17 #[.agg #[.int .i64 a, .int .i64 b, .int .i64 c, .int .i64 d, .int .i64 x, .int .i64 y]] w fun e w' => e = .returned (.agg #[.int .i64 a, .int .i64 b, .int .i64 c, .int .i64 d, .int .i64 x, .int .i64 y]) ∧ Below w.heap.size w w' := by
  have M0 : Km (w.heap.size) a b c d x y ((w.alloc (.cells #[.int .i64 a, .int .i64 b, .int .i64 c, .int .i64 d, .int .i64 x, .int .i64 y] 32)).alloc (.cells #[.int .i64 0, .int .i64 0, .int .i64 0, .int .i64 0, .int .i64 0, .int .i64 0] 47)) := ((Km.at (w.heap.size) rfl).alloc _)
  have R0 : KM (w.heap.size + 1) 0 0 0 0 0 0 ((w.alloc (.cells #[.int .i64 a, .int .i64 b, .int .i64 c, .int .i64 d, .int .i64 x, .int .i64 y] 32)).alloc (.cells #[.int .i64 0, .int .i64 0, .int .i64 0, .int .i64 0, .int .i64 0, .int .i64 0] 47)) := (KM.at (w.heap.size + 1) (by simp))
  have B0 : Below w.heap.size w ((w.alloc (.cells #[.int .i64 a, .int .i64 b, .int .i64 c, .int .i64 d, .int .i64 x, .int .i64 y] 32)).alloc (.cells #[.int .i64 0, .int .i64 0, .int .i64 0, .int .i64 0, .int .i64 0, .int .i64 0] 47)) := (Below.alloc (Below.alloc (Below.refl _ _) (by first | with_reducible exact Nat.le_refl _ | (simp <;> omega)) _) (by first | with_reducible exact Nat.le_refl _ | (simp <;> omega)) _)
  go_enter Tryd.func17, Tryd.ntmps17
  have M0lt := M0.1
  have R0lt := R0.lt
  go_wp2_with fail
  go_region_held3 (fun W => (W.cell? ⟨w.heap.size, 0, none⟩ = some (.int .i64 a) ∧ W.cell? ⟨w.heap.size, 1, none⟩ = some (.int .i64 b) ∧ W.cell? ⟨w.heap.size, 2, none⟩ = some (.int .i64 c) ∧ W.cell? ⟨w.heap.size, 3, none⟩ = some (.int .i64 d) ∧ W.cell? ⟨w.heap.size, 4, none⟩ = some (.int .i64 x) ∧ W.cell? ⟨w.heap.size, 5, none⟩ = some (.int .i64 y))) ((refine Km.cells ?_ <;> repeat (first | with_reducible assumption | with_reducible refine KM.drew ?_ | with_reducible refine KM.alloc ?_ _ | with_reducible refine KM.call ?_ (by with_reducible assumption) | with_reducible refine Km.drew ?_ | with_reducible refine Km.alloc ?_ _ | with_reducible refine Km.call ?_ (by with_reducible assumption) | ((with_reducible refine KM.put ?_ ?_); (first | omega | (dsimp only; omega))) | ((with_reducible refine Km.put ?_ ?_); (first | omega | (dsimp only; omega))) | ((with_reducible refine KM.far ?_ ?_); (first | omega | (dsimp only; omega))) | ((with_reducible refine Km.far ?_ ?_); (first | omega | (dsimp only; omega))))))
    (first
      | (go_at_call 34; ((with_reducible refine (matrixOf_any _ _ _ _ _).mono ?_); rintro e w1 ⟨rfl, hb1⟩; have M1 : Km (w.heap.size) a b c d x y w1 := (by repeat (first | with_reducible assumption | with_reducible refine KM.drew ?_ | with_reducible refine KM.alloc ?_ _ | with_reducible refine KM.call ?_ (by with_reducible assumption) | with_reducible refine Km.drew ?_ | with_reducible refine Km.alloc ?_ _ | with_reducible refine Km.call ?_ (by with_reducible assumption))); have R1 : KM (w.heap.size + 1) 0 0 0 0 0 0 w1 := (by repeat (first | with_reducible assumption | with_reducible refine KM.drew ?_ | with_reducible refine KM.alloc ?_ _ | with_reducible refine KM.call ?_ (by with_reducible assumption) | with_reducible refine Km.drew ?_ | with_reducible refine Km.alloc ?_ _ | with_reducible refine Km.call ?_ (by with_reducible assumption))); have M1l := M1.1; have R1c0 := R1.c0; have R1f0 := R1.f0; have R1c1 := R1.c1; have R1f1 := R1.f1; have R1c2 := R1.c2; have R1f2 := R1.f2; have R1c3 := R1.c3; have R1f3 := R1.f3; have R1c4 := R1.c4; have R1f4 := R1.f4; have R1c5 := R1.c5; have R1f5 := R1.f5; have R1l := R1.lt; have B1 : Below w.heap.size w w1 := (by repeat (first | with_reducible assumption | with_reducible refine Below.drew ?_ | with_reducible refine Below.alloc ?_ (by first | omega | (have := B0.size; simp <;> omega)) _ | with_reducible refine bstep ?_ (by with_reducible assumption))))))
  all_goals
    go_wp2
    refine bodyPost_ret (v := .agg #[.int .i64 a, .int .i64 b, .int .i64 c, .int .i64 d, .int .i64 x, .int .i64 y]) (by simp [results, Tryd.results17, go_sem, *]) rfl ⟨rfl, ?_⟩
    repeat (first | with_reducible assumption | with_reducible exact Below.refl _ _ | with_reducible refine Below.setCell ?_ (by first | omega | (simp <;> omega)) _ | with_reducible refine Below.alloc ?_ (by first | omega | (simp <;> omega)) _ | with_reducible refine bstep ?_ (by with_reducible assumption) | with_reducible refine Below.drew ?_)

set_option maxRecDepth 100000 in
set_option maxHeartbeats 4000000 in
theorem isValidMo_any (a b c d x y : Int) (w : World) (hU : UnitOK w) :
    Calls Tryd.prog 33 #[.agg #[.int .i64 a, .int .i64 b, .int .i64 c, .int .i64 d, .int .i64 x, .int .i64 y]] w fun e w' => e = .returned (.bool (motB a b c d x y)) ∧ Below w.heap.size w w' := by
  rcases hm : matB a b c d with _ | _
  · have EA := Lib.hid (show motB a b c d x y = false by simp [motB, hm])
    have M0 : Km (w.heap.size) a b c d x y (w.alloc (.cells #[.int .i64 a, .int .i64 b, .int .i64 c, .int .i64 d, .int .i64 x, .int .i64 y] 47)) := (Km.at (w.heap.size) rfl)
    have B0 : Below w.heap.size w (w.alloc (.cells #[.int .i64 a, .int .i64 b, .int .i64 c, .int .i64 d, .int .i64 x, .int .i64 y] 47)) := (Below.alloc (Below.refl _ _) (by first | with_reducible exact Nat.le_refl _ | (simp <;> omega)) _)
    go_enter Tryd.func33, Tryd.ntmps33
    have M0c0 := M0.c0
    have M0c1 := M0.c1
    have M0c2 := M0.c2
    have M0c3 := M0.c3
    have M0c4 := M0.c4
    have M0c5 := M0.c5
    have M0l := M0.1
    go_wp2_with fail
    refine (isValidM_any _ _ _ _ _).mono ?_
    rintro e w1 ⟨rfl, hb1⟩
    have HB1 := Lib.hid hb1
    have M1 : Km (w.heap.size) a b c d x y w1 := Km.call M0 hb1
    have B1 : Below w.heap.size w w1 := bstep B0 hb1
    clear hb1 B0 M0
    have M1c0 := M1.c0
    have M1c1 := M1.c1
    have M1c2 := M1.c2
    have M1c3 := M1.c3
    have M1c4 := M1.c4
    have M1c5 := M1.c5
    have M1l := M1.1
    have M1n : ¬ w.heap.size = w1.heap.size := by omega
    go_wp2
    go_ret
    refine ⟨ret_bool EA.out.symm, ?_⟩
    repeat (first | with_reducible assumption | with_reducible exact Below.refl _ _ | with_reducible refine Below.setCell ?_ (by first | omega | (simp <;> omega)) _ | with_reducible refine Below.alloc ?_ (by first | omega | (simp <;> omega)) _ | with_reducible refine bstep ?_ (by with_reducible assumption) | with_reducible refine Below.drew ?_)
  rcases ho : (ordT a b c d != 0) with _ | _
  · have EA := Lib.hid (show motB a b c d x y = false by simp [motB, hm, ← kind_ord hm, ho])
    have M0 : Km (w.heap.size) a b c d x y (w.alloc (.cells #[.int .i64 a, .int .i64 b, .int .i64 c, .int .i64 d, .int .i64 x, .int .i64 y] 47)) := (Km.at (w.heap.size) rfl)
    have B0 : Below w.heap.size w (w.alloc (.cells #[.int .i64 a, .int .i64 b, .int .i64 c, .int .i64 d, .int .i64 x, .int .i64 y] 47)) := (Below.alloc (Below.refl _ _) (by first | with_reducible exact Nat.le_refl _ | (simp <;> omega)) _)
    go_enter Tryd.func33, Tryd.ntmps33
    have M0c0 := M0.c0
    have M0c1 := M0.c1
    have M0c2 := M0.c2
    have M0c3 := M0.c3
    have M0c4 := M0.c4
    have M0c5 := M0.c5
    have M0l := M0.1
    go_wp2_with fail
    refine (isValidM_any _ _ _ _ _).mono ?_
    rintro e w1 ⟨rfl, hb1⟩
    have HB1 := Lib.hid hb1
    have M1 : Km (w.heap.size) a b c d x y w1 := Km.call M0 hb1
    have B1 : Below w.heap.size w w1 := bstep B0 hb1
    clear hb1 B0 M0
    have M1c0 := M1.c0
    have M1c1 := M1.c1
    have M1c2 := M1.c2
    have M1c3 := M1.c3
    have M1c4 := M1.c4
    have M1c5 := M1.c5
    have M1l := M1.1
    have M1n : ¬ w.heap.size = w1.heap.size := by omega
    go_wp2_with fail
    refine (order_any _ _ _ _ _ hm (((UnitOK.alloc hU _).call HB1.out))).mono ?_
    rintro e w2 ⟨rfl, hb2⟩
    have M2 : Km (w.heap.size) a b c d x y w2 := Km.call M1 hb2
    have B2 : Below w.heap.size w w2 := bstep B1 hb2
    clear hb2 B1 M1
    have M2c0 := M2.c0
    have M2c1 := M2.c1
    have M2c2 := M2.c2
    have M2c3 := M2.c3
    have M2c4 := M2.c4
    have M2c5 := M2.c5
    have M2l := M2.1
    have M2n : ¬ w.heap.size = w2.heap.size := by omega
    go_wp2
    go_ret
    refine ⟨ret_bool EA.out.symm, ?_⟩
    repeat (first | with_reducible assumption | with_reducible exact Below.refl _ _ | with_reducible refine Below.setCell ?_ (by first | omega | (simp <;> omega)) _ | with_reducible refine Below.alloc ?_ (by first | omega | (simp <;> omega)) _ | with_reducible refine bstep ?_ (by with_reducible assumption) | with_reducible refine Below.drew ?_)
  · have EA := Lib.hid (show motB a b c d x y = vecB x y by rw [motB, ← kind_ord hm, ho, hm]; rfl)
    have M0 : Km (w.heap.size) a b c d x y (w.alloc (.cells #[.int .i64 a, .int .i64 b, .int .i64 c, .int .i64 d, .int .i64 x, .int .i64 y] 47)) := (Km.at (w.heap.size) rfl)
    have B0 : Below w.heap.size w (w.alloc (.cells #[.int .i64 a, .int .i64 b, .int .i64 c, .int .i64 d, .int .i64 x, .int .i64 y] 47)) := (Below.alloc (Below.refl _ _) (by first | with_reducible exact Nat.le_refl _ | (simp <;> omega)) _)
    go_enter Tryd.func33, Tryd.ntmps33
    have M0c0 := M0.c0
    have M0c1 := M0.c1
    have M0c2 := M0.c2
    have M0c3 := M0.c3
    have M0c4 := M0.c4
    have M0c5 := M0.c5
    have M0l := M0.1
    go_wp2_with fail
    refine (isValidM_any _ _ _ _ _).mono ?_
    rintro e w1 ⟨rfl, hb1⟩
    have HB1 := Lib.hid hb1
    have M1 : Km (w.heap.size) a b c d x y w1 := Km.call M0 hb1
    have B1 : Below w.heap.size w w1 := bstep B0 hb1
    clear hb1 B0 M0
    have M1c0 := M1.c0
    have M1c1 := M1.c1
    have M1c2 := M1.c2
    have M1c3 := M1.c3
    have M1c4 := M1.c4
    have M1c5 := M1.c5
    have M1l := M1.1
    have M1n : ¬ w.heap.size = w1.heap.size := by omega
    go_wp2_with fail
    refine (order_any _ _ _ _ _ hm (((UnitOK.alloc hU _).call HB1.out))).mono ?_
    rintro e w2 ⟨rfl, hb2⟩
    have M2 : Km (w.heap.size) a b c d x y w2 := Km.call M1 hb2
    have B2 : Below w.heap.size w w2 := bstep B1 hb2
    clear hb2 B1 M1
    have M2c0 := M2.c0
    have M2c1 := M2.c1
    have M2c2 := M2.c2
    have M2c3 := M2.c3
    have M2c4 := M2.c4
    have M2c5 := M2.c5
    have M2l := M2.1
    have M2n : ¬ w.heap.size = w2.heap.size := by omega
    go_wp2_with fail
    refine (isValid_any _ _ _).mono ?_
    rintro e w3 ⟨rfl, hb3⟩
    have M3 : Km (w.heap.size) a b c d x y w3 := Km.call M2 hb3
    have B3 : Below w.heap.size w w3 := bstep B2 hb3
    clear hb3 B2 M2
    go_wp2
    go_ret
    refine ⟨ret_bool EA.out.symm, ?_⟩
    repeat (first | with_reducible assumption | with_reducible exact Below.refl _ _ | with_reducible refine Below.setCell ?_ (by first | omega | (simp <;> omega)) _ | with_reducible refine Below.alloc ?_ (by first | omega | (simp <;> omega)) _ | with_reducible refine bstep ?_ (by with_reducible assumption) | with_reducible refine Below.drew ?_)

set_option maxRecDepth 100000 in
set_option maxHeartbeats 4000000 in
theorem implIsMo_any (a b c d x y : Int) (w : World) (hU : UnitOK w) :
    Calls Tryd.prog 16 #[.agg #[.int .i64 a, .int .i64 b, .int .i64 c, .int .i64 d, .int .i64 x, .int .i64 y]] w fun e w' => e = .returned (.bool (motB a b c d x y)) ∧ Below w.heap.size w w' := by
  have M0 : Km (w.heap.size) a b c d x y (w.alloc (.cells #[.int .i64 a, .int .i64 b, .int .i64 c, .int .i64 d, .int .i64 x, .int .i64 y] 32)) := (Km.at (w.heap.size) rfl)
  have B0 : Below w.heap.size w (w.alloc (.cells #[.int .i64 a, .int .i64 b, .int .i64 c, .int .i64 d, .int .i64 x, .int .i64 y] 32)) := (Below.alloc (Below.refl _ _) (by first | with_reducible exact Nat.le_refl _ | (simp <;> omega)) _)
  go_enter Tryd.func16, Tryd.ntmps16
  have M0c0 := M0.c0
  have M0c1 := M0.c1
  have M0c2 := M0.c2
  have M0c3 := M0.c3
  have M0c4 := M0.c4
  have M0c5 := M0.c5
  have M0l := M0.1
  go_wp2_with fail
  refine (motionOf_any _ _ _ _ _ _ _).mono ?_
  rintro e w1 ⟨rfl, hb1⟩
  have HB1 := Lib.hid hb1
  have M1 : Km (w.heap.size) a b c d x y w1 := Km.call M0 hb1
  have B1 : Below w.heap.size w w1 := bstep B0 hb1
  clear hb1 B0 M0
  go_wp2_with fail
  refine (isValidMo_any _ _ _ _ _ _ _ ((UnitOK.alloc hU _).call HB1.out)).mono ?_
  rintro e w2 ⟨rfl, hb2⟩
  have M2 : Km (w.heap.size) a b c d x y w2 := Km.call M1 hb2
  have B2 : Below w.heap.size w w2 := bstep B1 hb2
  clear hb2 B1 M1
  go_wp2
  go_ret
  refine ⟨rfl, ?_⟩
  repeat (first | with_reducible assumption | with_reducible exact Below.refl _ _ | with_reducible refine Below.setCell ?_ (by first | omega | (simp <;> omega)) _ | with_reducible refine Below.alloc ?_ (by first | omega | (simp <;> omega)) _ | with_reducible refine bstep ?_ (by with_reducible assumption) | with_reducible refine Below.drew ?_)

end Go.Proofs.YtapfjmmlogcmkabDoor
