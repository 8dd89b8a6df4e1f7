/-
  Contracts of the model's small functions on motions (chapter 5). Conditions: those stated.
-/
import Derived.Test.YtapfjmmlogcmkabDoorMo1
namespace Go.Proofs.YtapfjmmlogcmkabDoor
open Go.RowKit
set_option linter.unusedSimpArgs false
set_option linter.unusedVariables false

set_option maxRecDepth 100000 in
set_option maxHeartbeats 1000000 in
theorem specIsMo_any (a b c d x y : Int) (w : World) :
    Calls Tryd.prog 11 #[.agg #[.int .i64 a, .int .i64 b, .int .i64 c, .int .i64 d, .int .i64 x, .int .i64 y]] w fun e w' => e = .returned (.bool (motB a b c d x y)) ∧ Below w.heap.size w w' := by
  rcases hm : matB a b c d with _ | _
  · have EA := Lib.hid (show motB a b c d x y = false by simp [motB, hm])
    have M0 : Km (w.heap.size) a b c d x y (w.alloc (.cells #[.int .i64 a, .int .i64 b, .int .i64 c, .int .i64 d, .int .i64 x, .int .i64 y] 32)) := (Km.at (w.heap.size) rfl)
    have B0 : Below w.heap.size w (w.alloc (.cells #[.int .i64 a, .int .i64 b, .int .i64 c, .int .i64 d, .int .i64 x, .int .i64 y] 32)) := (Below.alloc (Below.refl _ _) (by first | with_reducible exact Nat.le_refl _ | (simp <;> omega)) _)
    go_enter Tryd.func11, Tryd.ntmps11
    have M0c0 := M0.c0
    have M0c1 := M0.c1
    have M0c2 := M0.c2
    have M0c3 := M0.c3
    have M0c4 := M0.c4
    have M0c5 := M0.c5
    have M0l := M0.1
    go_wp2_with fail
    refine (specIsMat_any _ _ _ _ _).mono ?_
    rintro e w1 ⟨rfl, hb1⟩
    have M1 : Km (w.heap.size) a b c d x y w1 := Km.call M0 hb1
    have B1 : Below w.heap.size w w1 := bstep B0 hb1
    clear hb1 B0 M0
    have M1c0 := M1.c0
    have M1c1 := M1.c1
    have M1c2 := M1.c2
    have M1c3 := M1.c3
    have M1c4 := M1.c4
    have M1c5 := M1.c5
    have M1l := M1.1
    have M1n : ¬ w.heap.size = w1.heap.size := by omega
    go_wp2
    go_ret
    refine ⟨ret_bool EA.out.symm, ?_⟩
    repeat (first | with_reducible assumption | with_reducible exact Below.refl _ _ | with_reducible refine Below.setCell ?_ (by first | omega | (simp <;> omega)) _ | with_reducible refine Below.alloc ?_ (by first | omega | (simp <;> omega)) _ | with_reducible refine bstep ?_ (by with_reducible assumption) | with_reducible refine Below.drew ?_)
  rcases ho : (kindI a b c d != 0) with _ | _
  · have EA := Lib.hid (show motB a b c d x y = false by simp [motB, hm, ho])
    have M0 : Km (w.heap.size) a b c d x y (w.alloc (.cells #[.int .i64 a, .int .i64 b, .int .i64 c, .int .i64 d, .int .i64 x, .int .i64 y] 32)) := (Km.at (w.heap.size) rfl)
    have B0 : Below w.heap.size w (w.alloc (.cells #[.int .i64 a, .int .i64 b, .int .i64 c, .int .i64 d, .int .i64 x, .int .i64 y] 32)) := (Below.alloc (Below.refl _ _) (by first | with_reducible exact Nat.le_refl _ | (simp <;> omega)) _)
    go_enter Tryd.func11, Tryd.ntmps11
    have M0c0 := M0.c0
    have M0c1 := M0.c1
    have M0c2 := M0.c2
    have M0c3 := M0.c3
    have M0c4 := M0.c4
    have M0c5 := M0.c5
    have M0l := M0.1
    go_wp2_with fail
    refine (specIsMat_any _ _ _ _ _).mono ?_
    rintro e w1 ⟨rfl, hb1⟩
    have M1 : Km (w.heap.size) a b c d x y w1 := Km.call M0 hb1
    have B1 : Below w.heap.size w w1 := bstep B0 hb1
    clear hb1 B0 M0
    have M1c0 := M1.c0
    have M1c1 := M1.c1
    have M1c2 := M1.c2
    have M1c3 := M1.c3
    have M1c4 := M1.c4
    have M1c5 := M1.c5
    have M1l := M1.1
    have M1n : ¬ w.heap.size = w1.heap.size := by omega
    go_wp2_with fail
    refine (l02Kind_any _ _ _ _ _ (matB_lim hm)).mono ?_
    rintro e w2 ⟨rfl, hb2⟩
    have M2 : Km (w.heap.size) a b c d x y w2 := Km.call M1 hb2
    have B2 : Below w.heap.size w w2 := bstep B1 hb2
    clear hb2 B1 M1
    have M2c0 := M2.c0
    have M2c1 := M2.c1
    have M2c2 := M2.c2
    have M2c3 := M2.c3
    have M2c4 := M2.c4
    have M2c5 := M2.c5
    have M2l := M2.1
    have M2n : ¬ w.heap.size = w2.heap.size := by omega
    go_wp2
    go_ret
    refine ⟨ret_bool EA.out.symm, ?_⟩
    repeat (first | with_reducible assumption | with_reducible exact Below.refl _ _ | with_reducible refine Below.setCell ?_ (by first | omega | (simp <;> omega)) _ | with_reducible refine Below.alloc ?_ (by first | omega | (simp <;> omega)) _ | with_reducible refine bstep ?_ (by with_reducible assumption) | with_reducible refine Below.drew ?_)
  · have EA := Lib.hid (show motB a b c d x y = vecB x y by rw [motB, ho, hm]; rfl)
    have M0 : Km (w.heap.size) a b c d x y (w.alloc (.cells #[.int .i64 a, .int .i64 b, .int .i64 c, .int .i64 d, .int .i64 x, .int .i64 y] 32)) := (Km.at (w.heap.size) rfl)
    have B0 : Below w.heap.size w (w.alloc (.cells #[.int .i64 a, .int .i64 b, .int .i64 c, .int .i64 d, .int .i64 x, .int .i64 y] 32)) := (Below.alloc (Below.refl _ _) (by first | with_reducible exact Nat.le_refl _ | (simp <;> omega)) _)
    go_enter Tryd.func11, Tryd.ntmps11
    have M0c0 := M0.c0
    have M0c1 := M0.c1
    have M0c2 := M0.c2
    have M0c3 := M0.c3
    have M0c4 := M0.c4
    have M0c5 := M0.c5
    have M0l := M0.1
    go_wp2_with fail
    refine (specIsMat_any _ _ _ _ _).mono ?_
    rintro e w1 ⟨rfl, hb1⟩
    have M1 : Km (w.heap.size) a b c d x y w1 := Km.call M0 hb1
    have B1 : Below w.heap.size w w1 := bstep B0 hb1
    clear hb1 B0 M0
    have M1c0 := M1.c0
    have M1c1 := M1.c1
    have M1c2 := M1.c2
    have M1c3 := M1.c3
    have M1c4 := M1.c4
    have M1c5 := M1.c5
    have M1l := M1.1
    have M1n : ¬ w.heap.size = w1.heap.size := by omega
    go_wp2_with fail
    refine (l02Kind_any _ _ _ _ _ (matB_lim hm)).mono ?_
    rintro e w2 ⟨rfl, hb2⟩
    have M2 : Km (w.heap.size) a b c d x y w2 := Km.call M1 hb2
    have B2 : Below w.heap.size w w2 := bstep B1 hb2
    clear hb2 B1 M1
    have M2c0 := M2.c0
    have M2c1 := M2.c1
    have M2c2 := M2.c2
    have M2c3 := M2.c3
    have M2c4 := M2.c4
    have M2c5 := M2.c5
    have M2l := M2.1
    have M2n : ¬ w.heap.size = w2.heap.size := by omega
    go_wp2_with fail
    refine (specIsVec_any _ _ _).mono ?_
    rintro e w3 ⟨rfl, hb3⟩
    have M3 : Km (w.heap.size) a b c d x y w3 := Km.call M2 hb3
    have B3 : Below w.heap.size w w3 := bstep B2 hb3
    clear hb3 B2 M2
    have M3c0 := M3.c0
    have M3c1 := M3.c1
    have M3c2 := M3.c2
    have M3c3 := M3.c3
    have M3c4 := M3.c4
    have M3c5 := M3.c5
    have M3l := M3.1
    have M3n : ¬ w.heap.size = w3.heap.size := by omega
    go_wp2
    go_ret
    refine ⟨ret_bool EA.out.symm, ?_⟩
    repeat (first | with_reducible assumption | with_reducible exact Below.refl _ _ | with_reducible refine Below.setCell ?_ (by first | omega | (simp <;> omega)) _ | with_reducible refine Below.alloc ?_ (by first | omega | (simp <;> omega)) _ | with_reducible refine bstep ?_ (by with_reducible assumption) | with_reducible refine Below.drew ?_)

end Go.Proofs.YtapfjmmlogcmkabDoor
