/-
  Contracts of the laws' helpers on motions: a motion of the laws turned into one of the program, and two equal motions compared. No condition.
-/
import Derived.Test.YtodkomaeljbhaaaMat1
import Derived.Test.YtodkomaeljbhaaaKeep5
import Derived.Deep.RegionHeld3
import Derived.IntWalk
namespace Go.Proofs.Ytodkomaeljbhaaa
open Go.RowKit
set_option linter.unusedSimpArgs false
set_option linter.unusedVariables false

set_option maxRecDepth 100000 in
set_option maxHeartbeats 4000000 in
theorem toMo_any (a b c d x y : Int) (w : World) :
    Calls Try.prog 14 #[.agg #[.int .i64 a, .int .i64 b, .int .i64 c, .int .i64 d, .int .i64 x, .int .i64 y]] w fun e w' => e = .returned (.agg #[.int .i64 a, .int .i64 b, .int .i64 c, .int .i64 d, .int .i64 x, .int .i64 y]) ∧ Below w.heap.size w w' := by
  have M0 : Km (w.heap.size) a b c d x y (((w.alloc (.cells #[.int .i64 a, .int .i64 b, .int .i64 c, .int .i64 d, .int .i64 x, .int .i64 y] 40)).alloc (.cells #[.int .i64 0, .int .i64 0, .int .i64 0, .int .i64 0, .int .i64 0, .int .i64 0] 43)).alloc (.cells #[.int .i64 0, .int .i64 0, .int .i64 0, .int .i64 0, .int .i64 0, .int .i64 0] 43)) := (((Km.at (w.heap.size) rfl).alloc _).alloc _)
  have R0 : KM (w.heap.size + 1) 0 0 0 0 0 0 (((w.alloc (.cells #[.int .i64 a, .int .i64 b, .int .i64 c, .int .i64 d, .int .i64 x, .int .i64 y] 40)).alloc (.cells #[.int .i64 0, .int .i64 0, .int .i64 0, .int .i64 0, .int .i64 0, .int .i64 0] 43)).alloc (.cells #[.int .i64 0, .int .i64 0, .int .i64 0, .int .i64 0, .int .i64 0, .int .i64 0] 43)) := ((KM.at (w.heap.size + 1) (by simp)).alloc _)
  have O0 : KM (w.heap.size + 1 + 1) 0 0 0 0 0 0 (((w.alloc (.cells #[.int .i64 a, .int .i64 b, .int .i64 c, .int .i64 d, .int .i64 x, .int .i64 y] 40)).alloc (.cells #[.int .i64 0, .int .i64 0, .int .i64 0, .int .i64 0, .int .i64 0, .int .i64 0] 43)).alloc (.cells #[.int .i64 0, .int .i64 0, .int .i64 0, .int .i64 0, .int .i64 0, .int .i64 0] 43)) := (KM.at (w.heap.size + 1 + 1) (by simp))
  have B0 : Below w.heap.size w (((w.alloc (.cells #[.int .i64 a, .int .i64 b, .int .i64 c, .int .i64 d, .int .i64 x, .int .i64 y] 40)).alloc (.cells #[.int .i64 0, .int .i64 0, .int .i64 0, .int .i64 0, .int .i64 0, .int .i64 0] 43)).alloc (.cells #[.int .i64 0, .int .i64 0, .int .i64 0, .int .i64 0, .int .i64 0, .int .i64 0] 43)) := (Below.alloc (Below.alloc (Below.alloc (Below.refl _ _) (by first | with_reducible exact Nat.le_refl _ | (simp <;> omega)) _) (by first | with_reducible exact Nat.le_refl _ | (simp <;> omega)) _) (by first | with_reducible exact Nat.le_refl _ | (simp <;> omega)) _)
  go_enter Try.func14, Try.ntmps14
  have M0c0 := M0.c0
  have M0c1 := M0.c1
  have M0c2 := M0.c2
  have M0c3 := M0.c3
  have M0c4 := M0.c4
  have M0c5 := M0.c5
  have M0l := M0.1
  have R0c0 := R0.c0
  have R0c1 := R0.c1
  have R0c2 := R0.c2
  have R0c3 := R0.c3
  have R0c4 := R0.c4
  have R0c5 := R0.c5
  have R0f0 := R0.f0
  have R0f1 := R0.f1
  have R0f2 := R0.f2
  have R0f3 := R0.f3
  have R0f4 := R0.f4
  have R0f5 := R0.f5
  have R0l := R0.lt
  have O0c0 := O0.c0
  have O0c1 := O0.c1
  have O0c2 := O0.c2
  have O0c3 := O0.c3
  have O0c4 := O0.c4
  have O0c5 := O0.c5
  have O0f0 := O0.f0
  have O0f1 := O0.f1
  have O0f2 := O0.f2
  have O0f3 := O0.f3
  have O0f4 := O0.f4
  have O0f5 := O0.f5
  have O0l := O0.lt
  go_wp2_with fail
  refine (toMat_any _ _ _ _ _).mono ?_
  rintro e w1 ⟨rfl, hb1⟩
  have M1 : Km (w.heap.size) a b c d x y w1 := Km.call M0 hb1
  have R1 : KM (w.heap.size + 1) 0 0 0 0 0 0 w1 := KM.call R0 hb1
  have O1 : KM (w.heap.size + 1 + 1) 0 0 0 0 0 0 w1 := KM.call O0 hb1
  have B1 : Below w.heap.size w w1 := bstep B0 hb1
  clear hb1 B0 M0 R0 O0
  have M1c0 := M1.c0
  have M1c1 := M1.c1
  have M1c2 := M1.c2
  have M1c3 := M1.c3
  have M1c4 := M1.c4
  have M1c5 := M1.c5
  have M1l := M1.1
  have M1n : ¬ w.heap.size = w1.heap.size := by omega
  have R1c0 := R1.c0
  have R1c1 := R1.c1
  have R1c2 := R1.c2
  have R1c3 := R1.c3
  have R1c4 := R1.c4
  have R1c5 := R1.c5
  have R1f0 := R1.f0
  have R1f1 := R1.f1
  have R1f2 := R1.f2
  have R1f3 := R1.f3
  have R1f4 := R1.f4
  have R1f5 := R1.f5
  have R1l := R1.lt
  have R1n : ¬ w.heap.size + 1 = w1.heap.size := by omega
  have O1c0 := O1.c0
  have O1c1 := O1.c1
  have O1c2 := O1.c2
  have O1c3 := O1.c3
  have O1c4 := O1.c4
  have O1c5 := O1.c5
  have O1f0 := O1.f0
  have O1f1 := O1.f1
  have O1f2 := O1.f2
  have O1f3 := O1.f3
  have O1f4 := O1.f4
  have O1f5 := O1.f5
  have O1l := O1.lt
  have O1n : ¬ w.heap.size + 1 + 1 = w1.heap.size := by omega
  go_wp2_with fail
  refine (toVec_any _ _ _).mono ?_
  rintro e w2 ⟨rfl, hb2⟩
  have M2 : Km (w.heap.size) a b c d x y w2 := Km.call (show Km (w.heap.size) a b c d x y _ from by repeat (first | with_reducible assumption | with_reducible refine KM.drew ?_ | with_reducible refine KM.alloc ?_ _ | with_reducible refine KM.call ?_ (by with_reducible assumption) | with_reducible refine Km.drew ?_ | with_reducible refine Km.alloc ?_ _ | with_reducible refine Km.call ?_ (by with_reducible assumption) | ((with_reducible refine KM.put ?_ ?_); (first | omega | (dsimp only; omega))) | ((with_reducible refine Km.put ?_ ?_); (first | omega | (dsimp only; omega))) | ((with_reducible refine KM.far ?_ ?_); (first | omega | (dsimp only; omega))) | ((with_reducible refine Km.far ?_ ?_); (first | omega | (dsimp only; omega))))) hb2
  have R2 : KM (w.heap.size + 1) 0 0 0 0 0 0 w2 := KM.call (show KM (w.heap.size + 1) 0 0 0 0 0 0 _ from by repeat (first | with_reducible assumption | with_reducible refine KM.drew ?_ | with_reducible refine KM.alloc ?_ _ | with_reducible refine KM.call ?_ (by with_reducible assumption) | with_reducible refine Km.drew ?_ | with_reducible refine Km.alloc ?_ _ | with_reducible refine Km.call ?_ (by with_reducible assumption) | ((with_reducible refine KM.put ?_ ?_); (first | omega | (dsimp only; omega))) | ((with_reducible refine Km.put ?_ ?_); (first | omega | (dsimp only; omega))) | ((with_reducible refine KM.far ?_ ?_); (first | omega | (dsimp only; omega))) | ((with_reducible refine Km.far ?_ ?_); (first | omega | (dsimp only; omega))))) hb2
  have O2 : KM (w.heap.size + 1 + 1) a b c d 0 0 w2 := KM.call (KM.storeM O1 _ _ _ _) hb2
  have B2 : Below w.heap.size w w2 := bstep (by repeat (first | with_reducible assumption | with_reducible exact Below.refl _ _ | with_reducible refine Below.setCell ?_ (by first | omega | (simp <;> omega)) _ | with_reducible refine Below.alloc ?_ (by first | omega | (simp <;> omega)) _ | with_reducible refine bstep ?_ (by with_reducible assumption) | with_reducible refine Below.drew ?_)) hb2
  clear hb2 B1 M1 R1 O1
  have M2c0 := M2.c0
  have M2c1 := M2.c1
  have M2c2 := M2.c2
  have M2c3 := M2.c3
  have M2c4 := M2.c4
  have M2c5 := M2.c5
  have M2l := M2.1
  have M2n : ¬ w.heap.size = w2.heap.size := by omega
  have R2c0 := R2.c0
  have R2c1 := R2.c1
  have R2c2 := R2.c2
  have R2c3 := R2.c3
  have R2c4 := R2.c4
  have R2c5 := R2.c5
  have R2f0 := R2.f0
  have R2f1 := R2.f1
  have R2f2 := R2.f2
  have R2f3 := R2.f3
  have R2f4 := R2.f4
  have R2f5 := R2.f5
  have R2l := R2.lt
  have R2n : ¬ w.heap.size + 1 = w2.heap.size := by omega
  have O2c0 := O2.c0
  have O2c1 := O2.c1
  have O2c2 := O2.c2
  have O2c3 := O2.c3
  have O2c4 := O2.c4
  have O2c5 := O2.c5
  have O2f0 := O2.f0
  have O2f1 := O2.f1
  have O2f2 := O2.f2
  have O2f3 := O2.f3
  have O2f4 := O2.f4
  have O2f5 := O2.f5
  have O2l := O2.lt
  have O2n : ¬ w.heap.size + 1 + 1 = w2.heap.size := by omega
  go_wp2
  refine bodyPost_ret (v := .agg #[.int .i64 a, .int .i64 b, .int .i64 c, .int .i64 d, .int .i64 x, .int .i64 y]) (by simp [results, Try.results14, go_sem, *]) rfl ⟨rfl, ?_⟩
  repeat (first | with_reducible assumption | with_reducible exact Below.refl _ _ | with_reducible refine Below.setCell ?_ (by first | omega | (simp <;> omega)) _ | with_reducible refine Below.alloc ?_ (by first | omega | (simp <;> omega)) _ | with_reducible refine bstep ?_ (by with_reducible assumption) | with_reducible refine Below.drew ?_)

end Go.Proofs.Ytodkomaeljbhaaa
