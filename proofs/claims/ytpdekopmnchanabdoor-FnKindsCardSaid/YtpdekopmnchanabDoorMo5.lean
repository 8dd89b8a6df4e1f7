/-
  Contracts of chapter 5's exported functions on motions: the program's function and the model's have one and the same answer. Condition: for the program, its variable unitMatrix holds the unit.
-/
import Derived.Test.YtpdekopmnchanabDoorMo3
namespace Go.Proofs.YtpdekopmnchanabDoor
open Go.RowKit
set_option linter.unusedSimpArgs false
set_option linter.unusedVariables false

set_option maxRecDepth 100000 in
set_option maxHeartbeats 8000000 in
theorem specCmp_any (a b c d x y a' b' c' d' x' y' : Int) (w : World) :
    Calls Tryd.prog 8 #[.agg #[.int .i64 a, .int .i64 b, .int .i64 c, .int .i64 d, .int .i64 x, .int .i64 y], .agg #[.int .i64 a', .int .i64 b', .int .i64 c', .int .i64 d', .int .i64 x', .int .i64 y']] w fun e w' => e = .returned (motT (cmpR a b c d x y a' b' c' d' x' y')) ∧ Below w.heap.size w w' := by
  rcases hm : motB a b c d x y with _ | _
  · have EA := Lib.hid (show motT (cmpR a b c d x y a' b' c' d' x' y') = .tuple #[.agg #[.int .i64 0, .int .i64 0, .int .i64 0, .int .i64 0, .int .i64 0, .int .i64 0], .int .i64 1] by simp [motT, cmpR, hm])
    have M0 : Km (w.heap.size) a b c d x y (((w.alloc (.cells #[.int .i64 a, .int .i64 b, .int .i64 c, .int .i64 d, .int .i64 x, .int .i64 y] 29)).alloc (.cells #[.int .i64 a', .int .i64 b', .int .i64 c', .int .i64 d', .int .i64 x', .int .i64 y'] 29)).alloc (.cells #[.int .i64 0, .int .i64 0, .int .i64 0, .int .i64 0, .int .i64 0, .int .i64 0] 29)) := (((Km.at (w.heap.size) rfl).alloc _).alloc _)
    have N0 : Km (w.heap.size + 1) a' b' c' d' x' y' (((w.alloc (.cells #[.int .i64 a, .int .i64 b, .int .i64 c, .int .i64 d, .int .i64 x, .int .i64 y] 29)).alloc (.cells #[.int .i64 a', .int .i64 b', .int .i64 c', .int .i64 d', .int .i64 x', .int .i64 y'] 29)).alloc (.cells #[.int .i64 0, .int .i64 0, .int .i64 0, .int .i64 0, .int .i64 0, .int .i64 0] 29)) := ((Km.at (w.heap.size + 1) (by simp)).alloc _)
    have R0 : KM (w.heap.size + 1 + 1) 0 0 0 0 0 0 (((w.alloc (.cells #[.int .i64 a, .int .i64 b, .int .i64 c, .int .i64 d, .int .i64 x, .int .i64 y] 29)).alloc (.cells #[.int .i64 a', .int .i64 b', .int .i64 c', .int .i64 d', .int .i64 x', .int .i64 y'] 29)).alloc (.cells #[.int .i64 0, .int .i64 0, .int .i64 0, .int .i64 0, .int .i64 0, .int .i64 0] 29)) := (KM.at (w.heap.size + 1 + 1) (by simp))
    have B0 : Below w.heap.size w (((w.alloc (.cells #[.int .i64 a, .int .i64 b, .int .i64 c, .int .i64 d, .int .i64 x, .int .i64 y] 29)).alloc (.cells #[.int .i64 a', .int .i64 b', .int .i64 c', .int .i64 d', .int .i64 x', .int .i64 y'] 29)).alloc (.cells #[.int .i64 0, .int .i64 0, .int .i64 0, .int .i64 0, .int .i64 0, .int .i64 0] 29)) := (Below.alloc (Below.alloc (Below.alloc (Below.refl _ _) (by first | with_reducible exact Nat.le_refl _ | (simp <;> omega)) _) (by first | with_reducible exact Nat.le_refl _ | (simp <;> omega)) _) (by first | with_reducible exact Nat.le_refl _ | (simp <;> omega)) _)
    go_enter Tryd.func8, Tryd.ntmps8
    have M0c0 := M0.c0
    have M0c1 := M0.c1
    have M0c2 := M0.c2
    have M0c3 := M0.c3
    have M0c4 := M0.c4
    have M0c5 := M0.c5
    have M0l := M0.1
    have N0c0 := N0.c0
    have N0c1 := N0.c1
    have N0c2 := N0.c2
    have N0c3 := N0.c3
    have N0c4 := N0.c4
    have N0c5 := N0.c5
    have N0l := N0.1
    have R0c0 := R0.c0
    have R0c1 := R0.c1
    have R0c2 := R0.c2
    have R0c3 := R0.c3
    have R0c4 := R0.c4
    have R0c5 := R0.c5
    have R0f0 := R0.f0
    have R0f1 := R0.f1
    have R0f2 := R0.f2
    have R0f3 := R0.f3
    have R0f4 := R0.f4
    have R0f5 := R0.f5
    have R0l := R0.lt
    go_wp2_with fail
    refine (specIsMo_any _ _ _ _ _ _ _).mono ?_
    rintro e w1 ⟨rfl, hb1⟩
    have M1 : Km (w.heap.size) a b c d x y w1 := Km.call M0 hb1
    have N1 : Km (w.heap.size + 1) a' b' c' d' x' y' w1 := Km.call N0 hb1
    have R1 : KM (w.heap.size + 1 + 1) 0 0 0 0 0 0 w1 := KM.call R0 hb1
    have B1 : Below w.heap.size w w1 := bstep B0 hb1
    clear hb1 B0 M0 N0 R0
    have M1c0 := M1.c0
    have M1c1 := M1.c1
    have M1c2 := M1.c2
    have M1c3 := M1.c3
    have M1c4 := M1.c4
    have M1c5 := M1.c5
    have M1l := M1.1
    have M1n : ¬ w.heap.size = w1.heap.size := by omega
    have N1c0 := N1.c0
    have N1c1 := N1.c1
    have N1c2 := N1.c2
    have N1c3 := N1.c3
    have N1c4 := N1.c4
    have N1c5 := N1.c5
    have N1l := N1.1
    have N1n : ¬ w.heap.size + 1 = w1.heap.size := by omega
    have R1c0 := R1.c0
    have R1c1 := R1.c1
    have R1c2 := R1.c2
    have R1c3 := R1.c3
    have R1c4 := R1.c4
    have R1c5 := R1.c5
    have R1f0 := R1.f0
    have R1f1 := R1.f1
    have R1f2 := R1.f2
    have R1f3 := R1.f3
    have R1f4 := R1.f4
    have R1f5 := R1.f5
    have R1l := R1.lt
    have R1n : ¬ w.heap.size + 1 + 1 = w1.heap.size := by omega
    go_wp2
    refine bodyPost_ret (v := .tuple #[.agg #[.int .i64 0, .int .i64 0, .int .i64 0, .int .i64 0, .int .i64 0, .int .i64 0], .int .i64 1]) (by simp [results, Tryd.results8, go_sem, *]) rfl ⟨ret_val EA.out.symm, ?_⟩
    repeat (first | with_reducible assumption | with_reducible exact Below.refl _ _ | with_reducible refine Below.setCell ?_ (by first | omega | (simp <;> omega)) _ | with_reducible refine Below.alloc ?_ (by first | omega | (simp <;> omega)) _ | with_reducible refine bstep ?_ (by with_reducible assumption) | with_reducible refine Below.drew ?_)
  rcases hn : motB a' b' c' d' x' y' with _ | _
  · have EA := Lib.hid (show motT (cmpR a b c d x y a' b' c' d' x' y') = .tuple #[.agg #[.int .i64 0, .int .i64 0, .int .i64 0, .int .i64 0, .int .i64 0, .int .i64 0], .int .i64 1] by simp [motT, cmpR, hm, hn])
    have M0 : Km (w.heap.size) a b c d x y (((w.alloc (.cells #[.int .i64 a, .int .i64 b, .int .i64 c, .int .i64 d, .int .i64 x, .int .i64 y] 29)).alloc (.cells #[.int .i64 a', .int .i64 b', .int .i64 c', .int .i64 d', .int .i64 x', .int .i64 y'] 29)).alloc (.cells #[.int .i64 0, .int .i64 0, .int .i64 0, .int .i64 0, .int .i64 0, .int .i64 0] 29)) := (((Km.at (w.heap.size) rfl).alloc _).alloc _)
    have N0 : Km (w.heap.size + 1) a' b' c' d' x' y' (((w.alloc (.cells #[.int .i64 a, .int .i64 b, .int .i64 c, .int .i64 d, .int .i64 x, .int .i64 y] 29)).alloc (.cells #[.int .i64 a', .int .i64 b', .int .i64 c', .int .i64 d', .int .i64 x', .int .i64 y'] 29)).alloc (.cells #[.int .i64 0, .int .i64 0, .int .i64 0, .int .i64 0, .int .i64 0, .int .i64 0] 29)) := ((Km.at (w.heap.size + 1) (by simp)).alloc _)
    have R0 : KM (w.heap.size + 1 + 1) 0 0 0 0 0 0 (((w.alloc (.cells #[.int .i64 a, .int .i64 b, .int .i64 c, .int .i64 d, .int .i64 x, .int .i64 y] 29)).alloc (.cells #[.int .i64 a', .int .i64 b', .int .i64 c', .int .i64 d', .int .i64 x', .int .i64 y'] 29)).alloc (.cells #[.int .i64 0, .int .i64 0, .int .i64 0, .int .i64 0, .int .i64 0, .int .i64 0] 29)) := (KM.at (w.heap.size + 1 + 1) (by simp))
    have B0 : Below w.heap.size w (((w.alloc (.cells #[.int .i64 a, .int .i64 b, .int .i64 c, .int .i64 d, .int .i64 x, .int .i64 y] 29)).alloc (.cells #[.int .i64 a', .int .i64 b', .int .i64 c', .int .i64 d', .int .i64 x', .int .i64 y'] 29)).alloc (.cells #[.int .i64 0, .int .i64 0, .int .i64 0, .int .i64 0, .int .i64 0, .int .i64 0] 29)) := (Below.alloc (Below.alloc (Below.alloc (Below.refl _ _) (by first | with_reducible exact Nat.le_refl _ | (simp <;> omega)) _) (by first | with_reducible exact Nat.le_refl _ | (simp <;> omega)) _) (by first | with_reducible exact Nat.le_refl _ | (simp <;> omega)) _)
    go_enter Tryd.func8, Tryd.ntmps8
    have M0c0 := M0.c0
    have M0c1 := M0.c1
    have M0c2 := M0.c2
    have M0c3 := M0.c3
    have M0c4 := M0.c4
    have M0c5 := M0.c5
    have M0l := M0.1
    have N0c0 := N0.c0
    have N0c1 := N0.c1
    have N0c2 := N0.c2
    have N0c3 := N0.c3
    have N0c4 := N0.c4
    have N0c5 := N0.c5
    have N0l := N0.1
    have R0c0 := R0.c0
    have R0c1 := R0.c1
    have R0c2 := R0.c2
    have R0c3 := R0.c3
    have R0c4 := R0.c4
    have R0c5 := R0.c5
    have R0f0 := R0.f0
    have R0f1 := R0.f1
    have R0f2 := R0.f2
    have R0f3 := R0.f3
    have R0f4 := R0.f4
    have R0f5 := R0.f5
    have R0l := R0.lt
    go_wp2_with fail
    refine (specIsMo_any _ _ _ _ _ _ _).mono ?_
    rintro e w1 ⟨rfl, hb1⟩
    have M1 : Km (w.heap.size) a b c d x y w1 := Km.call M0 hb1
    have N1 : Km (w.heap.size + 1) a' b' c' d' x' y' w1 := Km.call N0 hb1
    have R1 : KM (w.heap.size + 1 + 1) 0 0 0 0 0 0 w1 := KM.call R0 hb1
    have B1 : Below w.heap.size w w1 := bstep B0 hb1
    clear hb1 B0 M0 N0 R0
    have M1c0 := M1.c0
    have M1c1 := M1.c1
    have M1c2 := M1.c2
    have M1c3 := M1.c3
    have M1c4 := M1.c4
    have M1c5 := M1.c5
    have M1l := M1.1
    have M1n : ¬ w.heap.size = w1.heap.size := by omega
    have N1c0 := N1.c0
    have N1c1 := N1.c1
    have N1c2 := N1.c2
    have N1c3 := N1.c3
    have N1c4 := N1.c4
    have N1c5 := N1.c5
    have N1l := N1.1
    have N1n : ¬ w.heap.size + 1 = w1.heap.size := by omega
    have R1c0 := R1.c0
    have R1c1 := R1.c1
    have R1c2 := R1.c2
    have R1c3 := R1.c3
    have R1c4 := R1.c4
    have R1c5 := R1.c5
    have R1f0 := R1.f0
    have R1f1 := R1.f1
    have R1f2 := R1.f2
    have R1f3 := R1.f3
    have R1f4 := R1.f4
    have R1f5 := R1.f5
    have R1l := R1.lt
    have R1n : ¬ w.heap.size + 1 + 1 = w1.heap.size := by omega
    go_wp2_with fail
    refine (specIsMo_any _ _ _ _ _ _ _).mono ?_
    rintro e w2 ⟨rfl, hb2⟩
    have M2 : Km (w.heap.size) a b c d x y w2 := Km.call M1 hb2
    have N2 : Km (w.heap.size + 1) a' b' c' d' x' y' w2 := Km.call N1 hb2
    have R2 : KM (w.heap.size + 1 + 1) 0 0 0 0 0 0 w2 := KM.call R1 hb2
    have B2 : Below w.heap.size w w2 := bstep B1 hb2
    clear hb2 B1 M1 N1 R1
    have M2c0 := M2.c0
    have M2c1 := M2.c1
    have M2c2 := M2.c2
    have M2c3 := M2.c3
    have M2c4 := M2.c4
    have M2c5 := M2.c5
    have M2l := M2.1
    have M2n : ¬ w.heap.size = w2.heap.size := by omega
    have N2c0 := N2.c0
    have N2c1 := N2.c1
    have N2c2 := N2.c2
    have N2c3 := N2.c3
    have N2c4 := N2.c4
    have N2c5 := N2.c5
    have N2l := N2.1
    have N2n : ¬ w.heap.size + 1 = w2.heap.size := by omega
    have R2c0 := R2.c0
    have R2c1 := R2.c1
    have R2c2 := R2.c2
    have R2c3 := R2.c3
    have R2c4 := R2.c4
    have R2c5 := R2.c5
    have R2f0 := R2.f0
    have R2f1 := R2.f1
    have R2f2 := R2.f2
    have R2f3 := R2.f3
    have R2f4 := R2.f4
    have R2f5 := R2.f5
    have R2l := R2.lt
    have R2n : ¬ w.heap.size + 1 + 1 = w2.heap.size := by omega
    go_wp2
    refine bodyPost_ret (v := .tuple #[.agg #[.int .i64 0, .int .i64 0, .int .i64 0, .int .i64 0, .int .i64 0, .int .i64 0], .int .i64 1]) (by simp [results, Tryd.results8, go_sem, *]) rfl ⟨ret_val EA.out.symm, ?_⟩
    repeat (first | with_reducible assumption | with_reducible exact Below.refl _ _ | with_reducible refine Below.setCell ?_ (by first | omega | (simp <;> omega)) _ | with_reducible refine Below.alloc ?_ (by first | omega | (simp <;> omega)) _ | with_reducible refine bstep ?_ (by with_reducible assumption) | with_reducible refine Below.drew ?_)
  rcases hs1 : vecB (a * x' + b * y' + x) (c * x' + d * y' + y) with _ | _
  · have EA := Lib.hid (show motT (cmpR a b c d x y a' b' c' d' x' y') = .tuple #[.agg #[.int .i64 0, .int .i64 0, .int .i64 0, .int .i64 0, .int .i64 0, .int .i64 0], .int .i64 3] by simp [motT, cmpR, hm, hn, hs1])
    have lu := motB_lim hm
    have vu := motB_vec hm
    have lu' := motB_lim hn
    have vu' := motB_vec hn
    have M0 : Km (w.heap.size) a b c d x y (((w.alloc (.cells #[.int .i64 a, .int .i64 b, .int .i64 c, .int .i64 d, .int .i64 x, .int .i64 y] 29)).alloc (.cells #[.int .i64 a', .int .i64 b', .int .i64 c', .int .i64 d', .int .i64 x', .int .i64 y'] 29)).alloc (.cells #[.int .i64 0, .int .i64 0, .int .i64 0, .int .i64 0, .int .i64 0, .int .i64 0] 29)) := (((Km.at (w.heap.size) rfl).alloc _).alloc _)
    have N0 : Km (w.heap.size + 1) a' b' c' d' x' y' (((w.alloc (.cells #[.int .i64 a, .int .i64 b, .int .i64 c, .int .i64 d, .int .i64 x, .int .i64 y] 29)).alloc (.cells #[.int .i64 a', .int .i64 b', .int .i64 c', .int .i64 d', .int .i64 x', .int .i64 y'] 29)).alloc (.cells #[.int .i64 0, .int .i64 0, .int .i64 0, .int .i64 0, .int .i64 0, .int .i64 0] 29)) := ((Km.at (w.heap.size + 1) (by simp)).alloc _)
    have R0 : KM (w.heap.size + 1 + 1) 0 0 0 0 0 0 (((w.alloc (.cells #[.int .i64 a, .int .i64 b, .int .i64 c, .int .i64 d, .int .i64 x, .int .i64 y] 29)).alloc (.cells #[.int .i64 a', .int .i64 b', .int .i64 c', .int .i64 d', .int .i64 x', .int .i64 y'] 29)).alloc (.cells #[.int .i64 0, .int .i64 0, .int .i64 0, .int .i64 0, .int .i64 0, .int .i64 0] 29)) := (KM.at (w.heap.size + 1 + 1) (by simp))
    have B0 : Below w.heap.size w (((w.alloc (.cells #[.int .i64 a, .int .i64 b, .int .i64 c, .int .i64 d, .int .i64 x, .int .i64 y] 29)).alloc (.cells #[.int .i64 a', .int .i64 b', .int .i64 c', .int .i64 d', .int .i64 x', .int .i64 y'] 29)).alloc (.cells #[.int .i64 0, .int .i64 0, .int .i64 0, .int .i64 0, .int .i64 0, .int .i64 0] 29)) := (Below.alloc (Below.alloc (Below.alloc (Below.refl _ _) (by first | with_reducible exact Nat.le_refl _ | (simp <;> omega)) _) (by first | with_reducible exact Nat.le_refl _ | (simp <;> omega)) _) (by first | with_reducible exact Nat.le_refl _ | (simp <;> omega)) _)
    go_enter Tryd.func8, Tryd.ntmps8
    have M0c0 := M0.c0
    have M0c1 := M0.c1
    have M0c2 := M0.c2
    have M0c3 := M0.c3
    have M0c4 := M0.c4
    have M0c5 := M0.c5
    have M0l := M0.1
    have N0c0 := N0.c0
    have N0c1 := N0.c1
    have N0c2 := N0.c2
    have N0c3 := N0.c3
    have N0c4 := N0.c4
    have N0c5 := N0.c5
    have N0l := N0.1
    have R0c0 := R0.c0
    have R0c1 := R0.c1
    have R0c2 := R0.c2
    have R0c3 := R0.c3
    have R0c4 := R0.c4
    have R0c5 := R0.c5
    have R0f0 := R0.f0
    have R0f1 := R0.f1
    have R0f2 := R0.f2
    have R0f3 := R0.f3
    have R0f4 := R0.f4
    have R0f5 := R0.f5
    have R0l := R0.lt
    go_wp2_with fail
    refine (specIsMo_any _ _ _ _ _ _ _).mono ?_
    rintro e w1 ⟨rfl, hb1⟩
    have M1 : Km (w.heap.size) a b c d x y w1 := Km.call M0 hb1
    have N1 : Km (w.heap.size + 1) a' b' c' d' x' y' w1 := Km.call N0 hb1
    have R1 : KM (w.heap.size + 1 + 1) 0 0 0 0 0 0 w1 := KM.call R0 hb1
    have B1 : Below w.heap.size w w1 := bstep B0 hb1
    clear hb1 B0 M0 N0 R0
    have M1c0 := M1.c0
    have M1c1 := M1.c1
    have M1c2 := M1.c2
    have M1c3 := M1.c3
    have M1c4 := M1.c4
    have M1c5 := M1.c5
    have M1l := M1.1
    have M1n : ¬ w.heap.size = w1.heap.size := by omega
    have N1c0 := N1.c0
    have N1c1 := N1.c1
    have N1c2 := N1.c2
    have N1c3 := N1.c3
    have N1c4 := N1.c4
    have N1c5 := N1.c5
    have N1l := N1.1
    have N1n : ¬ w.heap.size + 1 = w1.heap.size := by omega
    have R1c0 := R1.c0
    have R1c1 := R1.c1
    have R1c2 := R1.c2
    have R1c3 := R1.c3
    have R1c4 := R1.c4
    have R1c5 := R1.c5
    have R1f0 := R1.f0
    have R1f1 := R1.f1
    have R1f2 := R1.f2
    have R1f3 := R1.f3
    have R1f4 := R1.f4
    have R1f5 := R1.f5
    have R1l := R1.lt
    have R1n : ¬ w.heap.size + 1 + 1 = w1.heap.size := by omega
    go_wp2_with fail
    refine (specIsMo_any _ _ _ _ _ _ _).mono ?_
    rintro e w2 ⟨rfl, hb2⟩
    have M2 : Km (w.heap.size) a b c d x y w2 := Km.call M1 hb2
    have N2 : Km (w.heap.size + 1) a' b' c' d' x' y' w2 := Km.call N1 hb2
    have R2 : KM (w.heap.size + 1 + 1) 0 0 0 0 0 0 w2 := KM.call R1 hb2
    have B2 : Below w.heap.size w w2 := bstep B1 hb2
    clear hb2 B1 M1 N1 R1
    have M2c0 := M2.c0
    have M2c1 := M2.c1
    have M2c2 := M2.c2
    have M2c3 := M2.c3
    have M2c4 := M2.c4
    have M2c5 := M2.c5
    have M2l := M2.1
    have M2n : ¬ w.heap.size = w2.heap.size := by omega
    have N2c0 := N2.c0
    have N2c1 := N2.c1
    have N2c2 := N2.c2
    have N2c3 := N2.c3
    have N2c4 := N2.c4
    have N2c5 := N2.c5
    have N2l := N2.1
    have N2n : ¬ w.heap.size + 1 = w2.heap.size := by omega
    have R2c0 := R2.c0
    have R2c1 := R2.c1
    have R2c2 := R2.c2
    have R2c3 := R2.c3
    have R2c4 := R2.c4
    have R2c5 := R2.c5
    have R2f0 := R2.f0
    have R2f1 := R2.f1
    have R2f2 := R2.f2
    have R2f3 := R2.f3
    have R2f4 := R2.f4
    have R2f5 := R2.f5
    have R2l := R2.lt
    have R2n : ¬ w.heap.size + 1 + 1 = w2.heap.size := by omega
    go_wp2_with fail
    refine (l05Compose_any _ _ _ _ _ _ _ _ _ _ _ _ _ lu vu lu' vu').mono ?_
    rintro e w3 ⟨rfl, hb3⟩
    have M3 : Km (w.heap.size) a b c d x y w3 := Km.call M2 hb3
    have N3 : Km (w.heap.size + 1) a' b' c' d' x' y' w3 := Km.call N2 hb3
    have R3 : KM (w.heap.size + 1 + 1) 0 0 0 0 0 0 w3 := KM.call R2 hb3
    have B3 : Below w.heap.size w w3 := bstep B2 hb3
    clear hb3 B2 M2 N2 R2
    have M3c0 := M3.c0
    have M3c1 := M3.c1
    have M3c2 := M3.c2
    have M3c3 := M3.c3
    have M3c4 := M3.c4
    have M3c5 := M3.c5
    have M3l := M3.1
    have M3n : ¬ w.heap.size = w3.heap.size := by omega
    have N3c0 := N3.c0
    have N3c1 := N3.c1
    have N3c2 := N3.c2
    have N3c3 := N3.c3
    have N3c4 := N3.c4
    have N3c5 := N3.c5
    have N3l := N3.1
    have N3n : ¬ w.heap.size + 1 = w3.heap.size := by omega
    have R3c0 := R3.c0
    have R3c1 := R3.c1
    have R3c2 := R3.c2
    have R3c3 := R3.c3
    have R3c4 := R3.c4
    have R3c5 := R3.c5
    have R3f0 := R3.f0
    have R3f1 := R3.f1
    have R3f2 := R3.f2
    have R3f3 := R3.f3
    have R3f4 := R3.f4
    have R3f5 := R3.f5
    have R3l := R3.lt
    have R3n : ¬ w.heap.size + 1 + 1 = w3.heap.size := by omega
    go_wp2_with fail
    refine (specIsVec_any _ _ _).mono ?_
    rintro e w4 ⟨rfl, hb4⟩
    have M4 : Km (w.heap.size) a b c d x y w4 := Km.call (M3.alloc _) hb4
    have N4 : Km (w.heap.size + 1) a' b' c' d' x' y' w4 := Km.call (N3.alloc _) hb4
    have R4 : KM (w.heap.size + 1 + 1) 0 0 0 0 0 0 w4 := KM.call (R3.alloc _) hb4
    have O4 : Km (w3.heap.size) (a * a' + b * c') (a * b' + b * d') (c * a' + d * c') (c * b' + d * d') (a * x' + b * y' + x) (c * x' + d * y' + y) w4 := (Km.at (w3.heap.size) (by simp) : Km (w3.heap.size) (a * a' + b * c') (a * b' + b * d') (c * a' + d * c') (c * b' + d * d') (a * x' + b * y' + x) (c * x' + d * y' + y) _).call hb4
    have B4 : Below w.heap.size w w4 := bstep (Below.alloc B3 (by have := B3.size; first | omega | (simp <;> omega)) _) hb4
    clear hb4 B3 M3 N3 R3
    have M4c0 := M4.c0
    have M4c1 := M4.c1
    have M4c2 := M4.c2
    have M4c3 := M4.c3
    have M4c4 := M4.c4
    have M4c5 := M4.c5
    have M4l := M4.1
    have M4n : ¬ w.heap.size = w4.heap.size := by omega
    have N4c0 := N4.c0
    have N4c1 := N4.c1
    have N4c2 := N4.c2
    have N4c3 := N4.c3
    have N4c4 := N4.c4
    have N4c5 := N4.c5
    have N4l := N4.1
    have N4n : ¬ w.heap.size + 1 = w4.heap.size := by omega
    have R4c0 := R4.c0
    have R4c1 := R4.c1
    have R4c2 := R4.c2
    have R4c3 := R4.c3
    have R4c4 := R4.c4
    have R4c5 := R4.c5
    have R4f0 := R4.f0
    have R4f1 := R4.f1
    have R4f2 := R4.f2
    have R4f3 := R4.f3
    have R4f4 := R4.f4
    have R4f5 := R4.f5
    have R4l := R4.lt
    have R4n : ¬ w.heap.size + 1 + 1 = w4.heap.size := by omega
    have O4c0 := O4.c0
    have O4c1 := O4.c1
    have O4c2 := O4.c2
    have O4c3 := O4.c3
    have O4c4 := O4.c4
    have O4c5 := O4.c5
    have O4l := O4.1
    have O4n : ¬ w3.heap.size = w4.heap.size := by omega
    go_wp2
    refine bodyPost_ret (v := .tuple #[.agg #[.int .i64 0, .int .i64 0, .int .i64 0, .int .i64 0, .int .i64 0, .int .i64 0], .int .i64 3]) (by simp [results, Tryd.results8, go_sem, *]) rfl ⟨ret_val EA.out.symm, ?_⟩
    repeat (first | with_reducible assumption | with_reducible exact Below.refl _ _ | with_reducible refine Below.setCell ?_ (by first | omega | (simp <;> omega)) _ | with_reducible refine Below.alloc ?_ (by first | omega | (simp <;> omega)) _ | with_reducible refine bstep ?_ (by with_reducible assumption) | with_reducible refine Below.drew ?_)
  rcases hs2 : limB (a * a' + b * c') (a * b' + b * d') (c * a' + d * c') (c * b' + d * d') with _ | _
  · have EA := Lib.hid (show motT (cmpR a b c d x y a' b' c' d' x' y') = .tuple #[.agg #[.int .i64 0, .int .i64 0, .int .i64 0, .int .i64 0, .int .i64 0, .int .i64 0], .int .i64 3] by simp [motT, cmpR, hm, hn, hs1, hs2])
    have lu := motB_lim hm
    have vu := motB_vec hm
    have lu' := motB_lim hn
    have vu' := motB_vec hn
    have M0 : Km (w.heap.size) a b c d x y (((w.alloc (.cells #[.int .i64 a, .int .i64 b, .int .i64 c, .int .i64 d, .int .i64 x, .int .i64 y] 29)).alloc (.cells #[.int .i64 a', .int .i64 b', .int .i64 c', .int .i64 d', .int .i64 x', .int .i64 y'] 29)).alloc (.cells #[.int .i64 0, .int .i64 0, .int .i64 0, .int .i64 0, .int .i64 0, .int .i64 0] 29)) := (((Km.at (w.heap.size) rfl).alloc _).alloc _)
    have N0 : Km (w.heap.size + 1) a' b' c' d' x' y' (((w.alloc (.cells #[.int .i64 a, .int .i64 b, .int .i64 c, .int .i64 d, .int .i64 x, .int .i64 y] 29)).alloc (.cells #[.int .i64 a', .int .i64 b', .int .i64 c', .int .i64 d', .int .i64 x', .int .i64 y'] 29)).alloc (.cells #[.int .i64 0, .int .i64 0, .int .i64 0, .int .i64 0, .int .i64 0, .int .i64 0] 29)) := ((Km.at (w.heap.size + 1) (by simp)).alloc _)
    have R0 : KM (w.heap.size + 1 + 1) 0 0 0 0 0 0 (((w.alloc (.cells #[.int .i64 a, .int .i64 b, .int .i64 c, .int .i64 d, .int .i64 x, .int .i64 y] 29)).alloc (.cells #[.int .i64 a', .int .i64 b', .int .i64 c', .int .i64 d', .int .i64 x', .int .i64 y'] 29)).alloc (.cells #[.int .i64 0, .int .i64 0, .int .i64 0, .int .i64 0, .int .i64 0, .int .i64 0] 29)) := (KM.at (w.heap.size + 1 + 1) (by simp))
    have B0 : Below w.heap.size w (((w.alloc (.cells #[.int .i64 a, .int .i64 b, .int .i64 c, .int .i64 d, .int .i64 x, .int .i64 y] 29)).alloc (.cells #[.int .i64 a', .int .i64 b', .int .i64 c', .int .i64 d', .int .i64 x', .int .i64 y'] 29)).alloc (.cells #[.int .i64 0, .int .i64 0, .int .i64 0, .int .i64 0, .int .i64 0, .int .i64 0] 29)) := (Below.alloc (Below.alloc (Below.alloc (Below.refl _ _) (by first | with_reducible exact Nat.le_refl _ | (simp <;> omega)) _) (by first | with_reducible exact Nat.le_refl _ | (simp <;> omega)) _) (by first | with_reducible exact Nat.le_refl _ | (simp <;> omega)) _)
    go_enter Tryd.func8, Tryd.ntmps8
    have M0c0 := M0.c0
    have M0c1 := M0.c1
    have M0c2 := M0.c2
    have M0c3 := M0.c3
    have M0c4 := M0.c4
    have M0c5 := M0.c5
    have M0l := M0.1
    have N0c0 := N0.c0
    have N0c1 := N0.c1
    have N0c2 := N0.c2
    have N0c3 := N0.c3
    have N0c4 := N0.c4
    have N0c5 := N0.c5
    have N0l := N0.1
    have R0c0 := R0.c0
    have R0c1 := R0.c1
    have R0c2 := R0.c2
    have R0c3 := R0.c3
    have R0c4 := R0.c4
    have R0c5 := R0.c5
    have R0f0 := R0.f0
    have R0f1 := R0.f1
    have R0f2 := R0.f2
    have R0f3 := R0.f3
    have R0f4 := R0.f4
    have R0f5 := R0.f5
    have R0l := R0.lt
    go_wp2_with fail
    refine (specIsMo_any _ _ _ _ _ _ _).mono ?_
    rintro e w1 ⟨rfl, hb1⟩
    have M1 : Km (w.heap.size) a b c d x y w1 := Km.call M0 hb1
    have N1 : Km (w.heap.size + 1) a' b' c' d' x' y' w1 := Km.call N0 hb1
    have R1 : KM (w.heap.size + 1 + 1) 0 0 0 0 0 0 w1 := KM.call R0 hb1
    have B1 : Below w.heap.size w w1 := bstep B0 hb1
    clear hb1 B0 M0 N0 R0
    have M1c0 := M1.c0
    have M1c1 := M1.c1
    have M1c2 := M1.c2
    have M1c3 := M1.c3
    have M1c4 := M1.c4
    have M1c5 := M1.c5
    have M1l := M1.1
    have M1n : ¬ w.heap.size = w1.heap.size := by omega
    have N1c0 := N1.c0
    have N1c1 := N1.c1
    have N1c2 := N1.c2
    have N1c3 := N1.c3
    have N1c4 := N1.c4
    have N1c5 := N1.c5
    have N1l := N1.1
    have N1n : ¬ w.heap.size + 1 = w1.heap.size := by omega
    have R1c0 := R1.c0
    have R1c1 := R1.c1
    have R1c2 := R1.c2
    have R1c3 := R1.c3
    have R1c4 := R1.c4
    have R1c5 := R1.c5
    have R1f0 := R1.f0
    have R1f1 := R1.f1
    have R1f2 := R1.f2
    have R1f3 := R1.f3
    have R1f4 := R1.f4
    have R1f5 := R1.f5
    have R1l := R1.lt
    have R1n : ¬ w.heap.size + 1 + 1 = w1.heap.size := by omega
    go_wp2_with fail
    refine (specIsMo_any _ _ _ _ _ _ _).mono ?_
    rintro e w2 ⟨rfl, hb2⟩
    have M2 : Km (w.heap.size) a b c d x y w2 := Km.call M1 hb2
    have N2 : Km (w.heap.size + 1) a' b' c' d' x' y' w2 := Km.call N1 hb2
    have R2 : KM (w.heap.size + 1 + 1) 0 0 0 0 0 0 w2 := KM.call R1 hb2
    have B2 : Below w.heap.size w w2 := bstep B1 hb2
    clear hb2 B1 M1 N1 R1
    have M2c0 := M2.c0
    have M2c1 := M2.c1
    have M2c2 := M2.c2
    have M2c3 := M2.c3
    have M2c4 := M2.c4
    have M2c5 := M2.c5
    have M2l := M2.1
    have M2n : ¬ w.heap.size = w2.heap.size := by omega
    have N2c0 := N2.c0
    have N2c1 := N2.c1
    have N2c2 := N2.c2
    have N2c3 := N2.c3
    have N2c4 := N2.c4
    have N2c5 := N2.c5
    have N2l := N2.1
    have N2n : ¬ w.heap.size + 1 = w2.heap.size := by omega
    have R2c0 := R2.c0
    have R2c1 := R2.c1
    have R2c2 := R2.c2
    have R2c3 := R2.c3
    have R2c4 := R2.c4
    have R2c5 := R2.c5
    have R2f0 := R2.f0
    have R2f1 := R2.f1
    have R2f2 := R2.f2
    have R2f3 := R2.f3
    have R2f4 := R2.f4
    have R2f5 := R2.f5
    have R2l := R2.lt
    have R2n : ¬ w.heap.size + 1 + 1 = w2.heap.size := by omega
    go_wp2_with fail
    refine (l05Compose_any _ _ _ _ _ _ _ _ _ _ _ _ _ lu vu lu' vu').mono ?_
    rintro e w3 ⟨rfl, hb3⟩
    have M3 : Km (w.heap.size) a b c d x y w3 := Km.call M2 hb3
    have N3 : Km (w.heap.size + 1) a' b' c' d' x' y' w3 := Km.call N2 hb3
    have R3 : KM (w.heap.size + 1 + 1) 0 0 0 0 0 0 w3 := KM.call R2 hb3
    have B3 : Below w.heap.size w w3 := bstep B2 hb3
    clear hb3 B2 M2 N2 R2
    have M3c0 := M3.c0
    have M3c1 := M3.c1
    have M3c2 := M3.c2
    have M3c3 := M3.c3
    have M3c4 := M3.c4
    have M3c5 := M3.c5
    have M3l := M3.1
    have M3n : ¬ w.heap.size = w3.heap.size := by omega
    have N3c0 := N3.c0
    have N3c1 := N3.c1
    have N3c2 := N3.c2
    have N3c3 := N3.c3
    have N3c4 := N3.c4
    have N3c5 := N3.c5
    have N3l := N3.1
    have N3n : ¬ w.heap.size + 1 = w3.heap.size := by omega
    have R3c0 := R3.c0
    have R3c1 := R3.c1
    have R3c2 := R3.c2
    have R3c3 := R3.c3
    have R3c4 := R3.c4
    have R3c5 := R3.c5
    have R3f0 := R3.f0
    have R3f1 := R3.f1
    have R3f2 := R3.f2
    have R3f3 := R3.f3
    have R3f4 := R3.f4
    have R3f5 := R3.f5
    have R3l := R3.lt
    have R3n : ¬ w.heap.size + 1 + 1 = w3.heap.size := by omega
    go_wp2_with fail
    refine (specIsVec_any _ _ _).mono ?_
    rintro e w4 ⟨rfl, hb4⟩
    have M4 : Km (w.heap.size) a b c d x y w4 := Km.call (M3.alloc _) hb4
    have N4 : Km (w.heap.size + 1) a' b' c' d' x' y' w4 := Km.call (N3.alloc _) hb4
    have R4 : KM (w.heap.size + 1 + 1) 0 0 0 0 0 0 w4 := KM.call (R3.alloc _) hb4
    have O4 : Km (w3.heap.size) (a * a' + b * c') (a * b' + b * d') (c * a' + d * c') (c * b' + d * d') (a * x' + b * y' + x) (c * x' + d * y' + y) w4 := (Km.at (w3.heap.size) (by simp) : Km (w3.heap.size) (a * a' + b * c') (a * b' + b * d') (c * a' + d * c') (c * b' + d * d') (a * x' + b * y' + x) (c * x' + d * y' + y) _).call hb4
    have B4 : Below w.heap.size w w4 := bstep (Below.alloc B3 (by have := B3.size; first | omega | (simp <;> omega)) _) hb4
    clear hb4 B3 M3 N3 R3
    have M4c0 := M4.c0
    have M4c1 := M4.c1
    have M4c2 := M4.c2
    have M4c3 := M4.c3
    have M4c4 := M4.c4
    have M4c5 := M4.c5
    have M4l := M4.1
    have M4n : ¬ w.heap.size = w4.heap.size := by omega
    have N4c0 := N4.c0
    have N4c1 := N4.c1
    have N4c2 := N4.c2
    have N4c3 := N4.c3
    have N4c4 := N4.c4
    have N4c5 := N4.c5
    have N4l := N4.1
    have N4n : ¬ w.heap.size + 1 = w4.heap.size := by omega
    have R4c0 := R4.c0
    have R4c1 := R4.c1
    have R4c2 := R4.c2
    have R4c3 := R4.c3
    have R4c4 := R4.c4
    have R4c5 := R4.c5
    have R4f0 := R4.f0
    have R4f1 := R4.f1
    have R4f2 := R4.f2
    have R4f3 := R4.f3
    have R4f4 := R4.f4
    have R4f5 := R4.f5
    have R4l := R4.lt
    have R4n : ¬ w.heap.size + 1 + 1 = w4.heap.size := by omega
    have O4c0 := O4.c0
    have O4c1 := O4.c1
    have O4c2 := O4.c2
    have O4c3 := O4.c3
    have O4c4 := O4.c4
    have O4c5 := O4.c5
    have O4l := O4.1
    have O4n : ¬ w3.heap.size = w4.heap.size := by omega
    go_wp2_with fail
    refine (l02Small_any _ _ _ _ _).mono ?_
    rintro e w5 ⟨rfl, hb5⟩
    have M5 : Km (w.heap.size) a b c d x y w5 := Km.call M4 hb5
    have N5 : Km (w.heap.size + 1) a' b' c' d' x' y' w5 := Km.call N4 hb5
    have R5 : KM (w.heap.size + 1 + 1) 0 0 0 0 0 0 w5 := KM.call R4 hb5
    have O5 : Km (w3.heap.size) (a * a' + b * c') (a * b' + b * d') (c * a' + d * c') (c * b' + d * d') (a * x' + b * y' + x) (c * x' + d * y' + y) w5 := Km.call O4 hb5
    have B5 : Below w.heap.size w w5 := bstep B4 hb5
    clear hb5 B4 M4 N4 R4 O4
    have M5c0 := M5.c0
    have M5c1 := M5.c1
    have M5c2 := M5.c2
    have M5c3 := M5.c3
    have M5c4 := M5.c4
    have M5c5 := M5.c5
    have M5l := M5.1
    have M5n : ¬ w.heap.size = w5.heap.size := by omega
    have N5c0 := N5.c0
    have N5c1 := N5.c1
    have N5c2 := N5.c2
    have N5c3 := N5.c3
    have N5c4 := N5.c4
    have N5c5 := N5.c5
    have N5l := N5.1
    have N5n : ¬ w.heap.size + 1 = w5.heap.size := by omega
    have R5c0 := R5.c0
    have R5c1 := R5.c1
    have R5c2 := R5.c2
    have R5c3 := R5.c3
    have R5c4 := R5.c4
    have R5c5 := R5.c5
    have R5f0 := R5.f0
    have R5f1 := R5.f1
    have R5f2 := R5.f2
    have R5f3 := R5.f3
    have R5f4 := R5.f4
    have R5f5 := R5.f5
    have R5l := R5.lt
    have R5n : ¬ w.heap.size + 1 + 1 = w5.heap.size := by omega
    have O5c0 := O5.c0
    have O5c1 := O5.c1
    have O5c2 := O5.c2
    have O5c3 := O5.c3
    have O5c4 := O5.c4
    have O5c5 := O5.c5
    have O5l := O5.1
    have O5n : ¬ w3.heap.size = w5.heap.size := by omega
    go_wp2
    refine bodyPost_ret (v := .tuple #[.agg #[.int .i64 0, .int .i64 0, .int .i64 0, .int .i64 0, .int .i64 0, .int .i64 0], .int .i64 3]) (by simp [results, Tryd.results8, go_sem, *]) rfl ⟨ret_val EA.out.symm, ?_⟩
    repeat (first | with_reducible assumption | with_reducible exact Below.refl _ _ | with_reducible refine Below.setCell ?_ (by first | omega | (simp <;> omega)) _ | with_reducible refine Below.alloc ?_ (by first | omega | (simp <;> omega)) _ | with_reducible refine bstep ?_ (by with_reducible assumption) | with_reducible refine Below.drew ?_)
  rcases ho : motB (a * a' + b * c') (a * b' + b * d') (c * a' + d * c') (c * b' + d * d') (a * x' + b * y' + x) (c * x' + d * y' + y) with _ | _
  · have EA := Lib.hid (show motT (cmpR a b c d x y a' b' c' d' x' y') = .tuple #[.agg #[.int .i64 0, .int .i64 0, .int .i64 0, .int .i64 0, .int .i64 0, .int .i64 0], .int .i64 5] by simp [motT, cmpR, hm, hn, hs1, hs2, ho])
    have lu := motB_lim hm
    have vu := motB_vec hm
    have lu' := motB_lim hn
    have vu' := motB_vec hn
    have M0 : Km (w.heap.size) a b c d x y (((w.alloc (.cells #[.int .i64 a, .int .i64 b, .int .i64 c, .int .i64 d, .int .i64 x, .int .i64 y] 29)).alloc (.cells #[.int .i64 a', .int .i64 b', .int .i64 c', .int .i64 d', .int .i64 x', .int .i64 y'] 29)).alloc (.cells #[.int .i64 0, .int .i64 0, .int .i64 0, .int .i64 0, .int .i64 0, .int .i64 0] 29)) := (((Km.at (w.heap.size) rfl).alloc _).alloc _)
    have N0 : Km (w.heap.size + 1) a' b' c' d' x' y' (((w.alloc (.cells #[.int .i64 a, .int .i64 b, .int .i64 c, .int .i64 d, .int .i64 x, .int .i64 y] 29)).alloc (.cells #[.int .i64 a', .int .i64 b', .int .i64 c', .int .i64 d', .int .i64 x', .int .i64 y'] 29)).alloc (.cells #[.int .i64 0, .int .i64 0, .int .i64 0, .int .i64 0, .int .i64 0, .int .i64 0] 29)) := ((Km.at (w.heap.size + 1) (by simp)).alloc _)
    have R0 : KM (w.heap.size + 1 + 1) 0 0 0 0 0 0 (((w.alloc (.cells #[.int .i64 a, .int .i64 b, .int .i64 c, .int .i64 d, .int .i64 x, .int .i64 y] 29)).alloc (.cells #[.int .i64 a', .int .i64 b', .int .i64 c', .int .i64 d', .int .i64 x', .int .i64 y'] 29)).alloc (.cells #[.int .i64 0, .int .i64 0, .int .i64 0, .int .i64 0, .int .i64 0, .int .i64 0] 29)) := (KM.at (w.heap.size + 1 + 1) (by simp))
    have B0 : Below w.heap.size w (((w.alloc (.cells #[.int .i64 a, .int .i64 b, .int .i64 c, .int .i64 d, .int .i64 x, .int .i64 y] 29)).alloc (.cells #[.int .i64 a', .int .i64 b', .int .i64 c', .int .i64 d', .int .i64 x', .int .i64 y'] 29)).alloc (.cells #[.int .i64 0, .int .i64 0, .int .i64 0, .int .i64 0, .int .i64 0, .int .i64 0] 29)) := (Below.alloc (Below.alloc (Below.alloc (Below.refl _ _) (by first | with_reducible exact Nat.le_refl _ | (simp <;> omega)) _) (by first | with_reducible exact Nat.le_refl _ | (simp <;> omega)) _) (by first | with_reducible exact Nat.le_refl _ | (simp <;> omega)) _)
    go_enter Tryd.func8, Tryd.ntmps8
    have M0c0 := M0.c0
    have M0c1 := M0.c1
    have M0c2 := M0.c2
    have M0c3 := M0.c3
    have M0c4 := M0.c4
    have M0c5 := M0.c5
    have M0l := M0.1
    have N0c0 := N0.c0
    have N0c1 := N0.c1
    have N0c2 := N0.c2
    have N0c3 := N0.c3
    have N0c4 := N0.c4
    have N0c5 := N0.c5
    have N0l := N0.1
    have R0c0 := R0.c0
    have R0c1 := R0.c1
    have R0c2 := R0.c2
    have R0c3 := R0.c3
    have R0c4 := R0.c4
    have R0c5 := R0.c5
    have R0f0 := R0.f0
    have R0f1 := R0.f1
    have R0f2 := R0.f2
    have R0f3 := R0.f3
    have R0f4 := R0.f4
    have R0f5 := R0.f5
    have R0l := R0.lt
    go_wp2_with fail
    refine (specIsMo_any _ _ _ _ _ _ _).mono ?_
    rintro e w1 ⟨rfl, hb1⟩
    have M1 : Km (w.heap.size) a b c d x y w1 := Km.call M0 hb1
    have N1 : Km (w.heap.size + 1) a' b' c' d' x' y' w1 := Km.call N0 hb1
    have R1 : KM (w.heap.size + 1 + 1) 0 0 0 0 0 0 w1 := KM.call R0 hb1
    have B1 : Below w.heap.size w w1 := bstep B0 hb1
    clear hb1 B0 M0 N0 R0
    have M1c0 := M1.c0
    have M1c1 := M1.c1
    have M1c2 := M1.c2
    have M1c3 := M1.c3
    have M1c4 := M1.c4
    have M1c5 := M1.c5
    have M1l := M1.1
    have M1n : ¬ w.heap.size = w1.heap.size := by omega
    have N1c0 := N1.c0
    have N1c1 := N1.c1
    have N1c2 := N1.c2
    have N1c3 := N1.c3
    have N1c4 := N1.c4
    have N1c5 := N1.c5
    have N1l := N1.1
    have N1n : ¬ w.heap.size + 1 = w1.heap.size := by omega
    have R1c0 := R1.c0
    have R1c1 := R1.c1
    have R1c2 := R1.c2
    have R1c3 := R1.c3
    have R1c4 := R1.c4
    have R1c5 := R1.c5
    have R1f0 := R1.f0
    have R1f1 := R1.f1
    have R1f2 := R1.f2
    have R1f3 := R1.f3
    have R1f4 := R1.f4
    have R1f5 := R1.f5
    have R1l := R1.lt
    have R1n : ¬ w.heap.size + 1 + 1 = w1.heap.size := by omega
    go_wp2_with fail
    refine (specIsMo_any _ _ _ _ _ _ _).mono ?_
    rintro e w2 ⟨rfl, hb2⟩
    have M2 : Km (w.heap.size) a b c d x y w2 := Km.call M1 hb2
    have N2 : Km (w.heap.size + 1) a' b' c' d' x' y' w2 := Km.call N1 hb2
    have R2 : KM (w.heap.size + 1 + 1) 0 0 0 0 0 0 w2 := KM.call R1 hb2
    have B2 : Below w.heap.size w w2 := bstep B1 hb2
    clear hb2 B1 M1 N1 R1
    have M2c0 := M2.c0
    have M2c1 := M2.c1
    have M2c2 := M2.c2
    have M2c3 := M2.c3
    have M2c4 := M2.c4
    have M2c5 := M2.c5
    have M2l := M2.1
    have M2n : ¬ w.heap.size = w2.heap.size := by omega
    have N2c0 := N2.c0
    have N2c1 := N2.c1
    have N2c2 := N2.c2
    have N2c3 := N2.c3
    have N2c4 := N2.c4
    have N2c5 := N2.c5
    have N2l := N2.1
    have N2n : ¬ w.heap.size + 1 = w2.heap.size := by omega
    have R2c0 := R2.c0
    have R2c1 := R2.c1
    have R2c2 := R2.c2
    have R2c3 := R2.c3
    have R2c4 := R2.c4
    have R2c5 := R2.c5
    have R2f0 := R2.f0
    have R2f1 := R2.f1
    have R2f2 := R2.f2
    have R2f3 := R2.f3
    have R2f4 := R2.f4
    have R2f5 := R2.f5
    have R2l := R2.lt
    have R2n : ¬ w.heap.size + 1 + 1 = w2.heap.size := by omega
    go_wp2_with fail
    refine (l05Compose_any _ _ _ _ _ _ _ _ _ _ _ _ _ lu vu lu' vu').mono ?_
    rintro e w3 ⟨rfl, hb3⟩
    have M3 : Km (w.heap.size) a b c d x y w3 := Km.call M2 hb3
    have N3 : Km (w.heap.size + 1) a' b' c' d' x' y' w3 := Km.call N2 hb3
    have R3 : KM (w.heap.size + 1 + 1) 0 0 0 0 0 0 w3 := KM.call R2 hb3
    have B3 : Below w.heap.size w w3 := bstep B2 hb3
    clear hb3 B2 M2 N2 R2
    have M3c0 := M3.c0
    have M3c1 := M3.c1
    have M3c2 := M3.c2
    have M3c3 := M3.c3
    have M3c4 := M3.c4
    have M3c5 := M3.c5
    have M3l := M3.1
    have M3n : ¬ w.heap.size = w3.heap.size := by omega
    have N3c0 := N3.c0
    have N3c1 := N3.c1
    have N3c2 := N3.c2
    have N3c3 := N3.c3
    have N3c4 := N3.c4
    have N3c5 := N3.c5
    have N3l := N3.1
    have N3n : ¬ w.heap.size + 1 = w3.heap.size := by omega
    have R3c0 := R3.c0
    have R3c1 := R3.c1
    have R3c2 := R3.c2
    have R3c3 := R3.c3
    have R3c4 := R3.c4
    have R3c5 := R3.c5
    have R3f0 := R3.f0
    have R3f1 := R3.f1
    have R3f2 := R3.f2
    have R3f3 := R3.f3
    have R3f4 := R3.f4
    have R3f5 := R3.f5
    have R3l := R3.lt
    have R3n : ¬ w.heap.size + 1 + 1 = w3.heap.size := by omega
    go_wp2_with fail
    refine (specIsVec_any _ _ _).mono ?_
    rintro e w4 ⟨rfl, hb4⟩
    have M4 : Km (w.heap.size) a b c d x y w4 := Km.call (M3.alloc _) hb4
    have N4 : Km (w.heap.size + 1) a' b' c' d' x' y' w4 := Km.call (N3.alloc _) hb4
    have R4 : KM (w.heap.size + 1 + 1) 0 0 0 0 0 0 w4 := KM.call (R3.alloc _) hb4
    have O4 : Km (w3.heap.size) (a * a' + b * c') (a * b' + b * d') (c * a' + d * c') (c * b' + d * d') (a * x' + b * y' + x) (c * x' + d * y' + y) w4 := (Km.at (w3.heap.size) (by simp) : Km (w3.heap.size) (a * a' + b * c') (a * b' + b * d') (c * a' + d * c') (c * b' + d * d') (a * x' + b * y' + x) (c * x' + d * y' + y) _).call hb4
    have B4 : Below w.heap.size w w4 := bstep (Below.alloc B3 (by have := B3.size; first | omega | (simp <;> omega)) _) hb4
    clear hb4 B3 M3 N3 R3
    have M4c0 := M4.c0
    have M4c1 := M4.c1
    have M4c2 := M4.c2
    have M4c3 := M4.c3
    have M4c4 := M4.c4
    have M4c5 := M4.c5
    have M4l := M4.1
    have M4n : ¬ w.heap.size = w4.heap.size := by omega
    have N4c0 := N4.c0
    have N4c1 := N4.c1
    have N4c2 := N4.c2
    have N4c3 := N4.c3
    have N4c4 := N4.c4
    have N4c5 := N4.c5
    have N4l := N4.1
    have N4n : ¬ w.heap.size + 1 = w4.heap.size := by omega
    have R4c0 := R4.c0
    have R4c1 := R4.c1
    have R4c2 := R4.c2
    have R4c3 := R4.c3
    have R4c4 := R4.c4
    have R4c5 := R4.c5
    have R4f0 := R4.f0
    have R4f1 := R4.f1
    have R4f2 := R4.f2
    have R4f3 := R4.f3
    have R4f4 := R4.f4
    have R4f5 := R4.f5
    have R4l := R4.lt
    have R4n : ¬ w.heap.size + 1 + 1 = w4.heap.size := by omega
    have O4c0 := O4.c0
    have O4c1 := O4.c1
    have O4c2 := O4.c2
    have O4c3 := O4.c3
    have O4c4 := O4.c4
    have O4c5 := O4.c5
    have O4l := O4.1
    have O4n : ¬ w3.heap.size = w4.heap.size := by omega
    go_wp2_with fail
    refine (l02Small_any _ _ _ _ _).mono ?_
    rintro e w5 ⟨rfl, hb5⟩
    have M5 : Km (w.heap.size) a b c d x y w5 := Km.call M4 hb5
    have N5 : Km (w.heap.size + 1) a' b' c' d' x' y' w5 := Km.call N4 hb5
    have R5 : KM (w.heap.size + 1 + 1) 0 0 0 0 0 0 w5 := KM.call R4 hb5
    have O5 : Km (w3.heap.size) (a * a' + b * c') (a * b' + b * d') (c * a' + d * c') (c * b' + d * d') (a * x' + b * y' + x) (c * x' + d * y' + y) w5 := Km.call O4 hb5
    have B5 : Below w.heap.size w w5 := bstep B4 hb5
    clear hb5 B4 M4 N4 R4 O4
    have M5c0 := M5.c0
    have M5c1 := M5.c1
    have M5c2 := M5.c2
    have M5c3 := M5.c3
    have M5c4 := M5.c4
    have M5c5 := M5.c5
    have M5l := M5.1
    have M5n : ¬ w.heap.size = w5.heap.size := by omega
    have N5c0 := N5.c0
    have N5c1 := N5.c1
    have N5c2 := N5.c2
    have N5c3 := N5.c3
    have N5c4 := N5.c4
    have N5c5 := N5.c5
    have N5l := N5.1
    have N5n : ¬ w.heap.size + 1 = w5.heap.size := by omega
    have R5c0 := R5.c0
    have R5c1 := R5.c1
    have R5c2 := R5.c2
    have R5c3 := R5.c3
    have R5c4 := R5.c4
    have R5c5 := R5.c5
    have R5f0 := R5.f0
    have R5f1 := R5.f1
    have R5f2 := R5.f2
    have R5f3 := R5.f3
    have R5f4 := R5.f4
    have R5f5 := R5.f5
    have R5l := R5.lt
    have R5n : ¬ w.heap.size + 1 + 1 = w5.heap.size := by omega
    have O5c0 := O5.c0
    have O5c1 := O5.c1
    have O5c2 := O5.c2
    have O5c3 := O5.c3
    have O5c4 := O5.c4
    have O5c5 := O5.c5
    have O5l := O5.1
    have O5n : ¬ w3.heap.size = w5.heap.size := by omega
    go_wp2_with fail
    refine (specIsMo_any _ _ _ _ _ _ _).mono ?_
    rintro e w6 ⟨rfl, hb6⟩
    have M6 : Km (w.heap.size) a b c d x y w6 := Km.call M5 hb6
    have N6 : Km (w.heap.size + 1) a' b' c' d' x' y' w6 := Km.call N5 hb6
    have R6 : KM (w.heap.size + 1 + 1) 0 0 0 0 0 0 w6 := KM.call R5 hb6
    have O6 : Km (w3.heap.size) (a * a' + b * c') (a * b' + b * d') (c * a' + d * c') (c * b' + d * d') (a * x' + b * y' + x) (c * x' + d * y' + y) w6 := Km.call O5 hb6
    have B6 : Below w.heap.size w w6 := bstep B5 hb6
    clear hb6 B5 M5 N5 R5 O5
    have M6c0 := M6.c0
    have M6c1 := M6.c1
    have M6c2 := M6.c2
    have M6c3 := M6.c3
    have M6c4 := M6.c4
    have M6c5 := M6.c5
    have M6l := M6.1
    have M6n : ¬ w.heap.size = w6.heap.size := by omega
    have N6c0 := N6.c0
    have N6c1 := N6.c1
    have N6c2 := N6.c2
    have N6c3 := N6.c3
    have N6c4 := N6.c4
    have N6c5 := N6.c5
    have N6l := N6.1
    have N6n : ¬ w.heap.size + 1 = w6.heap.size := by omega
    have R6c0 := R6.c0
    have R6c1 := R6.c1
    have R6c2 := R6.c2
    have R6c3 := R6.c3
    have R6c4 := R6.c4
    have R6c5 := R6.c5
    have R6f0 := R6.f0
    have R6f1 := R6.f1
    have R6f2 := R6.f2
    have R6f3 := R6.f3
    have R6f4 := R6.f4
    have R6f5 := R6.f5
    have R6l := R6.lt
    have R6n : ¬ w.heap.size + 1 + 1 = w6.heap.size := by omega
    have O6c0 := O6.c0
    have O6c1 := O6.c1
    have O6c2 := O6.c2
    have O6c3 := O6.c3
    have O6c4 := O6.c4
    have O6c5 := O6.c5
    have O6l := O6.1
    have O6n : ¬ w3.heap.size = w6.heap.size := by omega
    go_wp2
    refine bodyPost_ret (v := .tuple #[.agg #[.int .i64 0, .int .i64 0, .int .i64 0, .int .i64 0, .int .i64 0, .int .i64 0], .int .i64 5]) (by simp [results, Tryd.results8, go_sem, *]) rfl ⟨ret_val EA.out.symm, ?_⟩
    repeat (first | with_reducible assumption | with_reducible exact Below.refl _ _ | with_reducible refine Below.setCell ?_ (by first | omega | (simp <;> omega)) _ | with_reducible refine Below.alloc ?_ (by first | omega | (simp <;> omega)) _ | with_reducible refine bstep ?_ (by with_reducible assumption) | with_reducible refine Below.drew ?_)
  · have EA := Lib.hid (show motT (cmpR a b c d x y a' b' c' d' x' y') = .tuple #[.agg #[.int .i64 (a * a' + b * c'), .int .i64 (a * b' + b * d'), .int .i64 (c * a' + d * c'), .int .i64 (c * b' + d * d'), .int .i64 (a * x' + b * y' + x), .int .i64 (c * x' + d * y' + y)], .int .i64 0] by simp [motT, cmpR, hm, hn, hs1, hs2, ho])
    have lu := motB_lim hm
    have vu := motB_vec hm
    have lu' := motB_lim hn
    have vu' := motB_vec hn
    have M0 : Km (w.heap.size) a b c d x y (((w.alloc (.cells #[.int .i64 a, .int .i64 b, .int .i64 c, .int .i64 d, .int .i64 x, .int .i64 y] 29)).alloc (.cells #[.int .i64 a', .int .i64 b', .int .i64 c', .int .i64 d', .int .i64 x', .int .i64 y'] 29)).alloc (.cells #[.int .i64 0, .int .i64 0, .int .i64 0, .int .i64 0, .int .i64 0, .int .i64 0] 29)) := (((Km.at (w.heap.size) rfl).alloc _).alloc _)
    have N0 : Km (w.heap.size + 1) a' b' c' d' x' y' (((w.alloc (.cells #[.int .i64 a, .int .i64 b, .int .i64 c, .int .i64 d, .int .i64 x, .int .i64 y] 29)).alloc (.cells #[.int .i64 a', .int .i64 b', .int .i64 c', .int .i64 d', .int .i64 x', .int .i64 y'] 29)).alloc (.cells #[.int .i64 0, .int .i64 0, .int .i64 0, .int .i64 0, .int .i64 0, .int .i64 0] 29)) := ((Km.at (w.heap.size + 1) (by simp)).alloc _)
    have R0 : KM (w.heap.size + 1 + 1) 0 0 0 0 0 0 (((w.alloc (.cells #[.int .i64 a, .int .i64 b, .int .i64 c, .int .i64 d, .int .i64 x, .int .i64 y] 29)).alloc (.cells #[.int .i64 a', .int .i64 b', .int .i64 c', .int .i64 d', .int .i64 x', .int .i64 y'] 29)).alloc (.cells #[.int .i64 0, .int .i64 0, .int .i64 0, .int .i64 0, .int .i64 0, .int .i64 0] 29)) := (KM.at (w.heap.size + 1 + 1) (by simp))
    have B0 : Below w.heap.size w (((w.alloc (.cells #[.int .i64 a, .int .i64 b, .int .i64 c, .int .i64 d, .int .i64 x, .int .i64 y] 29)).alloc (.cells #[.int .i64 a', .int .i64 b', .int .i64 c', .int .i64 d', .int .i64 x', .int .i64 y'] 29)).alloc (.cells #[.int .i64 0, .int .i64 0, .int .i64 0, .int .i64 0, .int .i64 0, .int .i64 0] 29)) := (Below.alloc (Below.alloc (Below.alloc (Below.refl _ _) (by first | with_reducible exact Nat.le_refl _ | (simp <;> omega)) _) (by first | with_reducible exact Nat.le_refl _ | (simp <;> omega)) _) (by first | with_reducible exact Nat.le_refl _ | (simp <;> omega)) _)
    go_enter Tryd.func8, Tryd.ntmps8
    have M0c0 := M0.c0
    have M0c1 := M0.c1
    have M0c2 := M0.c2
    have M0c3 := M0.c3
    have M0c4 := M0.c4
    have M0c5 := M0.c5
    have M0l := M0.1
    have N0c0 := N0.c0
    have N0c1 := N0.c1
    have N0c2 := N0.c2
    have N0c3 := N0.c3
    have N0c4 := N0.c4
    have N0c5 := N0.c5
    have N0l := N0.1
    have R0c0 := R0.c0
    have R0c1 := R0.c1
    have R0c2 := R0.c2
    have R0c3 := R0.c3
    have R0c4 := R0.c4
    have R0c5 := R0.c5
    have R0f0 := R0.f0
    have R0f1 := R0.f1
    have R0f2 := R0.f2
    have R0f3 := R0.f3
    have R0f4 := R0.f4
    have R0f5 := R0.f5
    have R0l := R0.lt
    go_wp2_with fail
    refine (specIsMo_any _ _ _ _ _ _ _).mono ?_
    rintro e w1 ⟨rfl, hb1⟩
    have M1 : Km (w.heap.size) a b c d x y w1 := Km.call M0 hb1
    have N1 : Km (w.heap.size + 1) a' b' c' d' x' y' w1 := Km.call N0 hb1
    have R1 : KM (w.heap.size + 1 + 1) 0 0 0 0 0 0 w1 := KM.call R0 hb1
    have B1 : Below w.heap.size w w1 := bstep B0 hb1
    clear hb1 B0 M0 N0 R0
    have M1c0 := M1.c0
    have M1c1 := M1.c1
    have M1c2 := M1.c2
    have M1c3 := M1.c3
    have M1c4 := M1.c4
    have M1c5 := M1.c5
    have M1l := M1.1
    have M1n : ¬ w.heap.size = w1.heap.size := by omega
    have N1c0 := N1.c0
    have N1c1 := N1.c1
    have N1c2 := N1.c2
    have N1c3 := N1.c3
    have N1c4 := N1.c4
    have N1c5 := N1.c5
    have N1l := N1.1
    have N1n : ¬ w.heap.size + 1 = w1.heap.size := by omega
    have R1c0 := R1.c0
    have R1c1 := R1.c1
    have R1c2 := R1.c2
    have R1c3 := R1.c3
    have R1c4 := R1.c4
    have R1c5 := R1.c5
    have R1f0 := R1.f0
    have R1f1 := R1.f1
    have R1f2 := R1.f2
    have R1f3 := R1.f3
    have R1f4 := R1.f4
    have R1f5 := R1.f5
    have R1l := R1.lt
    have R1n : ¬ w.heap.size + 1 + 1 = w1.heap.size := by omega
    go_wp2_with fail
    refine (specIsMo_any _ _ _ _ _ _ _).mono ?_
    rintro e w2 ⟨rfl, hb2⟩
    have M2 : Km (w.heap.size) a b c d x y w2 := Km.call M1 hb2
    have N2 : Km (w.heap.size + 1) a' b' c' d' x' y' w2 := Km.call N1 hb2
    have R2 : KM (w.heap.size + 1 + 1) 0 0 0 0 0 0 w2 := KM.call R1 hb2
    have B2 : Below w.heap.size w w2 := bstep B1 hb2
    clear hb2 B1 M1 N1 R1
    have M2c0 := M2.c0
    have M2c1 := M2.c1
    have M2c2 := M2.c2
    have M2c3 := M2.c3
    have M2c4 := M2.c4
    have M2c5 := M2.c5
    have M2l := M2.1
    have M2n : ¬ w.heap.size = w2.heap.size := by omega
    have N2c0 := N2.c0
    have N2c1 := N2.c1
    have N2c2 := N2.c2
    have N2c3 := N2.c3
    have N2c4 := N2.c4
    have N2c5 := N2.c5
    have N2l := N2.1
    have N2n : ¬ w.heap.size + 1 = w2.heap.size := by omega
    have R2c0 := R2.c0
    have R2c1 := R2.c1
    have R2c2 := R2.c2
    have R2c3 := R2.c3
    have R2c4 := R2.c4
    have R2c5 := R2.c5
    have R2f0 := R2.f0
    have R2f1 := R2.f1
    have R2f2 := R2.f2
    have R2f3 := R2.f3
    have R2f4 := R2.f4
    have R2f5 := R2.f5
    have R2l := R2.lt
    have R2n : ¬ w.heap.size + 1 + 1 = w2.heap.size := by omega
    go_wp2_with fail
    refine (l05Compose_any _ _ _ _ _ _ _ _ _ _ _ _ _ lu vu lu' vu').mono ?_
    rintro e w3 ⟨rfl, hb3⟩
    have M3 : Km (w.heap.size) a b c d x y w3 := Km.call M2 hb3
    have N3 : Km (w.heap.size + 1) a' b' c' d' x' y' w3 := Km.call N2 hb3
    have R3 : KM (w.heap.size + 1 + 1) 0 0 0 0 0 0 w3 := KM.call R2 hb3
    have B3 : Below w.heap.size w w3 := bstep B2 hb3
    clear hb3 B2 M2 N2 R2
    have M3c0 := M3.c0
    have M3c1 := M3.c1
    have M3c2 := M3.c2
    have M3c3 := M3.c3
    have M3c4 := M3.c4
    have M3c5 := M3.c5
    have M3l := M3.1
    have M3n : ¬ w.heap.size = w3.heap.size := by omega
    have N3c0 := N3.c0
    have N3c1 := N3.c1
    have N3c2 := N3.c2
    have N3c3 := N3.c3
    have N3c4 := N3.c4
    have N3c5 := N3.c5
    have N3l := N3.1
    have N3n : ¬ w.heap.size + 1 = w3.heap.size := by omega
    have R3c0 := R3.c0
    have R3c1 := R3.c1
    have R3c2 := R3.c2
    have R3c3 := R3.c3
    have R3c4 := R3.c4
    have R3c5 := R3.c5
    have R3f0 := R3.f0
    have R3f1 := R3.f1
    have R3f2 := R3.f2
    have R3f3 := R3.f3
    have R3f4 := R3.f4
    have R3f5 := R3.f5
    have R3l := R3.lt
    have R3n : ¬ w.heap.size + 1 + 1 = w3.heap.size := by omega
    go_wp2_with fail
    refine (specIsVec_any _ _ _).mono ?_
    rintro e w4 ⟨rfl, hb4⟩
    have M4 : Km (w.heap.size) a b c d x y w4 := Km.call (M3.alloc _) hb4
    have N4 : Km (w.heap.size + 1) a' b' c' d' x' y' w4 := Km.call (N3.alloc _) hb4
    have R4 : KM (w.heap.size + 1 + 1) 0 0 0 0 0 0 w4 := KM.call (R3.alloc _) hb4
    have O4 : Km (w3.heap.size) (a * a' + b * c') (a * b' + b * d') (c * a' + d * c') (c * b' + d * d') (a * x' + b * y' + x) (c * x' + d * y' + y) w4 := (Km.at (w3.heap.size) (by simp) : Km (w3.heap.size) (a * a' + b * c') (a * b' + b * d') (c * a' + d * c') (c * b' + d * d') (a * x' + b * y' + x) (c * x' + d * y' + y) _).call hb4
    have B4 : Below w.heap.size w w4 := bstep (Below.alloc B3 (by have := B3.size; first | omega | (simp <;> omega)) _) hb4
    clear hb4 B3 M3 N3 R3
    have M4c0 := M4.c0
    have M4c1 := M4.c1
    have M4c2 := M4.c2
    have M4c3 := M4.c3
    have M4c4 := M4.c4
    have M4c5 := M4.c5
    have M4l := M4.1
    have M4n : ¬ w.heap.size = w4.heap.size := by omega
    have N4c0 := N4.c0
    have N4c1 := N4.c1
    have N4c2 := N4.c2
    have N4c3 := N4.c3
    have N4c4 := N4.c4
    have N4c5 := N4.c5
    have N4l := N4.1
    have N4n : ¬ w.heap.size + 1 = w4.heap.size := by omega
    have R4c0 := R4.c0
    have R4c1 := R4.c1
    have R4c2 := R4.c2
    have R4c3 := R4.c3
    have R4c4 := R4.c4
    have R4c5 := R4.c5
    have R4f0 := R4.f0
    have R4f1 := R4.f1
    have R4f2 := R4.f2
    have R4f3 := R4.f3
    have R4f4 := R4.f4
    have R4f5 := R4.f5
    have R4l := R4.lt
    have R4n : ¬ w.heap.size + 1 + 1 = w4.heap.size := by omega
    have O4c0 := O4.c0
    have O4c1 := O4.c1
    have O4c2 := O4.c2
    have O4c3 := O4.c3
    have O4c4 := O4.c4
    have O4c5 := O4.c5
    have O4l := O4.1
    have O4n : ¬ w3.heap.size = w4.heap.size := by omega
    go_wp2_with fail
    refine (l02Small_any _ _ _ _ _).mono ?_
    rintro e w5 ⟨rfl, hb5⟩
    have M5 : Km (w.heap.size) a b c d x y w5 := Km.call M4 hb5
    have N5 : Km (w.heap.size + 1) a' b' c' d' x' y' w5 := Km.call N4 hb5
    have R5 : KM (w.heap.size + 1 + 1) 0 0 0 0 0 0 w5 := KM.call R4 hb5
    have O5 : Km (w3.heap.size) (a * a' + b * c') (a * b' + b * d') (c * a' + d * c') (c * b' + d * d') (a * x' + b * y' + x) (c * x' + d * y' + y) w5 := Km.call O4 hb5
    have B5 : Below w.heap.size w w5 := bstep B4 hb5
    clear hb5 B4 M4 N4 R4 O4
    have M5c0 := M5.c0
    have M5c1 := M5.c1
    have M5c2 := M5.c2
    have M5c3 := M5.c3
    have M5c4 := M5.c4
    have M5c5 := M5.c5
    have M5l := M5.1
    have M5n : ¬ w.heap.size = w5.heap.size := by omega
    have N5c0 := N5.c0
    have N5c1 := N5.c1
    have N5c2 := N5.c2
    have N5c3 := N5.c3
    have N5c4 := N5.c4
    have N5c5 := N5.c5
    have N5l := N5.1
    have N5n : ¬ w.heap.size + 1 = w5.heap.size := by omega
    have R5c0 := R5.c0
    have R5c1 := R5.c1
    have R5c2 := R5.c2
    have R5c3 := R5.c3
    have R5c4 := R5.c4
    have R5c5 := R5.c5
    have R5f0 := R5.f0
    have R5f1 := R5.f1
    have R5f2 := R5.f2
    have R5f3 := R5.f3
    have R5f4 := R5.f4
    have R5f5 := R5.f5
    have R5l := R5.lt
    have R5n : ¬ w.heap.size + 1 + 1 = w5.heap.size := by omega
    have O5c0 := O5.c0
    have O5c1 := O5.c1
    have O5c2 := O5.c2
    have O5c3 := O5.c3
    have O5c4 := O5.c4
    have O5c5 := O5.c5
    have O5l := O5.1
    have O5n : ¬ w3.heap.size = w5.heap.size := by omega
    go_wp2_with fail
    refine (specIsMo_any _ _ _ _ _ _ _).mono ?_
    rintro e w6 ⟨rfl, hb6⟩
    have M6 : Km (w.heap.size) a b c d x y w6 := Km.call M5 hb6
    have N6 : Km (w.heap.size + 1) a' b' c' d' x' y' w6 := Km.call N5 hb6
    have R6 : KM (w.heap.size + 1 + 1) 0 0 0 0 0 0 w6 := KM.call R5 hb6
    have O6 : Km (w3.heap.size) (a * a' + b * c') (a * b' + b * d') (c * a' + d * c') (c * b' + d * d') (a * x' + b * y' + x) (c * x' + d * y' + y) w6 := Km.call O5 hb6
    have B6 : Below w.heap.size w w6 := bstep B5 hb6
    clear hb6 B5 M5 N5 R5 O5
    have M6c0 := M6.c0
    have M6c1 := M6.c1
    have M6c2 := M6.c2
    have M6c3 := M6.c3
    have M6c4 := M6.c4
    have M6c5 := M6.c5
    have M6l := M6.1
    have M6n : ¬ w.heap.size = w6.heap.size := by omega
    have N6c0 := N6.c0
    have N6c1 := N6.c1
    have N6c2 := N6.c2
    have N6c3 := N6.c3
    have N6c4 := N6.c4
    have N6c5 := N6.c5
    have N6l := N6.1
    have N6n : ¬ w.heap.size + 1 = w6.heap.size := by omega
    have R6c0 := R6.c0
    have R6c1 := R6.c1
    have R6c2 := R6.c2
    have R6c3 := R6.c3
    have R6c4 := R6.c4
    have R6c5 := R6.c5
    have R6f0 := R6.f0
    have R6f1 := R6.f1
    have R6f2 := R6.f2
    have R6f3 := R6.f3
    have R6f4 := R6.f4
    have R6f5 := R6.f5
    have R6l := R6.lt
    have R6n : ¬ w.heap.size + 1 + 1 = w6.heap.size := by omega
    have O6c0 := O6.c0
    have O6c1 := O6.c1
    have O6c2 := O6.c2
    have O6c3 := O6.c3
    have O6c4 := O6.c4
    have O6c5 := O6.c5
    have O6l := O6.1
    have O6n : ¬ w3.heap.size = w6.heap.size := by omega
    go_wp2
    refine bodyPost_ret (v := .tuple #[.agg #[.int .i64 (a * a' + b * c'), .int .i64 (a * b' + b * d'), .int .i64 (c * a' + d * c'), .int .i64 (c * b' + d * d'), .int .i64 (a * x' + b * y' + x), .int .i64 (c * x' + d * y' + y)], .int .i64 0]) (by simp [results, Tryd.results8, go_sem, *]) rfl ⟨ret_val EA.out.symm, ?_⟩
    repeat (first | with_reducible assumption | with_reducible exact Below.refl _ _ | with_reducible refine Below.setCell ?_ (by first | omega | (simp <;> omega)) _ | with_reducible refine Below.alloc ?_ (by first | omega | (simp <;> omega)) _ | with_reducible refine bstep ?_ (by with_reducible assumption) | with_reducible refine Below.drew ?_)

set_option maxRecDepth 100000 in
set_option maxHeartbeats 8000000 in
theorem specInvMo_any (a b c d x y : Int) (w : World) :
    Calls Tryd.prog 11 #[.agg #[.int .i64 a, .int .i64 b, .int .i64 c, .int .i64 d, .int .i64 x, .int .i64 y]] w fun e w' => e = .returned (motT (ibkR a b c d x y)) ∧ Below w.heap.size w w' := by
  rcases hm : motB a b c d x y with _ | _
  · have EA := Lib.hid (show motT (ibkR a b c d x y) = .tuple #[.agg #[.int .i64 0, .int .i64 0, .int .i64 0, .int .i64 0, .int .i64 0, .int .i64 0], .int .i64 1] by simp [motT, ibkR, hm])
    have M0 : Km (w.heap.size) a b c d x y ((w.alloc (.cells #[.int .i64 a, .int .i64 b, .int .i64 c, .int .i64 d, .int .i64 x, .int .i64 y] 29)).alloc (.cells #[.int .i64 0, .int .i64 0, .int .i64 0, .int .i64 0, .int .i64 0, .int .i64 0] 29)) := ((Km.at (w.heap.size) rfl).alloc _)
    have R0 : KM (w.heap.size + 1) 0 0 0 0 0 0 ((w.alloc (.cells #[.int .i64 a, .int .i64 b, .int .i64 c, .int .i64 d, .int .i64 x, .int .i64 y] 29)).alloc (.cells #[.int .i64 0, .int .i64 0, .int .i64 0, .int .i64 0, .int .i64 0, .int .i64 0] 29)) := (KM.at (w.heap.size + 1) (by simp))
    have B0 : Below w.heap.size w ((w.alloc (.cells #[.int .i64 a, .int .i64 b, .int .i64 c, .int .i64 d, .int .i64 x, .int .i64 y] 29)).alloc (.cells #[.int .i64 0, .int .i64 0, .int .i64 0, .int .i64 0, .int .i64 0, .int .i64 0] 29)) := (Below.alloc (Below.alloc (Below.refl _ _) (by first | with_reducible exact Nat.le_refl _ | (simp <;> omega)) _) (by first | with_reducible exact Nat.le_refl _ | (simp <;> omega)) _)
    go_enter Tryd.func11, Tryd.ntmps11
    have M0c0 := M0.c0
    have M0c1 := M0.c1
    have M0c2 := M0.c2
    have M0c3 := M0.c3
    have M0c4 := M0.c4
    have M0c5 := M0.c5
    have M0l := M0.1
    have R0c0 := R0.c0
    have R0c1 := R0.c1
    have R0c2 := R0.c2
    have R0c3 := R0.c3
    have R0c4 := R0.c4
    have R0c5 := R0.c5
    have R0f0 := R0.f0
    have R0f1 := R0.f1
    have R0f2 := R0.f2
    have R0f3 := R0.f3
    have R0f4 := R0.f4
    have R0f5 := R0.f5
    have R0l := R0.lt
    go_wp2_with fail
    refine (specIsMo_any _ _ _ _ _ _ _).mono ?_
    rintro e w1 ⟨rfl, hb1⟩
    have M1 : Km (w.heap.size) a b c d x y w1 := Km.call M0 hb1
    have R1 : KM (w.heap.size + 1) 0 0 0 0 0 0 w1 := KM.call R0 hb1
    have B1 : Below w.heap.size w w1 := bstep B0 hb1
    clear hb1 B0 M0 R0
    have M1c0 := M1.c0
    have M1c1 := M1.c1
    have M1c2 := M1.c2
    have M1c3 := M1.c3
    have M1c4 := M1.c4
    have M1c5 := M1.c5
    have M1l := M1.1
    have M1n : ¬ w.heap.size = w1.heap.size := by omega
    have R1c0 := R1.c0
    have R1c1 := R1.c1
    have R1c2 := R1.c2
    have R1c3 := R1.c3
    have R1c4 := R1.c4
    have R1c5 := R1.c5
    have R1f0 := R1.f0
    have R1f1 := R1.f1
    have R1f2 := R1.f2
    have R1f3 := R1.f3
    have R1f4 := R1.f4
    have R1f5 := R1.f5
    have R1l := R1.lt
    have R1n : ¬ w.heap.size + 1 = w1.heap.size := by omega
    go_wp2
    refine bodyPost_ret (v := .tuple #[.agg #[.int .i64 0, .int .i64 0, .int .i64 0, .int .i64 0, .int .i64 0, .int .i64 0], .int .i64 1]) (by simp [results, Tryd.results11, go_sem, *]) rfl ⟨ret_val EA.out.symm, ?_⟩
    repeat (first | with_reducible assumption | with_reducible exact Below.refl _ _ | with_reducible refine Below.setCell ?_ (by first | omega | (simp <;> omega)) _ | with_reducible refine Below.alloc ?_ (by first | omega | (simp <;> omega)) _ | with_reducible refine bstep ?_ (by with_reducible assumption) | with_reducible refine Below.drew ?_)
  rcases hb : (vecB (bkX a b c d x y) (bkY a b c d x y)) with _ | _
  · have EA := Lib.hid (show motT (ibkR a b c d x y) = .tuple #[.agg #[.int .i64 0, .int .i64 0, .int .i64 0, .int .i64 0, .int .i64 0, .int .i64 0], .int .i64 3] by simp [motT, ibkR, hm, hb])
    have M0 : Km (w.heap.size) a b c d x y ((w.alloc (.cells #[.int .i64 a, .int .i64 b, .int .i64 c, .int .i64 d, .int .i64 x, .int .i64 y] 29)).alloc (.cells #[.int .i64 0, .int .i64 0, .int .i64 0, .int .i64 0, .int .i64 0, .int .i64 0] 29)) := ((Km.at (w.heap.size) rfl).alloc _)
    have R0 : KM (w.heap.size + 1) 0 0 0 0 0 0 ((w.alloc (.cells #[.int .i64 a, .int .i64 b, .int .i64 c, .int .i64 d, .int .i64 x, .int .i64 y] 29)).alloc (.cells #[.int .i64 0, .int .i64 0, .int .i64 0, .int .i64 0, .int .i64 0, .int .i64 0] 29)) := (KM.at (w.heap.size + 1) (by simp))
    have B0 : Below w.heap.size w ((w.alloc (.cells #[.int .i64 a, .int .i64 b, .int .i64 c, .int .i64 d, .int .i64 x, .int .i64 y] 29)).alloc (.cells #[.int .i64 0, .int .i64 0, .int .i64 0, .int .i64 0, .int .i64 0, .int .i64 0] 29)) := (Below.alloc (Below.alloc (Below.refl _ _) (by first | with_reducible exact Nat.le_refl _ | (simp <;> omega)) _) (by first | with_reducible exact Nat.le_refl _ | (simp <;> omega)) _)
    go_enter Tryd.func11, Tryd.ntmps11
    have M0c0 := M0.c0
    have M0c1 := M0.c1
    have M0c2 := M0.c2
    have M0c3 := M0.c3
    have M0c4 := M0.c4
    have M0c5 := M0.c5
    have M0l := M0.1
    have R0c0 := R0.c0
    have R0c1 := R0.c1
    have R0c2 := R0.c2
    have R0c3 := R0.c3
    have R0c4 := R0.c4
    have R0c5 := R0.c5
    have R0f0 := R0.f0
    have R0f1 := R0.f1
    have R0f2 := R0.f2
    have R0f3 := R0.f3
    have R0f4 := R0.f4
    have R0f5 := R0.f5
    have R0l := R0.lt
    go_wp2_with fail
    refine (specIsMo_any _ _ _ _ _ _ _).mono ?_
    rintro e w1 ⟨rfl, hb1⟩
    have M1 : Km (w.heap.size) a b c d x y w1 := Km.call M0 hb1
    have R1 : KM (w.heap.size + 1) 0 0 0 0 0 0 w1 := KM.call R0 hb1
    have B1 : Below w.heap.size w w1 := bstep B0 hb1
    clear hb1 B0 M0 R0
    have M1c0 := M1.c0
    have M1c1 := M1.c1
    have M1c2 := M1.c2
    have M1c3 := M1.c3
    have M1c4 := M1.c4
    have M1c5 := M1.c5
    have M1l := M1.1
    have M1n : ¬ w.heap.size = w1.heap.size := by omega
    have R1c0 := R1.c0
    have R1c1 := R1.c1
    have R1c2 := R1.c2
    have R1c3 := R1.c3
    have R1c4 := R1.c4
    have R1c5 := R1.c5
    have R1f0 := R1.f0
    have R1f1 := R1.f1
    have R1f2 := R1.f2
    have R1f3 := R1.f3
    have R1f4 := R1.f4
    have R1f5 := R1.f5
    have R1l := R1.lt
    have R1n : ¬ w.heap.size + 1 = w1.heap.size := by omega
    go_wp2_with fail
    refine (l05Inverse_any _ _ _ _ _ _ _ (motB_mat hm) (motB_vec hm)).mono ?_
    rintro e w2 ⟨rfl, hb2⟩
    have M2 : Km (w.heap.size) a b c d x y w2 := Km.call M1 hb2
    have R2 : KM (w.heap.size + 1) 0 0 0 0 0 0 w2 := KM.call R1 hb2
    have B2 : Below w.heap.size w w2 := bstep B1 hb2
    clear hb2 B1 M1 R1
    have M2c0 := M2.c0
    have M2c1 := M2.c1
    have M2c2 := M2.c2
    have M2c3 := M2.c3
    have M2c4 := M2.c4
    have M2c5 := M2.c5
    have M2l := M2.1
    have M2n : ¬ w.heap.size = w2.heap.size := by omega
    have R2c0 := R2.c0
    have R2c1 := R2.c1
    have R2c2 := R2.c2
    have R2c3 := R2.c3
    have R2c4 := R2.c4
    have R2c5 := R2.c5
    have R2f0 := R2.f0
    have R2f1 := R2.f1
    have R2f2 := R2.f2
    have R2f3 := R2.f3
    have R2f4 := R2.f4
    have R2f5 := R2.f5
    have R2l := R2.lt
    have R2n : ¬ w.heap.size + 1 = w2.heap.size := by omega
    go_wp2_with fail
    refine (specIsVec_any _ _ _).mono ?_
    rintro e w3 ⟨rfl, hb3⟩
    have M3 : Km (w.heap.size) a b c d x y w3 := Km.call (M2.alloc _) hb3
    have R3 : KM (w.heap.size + 1) 0 0 0 0 0 0 w3 := KM.call (R2.alloc _) hb3
    have O3 : Km (w2.heap.size) (d * (a * d - b * c)) (-b * (a * d - b * c)) (-c * (a * d - b * c)) (a * (a * d - b * c)) (bkX a b c d x y) (bkY a b c d x y) w3 := (Km.at (w2.heap.size) (by simp) : Km (w2.heap.size) (d * (a * d - b * c)) (-b * (a * d - b * c)) (-c * (a * d - b * c)) (a * (a * d - b * c)) (bkX a b c d x y) (bkY a b c d x y) _).call hb3
    have B3 : Below w.heap.size w w3 := bstep (Below.alloc B2 (by have := B2.size; first | omega | (simp <;> omega)) _) hb3
    clear hb3 B2 M2 R2
    have M3c0 := M3.c0
    have M3c1 := M3.c1
    have M3c2 := M3.c2
    have M3c3 := M3.c3
    have M3c4 := M3.c4
    have M3c5 := M3.c5
    have M3l := M3.1
    have M3n : ¬ w.heap.size = w3.heap.size := by omega
    have R3c0 := R3.c0
    have R3c1 := R3.c1
    have R3c2 := R3.c2
    have R3c3 := R3.c3
    have R3c4 := R3.c4
    have R3c5 := R3.c5
    have R3f0 := R3.f0
    have R3f1 := R3.f1
    have R3f2 := R3.f2
    have R3f3 := R3.f3
    have R3f4 := R3.f4
    have R3f5 := R3.f5
    have R3l := R3.lt
    have R3n : ¬ w.heap.size + 1 = w3.heap.size := by omega
    have O3c0 := O3.c0
    have O3c1 := O3.c1
    have O3c2 := O3.c2
    have O3c3 := O3.c3
    have O3c4 := O3.c4
    have O3c5 := O3.c5
    have O3l := O3.1
    have O3n : ¬ w2.heap.size = w3.heap.size := by omega
    go_wp2
    refine bodyPost_ret (v := .tuple #[.agg #[.int .i64 0, .int .i64 0, .int .i64 0, .int .i64 0, .int .i64 0, .int .i64 0], .int .i64 3]) (by simp [results, Tryd.results11, go_sem, *]) rfl ⟨ret_val EA.out.symm, ?_⟩
    repeat (first | with_reducible assumption | with_reducible exact Below.refl _ _ | with_reducible refine Below.setCell ?_ (by first | omega | (simp <;> omega)) _ | with_reducible refine Below.alloc ?_ (by first | omega | (simp <;> omega)) _ | with_reducible refine bstep ?_ (by with_reducible assumption) | with_reducible refine Below.drew ?_)
  · have EA := Lib.hid (show motT (ibkR a b c d x y) = .tuple #[.agg #[.int .i64 (d * (a * d - b * c)), .int .i64 (-b * (a * d - b * c)), .int .i64 (-c * (a * d - b * c)), .int .i64 (a * (a * d - b * c)), .int .i64 (bkX a b c d x y), .int .i64 (bkY a b c d x y)], .int .i64 0] by simp [motT, ibkR, hm, hb])
    have M0 : Km (w.heap.size) a b c d x y ((w.alloc (.cells #[.int .i64 a, .int .i64 b, .int .i64 c, .int .i64 d, .int .i64 x, .int .i64 y] 29)).alloc (.cells #[.int .i64 0, .int .i64 0, .int .i64 0, .int .i64 0, .int .i64 0, .int .i64 0] 29)) := ((Km.at (w.heap.size) rfl).alloc _)
    have R0 : KM (w.heap.size + 1) 0 0 0 0 0 0 ((w.alloc (.cells #[.int .i64 a, .int .i64 b, .int .i64 c, .int .i64 d, .int .i64 x, .int .i64 y] 29)).alloc (.cells #[.int .i64 0, .int .i64 0, .int .i64 0, .int .i64 0, .int .i64 0, .int .i64 0] 29)) := (KM.at (w.heap.size + 1) (by simp))
    have B0 : Below w.heap.size w ((w.alloc (.cells #[.int .i64 a, .int .i64 b, .int .i64 c, .int .i64 d, .int .i64 x, .int .i64 y] 29)).alloc (.cells #[.int .i64 0, .int .i64 0, .int .i64 0, .int .i64 0, .int .i64 0, .int .i64 0] 29)) := (Below.alloc (Below.alloc (Below.refl _ _) (by first | with_reducible exact Nat.le_refl _ | (simp <;> omega)) _) (by first | with_reducible exact Nat.le_refl _ | (simp <;> omega)) _)
    go_enter Tryd.func11, Tryd.ntmps11
    have M0c0 := M0.c0
    have M0c1 := M0.c1
    have M0c2 := M0.c2
    have M0c3 := M0.c3
    have M0c4 := M0.c4
    have M0c5 := M0.c5
    have M0l := M0.1
    have R0c0 := R0.c0
    have R0c1 := R0.c1
    have R0c2 := R0.c2
    have R0c3 := R0.c3
    have R0c4 := R0.c4
    have R0c5 := R0.c5
    have R0f0 := R0.f0
    have R0f1 := R0.f1
    have R0f2 := R0.f2
    have R0f3 := R0.f3
    have R0f4 := R0.f4
    have R0f5 := R0.f5
    have R0l := R0.lt
    go_wp2_with fail
    refine (specIsMo_any _ _ _ _ _ _ _).mono ?_
    rintro e w1 ⟨rfl, hb1⟩
    have M1 : Km (w.heap.size) a b c d x y w1 := Km.call M0 hb1
    have R1 : KM (w.heap.size + 1) 0 0 0 0 0 0 w1 := KM.call R0 hb1
    have B1 : Below w.heap.size w w1 := bstep B0 hb1
    clear hb1 B0 M0 R0
    have M1c0 := M1.c0
    have M1c1 := M1.c1
    have M1c2 := M1.c2
    have M1c3 := M1.c3
    have M1c4 := M1.c4
    have M1c5 := M1.c5
    have M1l := M1.1
    have M1n : ¬ w.heap.size = w1.heap.size := by omega
    have R1c0 := R1.c0
    have R1c1 := R1.c1
    have R1c2 := R1.c2
    have R1c3 := R1.c3
    have R1c4 := R1.c4
    have R1c5 := R1.c5
    have R1f0 := R1.f0
    have R1f1 := R1.f1
    have R1f2 := R1.f2
    have R1f3 := R1.f3
    have R1f4 := R1.f4
    have R1f5 := R1.f5
    have R1l := R1.lt
    have R1n : ¬ w.heap.size + 1 = w1.heap.size := by omega
    go_wp2_with fail
    refine (l05Inverse_any _ _ _ _ _ _ _ (motB_mat hm) (motB_vec hm)).mono ?_
    rintro e w2 ⟨rfl, hb2⟩
    have M2 : Km (w.heap.size) a b c d x y w2 := Km.call M1 hb2
    have R2 : KM (w.heap.size + 1) 0 0 0 0 0 0 w2 := KM.call R1 hb2
    have B2 : Below w.heap.size w w2 := bstep B1 hb2
    clear hb2 B1 M1 R1
    have M2c0 := M2.c0
    have M2c1 := M2.c1
    have M2c2 := M2.c2
    have M2c3 := M2.c3
    have M2c4 := M2.c4
    have M2c5 := M2.c5
    have M2l := M2.1
    have M2n : ¬ w.heap.size = w2.heap.size := by omega
    have R2c0 := R2.c0
    have R2c1 := R2.c1
    have R2c2 := R2.c2
    have R2c3 := R2.c3
    have R2c4 := R2.c4
    have R2c5 := R2.c5
    have R2f0 := R2.f0
    have R2f1 := R2.f1
    have R2f2 := R2.f2
    have R2f3 := R2.f3
    have R2f4 := R2.f4
    have R2f5 := R2.f5
    have R2l := R2.lt
    have R2n : ¬ w.heap.size + 1 = w2.heap.size := by omega
    go_wp2_with fail
    refine (specIsVec_any _ _ _).mono ?_
    rintro e w3 ⟨rfl, hb3⟩
    have M3 : Km (w.heap.size) a b c d x y w3 := Km.call (M2.alloc _) hb3
    have R3 : KM (w.heap.size + 1) 0 0 0 0 0 0 w3 := KM.call (R2.alloc _) hb3
    have O3 : Km (w2.heap.size) (d * (a * d - b * c)) (-b * (a * d - b * c)) (-c * (a * d - b * c)) (a * (a * d - b * c)) (bkX a b c d x y) (bkY a b c d x y) w3 := (Km.at (w2.heap.size) (by simp) : Km (w2.heap.size) (d * (a * d - b * c)) (-b * (a * d - b * c)) (-c * (a * d - b * c)) (a * (a * d - b * c)) (bkX a b c d x y) (bkY a b c d x y) _).call hb3
    have B3 : Below w.heap.size w w3 := bstep (Below.alloc B2 (by have := B2.size; first | omega | (simp <;> omega)) _) hb3
    clear hb3 B2 M2 R2
    have M3c0 := M3.c0
    have M3c1 := M3.c1
    have M3c2 := M3.c2
    have M3c3 := M3.c3
    have M3c4 := M3.c4
    have M3c5 := M3.c5
    have M3l := M3.1
    have M3n : ¬ w.heap.size = w3.heap.size := by omega
    have R3c0 := R3.c0
    have R3c1 := R3.c1
    have R3c2 := R3.c2
    have R3c3 := R3.c3
    have R3c4 := R3.c4
    have R3c5 := R3.c5
    have R3f0 := R3.f0
    have R3f1 := R3.f1
    have R3f2 := R3.f2
    have R3f3 := R3.f3
    have R3f4 := R3.f4
    have R3f5 := R3.f5
    have R3l := R3.lt
    have R3n : ¬ w.heap.size + 1 = w3.heap.size := by omega
    have O3c0 := O3.c0
    have O3c1 := O3.c1
    have O3c2 := O3.c2
    have O3c3 := O3.c3
    have O3c4 := O3.c4
    have O3c5 := O3.c5
    have O3l := O3.1
    have O3n : ¬ w2.heap.size = w3.heap.size := by omega
    go_wp2
    refine bodyPost_ret (v := .tuple #[.agg #[.int .i64 (d * (a * d - b * c)), .int .i64 (-b * (a * d - b * c)), .int .i64 (-c * (a * d - b * c)), .int .i64 (a * (a * d - b * c)), .int .i64 (bkX a b c d x y), .int .i64 (bkY a b c d x y)], .int .i64 0]) (by simp [results, Tryd.results11, go_sem, *]) rfl ⟨ret_val EA.out.symm, ?_⟩
    repeat (first | with_reducible assumption | with_reducible exact Below.refl _ _ | with_reducible refine Below.setCell ?_ (by first | omega | (simp <;> omega)) _ | with_reducible refine Below.alloc ?_ (by first | omega | (simp <;> omega)) _ | with_reducible refine bstep ?_ (by with_reducible assumption) | with_reducible refine Below.drew ?_)

set_option maxRecDepth 100000 in
set_option maxHeartbeats 8000000 in
theorem specApmo_any (a b c d x y p q : Int) (w : World) :
    Calls Tryd.prog 14 #[.agg #[.int .i64 a, .int .i64 b, .int .i64 c, .int .i64 d, .int .i64 x, .int .i64 y], .agg #[.int .i64 p, .int .i64 q]] w fun e w' => e = .returned (vecT (apmR a b c d x y p q)) ∧ Below w.heap.size w w' := by
  rcases hm : motB a b c d x y with _ | _
  · have EA := Lib.hid (show vecT (apmR a b c d x y p q) = .tuple #[.agg #[.int .i64 0, .int .i64 0], .int .i64 1] by simp [vecT, apmR, hm])
    have M0 : Km (w.heap.size) a b c d x y (((w.alloc (.cells #[.int .i64 a, .int .i64 b, .int .i64 c, .int .i64 d, .int .i64 x, .int .i64 y] 29)).alloc (.cells #[.int .i64 p, .int .i64 q] 27)).alloc (.cells #[.int .i64 0, .int .i64 0] 27)) := (((Km.at (w.heap.size) rfl).alloc _).alloc _)
    have N0 : Kg (w.heap.size + 1) p q (((w.alloc (.cells #[.int .i64 a, .int .i64 b, .int .i64 c, .int .i64 d, .int .i64 x, .int .i64 y] 29)).alloc (.cells #[.int .i64 p, .int .i64 q] 27)).alloc (.cells #[.int .i64 0, .int .i64 0] 27)) := ((Kg.at2 (w.heap.size + 1) (by simp)).alloc _)
    have R0 : KV (w.heap.size + 1 + 1) 0 0 (((w.alloc (.cells #[.int .i64 a, .int .i64 b, .int .i64 c, .int .i64 d, .int .i64 x, .int .i64 y] 29)).alloc (.cells #[.int .i64 p, .int .i64 q] 27)).alloc (.cells #[.int .i64 0, .int .i64 0] 27)) := (KV.at (w.heap.size + 1 + 1) (by simp))
    have B0 : Below w.heap.size w (((w.alloc (.cells #[.int .i64 a, .int .i64 b, .int .i64 c, .int .i64 d, .int .i64 x, .int .i64 y] 29)).alloc (.cells #[.int .i64 p, .int .i64 q] 27)).alloc (.cells #[.int .i64 0, .int .i64 0] 27)) := (Below.alloc (Below.alloc (Below.alloc (Below.refl _ _) (by first | with_reducible exact Nat.le_refl _ | (simp <;> omega)) _) (by first | with_reducible exact Nat.le_refl _ | (simp <;> omega)) _) (by first | with_reducible exact Nat.le_refl _ | (simp <;> omega)) _)
    go_enter Tryd.func14, Tryd.ntmps14
    have M0c0 := M0.c0
    have M0c1 := M0.c1
    have M0c2 := M0.c2
    have M0c3 := M0.c3
    have M0c4 := M0.c4
    have M0c5 := M0.c5
    have M0l := M0.1
    have N0c0 := N0.c0
    have N0c1 := N0.c1
    have N0l := N0.1
    have R0c0 := R0.c0
    have R0c1 := R0.c1
    have R0f0 := R0.f0
    have R0f1 := R0.f1
    have R0l := R0.lt
    go_wp2_with fail
    refine (specIsMo_any _ _ _ _ _ _ _).mono ?_
    rintro e w1 ⟨rfl, hb1⟩
    have M1 : Km (w.heap.size) a b c d x y w1 := Km.call M0 hb1
    have N1 : Kg (w.heap.size + 1) p q w1 := Kg.call N0 hb1
    have R1 : KV (w.heap.size + 1 + 1) 0 0 w1 := KV.call R0 hb1
    have B1 : Below w.heap.size w w1 := bstep B0 hb1
    clear hb1 B0 M0 N0 R0
    have M1c0 := M1.c0
    have M1c1 := M1.c1
    have M1c2 := M1.c2
    have M1c3 := M1.c3
    have M1c4 := M1.c4
    have M1c5 := M1.c5
    have M1l := M1.1
    have M1n : ¬ w.heap.size = w1.heap.size := by omega
    have N1c0 := N1.c0
    have N1c1 := N1.c1
    have N1l := N1.1
    have N1n : ¬ w.heap.size + 1 = w1.heap.size := by omega
    have R1c0 := R1.c0
    have R1c1 := R1.c1
    have R1f0 := R1.f0
    have R1f1 := R1.f1
    have R1l := R1.lt
    have R1n : ¬ w.heap.size + 1 + 1 = w1.heap.size := by omega
    go_wp2
    refine bodyPost_ret (v := .tuple #[.agg #[.int .i64 0, .int .i64 0], .int .i64 1]) (by simp [results, Tryd.results14, go_sem, *]) rfl ⟨ret_val EA.out.symm, ?_⟩
    repeat (first | with_reducible assumption | with_reducible exact Below.refl _ _ | with_reducible refine Below.setCell ?_ (by first | omega | (simp <;> omega)) _ | with_reducible refine Below.alloc ?_ (by first | omega | (simp <;> omega)) _ | with_reducible refine bstep ?_ (by with_reducible assumption) | with_reducible refine Below.drew ?_)
  rcases hp : vecB p q with _ | _
  · have EA := Lib.hid (show vecT (apmR a b c d x y p q) = .tuple #[.agg #[.int .i64 0, .int .i64 0], .int .i64 1] by simp [vecT, apmR, hm, hp])
    have M0 : Km (w.heap.size) a b c d x y (((w.alloc (.cells #[.int .i64 a, .int .i64 b, .int .i64 c, .int .i64 d, .int .i64 x, .int .i64 y] 29)).alloc (.cells #[.int .i64 p, .int .i64 q] 27)).alloc (.cells #[.int .i64 0, .int .i64 0] 27)) := (((Km.at (w.heap.size) rfl).alloc _).alloc _)
    have N0 : Kg (w.heap.size + 1) p q (((w.alloc (.cells #[.int .i64 a, .int .i64 b, .int .i64 c, .int .i64 d, .int .i64 x, .int .i64 y] 29)).alloc (.cells #[.int .i64 p, .int .i64 q] 27)).alloc (.cells #[.int .i64 0, .int .i64 0] 27)) := ((Kg.at2 (w.heap.size + 1) (by simp)).alloc _)
    have R0 : KV (w.heap.size + 1 + 1) 0 0 (((w.alloc (.cells #[.int .i64 a, .int .i64 b, .int .i64 c, .int .i64 d, .int .i64 x, .int .i64 y] 29)).alloc (.cells #[.int .i64 p, .int .i64 q] 27)).alloc (.cells #[.int .i64 0, .int .i64 0] 27)) := (KV.at (w.heap.size + 1 + 1) (by simp))
    have B0 : Below w.heap.size w (((w.alloc (.cells #[.int .i64 a, .int .i64 b, .int .i64 c, .int .i64 d, .int .i64 x, .int .i64 y] 29)).alloc (.cells #[.int .i64 p, .int .i64 q] 27)).alloc (.cells #[.int .i64 0, .int .i64 0] 27)) := (Below.alloc (Below.alloc (Below.alloc (Below.refl _ _) (by first | with_reducible exact Nat.le_refl _ | (simp <;> omega)) _) (by first | with_reducible exact Nat.le_refl _ | (simp <;> omega)) _) (by first | with_reducible exact Nat.le_refl _ | (simp <;> omega)) _)
    go_enter Tryd.func14, Tryd.ntmps14
    have M0c0 := M0.c0
    have M0c1 := M0.c1
    have M0c2 := M0.c2
    have M0c3 := M0.c3
    have M0c4 := M0.c4
    have M0c5 := M0.c5
    have M0l := M0.1
    have N0c0 := N0.c0
    have N0c1 := N0.c1
    have N0l := N0.1
    have R0c0 := R0.c0
    have R0c1 := R0.c1
    have R0f0 := R0.f0
    have R0f1 := R0.f1
    have R0l := R0.lt
    go_wp2_with fail
    refine (specIsMo_any _ _ _ _ _ _ _).mono ?_
    rintro e w1 ⟨rfl, hb1⟩
    have M1 : Km (w.heap.size) a b c d x y w1 := Km.call M0 hb1
    have N1 : Kg (w.heap.size + 1) p q w1 := Kg.call N0 hb1
    have R1 : KV (w.heap.size + 1 + 1) 0 0 w1 := KV.call R0 hb1
    have B1 : Below w.heap.size w w1 := bstep B0 hb1
    clear hb1 B0 M0 N0 R0
    have M1c0 := M1.c0
    have M1c1 := M1.c1
    have M1c2 := M1.c2
    have M1c3 := M1.c3
    have M1c4 := M1.c4
    have M1c5 := M1.c5
    have M1l := M1.1
    have M1n : ¬ w.heap.size = w1.heap.size := by omega
    have N1c0 := N1.c0
    have N1c1 := N1.c1
    have N1l := N1.1
    have N1n : ¬ w.heap.size + 1 = w1.heap.size := by omega
    have R1c0 := R1.c0
    have R1c1 := R1.c1
    have R1f0 := R1.f0
    have R1f1 := R1.f1
    have R1l := R1.lt
    have R1n : ¬ w.heap.size + 1 + 1 = w1.heap.size := by omega
    go_wp2_with fail
    refine (specIsVec_any _ _ _).mono ?_
    rintro e w2 ⟨rfl, hb2⟩
    have M2 : Km (w.heap.size) a b c d x y w2 := Km.call M1 hb2
    have N2 : Kg (w.heap.size + 1) p q w2 := Kg.call N1 hb2
    have R2 : KV (w.heap.size + 1 + 1) 0 0 w2 := KV.call R1 hb2
    have B2 : Below w.heap.size w w2 := bstep B1 hb2
    clear hb2 B1 M1 N1 R1
    have M2c0 := M2.c0
    have M2c1 := M2.c1
    have M2c2 := M2.c2
    have M2c3 := M2.c3
    have M2c4 := M2.c4
    have M2c5 := M2.c5
    have M2l := M2.1
    have M2n : ¬ w.heap.size = w2.heap.size := by omega
    have N2c0 := N2.c0
    have N2c1 := N2.c1
    have N2l := N2.1
    have N2n : ¬ w.heap.size + 1 = w2.heap.size := by omega
    have R2c0 := R2.c0
    have R2c1 := R2.c1
    have R2f0 := R2.f0
    have R2f1 := R2.f1
    have R2l := R2.lt
    have R2n : ¬ w.heap.size + 1 + 1 = w2.heap.size := by omega
    go_wp2
    refine bodyPost_ret (v := .tuple #[.agg #[.int .i64 0, .int .i64 0], .int .i64 1]) (by simp [results, Tryd.results14, go_sem, *]) rfl ⟨ret_val EA.out.symm, ?_⟩
    repeat (first | with_reducible assumption | with_reducible exact Below.refl _ _ | with_reducible refine Below.setCell ?_ (by first | omega | (simp <;> omega)) _ | with_reducible refine Below.alloc ?_ (by first | omega | (simp <;> omega)) _ | with_reducible refine bstep ?_ (by with_reducible assumption) | with_reducible refine Below.drew ?_)
  rcases hs : vecB (a * p + b * q + x) (c * p + d * q + y) with _ | _
  · have EA := Lib.hid (show vecT (apmR a b c d x y p q) = .tuple #[.agg #[.int .i64 0, .int .i64 0], .int .i64 3] by simp [vecT, apmR, hm, hp, hs])
    have lu := motB_lim hm
    have vu := motB_vec hm
    have M0 : Km (w.heap.size) a b c d x y (((w.alloc (.cells #[.int .i64 a, .int .i64 b, .int .i64 c, .int .i64 d, .int .i64 x, .int .i64 y] 29)).alloc (.cells #[.int .i64 p, .int .i64 q] 27)).alloc (.cells #[.int .i64 0, .int .i64 0] 27)) := (((Km.at (w.heap.size) rfl).alloc _).alloc _)
    have N0 : Kg (w.heap.size + 1) p q (((w.alloc (.cells #[.int .i64 a, .int .i64 b, .int .i64 c, .int .i64 d, .int .i64 x, .int .i64 y] 29)).alloc (.cells #[.int .i64 p, .int .i64 q] 27)).alloc (.cells #[.int .i64 0, .int .i64 0] 27)) := ((Kg.at2 (w.heap.size + 1) (by simp)).alloc _)
    have R0 : KV (w.heap.size + 1 + 1) 0 0 (((w.alloc (.cells #[.int .i64 a, .int .i64 b, .int .i64 c, .int .i64 d, .int .i64 x, .int .i64 y] 29)).alloc (.cells #[.int .i64 p, .int .i64 q] 27)).alloc (.cells #[.int .i64 0, .int .i64 0] 27)) := (KV.at (w.heap.size + 1 + 1) (by simp))
    have B0 : Below w.heap.size w (((w.alloc (.cells #[.int .i64 a, .int .i64 b, .int .i64 c, .int .i64 d, .int .i64 x, .int .i64 y] 29)).alloc (.cells #[.int .i64 p, .int .i64 q] 27)).alloc (.cells #[.int .i64 0, .int .i64 0] 27)) := (Below.alloc (Below.alloc (Below.alloc (Below.refl _ _) (by first | with_reducible exact Nat.le_refl _ | (simp <;> omega)) _) (by first | with_reducible exact Nat.le_refl _ | (simp <;> omega)) _) (by first | with_reducible exact Nat.le_refl _ | (simp <;> omega)) _)
    go_enter Tryd.func14, Tryd.ntmps14
    have M0c0 := M0.c0
    have M0c1 := M0.c1
    have M0c2 := M0.c2
    have M0c3 := M0.c3
    have M0c4 := M0.c4
    have M0c5 := M0.c5
    have M0l := M0.1
    have N0c0 := N0.c0
    have N0c1 := N0.c1
    have N0l := N0.1
    have R0c0 := R0.c0
    have R0c1 := R0.c1
    have R0f0 := R0.f0
    have R0f1 := R0.f1
    have R0l := R0.lt
    go_wp2_with fail
    refine (specIsMo_any _ _ _ _ _ _ _).mono ?_
    rintro e w1 ⟨rfl, hb1⟩
    have M1 : Km (w.heap.size) a b c d x y w1 := Km.call M0 hb1
    have N1 : Kg (w.heap.size + 1) p q w1 := Kg.call N0 hb1
    have R1 : KV (w.heap.size + 1 + 1) 0 0 w1 := KV.call R0 hb1
    have B1 : Below w.heap.size w w1 := bstep B0 hb1
    clear hb1 B0 M0 N0 R0
    have M1c0 := M1.c0
    have M1c1 := M1.c1
    have M1c2 := M1.c2
    have M1c3 := M1.c3
    have M1c4 := M1.c4
    have M1c5 := M1.c5
    have M1l := M1.1
    have M1n : ¬ w.heap.size = w1.heap.size := by omega
    have N1c0 := N1.c0
    have N1c1 := N1.c1
    have N1l := N1.1
    have N1n : ¬ w.heap.size + 1 = w1.heap.size := by omega
    have R1c0 := R1.c0
    have R1c1 := R1.c1
    have R1f0 := R1.f0
    have R1f1 := R1.f1
    have R1l := R1.lt
    have R1n : ¬ w.heap.size + 1 + 1 = w1.heap.size := by omega
    go_wp2_with fail
    refine (specIsVec_any _ _ _).mono ?_
    rintro e w2 ⟨rfl, hb2⟩
    have M2 : Km (w.heap.size) a b c d x y w2 := Km.call M1 hb2
    have N2 : Kg (w.heap.size + 1) p q w2 := Kg.call N1 hb2
    have R2 : KV (w.heap.size + 1 + 1) 0 0 w2 := KV.call R1 hb2
    have B2 : Below w.heap.size w w2 := bstep B1 hb2
    clear hb2 B1 M1 N1 R1
    have M2c0 := M2.c0
    have M2c1 := M2.c1
    have M2c2 := M2.c2
    have M2c3 := M2.c3
    have M2c4 := M2.c4
    have M2c5 := M2.c5
    have M2l := M2.1
    have M2n : ¬ w.heap.size = w2.heap.size := by omega
    have N2c0 := N2.c0
    have N2c1 := N2.c1
    have N2l := N2.1
    have N2n : ¬ w.heap.size + 1 = w2.heap.size := by omega
    have R2c0 := R2.c0
    have R2c1 := R2.c1
    have R2f0 := R2.f0
    have R2f1 := R2.f1
    have R2l := R2.lt
    have R2n : ¬ w.heap.size + 1 + 1 = w2.heap.size := by omega
    go_wp2_with fail
    refine (l05Apply_any _ _ _ _ _ _ _ _ _ lu vu hp).mono ?_
    rintro e w3 ⟨rfl, hb3⟩
    have M3 : Km (w.heap.size) a b c d x y w3 := Km.call M2 hb3
    have N3 : Kg (w.heap.size + 1) p q w3 := Kg.call N2 hb3
    have R3 : KV (w.heap.size + 1 + 1) 0 0 w3 := KV.call R2 hb3
    have B3 : Below w.heap.size w w3 := bstep B2 hb3
    clear hb3 B2 M2 N2 R2
    have M3c0 := M3.c0
    have M3c1 := M3.c1
    have M3c2 := M3.c2
    have M3c3 := M3.c3
    have M3c4 := M3.c4
    have M3c5 := M3.c5
    have M3l := M3.1
    have M3n : ¬ w.heap.size = w3.heap.size := by omega
    have N3c0 := N3.c0
    have N3c1 := N3.c1
    have N3l := N3.1
    have N3n : ¬ w.heap.size + 1 = w3.heap.size := by omega
    have R3c0 := R3.c0
    have R3c1 := R3.c1
    have R3f0 := R3.f0
    have R3f1 := R3.f1
    have R3l := R3.lt
    have R3n : ¬ w.heap.size + 1 + 1 = w3.heap.size := by omega
    go_wp2_with fail
    refine (l01Result_no _ _ _ hs).mono ?_
    rintro e w4 ⟨rfl, hb4⟩
    have M4 : Km (w.heap.size) a b c d x y w4 := Km.call M3 hb4
    have N4 : Kg (w.heap.size + 1) p q w4 := Kg.call N3 hb4
    have R4 : KV (w.heap.size + 1 + 1) 0 0 w4 := KV.call R3 hb4
    have B4 : Below w.heap.size w w4 := bstep B3 hb4
    clear hb4 B3 M3 N3 R3
    have M4c0 := M4.c0
    have M4c1 := M4.c1
    have M4c2 := M4.c2
    have M4c3 := M4.c3
    have M4c4 := M4.c4
    have M4c5 := M4.c5
    have M4l := M4.1
    have M4n : ¬ w.heap.size = w4.heap.size := by omega
    have N4c0 := N4.c0
    have N4c1 := N4.c1
    have N4l := N4.1
    have N4n : ¬ w.heap.size + 1 = w4.heap.size := by omega
    have R4c0 := R4.c0
    have R4c1 := R4.c1
    have R4f0 := R4.f0
    have R4f1 := R4.f1
    have R4l := R4.lt
    have R4n : ¬ w.heap.size + 1 + 1 = w4.heap.size := by omega
    go_wp2
    refine bodyPost_ret (v := .tuple #[.agg #[.int .i64 0, .int .i64 0], .int .i64 3]) (by simp [results, Tryd.results14, go_sem, *]) rfl ⟨ret_val EA.out.symm, ?_⟩
    repeat (first | with_reducible assumption | with_reducible exact Below.refl _ _ | with_reducible refine Below.setCell ?_ (by first | omega | (simp <;> omega)) _ | with_reducible refine Below.alloc ?_ (by first | omega | (simp <;> omega)) _ | with_reducible refine bstep ?_ (by with_reducible assumption) | with_reducible refine Below.drew ?_)
  · have EA := Lib.hid (show vecT (apmR a b c d x y p q) = .tuple #[.agg #[.int .i64 (a * p + b * q + x), .int .i64 (c * p + d * q + y)], .int .i64 0] by simp [vecT, apmR, hm, hp, hs])
    have lu := motB_lim hm
    have vu := motB_vec hm
    have M0 : Km (w.heap.size) a b c d x y (((w.alloc (.cells #[.int .i64 a, .int .i64 b, .int .i64 c, .int .i64 d, .int .i64 x, .int .i64 y] 29)).alloc (.cells #[.int .i64 p, .int .i64 q] 27)).alloc (.cells #[.int .i64 0, .int .i64 0] 27)) := (((Km.at (w.heap.size) rfl).alloc _).alloc _)
    have N0 : Kg (w.heap.size + 1) p q (((w.alloc (.cells #[.int .i64 a, .int .i64 b, .int .i64 c, .int .i64 d, .int .i64 x, .int .i64 y] 29)).alloc (.cells #[.int .i64 p, .int .i64 q] 27)).alloc (.cells #[.int .i64 0, .int .i64 0] 27)) := ((Kg.at2 (w.heap.size + 1) (by simp)).alloc _)
    have R0 : KV (w.heap.size + 1 + 1) 0 0 (((w.alloc (.cells #[.int .i64 a, .int .i64 b, .int .i64 c, .int .i64 d, .int .i64 x, .int .i64 y] 29)).alloc (.cells #[.int .i64 p, .int .i64 q] 27)).alloc (.cells #[.int .i64 0, .int .i64 0] 27)) := (KV.at (w.heap.size + 1 + 1) (by simp))
    have B0 : Below w.heap.size w (((w.alloc (.cells #[.int .i64 a, .int .i64 b, .int .i64 c, .int .i64 d, .int .i64 x, .int .i64 y] 29)).alloc (.cells #[.int .i64 p, .int .i64 q] 27)).alloc (.cells #[.int .i64 0, .int .i64 0] 27)) := (Below.alloc (Below.alloc (Below.alloc (Below.refl _ _) (by first | with_reducible exact Nat.le_refl _ | (simp <;> omega)) _) (by first | with_reducible exact Nat.le_refl _ | (simp <;> omega)) _) (by first | with_reducible exact Nat.le_refl _ | (simp <;> omega)) _)
    go_enter Tryd.func14, Tryd.ntmps14
    have M0c0 := M0.c0
    have M0c1 := M0.c1
    have M0c2 := M0.c2
    have M0c3 := M0.c3
    have M0c4 := M0.c4
    have M0c5 := M0.c5
    have M0l := M0.1
    have N0c0 := N0.c0
    have N0c1 := N0.c1
    have N0l := N0.1
    have R0c0 := R0.c0
    have R0c1 := R0.c1
    have R0f0 := R0.f0
    have R0f1 := R0.f1
    have R0l := R0.lt
    go_wp2_with fail
    refine (specIsMo_any _ _ _ _ _ _ _).mono ?_
    rintro e w1 ⟨rfl, hb1⟩
    have M1 : Km (w.heap.size) a b c d x y w1 := Km.call M0 hb1
    have N1 : Kg (w.heap.size + 1) p q w1 := Kg.call N0 hb1
    have R1 : KV (w.heap.size + 1 + 1) 0 0 w1 := KV.call R0 hb1
    have B1 : Below w.heap.size w w1 := bstep B0 hb1
    clear hb1 B0 M0 N0 R0
    have M1c0 := M1.c0
    have M1c1 := M1.c1
    have M1c2 := M1.c2
    have M1c3 := M1.c3
    have M1c4 := M1.c4
    have M1c5 := M1.c5
    have M1l := M1.1
    have M1n : ¬ w.heap.size = w1.heap.size := by omega
    have N1c0 := N1.c0
    have N1c1 := N1.c1
    have N1l := N1.1
    have N1n : ¬ w.heap.size + 1 = w1.heap.size := by omega
    have R1c0 := R1.c0
    have R1c1 := R1.c1
    have R1f0 := R1.f0
    have R1f1 := R1.f1
    have R1l := R1.lt
    have R1n : ¬ w.heap.size + 1 + 1 = w1.heap.size := by omega
    go_wp2_with fail
    refine (specIsVec_any _ _ _).mono ?_
    rintro e w2 ⟨rfl, hb2⟩
    have M2 : Km (w.heap.size) a b c d x y w2 := Km.call M1 hb2
    have N2 : Kg (w.heap.size + 1) p q w2 := Kg.call N1 hb2
    have R2 : KV (w.heap.size + 1 + 1) 0 0 w2 := KV.call R1 hb2
    have B2 : Below w.heap.size w w2 := bstep B1 hb2
    clear hb2 B1 M1 N1 R1
    have M2c0 := M2.c0
    have M2c1 := M2.c1
    have M2c2 := M2.c2
    have M2c3 := M2.c3
    have M2c4 := M2.c4
    have M2c5 := M2.c5
    have M2l := M2.1
    have M2n : ¬ w.heap.size = w2.heap.size := by omega
    have N2c0 := N2.c0
    have N2c1 := N2.c1
    have N2l := N2.1
    have N2n : ¬ w.heap.size + 1 = w2.heap.size := by omega
    have R2c0 := R2.c0
    have R2c1 := R2.c1
    have R2f0 := R2.f0
    have R2f1 := R2.f1
    have R2l := R2.lt
    have R2n : ¬ w.heap.size + 1 + 1 = w2.heap.size := by omega
    go_wp2_with fail
    refine (l05Apply_any _ _ _ _ _ _ _ _ _ lu vu hp).mono ?_
    rintro e w3 ⟨rfl, hb3⟩
    have M3 : Km (w.heap.size) a b c d x y w3 := Km.call M2 hb3
    have N3 : Kg (w.heap.size + 1) p q w3 := Kg.call N2 hb3
    have R3 : KV (w.heap.size + 1 + 1) 0 0 w3 := KV.call R2 hb3
    have B3 : Below w.heap.size w w3 := bstep B2 hb3
    clear hb3 B2 M2 N2 R2
    have M3c0 := M3.c0
    have M3c1 := M3.c1
    have M3c2 := M3.c2
    have M3c3 := M3.c3
    have M3c4 := M3.c4
    have M3c5 := M3.c5
    have M3l := M3.1
    have M3n : ¬ w.heap.size = w3.heap.size := by omega
    have N3c0 := N3.c0
    have N3c1 := N3.c1
    have N3l := N3.1
    have N3n : ¬ w.heap.size + 1 = w3.heap.size := by omega
    have R3c0 := R3.c0
    have R3c1 := R3.c1
    have R3f0 := R3.f0
    have R3f1 := R3.f1
    have R3l := R3.lt
    have R3n : ¬ w.heap.size + 1 + 1 = w3.heap.size := by omega
    go_wp2_with fail
    refine (l01Result_yes _ _ _ hs).mono ?_
    rintro e w4 ⟨rfl, hb4⟩
    have M4 : Km (w.heap.size) a b c d x y w4 := Km.call M3 hb4
    have N4 : Kg (w.heap.size + 1) p q w4 := Kg.call N3 hb4
    have R4 : KV (w.heap.size + 1 + 1) 0 0 w4 := KV.call R3 hb4
    have B4 : Below w.heap.size w w4 := bstep B3 hb4
    clear hb4 B3 M3 N3 R3
    have M4c0 := M4.c0
    have M4c1 := M4.c1
    have M4c2 := M4.c2
    have M4c3 := M4.c3
    have M4c4 := M4.c4
    have M4c5 := M4.c5
    have M4l := M4.1
    have M4n : ¬ w.heap.size = w4.heap.size := by omega
    have N4c0 := N4.c0
    have N4c1 := N4.c1
    have N4l := N4.1
    have N4n : ¬ w.heap.size + 1 = w4.heap.size := by omega
    have R4c0 := R4.c0
    have R4c1 := R4.c1
    have R4f0 := R4.f0
    have R4f1 := R4.f1
    have R4l := R4.lt
    have R4n : ¬ w.heap.size + 1 + 1 = w4.heap.size := by omega
    go_wp2
    refine bodyPost_ret (v := .tuple #[.agg #[.int .i64 (a * p + b * q + x), .int .i64 (c * p + d * q + y)], .int .i64 0]) (by simp [results, Tryd.results14, go_sem, *]) rfl ⟨ret_val EA.out.symm, ?_⟩
    repeat (first | with_reducible assumption | with_reducible exact Below.refl _ _ | with_reducible refine Below.setCell ?_ (by first | omega | (simp <;> omega)) _ | with_reducible refine Below.alloc ?_ (by first | omega | (simp <;> omega)) _ | with_reducible refine bstep ?_ (by with_reducible assumption) | with_reducible refine Below.drew ?_)

set_option maxRecDepth 100000 in
set_option maxHeartbeats 8000000 in
theorem specKnd_any (a b c d x y : Int) (w : World) :
    Calls Tryd.prog 19 #[.agg #[.int .i64 a, .int .i64 b, .int .i64 c, .int .i64 d, .int .i64 x, .int .i64 y]] w fun e w' => e = .returned (intT (kndR a b c d x y)) ∧ Below w.heap.size w w' := by
  rcases hm : motB a b c d x y with _ | _
  · have EA := Lib.hid (show intT (kndR a b c d x y) = .tuple #[.int .i64 0, .int .i64 1] by simp [intT, kndR, hm])
    have M0 : Km (w.heap.size) a b c d x y (w.alloc (.cells #[.int .i64 a, .int .i64 b, .int .i64 c, .int .i64 d, .int .i64 x, .int .i64 y] 29)) := (Km.at (w.heap.size) rfl)
    have B0 : Below w.heap.size w (w.alloc (.cells #[.int .i64 a, .int .i64 b, .int .i64 c, .int .i64 d, .int .i64 x, .int .i64 y] 29)) := (Below.alloc (Below.refl _ _) (by first | with_reducible exact Nat.le_refl _ | (simp <;> omega)) _)
    go_enter Tryd.func19, Tryd.ntmps19
    have M0c0 := M0.c0
    have M0c1 := M0.c1
    have M0c2 := M0.c2
    have M0c3 := M0.c3
    have M0c4 := M0.c4
    have M0c5 := M0.c5
    have M0l := M0.1
    go_wp2_with fail
    refine (specIsMo_any _ _ _ _ _ _ _).mono ?_
    rintro e w1 ⟨rfl, hb1⟩
    have M1 : Km (w.heap.size) a b c d x y w1 := Km.call M0 hb1
    have B1 : Below w.heap.size w w1 := bstep B0 hb1
    clear hb1 B0 M0
    have M1c0 := M1.c0
    have M1c1 := M1.c1
    have M1c2 := M1.c2
    have M1c3 := M1.c3
    have M1c4 := M1.c4
    have M1c5 := M1.c5
    have M1l := M1.1
    have M1n : ¬ w.heap.size = w1.heap.size := by omega
    go_wp2
    go_ret2
    refine ⟨ret_val EA.out.symm, ?_⟩
    repeat (first | with_reducible assumption | with_reducible exact Below.refl _ _ | with_reducible refine Below.setCell ?_ (by first | omega | (simp <;> omega)) _ | with_reducible refine Below.alloc ?_ (by first | omega | (simp <;> omega)) _ | with_reducible refine bstep ?_ (by with_reducible assumption) | with_reducible refine Below.drew ?_)
  · have EA := Lib.hid (show intT (kndR a b c d x y) = .tuple #[.int .i64 (knd a b c d x y), .int .i64 0] by simp [intT, kndR, hm])
    have M0 : Km (w.heap.size) a b c d x y (w.alloc (.cells #[.int .i64 a, .int .i64 b, .int .i64 c, .int .i64 d, .int .i64 x, .int .i64 y] 29)) := (Km.at (w.heap.size) rfl)
    have B0 : Below w.heap.size w (w.alloc (.cells #[.int .i64 a, .int .i64 b, .int .i64 c, .int .i64 d, .int .i64 x, .int .i64 y] 29)) := (Below.alloc (Below.refl _ _) (by first | with_reducible exact Nat.le_refl _ | (simp <;> omega)) _)
    go_enter Tryd.func19, Tryd.ntmps19
    have M0c0 := M0.c0
    have M0c1 := M0.c1
    have M0c2 := M0.c2
    have M0c3 := M0.c3
    have M0c4 := M0.c4
    have M0c5 := M0.c5
    have M0l := M0.1
    go_wp2_with fail
    refine (specIsMo_any _ _ _ _ _ _ _).mono ?_
    rintro e w1 ⟨rfl, hb1⟩
    have M1 : Km (w.heap.size) a b c d x y w1 := Km.call M0 hb1
    have B1 : Below w.heap.size w w1 := bstep B0 hb1
    clear hb1 B0 M0
    have M1c0 := M1.c0
    have M1c1 := M1.c1
    have M1c2 := M1.c2
    have M1c3 := M1.c3
    have M1c4 := M1.c4
    have M1c5 := M1.c5
    have M1l := M1.1
    have M1n : ¬ w.heap.size = w1.heap.size := by omega
    go_wp2_with fail
    refine (l05Kind_any _ _ _ _ _ _ _ hm).mono ?_
    rintro e w2 ⟨rfl, hb2⟩
    have M2 : Km (w.heap.size) a b c d x y w2 := Km.call M1 hb2
    have B2 : Below w.heap.size w w2 := bstep B1 hb2
    clear hb2 B1 M1
    have M2c0 := M2.c0
    have M2c1 := M2.c1
    have M2c2 := M2.c2
    have M2c3 := M2.c3
    have M2c4 := M2.c4
    have M2c5 := M2.c5
    have M2l := M2.1
    have M2n : ¬ w.heap.size = w2.heap.size := by omega
    go_wp2
    go_ret2
    refine ⟨ret_val EA.out.symm, ?_⟩
    repeat (first | with_reducible assumption | with_reducible exact Below.refl _ _ | with_reducible refine Below.setCell ?_ (by first | omega | (simp <;> omega)) _ | with_reducible refine Below.alloc ?_ (by first | omega | (simp <;> omega)) _ | with_reducible refine bstep ?_ (by with_reducible assumption) | with_reducible refine Below.drew ?_)

set_option maxRecDepth 100000 in
set_option maxHeartbeats 8000000 in
theorem specOmo_any (a b c d x y : Int) (w : World) :
    Calls Tryd.prog 21 #[.agg #[.int .i64 a, .int .i64 b, .int .i64 c, .int .i64 d, .int .i64 x, .int .i64 y]] w fun e w' => e = .returned (intT (omoR a b c d x y)) ∧ Below w.heap.size w w' := by
  rcases hm : motB a b c d x y with _ | _
  · have EA := Lib.hid (show intT (omoR a b c d x y) = .tuple #[.int .i64 0, .int .i64 1] by simp [intT, omoR, omoI, hm])
    have M0 : Km (w.heap.size) a b c d x y (w.alloc (.cells #[.int .i64 a, .int .i64 b, .int .i64 c, .int .i64 d, .int .i64 x, .int .i64 y] 29)) := (Km.at (w.heap.size) rfl)
    have B0 : Below w.heap.size w (w.alloc (.cells #[.int .i64 a, .int .i64 b, .int .i64 c, .int .i64 d, .int .i64 x, .int .i64 y] 29)) := (Below.alloc (Below.refl _ _) (by first | with_reducible exact Nat.le_refl _ | (simp <;> omega)) _)
    go_enter Tryd.func21, Tryd.ntmps21
    have M0c0 := M0.c0
    have M0c1 := M0.c1
    have M0c2 := M0.c2
    have M0c3 := M0.c3
    have M0c4 := M0.c4
    have M0c5 := M0.c5
    have M0l := M0.1
    go_wp2_with fail
    refine (specIsMo_any _ _ _ _ _ _ _).mono ?_
    rintro e w1 ⟨rfl, hb1⟩
    have M1 : Km (w.heap.size) a b c d x y w1 := Km.call M0 hb1
    have B1 : Below w.heap.size w w1 := bstep B0 hb1
    clear hb1 B0 M0
    have M1c0 := M1.c0
    have M1c1 := M1.c1
    have M1c2 := M1.c2
    have M1c3 := M1.c3
    have M1c4 := M1.c4
    have M1c5 := M1.c5
    have M1l := M1.1
    have M1n : ¬ w.heap.size = w1.heap.size := by omega
    go_wp2
    go_ret2
    refine ⟨ret_val EA.out.symm, ?_⟩
    repeat (first | with_reducible assumption | with_reducible exact Below.refl _ _ | with_reducible refine Below.setCell ?_ (by first | omega | (simp <;> omega)) _ | with_reducible refine Below.alloc ?_ (by first | omega | (simp <;> omega)) _ | with_reducible refine bstep ?_ (by with_reducible assumption) | with_reducible refine Below.drew ?_)
  rcases h1 : (!(knd a b c d x y == 1)) with _ | _
  · have EA := Lib.hid (show intT (omoR a b c d x y) = .tuple #[.int .i64 0, .int .i64 0] by simp [intT, omoR, omoI, hm, show (knd a b c d x y == 1) = true by simpa using h1])
    have h1' : (knd a b c d x y == 1) = true := by simpa using h1
    have M0 : Km (w.heap.size) a b c d x y (w.alloc (.cells #[.int .i64 a, .int .i64 b, .int .i64 c, .int .i64 d, .int .i64 x, .int .i64 y] 29)) := (Km.at (w.heap.size) rfl)
    have B0 : Below w.heap.size w (w.alloc (.cells #[.int .i64 a, .int .i64 b, .int .i64 c, .int .i64 d, .int .i64 x, .int .i64 y] 29)) := (Below.alloc (Below.refl _ _) (by first | with_reducible exact Nat.le_refl _ | (simp <;> omega)) _)
    go_enter Tryd.func21, Tryd.ntmps21
    have M0c0 := M0.c0
    have M0c1 := M0.c1
    have M0c2 := M0.c2
    have M0c3 := M0.c3
    have M0c4 := M0.c4
    have M0c5 := M0.c5
    have M0l := M0.1
    go_wp2_with fail
    refine (specIsMo_any _ _ _ _ _ _ _).mono ?_
    rintro e w1 ⟨rfl, hb1⟩
    have M1 : Km (w.heap.size) a b c d x y w1 := Km.call M0 hb1
    have B1 : Below w.heap.size w w1 := bstep B0 hb1
    clear hb1 B0 M0
    have M1c0 := M1.c0
    have M1c1 := M1.c1
    have M1c2 := M1.c2
    have M1c3 := M1.c3
    have M1c4 := M1.c4
    have M1c5 := M1.c5
    have M1l := M1.1
    have M1n : ¬ w.heap.size = w1.heap.size := by omega
    go_wp2_with fail
    refine (l05Kind_any _ _ _ _ _ _ _ hm).mono ?_
    rintro e w2 ⟨rfl, hb2⟩
    have M2 : Km (w.heap.size) a b c d x y w2 := Km.call M1 hb2
    have B2 : Below w.heap.size w w2 := bstep B1 hb2
    clear hb2 B1 M1
    have M2c0 := M2.c0
    have M2c1 := M2.c1
    have M2c2 := M2.c2
    have M2c3 := M2.c3
    have M2c4 := M2.c4
    have M2c5 := M2.c5
    have M2l := M2.1
    have M2n : ¬ w.heap.size = w2.heap.size := by omega
    go_wp2
    go_ret2
    refine ⟨ret_val EA.out.symm, ?_⟩
    repeat (first | with_reducible assumption | with_reducible exact Below.refl _ _ | with_reducible refine Below.setCell ?_ (by first | omega | (simp <;> omega)) _ | with_reducible refine Below.alloc ?_ (by first | omega | (simp <;> omega)) _ | with_reducible refine bstep ?_ (by with_reducible assumption) | with_reducible refine Below.drew ?_)
  rcases h4 : (!(knd a b c d x y == 4)) with _ | _
  · have EA := Lib.hid (show intT (omoR a b c d x y) = .tuple #[.int .i64 0, .int .i64 0] by simp [intT, omoR, omoI, hm, show (knd a b c d x y == 4) = true by simpa using h4])
    have h1' : (knd a b c d x y == 1) = false := by simpa using h1
    have h4' : (knd a b c d x y == 4) = true := by simpa using h4
    have M0 : Km (w.heap.size) a b c d x y (w.alloc (.cells #[.int .i64 a, .int .i64 b, .int .i64 c, .int .i64 d, .int .i64 x, .int .i64 y] 29)) := (Km.at (w.heap.size) rfl)
    have B0 : Below w.heap.size w (w.alloc (.cells #[.int .i64 a, .int .i64 b, .int .i64 c, .int .i64 d, .int .i64 x, .int .i64 y] 29)) := (Below.alloc (Below.refl _ _) (by first | with_reducible exact Nat.le_refl _ | (simp <;> omega)) _)
    go_enter Tryd.func21, Tryd.ntmps21
    have M0c0 := M0.c0
    have M0c1 := M0.c1
    have M0c2 := M0.c2
    have M0c3 := M0.c3
    have M0c4 := M0.c4
    have M0c5 := M0.c5
    have M0l := M0.1
    go_wp2_with fail
    refine (specIsMo_any _ _ _ _ _ _ _).mono ?_
    rintro e w1 ⟨rfl, hb1⟩
    have M1 : Km (w.heap.size) a b c d x y w1 := Km.call M0 hb1
    have B1 : Below w.heap.size w w1 := bstep B0 hb1
    clear hb1 B0 M0
    have M1c0 := M1.c0
    have M1c1 := M1.c1
    have M1c2 := M1.c2
    have M1c3 := M1.c3
    have M1c4 := M1.c4
    have M1c5 := M1.c5
    have M1l := M1.1
    have M1n : ¬ w.heap.size = w1.heap.size := by omega
    go_wp2_with fail
    refine (l05Kind_any _ _ _ _ _ _ _ hm).mono ?_
    rintro e w2 ⟨rfl, hb2⟩
    have M2 : Km (w.heap.size) a b c d x y w2 := Km.call M1 hb2
    have B2 : Below w.heap.size w w2 := bstep B1 hb2
    clear hb2 B1 M1
    have M2c0 := M2.c0
    have M2c1 := M2.c1
    have M2c2 := M2.c2
    have M2c3 := M2.c3
    have M2c4 := M2.c4
    have M2c5 := M2.c5
    have M2l := M2.1
    have M2n : ¬ w.heap.size = w2.heap.size := by omega
    go_wp2
    go_ret2
    refine ⟨ret_val EA.out.symm, ?_⟩
    repeat (first | with_reducible assumption | with_reducible exact Below.refl _ _ | with_reducible refine Below.setCell ?_ (by first | omega | (simp <;> omega)) _ | with_reducible refine Below.alloc ?_ (by first | omega | (simp <;> omega)) _ | with_reducible refine bstep ?_ (by with_reducible assumption) | with_reducible refine Below.drew ?_)
  · have EA := Lib.hid (show intT (omoR a b c d x y) = .tuple #[.int .i64 (ordI a b c d), .int .i64 0] by simp [intT, omoR, omoI, hm, show (knd a b c d x y == 1) = false by simpa using h1, show (knd a b c d x y == 4) = false by simpa using h4, ord_eq (motB_mat hm)])
    have h1' : (knd a b c d x y == 1) = false := by simpa using h1
    have h4' : (knd a b c d x y == 4) = false := by simpa using h4
    have M0 : Km (w.heap.size) a b c d x y (w.alloc (.cells #[.int .i64 a, .int .i64 b, .int .i64 c, .int .i64 d, .int .i64 x, .int .i64 y] 29)) := (Km.at (w.heap.size) rfl)
    have B0 : Below w.heap.size w (w.alloc (.cells #[.int .i64 a, .int .i64 b, .int .i64 c, .int .i64 d, .int .i64 x, .int .i64 y] 29)) := (Below.alloc (Below.refl _ _) (by first | with_reducible exact Nat.le_refl _ | (simp <;> omega)) _)
    go_enter Tryd.func21, Tryd.ntmps21
    have M0c0 := M0.c0
    have M0c1 := M0.c1
    have M0c2 := M0.c2
    have M0c3 := M0.c3
    have M0c4 := M0.c4
    have M0c5 := M0.c5
    have M0l := M0.1
    go_wp2_with fail
    refine (specIsMo_any _ _ _ _ _ _ _).mono ?_
    rintro e w1 ⟨rfl, hb1⟩
    have M1 : Km (w.heap.size) a b c d x y w1 := Km.call M0 hb1
    have B1 : Below w.heap.size w w1 := bstep B0 hb1
    clear hb1 B0 M0
    have M1c0 := M1.c0
    have M1c1 := M1.c1
    have M1c2 := M1.c2
    have M1c3 := M1.c3
    have M1c4 := M1.c4
    have M1c5 := M1.c5
    have M1l := M1.1
    have M1n : ¬ w.heap.size = w1.heap.size := by omega
    go_wp2_with fail
    refine (l05Kind_any _ _ _ _ _ _ _ hm).mono ?_
    rintro e w2 ⟨rfl, hb2⟩
    have M2 : Km (w.heap.size) a b c d x y w2 := Km.call M1 hb2
    have B2 : Below w.heap.size w w2 := bstep B1 hb2
    clear hb2 B1 M1
    have M2c0 := M2.c0
    have M2c1 := M2.c1
    have M2c2 := M2.c2
    have M2c3 := M2.c3
    have M2c4 := M2.c4
    have M2c5 := M2.c5
    have M2l := M2.1
    have M2n : ¬ w.heap.size = w2.heap.size := by omega
    go_wp2_with fail
    refine (l02Order_any _ _ _ _ _ (motB_lim hm)).mono ?_
    rintro e w3 ⟨rfl, hb3⟩
    have M3 : Km (w.heap.size) a b c d x y w3 := Km.call M2 hb3
    have B3 : Below w.heap.size w w3 := bstep B2 hb3
    clear hb3 B2 M2
    have M3c0 := M3.c0
    have M3c1 := M3.c1
    have M3c2 := M3.c2
    have M3c3 := M3.c3
    have M3c4 := M3.c4
    have M3c5 := M3.c5
    have M3l := M3.1
    have M3n : ¬ w.heap.size = w3.heap.size := by omega
    go_wp2
    go_ret2
    refine ⟨ret_val EA.out.symm, ?_⟩
    repeat (first | with_reducible assumption | with_reducible exact Below.refl _ _ | with_reducible refine Below.setCell ?_ (by first | omega | (simp <;> omega)) _ | with_reducible refine Below.alloc ?_ (by first | omega | (simp <;> omega)) _ | with_reducible refine bstep ?_ (by with_reducible assumption) | with_reducible refine Below.drew ?_)

set_option maxRecDepth 100000 in
set_option maxHeartbeats 8000000 in
theorem specTwg_any (a b c d x y : Int) (w : World) :
    Calls Tryd.prog 24 #[.agg #[.int .i64 a, .int .i64 b, .int .i64 c, .int .i64 d, .int .i64 x, .int .i64 y]] w fun e w' => e = .returned (vecT (twgR a b c d x y)) ∧ Below w.heap.size w w' := by
  rcases hm : motB a b c d x y with _ | _
  · have EA := Lib.hid (show vecT (twgR a b c d x y) = .tuple #[.agg #[.int .i64 0, .int .i64 0], .int .i64 1] by simp [vecT, twgR, hm])
    have M0 : Km (w.heap.size) a b c d x y ((w.alloc (.cells #[.int .i64 a, .int .i64 b, .int .i64 c, .int .i64 d, .int .i64 x, .int .i64 y] 29)).alloc (.cells #[.int .i64 0, .int .i64 0] 27)) := ((Km.at (w.heap.size) rfl).alloc _)
    have R0 : KV (w.heap.size + 1) 0 0 ((w.alloc (.cells #[.int .i64 a, .int .i64 b, .int .i64 c, .int .i64 d, .int .i64 x, .int .i64 y] 29)).alloc (.cells #[.int .i64 0, .int .i64 0] 27)) := (KV.at (w.heap.size + 1) (by simp))
    have B0 : Below w.heap.size w ((w.alloc (.cells #[.int .i64 a, .int .i64 b, .int .i64 c, .int .i64 d, .int .i64 x, .int .i64 y] 29)).alloc (.cells #[.int .i64 0, .int .i64 0] 27)) := (Below.alloc (Below.alloc (Below.refl _ _) (by first | with_reducible exact Nat.le_refl _ | (simp <;> omega)) _) (by first | with_reducible exact Nat.le_refl _ | (simp <;> omega)) _)
    go_enter Tryd.func24, Tryd.ntmps24
    have M0c0 := M0.c0
    have M0c1 := M0.c1
    have M0c2 := M0.c2
    have M0c3 := M0.c3
    have M0c4 := M0.c4
    have M0c5 := M0.c5
    have M0l := M0.1
    have R0c0 := R0.c0
    have R0c1 := R0.c1
    have R0f0 := R0.f0
    have R0f1 := R0.f1
    have R0l := R0.lt
    go_wp2_with fail
    refine (specIsMo_any _ _ _ _ _ _ _).mono ?_
    rintro e w1 ⟨rfl, hb1⟩
    have M1 : Km (w.heap.size) a b c d x y w1 := Km.call M0 hb1
    have R1 : KV (w.heap.size + 1) 0 0 w1 := KV.call R0 hb1
    have B1 : Below w.heap.size w w1 := bstep B0 hb1
    clear hb1 B0 M0 R0
    have M1c0 := M1.c0
    have M1c1 := M1.c1
    have M1c2 := M1.c2
    have M1c3 := M1.c3
    have M1c4 := M1.c4
    have M1c5 := M1.c5
    have M1l := M1.1
    have M1n : ¬ w.heap.size = w1.heap.size := by omega
    have R1c0 := R1.c0
    have R1c1 := R1.c1
    have R1f0 := R1.f0
    have R1f1 := R1.f1
    have R1l := R1.lt
    have R1n : ¬ w.heap.size + 1 = w1.heap.size := by omega
    go_wp2
    refine bodyPost_ret (v := .tuple #[.agg #[.int .i64 0, .int .i64 0], .int .i64 1]) (by simp [results, Tryd.results24, go_sem, *]) rfl ⟨ret_val EA.out.symm, ?_⟩
    repeat (first | with_reducible assumption | with_reducible exact Below.refl _ _ | with_reducible refine Below.setCell ?_ (by first | omega | (simp <;> omega)) _ | with_reducible refine Below.alloc ?_ (by first | omega | (simp <;> omega)) _ | with_reducible refine bstep ?_ (by with_reducible assumption) | with_reducible refine Below.drew ?_)
  rcases hr : reflB a b c d with _ | _
  · have EA := Lib.hid (show vecT (twgR a b c d x y) = .tuple #[.agg #[.int .i64 0, .int .i64 0], .int .i64 5] by simp [vecT, twgR, hm, hr])
    have hd : (a * d - b * c == -1) = false := by rw [mot_refl hm, hr]
    have M0 : Km (w.heap.size) a b c d x y ((w.alloc (.cells #[.int .i64 a, .int .i64 b, .int .i64 c, .int .i64 d, .int .i64 x, .int .i64 y] 29)).alloc (.cells #[.int .i64 0, .int .i64 0] 27)) := ((Km.at (w.heap.size) rfl).alloc _)
    have R0 : KV (w.heap.size + 1) 0 0 ((w.alloc (.cells #[.int .i64 a, .int .i64 b, .int .i64 c, .int .i64 d, .int .i64 x, .int .i64 y] 29)).alloc (.cells #[.int .i64 0, .int .i64 0] 27)) := (KV.at (w.heap.size + 1) (by simp))
    have B0 : Below w.heap.size w ((w.alloc (.cells #[.int .i64 a, .int .i64 b, .int .i64 c, .int .i64 d, .int .i64 x, .int .i64 y] 29)).alloc (.cells #[.int .i64 0, .int .i64 0] 27)) := (Below.alloc (Below.alloc (Below.refl _ _) (by first | with_reducible exact Nat.le_refl _ | (simp <;> omega)) _) (by first | with_reducible exact Nat.le_refl _ | (simp <;> omega)) _)
    go_enter Tryd.func24, Tryd.ntmps24
    have M0c0 := M0.c0
    have M0c1 := M0.c1
    have M0c2 := M0.c2
    have M0c3 := M0.c3
    have M0c4 := M0.c4
    have M0c5 := M0.c5
    have M0l := M0.1
    have R0c0 := R0.c0
    have R0c1 := R0.c1
    have R0f0 := R0.f0
    have R0f1 := R0.f1
    have R0l := R0.lt
    go_wp2_with fail
    refine (specIsMo_any _ _ _ _ _ _ _).mono ?_
    rintro e w1 ⟨rfl, hb1⟩
    have M1 : Km (w.heap.size) a b c d x y w1 := Km.call M0 hb1
    have R1 : KV (w.heap.size + 1) 0 0 w1 := KV.call R0 hb1
    have B1 : Below w.heap.size w w1 := bstep B0 hb1
    clear hb1 B0 M0 R0
    have M1c0 := M1.c0
    have M1c1 := M1.c1
    have M1c2 := M1.c2
    have M1c3 := M1.c3
    have M1c4 := M1.c4
    have M1c5 := M1.c5
    have M1l := M1.1
    have M1n : ¬ w.heap.size = w1.heap.size := by omega
    have R1c0 := R1.c0
    have R1c1 := R1.c1
    have R1f0 := R1.f0
    have R1f1 := R1.f1
    have R1l := R1.lt
    have R1n : ¬ w.heap.size + 1 = w1.heap.size := by omega
    go_wp2_with fail
    refine (l02Det_any _ _ _ _ _ (motB_lim hm)).mono ?_
    rintro e w2 ⟨rfl, hb2⟩
    have M2 : Km (w.heap.size) a b c d x y w2 := Km.call M1 hb2
    have R2 : KV (w.heap.size + 1) 0 0 w2 := KV.call R1 hb2
    have B2 : Below w.heap.size w w2 := bstep B1 hb2
    clear hb2 B1 M1 R1
    have M2c0 := M2.c0
    have M2c1 := M2.c1
    have M2c2 := M2.c2
    have M2c3 := M2.c3
    have M2c4 := M2.c4
    have M2c5 := M2.c5
    have M2l := M2.1
    have M2n : ¬ w.heap.size = w2.heap.size := by omega
    have R2c0 := R2.c0
    have R2c1 := R2.c1
    have R2f0 := R2.f0
    have R2f1 := R2.f1
    have R2l := R2.lt
    have R2n : ¬ w.heap.size + 1 = w2.heap.size := by omega
    go_wp2
    refine bodyPost_ret (v := .tuple #[.agg #[.int .i64 0, .int .i64 0], .int .i64 5]) (by simp [results, Tryd.results24, go_sem, *]) rfl ⟨ret_val EA.out.symm, ?_⟩
    repeat (first | with_reducible assumption | with_reducible exact Below.refl _ _ | with_reducible refine Below.setCell ?_ (by first | omega | (simp <;> omega)) _ | with_reducible refine Below.alloc ?_ (by first | omega | (simp <;> omega)) _ | with_reducible refine bstep ?_ (by with_reducible assumption) | with_reducible refine Below.drew ?_)
  rcases hs : vecB (a * x + b * y + x) (c * x + d * y + y) with _ | _
  · have EA := Lib.hid (show vecT (twgR a b c d x y) = .tuple #[.agg #[.int .i64 0, .int .i64 0], .int .i64 3] by simp [vecT, twgR, hm, hr, hs])
    have hd : (a * d - b * c == -1) = true := by rw [mot_refl hm, hr]
    have M0 : Km (w.heap.size) a b c d x y ((w.alloc (.cells #[.int .i64 a, .int .i64 b, .int .i64 c, .int .i64 d, .int .i64 x, .int .i64 y] 29)).alloc (.cells #[.int .i64 0, .int .i64 0] 27)) := ((Km.at (w.heap.size) rfl).alloc _)
    have R0 : KV (w.heap.size + 1) 0 0 ((w.alloc (.cells #[.int .i64 a, .int .i64 b, .int .i64 c, .int .i64 d, .int .i64 x, .int .i64 y] 29)).alloc (.cells #[.int .i64 0, .int .i64 0] 27)) := (KV.at (w.heap.size + 1) (by simp))
    have B0 : Below w.heap.size w ((w.alloc (.cells #[.int .i64 a, .int .i64 b, .int .i64 c, .int .i64 d, .int .i64 x, .int .i64 y] 29)).alloc (.cells #[.int .i64 0, .int .i64 0] 27)) := (Below.alloc (Below.alloc (Below.refl _ _) (by first | with_reducible exact Nat.le_refl _ | (simp <;> omega)) _) (by first | with_reducible exact Nat.le_refl _ | (simp <;> omega)) _)
    go_enter Tryd.func24, Tryd.ntmps24
    have M0c0 := M0.c0
    have M0c1 := M0.c1
    have M0c2 := M0.c2
    have M0c3 := M0.c3
    have M0c4 := M0.c4
    have M0c5 := M0.c5
    have M0l := M0.1
    have R0c0 := R0.c0
    have R0c1 := R0.c1
    have R0f0 := R0.f0
    have R0f1 := R0.f1
    have R0l := R0.lt
    go_wp2_with fail
    refine (specIsMo_any _ _ _ _ _ _ _).mono ?_
    rintro e w1 ⟨rfl, hb1⟩
    have M1 : Km (w.heap.size) a b c d x y w1 := Km.call M0 hb1
    have R1 : KV (w.heap.size + 1) 0 0 w1 := KV.call R0 hb1
    have B1 : Below w.heap.size w w1 := bstep B0 hb1
    clear hb1 B0 M0 R0
    have M1c0 := M1.c0
    have M1c1 := M1.c1
    have M1c2 := M1.c2
    have M1c3 := M1.c3
    have M1c4 := M1.c4
    have M1c5 := M1.c5
    have M1l := M1.1
    have M1n : ¬ w.heap.size = w1.heap.size := by omega
    have R1c0 := R1.c0
    have R1c1 := R1.c1
    have R1f0 := R1.f0
    have R1f1 := R1.f1
    have R1l := R1.lt
    have R1n : ¬ w.heap.size + 1 = w1.heap.size := by omega
    go_wp2_with fail
    refine (l02Det_any _ _ _ _ _ (motB_lim hm)).mono ?_
    rintro e w2 ⟨rfl, hb2⟩
    have M2 : Km (w.heap.size) a b c d x y w2 := Km.call M1 hb2
    have R2 : KV (w.heap.size + 1) 0 0 w2 := KV.call R1 hb2
    have B2 : Below w.heap.size w w2 := bstep B1 hb2
    clear hb2 B1 M1 R1
    have M2c0 := M2.c0
    have M2c1 := M2.c1
    have M2c2 := M2.c2
    have M2c3 := M2.c3
    have M2c4 := M2.c4
    have M2c5 := M2.c5
    have M2l := M2.1
    have M2n : ¬ w.heap.size = w2.heap.size := by omega
    have R2c0 := R2.c0
    have R2c1 := R2.c1
    have R2f0 := R2.f0
    have R2f1 := R2.f1
    have R2l := R2.lt
    have R2n : ¬ w.heap.size + 1 = w2.heap.size := by omega
    go_wp2_with fail
    refine (l05Twice_any _ _ _ _ _ _ _ (motB_lim hm) (motB_vec hm)).mono ?_
    rintro e w3 ⟨rfl, hb3⟩
    have M3 : Km (w.heap.size) a b c d x y w3 := Km.call M2 hb3
    have R3 : KV (w.heap.size + 1) 0 0 w3 := KV.call R2 hb3
    have B3 : Below w.heap.size w w3 := bstep B2 hb3
    clear hb3 B2 M2 R2
    have M3c0 := M3.c0
    have M3c1 := M3.c1
    have M3c2 := M3.c2
    have M3c3 := M3.c3
    have M3c4 := M3.c4
    have M3c5 := M3.c5
    have M3l := M3.1
    have M3n : ¬ w.heap.size = w3.heap.size := by omega
    have R3c0 := R3.c0
    have R3c1 := R3.c1
    have R3f0 := R3.f0
    have R3f1 := R3.f1
    have R3l := R3.lt
    have R3n : ¬ w.heap.size + 1 = w3.heap.size := by omega
    go_wp2_with fail
    refine (l01Result_no _ _ _ hs).mono ?_
    rintro e w4 ⟨rfl, hb4⟩
    have M4 : Km (w.heap.size) a b c d x y w4 := Km.call M3 hb4
    have R4 : KV (w.heap.size + 1) 0 0 w4 := KV.call R3 hb4
    have B4 : Below w.heap.size w w4 := bstep B3 hb4
    clear hb4 B3 M3 R3
    have M4c0 := M4.c0
    have M4c1 := M4.c1
    have M4c2 := M4.c2
    have M4c3 := M4.c3
    have M4c4 := M4.c4
    have M4c5 := M4.c5
    have M4l := M4.1
    have M4n : ¬ w.heap.size = w4.heap.size := by omega
    have R4c0 := R4.c0
    have R4c1 := R4.c1
    have R4f0 := R4.f0
    have R4f1 := R4.f1
    have R4l := R4.lt
    have R4n : ¬ w.heap.size + 1 = w4.heap.size := by omega
    go_wp2
    refine bodyPost_ret (v := .tuple #[.agg #[.int .i64 0, .int .i64 0], .int .i64 3]) (by simp [results, Tryd.results24, go_sem, *]) rfl ⟨ret_val EA.out.symm, ?_⟩
    repeat (first | with_reducible assumption | with_reducible exact Below.refl _ _ | with_reducible refine Below.setCell ?_ (by first | omega | (simp <;> omega)) _ | with_reducible refine Below.alloc ?_ (by first | omega | (simp <;> omega)) _ | with_reducible refine bstep ?_ (by with_reducible assumption) | with_reducible refine Below.drew ?_)
  · have EA := Lib.hid (show vecT (twgR a b c d x y) = .tuple #[.agg #[.int .i64 (a * x + b * y + x), .int .i64 (c * x + d * y + y)], .int .i64 0] by simp [vecT, twgR, hm, hr, hs])
    have hd : (a * d - b * c == -1) = true := by rw [mot_refl hm, hr]
    have M0 : Km (w.heap.size) a b c d x y ((w.alloc (.cells #[.int .i64 a, .int .i64 b, .int .i64 c, .int .i64 d, .int .i64 x, .int .i64 y] 29)).alloc (.cells #[.int .i64 0, .int .i64 0] 27)) := ((Km.at (w.heap.size) rfl).alloc _)
    have R0 : KV (w.heap.size + 1) 0 0 ((w.alloc (.cells #[.int .i64 a, .int .i64 b, .int .i64 c, .int .i64 d, .int .i64 x, .int .i64 y] 29)).alloc (.cells #[.int .i64 0, .int .i64 0] 27)) := (KV.at (w.heap.size + 1) (by simp))
    have B0 : Below w.heap.size w ((w.alloc (.cells #[.int .i64 a, .int .i64 b, .int .i64 c, .int .i64 d, .int .i64 x, .int .i64 y] 29)).alloc (.cells #[.int .i64 0, .int .i64 0] 27)) := (Below.alloc (Below.alloc (Below.refl _ _) (by first | with_reducible exact Nat.le_refl _ | (simp <;> omega)) _) (by first | with_reducible exact Nat.le_refl _ | (simp <;> omega)) _)
    go_enter Tryd.func24, Tryd.ntmps24
    have M0c0 := M0.c0
    have M0c1 := M0.c1
    have M0c2 := M0.c2
    have M0c3 := M0.c3
    have M0c4 := M0.c4
    have M0c5 := M0.c5
    have M0l := M0.1
    have R0c0 := R0.c0
    have R0c1 := R0.c1
    have R0f0 := R0.f0
    have R0f1 := R0.f1
    have R0l := R0.lt
    go_wp2_with fail
    refine (specIsMo_any _ _ _ _ _ _ _).mono ?_
    rintro e w1 ⟨rfl, hb1⟩
    have M1 : Km (w.heap.size) a b c d x y w1 := Km.call M0 hb1
    have R1 : KV (w.heap.size + 1) 0 0 w1 := KV.call R0 hb1
    have B1 : Below w.heap.size w w1 := bstep B0 hb1
    clear hb1 B0 M0 R0
    have M1c0 := M1.c0
    have M1c1 := M1.c1
    have M1c2 := M1.c2
    have M1c3 := M1.c3
    have M1c4 := M1.c4
    have M1c5 := M1.c5
    have M1l := M1.1
    have M1n : ¬ w.heap.size = w1.heap.size := by omega
    have R1c0 := R1.c0
    have R1c1 := R1.c1
    have R1f0 := R1.f0
    have R1f1 := R1.f1
    have R1l := R1.lt
    have R1n : ¬ w.heap.size + 1 = w1.heap.size := by omega
    go_wp2_with fail
    refine (l02Det_any _ _ _ _ _ (motB_lim hm)).mono ?_
    rintro e w2 ⟨rfl, hb2⟩
    have M2 : Km (w.heap.size) a b c d x y w2 := Km.call M1 hb2
    have R2 : KV (w.heap.size + 1) 0 0 w2 := KV.call R1 hb2
    have B2 : Below w.heap.size w w2 := bstep B1 hb2
    clear hb2 B1 M1 R1
    have M2c0 := M2.c0
    have M2c1 := M2.c1
    have M2c2 := M2.c2
    have M2c3 := M2.c3
    have M2c4 := M2.c4
    have M2c5 := M2.c5
    have M2l := M2.1
    have M2n : ¬ w.heap.size = w2.heap.size := by omega
    have R2c0 := R2.c0
    have R2c1 := R2.c1
    have R2f0 := R2.f0
    have R2f1 := R2.f1
    have R2l := R2.lt
    have R2n : ¬ w.heap.size + 1 = w2.heap.size := by omega
    go_wp2_with fail
    refine (l05Twice_any _ _ _ _ _ _ _ (motB_lim hm) (motB_vec hm)).mono ?_
    rintro e w3 ⟨rfl, hb3⟩
    have M3 : Km (w.heap.size) a b c d x y w3 := Km.call M2 hb3
    have R3 : KV (w.heap.size + 1) 0 0 w3 := KV.call R2 hb3
    have B3 : Below w.heap.size w w3 := bstep B2 hb3
    clear hb3 B2 M2 R2
    have M3c0 := M3.c0
    have M3c1 := M3.c1
    have M3c2 := M3.c2
    have M3c3 := M3.c3
    have M3c4 := M3.c4
    have M3c5 := M3.c5
    have M3l := M3.1
    have M3n : ¬ w.heap.size = w3.heap.size := by omega
    have R3c0 := R3.c0
    have R3c1 := R3.c1
    have R3f0 := R3.f0
    have R3f1 := R3.f1
    have R3l := R3.lt
    have R3n : ¬ w.heap.size + 1 = w3.heap.size := by omega
    go_wp2_with fail
    refine (l01Result_yes _ _ _ hs).mono ?_
    rintro e w4 ⟨rfl, hb4⟩
    have M4 : Km (w.heap.size) a b c d x y w4 := Km.call M3 hb4
    have R4 : KV (w.heap.size + 1) 0 0 w4 := KV.call R3 hb4
    have B4 : Below w.heap.size w w4 := bstep B3 hb4
    clear hb4 B3 M3 R3
    have M4c0 := M4.c0
    have M4c1 := M4.c1
    have M4c2 := M4.c2
    have M4c3 := M4.c3
    have M4c4 := M4.c4
    have M4c5 := M4.c5
    have M4l := M4.1
    have M4n : ¬ w.heap.size = w4.heap.size := by omega
    have R4c0 := R4.c0
    have R4c1 := R4.c1
    have R4f0 := R4.f0
    have R4f1 := R4.f1
    have R4l := R4.lt
    have R4n : ¬ w.heap.size + 1 = w4.heap.size := by omega
    go_wp2
    refine bodyPost_ret (v := .tuple #[.agg #[.int .i64 (a * x + b * y + x), .int .i64 (c * x + d * y + y)], .int .i64 0]) (by simp [results, Tryd.results24, go_sem, *]) rfl ⟨ret_val EA.out.symm, ?_⟩
    repeat (first | with_reducible assumption | with_reducible exact Below.refl _ _ | with_reducible refine Below.setCell ?_ (by first | omega | (simp <;> omega)) _ | with_reducible refine Below.alloc ?_ (by first | omega | (simp <;> omega)) _ | with_reducible refine bstep ?_ (by with_reducible assumption) | with_reducible refine Below.drew ?_)

end Go.Proofs.YtpdekopmnchanabDoor
