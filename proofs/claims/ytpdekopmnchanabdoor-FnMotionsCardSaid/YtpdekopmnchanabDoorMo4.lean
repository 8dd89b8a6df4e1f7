/-
  Contracts of chapter 5's exported functions on motions: the program's function and the model's have one and the same answer. Condition: for the program, its variable unitMatrix holds the unit.
-/
import Derived.Test.YtpdekopmnchanabDoorMo2
namespace Go.Proofs.YtpdekopmnchanabDoor
open Go.RowKit
set_option linter.unusedSimpArgs false
set_option linter.unusedVariables false

def CmpCutno (w : World) (a b c d x y a' b' c' d' x' y' : Int) (s6 s7 : Value) (wx : World) : Prop :=
  ∃ g0 : Nat, s6 = .pointer (some ⟨g0, 0, none⟩) ∧ s7 = .int .i64 (3) ∧ KM g0 0 0 0 0 0 0 wx ∧ Km (w.heap.size) a b c d x y wx ∧ Km (w.heap.size + 1) a' b' c' d' x' y' wx ∧ KM (w.heap.size + 1 + 1) 0 0 0 0 0 0 wx ∧ Kq (0) 1 0 0 1 wx ∧ w.heap.size + 1 + 1 + 1 ≤ g0 ∧ Below w.heap.size w wx
def CmpCutyes (w : World) (a b c d x y a' b' c' d' x' y' : Int) (s6 s7 : Value) (wx : World) : Prop :=
  ∃ g0 : Nat, s6 = .pointer (some ⟨g0, 0, none⟩) ∧ s7 = .int .i64 (0) ∧ KM g0 (a * a' + b * c') (a * b' + b * d') (c * a' + d * c') (c * b' + d * d') (a * x' + b * y' + x) (c * x' + d * y' + y) wx ∧ Km (w.heap.size) a b c d x y wx ∧ Km (w.heap.size + 1) a' b' c' d' x' y' wx ∧ KM (w.heap.size + 1 + 1) 0 0 0 0 0 0 wx ∧ Kq (0) 1 0 0 1 wx ∧ w.heap.size + 1 + 1 + 1 ≤ g0 ∧ Below w.heap.size w wx
set_option maxRecDepth 100000 in
set_option maxHeartbeats 2000000 in
theorem implCmp_any (a b c d x y a' b' c' d' x' y' : Int) (w : World) (hU : UnitOK w) :
    Calls Tryd.prog 7 #[.agg #[.int .i64 a, .int .i64 b, .int .i64 c, .int .i64 d, .int .i64 x, .int .i64 y], .agg #[.int .i64 a', .int .i64 b', .int .i64 c', .int .i64 d', .int .i64 x', .int .i64 y']] w fun e w' => e = .returned (motT (cmpR a b c d x y a' b' c' d' x' y')) ∧ Below w.heap.size w w' := by
  rcases hm : motB a b c d x y with _ | _
  · have EA := Lib.hid (show motT (cmpR a b c d x y a' b' c' d' x' y') = .tuple #[.agg #[.int .i64 0, .int .i64 0, .int .i64 0, .int .i64 0, .int .i64 0, .int .i64 0], .int .i64 1] by simp [motT, cmpR, hm])
    have M0 : Km (w.heap.size) a b c d x y (((w.alloc (.cells #[.int .i64 a, .int .i64 b, .int .i64 c, .int .i64 d, .int .i64 x, .int .i64 y] 29)).alloc (.cells #[.int .i64 a', .int .i64 b', .int .i64 c', .int .i64 d', .int .i64 x', .int .i64 y'] 29)).alloc (.cells #[.int .i64 0, .int .i64 0, .int .i64 0, .int .i64 0, .int .i64 0, .int .i64 0] 29)) := (((Km.at (w.heap.size) rfl).alloc _).alloc _)
    have N0 : Km (w.heap.size + 1) a' b' c' d' x' y' (((w.alloc (.cells #[.int .i64 a, .int .i64 b, .int .i64 c, .int .i64 d, .int .i64 x, .int .i64 y] 29)).alloc (.cells #[.int .i64 a', .int .i64 b', .int .i64 c', .int .i64 d', .int .i64 x', .int .i64 y'] 29)).alloc (.cells #[.int .i64 0, .int .i64 0, .int .i64 0, .int .i64 0, .int .i64 0, .int .i64 0] 29)) := ((Km.at (w.heap.size + 1) (by simp)).alloc _)
    have R0 : KM (w.heap.size + 1 + 1) 0 0 0 0 0 0 (((w.alloc (.cells #[.int .i64 a, .int .i64 b, .int .i64 c, .int .i64 d, .int .i64 x, .int .i64 y] 29)).alloc (.cells #[.int .i64 a', .int .i64 b', .int .i64 c', .int .i64 d', .int .i64 x', .int .i64 y'] 29)).alloc (.cells #[.int .i64 0, .int .i64 0, .int .i64 0, .int .i64 0, .int .i64 0, .int .i64 0] 29)) := (KM.at (w.heap.size + 1 + 1) (by simp))
    have U0 : Kq (0) 1 0 0 1 (((w.alloc (.cells #[.int .i64 a, .int .i64 b, .int .i64 c, .int .i64 d, .int .i64 x, .int .i64 y] 29)).alloc (.cells #[.int .i64 a', .int .i64 b', .int .i64 c', .int .i64 d', .int .i64 x', .int .i64 y'] 29)).alloc (.cells #[.int .i64 0, .int .i64 0, .int .i64 0, .int .i64 0, .int .i64 0, .int .i64 0] 29)) := (((hU.alloc _).alloc _).alloc _)
    have B0 : Below w.heap.size w (((w.alloc (.cells #[.int .i64 a, .int .i64 b, .int .i64 c, .int .i64 d, .int .i64 x, .int .i64 y] 29)).alloc (.cells #[.int .i64 a', .int .i64 b', .int .i64 c', .int .i64 d', .int .i64 x', .int .i64 y'] 29)).alloc (.cells #[.int .i64 0, .int .i64 0, .int .i64 0, .int .i64 0, .int .i64 0, .int .i64 0] 29)) := (Below.alloc (Below.alloc (Below.alloc (Below.refl _ _) (by first | with_reducible exact Nat.le_refl _ | (simp <;> omega)) _) (by first | with_reducible exact Nat.le_refl _ | (simp <;> omega)) _) (by first | with_reducible exact Nat.le_refl _ | (simp <;> omega)) _)
    go_enter Tryd.func7, Tryd.ntmps7
    have M0c0 := M0.c0
    have M0c1 := M0.c1
    have M0c2 := M0.c2
    have M0c3 := M0.c3
    have M0c4 := M0.c4
    have M0c5 := M0.c5
    have M0l := M0.1
    have N0c0 := N0.c0
    have N0c1 := N0.c1
    have N0c2 := N0.c2
    have N0c3 := N0.c3
    have N0c4 := N0.c4
    have N0c5 := N0.c5
    have N0l := N0.1
    have R0c0 := R0.c0
    have R0c1 := R0.c1
    have R0c2 := R0.c2
    have R0c3 := R0.c3
    have R0c4 := R0.c4
    have R0c5 := R0.c5
    have R0f0 := R0.f0
    have R0f1 := R0.f1
    have R0f2 := R0.f2
    have R0f3 := R0.f3
    have R0f4 := R0.f4
    have R0f5 := R0.f5
    have R0l := R0.lt
    have U0c0 := U0.c0
    have U0c1 := U0.c1
    have U0c2 := U0.c2
    have U0c3 := U0.c3
    have U0l := U0.1
    go_wp2_with fail
    refine (implIsMo_any _ _ _ _ _ _ _ U0).mono ?_
    rintro e w1 ⟨rfl, hb1⟩
    have M1 : Km (w.heap.size) a b c d x y w1 := Km.call M0 hb1
    have N1 : Km (w.heap.size + 1) a' b' c' d' x' y' w1 := Km.call N0 hb1
    have R1 : KM (w.heap.size + 1 + 1) 0 0 0 0 0 0 w1 := KM.call R0 hb1
    have U1 : Kq (0) 1 0 0 1 w1 := Kq.call U0 hb1
    have B1 : Below w.heap.size w w1 := bstep B0 hb1
    clear hb1 B0 M0 N0 R0 U0
    have M1c0 := M1.c0
    have M1c1 := M1.c1
    have M1c2 := M1.c2
    have M1c3 := M1.c3
    have M1c4 := M1.c4
    have M1c5 := M1.c5
    have M1l := M1.1
    have M1n : ¬ w.heap.size = w1.heap.size := by omega
    have N1c0 := N1.c0
    have N1c1 := N1.c1
    have N1c2 := N1.c2
    have N1c3 := N1.c3
    have N1c4 := N1.c4
    have N1c5 := N1.c5
    have N1l := N1.1
    have N1n : ¬ w.heap.size + 1 = w1.heap.size := by omega
    have R1c0 := R1.c0
    have R1c1 := R1.c1
    have R1c2 := R1.c2
    have R1c3 := R1.c3
    have R1c4 := R1.c4
    have R1c5 := R1.c5
    have R1f0 := R1.f0
    have R1f1 := R1.f1
    have R1f2 := R1.f2
    have R1f3 := R1.f3
    have R1f4 := R1.f4
    have R1f5 := R1.f5
    have R1l := R1.lt
    have R1n : ¬ w.heap.size + 1 + 1 = w1.heap.size := by omega
    have U1c0 := U1.c0
    have U1c1 := U1.c1
    have U1c2 := U1.c2
    have U1c3 := U1.c3
    have U1l := U1.1
    have U1n : ¬ 0 = w1.heap.size := by omega
    go_wp2
    refine bodyPost_ret (v := .tuple #[.agg #[.int .i64 0, .int .i64 0, .int .i64 0, .int .i64 0, .int .i64 0, .int .i64 0], .int .i64 1]) (by simp [results, Tryd.results7, go_sem, *]) rfl ⟨ret_val EA.out.symm, ?_⟩
    repeat (first | with_reducible assumption | with_reducible exact Below.refl _ _ | with_reducible refine Below.setCell ?_ (by first | omega | (simp <;> omega)) _ | with_reducible refine Below.alloc ?_ (by first | omega | (simp <;> omega)) _ | with_reducible refine bstep ?_ (by with_reducible assumption) | with_reducible refine Below.drew ?_)
  rcases hn : motB a' b' c' d' x' y' with _ | _
  · have EA := Lib.hid (show motT (cmpR a b c d x y a' b' c' d' x' y') = .tuple #[.agg #[.int .i64 0, .int .i64 0, .int .i64 0, .int .i64 0, .int .i64 0, .int .i64 0], .int .i64 1] by simp [motT, cmpR, hm, hn])
    have M0 : Km (w.heap.size) a b c d x y (((w.alloc (.cells #[.int .i64 a, .int .i64 b, .int .i64 c, .int .i64 d, .int .i64 x, .int .i64 y] 29)).alloc (.cells #[.int .i64 a', .int .i64 b', .int .i64 c', .int .i64 d', .int .i64 x', .int .i64 y'] 29)).alloc (.cells #[.int .i64 0, .int .i64 0, .int .i64 0, .int .i64 0, .int .i64 0, .int .i64 0] 29)) := (((Km.at (w.heap.size) rfl).alloc _).alloc _)
    have N0 : Km (w.heap.size + 1) a' b' c' d' x' y' (((w.alloc (.cells #[.int .i64 a, .int .i64 b, .int .i64 c, .int .i64 d, .int .i64 x, .int .i64 y] 29)).alloc (.cells #[.int .i64 a', .int .i64 b', .int .i64 c', .int .i64 d', .int .i64 x', .int .i64 y'] 29)).alloc (.cells #[.int .i64 0, .int .i64 0, .int .i64 0, .int .i64 0, .int .i64 0, .int .i64 0] 29)) := ((Km.at (w.heap.size + 1) (by simp)).alloc _)
    have R0 : KM (w.heap.size + 1 + 1) 0 0 0 0 0 0 (((w.alloc (.cells #[.int .i64 a, .int .i64 b, .int .i64 c, .int .i64 d, .int .i64 x, .int .i64 y] 29)).alloc (.cells #[.int .i64 a', .int .i64 b', .int .i64 c', .int .i64 d', .int .i64 x', .int .i64 y'] 29)).alloc (.cells #[.int .i64 0, .int .i64 0, .int .i64 0, .int .i64 0, .int .i64 0, .int .i64 0] 29)) := (KM.at (w.heap.size + 1 + 1) (by simp))
    have U0 : Kq (0) 1 0 0 1 (((w.alloc (.cells #[.int .i64 a, .int .i64 b, .int .i64 c, .int .i64 d, .int .i64 x, .int .i64 y] 29)).alloc (.cells #[.int .i64 a', .int .i64 b', .int .i64 c', .int .i64 d', .int .i64 x', .int .i64 y'] 29)).alloc (.cells #[.int .i64 0, .int .i64 0, .int .i64 0, .int .i64 0, .int .i64 0, .int .i64 0] 29)) := (((hU.alloc _).alloc _).alloc _)
    have B0 : Below w.heap.size w (((w.alloc (.cells #[.int .i64 a, .int .i64 b, .int .i64 c, .int .i64 d, .int .i64 x, .int .i64 y] 29)).alloc (.cells #[.int .i64 a', .int .i64 b', .int .i64 c', .int .i64 d', .int .i64 x', .int .i64 y'] 29)).alloc (.cells #[.int .i64 0, .int .i64 0, .int .i64 0, .int .i64 0, .int .i64 0, .int .i64 0] 29)) := (Below.alloc (Below.alloc (Below.alloc (Below.refl _ _) (by first | with_reducible exact Nat.le_refl _ | (simp <;> omega)) _) (by first | with_reducible exact Nat.le_refl _ | (simp <;> omega)) _) (by first | with_reducible exact Nat.le_refl _ | (simp <;> omega)) _)
    go_enter Tryd.func7, Tryd.ntmps7
    have M0c0 := M0.c0
    have M0c1 := M0.c1
    have M0c2 := M0.c2
    have M0c3 := M0.c3
    have M0c4 := M0.c4
    have M0c5 := M0.c5
    have M0l := M0.1
    have N0c0 := N0.c0
    have N0c1 := N0.c1
    have N0c2 := N0.c2
    have N0c3 := N0.c3
    have N0c4 := N0.c4
    have N0c5 := N0.c5
    have N0l := N0.1
    have R0c0 := R0.c0
    have R0c1 := R0.c1
    have R0c2 := R0.c2
    have R0c3 := R0.c3
    have R0c4 := R0.c4
    have R0c5 := R0.c5
    have R0f0 := R0.f0
    have R0f1 := R0.f1
    have R0f2 := R0.f2
    have R0f3 := R0.f3
    have R0f4 := R0.f4
    have R0f5 := R0.f5
    have R0l := R0.lt
    have U0c0 := U0.c0
    have U0c1 := U0.c1
    have U0c2 := U0.c2
    have U0c3 := U0.c3
    have U0l := U0.1
    go_wp2_with fail
    refine (implIsMo_any _ _ _ _ _ _ _ U0).mono ?_
    rintro e w1 ⟨rfl, hb1⟩
    have M1 : Km (w.heap.size) a b c d x y w1 := Km.call M0 hb1
    have N1 : Km (w.heap.size + 1) a' b' c' d' x' y' w1 := Km.call N0 hb1
    have R1 : KM (w.heap.size + 1 + 1) 0 0 0 0 0 0 w1 := KM.call R0 hb1
    have U1 : Kq (0) 1 0 0 1 w1 := Kq.call U0 hb1
    have B1 : Below w.heap.size w w1 := bstep B0 hb1
    clear hb1 B0 M0 N0 R0 U0
    have M1c0 := M1.c0
    have M1c1 := M1.c1
    have M1c2 := M1.c2
    have M1c3 := M1.c3
    have M1c4 := M1.c4
    have M1c5 := M1.c5
    have M1l := M1.1
    have M1n : ¬ w.heap.size = w1.heap.size := by omega
    have N1c0 := N1.c0
    have N1c1 := N1.c1
    have N1c2 := N1.c2
    have N1c3 := N1.c3
    have N1c4 := N1.c4
    have N1c5 := N1.c5
    have N1l := N1.1
    have N1n : ¬ w.heap.size + 1 = w1.heap.size := by omega
    have R1c0 := R1.c0
    have R1c1 := R1.c1
    have R1c2 := R1.c2
    have R1c3 := R1.c3
    have R1c4 := R1.c4
    have R1c5 := R1.c5
    have R1f0 := R1.f0
    have R1f1 := R1.f1
    have R1f2 := R1.f2
    have R1f3 := R1.f3
    have R1f4 := R1.f4
    have R1f5 := R1.f5
    have R1l := R1.lt
    have R1n : ¬ w.heap.size + 1 + 1 = w1.heap.size := by omega
    have U1c0 := U1.c0
    have U1c1 := U1.c1
    have U1c2 := U1.c2
    have U1c3 := U1.c3
    have U1l := U1.1
    have U1n : ¬ 0 = w1.heap.size := by omega
    go_wp2_with fail
    refine (implIsMo_any _ _ _ _ _ _ _ U1).mono ?_
    rintro e w2 ⟨rfl, hb2⟩
    have M2 : Km (w.heap.size) a b c d x y w2 := Km.call M1 hb2
    have N2 : Km (w.heap.size + 1) a' b' c' d' x' y' w2 := Km.call N1 hb2
    have R2 : KM (w.heap.size + 1 + 1) 0 0 0 0 0 0 w2 := KM.call R1 hb2
    have U2 : Kq (0) 1 0 0 1 w2 := Kq.call U1 hb2
    have B2 : Below w.heap.size w w2 := bstep B1 hb2
    clear hb2 B1 M1 N1 R1 U1
    have M2c0 := M2.c0
    have M2c1 := M2.c1
    have M2c2 := M2.c2
    have M2c3 := M2.c3
    have M2c4 := M2.c4
    have M2c5 := M2.c5
    have M2l := M2.1
    have M2n : ¬ w.heap.size = w2.heap.size := by omega
    have N2c0 := N2.c0
    have N2c1 := N2.c1
    have N2c2 := N2.c2
    have N2c3 := N2.c3
    have N2c4 := N2.c4
    have N2c5 := N2.c5
    have N2l := N2.1
    have N2n : ¬ w.heap.size + 1 = w2.heap.size := by omega
    have R2c0 := R2.c0
    have R2c1 := R2.c1
    have R2c2 := R2.c2
    have R2c3 := R2.c3
    have R2c4 := R2.c4
    have R2c5 := R2.c5
    have R2f0 := R2.f0
    have R2f1 := R2.f1
    have R2f2 := R2.f2
    have R2f3 := R2.f3
    have R2f4 := R2.f4
    have R2f5 := R2.f5
    have R2l := R2.lt
    have R2n : ¬ w.heap.size + 1 + 1 = w2.heap.size := by omega
    have U2c0 := U2.c0
    have U2c1 := U2.c1
    have U2c2 := U2.c2
    have U2c3 := U2.c3
    have U2l := U2.1
    have U2n : ¬ 0 = w2.heap.size := by omega
    go_wp2
    refine bodyPost_ret (v := .tuple #[.agg #[.int .i64 0, .int .i64 0, .int .i64 0, .int .i64 0, .int .i64 0, .int .i64 0], .int .i64 1]) (by simp [results, Tryd.results7, go_sem, *]) rfl ⟨ret_val EA.out.symm, ?_⟩
    repeat (first | with_reducible assumption | with_reducible exact Below.refl _ _ | with_reducible refine Below.setCell ?_ (by first | omega | (simp <;> omega)) _ | with_reducible refine Below.alloc ?_ (by first | omega | (simp <;> omega)) _ | with_reducible refine bstep ?_ (by with_reducible assumption) | with_reducible refine Below.drew ?_)
  rcases hs : (vecB (a * x' + b * y' + x) (c * x' + d * y' + y) && limB (a * a' + b * c') (a * b' + b * d') (c * a' + d * c') (c * b' + d * d')) with _ | _
  · have EA := Lib.hid (show motT (cmpR a b c d x y a' b' c' d' x' y') = .tuple #[.agg #[.int .i64 0, .int .i64 0, .int .i64 0, .int .i64 0, .int .i64 0, .int .i64 0], .int .i64 3] by simp [motT, cmpR, hm, hn, hs])
    have lu := motB_lim hm
    have vu := motB_vec hm
    have lu' := motB_lim hn
    have vu' := motB_vec hn
    have M0 : Km (w.heap.size) a b c d x y (((w.alloc (.cells #[.int .i64 a, .int .i64 b, .int .i64 c, .int .i64 d, .int .i64 x, .int .i64 y] 29)).alloc (.cells #[.int .i64 a', .int .i64 b', .int .i64 c', .int .i64 d', .int .i64 x', .int .i64 y'] 29)).alloc (.cells #[.int .i64 0, .int .i64 0, .int .i64 0, .int .i64 0, .int .i64 0, .int .i64 0] 29)) := (((Km.at (w.heap.size) rfl).alloc _).alloc _)
    have N0 : Km (w.heap.size + 1) a' b' c' d' x' y' (((w.alloc (.cells #[.int .i64 a, .int .i64 b, .int .i64 c, .int .i64 d, .int .i64 x, .int .i64 y] 29)).alloc (.cells #[.int .i64 a', .int .i64 b', .int .i64 c', .int .i64 d', .int .i64 x', .int .i64 y'] 29)).alloc (.cells #[.int .i64 0, .int .i64 0, .int .i64 0, .int .i64 0, .int .i64 0, .int .i64 0] 29)) := ((Km.at (w.heap.size + 1) (by simp)).alloc _)
    have R0 : KM (w.heap.size + 1 + 1) 0 0 0 0 0 0 (((w.alloc (.cells #[.int .i64 a, .int .i64 b, .int .i64 c, .int .i64 d, .int .i64 x, .int .i64 y] 29)).alloc (.cells #[.int .i64 a', .int .i64 b', .int .i64 c', .int .i64 d', .int .i64 x', .int .i64 y'] 29)).alloc (.cells #[.int .i64 0, .int .i64 0, .int .i64 0, .int .i64 0, .int .i64 0, .int .i64 0] 29)) := (KM.at (w.heap.size + 1 + 1) (by simp))
    have U0 : Kq (0) 1 0 0 1 (((w.alloc (.cells #[.int .i64 a, .int .i64 b, .int .i64 c, .int .i64 d, .int .i64 x, .int .i64 y] 29)).alloc (.cells #[.int .i64 a', .int .i64 b', .int .i64 c', .int .i64 d', .int .i64 x', .int .i64 y'] 29)).alloc (.cells #[.int .i64 0, .int .i64 0, .int .i64 0, .int .i64 0, .int .i64 0, .int .i64 0] 29)) := (((hU.alloc _).alloc _).alloc _)
    have B0 : Below w.heap.size w (((w.alloc (.cells #[.int .i64 a, .int .i64 b, .int .i64 c, .int .i64 d, .int .i64 x, .int .i64 y] 29)).alloc (.cells #[.int .i64 a', .int .i64 b', .int .i64 c', .int .i64 d', .int .i64 x', .int .i64 y'] 29)).alloc (.cells #[.int .i64 0, .int .i64 0, .int .i64 0, .int .i64 0, .int .i64 0, .int .i64 0] 29)) := (Below.alloc (Below.alloc (Below.alloc (Below.refl _ _) (by first | with_reducible exact Nat.le_refl _ | (simp <;> omega)) _) (by first | with_reducible exact Nat.le_refl _ | (simp <;> omega)) _) (by first | with_reducible exact Nat.le_refl _ | (simp <;> omega)) _)
    go_enter Tryd.func7, Tryd.ntmps7
    have M0c0 := M0.c0
    have M0c1 := M0.c1
    have M0c2 := M0.c2
    have M0c3 := M0.c3
    have M0c4 := M0.c4
    have M0c5 := M0.c5
    have M0l := M0.1
    have N0c0 := N0.c0
    have N0c1 := N0.c1
    have N0c2 := N0.c2
    have N0c3 := N0.c3
    have N0c4 := N0.c4
    have N0c5 := N0.c5
    have N0l := N0.1
    have R0c0 := R0.c0
    have R0c1 := R0.c1
    have R0c2 := R0.c2
    have R0c3 := R0.c3
    have R0c4 := R0.c4
    have R0c5 := R0.c5
    have R0f0 := R0.f0
    have R0f1 := R0.f1
    have R0f2 := R0.f2
    have R0f3 := R0.f3
    have R0f4 := R0.f4
    have R0f5 := R0.f5
    have R0l := R0.lt
    have U0c0 := U0.c0
    have U0c1 := U0.c1
    have U0c2 := U0.c2
    have U0c3 := U0.c3
    have U0l := U0.1
    go_wp2_with fail
    refine (implIsMo_any _ _ _ _ _ _ _ U0).mono ?_
    rintro e w1 ⟨rfl, hb1⟩
    have M1 : Km (w.heap.size) a b c d x y w1 := Km.call M0 hb1
    have N1 : Km (w.heap.size + 1) a' b' c' d' x' y' w1 := Km.call N0 hb1
    have R1 : KM (w.heap.size + 1 + 1) 0 0 0 0 0 0 w1 := KM.call R0 hb1
    have U1 : Kq (0) 1 0 0 1 w1 := Kq.call U0 hb1
    have B1 : Below w.heap.size w w1 := bstep B0 hb1
    clear hb1 B0 M0 N0 R0 U0
    have M1c0 := M1.c0
    have M1c1 := M1.c1
    have M1c2 := M1.c2
    have M1c3 := M1.c3
    have M1c4 := M1.c4
    have M1c5 := M1.c5
    have M1l := M1.1
    have M1n : ¬ w.heap.size = w1.heap.size := by omega
    have N1c0 := N1.c0
    have N1c1 := N1.c1
    have N1c2 := N1.c2
    have N1c3 := N1.c3
    have N1c4 := N1.c4
    have N1c5 := N1.c5
    have N1l := N1.1
    have N1n : ¬ w.heap.size + 1 = w1.heap.size := by omega
    have R1c0 := R1.c0
    have R1c1 := R1.c1
    have R1c2 := R1.c2
    have R1c3 := R1.c3
    have R1c4 := R1.c4
    have R1c5 := R1.c5
    have R1f0 := R1.f0
    have R1f1 := R1.f1
    have R1f2 := R1.f2
    have R1f3 := R1.f3
    have R1f4 := R1.f4
    have R1f5 := R1.f5
    have R1l := R1.lt
    have R1n : ¬ w.heap.size + 1 + 1 = w1.heap.size := by omega
    have U1c0 := U1.c0
    have U1c1 := U1.c1
    have U1c2 := U1.c2
    have U1c3 := U1.c3
    have U1l := U1.1
    have U1n : ¬ 0 = w1.heap.size := by omega
    go_wp2_with fail
    refine (implIsMo_any _ _ _ _ _ _ _ U1).mono ?_
    rintro e w2 ⟨rfl, hb2⟩
    have M2 : Km (w.heap.size) a b c d x y w2 := Km.call M1 hb2
    have N2 : Km (w.heap.size + 1) a' b' c' d' x' y' w2 := Km.call N1 hb2
    have R2 : KM (w.heap.size + 1 + 1) 0 0 0 0 0 0 w2 := KM.call R1 hb2
    have U2 : Kq (0) 1 0 0 1 w2 := Kq.call U1 hb2
    have B2 : Below w.heap.size w w2 := bstep B1 hb2
    clear hb2 B1 M1 N1 R1 U1
    have M2c0 := M2.c0
    have M2c1 := M2.c1
    have M2c2 := M2.c2
    have M2c3 := M2.c3
    have M2c4 := M2.c4
    have M2c5 := M2.c5
    have M2l := M2.1
    have M2n : ¬ w.heap.size = w2.heap.size := by omega
    have N2c0 := N2.c0
    have N2c1 := N2.c1
    have N2c2 := N2.c2
    have N2c3 := N2.c3
    have N2c4 := N2.c4
    have N2c5 := N2.c5
    have N2l := N2.1
    have N2n : ¬ w.heap.size + 1 = w2.heap.size := by omega
    have R2c0 := R2.c0
    have R2c1 := R2.c1
    have R2c2 := R2.c2
    have R2c3 := R2.c3
    have R2c4 := R2.c4
    have R2c5 := R2.c5
    have R2f0 := R2.f0
    have R2f1 := R2.f1
    have R2f2 := R2.f2
    have R2f3 := R2.f3
    have R2f4 := R2.f4
    have R2f5 := R2.f5
    have R2l := R2.lt
    have R2n : ¬ w.heap.size + 1 + 1 = w2.heap.size := by omega
    have U2c0 := U2.c0
    have U2c1 := U2.c1
    have U2c2 := U2.c2
    have U2c3 := U2.c3
    have U2l := U2.1
    have U2n : ¬ 0 = w2.heap.size := by omega
    clear M2c0 M2c1 M2c2 M2c3 M2c4 M2c5 M2l M2n
    clear N2c0 N2c1 N2c2 N2c3 N2c4 N2c5 N2l N2n
    clear R2c0 R2c1 R2c2 R2c3 R2c4 R2c5 R2f0 R2f1 R2f2 R2f3 R2f4 R2f5 R2l R2n
    clear U2c0 U2c1 U2c2 U2c3 U2l U2n
    have M2lt := M2.1
    have N2lt := N2.1
    have R2lt := R2.lt
    have U2lt := U2.1
    go_upto_region 1 with fail
    go_cut [6, 7] (fun s6 s7 wx => CmpCutno w a b c d x y a' b' c' d' x' y' s6 s7 wx)
    case first =>
      go_region_held3 (fun W => (W.cell? ⟨w.heap.size, 0, none⟩ = some (.int .i64 a) ∧ W.cell? ⟨w.heap.size, 1, none⟩ = some (.int .i64 b) ∧ W.cell? ⟨w.heap.size, 2, none⟩ = some (.int .i64 c) ∧ W.cell? ⟨w.heap.size, 3, none⟩ = some (.int .i64 d) ∧ W.cell? ⟨w.heap.size, 4, none⟩ = some (.int .i64 x) ∧ W.cell? ⟨w.heap.size, 5, none⟩ = some (.int .i64 y)) ∧ (W.cell? ⟨w.heap.size + 1, 0, none⟩ = some (.int .i64 a') ∧ W.cell? ⟨w.heap.size + 1, 1, none⟩ = some (.int .i64 b') ∧ W.cell? ⟨w.heap.size + 1, 2, none⟩ = some (.int .i64 c') ∧ W.cell? ⟨w.heap.size + 1, 3, none⟩ = some (.int .i64 d') ∧ W.cell? ⟨w.heap.size + 1, 4, none⟩ = some (.int .i64 x') ∧ W.cell? ⟨w.heap.size + 1, 5, none⟩ = some (.int .i64 y'))) ((refine ⟨Km.cells ?_, Km.cells ?_⟩ <;> repeat (first | with_reducible assumption | with_reducible refine KM.drew ?_ | with_reducible refine KM.alloc ?_ _ | with_reducible refine KM.call ?_ (by with_reducible assumption) | with_reducible refine Km.drew ?_ | with_reducible refine Km.alloc ?_ _ | with_reducible refine Km.call ?_ (by with_reducible assumption) | with_reducible refine Kq.drew ?_ | with_reducible refine Kq.alloc ?_ _ | with_reducible refine Kq.call ?_ (by with_reducible assumption) | ((with_reducible refine KM.put ?_ ?_); (first | omega | (dsimp only; omega))) | ((with_reducible refine Km.put ?_ ?_); (first | omega | (dsimp only; omega))) | ((with_reducible refine Kq.put ?_ ?_); (first | omega | (dsimp only; omega))) | ((with_reducible refine KM.far ?_ ?_); (first | omega | (dsimp only; omega))) | ((with_reducible refine Km.far ?_ ?_); (first | omega | (dsimp only; omega))) | ((with_reducible refine Kq.far ?_ ?_); (first | omega | (dsimp only; omega))))))
        (first
          | (go_at_call_of 31 (Value.agg #[Value.int IntKind.i64 a, Value.int IntKind.i64 b, Value.int IntKind.i64 c, Value.int IntKind.i64 d, Value.int IntKind.i64 x, Value.int IntKind.i64 y]); ((with_reducible refine (motionOf_any _ _ _ _ _ _ _).mono ?_); rintro e w3 ⟨rfl, hb3⟩; have M3 : Km (w.heap.size) a b c d x y w3 := (by repeat (first | with_reducible assumption | with_reducible refine KM.drew ?_ | with_reducible refine KM.alloc ?_ _ | with_reducible refine KM.call ?_ (by with_reducible assumption) | with_reducible refine Km.drew ?_ | with_reducible refine Km.alloc ?_ _ | with_reducible refine Km.call ?_ (by with_reducible assumption) | with_reducible refine Kq.drew ?_ | with_reducible refine Kq.alloc ?_ _ | with_reducible refine Kq.call ?_ (by with_reducible assumption))); have M3l := M3.1; have N3 : Km (w.heap.size + 1) a' b' c' d' x' y' w3 := (by repeat (first | with_reducible assumption | with_reducible refine KM.drew ?_ | with_reducible refine KM.alloc ?_ _ | with_reducible refine KM.call ?_ (by with_reducible assumption) | with_reducible refine Km.drew ?_ | with_reducible refine Km.alloc ?_ _ | with_reducible refine Km.call ?_ (by with_reducible assumption) | with_reducible refine Kq.drew ?_ | with_reducible refine Kq.alloc ?_ _ | with_reducible refine Kq.call ?_ (by with_reducible assumption))); have N3l := N3.1; have R3 : KM (w.heap.size + 1 + 1) 0 0 0 0 0 0 w3 := (by repeat (first | with_reducible assumption | with_reducible refine KM.drew ?_ | with_reducible refine KM.alloc ?_ _ | with_reducible refine KM.call ?_ (by with_reducible assumption) | with_reducible refine Km.drew ?_ | with_reducible refine Km.alloc ?_ _ | with_reducible refine Km.call ?_ (by with_reducible assumption) | with_reducible refine Kq.drew ?_ | with_reducible refine Kq.alloc ?_ _ | with_reducible refine Kq.call ?_ (by with_reducible assumption))); have R3l := R3.lt; have U3 : Kq (0) 1 0 0 1 w3 := (by repeat (first | with_reducible assumption | with_reducible refine KM.drew ?_ | with_reducible refine KM.alloc ?_ _ | with_reducible refine KM.call ?_ (by with_reducible assumption) | with_reducible refine Km.drew ?_ | with_reducible refine Km.alloc ?_ _ | with_reducible refine Km.call ?_ (by with_reducible assumption) | with_reducible refine Kq.drew ?_ | with_reducible refine Kq.alloc ?_ _ | with_reducible refine Kq.call ?_ (by with_reducible assumption))); have U3l := U3.1; (try ((refine useIt (P := KM (w2.heap.size) 0 0 0 0 0 0 w3) ?_ ?_); (repeat (first | with_reducible assumption | (with_reducible exact KM.at _ (by first | with_reducible rfl | (simp; done) | fail)) | with_reducible refine KM.drew ?_ | with_reducible refine KM.alloc ?_ _ | with_reducible refine KM.call ?_ (by with_reducible assumption) | with_reducible refine Km.drew ?_ | with_reducible refine Km.alloc ?_ _ | with_reducible refine Km.call ?_ (by with_reducible assumption) | with_reducible refine Kq.drew ?_ | with_reducible refine Kq.alloc ?_ _ | with_reducible refine Kq.call ?_ (by with_reducible assumption))); intro O3_e; have O3_ec0 := O3_e.c0; have O3_ef0 := O3_e.f0; have O3_ec1 := O3_e.c1; have O3_ef1 := O3_e.f1; have O3_ec2 := O3_e.c2; have O3_ef2 := O3_e.f2; have O3_ec3 := O3_e.c3; have O3_ef3 := O3_e.f3; have O3_ec4 := O3_e.c4; have O3_ef4 := O3_e.f4; have O3_ec5 := O3_e.c5; have O3_ef5 := O3_e.f5; have O3_el := O3_e.lt)); (try ((refine useIt (P := KM (w4.heap.size) 0 0 0 0 0 0 w3) ?_ ?_); (repeat (first | with_reducible assumption | (with_reducible exact KM.at _ (by first | with_reducible rfl | (simp; done) | fail)) | with_reducible refine KM.drew ?_ | with_reducible refine KM.alloc ?_ _ | with_reducible refine KM.call ?_ (by with_reducible assumption) | with_reducible refine Km.drew ?_ | with_reducible refine Km.alloc ?_ _ | with_reducible refine Km.call ?_ (by with_reducible assumption) | with_reducible refine Kq.drew ?_ | with_reducible refine Kq.alloc ?_ _ | with_reducible refine Kq.call ?_ (by with_reducible assumption))); intro O3_w4; have O3_w4c0 := O3_w4.c0; have O3_w4f0 := O3_w4.f0; have O3_w4c1 := O3_w4.c1; have O3_w4f1 := O3_w4.f1; have O3_w4c2 := O3_w4.c2; have O3_w4f2 := O3_w4.f2; have O3_w4c3 := O3_w4.c3; have O3_w4f3 := O3_w4.f3; have O3_w4c4 := O3_w4.c4; have O3_w4f4 := O3_w4.f4; have O3_w4c5 := O3_w4.c5; have O3_w4f5 := O3_w4.f5; have O3_w4l := O3_w4.lt)); (try ((refine useIt (P := KM (w5.heap.size) 0 0 0 0 0 0 w3) ?_ ?_); (repeat (first | with_reducible assumption | (with_reducible exact KM.at _ (by first | with_reducible rfl | (simp; done) | fail)) | with_reducible refine KM.drew ?_ | with_reducible refine KM.alloc ?_ _ | with_reducible refine KM.call ?_ (by with_reducible assumption) | with_reducible refine Km.drew ?_ | with_reducible refine Km.alloc ?_ _ | with_reducible refine Km.call ?_ (by with_reducible assumption) | with_reducible refine Kq.drew ?_ | with_reducible refine Kq.alloc ?_ _ | with_reducible refine Kq.call ?_ (by with_reducible assumption))); intro O3_w5; have O3_w5c0 := O3_w5.c0; have O3_w5f0 := O3_w5.f0; have O3_w5c1 := O3_w5.c1; have O3_w5f1 := O3_w5.f1; have O3_w5c2 := O3_w5.c2; have O3_w5f2 := O3_w5.f2; have O3_w5c3 := O3_w5.c3; have O3_w5f3 := O3_w5.f3; have O3_w5c4 := O3_w5.c4; have O3_w5f4 := O3_w5.f4; have O3_w5c5 := O3_w5.c5; have O3_w5f5 := O3_w5.f5; have O3_w5l := O3_w5.lt)); (try ((refine useIt (P := KM (w6.heap.size) 0 0 0 0 0 0 w3) ?_ ?_); (repeat (first | with_reducible assumption | (with_reducible exact KM.at _ (by first | with_reducible rfl | (simp; done) | fail)) | with_reducible refine KM.drew ?_ | with_reducible refine KM.alloc ?_ _ | with_reducible refine KM.call ?_ (by with_reducible assumption) | with_reducible refine Km.drew ?_ | with_reducible refine Km.alloc ?_ _ | with_reducible refine Km.call ?_ (by with_reducible assumption) | with_reducible refine Kq.drew ?_ | with_reducible refine Kq.alloc ?_ _ | with_reducible refine Kq.call ?_ (by with_reducible assumption))); intro O3_w6; have O3_w6c0 := O3_w6.c0; have O3_w6f0 := O3_w6.f0; have O3_w6c1 := O3_w6.c1; have O3_w6f1 := O3_w6.f1; have O3_w6c2 := O3_w6.c2; have O3_w6f2 := O3_w6.f2; have O3_w6c3 := O3_w6.c3; have O3_w6f3 := O3_w6.f3; have O3_w6c4 := O3_w6.c4; have O3_w6f4 := O3_w6.f4; have O3_w6c5 := O3_w6.c5; have O3_w6f5 := O3_w6.f5; have O3_w6l := O3_w6.lt)); have B3 : Below w.heap.size w w3 := (by repeat (first | with_reducible assumption | with_reducible refine Below.drew ?_ | with_reducible refine Below.alloc ?_ (by first | omega | (simp <;> omega)) _ | with_reducible refine bstep ?_ (by with_reducible assumption)))))
          | (go_at_call_of 31 (Value.agg #[Value.int IntKind.i64 a', Value.int IntKind.i64 b', Value.int IntKind.i64 c', Value.int IntKind.i64 d', Value.int IntKind.i64 x', Value.int IntKind.i64 y']); ((with_reducible refine (motionOf_any _ _ _ _ _ _ _).mono ?_); rintro e w4 ⟨rfl, hb4⟩; have M4 : Km (w.heap.size) a b c d x y w4 := (by repeat (first | with_reducible assumption | with_reducible refine KM.drew ?_ | with_reducible refine KM.alloc ?_ _ | with_reducible refine KM.call ?_ (by with_reducible assumption) | with_reducible refine Km.drew ?_ | with_reducible refine Km.alloc ?_ _ | with_reducible refine Km.call ?_ (by with_reducible assumption) | with_reducible refine Kq.drew ?_ | with_reducible refine Kq.alloc ?_ _ | with_reducible refine Kq.call ?_ (by with_reducible assumption))); have M4l := M4.1; have N4 : Km (w.heap.size + 1) a' b' c' d' x' y' w4 := (by repeat (first | with_reducible assumption | with_reducible refine KM.drew ?_ | with_reducible refine KM.alloc ?_ _ | with_reducible refine KM.call ?_ (by with_reducible assumption) | with_reducible refine Km.drew ?_ | with_reducible refine Km.alloc ?_ _ | with_reducible refine Km.call ?_ (by with_reducible assumption) | with_reducible refine Kq.drew ?_ | with_reducible refine Kq.alloc ?_ _ | with_reducible refine Kq.call ?_ (by with_reducible assumption))); have N4l := N4.1; have R4 : KM (w.heap.size + 1 + 1) 0 0 0 0 0 0 w4 := (by repeat (first | with_reducible assumption | with_reducible refine KM.drew ?_ | with_reducible refine KM.alloc ?_ _ | with_reducible refine KM.call ?_ (by with_reducible assumption) | with_reducible refine Km.drew ?_ | with_reducible refine Km.alloc ?_ _ | with_reducible refine Km.call ?_ (by with_reducible assumption) | with_reducible refine Kq.drew ?_ | with_reducible refine Kq.alloc ?_ _ | with_reducible refine Kq.call ?_ (by with_reducible assumption))); have R4l := R4.lt; have U4 : Kq (0) 1 0 0 1 w4 := (by repeat (first | with_reducible assumption | with_reducible refine KM.drew ?_ | with_reducible refine KM.alloc ?_ _ | with_reducible refine KM.call ?_ (by with_reducible assumption) | with_reducible refine Km.drew ?_ | with_reducible refine Km.alloc ?_ _ | with_reducible refine Km.call ?_ (by with_reducible assumption) | with_reducible refine Kq.drew ?_ | with_reducible refine Kq.alloc ?_ _ | with_reducible refine Kq.call ?_ (by with_reducible assumption))); have U4l := U4.1; (try ((refine useIt (P := KM (w2.heap.size) 0 0 0 0 0 0 w4) ?_ ?_); (repeat (first | with_reducible assumption | (with_reducible exact KM.at _ (by first | with_reducible rfl | (simp; done) | fail)) | with_reducible refine KM.drew ?_ | with_reducible refine KM.alloc ?_ _ | with_reducible refine KM.call ?_ (by with_reducible assumption) | with_reducible refine Km.drew ?_ | with_reducible refine Km.alloc ?_ _ | with_reducible refine Km.call ?_ (by with_reducible assumption) | with_reducible refine Kq.drew ?_ | with_reducible refine Kq.alloc ?_ _ | with_reducible refine Kq.call ?_ (by with_reducible assumption))); intro O4_e; have O4_ec0 := O4_e.c0; have O4_ef0 := O4_e.f0; have O4_ec1 := O4_e.c1; have O4_ef1 := O4_e.f1; have O4_ec2 := O4_e.c2; have O4_ef2 := O4_e.f2; have O4_ec3 := O4_e.c3; have O4_ef3 := O4_e.f3; have O4_ec4 := O4_e.c4; have O4_ef4 := O4_e.f4; have O4_ec5 := O4_e.c5; have O4_ef5 := O4_e.f5; have O4_el := O4_e.lt)); (try ((refine useIt (P := KM (w3.heap.size) 0 0 0 0 0 0 w4) ?_ ?_); (repeat (first | with_reducible assumption | (with_reducible exact KM.at _ (by first | with_reducible rfl | (simp; done) | fail)) | with_reducible refine KM.drew ?_ | with_reducible refine KM.alloc ?_ _ | with_reducible refine KM.call ?_ (by with_reducible assumption) | with_reducible refine Km.drew ?_ | with_reducible refine Km.alloc ?_ _ | with_reducible refine Km.call ?_ (by with_reducible assumption) | with_reducible refine Kq.drew ?_ | with_reducible refine Kq.alloc ?_ _ | with_reducible refine Kq.call ?_ (by with_reducible assumption))); intro O4_w3; have O4_w3c0 := O4_w3.c0; have O4_w3f0 := O4_w3.f0; have O4_w3c1 := O4_w3.c1; have O4_w3f1 := O4_w3.f1; have O4_w3c2 := O4_w3.c2; have O4_w3f2 := O4_w3.f2; have O4_w3c3 := O4_w3.c3; have O4_w3f3 := O4_w3.f3; have O4_w3c4 := O4_w3.c4; have O4_w3f4 := O4_w3.f4; have O4_w3c5 := O4_w3.c5; have O4_w3f5 := O4_w3.f5; have O4_w3l := O4_w3.lt)); (try ((refine useIt (P := KM (w5.heap.size) 0 0 0 0 0 0 w4) ?_ ?_); (repeat (first | with_reducible assumption | (with_reducible exact KM.at _ (by first | with_reducible rfl | (simp; done) | fail)) | with_reducible refine KM.drew ?_ | with_reducible refine KM.alloc ?_ _ | with_reducible refine KM.call ?_ (by with_reducible assumption) | with_reducible refine Km.drew ?_ | with_reducible refine Km.alloc ?_ _ | with_reducible refine Km.call ?_ (by with_reducible assumption) | with_reducible refine Kq.drew ?_ | with_reducible refine Kq.alloc ?_ _ | with_reducible refine Kq.call ?_ (by with_reducible assumption))); intro O4_w5; have O4_w5c0 := O4_w5.c0; have O4_w5f0 := O4_w5.f0; have O4_w5c1 := O4_w5.c1; have O4_w5f1 := O4_w5.f1; have O4_w5c2 := O4_w5.c2; have O4_w5f2 := O4_w5.f2; have O4_w5c3 := O4_w5.c3; have O4_w5f3 := O4_w5.f3; have O4_w5c4 := O4_w5.c4; have O4_w5f4 := O4_w5.f4; have O4_w5c5 := O4_w5.c5; have O4_w5f5 := O4_w5.f5; have O4_w5l := O4_w5.lt)); (try ((refine useIt (P := KM (w6.heap.size) 0 0 0 0 0 0 w4) ?_ ?_); (repeat (first | with_reducible assumption | (with_reducible exact KM.at _ (by first | with_reducible rfl | (simp; done) | fail)) | with_reducible refine KM.drew ?_ | with_reducible refine KM.alloc ?_ _ | with_reducible refine KM.call ?_ (by with_reducible assumption) | with_reducible refine Km.drew ?_ | with_reducible refine Km.alloc ?_ _ | with_reducible refine Km.call ?_ (by with_reducible assumption) | with_reducible refine Kq.drew ?_ | with_reducible refine Kq.alloc ?_ _ | with_reducible refine Kq.call ?_ (by with_reducible assumption))); intro O4_w6; have O4_w6c0 := O4_w6.c0; have O4_w6f0 := O4_w6.f0; have O4_w6c1 := O4_w6.c1; have O4_w6f1 := O4_w6.f1; have O4_w6c2 := O4_w6.c2; have O4_w6f2 := O4_w6.f2; have O4_w6c3 := O4_w6.c3; have O4_w6f3 := O4_w6.f3; have O4_w6c4 := O4_w6.c4; have O4_w6f4 := O4_w6.f4; have O4_w6c5 := O4_w6.c5; have O4_w6f5 := O4_w6.f5; have O4_w6l := O4_w6.lt)); have B4 : Below w.heap.size w w4 := (by repeat (first | with_reducible assumption | with_reducible refine Below.drew ?_ | with_reducible refine Below.alloc ?_ (by first | omega | (simp <;> omega)) _ | with_reducible refine bstep ?_ (by with_reducible assumption)))))
          | (go_at_call 32; ((with_reducible refine (afterMo_any _ _ _ _ _ _ _ _ _ _ _ _ _ lu vu lu' vu').mono ?_); rintro e w5 ⟨rfl, hb5⟩; have M5 : Km (w.heap.size) a b c d x y w5 := (by repeat (first | with_reducible assumption | with_reducible refine KM.drew ?_ | with_reducible refine KM.alloc ?_ _ | with_reducible refine KM.call ?_ (by with_reducible assumption) | with_reducible refine Km.drew ?_ | with_reducible refine Km.alloc ?_ _ | with_reducible refine Km.call ?_ (by with_reducible assumption) | with_reducible refine Kq.drew ?_ | with_reducible refine Kq.alloc ?_ _ | with_reducible refine Kq.call ?_ (by with_reducible assumption))); have M5l := M5.1; have N5 : Km (w.heap.size + 1) a' b' c' d' x' y' w5 := (by repeat (first | with_reducible assumption | with_reducible refine KM.drew ?_ | with_reducible refine KM.alloc ?_ _ | with_reducible refine KM.call ?_ (by with_reducible assumption) | with_reducible refine Km.drew ?_ | with_reducible refine Km.alloc ?_ _ | with_reducible refine Km.call ?_ (by with_reducible assumption) | with_reducible refine Kq.drew ?_ | with_reducible refine Kq.alloc ?_ _ | with_reducible refine Kq.call ?_ (by with_reducible assumption))); have N5l := N5.1; have R5 : KM (w.heap.size + 1 + 1) 0 0 0 0 0 0 w5 := (by repeat (first | with_reducible assumption | with_reducible refine KM.drew ?_ | with_reducible refine KM.alloc ?_ _ | with_reducible refine KM.call ?_ (by with_reducible assumption) | with_reducible refine Km.drew ?_ | with_reducible refine Km.alloc ?_ _ | with_reducible refine Km.call ?_ (by with_reducible assumption) | with_reducible refine Kq.drew ?_ | with_reducible refine Kq.alloc ?_ _ | with_reducible refine Kq.call ?_ (by with_reducible assumption))); have R5l := R5.lt; have U5 : Kq (0) 1 0 0 1 w5 := (by repeat (first | with_reducible assumption | with_reducible refine KM.drew ?_ | with_reducible refine KM.alloc ?_ _ | with_reducible refine KM.call ?_ (by with_reducible assumption) | with_reducible refine Km.drew ?_ | with_reducible refine Km.alloc ?_ _ | with_reducible refine Km.call ?_ (by with_reducible assumption) | with_reducible refine Kq.drew ?_ | with_reducible refine Kq.alloc ?_ _ | with_reducible refine Kq.call ?_ (by with_reducible assumption))); have U5l := U5.1; (try ((refine useIt (P := KM (w2.heap.size) 0 0 0 0 0 0 w5) ?_ ?_); (repeat (first | with_reducible assumption | (with_reducible exact KM.at _ (by first | with_reducible rfl | (simp; done) | fail)) | with_reducible refine KM.drew ?_ | with_reducible refine KM.alloc ?_ _ | with_reducible refine KM.call ?_ (by with_reducible assumption) | with_reducible refine Km.drew ?_ | with_reducible refine Km.alloc ?_ _ | with_reducible refine Km.call ?_ (by with_reducible assumption) | with_reducible refine Kq.drew ?_ | with_reducible refine Kq.alloc ?_ _ | with_reducible refine Kq.call ?_ (by with_reducible assumption))); intro O5_e; have O5_ec0 := O5_e.c0; have O5_ef0 := O5_e.f0; have O5_ec1 := O5_e.c1; have O5_ef1 := O5_e.f1; have O5_ec2 := O5_e.c2; have O5_ef2 := O5_e.f2; have O5_ec3 := O5_e.c3; have O5_ef3 := O5_e.f3; have O5_ec4 := O5_e.c4; have O5_ef4 := O5_e.f4; have O5_ec5 := O5_e.c5; have O5_ef5 := O5_e.f5; have O5_el := O5_e.lt)); (try ((refine useIt (P := KM (w3.heap.size) 0 0 0 0 0 0 w5) ?_ ?_); (repeat (first | with_reducible assumption | (with_reducible exact KM.at _ (by first | with_reducible rfl | (simp; done) | fail)) | with_reducible refine KM.drew ?_ | with_reducible refine KM.alloc ?_ _ | with_reducible refine KM.call ?_ (by with_reducible assumption) | with_reducible refine Km.drew ?_ | with_reducible refine Km.alloc ?_ _ | with_reducible refine Km.call ?_ (by with_reducible assumption) | with_reducible refine Kq.drew ?_ | with_reducible refine Kq.alloc ?_ _ | with_reducible refine Kq.call ?_ (by with_reducible assumption))); intro O5_w3; have O5_w3c0 := O5_w3.c0; have O5_w3f0 := O5_w3.f0; have O5_w3c1 := O5_w3.c1; have O5_w3f1 := O5_w3.f1; have O5_w3c2 := O5_w3.c2; have O5_w3f2 := O5_w3.f2; have O5_w3c3 := O5_w3.c3; have O5_w3f3 := O5_w3.f3; have O5_w3c4 := O5_w3.c4; have O5_w3f4 := O5_w3.f4; have O5_w3c5 := O5_w3.c5; have O5_w3f5 := O5_w3.f5; have O5_w3l := O5_w3.lt)); (try ((refine useIt (P := KM (w4.heap.size) 0 0 0 0 0 0 w5) ?_ ?_); (repeat (first | with_reducible assumption | (with_reducible exact KM.at _ (by first | with_reducible rfl | (simp; done) | fail)) | with_reducible refine KM.drew ?_ | with_reducible refine KM.alloc ?_ _ | with_reducible refine KM.call ?_ (by with_reducible assumption) | with_reducible refine Km.drew ?_ | with_reducible refine Km.alloc ?_ _ | with_reducible refine Km.call ?_ (by with_reducible assumption) | with_reducible refine Kq.drew ?_ | with_reducible refine Kq.alloc ?_ _ | with_reducible refine Kq.call ?_ (by with_reducible assumption))); intro O5_w4; have O5_w4c0 := O5_w4.c0; have O5_w4f0 := O5_w4.f0; have O5_w4c1 := O5_w4.c1; have O5_w4f1 := O5_w4.f1; have O5_w4c2 := O5_w4.c2; have O5_w4f2 := O5_w4.f2; have O5_w4c3 := O5_w4.c3; have O5_w4f3 := O5_w4.f3; have O5_w4c4 := O5_w4.c4; have O5_w4f4 := O5_w4.f4; have O5_w4c5 := O5_w4.c5; have O5_w4f5 := O5_w4.f5; have O5_w4l := O5_w4.lt)); (try ((refine useIt (P := KM (w6.heap.size) 0 0 0 0 0 0 w5) ?_ ?_); (repeat (first | with_reducible assumption | (with_reducible exact KM.at _ (by first | with_reducible rfl | (simp; done) | fail)) | with_reducible refine KM.drew ?_ | with_reducible refine KM.alloc ?_ _ | with_reducible refine KM.call ?_ (by with_reducible assumption) | with_reducible refine Km.drew ?_ | with_reducible refine Km.alloc ?_ _ | with_reducible refine Km.call ?_ (by with_reducible assumption) | with_reducible refine Kq.drew ?_ | with_reducible refine Kq.alloc ?_ _ | with_reducible refine Kq.call ?_ (by with_reducible assumption))); intro O5_w6; have O5_w6c0 := O5_w6.c0; have O5_w6f0 := O5_w6.f0; have O5_w6c1 := O5_w6.c1; have O5_w6f1 := O5_w6.f1; have O5_w6c2 := O5_w6.c2; have O5_w6f2 := O5_w6.f2; have O5_w6c3 := O5_w6.c3; have O5_w6f3 := O5_w6.f3; have O5_w6c4 := O5_w6.c4; have O5_w6f4 := O5_w6.f4; have O5_w6c5 := O5_w6.c5; have O5_w6f5 := O5_w6.f5; have O5_w6l := O5_w6.lt)); have B5 : Below w.heap.size w w5 := (by repeat (first | with_reducible assumption | with_reducible refine Below.drew ?_ | with_reducible refine Below.alloc ?_ (by first | omega | (simp <;> omega)) _ | with_reducible refine bstep ?_ (by with_reducible assumption)))))
          | (go_at_call 30; ((with_reducible refine (limMo_no _ _ _ _ _ _ _ hs).mono ?_); rintro e w6 ⟨rfl, hb6⟩; have M6 : Km (w.heap.size) a b c d x y w6 := (by repeat (first | with_reducible assumption | with_reducible refine KM.drew ?_ | with_reducible refine KM.alloc ?_ _ | with_reducible refine KM.call ?_ (by with_reducible assumption) | with_reducible refine Km.drew ?_ | with_reducible refine Km.alloc ?_ _ | with_reducible refine Km.call ?_ (by with_reducible assumption) | with_reducible refine Kq.drew ?_ | with_reducible refine Kq.alloc ?_ _ | with_reducible refine Kq.call ?_ (by with_reducible assumption))); have M6l := M6.1; have N6 : Km (w.heap.size + 1) a' b' c' d' x' y' w6 := (by repeat (first | with_reducible assumption | with_reducible refine KM.drew ?_ | with_reducible refine KM.alloc ?_ _ | with_reducible refine KM.call ?_ (by with_reducible assumption) | with_reducible refine Km.drew ?_ | with_reducible refine Km.alloc ?_ _ | with_reducible refine Km.call ?_ (by with_reducible assumption) | with_reducible refine Kq.drew ?_ | with_reducible refine Kq.alloc ?_ _ | with_reducible refine Kq.call ?_ (by with_reducible assumption))); have N6l := N6.1; have R6 : KM (w.heap.size + 1 + 1) 0 0 0 0 0 0 w6 := (by repeat (first | with_reducible assumption | with_reducible refine KM.drew ?_ | with_reducible refine KM.alloc ?_ _ | with_reducible refine KM.call ?_ (by with_reducible assumption) | with_reducible refine Km.drew ?_ | with_reducible refine Km.alloc ?_ _ | with_reducible refine Km.call ?_ (by with_reducible assumption) | with_reducible refine Kq.drew ?_ | with_reducible refine Kq.alloc ?_ _ | with_reducible refine Kq.call ?_ (by with_reducible assumption))); have R6l := R6.lt; have U6 : Kq (0) 1 0 0 1 w6 := (by repeat (first | with_reducible assumption | with_reducible refine KM.drew ?_ | with_reducible refine KM.alloc ?_ _ | with_reducible refine KM.call ?_ (by with_reducible assumption) | with_reducible refine Km.drew ?_ | with_reducible refine Km.alloc ?_ _ | with_reducible refine Km.call ?_ (by with_reducible assumption) | with_reducible refine Kq.drew ?_ | with_reducible refine Kq.alloc ?_ _ | with_reducible refine Kq.call ?_ (by with_reducible assumption))); have U6l := U6.1; (try ((refine useIt (P := KM (w2.heap.size) 0 0 0 0 0 0 w6) ?_ ?_); (repeat (first | with_reducible assumption | (with_reducible exact KM.at _ (by first | with_reducible rfl | (simp; done) | fail)) | with_reducible refine KM.drew ?_ | with_reducible refine KM.alloc ?_ _ | with_reducible refine KM.call ?_ (by with_reducible assumption) | with_reducible refine Km.drew ?_ | with_reducible refine Km.alloc ?_ _ | with_reducible refine Km.call ?_ (by with_reducible assumption) | with_reducible refine Kq.drew ?_ | with_reducible refine Kq.alloc ?_ _ | with_reducible refine Kq.call ?_ (by with_reducible assumption))); intro O6_e; have O6_ec0 := O6_e.c0; have O6_ef0 := O6_e.f0; have O6_ec1 := O6_e.c1; have O6_ef1 := O6_e.f1; have O6_ec2 := O6_e.c2; have O6_ef2 := O6_e.f2; have O6_ec3 := O6_e.c3; have O6_ef3 := O6_e.f3; have O6_ec4 := O6_e.c4; have O6_ef4 := O6_e.f4; have O6_ec5 := O6_e.c5; have O6_ef5 := O6_e.f5; have O6_el := O6_e.lt)); (try ((refine useIt (P := KM (w3.heap.size) 0 0 0 0 0 0 w6) ?_ ?_); (repeat (first | with_reducible assumption | (with_reducible exact KM.at _ (by first | with_reducible rfl | (simp; done) | fail)) | with_reducible refine KM.drew ?_ | with_reducible refine KM.alloc ?_ _ | with_reducible refine KM.call ?_ (by with_reducible assumption) | with_reducible refine Km.drew ?_ | with_reducible refine Km.alloc ?_ _ | with_reducible refine Km.call ?_ (by with_reducible assumption) | with_reducible refine Kq.drew ?_ | with_reducible refine Kq.alloc ?_ _ | with_reducible refine Kq.call ?_ (by with_reducible assumption))); intro O6_w3; have O6_w3c0 := O6_w3.c0; have O6_w3f0 := O6_w3.f0; have O6_w3c1 := O6_w3.c1; have O6_w3f1 := O6_w3.f1; have O6_w3c2 := O6_w3.c2; have O6_w3f2 := O6_w3.f2; have O6_w3c3 := O6_w3.c3; have O6_w3f3 := O6_w3.f3; have O6_w3c4 := O6_w3.c4; have O6_w3f4 := O6_w3.f4; have O6_w3c5 := O6_w3.c5; have O6_w3f5 := O6_w3.f5; have O6_w3l := O6_w3.lt)); (try ((refine useIt (P := KM (w4.heap.size) 0 0 0 0 0 0 w6) ?_ ?_); (repeat (first | with_reducible assumption | (with_reducible exact KM.at _ (by first | with_reducible rfl | (simp; done) | fail)) | with_reducible refine KM.drew ?_ | with_reducible refine KM.alloc ?_ _ | with_reducible refine KM.call ?_ (by with_reducible assumption) | with_reducible refine Km.drew ?_ | with_reducible refine Km.alloc ?_ _ | with_reducible refine Km.call ?_ (by with_reducible assumption) | with_reducible refine Kq.drew ?_ | with_reducible refine Kq.alloc ?_ _ | with_reducible refine Kq.call ?_ (by with_reducible assumption))); intro O6_w4; have O6_w4c0 := O6_w4.c0; have O6_w4f0 := O6_w4.f0; have O6_w4c1 := O6_w4.c1; have O6_w4f1 := O6_w4.f1; have O6_w4c2 := O6_w4.c2; have O6_w4f2 := O6_w4.f2; have O6_w4c3 := O6_w4.c3; have O6_w4f3 := O6_w4.f3; have O6_w4c4 := O6_w4.c4; have O6_w4f4 := O6_w4.f4; have O6_w4c5 := O6_w4.c5; have O6_w4f5 := O6_w4.f5; have O6_w4l := O6_w4.lt)); (try ((refine useIt (P := KM (w5.heap.size) 0 0 0 0 0 0 w6) ?_ ?_); (repeat (first | with_reducible assumption | (with_reducible exact KM.at _ (by first | with_reducible rfl | (simp; done) | fail)) | with_reducible refine KM.drew ?_ | with_reducible refine KM.alloc ?_ _ | with_reducible refine KM.call ?_ (by with_reducible assumption) | with_reducible refine Km.drew ?_ | with_reducible refine Km.alloc ?_ _ | with_reducible refine Km.call ?_ (by with_reducible assumption) | with_reducible refine Kq.drew ?_ | with_reducible refine Kq.alloc ?_ _ | with_reducible refine Kq.call ?_ (by with_reducible assumption))); intro O6_w5; have O6_w5c0 := O6_w5.c0; have O6_w5f0 := O6_w5.f0; have O6_w5c1 := O6_w5.c1; have O6_w5f1 := O6_w5.f1; have O6_w5c2 := O6_w5.c2; have O6_w5f2 := O6_w5.f2; have O6_w5c3 := O6_w5.c3; have O6_w5f3 := O6_w5.f3; have O6_w5c4 := O6_w5.c4; have O6_w5f4 := O6_w5.f4; have O6_w5c5 := O6_w5.c5; have O6_w5f5 := O6_w5.f5; have O6_w5l := O6_w5.lt)); have B6 : Below w.heap.size w w6 := (by repeat (first | with_reducible assumption | with_reducible refine Below.drew ?_ | with_reducible refine Below.alloc ?_ (by first | omega | (simp <;> omega)) _ | with_reducible refine bstep ?_ (by with_reducible assumption))))))
      all_goals
        go_wp2_with fail
        go_meet
        exact ⟨_, rfl, rfl, (by first | (with_reducible exact KM.at _ (by first | with_reducible rfl | (simp; done) | fail)) | (with_reducible exact KM.store (by repeat (first | with_reducible assumption | (with_reducible exact KM.at _ (by first | with_reducible rfl | (simp; done) | fail)) | with_reducible refine KM.drew ?_ | with_reducible refine KM.alloc ?_ _ | with_reducible refine KM.call ?_ (by with_reducible assumption) | with_reducible refine Km.drew ?_ | with_reducible refine Km.alloc ?_ _ | with_reducible refine Km.call ?_ (by with_reducible assumption) | with_reducible refine Kq.drew ?_ | with_reducible refine Kq.alloc ?_ _ | with_reducible refine Kq.call ?_ (by with_reducible assumption))) _ _ _ _ _ _) | fail), by repeat (first | with_reducible assumption | with_reducible refine KM.drew ?_ | with_reducible refine KM.alloc ?_ _ | with_reducible refine KM.call ?_ (by with_reducible assumption) | with_reducible refine Km.drew ?_ | with_reducible refine Km.alloc ?_ _ | with_reducible refine Km.call ?_ (by with_reducible assumption) | with_reducible refine Kq.drew ?_ | with_reducible refine Kq.alloc ?_ _ | with_reducible refine Kq.call ?_ (by with_reducible assumption) | ((with_reducible refine KM.put ?_ ?_); (first | omega | (dsimp only; omega))) | ((with_reducible refine Km.put ?_ ?_); (first | omega | (dsimp only; omega))) | ((with_reducible refine Kq.put ?_ ?_); (first | omega | (dsimp only; omega))) | ((with_reducible refine KM.far ?_ ?_); (first | omega | (dsimp only; omega))) | ((with_reducible refine Km.far ?_ ?_); (first | omega | (dsimp only; omega))) | ((with_reducible refine Kq.far ?_ ?_); (first | omega | (dsimp only; omega)))), by repeat (first | with_reducible assumption | with_reducible refine KM.drew ?_ | with_reducible refine KM.alloc ?_ _ | with_reducible refine KM.call ?_ (by with_reducible assumption) | with_reducible refine Km.drew ?_ | with_reducible refine Km.alloc ?_ _ | with_reducible refine Km.call ?_ (by with_reducible assumption) | with_reducible refine Kq.drew ?_ | with_reducible refine Kq.alloc ?_ _ | with_reducible refine Kq.call ?_ (by with_reducible assumption) | ((with_reducible refine KM.put ?_ ?_); (first | omega | (dsimp only; omega))) | ((with_reducible refine Km.put ?_ ?_); (first | omega | (dsimp only; omega))) | ((with_reducible refine Kq.put ?_ ?_); (first | omega | (dsimp only; omega))) | ((with_reducible refine KM.far ?_ ?_); (first | omega | (dsimp only; omega))) | ((with_reducible refine Km.far ?_ ?_); (first | omega | (dsimp only; omega))) | ((with_reducible refine Kq.far ?_ ?_); (first | omega | (dsimp only; omega)))), by repeat (first | with_reducible assumption | with_reducible refine KM.drew ?_ | with_reducible refine KM.alloc ?_ _ | with_reducible refine KM.call ?_ (by with_reducible assumption) | with_reducible refine Km.drew ?_ | with_reducible refine Km.alloc ?_ _ | with_reducible refine Km.call ?_ (by with_reducible assumption) | with_reducible refine Kq.drew ?_ | with_reducible refine Kq.alloc ?_ _ | with_reducible refine Kq.call ?_ (by with_reducible assumption) | ((with_reducible refine KM.put ?_ ?_); (first | omega | (dsimp only; omega))) | ((with_reducible refine Km.put ?_ ?_); (first | omega | (dsimp only; omega))) | ((with_reducible refine Kq.put ?_ ?_); (first | omega | (dsimp only; omega))) | ((with_reducible refine KM.far ?_ ?_); (first | omega | (dsimp only; omega))) | ((with_reducible refine Km.far ?_ ?_); (first | omega | (dsimp only; omega))) | ((with_reducible refine Kq.far ?_ ?_); (first | omega | (dsimp only; omega)))), by repeat (first | with_reducible assumption | with_reducible refine KM.drew ?_ | with_reducible refine KM.alloc ?_ _ | with_reducible refine KM.call ?_ (by with_reducible assumption) | with_reducible refine Km.drew ?_ | with_reducible refine Km.alloc ?_ _ | with_reducible refine Km.call ?_ (by with_reducible assumption) | with_reducible refine Kq.drew ?_ | with_reducible refine Kq.alloc ?_ _ | with_reducible refine Kq.call ?_ (by with_reducible assumption) | ((with_reducible refine KM.put ?_ ?_); (first | omega | (dsimp only; omega))) | ((with_reducible refine Km.put ?_ ?_); (first | omega | (dsimp only; omega))) | ((with_reducible refine Kq.put ?_ ?_); (first | omega | (dsimp only; omega))) | ((with_reducible refine KM.far ?_ ?_); (first | omega | (dsimp only; omega))) | ((with_reducible refine Km.far ?_ ?_); (first | omega | (dsimp only; omega))) | ((with_reducible refine Kq.far ?_ ?_); (first | omega | (dsimp only; omega)))), by first | omega | (simp <;> omega), by repeat (first | with_reducible assumption | with_reducible exact Below.refl _ _ | with_reducible refine Below.setCell ?_ (by first | omega | (simp <;> omega)) _ | with_reducible refine Below.alloc ?_ (by first | omega | (simp <;> omega)) _ | with_reducible refine bstep ?_ (by with_reducible assumption) | with_reducible refine Below.drew ?_)⟩
    case rest =>
      obtain ⟨g0, rfl, rfl, O7, M7, N7, R7, U7, leg0, B7⟩ := hcut
      obtain ⟨w7, hw7⟩ : ∃ z, z = wc := ⟨_, rfl⟩
      subst hw7
      have O7c0 := O7.c0
      have O7c1 := O7.c1
      have O7c2 := O7.c2
      have O7c3 := O7.c3
      have O7c4 := O7.c4
      have O7c5 := O7.c5
      have O7f0 := O7.f0
      have O7f1 := O7.f1
      have O7f2 := O7.f2
      have O7f3 := O7.f3
      have O7f4 := O7.f4
      have O7f5 := O7.f5
      have O7l := O7.lt
      have O7n : ¬ g0 = w7.heap.size := by omega
      have M7c0 := M7.c0
      have M7c1 := M7.c1
      have M7c2 := M7.c2
      have M7c3 := M7.c3
      have M7c4 := M7.c4
      have M7c5 := M7.c5
      have M7l := M7.1
      have M7n : ¬ w.heap.size = w7.heap.size := by omega
      have N7c0 := N7.c0
      have N7c1 := N7.c1
      have N7c2 := N7.c2
      have N7c3 := N7.c3
      have N7c4 := N7.c4
      have N7c5 := N7.c5
      have N7l := N7.1
      have N7n : ¬ w.heap.size + 1 = w7.heap.size := by omega
      have R7c0 := R7.c0
      have R7c1 := R7.c1
      have R7c2 := R7.c2
      have R7c3 := R7.c3
      have R7c4 := R7.c4
      have R7c5 := R7.c5
      have R7f0 := R7.f0
      have R7f1 := R7.f1
      have R7f2 := R7.f2
      have R7f3 := R7.f3
      have R7f4 := R7.f4
      have R7f5 := R7.f5
      have R7l := R7.lt
      have R7n : ¬ w.heap.size + 1 + 1 = w7.heap.size := by omega
      have U7c0 := U7.c0
      have U7c1 := U7.c1
      have U7c2 := U7.c2
      have U7c3 := U7.c3
      have U7l := U7.1
      have U7n : ¬ 0 = w7.heap.size := by omega
      go_wp2
      refine bodyPost_ret (v := .tuple #[.agg #[.int .i64 0, .int .i64 0, .int .i64 0, .int .i64 0, .int .i64 0, .int .i64 0], .int .i64 3]) (by simp [results, Tryd.results7, go_sem, *]) rfl ⟨ret_val EA.out.symm, ?_⟩
      repeat (first | with_reducible assumption | with_reducible exact Below.refl _ _ | with_reducible refine Below.setCell ?_ (by first | omega | (simp <;> omega)) _ | with_reducible refine Below.alloc ?_ (by first | omega | (simp <;> omega)) _ | with_reducible refine bstep ?_ (by with_reducible assumption) | with_reducible refine Below.drew ?_)
  rcases ho : motB (a * a' + b * c') (a * b' + b * d') (c * a' + d * c') (c * b' + d * d') (a * x' + b * y' + x) (c * x' + d * y' + y) with _ | _
  · have EA := Lib.hid (show motT (cmpR a b c d x y a' b' c' d' x' y') = .tuple #[.agg #[.int .i64 0, .int .i64 0, .int .i64 0, .int .i64 0, .int .i64 0, .int .i64 0], .int .i64 5] by simp [motT, cmpR, hm, hn, hs, ho])
    have lu := motB_lim hm
    have vu := motB_vec hm
    have lu' := motB_lim hn
    have vu' := motB_vec hn
    have M0 : Km (w.heap.size) a b c d x y (((w.alloc (.cells #[.int .i64 a, .int .i64 b, .int .i64 c, .int .i64 d, .int .i64 x, .int .i64 y] 29)).alloc (.cells #[.int .i64 a', .int .i64 b', .int .i64 c', .int .i64 d', .int .i64 x', .int .i64 y'] 29)).alloc (.cells #[.int .i64 0, .int .i64 0, .int .i64 0, .int .i64 0, .int .i64 0, .int .i64 0] 29)) := (((Km.at (w.heap.size) rfl).alloc _).alloc _)
    have N0 : Km (w.heap.size + 1) a' b' c' d' x' y' (((w.alloc (.cells #[.int .i64 a, .int .i64 b, .int .i64 c, .int .i64 d, .int .i64 x, .int .i64 y] 29)).alloc (.cells #[.int .i64 a', .int .i64 b', .int .i64 c', .int .i64 d', .int .i64 x', .int .i64 y'] 29)).alloc (.cells #[.int .i64 0, .int .i64 0, .int .i64 0, .int .i64 0, .int .i64 0, .int .i64 0] 29)) := ((Km.at (w.heap.size + 1) (by simp)).alloc _)
    have R0 : KM (w.heap.size + 1 + 1) 0 0 0 0 0 0 (((w.alloc (.cells #[.int .i64 a, .int .i64 b, .int .i64 c, .int .i64 d, .int .i64 x, .int .i64 y] 29)).alloc (.cells #[.int .i64 a', .int .i64 b', .int .i64 c', .int .i64 d', .int .i64 x', .int .i64 y'] 29)).alloc (.cells #[.int .i64 0, .int .i64 0, .int .i64 0, .int .i64 0, .int .i64 0, .int .i64 0] 29)) := (KM.at (w.heap.size + 1 + 1) (by simp))
    have U0 : Kq (0) 1 0 0 1 (((w.alloc (.cells #[.int .i64 a, .int .i64 b, .int .i64 c, .int .i64 d, .int .i64 x, .int .i64 y] 29)).alloc (.cells #[.int .i64 a', .int .i64 b', .int .i64 c', .int .i64 d', .int .i64 x', .int .i64 y'] 29)).alloc (.cells #[.int .i64 0, .int .i64 0, .int .i64 0, .int .i64 0, .int .i64 0, .int .i64 0] 29)) := (((hU.alloc _).alloc _).alloc _)
    have B0 : Below w.heap.size w (((w.alloc (.cells #[.int .i64 a, .int .i64 b, .int .i64 c, .int .i64 d, .int .i64 x, .int .i64 y] 29)).alloc (.cells #[.int .i64 a', .int .i64 b', .int .i64 c', .int .i64 d', .int .i64 x', .int .i64 y'] 29)).alloc (.cells #[.int .i64 0, .int .i64 0, .int .i64 0, .int .i64 0, .int .i64 0, .int .i64 0] 29)) := (Below.alloc (Below.alloc (Below.alloc (Below.refl _ _) (by first | with_reducible exact Nat.le_refl _ | (simp <;> omega)) _) (by first | with_reducible exact Nat.le_refl _ | (simp <;> omega)) _) (by first | with_reducible exact Nat.le_refl _ | (simp <;> omega)) _)
    go_enter Tryd.func7, Tryd.ntmps7
    have M0c0 := M0.c0
    have M0c1 := M0.c1
    have M0c2 := M0.c2
    have M0c3 := M0.c3
    have M0c4 := M0.c4
    have M0c5 := M0.c5
    have M0l := M0.1
    have N0c0 := N0.c0
    have N0c1 := N0.c1
    have N0c2 := N0.c2
    have N0c3 := N0.c3
    have N0c4 := N0.c4
    have N0c5 := N0.c5
    have N0l := N0.1
    have R0c0 := R0.c0
    have R0c1 := R0.c1
    have R0c2 := R0.c2
    have R0c3 := R0.c3
    have R0c4 := R0.c4
    have R0c5 := R0.c5
    have R0f0 := R0.f0
    have R0f1 := R0.f1
    have R0f2 := R0.f2
    have R0f3 := R0.f3
    have R0f4 := R0.f4
    have R0f5 := R0.f5
    have R0l := R0.lt
    have U0c0 := U0.c0
    have U0c1 := U0.c1
    have U0c2 := U0.c2
    have U0c3 := U0.c3
    have U0l := U0.1
    go_wp2_with fail
    refine (implIsMo_any _ _ _ _ _ _ _ U0).mono ?_
    rintro e w1 ⟨rfl, hb1⟩
    have M1 : Km (w.heap.size) a b c d x y w1 := Km.call M0 hb1
    have N1 : Km (w.heap.size + 1) a' b' c' d' x' y' w1 := Km.call N0 hb1
    have R1 : KM (w.heap.size + 1 + 1) 0 0 0 0 0 0 w1 := KM.call R0 hb1
    have U1 : Kq (0) 1 0 0 1 w1 := Kq.call U0 hb1
    have B1 : Below w.heap.size w w1 := bstep B0 hb1
    clear hb1 B0 M0 N0 R0 U0
    have M1c0 := M1.c0
    have M1c1 := M1.c1
    have M1c2 := M1.c2
    have M1c3 := M1.c3
    have M1c4 := M1.c4
    have M1c5 := M1.c5
    have M1l := M1.1
    have M1n : ¬ w.heap.size = w1.heap.size := by omega
    have N1c0 := N1.c0
    have N1c1 := N1.c1
    have N1c2 := N1.c2
    have N1c3 := N1.c3
    have N1c4 := N1.c4
    have N1c5 := N1.c5
    have N1l := N1.1
    have N1n : ¬ w.heap.size + 1 = w1.heap.size := by omega
    have R1c0 := R1.c0
    have R1c1 := R1.c1
    have R1c2 := R1.c2
    have R1c3 := R1.c3
    have R1c4 := R1.c4
    have R1c5 := R1.c5
    have R1f0 := R1.f0
    have R1f1 := R1.f1
    have R1f2 := R1.f2
    have R1f3 := R1.f3
    have R1f4 := R1.f4
    have R1f5 := R1.f5
    have R1l := R1.lt
    have R1n : ¬ w.heap.size + 1 + 1 = w1.heap.size := by omega
    have U1c0 := U1.c0
    have U1c1 := U1.c1
    have U1c2 := U1.c2
    have U1c3 := U1.c3
    have U1l := U1.1
    have U1n : ¬ 0 = w1.heap.size := by omega
    go_wp2_with fail
    refine (implIsMo_any _ _ _ _ _ _ _ U1).mono ?_
    rintro e w2 ⟨rfl, hb2⟩
    have M2 : Km (w.heap.size) a b c d x y w2 := Km.call M1 hb2
    have N2 : Km (w.heap.size + 1) a' b' c' d' x' y' w2 := Km.call N1 hb2
    have R2 : KM (w.heap.size + 1 + 1) 0 0 0 0 0 0 w2 := KM.call R1 hb2
    have U2 : Kq (0) 1 0 0 1 w2 := Kq.call U1 hb2
    have B2 : Below w.heap.size w w2 := bstep B1 hb2
    clear hb2 B1 M1 N1 R1 U1
    have M2c0 := M2.c0
    have M2c1 := M2.c1
    have M2c2 := M2.c2
    have M2c3 := M2.c3
    have M2c4 := M2.c4
    have M2c5 := M2.c5
    have M2l := M2.1
    have M2n : ¬ w.heap.size = w2.heap.size := by omega
    have N2c0 := N2.c0
    have N2c1 := N2.c1
    have N2c2 := N2.c2
    have N2c3 := N2.c3
    have N2c4 := N2.c4
    have N2c5 := N2.c5
    have N2l := N2.1
    have N2n : ¬ w.heap.size + 1 = w2.heap.size := by omega
    have R2c0 := R2.c0
    have R2c1 := R2.c1
    have R2c2 := R2.c2
    have R2c3 := R2.c3
    have R2c4 := R2.c4
    have R2c5 := R2.c5
    have R2f0 := R2.f0
    have R2f1 := R2.f1
    have R2f2 := R2.f2
    have R2f3 := R2.f3
    have R2f4 := R2.f4
    have R2f5 := R2.f5
    have R2l := R2.lt
    have R2n : ¬ w.heap.size + 1 + 1 = w2.heap.size := by omega
    have U2c0 := U2.c0
    have U2c1 := U2.c1
    have U2c2 := U2.c2
    have U2c3 := U2.c3
    have U2l := U2.1
    have U2n : ¬ 0 = w2.heap.size := by omega
    clear M2c0 M2c1 M2c2 M2c3 M2c4 M2c5 M2l M2n
    clear N2c0 N2c1 N2c2 N2c3 N2c4 N2c5 N2l N2n
    clear R2c0 R2c1 R2c2 R2c3 R2c4 R2c5 R2f0 R2f1 R2f2 R2f3 R2f4 R2f5 R2l R2n
    clear U2c0 U2c1 U2c2 U2c3 U2l U2n
    have M2lt := M2.1
    have N2lt := N2.1
    have R2lt := R2.lt
    have U2lt := U2.1
    go_upto_region 1 with fail
    go_cut [6, 7] (fun s6 s7 wx => CmpCutyes w a b c d x y a' b' c' d' x' y' s6 s7 wx)
    case first =>
      go_region_held3 (fun W => (W.cell? ⟨w.heap.size, 0, none⟩ = some (.int .i64 a) ∧ W.cell? ⟨w.heap.size, 1, none⟩ = some (.int .i64 b) ∧ W.cell? ⟨w.heap.size, 2, none⟩ = some (.int .i64 c) ∧ W.cell? ⟨w.heap.size, 3, none⟩ = some (.int .i64 d) ∧ W.cell? ⟨w.heap.size, 4, none⟩ = some (.int .i64 x) ∧ W.cell? ⟨w.heap.size, 5, none⟩ = some (.int .i64 y)) ∧ (W.cell? ⟨w.heap.size + 1, 0, none⟩ = some (.int .i64 a') ∧ W.cell? ⟨w.heap.size + 1, 1, none⟩ = some (.int .i64 b') ∧ W.cell? ⟨w.heap.size + 1, 2, none⟩ = some (.int .i64 c') ∧ W.cell? ⟨w.heap.size + 1, 3, none⟩ = some (.int .i64 d') ∧ W.cell? ⟨w.heap.size + 1, 4, none⟩ = some (.int .i64 x') ∧ W.cell? ⟨w.heap.size + 1, 5, none⟩ = some (.int .i64 y'))) ((refine ⟨Km.cells ?_, Km.cells ?_⟩ <;> repeat (first | with_reducible assumption | with_reducible refine KM.drew ?_ | with_reducible refine KM.alloc ?_ _ | with_reducible refine KM.call ?_ (by with_reducible assumption) | with_reducible refine Km.drew ?_ | with_reducible refine Km.alloc ?_ _ | with_reducible refine Km.call ?_ (by with_reducible assumption) | with_reducible refine Kq.drew ?_ | with_reducible refine Kq.alloc ?_ _ | with_reducible refine Kq.call ?_ (by with_reducible assumption) | ((with_reducible refine KM.put ?_ ?_); (first | omega | (dsimp only; omega))) | ((with_reducible refine Km.put ?_ ?_); (first | omega | (dsimp only; omega))) | ((with_reducible refine Kq.put ?_ ?_); (first | omega | (dsimp only; omega))) | ((with_reducible refine KM.far ?_ ?_); (first | omega | (dsimp only; omega))) | ((with_reducible refine Km.far ?_ ?_); (first | omega | (dsimp only; omega))) | ((with_reducible refine Kq.far ?_ ?_); (first | omega | (dsimp only; omega))))))
        (first
          | (go_at_call_of 31 (Value.agg #[Value.int IntKind.i64 a, Value.int IntKind.i64 b, Value.int IntKind.i64 c, Value.int IntKind.i64 d, Value.int IntKind.i64 x, Value.int IntKind.i64 y]); ((with_reducible refine (motionOf_any _ _ _ _ _ _ _).mono ?_); rintro e w3 ⟨rfl, hb3⟩; have M3 : Km (w.heap.size) a b c d x y w3 := (by repeat (first | with_reducible assumption | with_reducible refine KM.drew ?_ | with_reducible refine KM.alloc ?_ _ | with_reducible refine KM.call ?_ (by with_reducible assumption) | with_reducible refine Km.drew ?_ | with_reducible refine Km.alloc ?_ _ | with_reducible refine Km.call ?_ (by with_reducible assumption) | with_reducible refine Kq.drew ?_ | with_reducible refine Kq.alloc ?_ _ | with_reducible refine Kq.call ?_ (by with_reducible assumption))); have M3l := M3.1; have N3 : Km (w.heap.size + 1) a' b' c' d' x' y' w3 := (by repeat (first | with_reducible assumption | with_reducible refine KM.drew ?_ | with_reducible refine KM.alloc ?_ _ | with_reducible refine KM.call ?_ (by with_reducible assumption) | with_reducible refine Km.drew ?_ | with_reducible refine Km.alloc ?_ _ | with_reducible refine Km.call ?_ (by with_reducible assumption) | with_reducible refine Kq.drew ?_ | with_reducible refine Kq.alloc ?_ _ | with_reducible refine Kq.call ?_ (by with_reducible assumption))); have N3l := N3.1; have R3 : KM (w.heap.size + 1 + 1) 0 0 0 0 0 0 w3 := (by repeat (first | with_reducible assumption | with_reducible refine KM.drew ?_ | with_reducible refine KM.alloc ?_ _ | with_reducible refine KM.call ?_ (by with_reducible assumption) | with_reducible refine Km.drew ?_ | with_reducible refine Km.alloc ?_ _ | with_reducible refine Km.call ?_ (by with_reducible assumption) | with_reducible refine Kq.drew ?_ | with_reducible refine Kq.alloc ?_ _ | with_reducible refine Kq.call ?_ (by with_reducible assumption))); have R3l := R3.lt; have U3 : Kq (0) 1 0 0 1 w3 := (by repeat (first | with_reducible assumption | with_reducible refine KM.drew ?_ | with_reducible refine KM.alloc ?_ _ | with_reducible refine KM.call ?_ (by with_reducible assumption) | with_reducible refine Km.drew ?_ | with_reducible refine Km.alloc ?_ _ | with_reducible refine Km.call ?_ (by with_reducible assumption) | with_reducible refine Kq.drew ?_ | with_reducible refine Kq.alloc ?_ _ | with_reducible refine Kq.call ?_ (by with_reducible assumption))); have U3l := U3.1; (try ((refine useIt (P := KM (w2.heap.size) 0 0 0 0 0 0 w3) ?_ ?_); (repeat (first | with_reducible assumption | (with_reducible exact KM.at _ (by first | with_reducible rfl | (simp; done) | fail)) | with_reducible refine KM.drew ?_ | with_reducible refine KM.alloc ?_ _ | with_reducible refine KM.call ?_ (by with_reducible assumption) | with_reducible refine Km.drew ?_ | with_reducible refine Km.alloc ?_ _ | with_reducible refine Km.call ?_ (by with_reducible assumption) | with_reducible refine Kq.drew ?_ | with_reducible refine Kq.alloc ?_ _ | with_reducible refine Kq.call ?_ (by with_reducible assumption))); intro O3_e; have O3_ec0 := O3_e.c0; have O3_ef0 := O3_e.f0; have O3_ec1 := O3_e.c1; have O3_ef1 := O3_e.f1; have O3_ec2 := O3_e.c2; have O3_ef2 := O3_e.f2; have O3_ec3 := O3_e.c3; have O3_ef3 := O3_e.f3; have O3_ec4 := O3_e.c4; have O3_ef4 := O3_e.f4; have O3_ec5 := O3_e.c5; have O3_ef5 := O3_e.f5; have O3_el := O3_e.lt)); (try ((refine useIt (P := KM (w4.heap.size) 0 0 0 0 0 0 w3) ?_ ?_); (repeat (first | with_reducible assumption | (with_reducible exact KM.at _ (by first | with_reducible rfl | (simp; done) | fail)) | with_reducible refine KM.drew ?_ | with_reducible refine KM.alloc ?_ _ | with_reducible refine KM.call ?_ (by with_reducible assumption) | with_reducible refine Km.drew ?_ | with_reducible refine Km.alloc ?_ _ | with_reducible refine Km.call ?_ (by with_reducible assumption) | with_reducible refine Kq.drew ?_ | with_reducible refine Kq.alloc ?_ _ | with_reducible refine Kq.call ?_ (by with_reducible assumption))); intro O3_w4; have O3_w4c0 := O3_w4.c0; have O3_w4f0 := O3_w4.f0; have O3_w4c1 := O3_w4.c1; have O3_w4f1 := O3_w4.f1; have O3_w4c2 := O3_w4.c2; have O3_w4f2 := O3_w4.f2; have O3_w4c3 := O3_w4.c3; have O3_w4f3 := O3_w4.f3; have O3_w4c4 := O3_w4.c4; have O3_w4f4 := O3_w4.f4; have O3_w4c5 := O3_w4.c5; have O3_w4f5 := O3_w4.f5; have O3_w4l := O3_w4.lt)); (try ((refine useIt (P := KM (w5.heap.size) 0 0 0 0 0 0 w3) ?_ ?_); (repeat (first | with_reducible assumption | (with_reducible exact KM.at _ (by first | with_reducible rfl | (simp; done) | fail)) | with_reducible refine KM.drew ?_ | with_reducible refine KM.alloc ?_ _ | with_reducible refine KM.call ?_ (by with_reducible assumption) | with_reducible refine Km.drew ?_ | with_reducible refine Km.alloc ?_ _ | with_reducible refine Km.call ?_ (by with_reducible assumption) | with_reducible refine Kq.drew ?_ | with_reducible refine Kq.alloc ?_ _ | with_reducible refine Kq.call ?_ (by with_reducible assumption))); intro O3_w5; have O3_w5c0 := O3_w5.c0; have O3_w5f0 := O3_w5.f0; have O3_w5c1 := O3_w5.c1; have O3_w5f1 := O3_w5.f1; have O3_w5c2 := O3_w5.c2; have O3_w5f2 := O3_w5.f2; have O3_w5c3 := O3_w5.c3; have O3_w5f3 := O3_w5.f3; have O3_w5c4 := O3_w5.c4; have O3_w5f4 := O3_w5.f4; have O3_w5c5 := O3_w5.c5; have O3_w5f5 := O3_w5.f5; have O3_w5l := O3_w5.lt)); (try ((refine useIt (P := KM (w6.heap.size) 0 0 0 0 0 0 w3) ?_ ?_); (repeat (first | with_reducible assumption | (with_reducible exact KM.at _ (by first | with_reducible rfl | (simp; done) | fail)) | with_reducible refine KM.drew ?_ | with_reducible refine KM.alloc ?_ _ | with_reducible refine KM.call ?_ (by with_reducible assumption) | with_reducible refine Km.drew ?_ | with_reducible refine Km.alloc ?_ _ | with_reducible refine Km.call ?_ (by with_reducible assumption) | with_reducible refine Kq.drew ?_ | with_reducible refine Kq.alloc ?_ _ | with_reducible refine Kq.call ?_ (by with_reducible assumption))); intro O3_w6; have O3_w6c0 := O3_w6.c0; have O3_w6f0 := O3_w6.f0; have O3_w6c1 := O3_w6.c1; have O3_w6f1 := O3_w6.f1; have O3_w6c2 := O3_w6.c2; have O3_w6f2 := O3_w6.f2; have O3_w6c3 := O3_w6.c3; have O3_w6f3 := O3_w6.f3; have O3_w6c4 := O3_w6.c4; have O3_w6f4 := O3_w6.f4; have O3_w6c5 := O3_w6.c5; have O3_w6f5 := O3_w6.f5; have O3_w6l := O3_w6.lt)); have B3 : Below w.heap.size w w3 := (by repeat (first | with_reducible assumption | with_reducible refine Below.drew ?_ | with_reducible refine Below.alloc ?_ (by first | omega | (simp <;> omega)) _ | with_reducible refine bstep ?_ (by with_reducible assumption)))))
          | (go_at_call_of 31 (Value.agg #[Value.int IntKind.i64 a', Value.int IntKind.i64 b', Value.int IntKind.i64 c', Value.int IntKind.i64 d', Value.int IntKind.i64 x', Value.int IntKind.i64 y']); ((with_reducible refine (motionOf_any _ _ _ _ _ _ _).mono ?_); rintro e w4 ⟨rfl, hb4⟩; have M4 : Km (w.heap.size) a b c d x y w4 := (by repeat (first | with_reducible assumption | with_reducible refine KM.drew ?_ | with_reducible refine KM.alloc ?_ _ | with_reducible refine KM.call ?_ (by with_reducible assumption) | with_reducible refine Km.drew ?_ | with_reducible refine Km.alloc ?_ _ | with_reducible refine Km.call ?_ (by with_reducible assumption) | with_reducible refine Kq.drew ?_ | with_reducible refine Kq.alloc ?_ _ | with_reducible refine Kq.call ?_ (by with_reducible assumption))); have M4l := M4.1; have N4 : Km (w.heap.size + 1) a' b' c' d' x' y' w4 := (by repeat (first | with_reducible assumption | with_reducible refine KM.drew ?_ | with_reducible refine KM.alloc ?_ _ | with_reducible refine KM.call ?_ (by with_reducible assumption) | with_reducible refine Km.drew ?_ | with_reducible refine Km.alloc ?_ _ | with_reducible refine Km.call ?_ (by with_reducible assumption) | with_reducible refine Kq.drew ?_ | with_reducible refine Kq.alloc ?_ _ | with_reducible refine Kq.call ?_ (by with_reducible assumption))); have N4l := N4.1; have R4 : KM (w.heap.size + 1 + 1) 0 0 0 0 0 0 w4 := (by repeat (first | with_reducible assumption | with_reducible refine KM.drew ?_ | with_reducible refine KM.alloc ?_ _ | with_reducible refine KM.call ?_ (by with_reducible assumption) | with_reducible refine Km.drew ?_ | with_reducible refine Km.alloc ?_ _ | with_reducible refine Km.call ?_ (by with_reducible assumption) | with_reducible refine Kq.drew ?_ | with_reducible refine Kq.alloc ?_ _ | with_reducible refine Kq.call ?_ (by with_reducible assumption))); have R4l := R4.lt; have U4 : Kq (0) 1 0 0 1 w4 := (by repeat (first | with_reducible assumption | with_reducible refine KM.drew ?_ | with_reducible refine KM.alloc ?_ _ | with_reducible refine KM.call ?_ (by with_reducible assumption) | with_reducible refine Km.drew ?_ | with_reducible refine Km.alloc ?_ _ | with_reducible refine Km.call ?_ (by with_reducible assumption) | with_reducible refine Kq.drew ?_ | with_reducible refine Kq.alloc ?_ _ | with_reducible refine Kq.call ?_ (by with_reducible assumption))); have U4l := U4.1; (try ((refine useIt (P := KM (w2.heap.size) 0 0 0 0 0 0 w4) ?_ ?_); (repeat (first | with_reducible assumption | (with_reducible exact KM.at _ (by first | with_reducible rfl | (simp; done) | fail)) | with_reducible refine KM.drew ?_ | with_reducible refine KM.alloc ?_ _ | with_reducible refine KM.call ?_ (by with_reducible assumption) | with_reducible refine Km.drew ?_ | with_reducible refine Km.alloc ?_ _ | with_reducible refine Km.call ?_ (by with_reducible assumption) | with_reducible refine Kq.drew ?_ | with_reducible refine Kq.alloc ?_ _ | with_reducible refine Kq.call ?_ (by with_reducible assumption))); intro O4_e; have O4_ec0 := O4_e.c0; have O4_ef0 := O4_e.f0; have O4_ec1 := O4_e.c1; have O4_ef1 := O4_e.f1; have O4_ec2 := O4_e.c2; have O4_ef2 := O4_e.f2; have O4_ec3 := O4_e.c3; have O4_ef3 := O4_e.f3; have O4_ec4 := O4_e.c4; have O4_ef4 := O4_e.f4; have O4_ec5 := O4_e.c5; have O4_ef5 := O4_e.f5; have O4_el := O4_e.lt)); (try ((refine useIt (P := KM (w3.heap.size) 0 0 0 0 0 0 w4) ?_ ?_); (repeat (first | with_reducible assumption | (with_reducible exact KM.at _ (by first | with_reducible rfl | (simp; done) | fail)) | with_reducible refine KM.drew ?_ | with_reducible refine KM.alloc ?_ _ | with_reducible refine KM.call ?_ (by with_reducible assumption) | with_reducible refine Km.drew ?_ | with_reducible refine Km.alloc ?_ _ | with_reducible refine Km.call ?_ (by with_reducible assumption) | with_reducible refine Kq.drew ?_ | with_reducible refine Kq.alloc ?_ _ | with_reducible refine Kq.call ?_ (by with_reducible assumption))); intro O4_w3; have O4_w3c0 := O4_w3.c0; have O4_w3f0 := O4_w3.f0; have O4_w3c1 := O4_w3.c1; have O4_w3f1 := O4_w3.f1; have O4_w3c2 := O4_w3.c2; have O4_w3f2 := O4_w3.f2; have O4_w3c3 := O4_w3.c3; have O4_w3f3 := O4_w3.f3; have O4_w3c4 := O4_w3.c4; have O4_w3f4 := O4_w3.f4; have O4_w3c5 := O4_w3.c5; have O4_w3f5 := O4_w3.f5; have O4_w3l := O4_w3.lt)); (try ((refine useIt (P := KM (w5.heap.size) 0 0 0 0 0 0 w4) ?_ ?_); (repeat (first | with_reducible assumption | (with_reducible exact KM.at _ (by first | with_reducible rfl | (simp; done) | fail)) | with_reducible refine KM.drew ?_ | with_reducible refine KM.alloc ?_ _ | with_reducible refine KM.call ?_ (by with_reducible assumption) | with_reducible refine Km.drew ?_ | with_reducible refine Km.alloc ?_ _ | with_reducible refine Km.call ?_ (by with_reducible assumption) | with_reducible refine Kq.drew ?_ | with_reducible refine Kq.alloc ?_ _ | with_reducible refine Kq.call ?_ (by with_reducible assumption))); intro O4_w5; have O4_w5c0 := O4_w5.c0; have O4_w5f0 := O4_w5.f0; have O4_w5c1 := O4_w5.c1; have O4_w5f1 := O4_w5.f1; have O4_w5c2 := O4_w5.c2; have O4_w5f2 := O4_w5.f2; have O4_w5c3 := O4_w5.c3; have O4_w5f3 := O4_w5.f3; have O4_w5c4 := O4_w5.c4; have O4_w5f4 := O4_w5.f4; have O4_w5c5 := O4_w5.c5; have O4_w5f5 := O4_w5.f5; have O4_w5l := O4_w5.lt)); (try ((refine useIt (P := KM (w6.heap.size) 0 0 0 0 0 0 w4) ?_ ?_); (repeat (first | with_reducible assumption | (with_reducible exact KM.at _ (by first | with_reducible rfl | (simp; done) | fail)) | with_reducible refine KM.drew ?_ | with_reducible refine KM.alloc ?_ _ | with_reducible refine KM.call ?_ (by with_reducible assumption) | with_reducible refine Km.drew ?_ | with_reducible refine Km.alloc ?_ _ | with_reducible refine Km.call ?_ (by with_reducible assumption) | with_reducible refine Kq.drew ?_ | with_reducible refine Kq.alloc ?_ _ | with_reducible refine Kq.call ?_ (by with_reducible assumption))); intro O4_w6; have O4_w6c0 := O4_w6.c0; have O4_w6f0 := O4_w6.f0; have O4_w6c1 := O4_w6.c1; have O4_w6f1 := O4_w6.f1; have O4_w6c2 := O4_w6.c2; have O4_w6f2 := O4_w6.f2; have O4_w6c3 := O4_w6.c3; have O4_w6f3 := O4_w6.f3; have O4_w6c4 := O4_w6.c4; have O4_w6f4 := O4_w6.f4; have O4_w6c5 := O4_w6.c5; have O4_w6f5 := O4_w6.f5; have O4_w6l := O4_w6.lt)); have B4 : Below w.heap.size w w4 := (by repeat (first | with_reducible assumption | with_reducible refine Below.drew ?_ | with_reducible refine Below.alloc ?_ (by first | omega | (simp <;> omega)) _ | with_reducible refine bstep ?_ (by with_reducible assumption)))))
          | (go_at_call 32; ((with_reducible refine (afterMo_any _ _ _ _ _ _ _ _ _ _ _ _ _ lu vu lu' vu').mono ?_); rintro e w5 ⟨rfl, hb5⟩; have M5 : Km (w.heap.size) a b c d x y w5 := (by repeat (first | with_reducible assumption | with_reducible refine KM.drew ?_ | with_reducible refine KM.alloc ?_ _ | with_reducible refine KM.call ?_ (by with_reducible assumption) | with_reducible refine Km.drew ?_ | with_reducible refine Km.alloc ?_ _ | with_reducible refine Km.call ?_ (by with_reducible assumption) | with_reducible refine Kq.drew ?_ | with_reducible refine Kq.alloc ?_ _ | with_reducible refine Kq.call ?_ (by with_reducible assumption))); have M5l := M5.1; have N5 : Km (w.heap.size + 1) a' b' c' d' x' y' w5 := (by repeat (first | with_reducible assumption | with_reducible refine KM.drew ?_ | with_reducible refine KM.alloc ?_ _ | with_reducible refine KM.call ?_ (by with_reducible assumption) | with_reducible refine Km.drew ?_ | with_reducible refine Km.alloc ?_ _ | with_reducible refine Km.call ?_ (by with_reducible assumption) | with_reducible refine Kq.drew ?_ | with_reducible refine Kq.alloc ?_ _ | with_reducible refine Kq.call ?_ (by with_reducible assumption))); have N5l := N5.1; have R5 : KM (w.heap.size + 1 + 1) 0 0 0 0 0 0 w5 := (by repeat (first | with_reducible assumption | with_reducible refine KM.drew ?_ | with_reducible refine KM.alloc ?_ _ | with_reducible refine KM.call ?_ (by with_reducible assumption) | with_reducible refine Km.drew ?_ | with_reducible refine Km.alloc ?_ _ | with_reducible refine Km.call ?_ (by with_reducible assumption) | with_reducible refine Kq.drew ?_ | with_reducible refine Kq.alloc ?_ _ | with_reducible refine Kq.call ?_ (by with_reducible assumption))); have R5l := R5.lt; have U5 : Kq (0) 1 0 0 1 w5 := (by repeat (first | with_reducible assumption | with_reducible refine KM.drew ?_ | with_reducible refine KM.alloc ?_ _ | with_reducible refine KM.call ?_ (by with_reducible assumption) | with_reducible refine Km.drew ?_ | with_reducible refine Km.alloc ?_ _ | with_reducible refine Km.call ?_ (by with_reducible assumption) | with_reducible refine Kq.drew ?_ | with_reducible refine Kq.alloc ?_ _ | with_reducible refine Kq.call ?_ (by with_reducible assumption))); have U5l := U5.1; (try ((refine useIt (P := KM (w2.heap.size) 0 0 0 0 0 0 w5) ?_ ?_); (repeat (first | with_reducible assumption | (with_reducible exact KM.at _ (by first | with_reducible rfl | (simp; done) | fail)) | with_reducible refine KM.drew ?_ | with_reducible refine KM.alloc ?_ _ | with_reducible refine KM.call ?_ (by with_reducible assumption) | with_reducible refine Km.drew ?_ | with_reducible refine Km.alloc ?_ _ | with_reducible refine Km.call ?_ (by with_reducible assumption) | with_reducible refine Kq.drew ?_ | with_reducible refine Kq.alloc ?_ _ | with_reducible refine Kq.call ?_ (by with_reducible assumption))); intro O5_e; have O5_ec0 := O5_e.c0; have O5_ef0 := O5_e.f0; have O5_ec1 := O5_e.c1; have O5_ef1 := O5_e.f1; have O5_ec2 := O5_e.c2; have O5_ef2 := O5_e.f2; have O5_ec3 := O5_e.c3; have O5_ef3 := O5_e.f3; have O5_ec4 := O5_e.c4; have O5_ef4 := O5_e.f4; have O5_ec5 := O5_e.c5; have O5_ef5 := O5_e.f5; have O5_el := O5_e.lt)); (try ((refine useIt (P := KM (w3.heap.size) 0 0 0 0 0 0 w5) ?_ ?_); (repeat (first | with_reducible assumption | (with_reducible exact KM.at _ (by first | with_reducible rfl | (simp; done) | fail)) | with_reducible refine KM.drew ?_ | with_reducible refine KM.alloc ?_ _ | with_reducible refine KM.call ?_ (by with_reducible assumption) | with_reducible refine Km.drew ?_ | with_reducible refine Km.alloc ?_ _ | with_reducible refine Km.call ?_ (by with_reducible assumption) | with_reducible refine Kq.drew ?_ | with_reducible refine Kq.alloc ?_ _ | with_reducible refine Kq.call ?_ (by with_reducible assumption))); intro O5_w3; have O5_w3c0 := O5_w3.c0; have O5_w3f0 := O5_w3.f0; have O5_w3c1 := O5_w3.c1; have O5_w3f1 := O5_w3.f1; have O5_w3c2 := O5_w3.c2; have O5_w3f2 := O5_w3.f2; have O5_w3c3 := O5_w3.c3; have O5_w3f3 := O5_w3.f3; have O5_w3c4 := O5_w3.c4; have O5_w3f4 := O5_w3.f4; have O5_w3c5 := O5_w3.c5; have O5_w3f5 := O5_w3.f5; have O5_w3l := O5_w3.lt)); (try ((refine useIt (P := KM (w4.heap.size) 0 0 0 0 0 0 w5) ?_ ?_); (repeat (first | with_reducible assumption | (with_reducible exact KM.at _ (by first | with_reducible rfl | (simp; done) | fail)) | with_reducible refine KM.drew ?_ | with_reducible refine KM.alloc ?_ _ | with_reducible refine KM.call ?_ (by with_reducible assumption) | with_reducible refine Km.drew ?_ | with_reducible refine Km.alloc ?_ _ | with_reducible refine Km.call ?_ (by with_reducible assumption) | with_reducible refine Kq.drew ?_ | with_reducible refine Kq.alloc ?_ _ | with_reducible refine Kq.call ?_ (by with_reducible assumption))); intro O5_w4; have O5_w4c0 := O5_w4.c0; have O5_w4f0 := O5_w4.f0; have O5_w4c1 := O5_w4.c1; have O5_w4f1 := O5_w4.f1; have O5_w4c2 := O5_w4.c2; have O5_w4f2 := O5_w4.f2; have O5_w4c3 := O5_w4.c3; have O5_w4f3 := O5_w4.f3; have O5_w4c4 := O5_w4.c4; have O5_w4f4 := O5_w4.f4; have O5_w4c5 := O5_w4.c5; have O5_w4f5 := O5_w4.f5; have O5_w4l := O5_w4.lt)); (try ((refine useIt (P := KM (w6.heap.size) 0 0 0 0 0 0 w5) ?_ ?_); (repeat (first | with_reducible assumption | (with_reducible exact KM.at _ (by first | with_reducible rfl | (simp; done) | fail)) | with_reducible refine KM.drew ?_ | with_reducible refine KM.alloc ?_ _ | with_reducible refine KM.call ?_ (by with_reducible assumption) | with_reducible refine Km.drew ?_ | with_reducible refine Km.alloc ?_ _ | with_reducible refine Km.call ?_ (by with_reducible assumption) | with_reducible refine Kq.drew ?_ | with_reducible refine Kq.alloc ?_ _ | with_reducible refine Kq.call ?_ (by with_reducible assumption))); intro O5_w6; have O5_w6c0 := O5_w6.c0; have O5_w6f0 := O5_w6.f0; have O5_w6c1 := O5_w6.c1; have O5_w6f1 := O5_w6.f1; have O5_w6c2 := O5_w6.c2; have O5_w6f2 := O5_w6.f2; have O5_w6c3 := O5_w6.c3; have O5_w6f3 := O5_w6.f3; have O5_w6c4 := O5_w6.c4; have O5_w6f4 := O5_w6.f4; have O5_w6c5 := O5_w6.c5; have O5_w6f5 := O5_w6.f5; have O5_w6l := O5_w6.lt)); have B5 : Below w.heap.size w w5 := (by repeat (first | with_reducible assumption | with_reducible refine Below.drew ?_ | with_reducible refine Below.alloc ?_ (by first | omega | (simp <;> omega)) _ | with_reducible refine bstep ?_ (by with_reducible assumption)))))
          | (go_at_call 30; ((with_reducible refine (limMo_yes _ _ _ _ _ _ _ hs).mono ?_); rintro e w6 ⟨rfl, hb6⟩; have M6 : Km (w.heap.size) a b c d x y w6 := (by repeat (first | with_reducible assumption | with_reducible refine KM.drew ?_ | with_reducible refine KM.alloc ?_ _ | with_reducible refine KM.call ?_ (by with_reducible assumption) | with_reducible refine Km.drew ?_ | with_reducible refine Km.alloc ?_ _ | with_reducible refine Km.call ?_ (by with_reducible assumption) | with_reducible refine Kq.drew ?_ | with_reducible refine Kq.alloc ?_ _ | with_reducible refine Kq.call ?_ (by with_reducible assumption))); have M6l := M6.1; have N6 : Km (w.heap.size + 1) a' b' c' d' x' y' w6 := (by repeat (first | with_reducible assumption | with_reducible refine KM.drew ?_ | with_reducible refine KM.alloc ?_ _ | with_reducible refine KM.call ?_ (by with_reducible assumption) | with_reducible refine Km.drew ?_ | with_reducible refine Km.alloc ?_ _ | with_reducible refine Km.call ?_ (by with_reducible assumption) | with_reducible refine Kq.drew ?_ | with_reducible refine Kq.alloc ?_ _ | with_reducible refine Kq.call ?_ (by with_reducible assumption))); have N6l := N6.1; have R6 : KM (w.heap.size + 1 + 1) 0 0 0 0 0 0 w6 := (by repeat (first | with_reducible assumption | with_reducible refine KM.drew ?_ | with_reducible refine KM.alloc ?_ _ | with_reducible refine KM.call ?_ (by with_reducible assumption) | with_reducible refine Km.drew ?_ | with_reducible refine Km.alloc ?_ _ | with_reducible refine Km.call ?_ (by with_reducible assumption) | with_reducible refine Kq.drew ?_ | with_reducible refine Kq.alloc ?_ _ | with_reducible refine Kq.call ?_ (by with_reducible assumption))); have R6l := R6.lt; have U6 : Kq (0) 1 0 0 1 w6 := (by repeat (first | with_reducible assumption | with_reducible refine KM.drew ?_ | with_reducible refine KM.alloc ?_ _ | with_reducible refine KM.call ?_ (by with_reducible assumption) | with_reducible refine Km.drew ?_ | with_reducible refine Km.alloc ?_ _ | with_reducible refine Km.call ?_ (by with_reducible assumption) | with_reducible refine Kq.drew ?_ | with_reducible refine Kq.alloc ?_ _ | with_reducible refine Kq.call ?_ (by with_reducible assumption))); have U6l := U6.1; (try ((refine useIt (P := KM (w2.heap.size) 0 0 0 0 0 0 w6) ?_ ?_); (repeat (first | with_reducible assumption | (with_reducible exact KM.at _ (by first | with_reducible rfl | (simp; done) | fail)) | with_reducible refine KM.drew ?_ | with_reducible refine KM.alloc ?_ _ | with_reducible refine KM.call ?_ (by with_reducible assumption) | with_reducible refine Km.drew ?_ | with_reducible refine Km.alloc ?_ _ | with_reducible refine Km.call ?_ (by with_reducible assumption) | with_reducible refine Kq.drew ?_ | with_reducible refine Kq.alloc ?_ _ | with_reducible refine Kq.call ?_ (by with_reducible assumption))); intro O6_e; have O6_ec0 := O6_e.c0; have O6_ef0 := O6_e.f0; have O6_ec1 := O6_e.c1; have O6_ef1 := O6_e.f1; have O6_ec2 := O6_e.c2; have O6_ef2 := O6_e.f2; have O6_ec3 := O6_e.c3; have O6_ef3 := O6_e.f3; have O6_ec4 := O6_e.c4; have O6_ef4 := O6_e.f4; have O6_ec5 := O6_e.c5; have O6_ef5 := O6_e.f5; have O6_el := O6_e.lt)); (try ((refine useIt (P := KM (w3.heap.size) 0 0 0 0 0 0 w6) ?_ ?_); (repeat (first | with_reducible assumption | (with_reducible exact KM.at _ (by first | with_reducible rfl | (simp; done) | fail)) | with_reducible refine KM.drew ?_ | with_reducible refine KM.alloc ?_ _ | with_reducible refine KM.call ?_ (by with_reducible assumption) | with_reducible refine Km.drew ?_ | with_reducible refine Km.alloc ?_ _ | with_reducible refine Km.call ?_ (by with_reducible assumption) | with_reducible refine Kq.drew ?_ | with_reducible refine Kq.alloc ?_ _ | with_reducible refine Kq.call ?_ (by with_reducible assumption))); intro O6_w3; have O6_w3c0 := O6_w3.c0; have O6_w3f0 := O6_w3.f0; have O6_w3c1 := O6_w3.c1; have O6_w3f1 := O6_w3.f1; have O6_w3c2 := O6_w3.c2; have O6_w3f2 := O6_w3.f2; have O6_w3c3 := O6_w3.c3; have O6_w3f3 := O6_w3.f3; have O6_w3c4 := O6_w3.c4; have O6_w3f4 := O6_w3.f4; have O6_w3c5 := O6_w3.c5; have O6_w3f5 := O6_w3.f5; have O6_w3l := O6_w3.lt)); (try ((refine useIt (P := KM (w4.heap.size) 0 0 0 0 0 0 w6) ?_ ?_); (repeat (first | with_reducible assumption | (with_reducible exact KM.at _ (by first | with_reducible rfl | (simp; done) | fail)) | with_reducible refine KM.drew ?_ | with_reducible refine KM.alloc ?_ _ | with_reducible refine KM.call ?_ (by with_reducible assumption) | with_reducible refine Km.drew ?_ | with_reducible refine Km.alloc ?_ _ | with_reducible refine Km.call ?_ (by with_reducible assumption) | with_reducible refine Kq.drew ?_ | with_reducible refine Kq.alloc ?_ _ | with_reducible refine Kq.call ?_ (by with_reducible assumption))); intro O6_w4; have O6_w4c0 := O6_w4.c0; have O6_w4f0 := O6_w4.f0; have O6_w4c1 := O6_w4.c1; have O6_w4f1 := O6_w4.f1; have O6_w4c2 := O6_w4.c2; have O6_w4f2 := O6_w4.f2; have O6_w4c3 := O6_w4.c3; have O6_w4f3 := O6_w4.f3; have O6_w4c4 := O6_w4.c4; have O6_w4f4 := O6_w4.f4; have O6_w4c5 := O6_w4.c5; have O6_w4f5 := O6_w4.f5; have O6_w4l := O6_w4.lt)); (try ((refine useIt (P := KM (w5.heap.size) 0 0 0 0 0 0 w6) ?_ ?_); (repeat (first | with_reducible assumption | (with_reducible exact KM.at _ (by first | with_reducible rfl | (simp; done) | fail)) | with_reducible refine KM.drew ?_ | with_reducible refine KM.alloc ?_ _ | with_reducible refine KM.call ?_ (by with_reducible assumption) | with_reducible refine Km.drew ?_ | with_reducible refine Km.alloc ?_ _ | with_reducible refine Km.call ?_ (by with_reducible assumption) | with_reducible refine Kq.drew ?_ | with_reducible refine Kq.alloc ?_ _ | with_reducible refine Kq.call ?_ (by with_reducible assumption))); intro O6_w5; have O6_w5c0 := O6_w5.c0; have O6_w5f0 := O6_w5.f0; have O6_w5c1 := O6_w5.c1; have O6_w5f1 := O6_w5.f1; have O6_w5c2 := O6_w5.c2; have O6_w5f2 := O6_w5.f2; have O6_w5c3 := O6_w5.c3; have O6_w5f3 := O6_w5.f3; have O6_w5c4 := O6_w5.c4; have O6_w5f4 := O6_w5.f4; have O6_w5c5 := O6_w5.c5; have O6_w5f5 := O6_w5.f5; have O6_w5l := O6_w5.lt)); have B6 : Below w.heap.size w w6 := (by repeat (first | with_reducible assumption | with_reducible refine Below.drew ?_ | with_reducible refine Below.alloc ?_ (by first | omega | (simp <;> omega)) _ | with_reducible refine bstep ?_ (by with_reducible assumption))))))
      all_goals
        go_wp2_with fail
        go_meet
        exact ⟨_, rfl, rfl, (by first | (with_reducible exact KM.at _ (by first | with_reducible rfl | (simp; done) | fail)) | (with_reducible exact KM.store (by repeat (first | with_reducible assumption | (with_reducible exact KM.at _ (by first | with_reducible rfl | (simp; done) | fail)) | with_reducible refine KM.drew ?_ | with_reducible refine KM.alloc ?_ _ | with_reducible refine KM.call ?_ (by with_reducible assumption) | with_reducible refine Km.drew ?_ | with_reducible refine Km.alloc ?_ _ | with_reducible refine Km.call ?_ (by with_reducible assumption) | with_reducible refine Kq.drew ?_ | with_reducible refine Kq.alloc ?_ _ | with_reducible refine Kq.call ?_ (by with_reducible assumption))) _ _ _ _ _ _) | fail), by repeat (first | with_reducible assumption | with_reducible refine KM.drew ?_ | with_reducible refine KM.alloc ?_ _ | with_reducible refine KM.call ?_ (by with_reducible assumption) | with_reducible refine Km.drew ?_ | with_reducible refine Km.alloc ?_ _ | with_reducible refine Km.call ?_ (by with_reducible assumption) | with_reducible refine Kq.drew ?_ | with_reducible refine Kq.alloc ?_ _ | with_reducible refine Kq.call ?_ (by with_reducible assumption) | ((with_reducible refine KM.put ?_ ?_); (first | omega | (dsimp only; omega))) | ((with_reducible refine Km.put ?_ ?_); (first | omega | (dsimp only; omega))) | ((with_reducible refine Kq.put ?_ ?_); (first | omega | (dsimp only; omega))) | ((with_reducible refine KM.far ?_ ?_); (first | omega | (dsimp only; omega))) | ((with_reducible refine Km.far ?_ ?_); (first | omega | (dsimp only; omega))) | ((with_reducible refine Kq.far ?_ ?_); (first | omega | (dsimp only; omega)))), by repeat (first | with_reducible assumption | with_reducible refine KM.drew ?_ | with_reducible refine KM.alloc ?_ _ | with_reducible refine KM.call ?_ (by with_reducible assumption) | with_reducible refine Km.drew ?_ | with_reducible refine Km.alloc ?_ _ | with_reducible refine Km.call ?_ (by with_reducible assumption) | with_reducible refine Kq.drew ?_ | with_reducible refine Kq.alloc ?_ _ | with_reducible refine Kq.call ?_ (by with_reducible assumption) | ((with_reducible refine KM.put ?_ ?_); (first | omega | (dsimp only; omega))) | ((with_reducible refine Km.put ?_ ?_); (first | omega | (dsimp only; omega))) | ((with_reducible refine Kq.put ?_ ?_); (first | omega | (dsimp only; omega))) | ((with_reducible refine KM.far ?_ ?_); (first | omega | (dsimp only; omega))) | ((with_reducible refine Km.far ?_ ?_); (first | omega | (dsimp only; omega))) | ((with_reducible refine Kq.far ?_ ?_); (first | omega | (dsimp only; omega)))), by repeat (first | with_reducible assumption | with_reducible refine KM.drew ?_ | with_reducible refine KM.alloc ?_ _ | with_reducible refine KM.call ?_ (by with_reducible assumption) | with_reducible refine Km.drew ?_ | with_reducible refine Km.alloc ?_ _ | with_reducible refine Km.call ?_ (by with_reducible assumption) | with_reducible refine Kq.drew ?_ | with_reducible refine Kq.alloc ?_ _ | with_reducible refine Kq.call ?_ (by with_reducible assumption) | ((with_reducible refine KM.put ?_ ?_); (first | omega | (dsimp only; omega))) | ((with_reducible refine Km.put ?_ ?_); (first | omega | (dsimp only; omega))) | ((with_reducible refine Kq.put ?_ ?_); (first | omega | (dsimp only; omega))) | ((with_reducible refine KM.far ?_ ?_); (first | omega | (dsimp only; omega))) | ((with_reducible refine Km.far ?_ ?_); (first | omega | (dsimp only; omega))) | ((with_reducible refine Kq.far ?_ ?_); (first | omega | (dsimp only; omega)))), by repeat (first | with_reducible assumption | with_reducible refine KM.drew ?_ | with_reducible refine KM.alloc ?_ _ | with_reducible refine KM.call ?_ (by with_reducible assumption) | with_reducible refine Km.drew ?_ | with_reducible refine Km.alloc ?_ _ | with_reducible refine Km.call ?_ (by with_reducible assumption) | with_reducible refine Kq.drew ?_ | with_reducible refine Kq.alloc ?_ _ | with_reducible refine Kq.call ?_ (by with_reducible assumption) | ((with_reducible refine KM.put ?_ ?_); (first | omega | (dsimp only; omega))) | ((with_reducible refine Km.put ?_ ?_); (first | omega | (dsimp only; omega))) | ((with_reducible refine Kq.put ?_ ?_); (first | omega | (dsimp only; omega))) | ((with_reducible refine KM.far ?_ ?_); (first | omega | (dsimp only; omega))) | ((with_reducible refine Km.far ?_ ?_); (first | omega | (dsimp only; omega))) | ((with_reducible refine Kq.far ?_ ?_); (first | omega | (dsimp only; omega)))), by first | omega | (simp <;> omega), by repeat (first | with_reducible assumption | with_reducible exact Below.refl _ _ | with_reducible refine Below.setCell ?_ (by first | omega | (simp <;> omega)) _ | with_reducible refine Below.alloc ?_ (by first | omega | (simp <;> omega)) _ | with_reducible refine bstep ?_ (by with_reducible assumption) | with_reducible refine Below.drew ?_)⟩
    case rest =>
      obtain ⟨g0, rfl, rfl, O7, M7, N7, R7, U7, leg0, B7⟩ := hcut
      obtain ⟨w7, hw7⟩ : ∃ z, z = wc := ⟨_, rfl⟩
      subst hw7
      have O7c0 := O7.c0
      have O7c1 := O7.c1
      have O7c2 := O7.c2
      have O7c3 := O7.c3
      have O7c4 := O7.c4
      have O7c5 := O7.c5
      have O7f0 := O7.f0
      have O7f1 := O7.f1
      have O7f2 := O7.f2
      have O7f3 := O7.f3
      have O7f4 := O7.f4
      have O7f5 := O7.f5
      have O7l := O7.lt
      have O7n : ¬ g0 = w7.heap.size := by omega
      have M7c0 := M7.c0
      have M7c1 := M7.c1
      have M7c2 := M7.c2
      have M7c3 := M7.c3
      have M7c4 := M7.c4
      have M7c5 := M7.c5
      have M7l := M7.1
      have M7n : ¬ w.heap.size = w7.heap.size := by omega
      have N7c0 := N7.c0
      have N7c1 := N7.c1
      have N7c2 := N7.c2
      have N7c3 := N7.c3
      have N7c4 := N7.c4
      have N7c5 := N7.c5
      have N7l := N7.1
      have N7n : ¬ w.heap.size + 1 = w7.heap.size := by omega
      have R7c0 := R7.c0
      have R7c1 := R7.c1
      have R7c2 := R7.c2
      have R7c3 := R7.c3
      have R7c4 := R7.c4
      have R7c5 := R7.c5
      have R7f0 := R7.f0
      have R7f1 := R7.f1
      have R7f2 := R7.f2
      have R7f3 := R7.f3
      have R7f4 := R7.f4
      have R7f5 := R7.f5
      have R7l := R7.lt
      have R7n : ¬ w.heap.size + 1 + 1 = w7.heap.size := by omega
      have U7c0 := U7.c0
      have U7c1 := U7.c1
      have U7c2 := U7.c2
      have U7c3 := U7.c3
      have U7l := U7.1
      have U7n : ¬ 0 = w7.heap.size := by omega
      go_wp2_with fail
      refine (implIsMo_any _ _ _ _ _ _ _ U7).mono ?_
      rintro e w8 ⟨rfl, hb8⟩
      have O8 : KM (g0) (a * a' + b * c') (a * b' + b * d') (c * a' + d * c') (c * b' + d * d') (a * x' + b * y' + x) (c * x' + d * y' + y) w8 := KM.call O7 hb8
      have M8 : Km (w.heap.size) a b c d x y w8 := Km.call M7 hb8
      have N8 : Km (w.heap.size + 1) a' b' c' d' x' y' w8 := Km.call N7 hb8
      have R8 : KM (w.heap.size + 1 + 1) 0 0 0 0 0 0 w8 := KM.call R7 hb8
      have U8 : Kq (0) 1 0 0 1 w8 := Kq.call U7 hb8
      have B8 : Below w.heap.size w w8 := bstep B7 hb8
      clear hb8 B7 O7 M7 N7 R7 U7
      have O8c0 := O8.c0
      have O8c1 := O8.c1
      have O8c2 := O8.c2
      have O8c3 := O8.c3
      have O8c4 := O8.c4
      have O8c5 := O8.c5
      have O8f0 := O8.f0
      have O8f1 := O8.f1
      have O8f2 := O8.f2
      have O8f3 := O8.f3
      have O8f4 := O8.f4
      have O8f5 := O8.f5
      have O8l := O8.lt
      have O8n : ¬ g0 = w8.heap.size := by omega
      have M8c0 := M8.c0
      have M8c1 := M8.c1
      have M8c2 := M8.c2
      have M8c3 := M8.c3
      have M8c4 := M8.c4
      have M8c5 := M8.c5
      have M8l := M8.1
      have M8n : ¬ w.heap.size = w8.heap.size := by omega
      have N8c0 := N8.c0
      have N8c1 := N8.c1
      have N8c2 := N8.c2
      have N8c3 := N8.c3
      have N8c4 := N8.c4
      have N8c5 := N8.c5
      have N8l := N8.1
      have N8n : ¬ w.heap.size + 1 = w8.heap.size := by omega
      have R8c0 := R8.c0
      have R8c1 := R8.c1
      have R8c2 := R8.c2
      have R8c3 := R8.c3
      have R8c4 := R8.c4
      have R8c5 := R8.c5
      have R8f0 := R8.f0
      have R8f1 := R8.f1
      have R8f2 := R8.f2
      have R8f3 := R8.f3
      have R8f4 := R8.f4
      have R8f5 := R8.f5
      have R8l := R8.lt
      have R8n : ¬ w.heap.size + 1 + 1 = w8.heap.size := by omega
      have U8c0 := U8.c0
      have U8c1 := U8.c1
      have U8c2 := U8.c2
      have U8c3 := U8.c3
      have U8l := U8.1
      have U8n : ¬ 0 = w8.heap.size := by omega
      go_wp2
      refine bodyPost_ret (v := .tuple #[.agg #[.int .i64 0, .int .i64 0, .int .i64 0, .int .i64 0, .int .i64 0, .int .i64 0], .int .i64 5]) (by simp [results, Tryd.results7, go_sem, *]) rfl ⟨ret_val EA.out.symm, ?_⟩
      repeat (first | with_reducible assumption | with_reducible exact Below.refl _ _ | with_reducible refine Below.setCell ?_ (by first | omega | (simp <;> omega)) _ | with_reducible refine Below.alloc ?_ (by first | omega | (simp <;> omega)) _ | with_reducible refine bstep ?_ (by with_reducible assumption) | with_reducible refine Below.drew ?_)
  · have EA := Lib.hid (show motT (cmpR a b c d x y a' b' c' d' x' y') = .tuple #[.agg #[.int .i64 (a * a' + b * c'), .int .i64 (a * b' + b * d'), .int .i64 (c * a' + d * c'), .int .i64 (c * b' + d * d'), .int .i64 (a * x' + b * y' + x), .int .i64 (c * x' + d * y' + y)], .int .i64 0] by simp [motT, cmpR, hm, hn, hs, ho])
    have lu := motB_lim hm
    have vu := motB_vec hm
    have lu' := motB_lim hn
    have vu' := motB_vec hn
    have M0 : Km (w.heap.size) a b c d x y (((w.alloc (.cells #[.int .i64 a, .int .i64 b, .int .i64 c, .int .i64 d, .int .i64 x, .int .i64 y] 29)).alloc (.cells #[.int .i64 a', .int .i64 b', .int .i64 c', .int .i64 d', .int .i64 x', .int .i64 y'] 29)).alloc (.cells #[.int .i64 0, .int .i64 0, .int .i64 0, .int .i64 0, .int .i64 0, .int .i64 0] 29)) := (((Km.at (w.heap.size) rfl).alloc _).alloc _)
    have N0 : Km (w.heap.size + 1) a' b' c' d' x' y' (((w.alloc (.cells #[.int .i64 a, .int .i64 b, .int .i64 c, .int .i64 d, .int .i64 x, .int .i64 y] 29)).alloc (.cells #[.int .i64 a', .int .i64 b', .int .i64 c', .int .i64 d', .int .i64 x', .int .i64 y'] 29)).alloc (.cells #[.int .i64 0, .int .i64 0, .int .i64 0, .int .i64 0, .int .i64 0, .int .i64 0] 29)) := ((Km.at (w.heap.size + 1) (by simp)).alloc _)
    have R0 : KM (w.heap.size + 1 + 1) 0 0 0 0 0 0 (((w.alloc (.cells #[.int .i64 a, .int .i64 b, .int .i64 c, .int .i64 d, .int .i64 x, .int .i64 y] 29)).alloc (.cells #[.int .i64 a', .int .i64 b', .int .i64 c', .int .i64 d', .int .i64 x', .int .i64 y'] 29)).alloc (.cells #[.int .i64 0, .int .i64 0, .int .i64 0, .int .i64 0, .int .i64 0, .int .i64 0] 29)) := (KM.at (w.heap.size + 1 + 1) (by simp))
    have U0 : Kq (0) 1 0 0 1 (((w.alloc (.cells #[.int .i64 a, .int .i64 b, .int .i64 c, .int .i64 d, .int .i64 x, .int .i64 y] 29)).alloc (.cells #[.int .i64 a', .int .i64 b', .int .i64 c', .int .i64 d', .int .i64 x', .int .i64 y'] 29)).alloc (.cells #[.int .i64 0, .int .i64 0, .int .i64 0, .int .i64 0, .int .i64 0, .int .i64 0] 29)) := (((hU.alloc _).alloc _).alloc _)
    have B0 : Below w.heap.size w (((w.alloc (.cells #[.int .i64 a, .int .i64 b, .int .i64 c, .int .i64 d, .int .i64 x, .int .i64 y] 29)).alloc (.cells #[.int .i64 a', .int .i64 b', .int .i64 c', .int .i64 d', .int .i64 x', .int .i64 y'] 29)).alloc (.cells #[.int .i64 0, .int .i64 0, .int .i64 0, .int .i64 0, .int .i64 0, .int .i64 0] 29)) := (Below.alloc (Below.alloc (Below.alloc (Below.refl _ _) (by first | with_reducible exact Nat.le_refl _ | (simp <;> omega)) _) (by first | with_reducible exact Nat.le_refl _ | (simp <;> omega)) _) (by first | with_reducible exact Nat.le_refl _ | (simp <;> omega)) _)
    go_enter Tryd.func7, Tryd.ntmps7
    have M0c0 := M0.c0
    have M0c1 := M0.c1
    have M0c2 := M0.c2
    have M0c3 := M0.c3
    have M0c4 := M0.c4
    have M0c5 := M0.c5
    have M0l := M0.1
    have N0c0 := N0.c0
    have N0c1 := N0.c1
    have N0c2 := N0.c2
    have N0c3 := N0.c3
    have N0c4 := N0.c4
    have N0c5 := N0.c5
    have N0l := N0.1
    have R0c0 := R0.c0
    have R0c1 := R0.c1
    have R0c2 := R0.c2
    have R0c3 := R0.c3
    have R0c4 := R0.c4
    have R0c5 := R0.c5
    have R0f0 := R0.f0
    have R0f1 := R0.f1
    have R0f2 := R0.f2
    have R0f3 := R0.f3
    have R0f4 := R0.f4
    have R0f5 := R0.f5
    have R0l := R0.lt
    have U0c0 := U0.c0
    have U0c1 := U0.c1
    have U0c2 := U0.c2
    have U0c3 := U0.c3
    have U0l := U0.1
    go_wp2_with fail
    refine (implIsMo_any _ _ _ _ _ _ _ U0).mono ?_
    rintro e w1 ⟨rfl, hb1⟩
    have M1 : Km (w.heap.size) a b c d x y w1 := Km.call M0 hb1
    have N1 : Km (w.heap.size + 1) a' b' c' d' x' y' w1 := Km.call N0 hb1
    have R1 : KM (w.heap.size + 1 + 1) 0 0 0 0 0 0 w1 := KM.call R0 hb1
    have U1 : Kq (0) 1 0 0 1 w1 := Kq.call U0 hb1
    have B1 : Below w.heap.size w w1 := bstep B0 hb1
    clear hb1 B0 M0 N0 R0 U0
    have M1c0 := M1.c0
    have M1c1 := M1.c1
    have M1c2 := M1.c2
    have M1c3 := M1.c3
    have M1c4 := M1.c4
    have M1c5 := M1.c5
    have M1l := M1.1
    have M1n : ¬ w.heap.size = w1.heap.size := by omega
    have N1c0 := N1.c0
    have N1c1 := N1.c1
    have N1c2 := N1.c2
    have N1c3 := N1.c3
    have N1c4 := N1.c4
    have N1c5 := N1.c5
    have N1l := N1.1
    have N1n : ¬ w.heap.size + 1 = w1.heap.size := by omega
    have R1c0 := R1.c0
    have R1c1 := R1.c1
    have R1c2 := R1.c2
    have R1c3 := R1.c3
    have R1c4 := R1.c4
    have R1c5 := R1.c5
    have R1f0 := R1.f0
    have R1f1 := R1.f1
    have R1f2 := R1.f2
    have R1f3 := R1.f3
    have R1f4 := R1.f4
    have R1f5 := R1.f5
    have R1l := R1.lt
    have R1n : ¬ w.heap.size + 1 + 1 = w1.heap.size := by omega
    have U1c0 := U1.c0
    have U1c1 := U1.c1
    have U1c2 := U1.c2
    have U1c3 := U1.c3
    have U1l := U1.1
    have U1n : ¬ 0 = w1.heap.size := by omega
    go_wp2_with fail
    refine (implIsMo_any _ _ _ _ _ _ _ U1).mono ?_
    rintro e w2 ⟨rfl, hb2⟩
    have M2 : Km (w.heap.size) a b c d x y w2 := Km.call M1 hb2
    have N2 : Km (w.heap.size + 1) a' b' c' d' x' y' w2 := Km.call N1 hb2
    have R2 : KM (w.heap.size + 1 + 1) 0 0 0 0 0 0 w2 := KM.call R1 hb2
    have U2 : Kq (0) 1 0 0 1 w2 := Kq.call U1 hb2
    have B2 : Below w.heap.size w w2 := bstep B1 hb2
    clear hb2 B1 M1 N1 R1 U1
    have M2c0 := M2.c0
    have M2c1 := M2.c1
    have M2c2 := M2.c2
    have M2c3 := M2.c3
    have M2c4 := M2.c4
    have M2c5 := M2.c5
    have M2l := M2.1
    have M2n : ¬ w.heap.size = w2.heap.size := by omega
    have N2c0 := N2.c0
    have N2c1 := N2.c1
    have N2c2 := N2.c2
    have N2c3 := N2.c3
    have N2c4 := N2.c4
    have N2c5 := N2.c5
    have N2l := N2.1
    have N2n : ¬ w.heap.size + 1 = w2.heap.size := by omega
    have R2c0 := R2.c0
    have R2c1 := R2.c1
    have R2c2 := R2.c2
    have R2c3 := R2.c3
    have R2c4 := R2.c4
    have R2c5 := R2.c5
    have R2f0 := R2.f0
    have R2f1 := R2.f1
    have R2f2 := R2.f2
    have R2f3 := R2.f3
    have R2f4 := R2.f4
    have R2f5 := R2.f5
    have R2l := R2.lt
    have R2n : ¬ w.heap.size + 1 + 1 = w2.heap.size := by omega
    have U2c0 := U2.c0
    have U2c1 := U2.c1
    have U2c2 := U2.c2
    have U2c3 := U2.c3
    have U2l := U2.1
    have U2n : ¬ 0 = w2.heap.size := by omega
    clear M2c0 M2c1 M2c2 M2c3 M2c4 M2c5 M2l M2n
    clear N2c0 N2c1 N2c2 N2c3 N2c4 N2c5 N2l N2n
    clear R2c0 R2c1 R2c2 R2c3 R2c4 R2c5 R2f0 R2f1 R2f2 R2f3 R2f4 R2f5 R2l R2n
    clear U2c0 U2c1 U2c2 U2c3 U2l U2n
    have M2lt := M2.1
    have N2lt := N2.1
    have R2lt := R2.lt
    have U2lt := U2.1
    go_upto_region 1 with fail
    go_cut [6, 7] (fun s6 s7 wx => CmpCutyes w a b c d x y a' b' c' d' x' y' s6 s7 wx)
    case first =>
      go_region_held3 (fun W => (W.cell? ⟨w.heap.size, 0, none⟩ = some (.int .i64 a) ∧ W.cell? ⟨w.heap.size, 1, none⟩ = some (.int .i64 b) ∧ W.cell? ⟨w.heap.size, 2, none⟩ = some (.int .i64 c) ∧ W.cell? ⟨w.heap.size, 3, none⟩ = some (.int .i64 d) ∧ W.cell? ⟨w.heap.size, 4, none⟩ = some (.int .i64 x) ∧ W.cell? ⟨w.heap.size, 5, none⟩ = some (.int .i64 y)) ∧ (W.cell? ⟨w.heap.size + 1, 0, none⟩ = some (.int .i64 a') ∧ W.cell? ⟨w.heap.size + 1, 1, none⟩ = some (.int .i64 b') ∧ W.cell? ⟨w.heap.size + 1, 2, none⟩ = some (.int .i64 c') ∧ W.cell? ⟨w.heap.size + 1, 3, none⟩ = some (.int .i64 d') ∧ W.cell? ⟨w.heap.size + 1, 4, none⟩ = some (.int .i64 x') ∧ W.cell? ⟨w.heap.size + 1, 5, none⟩ = some (.int .i64 y'))) ((refine ⟨Km.cells ?_, Km.cells ?_⟩ <;> repeat (first | with_reducible assumption | with_reducible refine KM.drew ?_ | with_reducible refine KM.alloc ?_ _ | with_reducible refine KM.call ?_ (by with_reducible assumption) | with_reducible refine Km.drew ?_ | with_reducible refine Km.alloc ?_ _ | with_reducible refine Km.call ?_ (by with_reducible assumption) | with_reducible refine Kq.drew ?_ | with_reducible refine Kq.alloc ?_ _ | with_reducible refine Kq.call ?_ (by with_reducible assumption) | ((with_reducible refine KM.put ?_ ?_); (first | omega | (dsimp only; omega))) | ((with_reducible refine Km.put ?_ ?_); (first | omega | (dsimp only; omega))) | ((with_reducible refine Kq.put ?_ ?_); (first | omega | (dsimp only; omega))) | ((with_reducible refine KM.far ?_ ?_); (first | omega | (dsimp only; omega))) | ((with_reducible refine Km.far ?_ ?_); (first | omega | (dsimp only; omega))) | ((with_reducible refine Kq.far ?_ ?_); (first | omega | (dsimp only; omega))))))
        (first
          | (go_at_call_of 31 (Value.agg #[Value.int IntKind.i64 a, Value.int IntKind.i64 b, Value.int IntKind.i64 c, Value.int IntKind.i64 d, Value.int IntKind.i64 x, Value.int IntKind.i64 y]); ((with_reducible refine (motionOf_any _ _ _ _ _ _ _).mono ?_); rintro e w3 ⟨rfl, hb3⟩; have M3 : Km (w.heap.size) a b c d x y w3 := (by repeat (first | with_reducible assumption | with_reducible refine KM.drew ?_ | with_reducible refine KM.alloc ?_ _ | with_reducible refine KM.call ?_ (by with_reducible assumption) | with_reducible refine Km.drew ?_ | with_reducible refine Km.alloc ?_ _ | with_reducible refine Km.call ?_ (by with_reducible assumption) | with_reducible refine Kq.drew ?_ | with_reducible refine Kq.alloc ?_ _ | with_reducible refine Kq.call ?_ (by with_reducible assumption))); have M3l := M3.1; have N3 : Km (w.heap.size + 1) a' b' c' d' x' y' w3 := (by repeat (first | with_reducible assumption | with_reducible refine KM.drew ?_ | with_reducible refine KM.alloc ?_ _ | with_reducible refine KM.call ?_ (by with_reducible assumption) | with_reducible refine Km.drew ?_ | with_reducible refine Km.alloc ?_ _ | with_reducible refine Km.call ?_ (by with_reducible assumption) | with_reducible refine Kq.drew ?_ | with_reducible refine Kq.alloc ?_ _ | with_reducible refine Kq.call ?_ (by with_reducible assumption))); have N3l := N3.1; have R3 : KM (w.heap.size + 1 + 1) 0 0 0 0 0 0 w3 := (by repeat (first | with_reducible assumption | with_reducible refine KM.drew ?_ | with_reducible refine KM.alloc ?_ _ | with_reducible refine KM.call ?_ (by with_reducible assumption) | with_reducible refine Km.drew ?_ | with_reducible refine Km.alloc ?_ _ | with_reducible refine Km.call ?_ (by with_reducible assumption) | with_reducible refine Kq.drew ?_ | with_reducible refine Kq.alloc ?_ _ | with_reducible refine Kq.call ?_ (by with_reducible assumption))); have R3l := R3.lt; have U3 : Kq (0) 1 0 0 1 w3 := (by repeat (first | with_reducible assumption | with_reducible refine KM.drew ?_ | with_reducible refine KM.alloc ?_ _ | with_reducible refine KM.call ?_ (by with_reducible assumption) | with_reducible refine Km.drew ?_ | with_reducible refine Km.alloc ?_ _ | with_reducible refine Km.call ?_ (by with_reducible assumption) | with_reducible refine Kq.drew ?_ | with_reducible refine Kq.alloc ?_ _ | with_reducible refine Kq.call ?_ (by with_reducible assumption))); have U3l := U3.1; (try ((refine useIt (P := KM (w2.heap.size) 0 0 0 0 0 0 w3) ?_ ?_); (repeat (first | with_reducible assumption | (with_reducible exact KM.at _ (by first | with_reducible rfl | (simp; done) | fail)) | with_reducible refine KM.drew ?_ | with_reducible refine KM.alloc ?_ _ | with_reducible refine KM.call ?_ (by with_reducible assumption) | with_reducible refine Km.drew ?_ | with_reducible refine Km.alloc ?_ _ | with_reducible refine Km.call ?_ (by with_reducible assumption) | with_reducible refine Kq.drew ?_ | with_reducible refine Kq.alloc ?_ _ | with_reducible refine Kq.call ?_ (by with_reducible assumption))); intro O3_e; have O3_ec0 := O3_e.c0; have O3_ef0 := O3_e.f0; have O3_ec1 := O3_e.c1; have O3_ef1 := O3_e.f1; have O3_ec2 := O3_e.c2; have O3_ef2 := O3_e.f2; have O3_ec3 := O3_e.c3; have O3_ef3 := O3_e.f3; have O3_ec4 := O3_e.c4; have O3_ef4 := O3_e.f4; have O3_ec5 := O3_e.c5; have O3_ef5 := O3_e.f5; have O3_el := O3_e.lt)); (try ((refine useIt (P := KM (w4.heap.size) 0 0 0 0 0 0 w3) ?_ ?_); (repeat (first | with_reducible assumption | (with_reducible exact KM.at _ (by first | with_reducible rfl | (simp; done) | fail)) | with_reducible refine KM.drew ?_ | with_reducible refine KM.alloc ?_ _ | with_reducible refine KM.call ?_ (by with_reducible assumption) | with_reducible refine Km.drew ?_ | with_reducible refine Km.alloc ?_ _ | with_reducible refine Km.call ?_ (by with_reducible assumption) | with_reducible refine Kq.drew ?_ | with_reducible refine Kq.alloc ?_ _ | with_reducible refine Kq.call ?_ (by with_reducible assumption))); intro O3_w4; have O3_w4c0 := O3_w4.c0; have O3_w4f0 := O3_w4.f0; have O3_w4c1 := O3_w4.c1; have O3_w4f1 := O3_w4.f1; have O3_w4c2 := O3_w4.c2; have O3_w4f2 := O3_w4.f2; have O3_w4c3 := O3_w4.c3; have O3_w4f3 := O3_w4.f3; have O3_w4c4 := O3_w4.c4; have O3_w4f4 := O3_w4.f4; have O3_w4c5 := O3_w4.c5; have O3_w4f5 := O3_w4.f5; have O3_w4l := O3_w4.lt)); (try ((refine useIt (P := KM (w5.heap.size) 0 0 0 0 0 0 w3) ?_ ?_); (repeat (first | with_reducible assumption | (with_reducible exact KM.at _ (by first | with_reducible rfl | (simp; done) | fail)) | with_reducible refine KM.drew ?_ | with_reducible refine KM.alloc ?_ _ | with_reducible refine KM.call ?_ (by with_reducible assumption) | with_reducible refine Km.drew ?_ | with_reducible refine Km.alloc ?_ _ | with_reducible refine Km.call ?_ (by with_reducible assumption) | with_reducible refine Kq.drew ?_ | with_reducible refine Kq.alloc ?_ _ | with_reducible refine Kq.call ?_ (by with_reducible assumption))); intro O3_w5; have O3_w5c0 := O3_w5.c0; have O3_w5f0 := O3_w5.f0; have O3_w5c1 := O3_w5.c1; have O3_w5f1 := O3_w5.f1; have O3_w5c2 := O3_w5.c2; have O3_w5f2 := O3_w5.f2; have O3_w5c3 := O3_w5.c3; have O3_w5f3 := O3_w5.f3; have O3_w5c4 := O3_w5.c4; have O3_w5f4 := O3_w5.f4; have O3_w5c5 := O3_w5.c5; have O3_w5f5 := O3_w5.f5; have O3_w5l := O3_w5.lt)); (try ((refine useIt (P := KM (w6.heap.size) 0 0 0 0 0 0 w3) ?_ ?_); (repeat (first | with_reducible assumption | (with_reducible exact KM.at _ (by first | with_reducible rfl | (simp; done) | fail)) | with_reducible refine KM.drew ?_ | with_reducible refine KM.alloc ?_ _ | with_reducible refine KM.call ?_ (by with_reducible assumption) | with_reducible refine Km.drew ?_ | with_reducible refine Km.alloc ?_ _ | with_reducible refine Km.call ?_ (by with_reducible assumption) | with_reducible refine Kq.drew ?_ | with_reducible refine Kq.alloc ?_ _ | with_reducible refine Kq.call ?_ (by with_reducible assumption))); intro O3_w6; have O3_w6c0 := O3_w6.c0; have O3_w6f0 := O3_w6.f0; have O3_w6c1 := O3_w6.c1; have O3_w6f1 := O3_w6.f1; have O3_w6c2 := O3_w6.c2; have O3_w6f2 := O3_w6.f2; have O3_w6c3 := O3_w6.c3; have O3_w6f3 := O3_w6.f3; have O3_w6c4 := O3_w6.c4; have O3_w6f4 := O3_w6.f4; have O3_w6c5 := O3_w6.c5; have O3_w6f5 := O3_w6.f5; have O3_w6l := O3_w6.lt)); have B3 : Below w.heap.size w w3 := (by repeat (first | with_reducible assumption | with_reducible refine Below.drew ?_ | with_reducible refine Below.alloc ?_ (by first | omega | (simp <;> omega)) _ | with_reducible refine bstep ?_ (by with_reducible assumption)))))
          | (go_at_call_of 31 (Value.agg #[Value.int IntKind.i64 a', Value.int IntKind.i64 b', Value.int IntKind.i64 c', Value.int IntKind.i64 d', Value.int IntKind.i64 x', Value.int IntKind.i64 y']); ((with_reducible refine (motionOf_any _ _ _ _ _ _ _).mono ?_); rintro e w4 ⟨rfl, hb4⟩; have M4 : Km (w.heap.size) a b c d x y w4 := (by repeat (first | with_reducible assumption | with_reducible refine KM.drew ?_ | with_reducible refine KM.alloc ?_ _ | with_reducible refine KM.call ?_ (by with_reducible assumption) | with_reducible refine Km.drew ?_ | with_reducible refine Km.alloc ?_ _ | with_reducible refine Km.call ?_ (by with_reducible assumption) | with_reducible refine Kq.drew ?_ | with_reducible refine Kq.alloc ?_ _ | with_reducible refine Kq.call ?_ (by with_reducible assumption))); have M4l := M4.1; have N4 : Km (w.heap.size + 1) a' b' c' d' x' y' w4 := (by repeat (first | with_reducible assumption | with_reducible refine KM.drew ?_ | with_reducible refine KM.alloc ?_ _ | with_reducible refine KM.call ?_ (by with_reducible assumption) | with_reducible refine Km.drew ?_ | with_reducible refine Km.alloc ?_ _ | with_reducible refine Km.call ?_ (by with_reducible assumption) | with_reducible refine Kq.drew ?_ | with_reducible refine Kq.alloc ?_ _ | with_reducible refine Kq.call ?_ (by with_reducible assumption))); have N4l := N4.1; have R4 : KM (w.heap.size + 1 + 1) 0 0 0 0 0 0 w4 := (by repeat (first | with_reducible assumption | with_reducible refine KM.drew ?_ | with_reducible refine KM.alloc ?_ _ | with_reducible refine KM.call ?_ (by with_reducible assumption) | with_reducible refine Km.drew ?_ | with_reducible refine Km.alloc ?_ _ | with_reducible refine Km.call ?_ (by with_reducible assumption) | with_reducible refine Kq.drew ?_ | with_reducible refine Kq.alloc ?_ _ | with_reducible refine Kq.call ?_ (by with_reducible assumption))); have R4l := R4.lt; have U4 : Kq (0) 1 0 0 1 w4 := (by repeat (first | with_reducible assumption | with_reducible refine KM.drew ?_ | with_reducible refine KM.alloc ?_ _ | with_reducible refine KM.call ?_ (by with_reducible assumption) | with_reducible refine Km.drew ?_ | with_reducible refine Km.alloc ?_ _ | with_reducible refine Km.call ?_ (by with_reducible assumption) | with_reducible refine Kq.drew ?_ | with_reducible refine Kq.alloc ?_ _ | with_reducible refine Kq.call ?_ (by with_reducible assumption))); have U4l := U4.1; (try ((refine useIt (P := KM (w2.heap.size) 0 0 0 0 0 0 w4) ?_ ?_); (repeat (first | with_reducible assumption | (with_reducible exact KM.at _ (by first | with_reducible rfl | (simp; done) | fail)) | with_reducible refine KM.drew ?_ | with_reducible refine KM.alloc ?_ _ | with_reducible refine KM.call ?_ (by with_reducible assumption) | with_reducible refine Km.drew ?_ | with_reducible refine Km.alloc ?_ _ | with_reducible refine Km.call ?_ (by with_reducible assumption) | with_reducible refine Kq.drew ?_ | with_reducible refine Kq.alloc ?_ _ | with_reducible refine Kq.call ?_ (by with_reducible assumption))); intro O4_e; have O4_ec0 := O4_e.c0; have O4_ef0 := O4_e.f0; have O4_ec1 := O4_e.c1; have O4_ef1 := O4_e.f1; have O4_ec2 := O4_e.c2; have O4_ef2 := O4_e.f2; have O4_ec3 := O4_e.c3; have O4_ef3 := O4_e.f3; have O4_ec4 := O4_e.c4; have O4_ef4 := O4_e.f4; have O4_ec5 := O4_e.c5; have O4_ef5 := O4_e.f5; have O4_el := O4_e.lt)); (try ((refine useIt (P := KM (w3.heap.size) 0 0 0 0 0 0 w4) ?_ ?_); (repeat (first | with_reducible assumption | (with_reducible exact KM.at _ (by first | with_reducible rfl | (simp; done) | fail)) | with_reducible refine KM.drew ?_ | with_reducible refine KM.alloc ?_ _ | with_reducible refine KM.call ?_ (by with_reducible assumption) | with_reducible refine Km.drew ?_ | with_reducible refine Km.alloc ?_ _ | with_reducible refine Km.call ?_ (by with_reducible assumption) | with_reducible refine Kq.drew ?_ | with_reducible refine Kq.alloc ?_ _ | with_reducible refine Kq.call ?_ (by with_reducible assumption))); intro O4_w3; have O4_w3c0 := O4_w3.c0; have O4_w3f0 := O4_w3.f0; have O4_w3c1 := O4_w3.c1; have O4_w3f1 := O4_w3.f1; have O4_w3c2 := O4_w3.c2; have O4_w3f2 := O4_w3.f2; have O4_w3c3 := O4_w3.c3; have O4_w3f3 := O4_w3.f3; have O4_w3c4 := O4_w3.c4; have O4_w3f4 := O4_w3.f4; have O4_w3c5 := O4_w3.c5; have O4_w3f5 := O4_w3.f5; have O4_w3l := O4_w3.lt)); (try ((refine useIt (P := KM (w5.heap.size) 0 0 0 0 0 0 w4) ?_ ?_); (repeat (first | with_reducible assumption | (with_reducible exact KM.at _ (by first | with_reducible rfl | (simp; done) | fail)) | with_reducible refine KM.drew ?_ | with_reducible refine KM.alloc ?_ _ | with_reducible refine KM.call ?_ (by with_reducible assumption) | with_reducible refine Km.drew ?_ | with_reducible refine Km.alloc ?_ _ | with_reducible refine Km.call ?_ (by with_reducible assumption) | with_reducible refine Kq.drew ?_ | with_reducible refine Kq.alloc ?_ _ | with_reducible refine Kq.call ?_ (by with_reducible assumption))); intro O4_w5; have O4_w5c0 := O4_w5.c0; have O4_w5f0 := O4_w5.f0; have O4_w5c1 := O4_w5.c1; have O4_w5f1 := O4_w5.f1; have O4_w5c2 := O4_w5.c2; have O4_w5f2 := O4_w5.f2; have O4_w5c3 := O4_w5.c3; have O4_w5f3 := O4_w5.f3; have O4_w5c4 := O4_w5.c4; have O4_w5f4 := O4_w5.f4; have O4_w5c5 := O4_w5.c5; have O4_w5f5 := O4_w5.f5; have O4_w5l := O4_w5.lt)); (try ((refine useIt (P := KM (w6.heap.size) 0 0 0 0 0 0 w4) ?_ ?_); (repeat (first | with_reducible assumption | (with_reducible exact KM.at _ (by first | with_reducible rfl | (simp; done) | fail)) | with_reducible refine KM.drew ?_ | with_reducible refine KM.alloc ?_ _ | with_reducible refine KM.call ?_ (by with_reducible assumption) | with_reducible refine Km.drew ?_ | with_reducible refine Km.alloc ?_ _ | with_reducible refine Km.call ?_ (by with_reducible assumption) | with_reducible refine Kq.drew ?_ | with_reducible refine Kq.alloc ?_ _ | with_reducible refine Kq.call ?_ (by with_reducible assumption))); intro O4_w6; have O4_w6c0 := O4_w6.c0; have O4_w6f0 := O4_w6.f0; have O4_w6c1 := O4_w6.c1; have O4_w6f1 := O4_w6.f1; have O4_w6c2 := O4_w6.c2; have O4_w6f2 := O4_w6.f2; have O4_w6c3 := O4_w6.c3; have O4_w6f3 := O4_w6.f3; have O4_w6c4 := O4_w6.c4; have O4_w6f4 := O4_w6.f4; have O4_w6c5 := O4_w6.c5; have O4_w6f5 := O4_w6.f5; have O4_w6l := O4_w6.lt)); have B4 : Below w.heap.size w w4 := (by repeat (first | with_reducible assumption | with_reducible refine Below.drew ?_ | with_reducible refine Below.alloc ?_ (by first | omega | (simp <;> omega)) _ | with_reducible refine bstep ?_ (by with_reducible assumption)))))
          | (go_at_call 32; ((with_reducible refine (afterMo_any _ _ _ _ _ _ _ _ _ _ _ _ _ lu vu lu' vu').mono ?_); rintro e w5 ⟨rfl, hb5⟩; have M5 : Km (w.heap.size) a b c d x y w5 := (by repeat (first | with_reducible assumption | with_reducible refine KM.drew ?_ | with_reducible refine KM.alloc ?_ _ | with_reducible refine KM.call ?_ (by with_reducible assumption) | with_reducible refine Km.drew ?_ | with_reducible refine Km.alloc ?_ _ | with_reducible refine Km.call ?_ (by with_reducible assumption) | with_reducible refine Kq.drew ?_ | with_reducible refine Kq.alloc ?_ _ | with_reducible refine Kq.call ?_ (by with_reducible assumption))); have M5l := M5.1; have N5 : Km (w.heap.size + 1) a' b' c' d' x' y' w5 := (by repeat (first | with_reducible assumption | with_reducible refine KM.drew ?_ | with_reducible refine KM.alloc ?_ _ | with_reducible refine KM.call ?_ (by with_reducible assumption) | with_reducible refine Km.drew ?_ | with_reducible refine Km.alloc ?_ _ | with_reducible refine Km.call ?_ (by with_reducible assumption) | with_reducible refine Kq.drew ?_ | with_reducible refine Kq.alloc ?_ _ | with_reducible refine Kq.call ?_ (by with_reducible assumption))); have N5l := N5.1; have R5 : KM (w.heap.size + 1 + 1) 0 0 0 0 0 0 w5 := (by repeat (first | with_reducible assumption | with_reducible refine KM.drew ?_ | with_reducible refine KM.alloc ?_ _ | with_reducible refine KM.call ?_ (by with_reducible assumption) | with_reducible refine Km.drew ?_ | with_reducible refine Km.alloc ?_ _ | with_reducible refine Km.call ?_ (by with_reducible assumption) | with_reducible refine Kq.drew ?_ | with_reducible refine Kq.alloc ?_ _ | with_reducible refine Kq.call ?_ (by with_reducible assumption))); have R5l := R5.lt; have U5 : Kq (0) 1 0 0 1 w5 := (by repeat (first | with_reducible assumption | with_reducible refine KM.drew ?_ | with_reducible refine KM.alloc ?_ _ | with_reducible refine KM.call ?_ (by with_reducible assumption) | with_reducible refine Km.drew ?_ | with_reducible refine Km.alloc ?_ _ | with_reducible refine Km.call ?_ (by with_reducible assumption) | with_reducible refine Kq.drew ?_ | with_reducible refine Kq.alloc ?_ _ | with_reducible refine Kq.call ?_ (by with_reducible assumption))); have U5l := U5.1; (try ((refine useIt (P := KM (w2.heap.size) 0 0 0 0 0 0 w5) ?_ ?_); (repeat (first | with_reducible assumption | (with_reducible exact KM.at _ (by first | with_reducible rfl | (simp; done) | fail)) | with_reducible refine KM.drew ?_ | with_reducible refine KM.alloc ?_ _ | with_reducible refine KM.call ?_ (by with_reducible assumption) | with_reducible refine Km.drew ?_ | with_reducible refine Km.alloc ?_ _ | with_reducible refine Km.call ?_ (by with_reducible assumption) | with_reducible refine Kq.drew ?_ | with_reducible refine Kq.alloc ?_ _ | with_reducible refine Kq.call ?_ (by with_reducible assumption))); intro O5_e; have O5_ec0 := O5_e.c0; have O5_ef0 := O5_e.f0; have O5_ec1 := O5_e.c1; have O5_ef1 := O5_e.f1; have O5_ec2 := O5_e.c2; have O5_ef2 := O5_e.f2; have O5_ec3 := O5_e.c3; have O5_ef3 := O5_e.f3; have O5_ec4 := O5_e.c4; have O5_ef4 := O5_e.f4; have O5_ec5 := O5_e.c5; have O5_ef5 := O5_e.f5; have O5_el := O5_e.lt)); (try ((refine useIt (P := KM (w3.heap.size) 0 0 0 0 0 0 w5) ?_ ?_); (repeat (first | with_reducible assumption | (with_reducible exact KM.at _ (by first | with_reducible rfl | (simp; done) | fail)) | with_reducible refine KM.drew ?_ | with_reducible refine KM.alloc ?_ _ | with_reducible refine KM.call ?_ (by with_reducible assumption) | with_reducible refine Km.drew ?_ | with_reducible refine Km.alloc ?_ _ | with_reducible refine Km.call ?_ (by with_reducible assumption) | with_reducible refine Kq.drew ?_ | with_reducible refine Kq.alloc ?_ _ | with_reducible refine Kq.call ?_ (by with_reducible assumption))); intro O5_w3; have O5_w3c0 := O5_w3.c0; have O5_w3f0 := O5_w3.f0; have O5_w3c1 := O5_w3.c1; have O5_w3f1 := O5_w3.f1; have O5_w3c2 := O5_w3.c2; have O5_w3f2 := O5_w3.f2; have O5_w3c3 := O5_w3.c3; have O5_w3f3 := O5_w3.f3; have O5_w3c4 := O5_w3.c4; have O5_w3f4 := O5_w3.f4; have O5_w3c5 := O5_w3.c5; have O5_w3f5 := O5_w3.f5; have O5_w3l := O5_w3.lt)); (try ((refine useIt (P := KM (w4.heap.size) 0 0 0 0 0 0 w5) ?_ ?_); (repeat (first | with_reducible assumption | (with_reducible exact KM.at _ (by first | with_reducible rfl | (simp; done) | fail)) | with_reducible refine KM.drew ?_ | with_reducible refine KM.alloc ?_ _ | with_reducible refine KM.call ?_ (by with_reducible assumption) | with_reducible refine Km.drew ?_ | with_reducible refine Km.alloc ?_ _ | with_reducible refine Km.call ?_ (by with_reducible assumption) | with_reducible refine Kq.drew ?_ | with_reducible refine Kq.alloc ?_ _ | with_reducible refine Kq.call ?_ (by with_reducible assumption))); intro O5_w4; have O5_w4c0 := O5_w4.c0; have O5_w4f0 := O5_w4.f0; have O5_w4c1 := O5_w4.c1; have O5_w4f1 := O5_w4.f1; have O5_w4c2 := O5_w4.c2; have O5_w4f2 := O5_w4.f2; have O5_w4c3 := O5_w4.c3; have O5_w4f3 := O5_w4.f3; have O5_w4c4 := O5_w4.c4; have O5_w4f4 := O5_w4.f4; have O5_w4c5 := O5_w4.c5; have O5_w4f5 := O5_w4.f5; have O5_w4l := O5_w4.lt)); (try ((refine useIt (P := KM (w6.heap.size) 0 0 0 0 0 0 w5) ?_ ?_); (repeat (first | with_reducible assumption | (with_reducible exact KM.at _ (by first | with_reducible rfl | (simp; done) | fail)) | with_reducible refine KM.drew ?_ | with_reducible refine KM.alloc ?_ _ | with_reducible refine KM.call ?_ (by with_reducible assumption) | with_reducible refine Km.drew ?_ | with_reducible refine Km.alloc ?_ _ | with_reducible refine Km.call ?_ (by with_reducible assumption) | with_reducible refine Kq.drew ?_ | with_reducible refine Kq.alloc ?_ _ | with_reducible refine Kq.call ?_ (by with_reducible assumption))); intro O5_w6; have O5_w6c0 := O5_w6.c0; have O5_w6f0 := O5_w6.f0; have O5_w6c1 := O5_w6.c1; have O5_w6f1 := O5_w6.f1; have O5_w6c2 := O5_w6.c2; have O5_w6f2 := O5_w6.f2; have O5_w6c3 := O5_w6.c3; have O5_w6f3 := O5_w6.f3; have O5_w6c4 := O5_w6.c4; have O5_w6f4 := O5_w6.f4; have O5_w6c5 := O5_w6.c5; have O5_w6f5 := O5_w6.f5; have O5_w6l := O5_w6.lt)); have B5 : Below w.heap.size w w5 := (by repeat (first | with_reducible assumption | with_reducible refine Below.drew ?_ | with_reducible refine Below.alloc ?_ (by first | omega | (simp <;> omega)) _ | with_reducible refine bstep ?_ (by with_reducible assumption)))))
          | (go_at_call 30; ((with_reducible refine (limMo_yes _ _ _ _ _ _ _ hs).mono ?_); rintro e w6 ⟨rfl, hb6⟩; have M6 : Km (w.heap.size) a b c d x y w6 := (by repeat (first | with_reducible assumption | with_reducible refine KM.drew ?_ | with_reducible refine KM.alloc ?_ _ | with_reducible refine KM.call ?_ (by with_reducible assumption) | with_reducible refine Km.drew ?_ | with_reducible refine Km.alloc ?_ _ | with_reducible refine Km.call ?_ (by with_reducible assumption) | with_reducible refine Kq.drew ?_ | with_reducible refine Kq.alloc ?_ _ | with_reducible refine Kq.call ?_ (by with_reducible assumption))); have M6l := M6.1; have N6 : Km (w.heap.size + 1) a' b' c' d' x' y' w6 := (by repeat (first | with_reducible assumption | with_reducible refine KM.drew ?_ | with_reducible refine KM.alloc ?_ _ | with_reducible refine KM.call ?_ (by with_reducible assumption) | with_reducible refine Km.drew ?_ | with_reducible refine Km.alloc ?_ _ | with_reducible refine Km.call ?_ (by with_reducible assumption) | with_reducible refine Kq.drew ?_ | with_reducible refine Kq.alloc ?_ _ | with_reducible refine Kq.call ?_ (by with_reducible assumption))); have N6l := N6.1; have R6 : KM (w.heap.size + 1 + 1) 0 0 0 0 0 0 w6 := (by repeat (first | with_reducible assumption | with_reducible refine KM.drew ?_ | with_reducible refine KM.alloc ?_ _ | with_reducible refine KM.call ?_ (by with_reducible assumption) | with_reducible refine Km.drew ?_ | with_reducible refine Km.alloc ?_ _ | with_reducible refine Km.call ?_ (by with_reducible assumption) | with_reducible refine Kq.drew ?_ | with_reducible refine Kq.alloc ?_ _ | with_reducible refine Kq.call ?_ (by with_reducible assumption))); have R6l := R6.lt; have U6 : Kq (0) 1 0 0 1 w6 := (by repeat (first | with_reducible assumption | with_reducible refine KM.drew ?_ | with_reducible refine KM.alloc ?_ _ | with_reducible refine KM.call ?_ (by with_reducible assumption) | with_reducible refine Km.drew ?_ | with_reducible refine Km.alloc ?_ _ | with_reducible refine Km.call ?_ (by with_reducible assumption) | with_reducible refine Kq.drew ?_ | with_reducible refine Kq.alloc ?_ _ | with_reducible refine Kq.call ?_ (by with_reducible assumption))); have U6l := U6.1; (try ((refine useIt (P := KM (w2.heap.size) 0 0 0 0 0 0 w6) ?_ ?_); (repeat (first | with_reducible assumption | (with_reducible exact KM.at _ (by first | with_reducible rfl | (simp; done) | fail)) | with_reducible refine KM.drew ?_ | with_reducible refine KM.alloc ?_ _ | with_reducible refine KM.call ?_ (by with_reducible assumption) | with_reducible refine Km.drew ?_ | with_reducible refine Km.alloc ?_ _ | with_reducible refine Km.call ?_ (by with_reducible assumption) | with_reducible refine Kq.drew ?_ | with_reducible refine Kq.alloc ?_ _ | with_reducible refine Kq.call ?_ (by with_reducible assumption))); intro O6_e; have O6_ec0 := O6_e.c0; have O6_ef0 := O6_e.f0; have O6_ec1 := O6_e.c1; have O6_ef1 := O6_e.f1; have O6_ec2 := O6_e.c2; have O6_ef2 := O6_e.f2; have O6_ec3 := O6_e.c3; have O6_ef3 := O6_e.f3; have O6_ec4 := O6_e.c4; have O6_ef4 := O6_e.f4; have O6_ec5 := O6_e.c5; have O6_ef5 := O6_e.f5; have O6_el := O6_e.lt)); (try ((refine useIt (P := KM (w3.heap.size) 0 0 0 0 0 0 w6) ?_ ?_); (repeat (first | with_reducible assumption | (with_reducible exact KM.at _ (by first | with_reducible rfl | (simp; done) | fail)) | with_reducible refine KM.drew ?_ | with_reducible refine KM.alloc ?_ _ | with_reducible refine KM.call ?_ (by with_reducible assumption) | with_reducible refine Km.drew ?_ | with_reducible refine Km.alloc ?_ _ | with_reducible refine Km.call ?_ (by with_reducible assumption) | with_reducible refine Kq.drew ?_ | with_reducible refine Kq.alloc ?_ _ | with_reducible refine Kq.call ?_ (by with_reducible assumption))); intro O6_w3; have O6_w3c0 := O6_w3.c0; have O6_w3f0 := O6_w3.f0; have O6_w3c1 := O6_w3.c1; have O6_w3f1 := O6_w3.f1; have O6_w3c2 := O6_w3.c2; have O6_w3f2 := O6_w3.f2; have O6_w3c3 := O6_w3.c3; have O6_w3f3 := O6_w3.f3; have O6_w3c4 := O6_w3.c4; have O6_w3f4 := O6_w3.f4; have O6_w3c5 := O6_w3.c5; have O6_w3f5 := O6_w3.f5; have O6_w3l := O6_w3.lt)); (try ((refine useIt (P := KM (w4.heap.size) 0 0 0 0 0 0 w6) ?_ ?_); (repeat (first | with_reducible assumption | (with_reducible exact KM.at _ (by first | with_reducible rfl | (simp; done) | fail)) | with_reducible refine KM.drew ?_ | with_reducible refine KM.alloc ?_ _ | with_reducible refine KM.call ?_ (by with_reducible assumption) | with_reducible refine Km.drew ?_ | with_reducible refine Km.alloc ?_ _ | with_reducible refine Km.call ?_ (by with_reducible assumption) | with_reducible refine Kq.drew ?_ | with_reducible refine Kq.alloc ?_ _ | with_reducible refine Kq.call ?_ (by with_reducible assumption))); intro O6_w4; have O6_w4c0 := O6_w4.c0; have O6_w4f0 := O6_w4.f0; have O6_w4c1 := O6_w4.c1; have O6_w4f1 := O6_w4.f1; have O6_w4c2 := O6_w4.c2; have O6_w4f2 := O6_w4.f2; have O6_w4c3 := O6_w4.c3; have O6_w4f3 := O6_w4.f3; have O6_w4c4 := O6_w4.c4; have O6_w4f4 := O6_w4.f4; have O6_w4c5 := O6_w4.c5; have O6_w4f5 := O6_w4.f5; have O6_w4l := O6_w4.lt)); (try ((refine useIt (P := KM (w5.heap.size) 0 0 0 0 0 0 w6) ?_ ?_); (repeat (first | with_reducible assumption | (with_reducible exact KM.at _ (by first | with_reducible rfl | (simp; done) | fail)) | with_reducible refine KM.drew ?_ | with_reducible refine KM.alloc ?_ _ | with_reducible refine KM.call ?_ (by with_reducible assumption) | with_reducible refine Km.drew ?_ | with_reducible refine Km.alloc ?_ _ | with_reducible refine Km.call ?_ (by with_reducible assumption) | with_reducible refine Kq.drew ?_ | with_reducible refine Kq.alloc ?_ _ | with_reducible refine Kq.call ?_ (by with_reducible assumption))); intro O6_w5; have O6_w5c0 := O6_w5.c0; have O6_w5f0 := O6_w5.f0; have O6_w5c1 := O6_w5.c1; have O6_w5f1 := O6_w5.f1; have O6_w5c2 := O6_w5.c2; have O6_w5f2 := O6_w5.f2; have O6_w5c3 := O6_w5.c3; have O6_w5f3 := O6_w5.f3; have O6_w5c4 := O6_w5.c4; have O6_w5f4 := O6_w5.f4; have O6_w5c5 := O6_w5.c5; have O6_w5f5 := O6_w5.f5; have O6_w5l := O6_w5.lt)); have B6 : Below w.heap.size w w6 := (by repeat (first | with_reducible assumption | with_reducible refine Below.drew ?_ | with_reducible refine Below.alloc ?_ (by first | omega | (simp <;> omega)) _ | with_reducible refine bstep ?_ (by with_reducible assumption))))))
      all_goals
        go_wp2_with fail
        go_meet
        exact ⟨_, rfl, rfl, (by first | (with_reducible exact KM.at _ (by first | with_reducible rfl | (simp; done) | fail)) | (with_reducible exact KM.store (by repeat (first | with_reducible assumption | (with_reducible exact KM.at _ (by first | with_reducible rfl | (simp; done) | fail)) | with_reducible refine KM.drew ?_ | with_reducible refine KM.alloc ?_ _ | with_reducible refine KM.call ?_ (by with_reducible assumption) | with_reducible refine Km.drew ?_ | with_reducible refine Km.alloc ?_ _ | with_reducible refine Km.call ?_ (by with_reducible assumption) | with_reducible refine Kq.drew ?_ | with_reducible refine Kq.alloc ?_ _ | with_reducible refine Kq.call ?_ (by with_reducible assumption))) _ _ _ _ _ _) | fail), by repeat (first | with_reducible assumption | with_reducible refine KM.drew ?_ | with_reducible refine KM.alloc ?_ _ | with_reducible refine KM.call ?_ (by with_reducible assumption) | with_reducible refine Km.drew ?_ | with_reducible refine Km.alloc ?_ _ | with_reducible refine Km.call ?_ (by with_reducible assumption) | with_reducible refine Kq.drew ?_ | with_reducible refine Kq.alloc ?_ _ | with_reducible refine Kq.call ?_ (by with_reducible assumption) | ((with_reducible refine KM.put ?_ ?_); (first | omega | (dsimp only; omega))) | ((with_reducible refine Km.put ?_ ?_); (first | omega | (dsimp only; omega))) | ((with_reducible refine Kq.put ?_ ?_); (first | omega | (dsimp only; omega))) | ((with_reducible refine KM.far ?_ ?_); (first | omega | (dsimp only; omega))) | ((with_reducible refine Km.far ?_ ?_); (first | omega | (dsimp only; omega))) | ((with_reducible refine Kq.far ?_ ?_); (first | omega | (dsimp only; omega)))), by repeat (first | with_reducible assumption | with_reducible refine KM.drew ?_ | with_reducible refine KM.alloc ?_ _ | with_reducible refine KM.call ?_ (by with_reducible assumption) | with_reducible refine Km.drew ?_ | with_reducible refine Km.alloc ?_ _ | with_reducible refine Km.call ?_ (by with_reducible assumption) | with_reducible refine Kq.drew ?_ | with_reducible refine Kq.alloc ?_ _ | with_reducible refine Kq.call ?_ (by with_reducible assumption) | ((with_reducible refine KM.put ?_ ?_); (first | omega | (dsimp only; omega))) | ((with_reducible refine Km.put ?_ ?_); (first | omega | (dsimp only; omega))) | ((with_reducible refine Kq.put ?_ ?_); (first | omega | (dsimp only; omega))) | ((with_reducible refine KM.far ?_ ?_); (first | omega | (dsimp only; omega))) | ((with_reducible refine Km.far ?_ ?_); (first | omega | (dsimp only; omega))) | ((with_reducible refine Kq.far ?_ ?_); (first | omega | (dsimp only; omega)))), by repeat (first | with_reducible assumption | with_reducible refine KM.drew ?_ | with_reducible refine KM.alloc ?_ _ | with_reducible refine KM.call ?_ (by with_reducible assumption) | with_reducible refine Km.drew ?_ | with_reducible refine Km.alloc ?_ _ | with_reducible refine Km.call ?_ (by with_reducible assumption) | with_reducible refine Kq.drew ?_ | with_reducible refine Kq.alloc ?_ _ | with_reducible refine Kq.call ?_ (by with_reducible assumption) | ((with_reducible refine KM.put ?_ ?_); (first | omega | (dsimp only; omega))) | ((with_reducible refine Km.put ?_ ?_); (first | omega | (dsimp only; omega))) | ((with_reducible refine Kq.put ?_ ?_); (first | omega | (dsimp only; omega))) | ((with_reducible refine KM.far ?_ ?_); (first | omega | (dsimp only; omega))) | ((with_reducible refine Km.far ?_ ?_); (first | omega | (dsimp only; omega))) | ((with_reducible refine Kq.far ?_ ?_); (first | omega | (dsimp only; omega)))), by repeat (first | with_reducible assumption | with_reducible refine KM.drew ?_ | with_reducible refine KM.alloc ?_ _ | with_reducible refine KM.call ?_ (by with_reducible assumption) | with_reducible refine Km.drew ?_ | with_reducible refine Km.alloc ?_ _ | with_reducible refine Km.call ?_ (by with_reducible assumption) | with_reducible refine Kq.drew ?_ | with_reducible refine Kq.alloc ?_ _ | with_reducible refine Kq.call ?_ (by with_reducible assumption) | ((with_reducible refine KM.put ?_ ?_); (first | omega | (dsimp only; omega))) | ((with_reducible refine Km.put ?_ ?_); (first | omega | (dsimp only; omega))) | ((with_reducible refine Kq.put ?_ ?_); (first | omega | (dsimp only; omega))) | ((with_reducible refine KM.far ?_ ?_); (first | omega | (dsimp only; omega))) | ((with_reducible refine Km.far ?_ ?_); (first | omega | (dsimp only; omega))) | ((with_reducible refine Kq.far ?_ ?_); (first | omega | (dsimp only; omega)))), by first | omega | (simp <;> omega), by repeat (first | with_reducible assumption | with_reducible exact Below.refl _ _ | with_reducible refine Below.setCell ?_ (by first | omega | (simp <;> omega)) _ | with_reducible refine Below.alloc ?_ (by first | omega | (simp <;> omega)) _ | with_reducible refine bstep ?_ (by with_reducible assumption) | with_reducible refine Below.drew ?_)⟩
    case rest =>
      obtain ⟨g0, rfl, rfl, O7, M7, N7, R7, U7, leg0, B7⟩ := hcut
      obtain ⟨w7, hw7⟩ : ∃ z, z = wc := ⟨_, rfl⟩
      subst hw7
      have O7c0 := O7.c0
      have O7c1 := O7.c1
      have O7c2 := O7.c2
      have O7c3 := O7.c3
      have O7c4 := O7.c4
      have O7c5 := O7.c5
      have O7f0 := O7.f0
      have O7f1 := O7.f1
      have O7f2 := O7.f2
      have O7f3 := O7.f3
      have O7f4 := O7.f4
      have O7f5 := O7.f5
      have O7l := O7.lt
      have O7n : ¬ g0 = w7.heap.size := by omega
      have M7c0 := M7.c0
      have M7c1 := M7.c1
      have M7c2 := M7.c2
      have M7c3 := M7.c3
      have M7c4 := M7.c4
      have M7c5 := M7.c5
      have M7l := M7.1
      have M7n : ¬ w.heap.size = w7.heap.size := by omega
      have N7c0 := N7.c0
      have N7c1 := N7.c1
      have N7c2 := N7.c2
      have N7c3 := N7.c3
      have N7c4 := N7.c4
      have N7c5 := N7.c5
      have N7l := N7.1
      have N7n : ¬ w.heap.size + 1 = w7.heap.size := by omega
      have R7c0 := R7.c0
      have R7c1 := R7.c1
      have R7c2 := R7.c2
      have R7c3 := R7.c3
      have R7c4 := R7.c4
      have R7c5 := R7.c5
      have R7f0 := R7.f0
      have R7f1 := R7.f1
      have R7f2 := R7.f2
      have R7f3 := R7.f3
      have R7f4 := R7.f4
      have R7f5 := R7.f5
      have R7l := R7.lt
      have R7n : ¬ w.heap.size + 1 + 1 = w7.heap.size := by omega
      have U7c0 := U7.c0
      have U7c1 := U7.c1
      have U7c2 := U7.c2
      have U7c3 := U7.c3
      have U7l := U7.1
      have U7n : ¬ 0 = w7.heap.size := by omega
      go_wp2_with fail
      refine (implIsMo_any _ _ _ _ _ _ _ U7).mono ?_
      rintro e w8 ⟨rfl, hb8⟩
      have O8 : KM (g0) (a * a' + b * c') (a * b' + b * d') (c * a' + d * c') (c * b' + d * d') (a * x' + b * y' + x) (c * x' + d * y' + y) w8 := KM.call O7 hb8
      have M8 : Km (w.heap.size) a b c d x y w8 := Km.call M7 hb8
      have N8 : Km (w.heap.size + 1) a' b' c' d' x' y' w8 := Km.call N7 hb8
      have R8 : KM (w.heap.size + 1 + 1) 0 0 0 0 0 0 w8 := KM.call R7 hb8
      have U8 : Kq (0) 1 0 0 1 w8 := Kq.call U7 hb8
      have B8 : Below w.heap.size w w8 := bstep B7 hb8
      clear hb8 B7 O7 M7 N7 R7 U7
      have O8c0 := O8.c0
      have O8c1 := O8.c1
      have O8c2 := O8.c2
      have O8c3 := O8.c3
      have O8c4 := O8.c4
      have O8c5 := O8.c5
      have O8f0 := O8.f0
      have O8f1 := O8.f1
      have O8f2 := O8.f2
      have O8f3 := O8.f3
      have O8f4 := O8.f4
      have O8f5 := O8.f5
      have O8l := O8.lt
      have O8n : ¬ g0 = w8.heap.size := by omega
      have M8c0 := M8.c0
      have M8c1 := M8.c1
      have M8c2 := M8.c2
      have M8c3 := M8.c3
      have M8c4 := M8.c4
      have M8c5 := M8.c5
      have M8l := M8.1
      have M8n : ¬ w.heap.size = w8.heap.size := by omega
      have N8c0 := N8.c0
      have N8c1 := N8.c1
      have N8c2 := N8.c2
      have N8c3 := N8.c3
      have N8c4 := N8.c4
      have N8c5 := N8.c5
      have N8l := N8.1
      have N8n : ¬ w.heap.size + 1 = w8.heap.size := by omega
      have R8c0 := R8.c0
      have R8c1 := R8.c1
      have R8c2 := R8.c2
      have R8c3 := R8.c3
      have R8c4 := R8.c4
      have R8c5 := R8.c5
      have R8f0 := R8.f0
      have R8f1 := R8.f1
      have R8f2 := R8.f2
      have R8f3 := R8.f3
      have R8f4 := R8.f4
      have R8f5 := R8.f5
      have R8l := R8.lt
      have R8n : ¬ w.heap.size + 1 + 1 = w8.heap.size := by omega
      have U8c0 := U8.c0
      have U8c1 := U8.c1
      have U8c2 := U8.c2
      have U8c3 := U8.c3
      have U8l := U8.1
      have U8n : ¬ 0 = w8.heap.size := by omega
      go_wp2
      refine bodyPost_ret (v := .tuple #[.agg #[.int .i64 (a * a' + b * c'), .int .i64 (a * b' + b * d'), .int .i64 (c * a' + d * c'), .int .i64 (c * b' + d * d'), .int .i64 (a * x' + b * y' + x), .int .i64 (c * x' + d * y' + y)], .int .i64 0]) (by simp [results, Tryd.results7, go_sem, *]) rfl ⟨ret_val EA.out.symm, ?_⟩
      repeat (first | with_reducible assumption | with_reducible exact Below.refl _ _ | with_reducible refine Below.setCell ?_ (by first | omega | (simp <;> omega)) _ | with_reducible refine Below.alloc ?_ (by first | omega | (simp <;> omega)) _ | with_reducible refine bstep ?_ (by with_reducible assumption) | with_reducible refine Below.drew ?_)

set_option maxRecDepth 100000 in
set_option maxHeartbeats 2000000 in
theorem implInvMo_any (a b c d x y : Int) (w : World) (hU : UnitOK w) :
    Calls Tryd.prog 10 #[.agg #[.int .i64 a, .int .i64 b, .int .i64 c, .int .i64 d, .int .i64 x, .int .i64 y]] w fun e w' => e = .returned (motT (ibkR a b c d x y)) ∧ Below w.heap.size w w' := by
  rcases hm : motB a b c d x y with _ | _
  · have EA := Lib.hid (show motT (ibkR a b c d x y) = .tuple #[.agg #[.int .i64 0, .int .i64 0, .int .i64 0, .int .i64 0, .int .i64 0, .int .i64 0], .int .i64 1] by simp [motT, ibkR, hm])
    have M0 : Km (w.heap.size) a b c d x y ((w.alloc (.cells #[.int .i64 a, .int .i64 b, .int .i64 c, .int .i64 d, .int .i64 x, .int .i64 y] 29)).alloc (.cells #[.int .i64 0, .int .i64 0, .int .i64 0, .int .i64 0, .int .i64 0, .int .i64 0] 29)) := ((Km.at (w.heap.size) rfl).alloc _)
    have R0 : KM (w.heap.size + 1) 0 0 0 0 0 0 ((w.alloc (.cells #[.int .i64 a, .int .i64 b, .int .i64 c, .int .i64 d, .int .i64 x, .int .i64 y] 29)).alloc (.cells #[.int .i64 0, .int .i64 0, .int .i64 0, .int .i64 0, .int .i64 0, .int .i64 0] 29)) := (KM.at (w.heap.size + 1) (by simp))
    have U0 : Kq (0) 1 0 0 1 ((w.alloc (.cells #[.int .i64 a, .int .i64 b, .int .i64 c, .int .i64 d, .int .i64 x, .int .i64 y] 29)).alloc (.cells #[.int .i64 0, .int .i64 0, .int .i64 0, .int .i64 0, .int .i64 0, .int .i64 0] 29)) := ((hU.alloc _).alloc _)
    have B0 : Below w.heap.size w ((w.alloc (.cells #[.int .i64 a, .int .i64 b, .int .i64 c, .int .i64 d, .int .i64 x, .int .i64 y] 29)).alloc (.cells #[.int .i64 0, .int .i64 0, .int .i64 0, .int .i64 0, .int .i64 0, .int .i64 0] 29)) := (Below.alloc (Below.alloc (Below.refl _ _) (by first | with_reducible exact Nat.le_refl _ | (simp <;> omega)) _) (by first | with_reducible exact Nat.le_refl _ | (simp <;> omega)) _)
    go_enter Tryd.func10, Tryd.ntmps10
    have M0c0 := M0.c0
    have M0c1 := M0.c1
    have M0c2 := M0.c2
    have M0c3 := M0.c3
    have M0c4 := M0.c4
    have M0c5 := M0.c5
    have M0l := M0.1
    have R0c0 := R0.c0
    have R0c1 := R0.c1
    have R0c2 := R0.c2
    have R0c3 := R0.c3
    have R0c4 := R0.c4
    have R0c5 := R0.c5
    have R0f0 := R0.f0
    have R0f1 := R0.f1
    have R0f2 := R0.f2
    have R0f3 := R0.f3
    have R0f4 := R0.f4
    have R0f5 := R0.f5
    have R0l := R0.lt
    have U0c0 := U0.c0
    have U0c1 := U0.c1
    have U0c2 := U0.c2
    have U0c3 := U0.c3
    have U0l := U0.1
    go_wp2_with fail
    refine (implIsMo_any _ _ _ _ _ _ _ U0).mono ?_
    rintro e w1 ⟨rfl, hb1⟩
    have M1 : Km (w.heap.size) a b c d x y w1 := Km.call M0 hb1
    have R1 : KM (w.heap.size + 1) 0 0 0 0 0 0 w1 := KM.call R0 hb1
    have U1 : Kq (0) 1 0 0 1 w1 := Kq.call U0 hb1
    have B1 : Below w.heap.size w w1 := bstep B0 hb1
    clear hb1 B0 M0 R0 U0
    have M1c0 := M1.c0
    have M1c1 := M1.c1
    have M1c2 := M1.c2
    have M1c3 := M1.c3
    have M1c4 := M1.c4
    have M1c5 := M1.c5
    have M1l := M1.1
    have M1n : ¬ w.heap.size = w1.heap.size := by omega
    have R1c0 := R1.c0
    have R1c1 := R1.c1
    have R1c2 := R1.c2
    have R1c3 := R1.c3
    have R1c4 := R1.c4
    have R1c5 := R1.c5
    have R1f0 := R1.f0
    have R1f1 := R1.f1
    have R1f2 := R1.f2
    have R1f3 := R1.f3
    have R1f4 := R1.f4
    have R1f5 := R1.f5
    have R1l := R1.lt
    have R1n : ¬ w.heap.size + 1 = w1.heap.size := by omega
    have U1c0 := U1.c0
    have U1c1 := U1.c1
    have U1c2 := U1.c2
    have U1c3 := U1.c3
    have U1l := U1.1
    have U1n : ¬ 0 = w1.heap.size := by omega
    go_wp2
    refine bodyPost_ret (v := .tuple #[.agg #[.int .i64 0, .int .i64 0, .int .i64 0, .int .i64 0, .int .i64 0, .int .i64 0], .int .i64 1]) (by simp [results, Tryd.results10, go_sem, *]) rfl ⟨ret_val EA.out.symm, ?_⟩
    repeat (first | with_reducible assumption | with_reducible exact Below.refl _ _ | with_reducible refine Below.setCell ?_ (by first | omega | (simp <;> omega)) _ | with_reducible refine Below.alloc ?_ (by first | omega | (simp <;> omega)) _ | with_reducible refine bstep ?_ (by with_reducible assumption) | with_reducible refine Below.drew ?_)
  rcases hb : (vecB (bkX a b c d x y) (bkY a b c d x y)) with _ | _
  · have EA := Lib.hid (show motT (ibkR a b c d x y) = .tuple #[.agg #[.int .i64 0, .int .i64 0, .int .i64 0, .int .i64 0, .int .i64 0, .int .i64 0], .int .i64 3] by simp [motT, ibkR, hm, hb])
    have hs : (vecB (bkX a b c d x y) (bkY a b c d x y) && limB (d * (a * d - b * c)) (-b * (a * d - b * c)) (-c * (a * d - b * c)) (a * (a * d - b * c))) = false := by rw [inv_lim (motB_mat hm), hb]; rfl
    have M0 : Km (w.heap.size) a b c d x y ((w.alloc (.cells #[.int .i64 a, .int .i64 b, .int .i64 c, .int .i64 d, .int .i64 x, .int .i64 y] 29)).alloc (.cells #[.int .i64 0, .int .i64 0, .int .i64 0, .int .i64 0, .int .i64 0, .int .i64 0] 29)) := ((Km.at (w.heap.size) rfl).alloc _)
    have R0 : KM (w.heap.size + 1) 0 0 0 0 0 0 ((w.alloc (.cells #[.int .i64 a, .int .i64 b, .int .i64 c, .int .i64 d, .int .i64 x, .int .i64 y] 29)).alloc (.cells #[.int .i64 0, .int .i64 0, .int .i64 0, .int .i64 0, .int .i64 0, .int .i64 0] 29)) := (KM.at (w.heap.size + 1) (by simp))
    have U0 : Kq (0) 1 0 0 1 ((w.alloc (.cells #[.int .i64 a, .int .i64 b, .int .i64 c, .int .i64 d, .int .i64 x, .int .i64 y] 29)).alloc (.cells #[.int .i64 0, .int .i64 0, .int .i64 0, .int .i64 0, .int .i64 0, .int .i64 0] 29)) := ((hU.alloc _).alloc _)
    have B0 : Below w.heap.size w ((w.alloc (.cells #[.int .i64 a, .int .i64 b, .int .i64 c, .int .i64 d, .int .i64 x, .int .i64 y] 29)).alloc (.cells #[.int .i64 0, .int .i64 0, .int .i64 0, .int .i64 0, .int .i64 0, .int .i64 0] 29)) := (Below.alloc (Below.alloc (Below.refl _ _) (by first | with_reducible exact Nat.le_refl _ | (simp <;> omega)) _) (by first | with_reducible exact Nat.le_refl _ | (simp <;> omega)) _)
    go_enter Tryd.func10, Tryd.ntmps10
    have M0c0 := M0.c0
    have M0c1 := M0.c1
    have M0c2 := M0.c2
    have M0c3 := M0.c3
    have M0c4 := M0.c4
    have M0c5 := M0.c5
    have M0l := M0.1
    have R0c0 := R0.c0
    have R0c1 := R0.c1
    have R0c2 := R0.c2
    have R0c3 := R0.c3
    have R0c4 := R0.c4
    have R0c5 := R0.c5
    have R0f0 := R0.f0
    have R0f1 := R0.f1
    have R0f2 := R0.f2
    have R0f3 := R0.f3
    have R0f4 := R0.f4
    have R0f5 := R0.f5
    have R0l := R0.lt
    have U0c0 := U0.c0
    have U0c1 := U0.c1
    have U0c2 := U0.c2
    have U0c3 := U0.c3
    have U0l := U0.1
    go_wp2_with fail
    refine (implIsMo_any _ _ _ _ _ _ _ U0).mono ?_
    rintro e w1 ⟨rfl, hb1⟩
    have M1 : Km (w.heap.size) a b c d x y w1 := Km.call M0 hb1
    have R1 : KM (w.heap.size + 1) 0 0 0 0 0 0 w1 := KM.call R0 hb1
    have U1 : Kq (0) 1 0 0 1 w1 := Kq.call U0 hb1
    have B1 : Below w.heap.size w w1 := bstep B0 hb1
    clear hb1 B0 M0 R0 U0
    have M1c0 := M1.c0
    have M1c1 := M1.c1
    have M1c2 := M1.c2
    have M1c3 := M1.c3
    have M1c4 := M1.c4
    have M1c5 := M1.c5
    have M1l := M1.1
    have M1n : ¬ w.heap.size = w1.heap.size := by omega
    have R1c0 := R1.c0
    have R1c1 := R1.c1
    have R1c2 := R1.c2
    have R1c3 := R1.c3
    have R1c4 := R1.c4
    have R1c5 := R1.c5
    have R1f0 := R1.f0
    have R1f1 := R1.f1
    have R1f2 := R1.f2
    have R1f3 := R1.f3
    have R1f4 := R1.f4
    have R1f5 := R1.f5
    have R1l := R1.lt
    have R1n : ¬ w.heap.size + 1 = w1.heap.size := by omega
    have U1c0 := U1.c0
    have U1c1 := U1.c1
    have U1c2 := U1.c2
    have U1c3 := U1.c3
    have U1l := U1.1
    have U1n : ¬ 0 = w1.heap.size := by omega
    go_wp2_with fail
    refine (motionOf_any _ _ _ _ _ _ _).mono ?_
    rintro e w2 ⟨rfl, hb2⟩
    have M2 : Km (w.heap.size) a b c d x y w2 := Km.call M1 hb2
    have R2 : KM (w.heap.size + 1) 0 0 0 0 0 0 w2 := KM.call R1 hb2
    have U2 : Kq (0) 1 0 0 1 w2 := Kq.call U1 hb2
    have B2 : Below w.heap.size w w2 := bstep B1 hb2
    clear hb2 B1 M1 R1 U1
    have M2c0 := M2.c0
    have M2c1 := M2.c1
    have M2c2 := M2.c2
    have M2c3 := M2.c3
    have M2c4 := M2.c4
    have M2c5 := M2.c5
    have M2l := M2.1
    have M2n : ¬ w.heap.size = w2.heap.size := by omega
    have R2c0 := R2.c0
    have R2c1 := R2.c1
    have R2c2 := R2.c2
    have R2c3 := R2.c3
    have R2c4 := R2.c4
    have R2c5 := R2.c5
    have R2f0 := R2.f0
    have R2f1 := R2.f1
    have R2f2 := R2.f2
    have R2f3 := R2.f3
    have R2f4 := R2.f4
    have R2f5 := R2.f5
    have R2l := R2.lt
    have R2n : ¬ w.heap.size + 1 = w2.heap.size := by omega
    have U2c0 := U2.c0
    have U2c1 := U2.c1
    have U2c2 := U2.c2
    have U2c3 := U2.c3
    have U2l := U2.1
    have U2n : ¬ 0 = w2.heap.size := by omega
    go_wp2_with fail
    refine (inverseMo_any _ _ _ _ _ _ _ (motB_mat hm) (motB_vec hm)).mono ?_
    rintro e w3 ⟨rfl, hb3⟩
    have M3 : Km (w.heap.size) a b c d x y w3 := Km.call M2 hb3
    have R3 : KM (w.heap.size + 1) 0 0 0 0 0 0 w3 := KM.call R2 hb3
    have U3 : Kq (0) 1 0 0 1 w3 := Kq.call U2 hb3
    have B3 : Below w.heap.size w w3 := bstep B2 hb3
    clear hb3 B2 M2 R2 U2
    have M3c0 := M3.c0
    have M3c1 := M3.c1
    have M3c2 := M3.c2
    have M3c3 := M3.c3
    have M3c4 := M3.c4
    have M3c5 := M3.c5
    have M3l := M3.1
    have M3n : ¬ w.heap.size = w3.heap.size := by omega
    have R3c0 := R3.c0
    have R3c1 := R3.c1
    have R3c2 := R3.c2
    have R3c3 := R3.c3
    have R3c4 := R3.c4
    have R3c5 := R3.c5
    have R3f0 := R3.f0
    have R3f1 := R3.f1
    have R3f2 := R3.f2
    have R3f3 := R3.f3
    have R3f4 := R3.f4
    have R3f5 := R3.f5
    have R3l := R3.lt
    have R3n : ¬ w.heap.size + 1 = w3.heap.size := by omega
    have U3c0 := U3.c0
    have U3c1 := U3.c1
    have U3c2 := U3.c2
    have U3c3 := U3.c3
    have U3l := U3.1
    have U3n : ¬ 0 = w3.heap.size := by omega
    go_wp2_with fail
    refine (limMo_no _ _ _ _ _ _ _ hs).mono ?_
    rintro e w4 ⟨rfl, hb4⟩
    have M4 : Km (w.heap.size) a b c d x y w4 := Km.call M3 hb4
    have R4 : KM (w.heap.size + 1) 0 0 0 0 0 0 w4 := KM.call R3 hb4
    have U4 : Kq (0) 1 0 0 1 w4 := Kq.call U3 hb4
    have B4 : Below w.heap.size w w4 := bstep B3 hb4
    clear hb4 B3 M3 R3 U3
    have M4c0 := M4.c0
    have M4c1 := M4.c1
    have M4c2 := M4.c2
    have M4c3 := M4.c3
    have M4c4 := M4.c4
    have M4c5 := M4.c5
    have M4l := M4.1
    have M4n : ¬ w.heap.size = w4.heap.size := by omega
    have R4c0 := R4.c0
    have R4c1 := R4.c1
    have R4c2 := R4.c2
    have R4c3 := R4.c3
    have R4c4 := R4.c4
    have R4c5 := R4.c5
    have R4f0 := R4.f0
    have R4f1 := R4.f1
    have R4f2 := R4.f2
    have R4f3 := R4.f3
    have R4f4 := R4.f4
    have R4f5 := R4.f5
    have R4l := R4.lt
    have R4n : ¬ w.heap.size + 1 = w4.heap.size := by omega
    have U4c0 := U4.c0
    have U4c1 := U4.c1
    have U4c2 := U4.c2
    have U4c3 := U4.c3
    have U4l := U4.1
    have U4n : ¬ 0 = w4.heap.size := by omega
    go_wp2
    refine bodyPost_ret (v := .tuple #[.agg #[.int .i64 0, .int .i64 0, .int .i64 0, .int .i64 0, .int .i64 0, .int .i64 0], .int .i64 3]) (by simp [results, Tryd.results10, go_sem, *]) rfl ⟨ret_val EA.out.symm, ?_⟩
    repeat (first | with_reducible assumption | with_reducible exact Below.refl _ _ | with_reducible refine Below.setCell ?_ (by first | omega | (simp <;> omega)) _ | with_reducible refine Below.alloc ?_ (by first | omega | (simp <;> omega)) _ | with_reducible refine bstep ?_ (by with_reducible assumption) | with_reducible refine Below.drew ?_)
  · have EA := Lib.hid (show motT (ibkR a b c d x y) = .tuple #[.agg #[.int .i64 (d * (a * d - b * c)), .int .i64 (-b * (a * d - b * c)), .int .i64 (-c * (a * d - b * c)), .int .i64 (a * (a * d - b * c)), .int .i64 (bkX a b c d x y), .int .i64 (bkY a b c d x y)], .int .i64 0] by simp [motT, ibkR, hm, hb])
    have hs : (vecB (bkX a b c d x y) (bkY a b c d x y) && limB (d * (a * d - b * c)) (-b * (a * d - b * c)) (-c * (a * d - b * c)) (a * (a * d - b * c))) = true := by rw [inv_lim (motB_mat hm), hb]; rfl
    have M0 : Km (w.heap.size) a b c d x y ((w.alloc (.cells #[.int .i64 a, .int .i64 b, .int .i64 c, .int .i64 d, .int .i64 x, .int .i64 y] 29)).alloc (.cells #[.int .i64 0, .int .i64 0, .int .i64 0, .int .i64 0, .int .i64 0, .int .i64 0] 29)) := ((Km.at (w.heap.size) rfl).alloc _)
    have R0 : KM (w.heap.size + 1) 0 0 0 0 0 0 ((w.alloc (.cells #[.int .i64 a, .int .i64 b, .int .i64 c, .int .i64 d, .int .i64 x, .int .i64 y] 29)).alloc (.cells #[.int .i64 0, .int .i64 0, .int .i64 0, .int .i64 0, .int .i64 0, .int .i64 0] 29)) := (KM.at (w.heap.size + 1) (by simp))
    have U0 : Kq (0) 1 0 0 1 ((w.alloc (.cells #[.int .i64 a, .int .i64 b, .int .i64 c, .int .i64 d, .int .i64 x, .int .i64 y] 29)).alloc (.cells #[.int .i64 0, .int .i64 0, .int .i64 0, .int .i64 0, .int .i64 0, .int .i64 0] 29)) := ((hU.alloc _).alloc _)
    have B0 : Below w.heap.size w ((w.alloc (.cells #[.int .i64 a, .int .i64 b, .int .i64 c, .int .i64 d, .int .i64 x, .int .i64 y] 29)).alloc (.cells #[.int .i64 0, .int .i64 0, .int .i64 0, .int .i64 0, .int .i64 0, .int .i64 0] 29)) := (Below.alloc (Below.alloc (Below.refl _ _) (by first | with_reducible exact Nat.le_refl _ | (simp <;> omega)) _) (by first | with_reducible exact Nat.le_refl _ | (simp <;> omega)) _)
    go_enter Tryd.func10, Tryd.ntmps10
    have M0c0 := M0.c0
    have M0c1 := M0.c1
    have M0c2 := M0.c2
    have M0c3 := M0.c3
    have M0c4 := M0.c4
    have M0c5 := M0.c5
    have M0l := M0.1
    have R0c0 := R0.c0
    have R0c1 := R0.c1
    have R0c2 := R0.c2
    have R0c3 := R0.c3
    have R0c4 := R0.c4
    have R0c5 := R0.c5
    have R0f0 := R0.f0
    have R0f1 := R0.f1
    have R0f2 := R0.f2
    have R0f3 := R0.f3
    have R0f4 := R0.f4
    have R0f5 := R0.f5
    have R0l := R0.lt
    have U0c0 := U0.c0
    have U0c1 := U0.c1
    have U0c2 := U0.c2
    have U0c3 := U0.c3
    have U0l := U0.1
    go_wp2_with fail
    refine (implIsMo_any _ _ _ _ _ _ _ U0).mono ?_
    rintro e w1 ⟨rfl, hb1⟩
    have M1 : Km (w.heap.size) a b c d x y w1 := Km.call M0 hb1
    have R1 : KM (w.heap.size + 1) 0 0 0 0 0 0 w1 := KM.call R0 hb1
    have U1 : Kq (0) 1 0 0 1 w1 := Kq.call U0 hb1
    have B1 : Below w.heap.size w w1 := bstep B0 hb1
    clear hb1 B0 M0 R0 U0
    have M1c0 := M1.c0
    have M1c1 := M1.c1
    have M1c2 := M1.c2
    have M1c3 := M1.c3
    have M1c4 := M1.c4
    have M1c5 := M1.c5
    have M1l := M1.1
    have M1n : ¬ w.heap.size = w1.heap.size := by omega
    have R1c0 := R1.c0
    have R1c1 := R1.c1
    have R1c2 := R1.c2
    have R1c3 := R1.c3
    have R1c4 := R1.c4
    have R1c5 := R1.c5
    have R1f0 := R1.f0
    have R1f1 := R1.f1
    have R1f2 := R1.f2
    have R1f3 := R1.f3
    have R1f4 := R1.f4
    have R1f5 := R1.f5
    have R1l := R1.lt
    have R1n : ¬ w.heap.size + 1 = w1.heap.size := by omega
    have U1c0 := U1.c0
    have U1c1 := U1.c1
    have U1c2 := U1.c2
    have U1c3 := U1.c3
    have U1l := U1.1
    have U1n : ¬ 0 = w1.heap.size := by omega
    go_wp2_with fail
    refine (motionOf_any _ _ _ _ _ _ _).mono ?_
    rintro e w2 ⟨rfl, hb2⟩
    have M2 : Km (w.heap.size) a b c d x y w2 := Km.call M1 hb2
    have R2 : KM (w.heap.size + 1) 0 0 0 0 0 0 w2 := KM.call R1 hb2
    have U2 : Kq (0) 1 0 0 1 w2 := Kq.call U1 hb2
    have B2 : Below w.heap.size w w2 := bstep B1 hb2
    clear hb2 B1 M1 R1 U1
    have M2c0 := M2.c0
    have M2c1 := M2.c1
    have M2c2 := M2.c2
    have M2c3 := M2.c3
    have M2c4 := M2.c4
    have M2c5 := M2.c5
    have M2l := M2.1
    have M2n : ¬ w.heap.size = w2.heap.size := by omega
    have R2c0 := R2.c0
    have R2c1 := R2.c1
    have R2c2 := R2.c2
    have R2c3 := R2.c3
    have R2c4 := R2.c4
    have R2c5 := R2.c5
    have R2f0 := R2.f0
    have R2f1 := R2.f1
    have R2f2 := R2.f2
    have R2f3 := R2.f3
    have R2f4 := R2.f4
    have R2f5 := R2.f5
    have R2l := R2.lt
    have R2n : ¬ w.heap.size + 1 = w2.heap.size := by omega
    have U2c0 := U2.c0
    have U2c1 := U2.c1
    have U2c2 := U2.c2
    have U2c3 := U2.c3
    have U2l := U2.1
    have U2n : ¬ 0 = w2.heap.size := by omega
    go_wp2_with fail
    refine (inverseMo_any _ _ _ _ _ _ _ (motB_mat hm) (motB_vec hm)).mono ?_
    rintro e w3 ⟨rfl, hb3⟩
    have M3 : Km (w.heap.size) a b c d x y w3 := Km.call M2 hb3
    have R3 : KM (w.heap.size + 1) 0 0 0 0 0 0 w3 := KM.call R2 hb3
    have U3 : Kq (0) 1 0 0 1 w3 := Kq.call U2 hb3
    have B3 : Below w.heap.size w w3 := bstep B2 hb3
    clear hb3 B2 M2 R2 U2
    have M3c0 := M3.c0
    have M3c1 := M3.c1
    have M3c2 := M3.c2
    have M3c3 := M3.c3
    have M3c4 := M3.c4
    have M3c5 := M3.c5
    have M3l := M3.1
    have M3n : ¬ w.heap.size = w3.heap.size := by omega
    have R3c0 := R3.c0
    have R3c1 := R3.c1
    have R3c2 := R3.c2
    have R3c3 := R3.c3
    have R3c4 := R3.c4
    have R3c5 := R3.c5
    have R3f0 := R3.f0
    have R3f1 := R3.f1
    have R3f2 := R3.f2
    have R3f3 := R3.f3
    have R3f4 := R3.f4
    have R3f5 := R3.f5
    have R3l := R3.lt
    have R3n : ¬ w.heap.size + 1 = w3.heap.size := by omega
    have U3c0 := U3.c0
    have U3c1 := U3.c1
    have U3c2 := U3.c2
    have U3c3 := U3.c3
    have U3l := U3.1
    have U3n : ¬ 0 = w3.heap.size := by omega
    go_wp2_with fail
    refine (limMo_yes _ _ _ _ _ _ _ hs).mono ?_
    rintro e w4 ⟨rfl, hb4⟩
    have M4 : Km (w.heap.size) a b c d x y w4 := Km.call M3 hb4
    have R4 : KM (w.heap.size + 1) 0 0 0 0 0 0 w4 := KM.call R3 hb4
    have U4 : Kq (0) 1 0 0 1 w4 := Kq.call U3 hb4
    have B4 : Below w.heap.size w w4 := bstep B3 hb4
    clear hb4 B3 M3 R3 U3
    have M4c0 := M4.c0
    have M4c1 := M4.c1
    have M4c2 := M4.c2
    have M4c3 := M4.c3
    have M4c4 := M4.c4
    have M4c5 := M4.c5
    have M4l := M4.1
    have M4n : ¬ w.heap.size = w4.heap.size := by omega
    have R4c0 := R4.c0
    have R4c1 := R4.c1
    have R4c2 := R4.c2
    have R4c3 := R4.c3
    have R4c4 := R4.c4
    have R4c5 := R4.c5
    have R4f0 := R4.f0
    have R4f1 := R4.f1
    have R4f2 := R4.f2
    have R4f3 := R4.f3
    have R4f4 := R4.f4
    have R4f5 := R4.f5
    have R4l := R4.lt
    have R4n : ¬ w.heap.size + 1 = w4.heap.size := by omega
    have U4c0 := U4.c0
    have U4c1 := U4.c1
    have U4c2 := U4.c2
    have U4c3 := U4.c3
    have U4l := U4.1
    have U4n : ¬ 0 = w4.heap.size := by omega
    go_wp2
    refine bodyPost_ret (v := .tuple #[.agg #[.int .i64 (d * (a * d - b * c)), .int .i64 (-b * (a * d - b * c)), .int .i64 (-c * (a * d - b * c)), .int .i64 (a * (a * d - b * c)), .int .i64 (bkX a b c d x y), .int .i64 (bkY a b c d x y)], .int .i64 0]) (by simp [results, Tryd.results10, go_sem, *]) rfl ⟨ret_val EA.out.symm, ?_⟩
    repeat (first | with_reducible assumption | with_reducible exact Below.refl _ _ | with_reducible refine Below.setCell ?_ (by first | omega | (simp <;> omega)) _ | with_reducible refine Below.alloc ?_ (by first | omega | (simp <;> omega)) _ | with_reducible refine bstep ?_ (by with_reducible assumption) | with_reducible refine Below.drew ?_)

set_option maxRecDepth 100000 in
set_option maxHeartbeats 2000000 in
theorem implApmo_any (a b c d x y p q : Int) (w : World) (hU : UnitOK w) :
    Calls Tryd.prog 13 #[.agg #[.int .i64 a, .int .i64 b, .int .i64 c, .int .i64 d, .int .i64 x, .int .i64 y], .agg #[.int .i64 p, .int .i64 q]] w fun e w' => e = .returned (vecT (apmR a b c d x y p q)) ∧ Below w.heap.size w w' := by
  rcases hm : motB a b c d x y with _ | _
  · have EA := Lib.hid (show vecT (apmR a b c d x y p q) = .tuple #[.agg #[.int .i64 0, .int .i64 0], .int .i64 1] by simp [vecT, apmR, hm])
    have M0 : Km (w.heap.size) a b c d x y (((w.alloc (.cells #[.int .i64 a, .int .i64 b, .int .i64 c, .int .i64 d, .int .i64 x, .int .i64 y] 29)).alloc (.cells #[.int .i64 p, .int .i64 q] 27)).alloc (.cells #[.int .i64 0, .int .i64 0] 27)) := (((Km.at (w.heap.size) rfl).alloc _).alloc _)
    have N0 : Kg (w.heap.size + 1) p q (((w.alloc (.cells #[.int .i64 a, .int .i64 b, .int .i64 c, .int .i64 d, .int .i64 x, .int .i64 y] 29)).alloc (.cells #[.int .i64 p, .int .i64 q] 27)).alloc (.cells #[.int .i64 0, .int .i64 0] 27)) := ((Kg.at2 (w.heap.size + 1) (by simp)).alloc _)
    have R0 : KV (w.heap.size + 1 + 1) 0 0 (((w.alloc (.cells #[.int .i64 a, .int .i64 b, .int .i64 c, .int .i64 d, .int .i64 x, .int .i64 y] 29)).alloc (.cells #[.int .i64 p, .int .i64 q] 27)).alloc (.cells #[.int .i64 0, .int .i64 0] 27)) := (KV.at (w.heap.size + 1 + 1) (by simp))
    have U0 : Kq (0) 1 0 0 1 (((w.alloc (.cells #[.int .i64 a, .int .i64 b, .int .i64 c, .int .i64 d, .int .i64 x, .int .i64 y] 29)).alloc (.cells #[.int .i64 p, .int .i64 q] 27)).alloc (.cells #[.int .i64 0, .int .i64 0] 27)) := (((hU.alloc _).alloc _).alloc _)
    have B0 : Below w.heap.size w (((w.alloc (.cells #[.int .i64 a, .int .i64 b, .int .i64 c, .int .i64 d, .int .i64 x, .int .i64 y] 29)).alloc (.cells #[.int .i64 p, .int .i64 q] 27)).alloc (.cells #[.int .i64 0, .int .i64 0] 27)) := (Below.alloc (Below.alloc (Below.alloc (Below.refl _ _) (by first | with_reducible exact Nat.le_refl _ | (simp <;> omega)) _) (by first | with_reducible exact Nat.le_refl _ | (simp <;> omega)) _) (by first | with_reducible exact Nat.le_refl _ | (simp <;> omega)) _)
    go_enter Tryd.func13, Tryd.ntmps13
    have M0c0 := M0.c0
    have M0c1 := M0.c1
    have M0c2 := M0.c2
    have M0c3 := M0.c3
    have M0c4 := M0.c4
    have M0c5 := M0.c5
    have M0l := M0.1
    have N0c0 := N0.c0
    have N0c1 := N0.c1
    have N0l := N0.1
    have R0c0 := R0.c0
    have R0c1 := R0.c1
    have R0f0 := R0.f0
    have R0f1 := R0.f1
    have R0l := R0.lt
    have U0c0 := U0.c0
    have U0c1 := U0.c1
    have U0c2 := U0.c2
    have U0c3 := U0.c3
    have U0l := U0.1
    go_wp2_with fail
    refine (implIsMo_any _ _ _ _ _ _ _ U0).mono ?_
    rintro e w1 ⟨rfl, hb1⟩
    have M1 : Km (w.heap.size) a b c d x y w1 := Km.call M0 hb1
    have N1 : Kg (w.heap.size + 1) p q w1 := Kg.call N0 hb1
    have R1 : KV (w.heap.size + 1 + 1) 0 0 w1 := KV.call R0 hb1
    have U1 : Kq (0) 1 0 0 1 w1 := Kq.call U0 hb1
    have B1 : Below w.heap.size w w1 := bstep B0 hb1
    clear hb1 B0 M0 N0 R0 U0
    have M1c0 := M1.c0
    have M1c1 := M1.c1
    have M1c2 := M1.c2
    have M1c3 := M1.c3
    have M1c4 := M1.c4
    have M1c5 := M1.c5
    have M1l := M1.1
    have M1n : ¬ w.heap.size = w1.heap.size := by omega
    have N1c0 := N1.c0
    have N1c1 := N1.c1
    have N1l := N1.1
    have N1n : ¬ w.heap.size + 1 = w1.heap.size := by omega
    have R1c0 := R1.c0
    have R1c1 := R1.c1
    have R1f0 := R1.f0
    have R1f1 := R1.f1
    have R1l := R1.lt
    have R1n : ¬ w.heap.size + 1 + 1 = w1.heap.size := by omega
    have U1c0 := U1.c0
    have U1c1 := U1.c1
    have U1c2 := U1.c2
    have U1c3 := U1.c3
    have U1l := U1.1
    have U1n : ¬ 0 = w1.heap.size := by omega
    go_wp2
    refine bodyPost_ret (v := .tuple #[.agg #[.int .i64 0, .int .i64 0], .int .i64 1]) (by simp [results, Tryd.results13, go_sem, *]) rfl ⟨ret_val EA.out.symm, ?_⟩
    repeat (first | with_reducible assumption | with_reducible exact Below.refl _ _ | with_reducible refine Below.setCell ?_ (by first | omega | (simp <;> omega)) _ | with_reducible refine Below.alloc ?_ (by first | omega | (simp <;> omega)) _ | with_reducible refine bstep ?_ (by with_reducible assumption) | with_reducible refine Below.drew ?_)
  rcases hp : vecB p q with _ | _
  · have EA := Lib.hid (show vecT (apmR a b c d x y p q) = .tuple #[.agg #[.int .i64 0, .int .i64 0], .int .i64 1] by simp [vecT, apmR, hm, hp])
    have M0 : Km (w.heap.size) a b c d x y (((w.alloc (.cells #[.int .i64 a, .int .i64 b, .int .i64 c, .int .i64 d, .int .i64 x, .int .i64 y] 29)).alloc (.cells #[.int .i64 p, .int .i64 q] 27)).alloc (.cells #[.int .i64 0, .int .i64 0] 27)) := (((Km.at (w.heap.size) rfl).alloc _).alloc _)
    have N0 : Kg (w.heap.size + 1) p q (((w.alloc (.cells #[.int .i64 a, .int .i64 b, .int .i64 c, .int .i64 d, .int .i64 x, .int .i64 y] 29)).alloc (.cells #[.int .i64 p, .int .i64 q] 27)).alloc (.cells #[.int .i64 0, .int .i64 0] 27)) := ((Kg.at2 (w.heap.size + 1) (by simp)).alloc _)
    have R0 : KV (w.heap.size + 1 + 1) 0 0 (((w.alloc (.cells #[.int .i64 a, .int .i64 b, .int .i64 c, .int .i64 d, .int .i64 x, .int .i64 y] 29)).alloc (.cells #[.int .i64 p, .int .i64 q] 27)).alloc (.cells #[.int .i64 0, .int .i64 0] 27)) := (KV.at (w.heap.size + 1 + 1) (by simp))
    have U0 : Kq (0) 1 0 0 1 (((w.alloc (.cells #[.int .i64 a, .int .i64 b, .int .i64 c, .int .i64 d, .int .i64 x, .int .i64 y] 29)).alloc (.cells #[.int .i64 p, .int .i64 q] 27)).alloc (.cells #[.int .i64 0, .int .i64 0] 27)) := (((hU.alloc _).alloc _).alloc _)
    have B0 : Below w.heap.size w (((w.alloc (.cells #[.int .i64 a, .int .i64 b, .int .i64 c, .int .i64 d, .int .i64 x, .int .i64 y] 29)).alloc (.cells #[.int .i64 p, .int .i64 q] 27)).alloc (.cells #[.int .i64 0, .int .i64 0] 27)) := (Below.alloc (Below.alloc (Below.alloc (Below.refl _ _) (by first | with_reducible exact Nat.le_refl _ | (simp <;> omega)) _) (by first | with_reducible exact Nat.le_refl _ | (simp <;> omega)) _) (by first | with_reducible exact Nat.le_refl _ | (simp <;> omega)) _)
    go_enter Tryd.func13, Tryd.ntmps13
    have M0c0 := M0.c0
    have M0c1 := M0.c1
    have M0c2 := M0.c2
    have M0c3 := M0.c3
    have M0c4 := M0.c4
    have M0c5 := M0.c5
    have M0l := M0.1
    have N0c0 := N0.c0
    have N0c1 := N0.c1
    have N0l := N0.1
    have R0c0 := R0.c0
    have R0c1 := R0.c1
    have R0f0 := R0.f0
    have R0f1 := R0.f1
    have R0l := R0.lt
    have U0c0 := U0.c0
    have U0c1 := U0.c1
    have U0c2 := U0.c2
    have U0c3 := U0.c3
    have U0l := U0.1
    go_wp2_with fail
    refine (implIsMo_any _ _ _ _ _ _ _ U0).mono ?_
    rintro e w1 ⟨rfl, hb1⟩
    have M1 : Km (w.heap.size) a b c d x y w1 := Km.call M0 hb1
    have N1 : Kg (w.heap.size + 1) p q w1 := Kg.call N0 hb1
    have R1 : KV (w.heap.size + 1 + 1) 0 0 w1 := KV.call R0 hb1
    have U1 : Kq (0) 1 0 0 1 w1 := Kq.call U0 hb1
    have B1 : Below w.heap.size w w1 := bstep B0 hb1
    clear hb1 B0 M0 N0 R0 U0
    have M1c0 := M1.c0
    have M1c1 := M1.c1
    have M1c2 := M1.c2
    have M1c3 := M1.c3
    have M1c4 := M1.c4
    have M1c5 := M1.c5
    have M1l := M1.1
    have M1n : ¬ w.heap.size = w1.heap.size := by omega
    have N1c0 := N1.c0
    have N1c1 := N1.c1
    have N1l := N1.1
    have N1n : ¬ w.heap.size + 1 = w1.heap.size := by omega
    have R1c0 := R1.c0
    have R1c1 := R1.c1
    have R1f0 := R1.f0
    have R1f1 := R1.f1
    have R1l := R1.lt
    have R1n : ¬ w.heap.size + 1 + 1 = w1.heap.size := by omega
    have U1c0 := U1.c0
    have U1c1 := U1.c1
    have U1c2 := U1.c2
    have U1c3 := U1.c3
    have U1l := U1.1
    have U1n : ¬ 0 = w1.heap.size := by omega
    go_wp2_with fail
    refine (isValid_any _ _ _).mono ?_
    rintro e w2 ⟨rfl, hb2⟩
    have M2 : Km (w.heap.size) a b c d x y w2 := Km.call M1 hb2
    have N2 : Kg (w.heap.size + 1) p q w2 := Kg.call N1 hb2
    have R2 : KV (w.heap.size + 1 + 1) 0 0 w2 := KV.call R1 hb2
    have U2 : Kq (0) 1 0 0 1 w2 := Kq.call U1 hb2
    have B2 : Below w.heap.size w w2 := bstep B1 hb2
    clear hb2 B1 M1 N1 R1 U1
    have M2c0 := M2.c0
    have M2c1 := M2.c1
    have M2c2 := M2.c2
    have M2c3 := M2.c3
    have M2c4 := M2.c4
    have M2c5 := M2.c5
    have M2l := M2.1
    have M2n : ¬ w.heap.size = w2.heap.size := by omega
    have N2c0 := N2.c0
    have N2c1 := N2.c1
    have N2l := N2.1
    have N2n : ¬ w.heap.size + 1 = w2.heap.size := by omega
    have R2c0 := R2.c0
    have R2c1 := R2.c1
    have R2f0 := R2.f0
    have R2f1 := R2.f1
    have R2l := R2.lt
    have R2n : ¬ w.heap.size + 1 + 1 = w2.heap.size := by omega
    have U2c0 := U2.c0
    have U2c1 := U2.c1
    have U2c2 := U2.c2
    have U2c3 := U2.c3
    have U2l := U2.1
    have U2n : ¬ 0 = w2.heap.size := by omega
    go_wp2
    refine bodyPost_ret (v := .tuple #[.agg #[.int .i64 0, .int .i64 0], .int .i64 1]) (by simp [results, Tryd.results13, go_sem, *]) rfl ⟨ret_val EA.out.symm, ?_⟩
    repeat (first | with_reducible assumption | with_reducible exact Below.refl _ _ | with_reducible refine Below.setCell ?_ (by first | omega | (simp <;> omega)) _ | with_reducible refine Below.alloc ?_ (by first | omega | (simp <;> omega)) _ | with_reducible refine bstep ?_ (by with_reducible assumption) | with_reducible refine Below.drew ?_)
  rcases hs : vecB (a * p + b * q + x) (c * p + d * q + y) with _ | _
  · have EA := Lib.hid (show vecT (apmR a b c d x y p q) = .tuple #[.agg #[.int .i64 0, .int .i64 0], .int .i64 3] by simp [vecT, apmR, hm, hp, hs])
    have lu := motB_lim hm
    have vu := motB_vec hm
    have M0 : Km (w.heap.size) a b c d x y (((w.alloc (.cells #[.int .i64 a, .int .i64 b, .int .i64 c, .int .i64 d, .int .i64 x, .int .i64 y] 29)).alloc (.cells #[.int .i64 p, .int .i64 q] 27)).alloc (.cells #[.int .i64 0, .int .i64 0] 27)) := (((Km.at (w.heap.size) rfl).alloc _).alloc _)
    have N0 : Kg (w.heap.size + 1) p q (((w.alloc (.cells #[.int .i64 a, .int .i64 b, .int .i64 c, .int .i64 d, .int .i64 x, .int .i64 y] 29)).alloc (.cells #[.int .i64 p, .int .i64 q] 27)).alloc (.cells #[.int .i64 0, .int .i64 0] 27)) := ((Kg.at2 (w.heap.size + 1) (by simp)).alloc _)
    have R0 : KV (w.heap.size + 1 + 1) 0 0 (((w.alloc (.cells #[.int .i64 a, .int .i64 b, .int .i64 c, .int .i64 d, .int .i64 x, .int .i64 y] 29)).alloc (.cells #[.int .i64 p, .int .i64 q] 27)).alloc (.cells #[.int .i64 0, .int .i64 0] 27)) := (KV.at (w.heap.size + 1 + 1) (by simp))
    have U0 : Kq (0) 1 0 0 1 (((w.alloc (.cells #[.int .i64 a, .int .i64 b, .int .i64 c, .int .i64 d, .int .i64 x, .int .i64 y] 29)).alloc (.cells #[.int .i64 p, .int .i64 q] 27)).alloc (.cells #[.int .i64 0, .int .i64 0] 27)) := (((hU.alloc _).alloc _).alloc _)
    have B0 : Below w.heap.size w (((w.alloc (.cells #[.int .i64 a, .int .i64 b, .int .i64 c, .int .i64 d, .int .i64 x, .int .i64 y] 29)).alloc (.cells #[.int .i64 p, .int .i64 q] 27)).alloc (.cells #[.int .i64 0, .int .i64 0] 27)) := (Below.alloc (Below.alloc (Below.alloc (Below.refl _ _) (by first | with_reducible exact Nat.le_refl _ | (simp <;> omega)) _) (by first | with_reducible exact Nat.le_refl _ | (simp <;> omega)) _) (by first | with_reducible exact Nat.le_refl _ | (simp <;> omega)) _)
    go_enter Tryd.func13, Tryd.ntmps13
    have M0c0 := M0.c0
    have M0c1 := M0.c1
    have M0c2 := M0.c2
    have M0c3 := M0.c3
    have M0c4 := M0.c4
    have M0c5 := M0.c5
    have M0l := M0.1
    have N0c0 := N0.c0
    have N0c1 := N0.c1
    have N0l := N0.1
    have R0c0 := R0.c0
    have R0c1 := R0.c1
    have R0f0 := R0.f0
    have R0f1 := R0.f1
    have R0l := R0.lt
    have U0c0 := U0.c0
    have U0c1 := U0.c1
    have U0c2 := U0.c2
    have U0c3 := U0.c3
    have U0l := U0.1
    go_wp2_with fail
    refine (implIsMo_any _ _ _ _ _ _ _ U0).mono ?_
    rintro e w1 ⟨rfl, hb1⟩
    have M1 : Km (w.heap.size) a b c d x y w1 := Km.call M0 hb1
    have N1 : Kg (w.heap.size + 1) p q w1 := Kg.call N0 hb1
    have R1 : KV (w.heap.size + 1 + 1) 0 0 w1 := KV.call R0 hb1
    have U1 : Kq (0) 1 0 0 1 w1 := Kq.call U0 hb1
    have B1 : Below w.heap.size w w1 := bstep B0 hb1
    clear hb1 B0 M0 N0 R0 U0
    have M1c0 := M1.c0
    have M1c1 := M1.c1
    have M1c2 := M1.c2
    have M1c3 := M1.c3
    have M1c4 := M1.c4
    have M1c5 := M1.c5
    have M1l := M1.1
    have M1n : ¬ w.heap.size = w1.heap.size := by omega
    have N1c0 := N1.c0
    have N1c1 := N1.c1
    have N1l := N1.1
    have N1n : ¬ w.heap.size + 1 = w1.heap.size := by omega
    have R1c0 := R1.c0
    have R1c1 := R1.c1
    have R1f0 := R1.f0
    have R1f1 := R1.f1
    have R1l := R1.lt
    have R1n : ¬ w.heap.size + 1 + 1 = w1.heap.size := by omega
    have U1c0 := U1.c0
    have U1c1 := U1.c1
    have U1c2 := U1.c2
    have U1c3 := U1.c3
    have U1l := U1.1
    have U1n : ¬ 0 = w1.heap.size := by omega
    go_wp2_with fail
    refine (isValid_any _ _ _).mono ?_
    rintro e w2 ⟨rfl, hb2⟩
    have M2 : Km (w.heap.size) a b c d x y w2 := Km.call M1 hb2
    have N2 : Kg (w.heap.size + 1) p q w2 := Kg.call N1 hb2
    have R2 : KV (w.heap.size + 1 + 1) 0 0 w2 := KV.call R1 hb2
    have U2 : Kq (0) 1 0 0 1 w2 := Kq.call U1 hb2
    have B2 : Below w.heap.size w w2 := bstep B1 hb2
    clear hb2 B1 M1 N1 R1 U1
    have M2c0 := M2.c0
    have M2c1 := M2.c1
    have M2c2 := M2.c2
    have M2c3 := M2.c3
    have M2c4 := M2.c4
    have M2c5 := M2.c5
    have M2l := M2.1
    have M2n : ¬ w.heap.size = w2.heap.size := by omega
    have N2c0 := N2.c0
    have N2c1 := N2.c1
    have N2l := N2.1
    have N2n : ¬ w.heap.size + 1 = w2.heap.size := by omega
    have R2c0 := R2.c0
    have R2c1 := R2.c1
    have R2f0 := R2.f0
    have R2f1 := R2.f1
    have R2l := R2.lt
    have R2n : ¬ w.heap.size + 1 + 1 = w2.heap.size := by omega
    have U2c0 := U2.c0
    have U2c1 := U2.c1
    have U2c2 := U2.c2
    have U2c3 := U2.c3
    have U2l := U2.1
    have U2n : ¬ 0 = w2.heap.size := by omega
    clear M2c0 M2c1 M2c2 M2c3 M2c4 M2c5 M2l M2n
    clear N2c0 N2c1 N2l N2n
    clear R2c0 R2c1 R2f0 R2f1 R2l R2n
    clear U2c0 U2c1 U2c2 U2c3 U2l U2n
    have M2lt := M2.1
    have N2lt := N2.1
    have R2lt := R2.lt
    have U2lt := U2.1
    go_wp2_with fail
    go_region_held3 (fun W => (W.cell? ⟨w.heap.size, 0, none⟩ = some (.int .i64 a) ∧ W.cell? ⟨w.heap.size, 1, none⟩ = some (.int .i64 b) ∧ W.cell? ⟨w.heap.size, 2, none⟩ = some (.int .i64 c) ∧ W.cell? ⟨w.heap.size, 3, none⟩ = some (.int .i64 d) ∧ W.cell? ⟨w.heap.size, 4, none⟩ = some (.int .i64 x) ∧ W.cell? ⟨w.heap.size, 5, none⟩ = some (.int .i64 y)) ∧ (W.cell? ⟨w.heap.size + 1, 0, none⟩ = some (.int .i64 p) ∧ W.cell? ⟨w.heap.size + 1, 1, none⟩ = some (.int .i64 q))) ((refine ⟨Km.cells ?_, Kg.cells ?_⟩ <;> repeat (first | with_reducible assumption | with_reducible refine KV.drew ?_ | with_reducible refine KV.alloc ?_ _ | with_reducible refine KV.call ?_ (by with_reducible assumption) | with_reducible refine Kg.drew ?_ | with_reducible refine Kg.alloc ?_ _ | with_reducible refine Kg.call ?_ (by with_reducible assumption) | with_reducible refine Km.drew ?_ | with_reducible refine Km.alloc ?_ _ | with_reducible refine Km.call ?_ (by with_reducible assumption) | with_reducible refine Kq.drew ?_ | with_reducible refine Kq.alloc ?_ _ | with_reducible refine Kq.call ?_ (by with_reducible assumption) | ((with_reducible refine KV.put ?_ ?_); (first | omega | (dsimp only; omega))) | ((with_reducible refine Kg.put ?_ ?_); (first | omega | (dsimp only; omega))) | ((with_reducible refine Km.put ?_ ?_); (first | omega | (dsimp only; omega))) | ((with_reducible refine Kq.put ?_ ?_); (first | omega | (dsimp only; omega))) | ((with_reducible refine KV.far5 ?_ ?_); (first | omega | (dsimp only; omega))) | ((with_reducible refine Kg.far ?_ ?_); (first | omega | (dsimp only; omega))) | ((with_reducible refine Km.far ?_ ?_); (first | omega | (dsimp only; omega))) | ((with_reducible refine Kq.far ?_ ?_); (first | omega | (dsimp only; omega))))))
      (first
        | (go_at_call 31; ((with_reducible refine (motionOf_any _ _ _ _ _ _ _).mono ?_); rintro e w3 ⟨rfl, hb3⟩; have M3 : Km (w.heap.size) a b c d x y w3 := (by repeat (first | with_reducible assumption | with_reducible refine KV.drew ?_ | with_reducible refine KV.alloc ?_ _ | with_reducible refine KV.call ?_ (by with_reducible assumption) | with_reducible refine Kg.drew ?_ | with_reducible refine Kg.alloc ?_ _ | with_reducible refine Kg.call ?_ (by with_reducible assumption) | with_reducible refine Km.drew ?_ | with_reducible refine Km.alloc ?_ _ | with_reducible refine Km.call ?_ (by with_reducible assumption) | with_reducible refine Kq.drew ?_ | with_reducible refine Kq.alloc ?_ _ | with_reducible refine Kq.call ?_ (by with_reducible assumption))); have N3 : Kg (w.heap.size + 1) p q w3 := (by repeat (first | with_reducible assumption | with_reducible refine KV.drew ?_ | with_reducible refine KV.alloc ?_ _ | with_reducible refine KV.call ?_ (by with_reducible assumption) | with_reducible refine Kg.drew ?_ | with_reducible refine Kg.alloc ?_ _ | with_reducible refine Kg.call ?_ (by with_reducible assumption) | with_reducible refine Km.drew ?_ | with_reducible refine Km.alloc ?_ _ | with_reducible refine Km.call ?_ (by with_reducible assumption) | with_reducible refine Kq.drew ?_ | with_reducible refine Kq.alloc ?_ _ | with_reducible refine Kq.call ?_ (by with_reducible assumption))); have R3 : KV (w.heap.size + 1 + 1) 0 0 w3 := (by repeat (first | with_reducible assumption | with_reducible refine KV.drew ?_ | with_reducible refine KV.alloc ?_ _ | with_reducible refine KV.call ?_ (by with_reducible assumption) | with_reducible refine Kg.drew ?_ | with_reducible refine Kg.alloc ?_ _ | with_reducible refine Kg.call ?_ (by with_reducible assumption) | with_reducible refine Km.drew ?_ | with_reducible refine Km.alloc ?_ _ | with_reducible refine Km.call ?_ (by with_reducible assumption) | with_reducible refine Kq.drew ?_ | with_reducible refine Kq.alloc ?_ _ | with_reducible refine Kq.call ?_ (by with_reducible assumption))); have U3 : Kq (0) 1 0 0 1 w3 := (by repeat (first | with_reducible assumption | with_reducible refine KV.drew ?_ | with_reducible refine KV.alloc ?_ _ | with_reducible refine KV.call ?_ (by with_reducible assumption) | with_reducible refine Kg.drew ?_ | with_reducible refine Kg.alloc ?_ _ | with_reducible refine Kg.call ?_ (by with_reducible assumption) | with_reducible refine Km.drew ?_ | with_reducible refine Km.alloc ?_ _ | with_reducible refine Km.call ?_ (by with_reducible assumption) | with_reducible refine Kq.drew ?_ | with_reducible refine Kq.alloc ?_ _ | with_reducible refine Kq.call ?_ (by with_reducible assumption))); have M3l := M3.1; have N3l := N3.1; have R3c0 := R3.c0; have R3f0 := R3.f0; have R3c1 := R3.c1; have R3f1 := R3.f1; have R3l := R3.lt; have U3l := U3.1; have B3 : Below w.heap.size w w3 := (by repeat (first | with_reducible assumption | with_reducible refine Below.drew ?_ | with_reducible refine Below.alloc ?_ (by first | omega | (have := B2.size; simp <;> omega)) _ | with_reducible refine bstep ?_ (by with_reducible assumption)))))
        | (go_at_call 40; ((with_reducible refine (applyMo_any _ _ _ _ _ _ _ _ _ lu vu hp).mono ?_); rintro e w4 ⟨rfl, hb4⟩; have M4 : Km (w.heap.size) a b c d x y w4 := (by repeat (first | with_reducible assumption | with_reducible refine KV.drew ?_ | with_reducible refine KV.alloc ?_ _ | with_reducible refine KV.call ?_ (by with_reducible assumption) | with_reducible refine Kg.drew ?_ | with_reducible refine Kg.alloc ?_ _ | with_reducible refine Kg.call ?_ (by with_reducible assumption) | with_reducible refine Km.drew ?_ | with_reducible refine Km.alloc ?_ _ | with_reducible refine Km.call ?_ (by with_reducible assumption) | with_reducible refine Kq.drew ?_ | with_reducible refine Kq.alloc ?_ _ | with_reducible refine Kq.call ?_ (by with_reducible assumption))); have N4 : Kg (w.heap.size + 1) p q w4 := (by repeat (first | with_reducible assumption | with_reducible refine KV.drew ?_ | with_reducible refine KV.alloc ?_ _ | with_reducible refine KV.call ?_ (by with_reducible assumption) | with_reducible refine Kg.drew ?_ | with_reducible refine Kg.alloc ?_ _ | with_reducible refine Kg.call ?_ (by with_reducible assumption) | with_reducible refine Km.drew ?_ | with_reducible refine Km.alloc ?_ _ | with_reducible refine Km.call ?_ (by with_reducible assumption) | with_reducible refine Kq.drew ?_ | with_reducible refine Kq.alloc ?_ _ | with_reducible refine Kq.call ?_ (by with_reducible assumption))); have R4 : KV (w.heap.size + 1 + 1) 0 0 w4 := (by repeat (first | with_reducible assumption | with_reducible refine KV.drew ?_ | with_reducible refine KV.alloc ?_ _ | with_reducible refine KV.call ?_ (by with_reducible assumption) | with_reducible refine Kg.drew ?_ | with_reducible refine Kg.alloc ?_ _ | with_reducible refine Kg.call ?_ (by with_reducible assumption) | with_reducible refine Km.drew ?_ | with_reducible refine Km.alloc ?_ _ | with_reducible refine Km.call ?_ (by with_reducible assumption) | with_reducible refine Kq.drew ?_ | with_reducible refine Kq.alloc ?_ _ | with_reducible refine Kq.call ?_ (by with_reducible assumption))); have U4 : Kq (0) 1 0 0 1 w4 := (by repeat (first | with_reducible assumption | with_reducible refine KV.drew ?_ | with_reducible refine KV.alloc ?_ _ | with_reducible refine KV.call ?_ (by with_reducible assumption) | with_reducible refine Kg.drew ?_ | with_reducible refine Kg.alloc ?_ _ | with_reducible refine Kg.call ?_ (by with_reducible assumption) | with_reducible refine Km.drew ?_ | with_reducible refine Km.alloc ?_ _ | with_reducible refine Km.call ?_ (by with_reducible assumption) | with_reducible refine Kq.drew ?_ | with_reducible refine Kq.alloc ?_ _ | with_reducible refine Kq.call ?_ (by with_reducible assumption))); have M4l := M4.1; have N4l := N4.1; have R4c0 := R4.c0; have R4f0 := R4.f0; have R4c1 := R4.c1; have R4f1 := R4.f1; have R4l := R4.lt; have U4l := U4.1; have B4 : Below w.heap.size w w4 := (by repeat (first | with_reducible assumption | with_reducible refine Below.drew ?_ | with_reducible refine Below.alloc ?_ (by first | omega | (have := B2.size; simp <;> omega)) _ | with_reducible refine bstep ?_ (by with_reducible assumption)))))
        | (go_at_call 39; ((with_reducible refine (limitedVec_no _ _ _ hs).mono ?_); rintro e w5 ⟨rfl, hb5⟩; have M5 : Km (w.heap.size) a b c d x y w5 := (by repeat (first | with_reducible assumption | with_reducible refine KV.drew ?_ | with_reducible refine KV.alloc ?_ _ | with_reducible refine KV.call ?_ (by with_reducible assumption) | with_reducible refine Kg.drew ?_ | with_reducible refine Kg.alloc ?_ _ | with_reducible refine Kg.call ?_ (by with_reducible assumption) | with_reducible refine Km.drew ?_ | with_reducible refine Km.alloc ?_ _ | with_reducible refine Km.call ?_ (by with_reducible assumption) | with_reducible refine Kq.drew ?_ | with_reducible refine Kq.alloc ?_ _ | with_reducible refine Kq.call ?_ (by with_reducible assumption))); have N5 : Kg (w.heap.size + 1) p q w5 := (by repeat (first | with_reducible assumption | with_reducible refine KV.drew ?_ | with_reducible refine KV.alloc ?_ _ | with_reducible refine KV.call ?_ (by with_reducible assumption) | with_reducible refine Kg.drew ?_ | with_reducible refine Kg.alloc ?_ _ | with_reducible refine Kg.call ?_ (by with_reducible assumption) | with_reducible refine Km.drew ?_ | with_reducible refine Km.alloc ?_ _ | with_reducible refine Km.call ?_ (by with_reducible assumption) | with_reducible refine Kq.drew ?_ | with_reducible refine Kq.alloc ?_ _ | with_reducible refine Kq.call ?_ (by with_reducible assumption))); have R5 : KV (w.heap.size + 1 + 1) 0 0 w5 := (by repeat (first | with_reducible assumption | with_reducible refine KV.drew ?_ | with_reducible refine KV.alloc ?_ _ | with_reducible refine KV.call ?_ (by with_reducible assumption) | with_reducible refine Kg.drew ?_ | with_reducible refine Kg.alloc ?_ _ | with_reducible refine Kg.call ?_ (by with_reducible assumption) | with_reducible refine Km.drew ?_ | with_reducible refine Km.alloc ?_ _ | with_reducible refine Km.call ?_ (by with_reducible assumption) | with_reducible refine Kq.drew ?_ | with_reducible refine Kq.alloc ?_ _ | with_reducible refine Kq.call ?_ (by with_reducible assumption))); have U5 : Kq (0) 1 0 0 1 w5 := (by repeat (first | with_reducible assumption | with_reducible refine KV.drew ?_ | with_reducible refine KV.alloc ?_ _ | with_reducible refine KV.call ?_ (by with_reducible assumption) | with_reducible refine Kg.drew ?_ | with_reducible refine Kg.alloc ?_ _ | with_reducible refine Kg.call ?_ (by with_reducible assumption) | with_reducible refine Km.drew ?_ | with_reducible refine Km.alloc ?_ _ | with_reducible refine Km.call ?_ (by with_reducible assumption) | with_reducible refine Kq.drew ?_ | with_reducible refine Kq.alloc ?_ _ | with_reducible refine Kq.call ?_ (by with_reducible assumption))); have M5l := M5.1; have N5l := N5.1; have R5c0 := R5.c0; have R5f0 := R5.f0; have R5c1 := R5.c1; have R5f1 := R5.f1; have R5l := R5.lt; have U5l := U5.1; have B5 : Below w.heap.size w w5 := (by repeat (first | with_reducible assumption | with_reducible refine Below.drew ?_ | with_reducible refine Below.alloc ?_ (by first | omega | (have := B2.size; simp <;> omega)) _ | with_reducible refine bstep ?_ (by with_reducible assumption))))))
    all_goals
      have M5c0 := M5.c0
      have M5c1 := M5.c1
      have M5c2 := M5.c2
      have M5c3 := M5.c3
      have M5c4 := M5.c4
      have M5c5 := M5.c5
      have M5l := M5.1
      have M5n : ¬ w.heap.size = w5.heap.size := by omega
      have N5c0 := N5.c0
      have N5c1 := N5.c1
      have N5l := N5.1
      have N5n : ¬ w.heap.size + 1 = w5.heap.size := by omega
      have R5c0 := R5.c0
      have R5c1 := R5.c1
      have R5f0 := R5.f0
      have R5f1 := R5.f1
      have R5l := R5.lt
      have R5n : ¬ w.heap.size + 1 + 1 = w5.heap.size := by omega
      have U5c0 := U5.c0
      have U5c1 := U5.c1
      have U5c2 := U5.c2
      have U5c3 := U5.c3
      have U5l := U5.1
      have U5n : ¬ 0 = w5.heap.size := by omega
      go_wp2
      refine bodyPost_ret (v := .tuple #[.agg #[.int .i64 0, .int .i64 0], .int .i64 3]) (by simp [results, Tryd.results13, go_sem, *]) rfl ⟨ret_val EA.out.symm, ?_⟩
      repeat (first | with_reducible assumption | with_reducible exact Below.refl _ _ | with_reducible refine Below.setCell ?_ (by first | omega | (simp <;> omega)) _ | with_reducible refine Below.alloc ?_ (by first | omega | (simp <;> omega)) _ | with_reducible refine bstep ?_ (by with_reducible assumption) | with_reducible refine Below.drew ?_)
  · have EA := Lib.hid (show vecT (apmR a b c d x y p q) = .tuple #[.agg #[.int .i64 (a * p + b * q + x), .int .i64 (c * p + d * q + y)], .int .i64 0] by simp [vecT, apmR, hm, hp, hs])
    have lu := motB_lim hm
    have vu := motB_vec hm
    have M0 : Km (w.heap.size) a b c d x y (((w.alloc (.cells #[.int .i64 a, .int .i64 b, .int .i64 c, .int .i64 d, .int .i64 x, .int .i64 y] 29)).alloc (.cells #[.int .i64 p, .int .i64 q] 27)).alloc (.cells #[.int .i64 0, .int .i64 0] 27)) := (((Km.at (w.heap.size) rfl).alloc _).alloc _)
    have N0 : Kg (w.heap.size + 1) p q (((w.alloc (.cells #[.int .i64 a, .int .i64 b, .int .i64 c, .int .i64 d, .int .i64 x, .int .i64 y] 29)).alloc (.cells #[.int .i64 p, .int .i64 q] 27)).alloc (.cells #[.int .i64 0, .int .i64 0] 27)) := ((Kg.at2 (w.heap.size + 1) (by simp)).alloc _)
    have R0 : KV (w.heap.size + 1 + 1) 0 0 (((w.alloc (.cells #[.int .i64 a, .int .i64 b, .int .i64 c, .int .i64 d, .int .i64 x, .int .i64 y] 29)).alloc (.cells #[.int .i64 p, .int .i64 q] 27)).alloc (.cells #[.int .i64 0, .int .i64 0] 27)) := (KV.at (w.heap.size + 1 + 1) (by simp))
    have U0 : Kq (0) 1 0 0 1 (((w.alloc (.cells #[.int .i64 a, .int .i64 b, .int .i64 c, .int .i64 d, .int .i64 x, .int .i64 y] 29)).alloc (.cells #[.int .i64 p, .int .i64 q] 27)).alloc (.cells #[.int .i64 0, .int .i64 0] 27)) := (((hU.alloc _).alloc _).alloc _)
    have B0 : Below w.heap.size w (((w.alloc (.cells #[.int .i64 a, .int .i64 b, .int .i64 c, .int .i64 d, .int .i64 x, .int .i64 y] 29)).alloc (.cells #[.int .i64 p, .int .i64 q] 27)).alloc (.cells #[.int .i64 0, .int .i64 0] 27)) := (Below.alloc (Below.alloc (Below.alloc (Below.refl _ _) (by first | with_reducible exact Nat.le_refl _ | (simp <;> omega)) _) (by first | with_reducible exact Nat.le_refl _ | (simp <;> omega)) _) (by first | with_reducible exact Nat.le_refl _ | (simp <;> omega)) _)
    go_enter Tryd.func13, Tryd.ntmps13
    have M0c0 := M0.c0
    have M0c1 := M0.c1
    have M0c2 := M0.c2
    have M0c3 := M0.c3
    have M0c4 := M0.c4
    have M0c5 := M0.c5
    have M0l := M0.1
    have N0c0 := N0.c0
    have N0c1 := N0.c1
    have N0l := N0.1
    have R0c0 := R0.c0
    have R0c1 := R0.c1
    have R0f0 := R0.f0
    have R0f1 := R0.f1
    have R0l := R0.lt
    have U0c0 := U0.c0
    have U0c1 := U0.c1
    have U0c2 := U0.c2
    have U0c3 := U0.c3
    have U0l := U0.1
    go_wp2_with fail
    refine (implIsMo_any _ _ _ _ _ _ _ U0).mono ?_
    rintro e w1 ⟨rfl, hb1⟩
    have M1 : Km (w.heap.size) a b c d x y w1 := Km.call M0 hb1
    have N1 : Kg (w.heap.size + 1) p q w1 := Kg.call N0 hb1
    have R1 : KV (w.heap.size + 1 + 1) 0 0 w1 := KV.call R0 hb1
    have U1 : Kq (0) 1 0 0 1 w1 := Kq.call U0 hb1
    have B1 : Below w.heap.size w w1 := bstep B0 hb1
    clear hb1 B0 M0 N0 R0 U0
    have M1c0 := M1.c0
    have M1c1 := M1.c1
    have M1c2 := M1.c2
    have M1c3 := M1.c3
    have M1c4 := M1.c4
    have M1c5 := M1.c5
    have M1l := M1.1
    have M1n : ¬ w.heap.size = w1.heap.size := by omega
    have N1c0 := N1.c0
    have N1c1 := N1.c1
    have N1l := N1.1
    have N1n : ¬ w.heap.size + 1 = w1.heap.size := by omega
    have R1c0 := R1.c0
    have R1c1 := R1.c1
    have R1f0 := R1.f0
    have R1f1 := R1.f1
    have R1l := R1.lt
    have R1n : ¬ w.heap.size + 1 + 1 = w1.heap.size := by omega
    have U1c0 := U1.c0
    have U1c1 := U1.c1
    have U1c2 := U1.c2
    have U1c3 := U1.c3
    have U1l := U1.1
    have U1n : ¬ 0 = w1.heap.size := by omega
    go_wp2_with fail
    refine (isValid_any _ _ _).mono ?_
    rintro e w2 ⟨rfl, hb2⟩
    have M2 : Km (w.heap.size) a b c d x y w2 := Km.call M1 hb2
    have N2 : Kg (w.heap.size + 1) p q w2 := Kg.call N1 hb2
    have R2 : KV (w.heap.size + 1 + 1) 0 0 w2 := KV.call R1 hb2
    have U2 : Kq (0) 1 0 0 1 w2 := Kq.call U1 hb2
    have B2 : Below w.heap.size w w2 := bstep B1 hb2
    clear hb2 B1 M1 N1 R1 U1
    have M2c0 := M2.c0
    have M2c1 := M2.c1
    have M2c2 := M2.c2
    have M2c3 := M2.c3
    have M2c4 := M2.c4
    have M2c5 := M2.c5
    have M2l := M2.1
    have M2n : ¬ w.heap.size = w2.heap.size := by omega
    have N2c0 := N2.c0
    have N2c1 := N2.c1
    have N2l := N2.1
    have N2n : ¬ w.heap.size + 1 = w2.heap.size := by omega
    have R2c0 := R2.c0
    have R2c1 := R2.c1
    have R2f0 := R2.f0
    have R2f1 := R2.f1
    have R2l := R2.lt
    have R2n : ¬ w.heap.size + 1 + 1 = w2.heap.size := by omega
    have U2c0 := U2.c0
    have U2c1 := U2.c1
    have U2c2 := U2.c2
    have U2c3 := U2.c3
    have U2l := U2.1
    have U2n : ¬ 0 = w2.heap.size := by omega
    clear M2c0 M2c1 M2c2 M2c3 M2c4 M2c5 M2l M2n
    clear N2c0 N2c1 N2l N2n
    clear R2c0 R2c1 R2f0 R2f1 R2l R2n
    clear U2c0 U2c1 U2c2 U2c3 U2l U2n
    have M2lt := M2.1
    have N2lt := N2.1
    have R2lt := R2.lt
    have U2lt := U2.1
    go_wp2_with fail
    go_region_held3 (fun W => (W.cell? ⟨w.heap.size, 0, none⟩ = some (.int .i64 a) ∧ W.cell? ⟨w.heap.size, 1, none⟩ = some (.int .i64 b) ∧ W.cell? ⟨w.heap.size, 2, none⟩ = some (.int .i64 c) ∧ W.cell? ⟨w.heap.size, 3, none⟩ = some (.int .i64 d) ∧ W.cell? ⟨w.heap.size, 4, none⟩ = some (.int .i64 x) ∧ W.cell? ⟨w.heap.size, 5, none⟩ = some (.int .i64 y)) ∧ (W.cell? ⟨w.heap.size + 1, 0, none⟩ = some (.int .i64 p) ∧ W.cell? ⟨w.heap.size + 1, 1, none⟩ = some (.int .i64 q))) ((refine ⟨Km.cells ?_, Kg.cells ?_⟩ <;> repeat (first | with_reducible assumption | with_reducible refine KV.drew ?_ | with_reducible refine KV.alloc ?_ _ | with_reducible refine KV.call ?_ (by with_reducible assumption) | with_reducible refine Kg.drew ?_ | with_reducible refine Kg.alloc ?_ _ | with_reducible refine Kg.call ?_ (by with_reducible assumption) | with_reducible refine Km.drew ?_ | with_reducible refine Km.alloc ?_ _ | with_reducible refine Km.call ?_ (by with_reducible assumption) | with_reducible refine Kq.drew ?_ | with_reducible refine Kq.alloc ?_ _ | with_reducible refine Kq.call ?_ (by with_reducible assumption) | ((with_reducible refine KV.put ?_ ?_); (first | omega | (dsimp only; omega))) | ((with_reducible refine Kg.put ?_ ?_); (first | omega | (dsimp only; omega))) | ((with_reducible refine Km.put ?_ ?_); (first | omega | (dsimp only; omega))) | ((with_reducible refine Kq.put ?_ ?_); (first | omega | (dsimp only; omega))) | ((with_reducible refine KV.far5 ?_ ?_); (first | omega | (dsimp only; omega))) | ((with_reducible refine Kg.far ?_ ?_); (first | omega | (dsimp only; omega))) | ((with_reducible refine Km.far ?_ ?_); (first | omega | (dsimp only; omega))) | ((with_reducible refine Kq.far ?_ ?_); (first | omega | (dsimp only; omega))))))
      (first
        | (go_at_call 31; ((with_reducible refine (motionOf_any _ _ _ _ _ _ _).mono ?_); rintro e w3 ⟨rfl, hb3⟩; have M3 : Km (w.heap.size) a b c d x y w3 := (by repeat (first | with_reducible assumption | with_reducible refine KV.drew ?_ | with_reducible refine KV.alloc ?_ _ | with_reducible refine KV.call ?_ (by with_reducible assumption) | with_reducible refine Kg.drew ?_ | with_reducible refine Kg.alloc ?_ _ | with_reducible refine Kg.call ?_ (by with_reducible assumption) | with_reducible refine Km.drew ?_ | with_reducible refine Km.alloc ?_ _ | with_reducible refine Km.call ?_ (by with_reducible assumption) | with_reducible refine Kq.drew ?_ | with_reducible refine Kq.alloc ?_ _ | with_reducible refine Kq.call ?_ (by with_reducible assumption))); have N3 : Kg (w.heap.size + 1) p q w3 := (by repeat (first | with_reducible assumption | with_reducible refine KV.drew ?_ | with_reducible refine KV.alloc ?_ _ | with_reducible refine KV.call ?_ (by with_reducible assumption) | with_reducible refine Kg.drew ?_ | with_reducible refine Kg.alloc ?_ _ | with_reducible refine Kg.call ?_ (by with_reducible assumption) | with_reducible refine Km.drew ?_ | with_reducible refine Km.alloc ?_ _ | with_reducible refine Km.call ?_ (by with_reducible assumption) | with_reducible refine Kq.drew ?_ | with_reducible refine Kq.alloc ?_ _ | with_reducible refine Kq.call ?_ (by with_reducible assumption))); have R3 : KV (w.heap.size + 1 + 1) 0 0 w3 := (by repeat (first | with_reducible assumption | with_reducible refine KV.drew ?_ | with_reducible refine KV.alloc ?_ _ | with_reducible refine KV.call ?_ (by with_reducible assumption) | with_reducible refine Kg.drew ?_ | with_reducible refine Kg.alloc ?_ _ | with_reducible refine Kg.call ?_ (by with_reducible assumption) | with_reducible refine Km.drew ?_ | with_reducible refine Km.alloc ?_ _ | with_reducible refine Km.call ?_ (by with_reducible assumption) | with_reducible refine Kq.drew ?_ | with_reducible refine Kq.alloc ?_ _ | with_reducible refine Kq.call ?_ (by with_reducible assumption))); have U3 : Kq (0) 1 0 0 1 w3 := (by repeat (first | with_reducible assumption | with_reducible refine KV.drew ?_ | with_reducible refine KV.alloc ?_ _ | with_reducible refine KV.call ?_ (by with_reducible assumption) | with_reducible refine Kg.drew ?_ | with_reducible refine Kg.alloc ?_ _ | with_reducible refine Kg.call ?_ (by with_reducible assumption) | with_reducible refine Km.drew ?_ | with_reducible refine Km.alloc ?_ _ | with_reducible refine Km.call ?_ (by with_reducible assumption) | with_reducible refine Kq.drew ?_ | with_reducible refine Kq.alloc ?_ _ | with_reducible refine Kq.call ?_ (by with_reducible assumption))); have M3l := M3.1; have N3l := N3.1; have R3c0 := R3.c0; have R3f0 := R3.f0; have R3c1 := R3.c1; have R3f1 := R3.f1; have R3l := R3.lt; have U3l := U3.1; have B3 : Below w.heap.size w w3 := (by repeat (first | with_reducible assumption | with_reducible refine Below.drew ?_ | with_reducible refine Below.alloc ?_ (by first | omega | (have := B2.size; simp <;> omega)) _ | with_reducible refine bstep ?_ (by with_reducible assumption)))))
        | (go_at_call 40; ((with_reducible refine (applyMo_any _ _ _ _ _ _ _ _ _ lu vu hp).mono ?_); rintro e w4 ⟨rfl, hb4⟩; have M4 : Km (w.heap.size) a b c d x y w4 := (by repeat (first | with_reducible assumption | with_reducible refine KV.drew ?_ | with_reducible refine KV.alloc ?_ _ | with_reducible refine KV.call ?_ (by with_reducible assumption) | with_reducible refine Kg.drew ?_ | with_reducible refine Kg.alloc ?_ _ | with_reducible refine Kg.call ?_ (by with_reducible assumption) | with_reducible refine Km.drew ?_ | with_reducible refine Km.alloc ?_ _ | with_reducible refine Km.call ?_ (by with_reducible assumption) | with_reducible refine Kq.drew ?_ | with_reducible refine Kq.alloc ?_ _ | with_reducible refine Kq.call ?_ (by with_reducible assumption))); have N4 : Kg (w.heap.size + 1) p q w4 := (by repeat (first | with_reducible assumption | with_reducible refine KV.drew ?_ | with_reducible refine KV.alloc ?_ _ | with_reducible refine KV.call ?_ (by with_reducible assumption) | with_reducible refine Kg.drew ?_ | with_reducible refine Kg.alloc ?_ _ | with_reducible refine Kg.call ?_ (by with_reducible assumption) | with_reducible refine Km.drew ?_ | with_reducible refine Km.alloc ?_ _ | with_reducible refine Km.call ?_ (by with_reducible assumption) | with_reducible refine Kq.drew ?_ | with_reducible refine Kq.alloc ?_ _ | with_reducible refine Kq.call ?_ (by with_reducible assumption))); have R4 : KV (w.heap.size + 1 + 1) 0 0 w4 := (by repeat (first | with_reducible assumption | with_reducible refine KV.drew ?_ | with_reducible refine KV.alloc ?_ _ | with_reducible refine KV.call ?_ (by with_reducible assumption) | with_reducible refine Kg.drew ?_ | with_reducible refine Kg.alloc ?_ _ | with_reducible refine Kg.call ?_ (by with_reducible assumption) | with_reducible refine Km.drew ?_ | with_reducible refine Km.alloc ?_ _ | with_reducible refine Km.call ?_ (by with_reducible assumption) | with_reducible refine Kq.drew ?_ | with_reducible refine Kq.alloc ?_ _ | with_reducible refine Kq.call ?_ (by with_reducible assumption))); have U4 : Kq (0) 1 0 0 1 w4 := (by repeat (first | with_reducible assumption | with_reducible refine KV.drew ?_ | with_reducible refine KV.alloc ?_ _ | with_reducible refine KV.call ?_ (by with_reducible assumption) | with_reducible refine Kg.drew ?_ | with_reducible refine Kg.alloc ?_ _ | with_reducible refine Kg.call ?_ (by with_reducible assumption) | with_reducible refine Km.drew ?_ | with_reducible refine Km.alloc ?_ _ | with_reducible refine Km.call ?_ (by with_reducible assumption) | with_reducible refine Kq.drew ?_ | with_reducible refine Kq.alloc ?_ _ | with_reducible refine Kq.call ?_ (by with_reducible assumption))); have M4l := M4.1; have N4l := N4.1; have R4c0 := R4.c0; have R4f0 := R4.f0; have R4c1 := R4.c1; have R4f1 := R4.f1; have R4l := R4.lt; have U4l := U4.1; have B4 : Below w.heap.size w w4 := (by repeat (first | with_reducible assumption | with_reducible refine Below.drew ?_ | with_reducible refine Below.alloc ?_ (by first | omega | (have := B2.size; simp <;> omega)) _ | with_reducible refine bstep ?_ (by with_reducible assumption)))))
        | (go_at_call 39; ((with_reducible refine (limitedVec_yes _ _ _ hs).mono ?_); rintro e w5 ⟨rfl, hb5⟩; have M5 : Km (w.heap.size) a b c d x y w5 := (by repeat (first | with_reducible assumption | with_reducible refine KV.drew ?_ | with_reducible refine KV.alloc ?_ _ | with_reducible refine KV.call ?_ (by with_reducible assumption) | with_reducible refine Kg.drew ?_ | with_reducible refine Kg.alloc ?_ _ | with_reducible refine Kg.call ?_ (by with_reducible assumption) | with_reducible refine Km.drew ?_ | with_reducible refine Km.alloc ?_ _ | with_reducible refine Km.call ?_ (by with_reducible assumption) | with_reducible refine Kq.drew ?_ | with_reducible refine Kq.alloc ?_ _ | with_reducible refine Kq.call ?_ (by with_reducible assumption))); have N5 : Kg (w.heap.size + 1) p q w5 := (by repeat (first | with_reducible assumption | with_reducible refine KV.drew ?_ | with_reducible refine KV.alloc ?_ _ | with_reducible refine KV.call ?_ (by with_reducible assumption) | with_reducible refine Kg.drew ?_ | with_reducible refine Kg.alloc ?_ _ | with_reducible refine Kg.call ?_ (by with_reducible assumption) | with_reducible refine Km.drew ?_ | with_reducible refine Km.alloc ?_ _ | with_reducible refine Km.call ?_ (by with_reducible assumption) | with_reducible refine Kq.drew ?_ | with_reducible refine Kq.alloc ?_ _ | with_reducible refine Kq.call ?_ (by with_reducible assumption))); have R5 : KV (w.heap.size + 1 + 1) 0 0 w5 := (by repeat (first | with_reducible assumption | with_reducible refine KV.drew ?_ | with_reducible refine KV.alloc ?_ _ | with_reducible refine KV.call ?_ (by with_reducible assumption) | with_reducible refine Kg.drew ?_ | with_reducible refine Kg.alloc ?_ _ | with_reducible refine Kg.call ?_ (by with_reducible assumption) | with_reducible refine Km.drew ?_ | with_reducible refine Km.alloc ?_ _ | with_reducible refine Km.call ?_ (by with_reducible assumption) | with_reducible refine Kq.drew ?_ | with_reducible refine Kq.alloc ?_ _ | with_reducible refine Kq.call ?_ (by with_reducible assumption))); have U5 : Kq (0) 1 0 0 1 w5 := (by repeat (first | with_reducible assumption | with_reducible refine KV.drew ?_ | with_reducible refine KV.alloc ?_ _ | with_reducible refine KV.call ?_ (by with_reducible assumption) | with_reducible refine Kg.drew ?_ | with_reducible refine Kg.alloc ?_ _ | with_reducible refine Kg.call ?_ (by with_reducible assumption) | with_reducible refine Km.drew ?_ | with_reducible refine Km.alloc ?_ _ | with_reducible refine Km.call ?_ (by with_reducible assumption) | with_reducible refine Kq.drew ?_ | with_reducible refine Kq.alloc ?_ _ | with_reducible refine Kq.call ?_ (by with_reducible assumption))); have M5l := M5.1; have N5l := N5.1; have R5c0 := R5.c0; have R5f0 := R5.f0; have R5c1 := R5.c1; have R5f1 := R5.f1; have R5l := R5.lt; have U5l := U5.1; have B5 : Below w.heap.size w w5 := (by repeat (first | with_reducible assumption | with_reducible refine Below.drew ?_ | with_reducible refine Below.alloc ?_ (by first | omega | (have := B2.size; simp <;> omega)) _ | with_reducible refine bstep ?_ (by with_reducible assumption))))))
    all_goals
      have M5c0 := M5.c0
      have M5c1 := M5.c1
      have M5c2 := M5.c2
      have M5c3 := M5.c3
      have M5c4 := M5.c4
      have M5c5 := M5.c5
      have M5l := M5.1
      have M5n : ¬ w.heap.size = w5.heap.size := by omega
      have N5c0 := N5.c0
      have N5c1 := N5.c1
      have N5l := N5.1
      have N5n : ¬ w.heap.size + 1 = w5.heap.size := by omega
      have R5c0 := R5.c0
      have R5c1 := R5.c1
      have R5f0 := R5.f0
      have R5f1 := R5.f1
      have R5l := R5.lt
      have R5n : ¬ w.heap.size + 1 + 1 = w5.heap.size := by omega
      have U5c0 := U5.c0
      have U5c1 := U5.c1
      have U5c2 := U5.c2
      have U5c3 := U5.c3
      have U5l := U5.1
      have U5n : ¬ 0 = w5.heap.size := by omega
      go_wp2
      refine bodyPost_ret (v := .tuple #[.agg #[.int .i64 (a * p + b * q + x), .int .i64 (c * p + d * q + y)], .int .i64 0]) (by simp [results, Tryd.results13, go_sem, *]) rfl ⟨ret_val EA.out.symm, ?_⟩
      repeat (first | with_reducible assumption | with_reducible exact Below.refl _ _ | with_reducible refine Below.setCell ?_ (by first | omega | (simp <;> omega)) _ | with_reducible refine Below.alloc ?_ (by first | omega | (simp <;> omega)) _ | with_reducible refine bstep ?_ (by with_reducible assumption) | with_reducible refine Below.drew ?_)

set_option maxRecDepth 100000 in
set_option maxHeartbeats 2000000 in
theorem implKnd_any (a b c d x y : Int) (w : World) (hU : UnitOK w) :
    Calls Tryd.prog 18 #[.agg #[.int .i64 a, .int .i64 b, .int .i64 c, .int .i64 d, .int .i64 x, .int .i64 y]] w fun e w' => e = .returned (intT (kndR a b c d x y)) ∧ Below w.heap.size w w' := by
  rcases hm : motB a b c d x y with _ | _
  · have EA := Lib.hid (show intT (kndR a b c d x y) = .tuple #[.int .i64 0, .int .i64 1] by simp [intT, kndR, hm])
    have M0 : Km (w.heap.size) a b c d x y (w.alloc (.cells #[.int .i64 a, .int .i64 b, .int .i64 c, .int .i64 d, .int .i64 x, .int .i64 y] 29)) := (Km.at (w.heap.size) rfl)
    have U0 : Kq (0) 1 0 0 1 (w.alloc (.cells #[.int .i64 a, .int .i64 b, .int .i64 c, .int .i64 d, .int .i64 x, .int .i64 y] 29)) := (hU.alloc _)
    have B0 : Below w.heap.size w (w.alloc (.cells #[.int .i64 a, .int .i64 b, .int .i64 c, .int .i64 d, .int .i64 x, .int .i64 y] 29)) := (Below.alloc (Below.refl _ _) (by first | with_reducible exact Nat.le_refl _ | (simp <;> omega)) _)
    go_enter Tryd.func18, Tryd.ntmps18
    have M0c0 := M0.c0
    have M0c1 := M0.c1
    have M0c2 := M0.c2
    have M0c3 := M0.c3
    have M0c4 := M0.c4
    have M0c5 := M0.c5
    have M0l := M0.1
    have U0c0 := U0.c0
    have U0c1 := U0.c1
    have U0c2 := U0.c2
    have U0c3 := U0.c3
    have U0l := U0.1
    go_wp2_with fail
    refine (implIsMo_any _ _ _ _ _ _ _ U0).mono ?_
    rintro e w1 ⟨rfl, hb1⟩
    have M1 : Km (w.heap.size) a b c d x y w1 := Km.call M0 hb1
    have U1 : Kq (0) 1 0 0 1 w1 := Kq.call U0 hb1
    have B1 : Below w.heap.size w w1 := bstep B0 hb1
    clear hb1 B0 M0 U0
    have M1c0 := M1.c0
    have M1c1 := M1.c1
    have M1c2 := M1.c2
    have M1c3 := M1.c3
    have M1c4 := M1.c4
    have M1c5 := M1.c5
    have M1l := M1.1
    have M1n : ¬ w.heap.size = w1.heap.size := by omega
    have U1c0 := U1.c0
    have U1c1 := U1.c1
    have U1c2 := U1.c2
    have U1c3 := U1.c3
    have U1l := U1.1
    have U1n : ¬ 0 = w1.heap.size := by omega
    go_wp2
    go_ret2
    refine ⟨ret_val EA.out.symm, ?_⟩
    repeat (first | with_reducible assumption | with_reducible exact Below.refl _ _ | with_reducible refine Below.setCell ?_ (by first | omega | (simp <;> omega)) _ | with_reducible refine Below.alloc ?_ (by first | omega | (simp <;> omega)) _ | with_reducible refine bstep ?_ (by with_reducible assumption) | with_reducible refine Below.drew ?_)
  · have EA := Lib.hid (show intT (kndR a b c d x y) = .tuple #[.int .i64 (knd a b c d x y), .int .i64 0] by simp [intT, kndR, hm])
    have M0 : Km (w.heap.size) a b c d x y (w.alloc (.cells #[.int .i64 a, .int .i64 b, .int .i64 c, .int .i64 d, .int .i64 x, .int .i64 y] 29)) := (Km.at (w.heap.size) rfl)
    have U0 : Kq (0) 1 0 0 1 (w.alloc (.cells #[.int .i64 a, .int .i64 b, .int .i64 c, .int .i64 d, .int .i64 x, .int .i64 y] 29)) := (hU.alloc _)
    have B0 : Below w.heap.size w (w.alloc (.cells #[.int .i64 a, .int .i64 b, .int .i64 c, .int .i64 d, .int .i64 x, .int .i64 y] 29)) := (Below.alloc (Below.refl _ _) (by first | with_reducible exact Nat.le_refl _ | (simp <;> omega)) _)
    go_enter Tryd.func18, Tryd.ntmps18
    have M0c0 := M0.c0
    have M0c1 := M0.c1
    have M0c2 := M0.c2
    have M0c3 := M0.c3
    have M0c4 := M0.c4
    have M0c5 := M0.c5
    have M0l := M0.1
    have U0c0 := U0.c0
    have U0c1 := U0.c1
    have U0c2 := U0.c2
    have U0c3 := U0.c3
    have U0l := U0.1
    go_wp2_with fail
    refine (implIsMo_any _ _ _ _ _ _ _ U0).mono ?_
    rintro e w1 ⟨rfl, hb1⟩
    have M1 : Km (w.heap.size) a b c d x y w1 := Km.call M0 hb1
    have U1 : Kq (0) 1 0 0 1 w1 := Kq.call U0 hb1
    have B1 : Below w.heap.size w w1 := bstep B0 hb1
    clear hb1 B0 M0 U0
    have M1c0 := M1.c0
    have M1c1 := M1.c1
    have M1c2 := M1.c2
    have M1c3 := M1.c3
    have M1c4 := M1.c4
    have M1c5 := M1.c5
    have M1l := M1.1
    have M1n : ¬ w.heap.size = w1.heap.size := by omega
    have U1c0 := U1.c0
    have U1c1 := U1.c1
    have U1c2 := U1.c2
    have U1c3 := U1.c3
    have U1l := U1.1
    have U1n : ¬ 0 = w1.heap.size := by omega
    go_wp2_with fail
    refine (motionOf_any _ _ _ _ _ _ _).mono ?_
    rintro e w2 ⟨rfl, hb2⟩
    have M2 : Km (w.heap.size) a b c d x y w2 := Km.call M1 hb2
    have U2 : Kq (0) 1 0 0 1 w2 := Kq.call U1 hb2
    have B2 : Below w.heap.size w w2 := bstep B1 hb2
    clear hb2 B1 M1 U1
    have M2c0 := M2.c0
    have M2c1 := M2.c1
    have M2c2 := M2.c2
    have M2c3 := M2.c3
    have M2c4 := M2.c4
    have M2c5 := M2.c5
    have M2l := M2.1
    have M2n : ¬ w.heap.size = w2.heap.size := by omega
    have U2c0 := U2.c0
    have U2c1 := U2.c1
    have U2c2 := U2.c2
    have U2c3 := U2.c3
    have U2l := U2.1
    have U2n : ¬ 0 = w2.heap.size := by omega
    go_wp2_with fail
    refine (kindMo_any _ _ _ _ _ _ _ hm U2).mono ?_
    rintro e w3 ⟨rfl, hb3⟩
    have M3 : Km (w.heap.size) a b c d x y w3 := Km.call M2 hb3
    have U3 : Kq (0) 1 0 0 1 w3 := Kq.call U2 hb3
    have B3 : Below w.heap.size w w3 := bstep B2 hb3
    clear hb3 B2 M2 U2
    have M3c0 := M3.c0
    have M3c1 := M3.c1
    have M3c2 := M3.c2
    have M3c3 := M3.c3
    have M3c4 := M3.c4
    have M3c5 := M3.c5
    have M3l := M3.1
    have M3n : ¬ w.heap.size = w3.heap.size := by omega
    have U3c0 := U3.c0
    have U3c1 := U3.c1
    have U3c2 := U3.c2
    have U3c3 := U3.c3
    have U3l := U3.1
    have U3n : ¬ 0 = w3.heap.size := by omega
    go_wp2
    go_ret2
    refine ⟨ret_val EA.out.symm, ?_⟩
    repeat (first | with_reducible assumption | with_reducible exact Below.refl _ _ | with_reducible refine Below.setCell ?_ (by first | omega | (simp <;> omega)) _ | with_reducible refine Below.alloc ?_ (by first | omega | (simp <;> omega)) _ | with_reducible refine bstep ?_ (by with_reducible assumption) | with_reducible refine Below.drew ?_)

set_option maxRecDepth 100000 in
set_option maxHeartbeats 2000000 in
theorem implOmo_any (a b c d x y : Int) (w : World) (hU : UnitOK w) :
    Calls Tryd.prog 20 #[.agg #[.int .i64 a, .int .i64 b, .int .i64 c, .int .i64 d, .int .i64 x, .int .i64 y]] w fun e w' => e = .returned (intT (omoR a b c d x y)) ∧ Below w.heap.size w w' := by
  rcases hm : motB a b c d x y with _ | _
  · have EA := Lib.hid (show intT (omoR a b c d x y) = .tuple #[.int .i64 0, .int .i64 1] by simp [intT, omoR, hm])
    have M0 : Km (w.heap.size) a b c d x y (w.alloc (.cells #[.int .i64 a, .int .i64 b, .int .i64 c, .int .i64 d, .int .i64 x, .int .i64 y] 29)) := (Km.at (w.heap.size) rfl)
    have U0 : Kq (0) 1 0 0 1 (w.alloc (.cells #[.int .i64 a, .int .i64 b, .int .i64 c, .int .i64 d, .int .i64 x, .int .i64 y] 29)) := (hU.alloc _)
    have B0 : Below w.heap.size w (w.alloc (.cells #[.int .i64 a, .int .i64 b, .int .i64 c, .int .i64 d, .int .i64 x, .int .i64 y] 29)) := (Below.alloc (Below.refl _ _) (by first | with_reducible exact Nat.le_refl _ | (simp <;> omega)) _)
    go_enter Tryd.func20, Tryd.ntmps20
    have M0c0 := M0.c0
    have M0c1 := M0.c1
    have M0c2 := M0.c2
    have M0c3 := M0.c3
    have M0c4 := M0.c4
    have M0c5 := M0.c5
    have M0l := M0.1
    have U0c0 := U0.c0
    have U0c1 := U0.c1
    have U0c2 := U0.c2
    have U0c3 := U0.c3
    have U0l := U0.1
    go_wp2_with fail
    refine (implIsMo_any _ _ _ _ _ _ _ U0).mono ?_
    rintro e w1 ⟨rfl, hb1⟩
    have M1 : Km (w.heap.size) a b c d x y w1 := Km.call M0 hb1
    have U1 : Kq (0) 1 0 0 1 w1 := Kq.call U0 hb1
    have B1 : Below w.heap.size w w1 := bstep B0 hb1
    clear hb1 B0 M0 U0
    have M1c0 := M1.c0
    have M1c1 := M1.c1
    have M1c2 := M1.c2
    have M1c3 := M1.c3
    have M1c4 := M1.c4
    have M1c5 := M1.c5
    have M1l := M1.1
    have M1n : ¬ w.heap.size = w1.heap.size := by omega
    have U1c0 := U1.c0
    have U1c1 := U1.c1
    have U1c2 := U1.c2
    have U1c3 := U1.c3
    have U1l := U1.1
    have U1n : ¬ 0 = w1.heap.size := by omega
    go_wp2
    go_ret2
    refine ⟨ret_val EA.out.symm, ?_⟩
    repeat (first | with_reducible assumption | with_reducible exact Below.refl _ _ | with_reducible refine Below.setCell ?_ (by first | omega | (simp <;> omega)) _ | with_reducible refine Below.alloc ?_ (by first | omega | (simp <;> omega)) _ | with_reducible refine bstep ?_ (by with_reducible assumption) | with_reducible refine Below.drew ?_)
  · have EA := Lib.hid (show intT (omoR a b c d x y) = .tuple #[.int .i64 (omoI a b c d x y), .int .i64 0] by simp [intT, omoR, hm])
    have M0 : Km (w.heap.size) a b c d x y (w.alloc (.cells #[.int .i64 a, .int .i64 b, .int .i64 c, .int .i64 d, .int .i64 x, .int .i64 y] 29)) := (Km.at (w.heap.size) rfl)
    have U0 : Kq (0) 1 0 0 1 (w.alloc (.cells #[.int .i64 a, .int .i64 b, .int .i64 c, .int .i64 d, .int .i64 x, .int .i64 y] 29)) := (hU.alloc _)
    have B0 : Below w.heap.size w (w.alloc (.cells #[.int .i64 a, .int .i64 b, .int .i64 c, .int .i64 d, .int .i64 x, .int .i64 y] 29)) := (Below.alloc (Below.refl _ _) (by first | with_reducible exact Nat.le_refl _ | (simp <;> omega)) _)
    go_enter Tryd.func20, Tryd.ntmps20
    have M0c0 := M0.c0
    have M0c1 := M0.c1
    have M0c2 := M0.c2
    have M0c3 := M0.c3
    have M0c4 := M0.c4
    have M0c5 := M0.c5
    have M0l := M0.1
    have U0c0 := U0.c0
    have U0c1 := U0.c1
    have U0c2 := U0.c2
    have U0c3 := U0.c3
    have U0l := U0.1
    go_wp2_with fail
    refine (implIsMo_any _ _ _ _ _ _ _ U0).mono ?_
    rintro e w1 ⟨rfl, hb1⟩
    have M1 : Km (w.heap.size) a b c d x y w1 := Km.call M0 hb1
    have U1 : Kq (0) 1 0 0 1 w1 := Kq.call U0 hb1
    have B1 : Below w.heap.size w w1 := bstep B0 hb1
    clear hb1 B0 M0 U0
    have M1c0 := M1.c0
    have M1c1 := M1.c1
    have M1c2 := M1.c2
    have M1c3 := M1.c3
    have M1c4 := M1.c4
    have M1c5 := M1.c5
    have M1l := M1.1
    have M1n : ¬ w.heap.size = w1.heap.size := by omega
    have U1c0 := U1.c0
    have U1c1 := U1.c1
    have U1c2 := U1.c2
    have U1c3 := U1.c3
    have U1l := U1.1
    have U1n : ¬ 0 = w1.heap.size := by omega
    go_wp2_with fail
    refine (motionOf_any _ _ _ _ _ _ _).mono ?_
    rintro e w2 ⟨rfl, hb2⟩
    have M2 : Km (w.heap.size) a b c d x y w2 := Km.call M1 hb2
    have U2 : Kq (0) 1 0 0 1 w2 := Kq.call U1 hb2
    have B2 : Below w.heap.size w w2 := bstep B1 hb2
    clear hb2 B1 M1 U1
    have M2c0 := M2.c0
    have M2c1 := M2.c1
    have M2c2 := M2.c2
    have M2c3 := M2.c3
    have M2c4 := M2.c4
    have M2c5 := M2.c5
    have M2l := M2.1
    have M2n : ¬ w.heap.size = w2.heap.size := by omega
    have U2c0 := U2.c0
    have U2c1 := U2.c1
    have U2c2 := U2.c2
    have U2c3 := U2.c3
    have U2l := U2.1
    have U2n : ¬ 0 = w2.heap.size := by omega
    go_wp2_with fail
    refine (orderMo_any _ _ _ _ _ _ _ hm U2).mono ?_
    rintro e w3 ⟨rfl, hb3⟩
    have M3 : Km (w.heap.size) a b c d x y w3 := Km.call M2 hb3
    have U3 : Kq (0) 1 0 0 1 w3 := Kq.call U2 hb3
    have B3 : Below w.heap.size w w3 := bstep B2 hb3
    clear hb3 B2 M2 U2
    have M3c0 := M3.c0
    have M3c1 := M3.c1
    have M3c2 := M3.c2
    have M3c3 := M3.c3
    have M3c4 := M3.c4
    have M3c5 := M3.c5
    have M3l := M3.1
    have M3n : ¬ w.heap.size = w3.heap.size := by omega
    have U3c0 := U3.c0
    have U3c1 := U3.c1
    have U3c2 := U3.c2
    have U3c3 := U3.c3
    have U3l := U3.1
    have U3n : ¬ 0 = w3.heap.size := by omega
    go_wp2
    go_ret2
    refine ⟨ret_val EA.out.symm, ?_⟩
    repeat (first | with_reducible assumption | with_reducible exact Below.refl _ _ | with_reducible refine Below.setCell ?_ (by first | omega | (simp <;> omega)) _ | with_reducible refine Below.alloc ?_ (by first | omega | (simp <;> omega)) _ | with_reducible refine bstep ?_ (by with_reducible assumption) | with_reducible refine Below.drew ?_)

set_option maxRecDepth 100000 in
set_option maxHeartbeats 2000000 in
theorem implTwg_any (a b c d x y : Int) (w : World) (hU : UnitOK w) :
    Calls Tryd.prog 23 #[.agg #[.int .i64 a, .int .i64 b, .int .i64 c, .int .i64 d, .int .i64 x, .int .i64 y]] w fun e w' => e = .returned (vecT (twgR a b c d x y)) ∧ Below w.heap.size w w' := by
  rcases hm : motB a b c d x y with _ | _
  · have EA := Lib.hid (show vecT (twgR a b c d x y) = .tuple #[.agg #[.int .i64 0, .int .i64 0], .int .i64 1] by simp [vecT, twgR, hm])
    have M0 : Km (w.heap.size) a b c d x y ((w.alloc (.cells #[.int .i64 a, .int .i64 b, .int .i64 c, .int .i64 d, .int .i64 x, .int .i64 y] 29)).alloc (.cells #[.int .i64 0, .int .i64 0] 27)) := ((Km.at (w.heap.size) rfl).alloc _)
    have R0 : KV (w.heap.size + 1) 0 0 ((w.alloc (.cells #[.int .i64 a, .int .i64 b, .int .i64 c, .int .i64 d, .int .i64 x, .int .i64 y] 29)).alloc (.cells #[.int .i64 0, .int .i64 0] 27)) := (KV.at (w.heap.size + 1) (by simp))
    have U0 : Kq (0) 1 0 0 1 ((w.alloc (.cells #[.int .i64 a, .int .i64 b, .int .i64 c, .int .i64 d, .int .i64 x, .int .i64 y] 29)).alloc (.cells #[.int .i64 0, .int .i64 0] 27)) := ((hU.alloc _).alloc _)
    have B0 : Below w.heap.size w ((w.alloc (.cells #[.int .i64 a, .int .i64 b, .int .i64 c, .int .i64 d, .int .i64 x, .int .i64 y] 29)).alloc (.cells #[.int .i64 0, .int .i64 0] 27)) := (Below.alloc (Below.alloc (Below.refl _ _) (by first | with_reducible exact Nat.le_refl _ | (simp <;> omega)) _) (by first | with_reducible exact Nat.le_refl _ | (simp <;> omega)) _)
    go_enter Tryd.func23, Tryd.ntmps23
    have M0c0 := M0.c0
    have M0c1 := M0.c1
    have M0c2 := M0.c2
    have M0c3 := M0.c3
    have M0c4 := M0.c4
    have M0c5 := M0.c5
    have M0l := M0.1
    have R0c0 := R0.c0
    have R0c1 := R0.c1
    have R0f0 := R0.f0
    have R0f1 := R0.f1
    have R0l := R0.lt
    have U0c0 := U0.c0
    have U0c1 := U0.c1
    have U0c2 := U0.c2
    have U0c3 := U0.c3
    have U0l := U0.1
    go_wp2_with fail
    refine (implIsMo_any _ _ _ _ _ _ _ U0).mono ?_
    rintro e w1 ⟨rfl, hb1⟩
    have M1 : Km (w.heap.size) a b c d x y w1 := Km.call M0 hb1
    have R1 : KV (w.heap.size + 1) 0 0 w1 := KV.call R0 hb1
    have U1 : Kq (0) 1 0 0 1 w1 := Kq.call U0 hb1
    have B1 : Below w.heap.size w w1 := bstep B0 hb1
    clear hb1 B0 M0 R0 U0
    have M1c0 := M1.c0
    have M1c1 := M1.c1
    have M1c2 := M1.c2
    have M1c3 := M1.c3
    have M1c4 := M1.c4
    have M1c5 := M1.c5
    have M1l := M1.1
    have M1n : ¬ w.heap.size = w1.heap.size := by omega
    have R1c0 := R1.c0
    have R1c1 := R1.c1
    have R1f0 := R1.f0
    have R1f1 := R1.f1
    have R1l := R1.lt
    have R1n : ¬ w.heap.size + 1 = w1.heap.size := by omega
    have U1c0 := U1.c0
    have U1c1 := U1.c1
    have U1c2 := U1.c2
    have U1c3 := U1.c3
    have U1l := U1.1
    have U1n : ¬ 0 = w1.heap.size := by omega
    go_wp2
    refine bodyPost_ret (v := .tuple #[.agg #[.int .i64 0, .int .i64 0], .int .i64 1]) (by simp [results, Tryd.results23, go_sem, *]) rfl ⟨ret_val EA.out.symm, ?_⟩
    repeat (first | with_reducible assumption | with_reducible exact Below.refl _ _ | with_reducible refine Below.setCell ?_ (by first | omega | (simp <;> omega)) _ | with_reducible refine Below.alloc ?_ (by first | omega | (simp <;> omega)) _ | with_reducible refine bstep ?_ (by with_reducible assumption) | with_reducible refine Below.drew ?_)
  rcases hr : reflB a b c d with _ | _
  · have EA := Lib.hid (show vecT (twgR a b c d x y) = .tuple #[.agg #[.int .i64 0, .int .i64 0], .int .i64 5] by simp [vecT, twgR, hm, hr])
    have hF0 : ∀ (W : World), Sem.run Tryd.prog (Instr.field 54 (.agg #[.int .i64 a, .int .i64 b, .int .i64 c, .int .i64 d, .int .i64 x, .int .i64 y]) 0) W = .ok (.agg #[.int .i64 a, .int .i64 b, .int .i64 c, .int .i64 d]) W := by intros; rfl
    have M0 : Km (w.heap.size) a b c d x y ((w.alloc (.cells #[.int .i64 a, .int .i64 b, .int .i64 c, .int .i64 d, .int .i64 x, .int .i64 y] 29)).alloc (.cells #[.int .i64 0, .int .i64 0] 27)) := ((Km.at (w.heap.size) rfl).alloc _)
    have R0 : KV (w.heap.size + 1) 0 0 ((w.alloc (.cells #[.int .i64 a, .int .i64 b, .int .i64 c, .int .i64 d, .int .i64 x, .int .i64 y] 29)).alloc (.cells #[.int .i64 0, .int .i64 0] 27)) := (KV.at (w.heap.size + 1) (by simp))
    have U0 : Kq (0) 1 0 0 1 ((w.alloc (.cells #[.int .i64 a, .int .i64 b, .int .i64 c, .int .i64 d, .int .i64 x, .int .i64 y] 29)).alloc (.cells #[.int .i64 0, .int .i64 0] 27)) := ((hU.alloc _).alloc _)
    have B0 : Below w.heap.size w ((w.alloc (.cells #[.int .i64 a, .int .i64 b, .int .i64 c, .int .i64 d, .int .i64 x, .int .i64 y] 29)).alloc (.cells #[.int .i64 0, .int .i64 0] 27)) := (Below.alloc (Below.alloc (Below.refl _ _) (by first | with_reducible exact Nat.le_refl _ | (simp <;> omega)) _) (by first | with_reducible exact Nat.le_refl _ | (simp <;> omega)) _)
    go_enter Tryd.func23, Tryd.ntmps23
    have M0c0 := M0.c0
    have M0c1 := M0.c1
    have M0c2 := M0.c2
    have M0c3 := M0.c3
    have M0c4 := M0.c4
    have M0c5 := M0.c5
    have M0l := M0.1
    have R0c0 := R0.c0
    have R0c1 := R0.c1
    have R0f0 := R0.f0
    have R0f1 := R0.f1
    have R0l := R0.lt
    have U0c0 := U0.c0
    have U0c1 := U0.c1
    have U0c2 := U0.c2
    have U0c3 := U0.c3
    have U0l := U0.1
    go_wp2_with fail
    refine (implIsMo_any _ _ _ _ _ _ _ U0).mono ?_
    rintro e w1 ⟨rfl, hb1⟩
    have M1 : Km (w.heap.size) a b c d x y w1 := Km.call M0 hb1
    have R1 : KV (w.heap.size + 1) 0 0 w1 := KV.call R0 hb1
    have U1 : Kq (0) 1 0 0 1 w1 := Kq.call U0 hb1
    have B1 : Below w.heap.size w w1 := bstep B0 hb1
    clear hb1 B0 M0 R0 U0
    have M1c0 := M1.c0
    have M1c1 := M1.c1
    have M1c2 := M1.c2
    have M1c3 := M1.c3
    have M1c4 := M1.c4
    have M1c5 := M1.c5
    have M1l := M1.1
    have M1n : ¬ w.heap.size = w1.heap.size := by omega
    have R1c0 := R1.c0
    have R1c1 := R1.c1
    have R1f0 := R1.f0
    have R1f1 := R1.f1
    have R1l := R1.lt
    have R1n : ¬ w.heap.size + 1 = w1.heap.size := by omega
    have U1c0 := U1.c0
    have U1c1 := U1.c1
    have U1c2 := U1.c2
    have U1c3 := U1.c3
    have U1l := U1.1
    have U1n : ¬ 0 = w1.heap.size := by omega
    go_wp2_with fail
    refine (motionOf_any _ _ _ _ _ _ _).mono ?_
    rintro e w2 ⟨rfl, hb2⟩
    have M2 : Km (w.heap.size) a b c d x y w2 := Km.call M1 hb2
    have R2 : KV (w.heap.size + 1) 0 0 w2 := KV.call R1 hb2
    have U2 : Kq (0) 1 0 0 1 w2 := Kq.call U1 hb2
    have B2 : Below w.heap.size w w2 := bstep B1 hb2
    clear hb2 B1 M1 R1 U1
    have M2c0 := M2.c0
    have M2c1 := M2.c1
    have M2c2 := M2.c2
    have M2c3 := M2.c3
    have M2c4 := M2.c4
    have M2c5 := M2.c5
    have M2l := M2.1
    have M2n : ¬ w.heap.size = w2.heap.size := by omega
    have R2c0 := R2.c0
    have R2c1 := R2.c1
    have R2f0 := R2.f0
    have R2f1 := R2.f1
    have R2l := R2.lt
    have R2n : ¬ w.heap.size + 1 = w2.heap.size := by omega
    have U2c0 := U2.c0
    have U2c1 := U2.c1
    have U2c2 := U2.c2
    have U2c3 := U2.c3
    have U2l := U2.1
    have U2n : ¬ 0 = w2.heap.size := by omega
    go_wp2_with fail
    refine (isReflection_any _ _ _ _ _ (motB_lim hm)).mono ?_
    rintro e w3 ⟨rfl, hb3⟩
    have M3 : Km (w.heap.size) a b c d x y w3 := Km.call M2 hb3
    have R3 : KV (w.heap.size + 1) 0 0 w3 := KV.call R2 hb3
    have U3 : Kq (0) 1 0 0 1 w3 := Kq.call U2 hb3
    have B3 : Below w.heap.size w w3 := bstep B2 hb3
    clear hb3 B2 M2 R2 U2
    have M3c0 := M3.c0
    have M3c1 := M3.c1
    have M3c2 := M3.c2
    have M3c3 := M3.c3
    have M3c4 := M3.c4
    have M3c5 := M3.c5
    have M3l := M3.1
    have M3n : ¬ w.heap.size = w3.heap.size := by omega
    have R3c0 := R3.c0
    have R3c1 := R3.c1
    have R3f0 := R3.f0
    have R3f1 := R3.f1
    have R3l := R3.lt
    have R3n : ¬ w.heap.size + 1 = w3.heap.size := by omega
    have U3c0 := U3.c0
    have U3c1 := U3.c1
    have U3c2 := U3.c2
    have U3c3 := U3.c3
    have U3l := U3.1
    have U3n : ¬ 0 = w3.heap.size := by omega
    go_wp2
    refine bodyPost_ret (v := .tuple #[.agg #[.int .i64 0, .int .i64 0], .int .i64 5]) (by simp [results, Tryd.results23, go_sem, *]) rfl ⟨ret_val EA.out.symm, ?_⟩
    repeat (first | with_reducible assumption | with_reducible exact Below.refl _ _ | with_reducible refine Below.setCell ?_ (by first | omega | (simp <;> omega)) _ | with_reducible refine Below.alloc ?_ (by first | omega | (simp <;> omega)) _ | with_reducible refine bstep ?_ (by with_reducible assumption) | with_reducible refine Below.drew ?_)
  rcases hs : vecB (a * x + b * y + x) (c * x + d * y + y) with _ | _
  · have EA := Lib.hid (show vecT (twgR a b c d x y) = .tuple #[.agg #[.int .i64 0, .int .i64 0], .int .i64 3] by simp [vecT, twgR, hm, hr, hs])
    have hF0 : ∀ (W : World), Sem.run Tryd.prog (Instr.field 54 (.agg #[.int .i64 a, .int .i64 b, .int .i64 c, .int .i64 d, .int .i64 x, .int .i64 y]) 0) W = .ok (.agg #[.int .i64 a, .int .i64 b, .int .i64 c, .int .i64 d]) W := by intros; rfl
    have M0 : Km (w.heap.size) a b c d x y ((w.alloc (.cells #[.int .i64 a, .int .i64 b, .int .i64 c, .int .i64 d, .int .i64 x, .int .i64 y] 29)).alloc (.cells #[.int .i64 0, .int .i64 0] 27)) := ((Km.at (w.heap.size) rfl).alloc _)
    have R0 : KV (w.heap.size + 1) 0 0 ((w.alloc (.cells #[.int .i64 a, .int .i64 b, .int .i64 c, .int .i64 d, .int .i64 x, .int .i64 y] 29)).alloc (.cells #[.int .i64 0, .int .i64 0] 27)) := (KV.at (w.heap.size + 1) (by simp))
    have U0 : Kq (0) 1 0 0 1 ((w.alloc (.cells #[.int .i64 a, .int .i64 b, .int .i64 c, .int .i64 d, .int .i64 x, .int .i64 y] 29)).alloc (.cells #[.int .i64 0, .int .i64 0] 27)) := ((hU.alloc _).alloc _)
    have B0 : Below w.heap.size w ((w.alloc (.cells #[.int .i64 a, .int .i64 b, .int .i64 c, .int .i64 d, .int .i64 x, .int .i64 y] 29)).alloc (.cells #[.int .i64 0, .int .i64 0] 27)) := (Below.alloc (Below.alloc (Below.refl _ _) (by first | with_reducible exact Nat.le_refl _ | (simp <;> omega)) _) (by first | with_reducible exact Nat.le_refl _ | (simp <;> omega)) _)
    go_enter Tryd.func23, Tryd.ntmps23
    have M0c0 := M0.c0
    have M0c1 := M0.c1
    have M0c2 := M0.c2
    have M0c3 := M0.c3
    have M0c4 := M0.c4
    have M0c5 := M0.c5
    have M0l := M0.1
    have R0c0 := R0.c0
    have R0c1 := R0.c1
    have R0f0 := R0.f0
    have R0f1 := R0.f1
    have R0l := R0.lt
    have U0c0 := U0.c0
    have U0c1 := U0.c1
    have U0c2 := U0.c2
    have U0c3 := U0.c3
    have U0l := U0.1
    go_wp2_with fail
    refine (implIsMo_any _ _ _ _ _ _ _ U0).mono ?_
    rintro e w1 ⟨rfl, hb1⟩
    have M1 : Km (w.heap.size) a b c d x y w1 := Km.call M0 hb1
    have R1 : KV (w.heap.size + 1) 0 0 w1 := KV.call R0 hb1
    have U1 : Kq (0) 1 0 0 1 w1 := Kq.call U0 hb1
    have B1 : Below w.heap.size w w1 := bstep B0 hb1
    clear hb1 B0 M0 R0 U0
    have M1c0 := M1.c0
    have M1c1 := M1.c1
    have M1c2 := M1.c2
    have M1c3 := M1.c3
    have M1c4 := M1.c4
    have M1c5 := M1.c5
    have M1l := M1.1
    have M1n : ¬ w.heap.size = w1.heap.size := by omega
    have R1c0 := R1.c0
    have R1c1 := R1.c1
    have R1f0 := R1.f0
    have R1f1 := R1.f1
    have R1l := R1.lt
    have R1n : ¬ w.heap.size + 1 = w1.heap.size := by omega
    have U1c0 := U1.c0
    have U1c1 := U1.c1
    have U1c2 := U1.c2
    have U1c3 := U1.c3
    have U1l := U1.1
    have U1n : ¬ 0 = w1.heap.size := by omega
    go_wp2_with fail
    refine (motionOf_any _ _ _ _ _ _ _).mono ?_
    rintro e w2 ⟨rfl, hb2⟩
    have M2 : Km (w.heap.size) a b c d x y w2 := Km.call M1 hb2
    have R2 : KV (w.heap.size + 1) 0 0 w2 := KV.call R1 hb2
    have U2 : Kq (0) 1 0 0 1 w2 := Kq.call U1 hb2
    have B2 : Below w.heap.size w w2 := bstep B1 hb2
    clear hb2 B1 M1 R1 U1
    have M2c0 := M2.c0
    have M2c1 := M2.c1
    have M2c2 := M2.c2
    have M2c3 := M2.c3
    have M2c4 := M2.c4
    have M2c5 := M2.c5
    have M2l := M2.1
    have M2n : ¬ w.heap.size = w2.heap.size := by omega
    have R2c0 := R2.c0
    have R2c1 := R2.c1
    have R2f0 := R2.f0
    have R2f1 := R2.f1
    have R2l := R2.lt
    have R2n : ¬ w.heap.size + 1 = w2.heap.size := by omega
    have U2c0 := U2.c0
    have U2c1 := U2.c1
    have U2c2 := U2.c2
    have U2c3 := U2.c3
    have U2l := U2.1
    have U2n : ¬ 0 = w2.heap.size := by omega
    go_wp2_with fail
    refine (isReflection_any _ _ _ _ _ (motB_lim hm)).mono ?_
    rintro e w3 ⟨rfl, hb3⟩
    have M3 : Km (w.heap.size) a b c d x y w3 := Km.call M2 hb3
    have R3 : KV (w.heap.size + 1) 0 0 w3 := KV.call R2 hb3
    have U3 : Kq (0) 1 0 0 1 w3 := Kq.call U2 hb3
    have B3 : Below w.heap.size w w3 := bstep B2 hb3
    clear hb3 B2 M2 R2 U2
    have M3c0 := M3.c0
    have M3c1 := M3.c1
    have M3c2 := M3.c2
    have M3c3 := M3.c3
    have M3c4 := M3.c4
    have M3c5 := M3.c5
    have M3l := M3.1
    have M3n : ¬ w.heap.size = w3.heap.size := by omega
    have R3c0 := R3.c0
    have R3c1 := R3.c1
    have R3f0 := R3.f0
    have R3f1 := R3.f1
    have R3l := R3.lt
    have R3n : ¬ w.heap.size + 1 = w3.heap.size := by omega
    have U3c0 := U3.c0
    have U3c1 := U3.c1
    have U3c2 := U3.c2
    have U3c3 := U3.c3
    have U3l := U3.1
    have U3n : ¬ 0 = w3.heap.size := by omega
    go_wp2_with fail
    refine (motionOf_any _ _ _ _ _ _ _).mono ?_
    rintro e w4 ⟨rfl, hb4⟩
    have M4 : Km (w.heap.size) a b c d x y w4 := Km.call M3 hb4
    have R4 : KV (w.heap.size + 1) 0 0 w4 := KV.call R3 hb4
    have U4 : Kq (0) 1 0 0 1 w4 := Kq.call U3 hb4
    have B4 : Below w.heap.size w w4 := bstep B3 hb4
    clear hb4 B3 M3 R3 U3
    have M4c0 := M4.c0
    have M4c1 := M4.c1
    have M4c2 := M4.c2
    have M4c3 := M4.c3
    have M4c4 := M4.c4
    have M4c5 := M4.c5
    have M4l := M4.1
    have M4n : ¬ w.heap.size = w4.heap.size := by omega
    have R4c0 := R4.c0
    have R4c1 := R4.c1
    have R4f0 := R4.f0
    have R4f1 := R4.f1
    have R4l := R4.lt
    have R4n : ¬ w.heap.size + 1 = w4.heap.size := by omega
    have U4c0 := U4.c0
    have U4c1 := U4.c1
    have U4c2 := U4.c2
    have U4c3 := U4.c3
    have U4l := U4.1
    have U4n : ¬ 0 = w4.heap.size := by omega
    go_wp2_with fail
    refine (twiceMo_any _ _ _ _ _ _ _ (motB_lim hm) (motB_vec hm)).mono ?_
    rintro e w5 ⟨rfl, hb5⟩
    have M5 : Km (w.heap.size) a b c d x y w5 := Km.call M4 hb5
    have R5 : KV (w.heap.size + 1) 0 0 w5 := KV.call R4 hb5
    have U5 : Kq (0) 1 0 0 1 w5 := Kq.call U4 hb5
    have B5 : Below w.heap.size w w5 := bstep B4 hb5
    clear hb5 B4 M4 R4 U4
    have M5c0 := M5.c0
    have M5c1 := M5.c1
    have M5c2 := M5.c2
    have M5c3 := M5.c3
    have M5c4 := M5.c4
    have M5c5 := M5.c5
    have M5l := M5.1
    have M5n : ¬ w.heap.size = w5.heap.size := by omega
    have R5c0 := R5.c0
    have R5c1 := R5.c1
    have R5f0 := R5.f0
    have R5f1 := R5.f1
    have R5l := R5.lt
    have R5n : ¬ w.heap.size + 1 = w5.heap.size := by omega
    have U5c0 := U5.c0
    have U5c1 := U5.c1
    have U5c2 := U5.c2
    have U5c3 := U5.c3
    have U5l := U5.1
    have U5n : ¬ 0 = w5.heap.size := by omega
    go_wp2_with fail
    refine (limitedVec_no _ _ _ hs).mono ?_
    rintro e w6 ⟨rfl, hb6⟩
    have M6 : Km (w.heap.size) a b c d x y w6 := Km.call M5 hb6
    have R6 : KV (w.heap.size + 1) 0 0 w6 := KV.call R5 hb6
    have U6 : Kq (0) 1 0 0 1 w6 := Kq.call U5 hb6
    have B6 : Below w.heap.size w w6 := bstep B5 hb6
    clear hb6 B5 M5 R5 U5
    have M6c0 := M6.c0
    have M6c1 := M6.c1
    have M6c2 := M6.c2
    have M6c3 := M6.c3
    have M6c4 := M6.c4
    have M6c5 := M6.c5
    have M6l := M6.1
    have M6n : ¬ w.heap.size = w6.heap.size := by omega
    have R6c0 := R6.c0
    have R6c1 := R6.c1
    have R6f0 := R6.f0
    have R6f1 := R6.f1
    have R6l := R6.lt
    have R6n : ¬ w.heap.size + 1 = w6.heap.size := by omega
    have U6c0 := U6.c0
    have U6c1 := U6.c1
    have U6c2 := U6.c2
    have U6c3 := U6.c3
    have U6l := U6.1
    have U6n : ¬ 0 = w6.heap.size := by omega
    go_wp2
    refine bodyPost_ret (v := .tuple #[.agg #[.int .i64 0, .int .i64 0], .int .i64 3]) (by simp [results, Tryd.results23, go_sem, *]) rfl ⟨ret_val EA.out.symm, ?_⟩
    repeat (first | with_reducible assumption | with_reducible exact Below.refl _ _ | with_reducible refine Below.setCell ?_ (by first | omega | (simp <;> omega)) _ | with_reducible refine Below.alloc ?_ (by first | omega | (simp <;> omega)) _ | with_reducible refine bstep ?_ (by with_reducible assumption) | with_reducible refine Below.drew ?_)
  · have EA := Lib.hid (show vecT (twgR a b c d x y) = .tuple #[.agg #[.int .i64 (a * x + b * y + x), .int .i64 (c * x + d * y + y)], .int .i64 0] by simp [vecT, twgR, hm, hr, hs])
    have hF0 : ∀ (W : World), Sem.run Tryd.prog (Instr.field 54 (.agg #[.int .i64 a, .int .i64 b, .int .i64 c, .int .i64 d, .int .i64 x, .int .i64 y]) 0) W = .ok (.agg #[.int .i64 a, .int .i64 b, .int .i64 c, .int .i64 d]) W := by intros; rfl
    have M0 : Km (w.heap.size) a b c d x y ((w.alloc (.cells #[.int .i64 a, .int .i64 b, .int .i64 c, .int .i64 d, .int .i64 x, .int .i64 y] 29)).alloc (.cells #[.int .i64 0, .int .i64 0] 27)) := ((Km.at (w.heap.size) rfl).alloc _)
    have R0 : KV (w.heap.size + 1) 0 0 ((w.alloc (.cells #[.int .i64 a, .int .i64 b, .int .i64 c, .int .i64 d, .int .i64 x, .int .i64 y] 29)).alloc (.cells #[.int .i64 0, .int .i64 0] 27)) := (KV.at (w.heap.size + 1) (by simp))
    have U0 : Kq (0) 1 0 0 1 ((w.alloc (.cells #[.int .i64 a, .int .i64 b, .int .i64 c, .int .i64 d, .int .i64 x, .int .i64 y] 29)).alloc (.cells #[.int .i64 0, .int .i64 0] 27)) := ((hU.alloc _).alloc _)
    have B0 : Below w.heap.size w ((w.alloc (.cells #[.int .i64 a, .int .i64 b, .int .i64 c, .int .i64 d, .int .i64 x, .int .i64 y] 29)).alloc (.cells #[.int .i64 0, .int .i64 0] 27)) := (Below.alloc (Below.alloc (Below.refl _ _) (by first | with_reducible exact Nat.le_refl _ | (simp <;> omega)) _) (by first | with_reducible exact Nat.le_refl _ | (simp <;> omega)) _)
    go_enter Tryd.func23, Tryd.ntmps23
    have M0c0 := M0.c0
    have M0c1 := M0.c1
    have M0c2 := M0.c2
    have M0c3 := M0.c3
    have M0c4 := M0.c4
    have M0c5 := M0.c5
    have M0l := M0.1
    have R0c0 := R0.c0
    have R0c1 := R0.c1
    have R0f0 := R0.f0
    have R0f1 := R0.f1
    have R0l := R0.lt
    have U0c0 := U0.c0
    have U0c1 := U0.c1
    have U0c2 := U0.c2
    have U0c3 := U0.c3
    have U0l := U0.1
    go_wp2_with fail
    refine (implIsMo_any _ _ _ _ _ _ _ U0).mono ?_
    rintro e w1 ⟨rfl, hb1⟩
    have M1 : Km (w.heap.size) a b c d x y w1 := Km.call M0 hb1
    have R1 : KV (w.heap.size + 1) 0 0 w1 := KV.call R0 hb1
    have U1 : Kq (0) 1 0 0 1 w1 := Kq.call U0 hb1
    have B1 : Below w.heap.size w w1 := bstep B0 hb1
    clear hb1 B0 M0 R0 U0
    have M1c0 := M1.c0
    have M1c1 := M1.c1
    have M1c2 := M1.c2
    have M1c3 := M1.c3
    have M1c4 := M1.c4
    have M1c5 := M1.c5
    have M1l := M1.1
    have M1n : ¬ w.heap.size = w1.heap.size := by omega
    have R1c0 := R1.c0
    have R1c1 := R1.c1
    have R1f0 := R1.f0
    have R1f1 := R1.f1
    have R1l := R1.lt
    have R1n : ¬ w.heap.size + 1 = w1.heap.size := by omega
    have U1c0 := U1.c0
    have U1c1 := U1.c1
    have U1c2 := U1.c2
    have U1c3 := U1.c3
    have U1l := U1.1
    have U1n : ¬ 0 = w1.heap.size := by omega
    go_wp2_with fail
    refine (motionOf_any _ _ _ _ _ _ _).mono ?_
    rintro e w2 ⟨rfl, hb2⟩
    have M2 : Km (w.heap.size) a b c d x y w2 := Km.call M1 hb2
    have R2 : KV (w.heap.size + 1) 0 0 w2 := KV.call R1 hb2
    have U2 : Kq (0) 1 0 0 1 w2 := Kq.call U1 hb2
    have B2 : Below w.heap.size w w2 := bstep B1 hb2
    clear hb2 B1 M1 R1 U1
    have M2c0 := M2.c0
    have M2c1 := M2.c1
    have M2c2 := M2.c2
    have M2c3 := M2.c3
    have M2c4 := M2.c4
    have M2c5 := M2.c5
    have M2l := M2.1
    have M2n : ¬ w.heap.size = w2.heap.size := by omega
    have R2c0 := R2.c0
    have R2c1 := R2.c1
    have R2f0 := R2.f0
    have R2f1 := R2.f1
    have R2l := R2.lt
    have R2n : ¬ w.heap.size + 1 = w2.heap.size := by omega
    have U2c0 := U2.c0
    have U2c1 := U2.c1
    have U2c2 := U2.c2
    have U2c3 := U2.c3
    have U2l := U2.1
    have U2n : ¬ 0 = w2.heap.size := by omega
    go_wp2_with fail
    refine (isReflection_any _ _ _ _ _ (motB_lim hm)).mono ?_
    rintro e w3 ⟨rfl, hb3⟩
    have M3 : Km (w.heap.size) a b c d x y w3 := Km.call M2 hb3
    have R3 : KV (w.heap.size + 1) 0 0 w3 := KV.call R2 hb3
    have U3 : Kq (0) 1 0 0 1 w3 := Kq.call U2 hb3
    have B3 : Below w.heap.size w w3 := bstep B2 hb3
    clear hb3 B2 M2 R2 U2
    have M3c0 := M3.c0
    have M3c1 := M3.c1
    have M3c2 := M3.c2
    have M3c3 := M3.c3
    have M3c4 := M3.c4
    have M3c5 := M3.c5
    have M3l := M3.1
    have M3n : ¬ w.heap.size = w3.heap.size := by omega
    have R3c0 := R3.c0
    have R3c1 := R3.c1
    have R3f0 := R3.f0
    have R3f1 := R3.f1
    have R3l := R3.lt
    have R3n : ¬ w.heap.size + 1 = w3.heap.size := by omega
    have U3c0 := U3.c0
    have U3c1 := U3.c1
    have U3c2 := U3.c2
    have U3c3 := U3.c3
    have U3l := U3.1
    have U3n : ¬ 0 = w3.heap.size := by omega
    go_wp2_with fail
    refine (motionOf_any _ _ _ _ _ _ _).mono ?_
    rintro e w4 ⟨rfl, hb4⟩
    have M4 : Km (w.heap.size) a b c d x y w4 := Km.call M3 hb4
    have R4 : KV (w.heap.size + 1) 0 0 w4 := KV.call R3 hb4
    have U4 : Kq (0) 1 0 0 1 w4 := Kq.call U3 hb4
    have B4 : Below w.heap.size w w4 := bstep B3 hb4
    clear hb4 B3 M3 R3 U3
    have M4c0 := M4.c0
    have M4c1 := M4.c1
    have M4c2 := M4.c2
    have M4c3 := M4.c3
    have M4c4 := M4.c4
    have M4c5 := M4.c5
    have M4l := M4.1
    have M4n : ¬ w.heap.size = w4.heap.size := by omega
    have R4c0 := R4.c0
    have R4c1 := R4.c1
    have R4f0 := R4.f0
    have R4f1 := R4.f1
    have R4l := R4.lt
    have R4n : ¬ w.heap.size + 1 = w4.heap.size := by omega
    have U4c0 := U4.c0
    have U4c1 := U4.c1
    have U4c2 := U4.c2
    have U4c3 := U4.c3
    have U4l := U4.1
    have U4n : ¬ 0 = w4.heap.size := by omega
    go_wp2_with fail
    refine (twiceMo_any _ _ _ _ _ _ _ (motB_lim hm) (motB_vec hm)).mono ?_
    rintro e w5 ⟨rfl, hb5⟩
    have M5 : Km (w.heap.size) a b c d x y w5 := Km.call M4 hb5
    have R5 : KV (w.heap.size + 1) 0 0 w5 := KV.call R4 hb5
    have U5 : Kq (0) 1 0 0 1 w5 := Kq.call U4 hb5
    have B5 : Below w.heap.size w w5 := bstep B4 hb5
    clear hb5 B4 M4 R4 U4
    have M5c0 := M5.c0
    have M5c1 := M5.c1
    have M5c2 := M5.c2
    have M5c3 := M5.c3
    have M5c4 := M5.c4
    have M5c5 := M5.c5
    have M5l := M5.1
    have M5n : ¬ w.heap.size = w5.heap.size := by omega
    have R5c0 := R5.c0
    have R5c1 := R5.c1
    have R5f0 := R5.f0
    have R5f1 := R5.f1
    have R5l := R5.lt
    have R5n : ¬ w.heap.size + 1 = w5.heap.size := by omega
    have U5c0 := U5.c0
    have U5c1 := U5.c1
    have U5c2 := U5.c2
    have U5c3 := U5.c3
    have U5l := U5.1
    have U5n : ¬ 0 = w5.heap.size := by omega
    go_wp2_with fail
    refine (limitedVec_yes _ _ _ hs).mono ?_
    rintro e w6 ⟨rfl, hb6⟩
    have M6 : Km (w.heap.size) a b c d x y w6 := Km.call M5 hb6
    have R6 : KV (w.heap.size + 1) 0 0 w6 := KV.call R5 hb6
    have U6 : Kq (0) 1 0 0 1 w6 := Kq.call U5 hb6
    have B6 : Below w.heap.size w w6 := bstep B5 hb6
    clear hb6 B5 M5 R5 U5
    have M6c0 := M6.c0
    have M6c1 := M6.c1
    have M6c2 := M6.c2
    have M6c3 := M6.c3
    have M6c4 := M6.c4
    have M6c5 := M6.c5
    have M6l := M6.1
    have M6n : ¬ w.heap.size = w6.heap.size := by omega
    have R6c0 := R6.c0
    have R6c1 := R6.c1
    have R6f0 := R6.f0
    have R6f1 := R6.f1
    have R6l := R6.lt
    have R6n : ¬ w.heap.size + 1 = w6.heap.size := by omega
    have U6c0 := U6.c0
    have U6c1 := U6.c1
    have U6c2 := U6.c2
    have U6c3 := U6.c3
    have U6l := U6.1
    have U6n : ¬ 0 = w6.heap.size := by omega
    go_wp2
    refine bodyPost_ret (v := .tuple #[.agg #[.int .i64 (a * x + b * y + x), .int .i64 (c * x + d * y + y)], .int .i64 0]) (by simp [results, Tryd.results23, go_sem, *]) rfl ⟨ret_val EA.out.symm, ?_⟩
    repeat (first | with_reducible assumption | with_reducible exact Below.refl _ _ | with_reducible refine Below.setCell ?_ (by first | omega | (simp <;> omega)) _ | with_reducible refine Below.alloc ?_ (by first | omega | (simp <;> omega)) _ | with_reducible refine bstep ?_ (by with_reducible assumption) | with_reducible refine Below.drew ?_)

end Go.Proofs.YtpdekopmnchanabDoor
