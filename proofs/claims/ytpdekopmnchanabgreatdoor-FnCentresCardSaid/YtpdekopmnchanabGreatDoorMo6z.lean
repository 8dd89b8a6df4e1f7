/-
  Contracts of chapter 5's CentreOf: the program's function and the model's have one and the same answer, without its exact law's walk. Condition: the program's variable unitMatrix holds the unit.
-/
import Derived.Test.YtpdekopmnchanabGreatDoorMo2
import Derived.Test.YtpdekopmnchanabGreatDoorMo3
import Derived.Deep.RegionHeld3
namespace Go.Proofs.YtpdekopmnchanabGreatDoor
open Go.RowKit
set_option linter.unusedSimpArgs false
set_option linter.unusedVariables false

set_option maxRecDepth 100000 in
set_option maxHeartbeats 2000000 in
theorem l05Centre_any (a b c d x y : Int) (w : World) (h : motB a b c d x y = true) (hk : knd a b c d x y = 2) :
    Calls Tryz.prog 22 #[.agg #[.int .i64 a, .int .i64 b, .int .i64 c, .int .i64 d, .int .i64 x, .int .i64 y]] w fun e w' => e = .returned (.tuple #[.agg #[.int .i64 ((ceX a b c d x y).tdiv (ceG a b c d x y)), .int .i64 ((ceY a b c d x y).tdiv (ceG a b c d x y))], .int .i64 ((2 - (a + d)).tdiv (ceG a b c d x y))]) ∧ Below w.heap.size w w' := by
  obtain ⟨hd1, t1, t2⟩ := rot_of h hk
  obtain ⟨b1, b2⟩ := ce_bd h
  obtain ⟨g1, g2⟩ := ceG_pos h hk
  have gb := gcdI_big (a := ceX a b c d x y) (b := ceY a b c d x y) (M := 2100000) (by omega) (by omega)
  have eX : (1 - d) * x - -b * y = ceX a b c d x y := by unfold ceX; rw [Int.neg_mul]; omega
  have eY : (1 - a) * y - -c * x = ceY a b c d x y := by unfold ceY; rw [Int.neg_mul]; omega
  have eD : (1 - a) * (1 - d) - -b * -c = 2 - (a + d) := by
    have : (1 - a) * (1 - d) - -b * -c = 1 - a - d + (a * d - b * c) := by grind
    rw [this, hd1]; omega
  obtain ⟨⟨ha, hb⟩, hc, hd⟩ := limB_bd (motB_lim h)
  obtain ⟨hx, hy⟩ := vecB_bd (motB_vec h)
  have p1 := mulBd (a := 1 - a) (b := 1 - d) (A := 1001) (B := 1001) (by omega) (by omega) (by omega) (by omega)
  have p2 := mulBd (a := -b) (b := -c) (A := 1000) (B := 1000) (by omega) (by omega) (by omega) (by omega)
  have p3 := mulBd (a := 1 - d) (b := x) (A := 1001) (B := 1000) (by omega) (by omega) (by omega) (by omega)
  have p4 := mulBd (a := -b) (b := y) (A := 1000) (B := 1000) (by omega) (by omega) (by omega) (by omega)
  have p5 := mulBd (a := 1 - a) (b := y) (A := 1001) (B := 1000) (by omega) (by omega) (by omega) (by omega)
  have p6 := mulBd (a := -c) (b := x) (A := 1000) (B := 1000) (by omega) (by omega) (by omega) (by omega)
  clear h hk hd1
  have M0 : Km (w.heap.size) a b c d x y ((w.alloc (.cells #[.int .i64 a, .int .i64 b, .int .i64 c, .int .i64 d, .int .i64 x, .int .i64 y] 29)).alloc (.cells #[.int .i64 0, .int .i64 0] 27)) := ((Km.at (w.heap.size) rfl).alloc _)
  have R0 : KV (w.heap.size + 1) 0 0 ((w.alloc (.cells #[.int .i64 a, .int .i64 b, .int .i64 c, .int .i64 d, .int .i64 x, .int .i64 y] 29)).alloc (.cells #[.int .i64 0, .int .i64 0] 27)) := (KV.at (w.heap.size + 1) (by simp))
  have B0 : Below w.heap.size w ((w.alloc (.cells #[.int .i64 a, .int .i64 b, .int .i64 c, .int .i64 d, .int .i64 x, .int .i64 y] 29)).alloc (.cells #[.int .i64 0, .int .i64 0] 27)) := (Below.alloc (Below.alloc (Below.refl _ _) (by first | with_reducible exact Nat.le_refl _ | (simp <;> omega)) _) (by first | with_reducible exact Nat.le_refl _ | (simp <;> omega)) _)
  go_enter Tryz.func22, Tryz.ntmps22
  have M0c0 := M0.c0
  have M0c1 := M0.c1
  have M0c2 := M0.c2
  have M0c3 := M0.c3
  have M0c4 := M0.c4
  have M0c5 := M0.c5
  have M0l := M0.1
  have R0c0 := R0.c0
  have R0c1 := R0.c1
  have R0f0 := R0.f0
  have R0f1 := R0.f1
  have R0l := R0.lt
  go_wp2_with fail
  go_region_held3 (fun W => (W.cell? ⟨w.heap.size, 0, none⟩ = some (.int .i64 a) ∧ W.cell? ⟨w.heap.size, 1, none⟩ = some (.int .i64 b) ∧ W.cell? ⟨w.heap.size, 2, none⟩ = some (.int .i64 c) ∧ W.cell? ⟨w.heap.size, 3, none⟩ = some (.int .i64 d) ∧ W.cell? ⟨w.heap.size, 4, none⟩ = some (.int .i64 x) ∧ W.cell? ⟨w.heap.size, 5, none⟩ = some (.int .i64 y))) ((refine Km.cells ?_; repeat (first | with_reducible assumption | with_reducible refine Km.drew ?_ | with_reducible refine Km.alloc ?_ _ | with_reducible refine Km.call ?_ (by with_reducible assumption) | ((with_reducible refine Km.put ?_ ?_); (first | omega | (dsimp only; omega))) | ((with_reducible refine Km.far ?_ ?_); (first | omega | (dsimp only; omega)))))) (fail)
  go_wp2_with fail
  refine (divisorBigB_any _ _ _ (by omega) (by omega) (by omega) (by omega)).mono ?_
  rintro e w1 ⟨rfl, hb1⟩
  have R1 : KV (w.heap.size + 1) 0 0 w1 := by repeat (first | with_reducible assumption | with_reducible refine KV.drew ?_ | with_reducible refine KV.alloc ?_ _ | with_reducible refine KV.call ?_ (by with_reducible assumption))
  have C1 : KV (w.heap.size + 1 + 1) (ceX a b c d x y) (ceY a b c d x y) w1 := by repeat (first | with_reducible assumption | (with_reducible exact KV.at _ (by first | with_reducible rfl | (simp; done) | fail)) | with_reducible refine KV.drew ?_ | with_reducible refine KV.alloc ?_ _ | with_reducible refine KV.call ?_ (by with_reducible assumption))
  have B1 : Below w.heap.size w w1 := by repeat (first | with_reducible assumption | with_reducible exact Below.refl _ _ | with_reducible refine Below.setCell ?_ (by first | omega | (simp <;> omega)) _ | with_reducible refine Below.alloc ?_ (by first | omega | (simp <;> omega)) _ | with_reducible refine bstep ?_ (by with_reducible assumption) | with_reducible refine Below.drew ?_)
  clear hb1 M0 R0 B0
  have tX := tdiv_le g1 2100000 (by omega) b1
  have tY := tdiv_le g1 2100000 (by omega) b2
  have tD := tdiv_le (a := 2 - (a + d)) g1 4 (by omega) (by omega)
  have hgE : gcdI (gcdI (ceX a b c d x y) (ceY a b c d x y)) (2 - (a + d)) = ceG a b c d x y := rfl
  clear eX eY eD p1 p2 p3 p4 p5 p6 ha hb hc hd hx hy
  generalize hXe : ceX a b c d x y = X at *
  generalize hYe : ceY a b c d x y = Y at *
  generalize hDe : 2 - (a + d) = D at *
  generalize hGe : ceG a b c d x y = G at *
  have n21 : ¬ w.heap.size + 1 + 1 = w.heap.size + 1 := by omega
  have R1c0 := R1.c0
  have R1c1 := R1.c1
  have R1f0 := R1.f0
  have R1f1 := R1.f1
  have R1l := R1.lt
  have R1n : ¬ w.heap.size + 1 = w1.heap.size := by omega
  have C1c0 := C1.c0
  have C1c1 := C1.c1
  have C1f0 := C1.f0
  have C1f1 := C1.f1
  have C1l := C1.lt
  have C1n : ¬ w.heap.size + 1 + 1 = w1.heap.size := by omega
  go_wp2_with fail
  refine (divisorBigB_any _ _ _ (by omega) (by omega) (by omega) (by omega)).mono ?_
  rintro e w2 ⟨rfl, hb2⟩
  have R2 : KV (w.heap.size + 1) 0 0 w2 := KV.call R1 hb2
  have C2 : KV (w.heap.size + 1 + 1) X Y w2 := KV.call C1 hb2
  have B2 : Below w.heap.size w w2 := bstep B1 hb2
  clear hb2 B1 R1 C1
  have R2c0 := R2.c0
  have R2c1 := R2.c1
  have R2f0 := R2.f0
  have R2f1 := R2.f1
  have R2l := R2.lt
  have R2n : ¬ w.heap.size + 1 = w2.heap.size := by omega
  have C2c0 := C2.c0
  have C2c1 := C2.c1
  have C2f0 := C2.f0
  have C2f1 := C2.f1
  have C2l := C2.lt
  have C2n : ¬ w.heap.size + 1 + 1 = w2.heap.size := by omega
  rw [hgE]
  have hw1 : IntKind.i64.wrap (X.tdiv G) = X.tdiv G := IntWalk.i64_in _ (by omega)
  have hw2 : IntKind.i64.wrap (Y.tdiv G) = Y.tdiv G := IntWalk.i64_in _ (by omega)
  have hw3 : IntKind.i64.wrap (D.tdiv G) = D.tdiv G := IntWalk.i64_in _ (by omega)
  have hz0 : ¬ G = 0 := by omega
  have hd0 : ¬ D < 0 := by omega
  clear tX tY tD hgE gb b1 b2 t1 t2 g1 g2
  go_wp2_with fail
  go_region_held3 (fun W => (W.cell? ⟨w.heap.size + 1 + 1, 0, none⟩ = some (.int .i64 X) ∧ W.cell? ⟨w.heap.size + 1 + 1, 1, none⟩ = some (.int .i64 Y))) ((refine KV.cells5 (R := w.heap.size + 1 + 1) ?_; repeat (first | with_reducible assumption | with_reducible refine KV.drew ?_ | with_reducible refine KV.alloc ?_ _ | with_reducible refine KV.call ?_ (by with_reducible assumption) | ((with_reducible refine KV.put ?_ ?_); (first | omega | (dsimp only; omega))) | ((with_reducible refine KV.far5 ?_ ?_); (first | omega | (dsimp only; omega)))))) (fail)
  all_goals
    go_wp2
    refine bodyPost_ret (v := .tuple #[.agg #[.int .i64 (X.tdiv G), .int .i64 (Y.tdiv G)], .int .i64 (D.tdiv G)]) (by simp [results, Tryz.results22, go_sem, *]) rfl ⟨by rw [hXe, hYe, hDe, hGe], ?_⟩
    repeat (first | with_reducible assumption | with_reducible exact Below.refl _ _ | with_reducible refine Below.setCell ?_ (by first | omega | (simp <;> omega)) _ | with_reducible refine Below.alloc ?_ (by first | omega | (simp <;> omega)) _ | with_reducible refine bstep ?_ (by with_reducible assumption) | with_reducible refine Below.drew ?_)

set_option maxRecDepth 100000 in
set_option maxHeartbeats 2000000 in
theorem implCen_any (a b c d x y : Int) (w : World) (hU : UnitOK w) :
    Calls Tryz.prog 6 #[.agg #[.int .i64 a, .int .i64 b, .int .i64 c, .int .i64 d, .int .i64 x, .int .i64 y]] w fun e w' => e = .returned (cenT (cenR a b c d x y)) ∧ Below w.heap.size w w' := by
  rcases hm : motB a b c d x y with _ | _
  · have EA := Lib.hid (show cenT (cenR a b c d x y) = .tuple #[.agg #[.int .i64 0, .int .i64 0], .int .i64 0, .int .i64 1] by simp [cenT, cenR, hm])
    have M0 : Km (w.heap.size) a b c d x y ((w.alloc (.cells #[.int .i64 a, .int .i64 b, .int .i64 c, .int .i64 d, .int .i64 x, .int .i64 y] 29)).alloc (.cells #[.int .i64 0, .int .i64 0] 27)) := ((Km.at (w.heap.size) rfl).alloc _)
    have R0 : KV (w.heap.size + 1) 0 0 ((w.alloc (.cells #[.int .i64 a, .int .i64 b, .int .i64 c, .int .i64 d, .int .i64 x, .int .i64 y] 29)).alloc (.cells #[.int .i64 0, .int .i64 0] 27)) := (KV.at (w.heap.size + 1) (by simp))
    have U0 : Kq (0) 1 0 0 1 ((w.alloc (.cells #[.int .i64 a, .int .i64 b, .int .i64 c, .int .i64 d, .int .i64 x, .int .i64 y] 29)).alloc (.cells #[.int .i64 0, .int .i64 0] 27)) := ((hU.alloc _).alloc _)
    have B0 : Below w.heap.size w ((w.alloc (.cells #[.int .i64 a, .int .i64 b, .int .i64 c, .int .i64 d, .int .i64 x, .int .i64 y] 29)).alloc (.cells #[.int .i64 0, .int .i64 0] 27)) := (Below.alloc (Below.alloc (Below.refl _ _) (by first | with_reducible exact Nat.le_refl _ | (simp <;> omega)) _) (by first | with_reducible exact Nat.le_refl _ | (simp <;> omega)) _)
    go_enter Tryz.func6, Tryz.ntmps6
    have M0c0 := M0.c0
    have M0c1 := M0.c1
    have M0c2 := M0.c2
    have M0c3 := M0.c3
    have M0c4 := M0.c4
    have M0c5 := M0.c5
    have M0l := M0.1
    have R0c0 := R0.c0
    have R0c1 := R0.c1
    have R0f0 := R0.f0
    have R0f1 := R0.f1
    have R0l := R0.lt
    have U0c0 := U0.c0
    have U0c1 := U0.c1
    have U0c2 := U0.c2
    have U0c3 := U0.c3
    have U0l := U0.1
    go_wp2_with fail
    refine (implIsMo_any _ _ _ _ _ _ _ U0).mono ?_
    rintro e w1 ⟨rfl, hb1⟩
    have M1 : Km (w.heap.size) a b c d x y w1 := Km.call M0 hb1
    have R1 : KV (w.heap.size + 1) 0 0 w1 := KV.call R0 hb1
    have U1 : Kq (0) 1 0 0 1 w1 := Kq.call U0 hb1
    have B1 : Below w.heap.size w w1 := bstep B0 hb1
    clear hb1 B0 M0 R0 U0
    have M1c0 := M1.c0
    have M1c1 := M1.c1
    have M1c2 := M1.c2
    have M1c3 := M1.c3
    have M1c4 := M1.c4
    have M1c5 := M1.c5
    have M1l := M1.1
    have M1n : ¬ w.heap.size = w1.heap.size := by omega
    have R1c0 := R1.c0
    have R1c1 := R1.c1
    have R1f0 := R1.f0
    have R1f1 := R1.f1
    have R1l := R1.lt
    have R1n : ¬ w.heap.size + 1 = w1.heap.size := by omega
    have U1c0 := U1.c0
    have U1c1 := U1.c1
    have U1c2 := U1.c2
    have U1c3 := U1.c3
    have U1l := U1.1
    have U1n : ¬ 0 = w1.heap.size := by omega
    go_wp2
    refine bodyPost_ret (v := .tuple #[.agg #[.int .i64 0, .int .i64 0], .int .i64 0, .int .i64 1]) (by simp [results, Tryz.results6, go_sem, *]) rfl ⟨ret_val EA.out.symm, ?_⟩
    repeat (first | with_reducible assumption | with_reducible exact Below.refl _ _ | with_reducible refine Below.setCell ?_ (by first | omega | (simp <;> omega)) _ | with_reducible refine Below.alloc ?_ (by first | omega | (simp <;> omega)) _ | with_reducible refine bstep ?_ (by with_reducible assumption) | with_reducible refine Below.drew ?_)
  rcases hk : (knd a b c d x y == 2) with _ | _
  · have EA := Lib.hid (show cenT (cenR a b c d x y) = .tuple #[.agg #[.int .i64 0, .int .i64 0], .int .i64 0, .int .i64 5] by simp [cenT, cenR, hm, hk])
    have M0 : Km (w.heap.size) a b c d x y ((w.alloc (.cells #[.int .i64 a, .int .i64 b, .int .i64 c, .int .i64 d, .int .i64 x, .int .i64 y] 29)).alloc (.cells #[.int .i64 0, .int .i64 0] 27)) := ((Km.at (w.heap.size) rfl).alloc _)
    have R0 : KV (w.heap.size + 1) 0 0 ((w.alloc (.cells #[.int .i64 a, .int .i64 b, .int .i64 c, .int .i64 d, .int .i64 x, .int .i64 y] 29)).alloc (.cells #[.int .i64 0, .int .i64 0] 27)) := (KV.at (w.heap.size + 1) (by simp))
    have U0 : Kq (0) 1 0 0 1 ((w.alloc (.cells #[.int .i64 a, .int .i64 b, .int .i64 c, .int .i64 d, .int .i64 x, .int .i64 y] 29)).alloc (.cells #[.int .i64 0, .int .i64 0] 27)) := ((hU.alloc _).alloc _)
    have B0 : Below w.heap.size w ((w.alloc (.cells #[.int .i64 a, .int .i64 b, .int .i64 c, .int .i64 d, .int .i64 x, .int .i64 y] 29)).alloc (.cells #[.int .i64 0, .int .i64 0] 27)) := (Below.alloc (Below.alloc (Below.refl _ _) (by first | with_reducible exact Nat.le_refl _ | (simp <;> omega)) _) (by first | with_reducible exact Nat.le_refl _ | (simp <;> omega)) _)
    go_enter Tryz.func6, Tryz.ntmps6
    have M0c0 := M0.c0
    have M0c1 := M0.c1
    have M0c2 := M0.c2
    have M0c3 := M0.c3
    have M0c4 := M0.c4
    have M0c5 := M0.c5
    have M0l := M0.1
    have R0c0 := R0.c0
    have R0c1 := R0.c1
    have R0f0 := R0.f0
    have R0f1 := R0.f1
    have R0l := R0.lt
    have U0c0 := U0.c0
    have U0c1 := U0.c1
    have U0c2 := U0.c2
    have U0c3 := U0.c3
    have U0l := U0.1
    go_wp2_with fail
    refine (implIsMo_any _ _ _ _ _ _ _ U0).mono ?_
    rintro e w1 ⟨rfl, hb1⟩
    have M1 : Km (w.heap.size) a b c d x y w1 := Km.call M0 hb1
    have R1 : KV (w.heap.size + 1) 0 0 w1 := KV.call R0 hb1
    have U1 : Kq (0) 1 0 0 1 w1 := Kq.call U0 hb1
    have B1 : Below w.heap.size w w1 := bstep B0 hb1
    clear hb1 B0 M0 R0 U0
    have M1c0 := M1.c0
    have M1c1 := M1.c1
    have M1c2 := M1.c2
    have M1c3 := M1.c3
    have M1c4 := M1.c4
    have M1c5 := M1.c5
    have M1l := M1.1
    have M1n : ¬ w.heap.size = w1.heap.size := by omega
    have R1c0 := R1.c0
    have R1c1 := R1.c1
    have R1f0 := R1.f0
    have R1f1 := R1.f1
    have R1l := R1.lt
    have R1n : ¬ w.heap.size + 1 = w1.heap.size := by omega
    have U1c0 := U1.c0
    have U1c1 := U1.c1
    have U1c2 := U1.c2
    have U1c3 := U1.c3
    have U1l := U1.1
    have U1n : ¬ 0 = w1.heap.size := by omega
    go_wp2_with fail
    refine (motionOf_any _ _ _ _ _ _ _).mono ?_
    rintro e w2 ⟨rfl, hb2⟩
    have M2 : Km (w.heap.size) a b c d x y w2 := Km.call M1 hb2
    have R2 : KV (w.heap.size + 1) 0 0 w2 := KV.call R1 hb2
    have U2 : Kq (0) 1 0 0 1 w2 := Kq.call U1 hb2
    have B2 : Below w.heap.size w w2 := bstep B1 hb2
    clear hb2 B1 M1 R1 U1
    have M2c0 := M2.c0
    have M2c1 := M2.c1
    have M2c2 := M2.c2
    have M2c3 := M2.c3
    have M2c4 := M2.c4
    have M2c5 := M2.c5
    have M2l := M2.1
    have M2n : ¬ w.heap.size = w2.heap.size := by omega
    have R2c0 := R2.c0
    have R2c1 := R2.c1
    have R2f0 := R2.f0
    have R2f1 := R2.f1
    have R2l := R2.lt
    have R2n : ¬ w.heap.size + 1 = w2.heap.size := by omega
    have U2c0 := U2.c0
    have U2c1 := U2.c1
    have U2c2 := U2.c2
    have U2c3 := U2.c3
    have U2l := U2.1
    have U2n : ¬ 0 = w2.heap.size := by omega
    go_wp2_with fail
    refine (kindMo_any _ _ _ _ _ _ _ hm U2).mono ?_
    rintro e w3 ⟨rfl, hb3⟩
    have M3 : Km (w.heap.size) a b c d x y w3 := Km.call M2 hb3
    have R3 : KV (w.heap.size + 1) 0 0 w3 := KV.call R2 hb3
    have U3 : Kq (0) 1 0 0 1 w3 := Kq.call U2 hb3
    have B3 : Below w.heap.size w w3 := bstep B2 hb3
    clear hb3 B2 M2 R2 U2
    have M3c0 := M3.c0
    have M3c1 := M3.c1
    have M3c2 := M3.c2
    have M3c3 := M3.c3
    have M3c4 := M3.c4
    have M3c5 := M3.c5
    have M3l := M3.1
    have M3n : ¬ w.heap.size = w3.heap.size := by omega
    have R3c0 := R3.c0
    have R3c1 := R3.c1
    have R3f0 := R3.f0
    have R3f1 := R3.f1
    have R3l := R3.lt
    have R3n : ¬ w.heap.size + 1 = w3.heap.size := by omega
    have U3c0 := U3.c0
    have U3c1 := U3.c1
    have U3c2 := U3.c2
    have U3c3 := U3.c3
    have U3l := U3.1
    have U3n : ¬ 0 = w3.heap.size := by omega
    go_wp2
    refine bodyPost_ret (v := .tuple #[.agg #[.int .i64 0, .int .i64 0], .int .i64 0, .int .i64 5]) (by simp [results, Tryz.results6, go_sem, *]) rfl ⟨ret_val EA.out.symm, ?_⟩
    repeat (first | with_reducible assumption | with_reducible exact Below.refl _ _ | with_reducible refine Below.setCell ?_ (by first | omega | (simp <;> omega)) _ | with_reducible refine Below.alloc ?_ (by first | omega | (simp <;> omega)) _ | with_reducible refine bstep ?_ (by with_reducible assumption) | with_reducible refine Below.drew ?_)
  rcases hs : vecB ((ceX a b c d x y).tdiv (ceG a b c d x y)) ((ceY a b c d x y).tdiv (ceG a b c d x y)) with _ | _
  · have EA := Lib.hid (show cenT (cenR a b c d x y) = .tuple #[.agg #[.int .i64 0, .int .i64 0], .int .i64 0, .int .i64 3] by simp [cenT, cenR, hm, hk, hs])
    have hk2 : knd a b c d x y = 2 := by simpa using hk
    have M0 : Km (w.heap.size) a b c d x y ((w.alloc (.cells #[.int .i64 a, .int .i64 b, .int .i64 c, .int .i64 d, .int .i64 x, .int .i64 y] 29)).alloc (.cells #[.int .i64 0, .int .i64 0] 27)) := ((Km.at (w.heap.size) rfl).alloc _)
    have R0 : KV (w.heap.size + 1) 0 0 ((w.alloc (.cells #[.int .i64 a, .int .i64 b, .int .i64 c, .int .i64 d, .int .i64 x, .int .i64 y] 29)).alloc (.cells #[.int .i64 0, .int .i64 0] 27)) := (KV.at (w.heap.size + 1) (by simp))
    have U0 : Kq (0) 1 0 0 1 ((w.alloc (.cells #[.int .i64 a, .int .i64 b, .int .i64 c, .int .i64 d, .int .i64 x, .int .i64 y] 29)).alloc (.cells #[.int .i64 0, .int .i64 0] 27)) := ((hU.alloc _).alloc _)
    have B0 : Below w.heap.size w ((w.alloc (.cells #[.int .i64 a, .int .i64 b, .int .i64 c, .int .i64 d, .int .i64 x, .int .i64 y] 29)).alloc (.cells #[.int .i64 0, .int .i64 0] 27)) := (Below.alloc (Below.alloc (Below.refl _ _) (by first | with_reducible exact Nat.le_refl _ | (simp <;> omega)) _) (by first | with_reducible exact Nat.le_refl _ | (simp <;> omega)) _)
    go_enter Tryz.func6, Tryz.ntmps6
    have M0c0 := M0.c0
    have M0c1 := M0.c1
    have M0c2 := M0.c2
    have M0c3 := M0.c3
    have M0c4 := M0.c4
    have M0c5 := M0.c5
    have M0l := M0.1
    have R0c0 := R0.c0
    have R0c1 := R0.c1
    have R0f0 := R0.f0
    have R0f1 := R0.f1
    have R0l := R0.lt
    have U0c0 := U0.c0
    have U0c1 := U0.c1
    have U0c2 := U0.c2
    have U0c3 := U0.c3
    have U0l := U0.1
    go_wp2_with fail
    refine (implIsMo_any _ _ _ _ _ _ _ U0).mono ?_
    rintro e w1 ⟨rfl, hb1⟩
    have M1 : Km (w.heap.size) a b c d x y w1 := Km.call M0 hb1
    have R1 : KV (w.heap.size + 1) 0 0 w1 := KV.call R0 hb1
    have U1 : Kq (0) 1 0 0 1 w1 := Kq.call U0 hb1
    have B1 : Below w.heap.size w w1 := bstep B0 hb1
    clear hb1 B0 M0 R0 U0
    have M1c0 := M1.c0
    have M1c1 := M1.c1
    have M1c2 := M1.c2
    have M1c3 := M1.c3
    have M1c4 := M1.c4
    have M1c5 := M1.c5
    have M1l := M1.1
    have M1n : ¬ w.heap.size = w1.heap.size := by omega
    have R1c0 := R1.c0
    have R1c1 := R1.c1
    have R1f0 := R1.f0
    have R1f1 := R1.f1
    have R1l := R1.lt
    have R1n : ¬ w.heap.size + 1 = w1.heap.size := by omega
    have U1c0 := U1.c0
    have U1c1 := U1.c1
    have U1c2 := U1.c2
    have U1c3 := U1.c3
    have U1l := U1.1
    have U1n : ¬ 0 = w1.heap.size := by omega
    go_wp2_with fail
    refine (motionOf_any _ _ _ _ _ _ _).mono ?_
    rintro e w2 ⟨rfl, hb2⟩
    have M2 : Km (w.heap.size) a b c d x y w2 := Km.call M1 hb2
    have R2 : KV (w.heap.size + 1) 0 0 w2 := KV.call R1 hb2
    have U2 : Kq (0) 1 0 0 1 w2 := Kq.call U1 hb2
    have B2 : Below w.heap.size w w2 := bstep B1 hb2
    clear hb2 B1 M1 R1 U1
    have M2c0 := M2.c0
    have M2c1 := M2.c1
    have M2c2 := M2.c2
    have M2c3 := M2.c3
    have M2c4 := M2.c4
    have M2c5 := M2.c5
    have M2l := M2.1
    have M2n : ¬ w.heap.size = w2.heap.size := by omega
    have R2c0 := R2.c0
    have R2c1 := R2.c1
    have R2f0 := R2.f0
    have R2f1 := R2.f1
    have R2l := R2.lt
    have R2n : ¬ w.heap.size + 1 = w2.heap.size := by omega
    have U2c0 := U2.c0
    have U2c1 := U2.c1
    have U2c2 := U2.c2
    have U2c3 := U2.c3
    have U2l := U2.1
    have U2n : ¬ 0 = w2.heap.size := by omega
    go_wp2_with fail
    refine (kindMo_any _ _ _ _ _ _ _ hm U2).mono ?_
    rintro e w3 ⟨rfl, hb3⟩
    have M3 : Km (w.heap.size) a b c d x y w3 := Km.call M2 hb3
    have R3 : KV (w.heap.size + 1) 0 0 w3 := KV.call R2 hb3
    have U3 : Kq (0) 1 0 0 1 w3 := Kq.call U2 hb3
    have B3 : Below w.heap.size w w3 := bstep B2 hb3
    clear hb3 B2 M2 R2 U2
    have M3c0 := M3.c0
    have M3c1 := M3.c1
    have M3c2 := M3.c2
    have M3c3 := M3.c3
    have M3c4 := M3.c4
    have M3c5 := M3.c5
    have M3l := M3.1
    have M3n : ¬ w.heap.size = w3.heap.size := by omega
    have R3c0 := R3.c0
    have R3c1 := R3.c1
    have R3f0 := R3.f0
    have R3f1 := R3.f1
    have R3l := R3.lt
    have R3n : ¬ w.heap.size + 1 = w3.heap.size := by omega
    have U3c0 := U3.c0
    have U3c1 := U3.c1
    have U3c2 := U3.c2
    have U3c3 := U3.c3
    have U3l := U3.1
    have U3n : ¬ 0 = w3.heap.size := by omega
    go_wp2_with fail
    refine (motionOf_any _ _ _ _ _ _ _).mono ?_
    rintro e w4 ⟨rfl, hb4⟩
    have M4 : Km (w.heap.size) a b c d x y w4 := Km.call M3 hb4
    have R4 : KV (w.heap.size + 1) 0 0 w4 := KV.call R3 hb4
    have U4 : Kq (0) 1 0 0 1 w4 := Kq.call U3 hb4
    have B4 : Below w.heap.size w w4 := bstep B3 hb4
    clear hb4 B3 M3 R3 U3
    have M4c0 := M4.c0
    have M4c1 := M4.c1
    have M4c2 := M4.c2
    have M4c3 := M4.c3
    have M4c4 := M4.c4
    have M4c5 := M4.c5
    have M4l := M4.1
    have M4n : ¬ w.heap.size = w4.heap.size := by omega
    have R4c0 := R4.c0
    have R4c1 := R4.c1
    have R4f0 := R4.f0
    have R4f1 := R4.f1
    have R4l := R4.lt
    have R4n : ¬ w.heap.size + 1 = w4.heap.size := by omega
    have U4c0 := U4.c0
    have U4c1 := U4.c1
    have U4c2 := U4.c2
    have U4c3 := U4.c3
    have U4l := U4.1
    have U4n : ¬ 0 = w4.heap.size := by omega
    go_wp2_with fail
    refine (centreMo_any _ _ _ _ _ _ _ hm hk2).mono ?_
    rintro e w5 ⟨rfl, hb5⟩
    have M5 : Km (w.heap.size) a b c d x y w5 := Km.call M4 hb5
    have R5 : KV (w.heap.size + 1) 0 0 w5 := KV.call R4 hb5
    have U5 : Kq (0) 1 0 0 1 w5 := Kq.call U4 hb5
    have B5 : Below w.heap.size w w5 := bstep B4 hb5
    clear hb5 B4 M4 R4 U4
    have M5c0 := M5.c0
    have M5c1 := M5.c1
    have M5c2 := M5.c2
    have M5c3 := M5.c3
    have M5c4 := M5.c4
    have M5c5 := M5.c5
    have M5l := M5.1
    have M5n : ¬ w.heap.size = w5.heap.size := by omega
    have R5c0 := R5.c0
    have R5c1 := R5.c1
    have R5f0 := R5.f0
    have R5f1 := R5.f1
    have R5l := R5.lt
    have R5n : ¬ w.heap.size + 1 = w5.heap.size := by omega
    have U5c0 := U5.c0
    have U5c1 := U5.c1
    have U5c2 := U5.c2
    have U5c3 := U5.c3
    have U5l := U5.1
    have U5n : ¬ 0 = w5.heap.size := by omega
    go_wp2_with fail
    refine (isValid_any _ _ _).mono ?_
    rintro e w6 ⟨rfl, hb6⟩
    have M6 : Km (w.heap.size) a b c d x y w6 := Km.call (M5.alloc _) hb6
    have R6 : KV (w.heap.size + 1) 0 0 w6 := KV.call (R5.alloc _) hb6
    have U6 : Kq (0) 1 0 0 1 w6 := Kq.call (U5.alloc _) hb6
    have C6 : Kg (w5.heap.size) ((ceX a b c d x y).tdiv (ceG a b c d x y)) ((ceY a b c d x y).tdiv (ceG a b c d x y)) w6 := (Kg.at2 (w5.heap.size) (by simp) : Kg (w5.heap.size) ((ceX a b c d x y).tdiv (ceG a b c d x y)) ((ceY a b c d x y).tdiv (ceG a b c d x y)) _).call hb6
    have B6 : Below w.heap.size w w6 := bstep (Below.alloc B5 (by have := B5.size; first | omega | (simp <;> omega)) _) hb6
    clear hb6 B5 M5 R5 U5
    have M6c0 := M6.c0
    have M6c1 := M6.c1
    have M6c2 := M6.c2
    have M6c3 := M6.c3
    have M6c4 := M6.c4
    have M6c5 := M6.c5
    have M6l := M6.1
    have M6n : ¬ w.heap.size = w6.heap.size := by omega
    have R6c0 := R6.c0
    have R6c1 := R6.c1
    have R6f0 := R6.f0
    have R6f1 := R6.f1
    have R6l := R6.lt
    have R6n : ¬ w.heap.size + 1 = w6.heap.size := by omega
    have U6c0 := U6.c0
    have U6c1 := U6.c1
    have U6c2 := U6.c2
    have U6c3 := U6.c3
    have U6l := U6.1
    have U6n : ¬ 0 = w6.heap.size := by omega
    have C6c0 := C6.c0
    have C6c1 := C6.c1
    have C6l := C6.1
    have C6n : ¬ w5.heap.size = w6.heap.size := by omega
    go_wp2
    refine bodyPost_ret (v := .tuple #[.agg #[.int .i64 0, .int .i64 0], .int .i64 0, .int .i64 3]) (by simp [results, Tryz.results6, go_sem, *]) rfl ⟨ret_val EA.out.symm, ?_⟩
    repeat (first | with_reducible assumption | with_reducible exact Below.refl _ _ | with_reducible refine Below.setCell ?_ (by first | omega | (simp <;> omega)) _ | with_reducible refine Below.alloc ?_ (by first | omega | (simp <;> omega)) _ | with_reducible refine bstep ?_ (by with_reducible assumption) | with_reducible refine Below.drew ?_)
  · have EA := Lib.hid (show cenT (cenR a b c d x y) = .tuple #[.agg #[.int .i64 ((ceX a b c d x y).tdiv (ceG a b c d x y)), .int .i64 ((ceY a b c d x y).tdiv (ceG a b c d x y))], .int .i64 ((2 - (a + d)).tdiv (ceG a b c d x y)), .int .i64 0] by simp [cenT, cenR, hm, hk, hs])
    have hk2 : knd a b c d x y = 2 := by simpa using hk
    have M0 : Km (w.heap.size) a b c d x y ((w.alloc (.cells #[.int .i64 a, .int .i64 b, .int .i64 c, .int .i64 d, .int .i64 x, .int .i64 y] 29)).alloc (.cells #[.int .i64 0, .int .i64 0] 27)) := ((Km.at (w.heap.size) rfl).alloc _)
    have R0 : KV (w.heap.size + 1) 0 0 ((w.alloc (.cells #[.int .i64 a, .int .i64 b, .int .i64 c, .int .i64 d, .int .i64 x, .int .i64 y] 29)).alloc (.cells #[.int .i64 0, .int .i64 0] 27)) := (KV.at (w.heap.size + 1) (by simp))
    have U0 : Kq (0) 1 0 0 1 ((w.alloc (.cells #[.int .i64 a, .int .i64 b, .int .i64 c, .int .i64 d, .int .i64 x, .int .i64 y] 29)).alloc (.cells #[.int .i64 0, .int .i64 0] 27)) := ((hU.alloc _).alloc _)
    have B0 : Below w.heap.size w ((w.alloc (.cells #[.int .i64 a, .int .i64 b, .int .i64 c, .int .i64 d, .int .i64 x, .int .i64 y] 29)).alloc (.cells #[.int .i64 0, .int .i64 0] 27)) := (Below.alloc (Below.alloc (Below.refl _ _) (by first | with_reducible exact Nat.le_refl _ | (simp <;> omega)) _) (by first | with_reducible exact Nat.le_refl _ | (simp <;> omega)) _)
    go_enter Tryz.func6, Tryz.ntmps6
    have M0c0 := M0.c0
    have M0c1 := M0.c1
    have M0c2 := M0.c2
    have M0c3 := M0.c3
    have M0c4 := M0.c4
    have M0c5 := M0.c5
    have M0l := M0.1
    have R0c0 := R0.c0
    have R0c1 := R0.c1
    have R0f0 := R0.f0
    have R0f1 := R0.f1
    have R0l := R0.lt
    have U0c0 := U0.c0
    have U0c1 := U0.c1
    have U0c2 := U0.c2
    have U0c3 := U0.c3
    have U0l := U0.1
    go_wp2_with fail
    refine (implIsMo_any _ _ _ _ _ _ _ U0).mono ?_
    rintro e w1 ⟨rfl, hb1⟩
    have M1 : Km (w.heap.size) a b c d x y w1 := Km.call M0 hb1
    have R1 : KV (w.heap.size + 1) 0 0 w1 := KV.call R0 hb1
    have U1 : Kq (0) 1 0 0 1 w1 := Kq.call U0 hb1
    have B1 : Below w.heap.size w w1 := bstep B0 hb1
    clear hb1 B0 M0 R0 U0
    have M1c0 := M1.c0
    have M1c1 := M1.c1
    have M1c2 := M1.c2
    have M1c3 := M1.c3
    have M1c4 := M1.c4
    have M1c5 := M1.c5
    have M1l := M1.1
    have M1n : ¬ w.heap.size = w1.heap.size := by omega
    have R1c0 := R1.c0
    have R1c1 := R1.c1
    have R1f0 := R1.f0
    have R1f1 := R1.f1
    have R1l := R1.lt
    have R1n : ¬ w.heap.size + 1 = w1.heap.size := by omega
    have U1c0 := U1.c0
    have U1c1 := U1.c1
    have U1c2 := U1.c2
    have U1c3 := U1.c3
    have U1l := U1.1
    have U1n : ¬ 0 = w1.heap.size := by omega
    go_wp2_with fail
    refine (motionOf_any _ _ _ _ _ _ _).mono ?_
    rintro e w2 ⟨rfl, hb2⟩
    have M2 : Km (w.heap.size) a b c d x y w2 := Km.call M1 hb2
    have R2 : KV (w.heap.size + 1) 0 0 w2 := KV.call R1 hb2
    have U2 : Kq (0) 1 0 0 1 w2 := Kq.call U1 hb2
    have B2 : Below w.heap.size w w2 := bstep B1 hb2
    clear hb2 B1 M1 R1 U1
    have M2c0 := M2.c0
    have M2c1 := M2.c1
    have M2c2 := M2.c2
    have M2c3 := M2.c3
    have M2c4 := M2.c4
    have M2c5 := M2.c5
    have M2l := M2.1
    have M2n : ¬ w.heap.size = w2.heap.size := by omega
    have R2c0 := R2.c0
    have R2c1 := R2.c1
    have R2f0 := R2.f0
    have R2f1 := R2.f1
    have R2l := R2.lt
    have R2n : ¬ w.heap.size + 1 = w2.heap.size := by omega
    have U2c0 := U2.c0
    have U2c1 := U2.c1
    have U2c2 := U2.c2
    have U2c3 := U2.c3
    have U2l := U2.1
    have U2n : ¬ 0 = w2.heap.size := by omega
    go_wp2_with fail
    refine (kindMo_any _ _ _ _ _ _ _ hm U2).mono ?_
    rintro e w3 ⟨rfl, hb3⟩
    have M3 : Km (w.heap.size) a b c d x y w3 := Km.call M2 hb3
    have R3 : KV (w.heap.size + 1) 0 0 w3 := KV.call R2 hb3
    have U3 : Kq (0) 1 0 0 1 w3 := Kq.call U2 hb3
    have B3 : Below w.heap.size w w3 := bstep B2 hb3
    clear hb3 B2 M2 R2 U2
    have M3c0 := M3.c0
    have M3c1 := M3.c1
    have M3c2 := M3.c2
    have M3c3 := M3.c3
    have M3c4 := M3.c4
    have M3c5 := M3.c5
    have M3l := M3.1
    have M3n : ¬ w.heap.size = w3.heap.size := by omega
    have R3c0 := R3.c0
    have R3c1 := R3.c1
    have R3f0 := R3.f0
    have R3f1 := R3.f1
    have R3l := R3.lt
    have R3n : ¬ w.heap.size + 1 = w3.heap.size := by omega
    have U3c0 := U3.c0
    have U3c1 := U3.c1
    have U3c2 := U3.c2
    have U3c3 := U3.c3
    have U3l := U3.1
    have U3n : ¬ 0 = w3.heap.size := by omega
    go_wp2_with fail
    refine (motionOf_any _ _ _ _ _ _ _).mono ?_
    rintro e w4 ⟨rfl, hb4⟩
    have M4 : Km (w.heap.size) a b c d x y w4 := Km.call M3 hb4
    have R4 : KV (w.heap.size + 1) 0 0 w4 := KV.call R3 hb4
    have U4 : Kq (0) 1 0 0 1 w4 := Kq.call U3 hb4
    have B4 : Below w.heap.size w w4 := bstep B3 hb4
    clear hb4 B3 M3 R3 U3
    have M4c0 := M4.c0
    have M4c1 := M4.c1
    have M4c2 := M4.c2
    have M4c3 := M4.c3
    have M4c4 := M4.c4
    have M4c5 := M4.c5
    have M4l := M4.1
    have M4n : ¬ w.heap.size = w4.heap.size := by omega
    have R4c0 := R4.c0
    have R4c1 := R4.c1
    have R4f0 := R4.f0
    have R4f1 := R4.f1
    have R4l := R4.lt
    have R4n : ¬ w.heap.size + 1 = w4.heap.size := by omega
    have U4c0 := U4.c0
    have U4c1 := U4.c1
    have U4c2 := U4.c2
    have U4c3 := U4.c3
    have U4l := U4.1
    have U4n : ¬ 0 = w4.heap.size := by omega
    go_wp2_with fail
    refine (centreMo_any _ _ _ _ _ _ _ hm hk2).mono ?_
    rintro e w5 ⟨rfl, hb5⟩
    have M5 : Km (w.heap.size) a b c d x y w5 := Km.call M4 hb5
    have R5 : KV (w.heap.size + 1) 0 0 w5 := KV.call R4 hb5
    have U5 : Kq (0) 1 0 0 1 w5 := Kq.call U4 hb5
    have B5 : Below w.heap.size w w5 := bstep B4 hb5
    clear hb5 B4 M4 R4 U4
    have M5c0 := M5.c0
    have M5c1 := M5.c1
    have M5c2 := M5.c2
    have M5c3 := M5.c3
    have M5c4 := M5.c4
    have M5c5 := M5.c5
    have M5l := M5.1
    have M5n : ¬ w.heap.size = w5.heap.size := by omega
    have R5c0 := R5.c0
    have R5c1 := R5.c1
    have R5f0 := R5.f0
    have R5f1 := R5.f1
    have R5l := R5.lt
    have R5n : ¬ w.heap.size + 1 = w5.heap.size := by omega
    have U5c0 := U5.c0
    have U5c1 := U5.c1
    have U5c2 := U5.c2
    have U5c3 := U5.c3
    have U5l := U5.1
    have U5n : ¬ 0 = w5.heap.size := by omega
    go_wp2_with fail
    refine (isValid_any _ _ _).mono ?_
    rintro e w6 ⟨rfl, hb6⟩
    have M6 : Km (w.heap.size) a b c d x y w6 := Km.call (M5.alloc _) hb6
    have R6 : KV (w.heap.size + 1) 0 0 w6 := KV.call (R5.alloc _) hb6
    have U6 : Kq (0) 1 0 0 1 w6 := Kq.call (U5.alloc _) hb6
    have C6 : Kg (w5.heap.size) ((ceX a b c d x y).tdiv (ceG a b c d x y)) ((ceY a b c d x y).tdiv (ceG a b c d x y)) w6 := (Kg.at2 (w5.heap.size) (by simp) : Kg (w5.heap.size) ((ceX a b c d x y).tdiv (ceG a b c d x y)) ((ceY a b c d x y).tdiv (ceG a b c d x y)) _).call hb6
    have B6 : Below w.heap.size w w6 := bstep (Below.alloc B5 (by have := B5.size; first | omega | (simp <;> omega)) _) hb6
    clear hb6 B5 M5 R5 U5
    have M6c0 := M6.c0
    have M6c1 := M6.c1
    have M6c2 := M6.c2
    have M6c3 := M6.c3
    have M6c4 := M6.c4
    have M6c5 := M6.c5
    have M6l := M6.1
    have M6n : ¬ w.heap.size = w6.heap.size := by omega
    have R6c0 := R6.c0
    have R6c1 := R6.c1
    have R6f0 := R6.f0
    have R6f1 := R6.f1
    have R6l := R6.lt
    have R6n : ¬ w.heap.size + 1 = w6.heap.size := by omega
    have U6c0 := U6.c0
    have U6c1 := U6.c1
    have U6c2 := U6.c2
    have U6c3 := U6.c3
    have U6l := U6.1
    have U6n : ¬ 0 = w6.heap.size := by omega
    have C6c0 := C6.c0
    have C6c1 := C6.c1
    have C6l := C6.1
    have C6n : ¬ w5.heap.size = w6.heap.size := by omega
    go_wp2
    refine bodyPost_ret (v := .tuple #[.agg #[.int .i64 ((ceX a b c d x y).tdiv (ceG a b c d x y)), .int .i64 ((ceY a b c d x y).tdiv (ceG a b c d x y))], .int .i64 ((2 - (a + d)).tdiv (ceG a b c d x y)), .int .i64 0]) (by simp [results, Tryz.results6, go_sem, *]) rfl ⟨ret_val EA.out.symm, ?_⟩
    repeat (first | with_reducible assumption | with_reducible exact Below.refl _ _ | with_reducible refine Below.setCell ?_ (by first | omega | (simp <;> omega)) _ | with_reducible refine Below.alloc ?_ (by first | omega | (simp <;> omega)) _ | with_reducible refine bstep ?_ (by with_reducible assumption) | with_reducible refine Below.drew ?_)

set_option maxRecDepth 100000 in
set_option maxHeartbeats 2000000 in
theorem specCen_any (a b c d x y : Int) (w : World) :
    Calls Tryz.prog 7 #[.agg #[.int .i64 a, .int .i64 b, .int .i64 c, .int .i64 d, .int .i64 x, .int .i64 y]] w fun e w' => e = .returned (cenT (cenR a b c d x y)) ∧ Below w.heap.size w w' := by
  rcases hm : motB a b c d x y with _ | _
  · have EA := Lib.hid (show cenT (cenR a b c d x y) = .tuple #[.agg #[.int .i64 0, .int .i64 0], .int .i64 0, .int .i64 1] by simp [cenT, cenR, hm])
    have M0 : Km (w.heap.size) a b c d x y ((w.alloc (.cells #[.int .i64 a, .int .i64 b, .int .i64 c, .int .i64 d, .int .i64 x, .int .i64 y] 29)).alloc (.cells #[.int .i64 0, .int .i64 0] 27)) := ((Km.at (w.heap.size) rfl).alloc _)
    have R0 : KV (w.heap.size + 1) 0 0 ((w.alloc (.cells #[.int .i64 a, .int .i64 b, .int .i64 c, .int .i64 d, .int .i64 x, .int .i64 y] 29)).alloc (.cells #[.int .i64 0, .int .i64 0] 27)) := (KV.at (w.heap.size + 1) (by simp))
    have B0 : Below w.heap.size w ((w.alloc (.cells #[.int .i64 a, .int .i64 b, .int .i64 c, .int .i64 d, .int .i64 x, .int .i64 y] 29)).alloc (.cells #[.int .i64 0, .int .i64 0] 27)) := (Below.alloc (Below.alloc (Below.refl _ _) (by first | with_reducible exact Nat.le_refl _ | (simp <;> omega)) _) (by first | with_reducible exact Nat.le_refl _ | (simp <;> omega)) _)
    go_enter Tryz.func7, Tryz.ntmps7
    have M0c0 := M0.c0
    have M0c1 := M0.c1
    have M0c2 := M0.c2
    have M0c3 := M0.c3
    have M0c4 := M0.c4
    have M0c5 := M0.c5
    have M0l := M0.1
    have R0c0 := R0.c0
    have R0c1 := R0.c1
    have R0f0 := R0.f0
    have R0f1 := R0.f1
    have R0l := R0.lt
    go_wp2_with fail
    refine (specIsMo_any _ _ _ _ _ _ _).mono ?_
    rintro e w1 ⟨rfl, hb1⟩
    have M1 : Km (w.heap.size) a b c d x y w1 := Km.call M0 hb1
    have R1 : KV (w.heap.size + 1) 0 0 w1 := KV.call R0 hb1
    have B1 : Below w.heap.size w w1 := bstep B0 hb1
    clear hb1 B0 M0 R0
    have M1c0 := M1.c0
    have M1c1 := M1.c1
    have M1c2 := M1.c2
    have M1c3 := M1.c3
    have M1c4 := M1.c4
    have M1c5 := M1.c5
    have M1l := M1.1
    have M1n : ¬ w.heap.size = w1.heap.size := by omega
    have R1c0 := R1.c0
    have R1c1 := R1.c1
    have R1f0 := R1.f0
    have R1f1 := R1.f1
    have R1l := R1.lt
    have R1n : ¬ w.heap.size + 1 = w1.heap.size := by omega
    go_wp2
    refine bodyPost_ret (v := .tuple #[.agg #[.int .i64 0, .int .i64 0], .int .i64 0, .int .i64 1]) (by simp [results, Tryz.results7, go_sem, *]) rfl ⟨ret_val EA.out.symm, ?_⟩
    repeat (first | with_reducible assumption | with_reducible exact Below.refl _ _ | with_reducible refine Below.setCell ?_ (by first | omega | (simp <;> omega)) _ | with_reducible refine Below.alloc ?_ (by first | omega | (simp <;> omega)) _ | with_reducible refine bstep ?_ (by with_reducible assumption) | with_reducible refine Below.drew ?_)
  rcases hk : (knd a b c d x y == 2) with _ | _
  · have EA := Lib.hid (show cenT (cenR a b c d x y) = .tuple #[.agg #[.int .i64 0, .int .i64 0], .int .i64 0, .int .i64 5] by simp [cenT, cenR, hm, hk])
    have M0 : Km (w.heap.size) a b c d x y ((w.alloc (.cells #[.int .i64 a, .int .i64 b, .int .i64 c, .int .i64 d, .int .i64 x, .int .i64 y] 29)).alloc (.cells #[.int .i64 0, .int .i64 0] 27)) := ((Km.at (w.heap.size) rfl).alloc _)
    have R0 : KV (w.heap.size + 1) 0 0 ((w.alloc (.cells #[.int .i64 a, .int .i64 b, .int .i64 c, .int .i64 d, .int .i64 x, .int .i64 y] 29)).alloc (.cells #[.int .i64 0, .int .i64 0] 27)) := (KV.at (w.heap.size + 1) (by simp))
    have B0 : Below w.heap.size w ((w.alloc (.cells #[.int .i64 a, .int .i64 b, .int .i64 c, .int .i64 d, .int .i64 x, .int .i64 y] 29)).alloc (.cells #[.int .i64 0, .int .i64 0] 27)) := (Below.alloc (Below.alloc (Below.refl _ _) (by first | with_reducible exact Nat.le_refl _ | (simp <;> omega)) _) (by first | with_reducible exact Nat.le_refl _ | (simp <;> omega)) _)
    go_enter Tryz.func7, Tryz.ntmps7
    have M0c0 := M0.c0
    have M0c1 := M0.c1
    have M0c2 := M0.c2
    have M0c3 := M0.c3
    have M0c4 := M0.c4
    have M0c5 := M0.c5
    have M0l := M0.1
    have R0c0 := R0.c0
    have R0c1 := R0.c1
    have R0f0 := R0.f0
    have R0f1 := R0.f1
    have R0l := R0.lt
    go_wp2_with fail
    refine (specIsMo_any _ _ _ _ _ _ _).mono ?_
    rintro e w1 ⟨rfl, hb1⟩
    have M1 : Km (w.heap.size) a b c d x y w1 := Km.call M0 hb1
    have R1 : KV (w.heap.size + 1) 0 0 w1 := KV.call R0 hb1
    have B1 : Below w.heap.size w w1 := bstep B0 hb1
    clear hb1 B0 M0 R0
    have M1c0 := M1.c0
    have M1c1 := M1.c1
    have M1c2 := M1.c2
    have M1c3 := M1.c3
    have M1c4 := M1.c4
    have M1c5 := M1.c5
    have M1l := M1.1
    have M1n : ¬ w.heap.size = w1.heap.size := by omega
    have R1c0 := R1.c0
    have R1c1 := R1.c1
    have R1f0 := R1.f0
    have R1f1 := R1.f1
    have R1l := R1.lt
    have R1n : ¬ w.heap.size + 1 = w1.heap.size := by omega
    go_wp2_with fail
    refine (l05Kind_any _ _ _ _ _ _ _ hm).mono ?_
    rintro e w2 ⟨rfl, hb2⟩
    have M2 : Km (w.heap.size) a b c d x y w2 := Km.call M1 hb2
    have R2 : KV (w.heap.size + 1) 0 0 w2 := KV.call R1 hb2
    have B2 : Below w.heap.size w w2 := bstep B1 hb2
    clear hb2 B1 M1 R1
    have M2c0 := M2.c0
    have M2c1 := M2.c1
    have M2c2 := M2.c2
    have M2c3 := M2.c3
    have M2c4 := M2.c4
    have M2c5 := M2.c5
    have M2l := M2.1
    have M2n : ¬ w.heap.size = w2.heap.size := by omega
    have R2c0 := R2.c0
    have R2c1 := R2.c1
    have R2f0 := R2.f0
    have R2f1 := R2.f1
    have R2l := R2.lt
    have R2n : ¬ w.heap.size + 1 = w2.heap.size := by omega
    go_wp2
    refine bodyPost_ret (v := .tuple #[.agg #[.int .i64 0, .int .i64 0], .int .i64 0, .int .i64 5]) (by simp [results, Tryz.results7, go_sem, *]) rfl ⟨ret_val EA.out.symm, ?_⟩
    repeat (first | with_reducible assumption | with_reducible exact Below.refl _ _ | with_reducible refine Below.setCell ?_ (by first | omega | (simp <;> omega)) _ | with_reducible refine Below.alloc ?_ (by first | omega | (simp <;> omega)) _ | with_reducible refine bstep ?_ (by with_reducible assumption) | with_reducible refine Below.drew ?_)
  rcases hs : vecB ((ceX a b c d x y).tdiv (ceG a b c d x y)) ((ceY a b c d x y).tdiv (ceG a b c d x y)) with _ | _
  · have EA := Lib.hid (show cenT (cenR a b c d x y) = .tuple #[.agg #[.int .i64 0, .int .i64 0], .int .i64 0, .int .i64 3] by simp [cenT, cenR, hm, hk, hs])
    have hk2 : knd a b c d x y = 2 := by simpa using hk
    have M0 : Km (w.heap.size) a b c d x y ((w.alloc (.cells #[.int .i64 a, .int .i64 b, .int .i64 c, .int .i64 d, .int .i64 x, .int .i64 y] 29)).alloc (.cells #[.int .i64 0, .int .i64 0] 27)) := ((Km.at (w.heap.size) rfl).alloc _)
    have R0 : KV (w.heap.size + 1) 0 0 ((w.alloc (.cells #[.int .i64 a, .int .i64 b, .int .i64 c, .int .i64 d, .int .i64 x, .int .i64 y] 29)).alloc (.cells #[.int .i64 0, .int .i64 0] 27)) := (KV.at (w.heap.size + 1) (by simp))
    have B0 : Below w.heap.size w ((w.alloc (.cells #[.int .i64 a, .int .i64 b, .int .i64 c, .int .i64 d, .int .i64 x, .int .i64 y] 29)).alloc (.cells #[.int .i64 0, .int .i64 0] 27)) := (Below.alloc (Below.alloc (Below.refl _ _) (by first | with_reducible exact Nat.le_refl _ | (simp <;> omega)) _) (by first | with_reducible exact Nat.le_refl _ | (simp <;> omega)) _)
    go_enter Tryz.func7, Tryz.ntmps7
    have M0c0 := M0.c0
    have M0c1 := M0.c1
    have M0c2 := M0.c2
    have M0c3 := M0.c3
    have M0c4 := M0.c4
    have M0c5 := M0.c5
    have M0l := M0.1
    have R0c0 := R0.c0
    have R0c1 := R0.c1
    have R0f0 := R0.f0
    have R0f1 := R0.f1
    have R0l := R0.lt
    go_wp2_with fail
    refine (specIsMo_any _ _ _ _ _ _ _).mono ?_
    rintro e w1 ⟨rfl, hb1⟩
    have M1 : Km (w.heap.size) a b c d x y w1 := Km.call M0 hb1
    have R1 : KV (w.heap.size + 1) 0 0 w1 := KV.call R0 hb1
    have B1 : Below w.heap.size w w1 := bstep B0 hb1
    clear hb1 B0 M0 R0
    have M1c0 := M1.c0
    have M1c1 := M1.c1
    have M1c2 := M1.c2
    have M1c3 := M1.c3
    have M1c4 := M1.c4
    have M1c5 := M1.c5
    have M1l := M1.1
    have M1n : ¬ w.heap.size = w1.heap.size := by omega
    have R1c0 := R1.c0
    have R1c1 := R1.c1
    have R1f0 := R1.f0
    have R1f1 := R1.f1
    have R1l := R1.lt
    have R1n : ¬ w.heap.size + 1 = w1.heap.size := by omega
    go_wp2_with fail
    refine (l05Kind_any _ _ _ _ _ _ _ hm).mono ?_
    rintro e w2 ⟨rfl, hb2⟩
    have M2 : Km (w.heap.size) a b c d x y w2 := Km.call M1 hb2
    have R2 : KV (w.heap.size + 1) 0 0 w2 := KV.call R1 hb2
    have B2 : Below w.heap.size w w2 := bstep B1 hb2
    clear hb2 B1 M1 R1
    have M2c0 := M2.c0
    have M2c1 := M2.c1
    have M2c2 := M2.c2
    have M2c3 := M2.c3
    have M2c4 := M2.c4
    have M2c5 := M2.c5
    have M2l := M2.1
    have M2n : ¬ w.heap.size = w2.heap.size := by omega
    have R2c0 := R2.c0
    have R2c1 := R2.c1
    have R2f0 := R2.f0
    have R2f1 := R2.f1
    have R2l := R2.lt
    have R2n : ¬ w.heap.size + 1 = w2.heap.size := by omega
    go_wp2_with fail
    refine (l05Centre_any _ _ _ _ _ _ _ hm hk2).mono ?_
    rintro e w3 ⟨rfl, hb3⟩
    have M3 : Km (w.heap.size) a b c d x y w3 := Km.call M2 hb3
    have R3 : KV (w.heap.size + 1) 0 0 w3 := KV.call R2 hb3
    have B3 : Below w.heap.size w w3 := bstep B2 hb3
    clear hb3 B2 M2 R2
    have M3c0 := M3.c0
    have M3c1 := M3.c1
    have M3c2 := M3.c2
    have M3c3 := M3.c3
    have M3c4 := M3.c4
    have M3c5 := M3.c5
    have M3l := M3.1
    have M3n : ¬ w.heap.size = w3.heap.size := by omega
    have R3c0 := R3.c0
    have R3c1 := R3.c1
    have R3f0 := R3.f0
    have R3f1 := R3.f1
    have R3l := R3.lt
    have R3n : ¬ w.heap.size + 1 = w3.heap.size := by omega
    go_wp2_with fail
    refine (specIsVec_any _ _ _).mono ?_
    rintro e w4 ⟨rfl, hb4⟩
    have M4 : Km (w.heap.size) a b c d x y w4 := Km.call (M3.alloc _) hb4
    have R4 : KV (w.heap.size + 1) 0 0 w4 := KV.call (R3.alloc _) hb4
    have C4 : Kg (w3.heap.size) ((ceX a b c d x y).tdiv (ceG a b c d x y)) ((ceY a b c d x y).tdiv (ceG a b c d x y)) w4 := (Kg.at2 (w3.heap.size) (by simp) : Kg (w3.heap.size) ((ceX a b c d x y).tdiv (ceG a b c d x y)) ((ceY a b c d x y).tdiv (ceG a b c d x y)) _).call hb4
    have B4 : Below w.heap.size w w4 := bstep (Below.alloc B3 (by have := B3.size; first | omega | (simp <;> omega)) _) hb4
    clear hb4 B3 M3 R3
    have M4c0 := M4.c0
    have M4c1 := M4.c1
    have M4c2 := M4.c2
    have M4c3 := M4.c3
    have M4c4 := M4.c4
    have M4c5 := M4.c5
    have M4l := M4.1
    have M4n : ¬ w.heap.size = w4.heap.size := by omega
    have R4c0 := R4.c0
    have R4c1 := R4.c1
    have R4f0 := R4.f0
    have R4f1 := R4.f1
    have R4l := R4.lt
    have R4n : ¬ w.heap.size + 1 = w4.heap.size := by omega
    have C4c0 := C4.c0
    have C4c1 := C4.c1
    have C4l := C4.1
    have C4n : ¬ w3.heap.size = w4.heap.size := by omega
    go_wp2
    refine bodyPost_ret (v := .tuple #[.agg #[.int .i64 0, .int .i64 0], .int .i64 0, .int .i64 3]) (by simp [results, Tryz.results7, go_sem, *]) rfl ⟨ret_val EA.out.symm, ?_⟩
    repeat (first | with_reducible assumption | with_reducible exact Below.refl _ _ | with_reducible refine Below.setCell ?_ (by first | omega | (simp <;> omega)) _ | with_reducible refine Below.alloc ?_ (by first | omega | (simp <;> omega)) _ | with_reducible refine bstep ?_ (by with_reducible assumption) | with_reducible refine Below.drew ?_)
  · have EA := Lib.hid (show cenT (cenR a b c d x y) = .tuple #[.agg #[.int .i64 ((ceX a b c d x y).tdiv (ceG a b c d x y)), .int .i64 ((ceY a b c d x y).tdiv (ceG a b c d x y))], .int .i64 ((2 - (a + d)).tdiv (ceG a b c d x y)), .int .i64 0] by simp [cenT, cenR, hm, hk, hs])
    have hk2 : knd a b c d x y = 2 := by simpa using hk
    have M0 : Km (w.heap.size) a b c d x y ((w.alloc (.cells #[.int .i64 a, .int .i64 b, .int .i64 c, .int .i64 d, .int .i64 x, .int .i64 y] 29)).alloc (.cells #[.int .i64 0, .int .i64 0] 27)) := ((Km.at (w.heap.size) rfl).alloc _)
    have R0 : KV (w.heap.size + 1) 0 0 ((w.alloc (.cells #[.int .i64 a, .int .i64 b, .int .i64 c, .int .i64 d, .int .i64 x, .int .i64 y] 29)).alloc (.cells #[.int .i64 0, .int .i64 0] 27)) := (KV.at (w.heap.size + 1) (by simp))
    have B0 : Below w.heap.size w ((w.alloc (.cells #[.int .i64 a, .int .i64 b, .int .i64 c, .int .i64 d, .int .i64 x, .int .i64 y] 29)).alloc (.cells #[.int .i64 0, .int .i64 0] 27)) := (Below.alloc (Below.alloc (Below.refl _ _) (by first | with_reducible exact Nat.le_refl _ | (simp <;> omega)) _) (by first | with_reducible exact Nat.le_refl _ | (simp <;> omega)) _)
    go_enter Tryz.func7, Tryz.ntmps7
    have M0c0 := M0.c0
    have M0c1 := M0.c1
    have M0c2 := M0.c2
    have M0c3 := M0.c3
    have M0c4 := M0.c4
    have M0c5 := M0.c5
    have M0l := M0.1
    have R0c0 := R0.c0
    have R0c1 := R0.c1
    have R0f0 := R0.f0
    have R0f1 := R0.f1
    have R0l := R0.lt
    go_wp2_with fail
    refine (specIsMo_any _ _ _ _ _ _ _).mono ?_
    rintro e w1 ⟨rfl, hb1⟩
    have M1 : Km (w.heap.size) a b c d x y w1 := Km.call M0 hb1
    have R1 : KV (w.heap.size + 1) 0 0 w1 := KV.call R0 hb1
    have B1 : Below w.heap.size w w1 := bstep B0 hb1
    clear hb1 B0 M0 R0
    have M1c0 := M1.c0
    have M1c1 := M1.c1
    have M1c2 := M1.c2
    have M1c3 := M1.c3
    have M1c4 := M1.c4
    have M1c5 := M1.c5
    have M1l := M1.1
    have M1n : ¬ w.heap.size = w1.heap.size := by omega
    have R1c0 := R1.c0
    have R1c1 := R1.c1
    have R1f0 := R1.f0
    have R1f1 := R1.f1
    have R1l := R1.lt
    have R1n : ¬ w.heap.size + 1 = w1.heap.size := by omega
    go_wp2_with fail
    refine (l05Kind_any _ _ _ _ _ _ _ hm).mono ?_
    rintro e w2 ⟨rfl, hb2⟩
    have M2 : Km (w.heap.size) a b c d x y w2 := Km.call M1 hb2
    have R2 : KV (w.heap.size + 1) 0 0 w2 := KV.call R1 hb2
    have B2 : Below w.heap.size w w2 := bstep B1 hb2
    clear hb2 B1 M1 R1
    have M2c0 := M2.c0
    have M2c1 := M2.c1
    have M2c2 := M2.c2
    have M2c3 := M2.c3
    have M2c4 := M2.c4
    have M2c5 := M2.c5
    have M2l := M2.1
    have M2n : ¬ w.heap.size = w2.heap.size := by omega
    have R2c0 := R2.c0
    have R2c1 := R2.c1
    have R2f0 := R2.f0
    have R2f1 := R2.f1
    have R2l := R2.lt
    have R2n : ¬ w.heap.size + 1 = w2.heap.size := by omega
    go_wp2_with fail
    refine (l05Centre_any _ _ _ _ _ _ _ hm hk2).mono ?_
    rintro e w3 ⟨rfl, hb3⟩
    have M3 : Km (w.heap.size) a b c d x y w3 := Km.call M2 hb3
    have R3 : KV (w.heap.size + 1) 0 0 w3 := KV.call R2 hb3
    have B3 : Below w.heap.size w w3 := bstep B2 hb3
    clear hb3 B2 M2 R2
    have M3c0 := M3.c0
    have M3c1 := M3.c1
    have M3c2 := M3.c2
    have M3c3 := M3.c3
    have M3c4 := M3.c4
    have M3c5 := M3.c5
    have M3l := M3.1
    have M3n : ¬ w.heap.size = w3.heap.size := by omega
    have R3c0 := R3.c0
    have R3c1 := R3.c1
    have R3f0 := R3.f0
    have R3f1 := R3.f1
    have R3l := R3.lt
    have R3n : ¬ w.heap.size + 1 = w3.heap.size := by omega
    go_wp2_with fail
    refine (specIsVec_any _ _ _).mono ?_
    rintro e w4 ⟨rfl, hb4⟩
    have M4 : Km (w.heap.size) a b c d x y w4 := Km.call (M3.alloc _) hb4
    have R4 : KV (w.heap.size + 1) 0 0 w4 := KV.call (R3.alloc _) hb4
    have C4 : Kg (w3.heap.size) ((ceX a b c d x y).tdiv (ceG a b c d x y)) ((ceY a b c d x y).tdiv (ceG a b c d x y)) w4 := (Kg.at2 (w3.heap.size) (by simp) : Kg (w3.heap.size) ((ceX a b c d x y).tdiv (ceG a b c d x y)) ((ceY a b c d x y).tdiv (ceG a b c d x y)) _).call hb4
    have B4 : Below w.heap.size w w4 := bstep (Below.alloc B3 (by have := B3.size; first | omega | (simp <;> omega)) _) hb4
    clear hb4 B3 M3 R3
    have M4c0 := M4.c0
    have M4c1 := M4.c1
    have M4c2 := M4.c2
    have M4c3 := M4.c3
    have M4c4 := M4.c4
    have M4c5 := M4.c5
    have M4l := M4.1
    have M4n : ¬ w.heap.size = w4.heap.size := by omega
    have R4c0 := R4.c0
    have R4c1 := R4.c1
    have R4f0 := R4.f0
    have R4f1 := R4.f1
    have R4l := R4.lt
    have R4n : ¬ w.heap.size + 1 = w4.heap.size := by omega
    have C4c0 := C4.c0
    have C4c1 := C4.c1
    have C4l := C4.1
    have C4n : ¬ w3.heap.size = w4.heap.size := by omega
    go_wp2
    refine bodyPost_ret (v := .tuple #[.agg #[.int .i64 ((ceX a b c d x y).tdiv (ceG a b c d x y)), .int .i64 ((ceY a b c d x y).tdiv (ceG a b c d x y))], .int .i64 ((2 - (a + d)).tdiv (ceG a b c d x y)), .int .i64 0]) (by simp [results, Tryz.results7, go_sem, *]) rfl ⟨ret_val EA.out.symm, ?_⟩
    repeat (first | with_reducible assumption | with_reducible exact Below.refl _ _ | with_reducible refine Below.setCell ?_ (by first | omega | (simp <;> omega)) _ | with_reducible refine Below.alloc ?_ (by first | omega | (simp <;> omega)) _ | with_reducible refine bstep ?_ (by with_reducible assumption) | with_reducible refine Below.drew ?_)

end Go.Proofs.YtpdekopmnchanabGreatDoor
