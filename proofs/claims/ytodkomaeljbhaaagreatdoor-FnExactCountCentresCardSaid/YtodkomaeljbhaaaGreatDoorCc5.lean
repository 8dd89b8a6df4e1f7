/-
  Contracts of chapter 11 in the model: the centre of a rotation with a shift of up to 2000, and its class by a lattice. Conditions: those stated.
-/
import Derived.Test.YtodkomaeljbhaaaGreatDoorCcF
import Derived.Test.YtodkomaeljbhaaaGreatDoorMo3
import Derived.Test.YtodkomaeljbhaaaGreatDoorGc
import Derived.Test.YtodkomaeljbhaaaGreatDoorMo1
import Derived.Test.YtodkomaeljbhaaaGreatDoorGb
import Derived.Test.YtodkomaeljbhaaaGreatDoorGf
import Derived.Deep.RegionHeld3
import Derived.IntWalk
namespace Go.Proofs.YtodkomaeljbhaaaGreatDoor
open Go.RowKit
set_option linter.unusedSimpArgs false
set_option linter.unusedVariables false

theorem ceG_posC {a b c d x y : Int} (t1 : 1 ≤ 2 - (a + d)) (t2 : 2 - (a + d) ≤ 4) : 1 ≤ ceG a b c d x y ∧ ceG a b c d x y ≤ 4 := by
  have h1 : ceG a b c d x y ∣ 2 - (a + d) := Int.gcd_dvd_right ..
  have h2 := Int.le_of_dvd (by omega) h1
  have h3 : 0 ≤ ceG a b c d x y := Int.natCast_nonneg _
  have h4 : ceG a b c d x y ≠ 0 := by
    intro e
    rw [e] at h1
    have := Int.zero_dvd.1 h1
    omega
  omega
theorem ce_bdC {a b c d x y : Int} (hs : ((-1 ≤ a ∧ a ≤ 1) ∧ (-1 ≤ b ∧ b ≤ 1)) ∧ ((-1 ≤ c ∧ c ≤ 1) ∧ (-1 ≤ d ∧ d ≤ 1))) (hx : -2000 ≤ x ∧ x ≤ 2000) (hy : -2000 ≤ y ∧ y ≤ 2000) : (-6000 ≤ ceX a b c d x y ∧ ceX a b c d x y ≤ 6000) ∧ (-6000 ≤ ceY a b c d x y ∧ ceY a b c d x y ≤ 6000) := by
  have h1 : ∀ (p q s t : Int), (-1 ≤ p ∧ p ≤ 1) → (-1 ≤ q ∧ q ≤ 1) → (-2000 ≤ s ∧ s ≤ 2000) → (-2000 ≤ t ∧ t ≤ 2000) → -6000 ≤ (1 - p) * s + q * t ∧ (1 - p) * s + q * t ≤ 6000 := by
    intro p q s t hp hq hs ht
    have h1 : p = -1 ∨ p = 0 ∨ p = 1 := by omega
    have h2 : q = -1 ∨ q = 0 ∨ q = 1 := by omega
    rcases h1 with rfl | rfl | rfl <;> rcases h2 with rfl | rfl | rfl <;> omega
  unfold ceX ceY
  exact ⟨h1 d b x y hs.2.2 hs.1.2 hx hy, h1 a c y x hs.1.1 hs.2.1 hy hx⟩
set_option maxRecDepth 100000 in
set_option maxHeartbeats 4000000 in
theorem l05CenC_any (a b c d x y : Int) (w : World) (hs : ((-1 ≤ a ∧ a ≤ 1) ∧ (-1 ≤ b ∧ b ≤ 1)) ∧ ((-1 ≤ c ∧ c ≤ 1) ∧ (-1 ≤ d ∧ d ≤ 1))) (hd1 : a * d - b * c = 1) (t1 : 1 ≤ 2 - (a + d)) (t2 : 2 - (a + d) ≤ 4) (hx : -2000 ≤ x ∧ x ≤ 2000) (hy : -2000 ≤ y ∧ y ≤ 2000) :
    Calls Tryz.prog 102 #[.agg #[.int .i64 a, .int .i64 b, .int .i64 c, .int .i64 d, .int .i64 x, .int .i64 y]] w fun e w' => e = .returned (.tuple #[.agg #[.int .i64 ((ceX a b c d x y).tdiv (ceG a b c d x y)), .int .i64 ((ceY a b c d x y).tdiv (ceG a b c d x y))], .int .i64 ((2 - (a + d)).tdiv (ceG a b c d x y))]) ∧ Below w.heap.size w w' := by
  obtain ⟨b1, b2⟩ := ce_bdC hs hx hy
  obtain ⟨g1, g2⟩ := ceG_posC (x := x) (y := y) (b := b) (c := c) t1 t2
  have b1 : -2100000 ≤ ceX a b c d x y ∧ ceX a b c d x y ≤ 2100000 := by omega
  have b2 : -2100000 ≤ ceY a b c d x y ∧ ceY a b c d x y ≤ 2100000 := by omega
  have gb := gcdI_big (a := ceX a b c d x y) (b := ceY a b c d x y) (M := 2100000) (by omega) (by omega)
  have eX : (1 - d) * x - -b * y = ceX a b c d x y := by unfold ceX; rw [Int.neg_mul]; omega
  have eY : (1 - a) * y - -c * x = ceY a b c d x y := by unfold ceY; rw [Int.neg_mul]; omega
  have eD : (1 - a) * (1 - d) - -b * -c = 2 - (a + d) := by
    have : (1 - a) * (1 - d) - -b * -c = 1 - a - d + (a * d - b * c) := by grind
    rw [this, hd1]; omega
  have p1 := mulBd (a := 1 - a) (b := 1 - d) (A := 1001) (B := 1001) (by omega) (by omega) (by omega) (by omega)
  have p2 := mulBd (a := -b) (b := -c) (A := 1000) (B := 1000) (by omega) (by omega) (by omega) (by omega)
  have p3 := mulBd (a := 1 - d) (b := x) (A := 1001) (B := 2000) (by omega) (by omega) (by omega) (by omega)
  have p4 := mulBd (a := -b) (b := y) (A := 1000) (B := 2000) (by omega) (by omega) (by omega) (by omega)
  have p5 := mulBd (a := 1 - a) (b := y) (A := 1001) (B := 2000) (by omega) (by omega) (by omega) (by omega)
  have p6 := mulBd (a := -c) (b := x) (A := 1000) (B := 2000) (by omega) (by omega) (by omega) (by omega)
  clear hd1
  have M0 : Km (w.heap.size) a b c d x y ((w.alloc (.cells #[.int .i64 a, .int .i64 b, .int .i64 c, .int .i64 d, .int .i64 x, .int .i64 y] 55)).alloc (.cells #[.int .i64 0, .int .i64 0] 53)) := ((Km.at (w.heap.size) rfl).alloc _)
  have R0 : KV (w.heap.size + 1) 0 0 ((w.alloc (.cells #[.int .i64 a, .int .i64 b, .int .i64 c, .int .i64 d, .int .i64 x, .int .i64 y] 55)).alloc (.cells #[.int .i64 0, .int .i64 0] 53)) := (KV.at (w.heap.size + 1) (by simp))
  have B0 : Below w.heap.size w ((w.alloc (.cells #[.int .i64 a, .int .i64 b, .int .i64 c, .int .i64 d, .int .i64 x, .int .i64 y] 55)).alloc (.cells #[.int .i64 0, .int .i64 0] 53)) := (Below.alloc (Below.alloc (Below.refl _ _) (by first | with_reducible exact Nat.le_refl _ | (simp <;> omega)) _) (by first | with_reducible exact Nat.le_refl _ | (simp <;> omega)) _)
  go_enter Tryz.func102, Tryz.ntmps102
  have M0c0 := M0.c0
  have M0c1 := M0.c1
  have M0c2 := M0.c2
  have M0c3 := M0.c3
  have M0c4 := M0.c4
  have M0c5 := M0.c5
  have M0l := M0.1
  have R0c0 := R0.c0
  have R0c1 := R0.c1
  have R0f0 := R0.f0
  have R0f1 := R0.f1
  have R0l := R0.lt
  go_wp2_with fail
  go_region_held3 (fun W => (W.cell? ⟨w.heap.size, 0, none⟩ = some (.int .i64 a) ∧ W.cell? ⟨w.heap.size, 1, none⟩ = some (.int .i64 b) ∧ W.cell? ⟨w.heap.size, 2, none⟩ = some (.int .i64 c) ∧ W.cell? ⟨w.heap.size, 3, none⟩ = some (.int .i64 d) ∧ W.cell? ⟨w.heap.size, 4, none⟩ = some (.int .i64 x) ∧ W.cell? ⟨w.heap.size, 5, none⟩ = some (.int .i64 y))) ((refine Km.cells ?_; repeat (first | with_reducible assumption | with_reducible refine Km.drew ?_ | with_reducible refine Km.alloc ?_ _ | with_reducible refine Km.call ?_ (by with_reducible assumption) | ((with_reducible refine Km.put ?_ ?_); (first | omega | (dsimp only; omega))) | ((with_reducible refine Km.far ?_ ?_); (first | omega | (dsimp only; omega)))))) (fail)
  go_wp2_with fail
  refine (divisorBigB_any _ _ _ (by omega) (by omega) (by omega) (by omega)).mono ?_
  rintro e w1 ⟨rfl, hb1⟩
  have R1 : KV (w.heap.size + 1) 0 0 w1 := by repeat (first | with_reducible assumption | with_reducible refine KV.drew ?_ | with_reducible refine KV.alloc ?_ _ | with_reducible refine KV.call ?_ (by with_reducible assumption))
  have C1 : KV (w.heap.size + 1 + 1) (ceX a b c d x y) (ceY a b c d x y) w1 := by repeat (first | with_reducible assumption | (with_reducible exact KV.at _ (by first | with_reducible rfl | (simp; done) | fail)) | with_reducible refine KV.drew ?_ | with_reducible refine KV.alloc ?_ _ | with_reducible refine KV.call ?_ (by with_reducible assumption))
  have B1 : Below w.heap.size w w1 := by repeat (first | with_reducible assumption | with_reducible exact Below.refl _ _ | with_reducible refine Below.setCell ?_ (by first | omega | (simp <;> omega)) _ | with_reducible refine Below.alloc ?_ (by first | omega | (simp <;> omega)) _ | with_reducible refine bstep ?_ (by with_reducible assumption) | with_reducible refine Below.drew ?_)
  clear hb1 M0 R0 B0
  have tX := tdiv_le g1 2100000 (by omega) b1
  have tY := tdiv_le g1 2100000 (by omega) b2
  have tD := tdiv_le (a := 2 - (a + d)) g1 4 (by omega) (by omega)
  have hgE : gcdI (gcdI (ceX a b c d x y) (ceY a b c d x y)) (2 - (a + d)) = ceG a b c d x y := rfl
  clear eX eY eD p1 p2 p3 p4 p5 p6 hs hx hy
  generalize hXe : ceX a b c d x y = X at *
  generalize hYe : ceY a b c d x y = Y at *
  generalize hDe : 2 - (a + d) = D at *
  generalize hGe : ceG a b c d x y = G at *
  have n21 : ¬ w.heap.size + 1 + 1 = w.heap.size + 1 := by omega
  have R1c0 := R1.c0
  have R1c1 := R1.c1
  have R1f0 := R1.f0
  have R1f1 := R1.f1
  have R1l := R1.lt
  have R1n : ¬ w.heap.size + 1 = w1.heap.size := by omega
  have C1c0 := C1.c0
  have C1c1 := C1.c1
  have C1f0 := C1.f0
  have C1f1 := C1.f1
  have C1l := C1.lt
  have C1n : ¬ w.heap.size + 1 + 1 = w1.heap.size := by omega
  go_wp2_with fail
  refine (divisorBigB_any _ _ _ (by omega) (by omega) (by omega) (by omega)).mono ?_
  rintro e w2 ⟨rfl, hb2⟩
  have R2 : KV (w.heap.size + 1) 0 0 w2 := KV.call R1 hb2
  have C2 : KV (w.heap.size + 1 + 1) X Y w2 := KV.call C1 hb2
  have B2 : Below w.heap.size w w2 := bstep B1 hb2
  clear hb2 B1 R1 C1
  have R2c0 := R2.c0
  have R2c1 := R2.c1
  have R2f0 := R2.f0
  have R2f1 := R2.f1
  have R2l := R2.lt
  have R2n : ¬ w.heap.size + 1 = w2.heap.size := by omega
  have C2c0 := C2.c0
  have C2c1 := C2.c1
  have C2f0 := C2.f0
  have C2f1 := C2.f1
  have C2l := C2.lt
  have C2n : ¬ w.heap.size + 1 + 1 = w2.heap.size := by omega
  rw [hgE]
  have hw1 : IntKind.i64.wrap (X.tdiv G) = X.tdiv G := IntWalk.i64_in _ (by omega)
  have hw2 : IntKind.i64.wrap (Y.tdiv G) = Y.tdiv G := IntWalk.i64_in _ (by omega)
  have hw3 : IntKind.i64.wrap (D.tdiv G) = D.tdiv G := IntWalk.i64_in _ (by omega)
  have hz0 : ¬ G = 0 := by omega
  have hd0 : ¬ D < 0 := by omega
  clear tX tY tD hgE gb b1 b2 t1 t2 g1 g2
  go_wp2_with fail
  go_region_held3 (fun W => (W.cell? ⟨w.heap.size + 1 + 1, 0, none⟩ = some (.int .i64 X) ∧ W.cell? ⟨w.heap.size + 1 + 1, 1, none⟩ = some (.int .i64 Y))) ((refine KV.cells5 (R := w.heap.size + 1 + 1) ?_; repeat (first | with_reducible assumption | with_reducible refine KV.drew ?_ | with_reducible refine KV.alloc ?_ _ | with_reducible refine KV.call ?_ (by with_reducible assumption) | ((with_reducible refine KV.put ?_ ?_); (first | omega | (dsimp only; omega))) | ((with_reducible refine KV.far5 ?_ ?_); (first | omega | (dsimp only; omega)))))) (fail)
  all_goals
    go_wp2
    refine bodyPost_ret (v := .tuple #[.agg #[.int .i64 (X.tdiv G), .int .i64 (Y.tdiv G)], .int .i64 (D.tdiv G)]) (by simp [results, Tryz.results102, go_sem, *]) rfl ⟨by rw [hXe, hYe, hDe, hGe], ?_⟩
    repeat (first | with_reducible assumption | with_reducible exact Below.refl _ _ | with_reducible refine Below.setCell ?_ (by first | omega | (simp <;> omega)) _ | with_reducible refine Below.alloc ?_ (by first | omega | (simp <;> omega)) _ | with_reducible refine bstep ?_ (by with_reducible assumption) | with_reducible refine Below.drew ?_)

/- the numbers of the class -/
theorem cls_nums {a b c d x y : Int} (t1 : 1 ≤ 2 - (a + d)) (t2 : 2 - (a + d) ≤ 4) : ∃ D' X' Y' : Int, (2 - (a + d)).tdiv (ceG a b c d x y) = D' ∧ (ceX a b c d x y).tdiv (ceG a b c d x y) = X' ∧ (ceY a b c d x y).tdiv (ceG a b c d x y) = Y' ∧ 1 ≤ D' ∧ D' ≤ 4 ∧
    (12 : Int).tdiv D' * X' = 12 / (2 - (a + d)) * ceX a b c d x y ∧ (12 : Int).tdiv D' * Y' = 12 / (2 - (a + d)) * ceY a b c d x y ∧ 1 ≤ (12 : Int).tdiv D' ∧ (12 : Int).tdiv D' ≤ 12 := by
  obtain ⟨g1, g2⟩ := ceG_posC (x := x) (y := y) (b := b) (c := c) t1 t2
  have h1 : ceG a b c d x y ∣ 2 - (a + d) := Int.gcd_dvd_right ..
  have h0 : ceG a b c d x y ∣ gcdI (ceX a b c d x y) (ceY a b c d x y) := Int.gcd_dvd_left ..
  have h2 : ceG a b c d x y ∣ ceX a b c d x y := Int.dvd_trans h0 (Int.gcd_dvd_left ..)
  have h3 : ceG a b c d x y ∣ ceY a b c d x y := Int.dvd_trans h0 (Int.gcd_dvd_right ..)
  generalize ceG a b c d x y = g at *
  generalize 2 - (a + d) = D at *
  obtain ⟨D', hD⟩ := h1
  obtain ⟨X', hX⟩ := h2
  obtain ⟨Y', hY⟩ := h3
  have hg : g ≠ 0 := by omega
  refine ⟨D', X', Y', ?_, ?_, ?_, ?_⟩
  · rw [hD, Int.mul_tdiv_cancel_left _ hg]
  · rw [hX, Int.mul_tdiv_cancel_left _ hg]
  · rw [hY, Int.mul_tdiv_cancel_left _ hg]
  have hgc : g = 1 ∨ g = 2 ∨ g = 3 ∨ g = 4 := by omega
  have hDc : D = 1 ∨ D = 2 ∨ D = 3 ∨ D = 4 := by omega
  rw [hX, hY]
  clear hX hY
  rcases hgc with rfl | rfl | rfl | rfl <;> rcases hDc with rfl | rfl | rfl | rfl <;> (first | (exfalso; omega) | skip)
  all_goals
    rcases (show D' = 1 ∨ D' = 2 ∨ D' = 3 ∨ D' = 4 by omega) with rfl | rfl | rfl | rfl <;> (first | (exfalso; omega) | skip)
  all_goals
    refine ⟨by omega, by omega, ?_, ?_, by decide, by decide⟩
    all_goals
      rw [← Int.mul_assoc]
      congr 1
set_option maxRecDepth 100000 in
set_option maxHeartbeats 8000000 in
theorem l11Class_any (A B C a b c d x y : Int) (w : World) (hl : latI A B C) (hs : ((-1 ≤ a ∧ a ≤ 1) ∧ (-1 ≤ b ∧ b ≤ 1)) ∧ ((-1 ≤ c ∧ c ≤ 1) ∧ (-1 ≤ d ∧ d ≤ 1))) (hd1 : a * d - b * c = 1) (t1 : 1 ≤ 2 - (a + d)) (t2 : 2 - (a + d) ≤ 4) (hx : -2000 ≤ x ∧ x ≤ 2000) (hy : -2000 ≤ y ∧ y ≤ 2000) :
    Calls Tryz.prog 66 #[.agg #[.int .i64 A, .int .i64 B, .int .i64 C], .agg #[.int .i64 a, .int .i64 b, .int .i64 c, .int .i64 d, .int .i64 x, .int .i64 y]] w fun e w' => e = .returned (.agg #[.int .i64 ((clsV A B C a b c d x y).1), .int .i64 ((clsV A B C a b c d x y).2)]) ∧ Below w.heap.size w w' := by
    obtain ⟨cx, hcx⟩ : ∃ z, z = (clsV A B C a b c d x y).1 := ⟨_, rfl⟩
    obtain ⟨cy, hcy⟩ : ∃ z, z = (clsV A B C a b c d x y).2 := ⟨_, rfl⟩
    rw [← hcx, ← hcy]
    have HCE := Lib.hid (fun W => l05CenC_any a b c d x y W hs hd1 t1 t2 hx hy)
    obtain ⟨D', X', Y', n1, n2, n3, d1, d2, eX, eY, f1, f2⟩ := cls_nums (a := a) (b := b) (c := c) (d := d) (x := x) (y := y) t1 t2
    have HNM := Lib.hid (show (ceX a b c d x y).tdiv (ceG a b c d x y) = X' ∧ (ceY a b c d x y).tdiv (ceG a b c d x y) = Y' ∧ (2 - (a + d)).tdiv (ceG a b c d x y) = D' from ⟨n2, n3, n1⟩)
    obtain ⟨b1, b2⟩ := ce_bdC hs hx hy
    have hDc : 2 - (a + d) = 1 ∨ 2 - (a + d) = 2 ∨ 2 - (a + d) = 3 ∨ 2 - (a + d) = 4 := by omega
    have hT : 1 ≤ 12 / (2 - (a + d)) ∧ 12 / (2 - (a + d)) ≤ 12 := by rcases hDc with h | h | h | h <;> rw [h] <;> decide
    obtain ⟨VX, hVX⟩ : ∃ z, z = 12 / (2 - (a + d)) * ceX a b c d x y := ⟨_, rfl⟩
    obtain ⟨VY, hVY⟩ : ∃ z, z = 12 / (2 - (a + d)) * ceY a b c d x y := ⟨_, rfl⟩
    have bV : (-72000 ≤ VX ∧ VX ≤ 72000) ∧ (-72000 ≤ VY ∧ VY ≤ 72000) := by
      rcases hDc with h | h | h | h <;> rw [h] at hVX hVY <;> simp at hVX hVY <;> omega
    rw [← hVX] at eX
    rw [← hVY] at eY
    obtain ⟨n, hn⟩ : ∃ n, n = (12 : Int).tdiv D' := ⟨_, rfl⟩
    rw [← hn] at eX eY f1 f2
    have hwn : IntKind.i64.wrap ((12 : Int).tdiv D') = n := by rw [← hn]; exact IntWalk.i64_in _ (by omega)
    have hdz : ¬ D' = 0 := by omega
    have HSC := Lib.hid (fun W => scaleBig_any X' Y' n W (by rw [eX]; unfold bigI; omega) (by rw [eY]; unfold bigI; omega))
    have HVX := Lib.hid (show n * X' = VX ∧ n * Y' = VY from ⟨eX, eY⟩)
    obtain ⟨hA, hC, hB0, hB1, h64⟩ := id hl
    have hbb := latI_bd hl
    obtain ⟨m, hm⟩ : ∃ m, m = 12 * C := ⟨_, rfl⟩
    obtain ⟨m2, hm2⟩ : ∃ m, m = 12 * A := ⟨_, rfl⟩
    have hwm : IntKind.i64.wrap (12 * C) = m := by rw [hm]; exact IntWalk.i64_in _ (by omega)
    have hwm2 : IntKind.i64.wrap (12 * A) = m2 := by rw [hm2]; exact IntWalk.i64_in _ (by omega)
    have HM1 := Lib.hid (fun W => l01Mod_any VY m W (by unfold bigI; omega) (by omega) (by unfold bigI; omega))
    obtain ⟨k, hk⟩ : ∃ k, k = VY / m := ⟨_, rfl⟩
    have hmod := Int.emod_add_mul_ediv VY m
    rw [← hk] at hmod
    have hmb := Int.emod_nonneg VY (show m ≠ 0 by omega)
    have hmb2 := Int.emod_lt_of_pos VY (show 0 < m by omega)
    have hyy : VY % m = cy := by rw [hcy, hm]; unfold clsV redY; dsimp only; rw [hVY]
    have HYY := Lib.hid hyy
    rw [hyy] at hmod hmb hmb2
    have hws : IntKind.i64.wrap (VY - cy) = VY - cy := IntWalk.i64_in _ (by omega)
    have hkq : (VY - cy).tdiv m = k := by
      rw [show VY - cy = m * k by omega]
      exact Int.mul_tdiv_cancel_left _ (by omega)
    have hkb : -72000 ≤ k ∧ k ≤ 72000 := by
      have e : k.natAbs ≤ (VY - cy).natAbs := by
        rw [← hkq, Int.natAbs_tdiv]; exact Nat.div_le_self _ _
      have : (VY - cy).natAbs ≤ 72000 + 768 := by omega
      have h0 : k * m = VY - cy := by rw [Int.mul_comm]; omega
      have h1 : k.natAbs * m.natAbs = (VY - cy).natAbs := by rw [← Int.natAbs_mul, h0]
      have h2 : k.natAbs * 12 ≤ k.natAbs * m.natAbs := Nat.mul_le_mul_left _ (by omega)
      omega
    have hwk : IntKind.i64.wrap ((VY - cy).tdiv m) = k := by rw [hkq]; exact IntWalk.i64_in _ (by omega)
    have hmz : ¬ m = 0 := by omega
    have hw12 : IntKind.i64.wrap (12 * k) = 12 * k := IntWalk.i64_in _ (by omega)
    have hkB : -55296000 ≤ 12 * k * B ∧ 12 * k * B ≤ 55296000 := by
      have h1 : (12 * k * B).natAbs ≤ 864000 * 64 := by
        rw [Int.natAbs_mul]
        exact Nat.mul_le_mul (by omega) (by omega)
      omega
    have hwB : IntKind.i64.wrap (12 * k * B) = 12 * k * B := IntWalk.i64_in _ (by omega)
    have hwX : IntKind.i64.wrap (VX - 12 * k * B) = VX - 12 * k * B := IntWalk.i64_in _ (by omega)
    have HM2 := Lib.hid (fun W => l01Mod_any (VX - 12 * k * B) m2 W (by unfold bigI; omega) (by omega) (by unfold bigI; omega))
    have HXX := Lib.hid (show (VX - 12 * k * B) % m2 = cx from by rw [hcx, hm2, hk, hm]; unfold clsV redX; dsimp only; rw [← hVX, ← hVY]; congr 1; grind)
    clear hcx hcy n1 n2 n3 d1 d2 eX eY f1 f2 b1 b2 hDc hT hVX hVY bV hn hA hC hB0 hB1 h64 hbb hm hm2 hk hmod hmb hmb2 hyy hkq hkb hkB hs hd1 t1 t2 hx hy hl
    have L0 : Kt (w.heap.size) A B C (((w.alloc (.cells #[.int .i64 A, .int .i64 B, .int .i64 C] 30)).alloc (.cells #[.int .i64 a, .int .i64 b, .int .i64 c, .int .i64 d, .int .i64 x, .int .i64 y] 55)).alloc (.cells #[.int .i64 0, .int .i64 0] 53)) := (((Kt.at (w.heap.size) rfl).alloc _).alloc _)
    have M0 : Km (w.heap.size + 1) a b c d x y (((w.alloc (.cells #[.int .i64 A, .int .i64 B, .int .i64 C] 30)).alloc (.cells #[.int .i64 a, .int .i64 b, .int .i64 c, .int .i64 d, .int .i64 x, .int .i64 y] 55)).alloc (.cells #[.int .i64 0, .int .i64 0] 53)) := ((Km.at (w.heap.size + 1) (by simp)).alloc _)
    have R0 : KV (w.heap.size + 1 + 1) 0 0 (((w.alloc (.cells #[.int .i64 A, .int .i64 B, .int .i64 C] 30)).alloc (.cells #[.int .i64 a, .int .i64 b, .int .i64 c, .int .i64 d, .int .i64 x, .int .i64 y] 55)).alloc (.cells #[.int .i64 0, .int .i64 0] 53)) := (KV.at (w.heap.size + 1 + 1) (by simp))
    have B0 : Below w.heap.size w (((w.alloc (.cells #[.int .i64 A, .int .i64 B, .int .i64 C] 30)).alloc (.cells #[.int .i64 a, .int .i64 b, .int .i64 c, .int .i64 d, .int .i64 x, .int .i64 y] 55)).alloc (.cells #[.int .i64 0, .int .i64 0] 53)) := (Below.alloc (Below.alloc (Below.alloc (Below.refl _ _) (by first | with_reducible exact Nat.le_refl _ | (simp <;> omega)) _) (by first | with_reducible exact Nat.le_refl _ | (simp <;> omega)) _) (by first | with_reducible exact Nat.le_refl _ | (simp <;> omega)) _)
    go_enter Tryz.func66, Tryz.ntmps66
    have M0c0 := M0.c0
    have M0c1 := M0.c1
    have M0c2 := M0.c2
    have M0c3 := M0.c3
    have M0c4 := M0.c4
    have M0c5 := M0.c5
    have M0l := M0.1
    go_wp2_with fail
    refine (HCE.out _).mono ?_
    rintro e w1 ⟨rfl, hb1⟩
    rw [HNM.out.1, HNM.out.2.1, HNM.out.2.2]
    have L1 : Kt (w.heap.size) A B C w1 := Kt.call L0 hb1
    have M1 : Km (w.heap.size + 1) a b c d x y w1 := Km.call M0 hb1
    have R1 : KV (w.heap.size + 1 + 1) 0 0 w1 := KV.call R0 hb1
    have B1 : Below w.heap.size w w1 := bstep B0 hb1
    clear hb1 B0 L0 M0 R0
    go_upto_region 1 with fail
    have V2 : KV w1.heap.size X' Y' (w1.alloc (.cells #[.int .i64 X', .int .i64 Y'] 53)) := KV.at _ rfl
    have L2 : Kt w.heap.size A B C (w1.alloc (.cells #[.int .i64 X', .int .i64 Y'] 53)) := L1.alloc _
    have R2 : KV (w.heap.size + 1 + 1) 0 0 (w1.alloc (.cells #[.int .i64 X', .int .i64 Y'] 53)) := R1.alloc _
    have B2 : Below w.heap.size w (w1.alloc (.cells #[.int .i64 X', .int .i64 Y'] 53)) := Below.alloc B1 B1.size _
    have zR := R1.lt
    obtain ⟨w2, hw2⟩ : ∃ z, z = w1.alloc (.cells #[.int .i64 X', .int .i64 Y'] 53) := ⟨_, rfl⟩
    rw [← hw2] at V2 L2 R2 B2 ⊢
    obtain ⟨g, hg⟩ : ∃ z, z = w1.heap.size := ⟨_, rfl⟩
    rw [← hg] at V2 zR ⊢
    clear hw2 hg L1 M1 R1 B1
    have V2c0 := V2.c0
    have V2c1 := V2.c1
    have V2f0 := V2.f0
    have V2f1 := V2.f1
    have V2l := V2.lt
    have V2n : ¬ g = w2.heap.size := by omega
    go_region_with
      (go_at_call 64; refine (HSC.out _).mono ?_; rintro e w3 ⟨rfl, hb3⟩; rw [HVX.out.1, HVX.out.2]; have V3 : KV g X' Y' w3 := (by repeat (first | with_reducible assumption | with_reducible refine KV.drew ?_ | with_reducible refine KV.call ?_ (by with_reducible assumption))); have L3 : Kt w.heap.size A B C w3 := (by repeat (first | with_reducible assumption | with_reducible refine Kt.drew ?_ | with_reducible refine Kt.call ?_ (by with_reducible assumption))); have R3 : KV (w.heap.size + 1 + 1) 0 0 w3 := (by repeat (first | with_reducible assumption | with_reducible refine KV.drew ?_ | with_reducible refine KV.call ?_ (by with_reducible assumption))); have B3 : Below w.heap.size w w3 := (by repeat (first | with_reducible assumption | with_reducible refine Below.drew ?_ | with_reducible refine bstep ?_ (by with_reducible assumption))); have V3c0 := V3.c0; have V3c1 := V3.c1; have V3f0 := V3.f0; have V3f1 := V3.f1; have V3l := V3.lt)
    all_goals
      clear V2 L2 R2 B2
      have L3c0 := L3.c0
      have L3c1 := L3.c1
      have L3c2 := L3.c2
      have L3l := L3.1
      have ng1 : ¬ g = w.heap.size := by omega
      have ng2 : ¬ w.heap.size = g := by omega
      have ng3 : ¬ g = w.heap.size + 1 + 1 := by omega
      go_wp2_with fail
      refine (HM1.out _).mono ?_
      rintro e w4 ⟨rfl, hb4⟩
      rw [HYY.out]
      have V4 := KV.call (show KV g VX VY _ from by repeat (first | with_reducible assumption | with_reducible refine KV.store5 (a := X') (b := Y') ?_ _ _ | with_reducible refine KV.drew ?_)) hb4
      have L4 := Kt.call (show Kt (w.heap.size) A B C _ from by repeat (first | with_reducible assumption | with_reducible refine Kt.drew ?_ | ((with_reducible refine Kt.put ?_ ?_); (first | omega | (dsimp only; omega))))) hb4
      have R4 := KV.call (show KV (w.heap.size + 1 + 1) 0 0 _ from by repeat (first | with_reducible assumption | with_reducible refine KV.drew ?_ | ((with_reducible refine KV.far5 ?_ ?_); (first | omega | (dsimp only; omega))))) hb4
      have B4 : Below w.heap.size w w4 := bstep (by repeat (first | with_reducible assumption | with_reducible exact Below.refl _ _ | with_reducible refine Below.setCell ?_ (by first | omega | (simp <;> omega)) _ | with_reducible refine Below.alloc ?_ (by first | omega | (simp <;> omega)) _ | with_reducible refine bstep ?_ (by with_reducible assumption) | with_reducible refine Below.drew ?_)) hb4
      clear hb4 V3 L3 R3 B3
      have V4c0 := V4.c0
      have V4c1 := V4.c1
      have V4f0 := V4.f0
      have V4f1 := V4.f1
      have V4l := V4.lt
      have V4n : ¬ g = w4.heap.size := by omega
      have L4c0 := L4.c0
      have L4c1 := L4.c1
      have L4c2 := L4.c2
      have L4l := L4.1
      have L4n : ¬ w.heap.size = w4.heap.size := by omega
      go_wp2_with fail
      refine (HM2.out _).mono ?_
      rintro e w5 ⟨rfl, hb5⟩
      rw [HXX.out]
      have R5 := R4.call hb5
      have B5 := bstep B4 hb5
      clear hb5 B4 R4
      have R5c0 := R5.c0
      have R5c1 := R5.c1
      have R5f0 := R5.f0
      have R5f1 := R5.f1
      have R5l := R5.lt
      have R5n : ¬ w.heap.size + 1 + 1 = w5.heap.size := by omega
      go_wp2
      refine bodyPost_ret (v := .agg #[.int .i64 cx, .int .i64 cy]) (by simp [results, Tryz.results66, go_sem, *]) rfl ⟨rfl, ?_⟩
      repeat (first | with_reducible assumption | with_reducible exact Below.refl _ _ | with_reducible refine Below.setCell ?_ (by first | omega | (simp <;> omega)) _ | with_reducible refine Below.alloc ?_ (by first | omega | (simp <;> omega)) _ | with_reducible refine bstep ?_ (by with_reducible assumption) | with_reducible refine Below.drew ?_)
end Go.Proofs.YtodkomaeljbhaaaGreatDoor
