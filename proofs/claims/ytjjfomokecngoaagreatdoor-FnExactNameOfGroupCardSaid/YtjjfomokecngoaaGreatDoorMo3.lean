/-
 Contracts of the model's small functions on motions (chapter 5). Conditions: those stated.
-/
import Derived.Test.YtjjfomokecngoaaGreatDoorMo1
namespace Go.Proofs.YtjjfomokecngoaaGreatDoor
open Go.RowKit
set_option linter.unusedSimpArgs false
set_option linter.unusedVariables false

theorem pkMo32 {P : Prop} (h : P := by repeat (first | with_reducible assumption | with_reducible exact Below.refl _ _ | with_reducible refine Below.setCell ?_ (by first | omega | (simp <;> omega)) _ | with_reducible refine Below.alloc ?_ (by first | omega | (simp <;> omega)) _ | with_reducible refine bstep ?_ (by with_reducible assumption) | with_reducible refine Below.drew ?_)) : P := h
theorem pkMo33 {P : Prop} (h : P := by repeat (first | assumption | refine KV.drew ?_ | refine KV.alloc ?_ _ | refine KV.call ?_ (by assumption) | refine Km.drew ?_ | refine Km.alloc ?_ _ | refine Km.call ?_ (by assumption))) : P := h
theorem pkMo34 {P : Prop} (h : P := by repeat (first | assumption | refine KM.drew ?_ | refine KM.alloc ?_ _ | refine KM.call ?_ (by assumption) | refine Km.drew ?_ | refine Km.alloc ?_ _ | refine Km.call ?_ (by assumption))) : P := h
set_option maxRecDepth 100000 in
set_option maxHeartbeats 1000000 in
theorem l05Twice_any (a b c d x y : Int) (w : World) (hl : limB a b c d = true) (hv : vecB x y = true) :
  Calls Tryz.prog 166 #[.agg #[.int .i64 a, .int .i64 b, .int .i64 c, .int .i64 d, .int .i64 x, .int .i64 y]] w fun e w' => e = .returned (.agg #[.int .i64 (a * x + b * y + x), .int .i64 (c * x + d * y + y)]) ∧ Below w.heap.size w w' := by
 have S1 : -1000000000 ≤ a * x + b * y + x ∧ a * x + b * y + x ≤ 1000000000 := by
  obtain ⟨⟨ha, hb⟩, hc, hd⟩ := limB_bd hl
  obtain ⟨hx, hy⟩ := vecB_bd hv
  have e1 := mul1000 ha hx
  have e2 := mul1000 hb hy
  omega
 have S2 : -1000000000 ≤ c * x + d * y + y ∧ c * x + d * y + y ≤ 1000000000 := by
  obtain ⟨⟨ha, hb⟩, hc, hd⟩ := limB_bd hl
  obtain ⟨hx, hy⟩ := vecB_bd hv
  have e1 := mul1000 hc hx
  have e2 := mul1000 hd hy
  omega
 have M0 : Km (w.heap.size) a b c d x y ((w.alloc (.cells #[.int .i64 a, .int .i64 b, .int .i64 c, .int .i64 d, .int .i64 x, .int .i64 y] 69)).alloc (.cells #[.int .i64 0, .int .i64 0] 63)) := ((Km.at (w.heap.size) rfl).alloc _)
 have R0 : KV (w.heap.size + 1) 0 0 ((w.alloc (.cells #[.int .i64 a, .int .i64 b, .int .i64 c, .int .i64 d, .int .i64 x, .int .i64 y] 69)).alloc (.cells #[.int .i64 0, .int .i64 0] 63)) := (KV.at (w.heap.size + 1) (by simp))
 have B0 : Below w.heap.size w ((w.alloc (.cells #[.int .i64 a, .int .i64 b, .int .i64 c, .int .i64 d, .int .i64 x, .int .i64 y] 69)).alloc (.cells #[.int .i64 0, .int .i64 0] 63)) := (Below.alloc (Below.alloc (Below.refl _ _) (by first | with_reducible exact Nat.le_refl _ | (simp <;> omega)) _) (by first | with_reducible exact Nat.le_refl _ | (simp <;> omega)) _)
 go_enter Tryz.func166, Tryz.ntmps166
 have M0lt := M0.1
 have R0lt := R0.lt
 go_wp2_with fail
 go_region_held3 (fun W => (W.cell? ⟨w.heap.size, 0, none⟩ = some (.int .i64 a) ∧ W.cell? ⟨w.heap.size, 1, none⟩ = some (.int .i64 b) ∧ W.cell? ⟨w.heap.size, 2, none⟩ = some (.int .i64 c) ∧ W.cell? ⟨w.heap.size, 3, none⟩ = some (.int .i64 d) ∧ W.cell? ⟨w.heap.size, 4, none⟩ = some (.int .i64 x) ∧ W.cell? ⟨w.heap.size, 5, none⟩ = some (.int .i64 y))) ((refine Km.cells ?_ <;> repeat (first | with_reducible assumption | with_reducible refine KV.drew ?_ | with_reducible refine KV.alloc ?_ _ | with_reducible refine KV.call ?_ (by with_reducible assumption) | with_reducible refine Km.drew ?_ | with_reducible refine Km.alloc ?_ _ | with_reducible refine Km.call ?_ (by with_reducible assumption) | ((with_reducible refine KV.put ?_ ?_); (first | omega | (dsimp only; omega))) | ((with_reducible refine Km.put ?_ ?_); (first | omega | (dsimp only; omega))) | ((with_reducible refine KV.far5 ?_ ?_); (first | omega | (dsimp only; omega))) | ((with_reducible refine Km.far ?_ ?_); (first | omega | (dsimp only; omega))))))
  (first
   | (go_at_call 232; ((with_reducible refine (l02Apply_any _ _ _ _ _ _ _ hl hv).mono ?_); rintro e w1 ⟨rfl, hb1⟩; have M1 : Km (w.heap.size) a b c d x y w1 := (by with_reducible exact pkMo33); have R1 : KV (w.heap.size + 1) 0 0 w1 := (by with_reducible exact pkMo33); have M1l := M1.1; have R1c0 := R1.c0; have R1f0 := R1.f0; have R1c1 := R1.c1; have R1f1 := R1.f1; have R1l := R1.lt; have B1 : Below w.heap.size w w1 := (by repeat (first | with_reducible assumption | with_reducible refine Below.drew ?_ | with_reducible refine Below.alloc ?_ (by first | omega | (have := B0.size; simp <;> omega)) _ | with_reducible refine bstep ?_ (by with_reducible assumption)))))
   | (go_at_call 178; ((with_reducible refine (add5_any _ _ _ _ _ S1 S2).mono ?_); rintro e w2 ⟨rfl, hb2⟩; have M2 : Km (w.heap.size) a b c d x y w2 := (by with_reducible exact pkMo33); have R2 : KV (w.heap.size + 1) 0 0 w2 := (by with_reducible exact pkMo33); have M2l := M2.1; have R2c0 := R2.c0; have R2f0 := R2.f0; have R2c1 := R2.c1; have R2f1 := R2.f1; have R2l := R2.lt; have B2 : Below w.heap.size w w2 := (by repeat (first | with_reducible assumption | with_reducible refine Below.drew ?_ | with_reducible refine Below.alloc ?_ (by first | omega | (have := B0.size; simp <;> omega)) _ | with_reducible refine bstep ?_ (by with_reducible assumption))))))
 all_goals
  go_wp2
  refine bodyPost_ret (v := .agg #[.int .i64 (a * x + b * y + x), .int .i64 (c * x + d * y + y)]) (by simp [results, Tryz.results166, go_sem, *]) rfl ⟨rfl, ?_⟩
  exact pkMo32

set_option maxRecDepth 100000 in
set_option maxHeartbeats 1000000 in
theorem l05Compose_any (a b c d x y a' b' c' d' x' y' : Int) (w : World) (hl : limB a b c d = true) (hv : vecB x y = true) (hl' : limB a' b' c' d' = true) (hv' : vecB x' y' = true) :
  Calls Tryz.prog 188 #[.agg #[.int .i64 a, .int .i64 b, .int .i64 c, .int .i64 d, .int .i64 x, .int .i64 y], .agg #[.int .i64 a', .int .i64 b', .int .i64 c', .int .i64 d', .int .i64 x', .int .i64 y']] w fun e w' => e = .returned (.agg #[.int .i64 (a * a' + b * c'), .int .i64 (a * b' + b * d'), .int .i64 (c * a' + d * c'), .int .i64 (c * b' + d * d'), .int .i64 (a * x' + b * y' + x), .int .i64 (c * x' + d * y' + y)]) ∧ Below w.heap.size w w' := by
 have S1 : -1000000000 ≤ a * x' + b * y' + x ∧ a * x' + b * y' + x ≤ 1000000000 := by
  obtain ⟨⟨ha, hb⟩, hc, hd⟩ := limB_bd hl
  obtain ⟨hx, hy⟩ := vecB_bd hv
  obtain ⟨hp1, hq1⟩ := vecB_bd hv'
  have e1 := mul1000 ha hp1
  have e2 := mul1000 hb hq1
  omega
 have S2 : -1000000000 ≤ c * x' + d * y' + y ∧ c * x' + d * y' + y ≤ 1000000000 := by
  obtain ⟨⟨ha, hb⟩, hc, hd⟩ := limB_bd hl
  obtain ⟨hx, hy⟩ := vecB_bd hv
  obtain ⟨hp1, hq1⟩ := vecB_bd hv'
  have e1 := mul1000 hc hp1
  have e2 := mul1000 hd hq1
  omega
 have M0 : Km (w.heap.size) a b c d x y (((w.alloc (.cells #[.int .i64 a, .int .i64 b, .int .i64 c, .int .i64 d, .int .i64 x, .int .i64 y] 69)).alloc (.cells #[.int .i64 a', .int .i64 b', .int .i64 c', .int .i64 d', .int .i64 x', .int .i64 y'] 69)).alloc (.cells #[.int .i64 0, .int .i64 0, .int .i64 0, .int .i64 0, .int .i64 0, .int .i64 0] 69)) := (((Km.at (w.heap.size) rfl).alloc _).alloc _)
 have N0 : Km (w.heap.size + 1) a' b' c' d' x' y' (((w.alloc (.cells #[.int .i64 a, .int .i64 b, .int .i64 c, .int .i64 d, .int .i64 x, .int .i64 y] 69)).alloc (.cells #[.int .i64 a', .int .i64 b', .int .i64 c', .int .i64 d', .int .i64 x', .int .i64 y'] 69)).alloc (.cells #[.int .i64 0, .int .i64 0, .int .i64 0, .int .i64 0, .int .i64 0, .int .i64 0] 69)) := ((Km.at (w.heap.size + 1) (by simp)).alloc _)
 have R0 : KM (w.heap.size + 1 + 1) 0 0 0 0 0 0 (((w.alloc (.cells #[.int .i64 a, .int .i64 b, .int .i64 c, .int .i64 d, .int .i64 x, .int .i64 y] 69)).alloc (.cells #[.int .i64 a', .int .i64 b', .int .i64 c', .int .i64 d', .int .i64 x', .int .i64 y'] 69)).alloc (.cells #[.int .i64 0, .int .i64 0, .int .i64 0, .int .i64 0, .int .i64 0, .int .i64 0] 69)) := (KM.at (w.heap.size + 1 + 1) (by simp))
 have B0 : Below w.heap.size w (((w.alloc (.cells #[.int .i64 a, .int .i64 b, .int .i64 c, .int .i64 d, .int .i64 x, .int .i64 y] 69)).alloc (.cells #[.int .i64 a', .int .i64 b', .int .i64 c', .int .i64 d', .int .i64 x', .int .i64 y'] 69)).alloc (.cells #[.int .i64 0, .int .i64 0, .int .i64 0, .int .i64 0, .int .i64 0, .int .i64 0] 69)) := (Below.alloc (Below.alloc (Below.alloc (Below.refl _ _) (by first | with_reducible exact Nat.le_refl _ | (simp <;> omega)) _) (by first | with_reducible exact Nat.le_refl _ | (simp <;> omega)) _) (by first | with_reducible exact Nat.le_refl _ | (simp <;> omega)) _)
 go_enter Tryz.func188, Tryz.ntmps188
 have M0lt := M0.1
 have N0lt := N0.1
 have R0lt := R0.lt
 go_wp2_with fail
 go_region_held3 (fun W => (W.cell? ⟨w.heap.size, 0, none⟩ = some (.int .i64 a) ∧ W.cell? ⟨w.heap.size, 1, none⟩ = some (.int .i64 b) ∧ W.cell? ⟨w.heap.size, 2, none⟩ = some (.int .i64 c) ∧ W.cell? ⟨w.heap.size, 3, none⟩ = some (.int .i64 d) ∧ W.cell? ⟨w.heap.size, 4, none⟩ = some (.int .i64 x) ∧ W.cell? ⟨w.heap.size, 5, none⟩ = some (.int .i64 y)) ∧ (W.cell? ⟨w.heap.size + 1, 0, none⟩ = some (.int .i64 a') ∧ W.cell? ⟨w.heap.size + 1, 1, none⟩ = some (.int .i64 b') ∧ W.cell? ⟨w.heap.size + 1, 2, none⟩ = some (.int .i64 c') ∧ W.cell? ⟨w.heap.size + 1, 3, none⟩ = some (.int .i64 d') ∧ W.cell? ⟨w.heap.size + 1, 4, none⟩ = some (.int .i64 x') ∧ W.cell? ⟨w.heap.size + 1, 5, none⟩ = some (.int .i64 y'))) ((refine ⟨Km.cells ?_, Km.cells ?_⟩ <;> repeat (first | with_reducible assumption | with_reducible refine KM.drew ?_ | with_reducible refine KM.alloc ?_ _ | with_reducible refine KM.call ?_ (by with_reducible assumption) | with_reducible refine Km.drew ?_ | with_reducible refine Km.alloc ?_ _ | with_reducible refine Km.call ?_ (by with_reducible assumption) | ((with_reducible refine KM.put ?_ ?_); (first | omega | (dsimp only; omega))) | ((with_reducible refine Km.put ?_ ?_); (first | omega | (dsimp only; omega))) | ((with_reducible refine KM.far ?_ ?_); (first | omega | (dsimp only; omega))) | ((with_reducible refine Km.far ?_ ?_); (first | omega | (dsimp only; omega))))))
  (first
   | (go_at_call 183; ((with_reducible refine (l02Multiply_any _ _ _ _ _ _ _ _ _ hl hl').mono ?_); rintro e w1 ⟨rfl, hb1⟩; have M1 : Km (w.heap.size) a b c d x y w1 := (by with_reducible exact pkMo34); have N1 : Km (w.heap.size + 1) a' b' c' d' x' y' w1 := (by with_reducible exact pkMo34); have R1 : KM (w.heap.size + 1 + 1) 0 0 0 0 0 0 w1 := (by with_reducible exact pkMo34); have M1l := M1.1; have N1l := N1.1; have R1c0 := R1.c0; have R1f0 := R1.f0; have R1c1 := R1.c1; have R1f1 := R1.f1; have R1c2 := R1.c2; have R1f2 := R1.f2; have R1c3 := R1.c3; have R1f3 := R1.f3; have R1c4 := R1.c4; have R1f4 := R1.f4; have R1c5 := R1.c5; have R1f5 := R1.f5; have R1l := R1.lt; have B1 : Below w.heap.size w w1 := (by repeat (first | with_reducible assumption | with_reducible refine Below.drew ?_ | with_reducible refine Below.alloc ?_ (by first | omega | (have := B0.size; simp <;> omega)) _ | with_reducible refine bstep ?_ (by with_reducible assumption)))))
   | (go_at_call 232; ((with_reducible refine (l02Apply_any _ _ _ _ _ _ _ hl hv').mono ?_); rintro e w2 ⟨rfl, hb2⟩; have M2 : Km (w.heap.size) a b c d x y w2 := (by with_reducible exact pkMo34); have N2 : Km (w.heap.size + 1) a' b' c' d' x' y' w2 := (by with_reducible exact pkMo34); have R2 : KM (w.heap.size + 1 + 1) 0 0 0 0 0 0 w2 := (by with_reducible exact pkMo34); have M2l := M2.1; have N2l := N2.1; have R2c0 := R2.c0; have R2f0 := R2.f0; have R2c1 := R2.c1; have R2f1 := R2.f1; have R2c2 := R2.c2; have R2f2 := R2.f2; have R2c3 := R2.c3; have R2f3 := R2.f3; have R2c4 := R2.c4; have R2f4 := R2.f4; have R2c5 := R2.c5; have R2f5 := R2.f5; have R2l := R2.lt; have B2 : Below w.heap.size w w2 := (by repeat (first | with_reducible assumption | with_reducible refine Below.drew ?_ | with_reducible refine Below.alloc ?_ (by first | omega | (have := B0.size; simp <;> omega)) _ | with_reducible refine bstep ?_ (by with_reducible assumption)))))
   | (go_at_call 178; ((with_reducible refine (add5_any _ _ _ _ _ S1 S2).mono ?_); rintro e w3 ⟨rfl, hb3⟩; have M3 : Km (w.heap.size) a b c d x y w3 := (by with_reducible exact pkMo34); have N3 : Km (w.heap.size + 1) a' b' c' d' x' y' w3 := (by with_reducible exact pkMo34); have R3 : KM (w.heap.size + 1 + 1) 0 0 0 0 0 0 w3 := (by with_reducible exact pkMo34); have M3l := M3.1; have N3l := N3.1; have R3c0 := R3.c0; have R3f0 := R3.f0; have R3c1 := R3.c1; have R3f1 := R3.f1; have R3c2 := R3.c2; have R3f2 := R3.f2; have R3c3 := R3.c3; have R3f3 := R3.f3; have R3c4 := R3.c4; have R3f4 := R3.f4; have R3c5 := R3.c5; have R3f5 := R3.f5; have R3l := R3.lt; have B3 : Below w.heap.size w w3 := (by repeat (first | with_reducible assumption | with_reducible refine Below.drew ?_ | with_reducible refine Below.alloc ?_ (by first | omega | (have := B0.size; simp <;> omega)) _ | with_reducible refine bstep ?_ (by with_reducible assumption))))))
 all_goals
  go_wp2
  refine bodyPost_ret (v := .agg #[.int .i64 (a * a' + b * c'), .int .i64 (a * b' + b * d'), .int .i64 (c * a' + d * c'), .int .i64 (c * b' + d * d'), .int .i64 (a * x' + b * y' + x), .int .i64 (c * x' + d * y' + y)]) (by simp [results, Tryz.results188, go_sem, *]) rfl ⟨rfl, ?_⟩
  exact pkMo32

end Go.Proofs.YtjjfomokecngoaaGreatDoor
