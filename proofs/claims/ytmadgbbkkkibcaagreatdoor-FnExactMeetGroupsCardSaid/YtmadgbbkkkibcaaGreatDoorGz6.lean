/-
  Several of my texts in one: Mo3, Ls6, GrC, Cp6, Mp6, MdF, GpF, Lt6, Pr6, SortL, St6, Ky6, As6, Cl6, Gp6, Pl6.
-/
import Derived.Test.YtmadgbbkkkibcaaGreatDoorMo1
import Derived.Test.YtmadgbbkkkibcaaGreatDoorGw6
import Derived.Test.YtmadgbbkkkibcaaGreatDoorMat1
import Derived.Test.YtmadgbbkkkibcaaGreatDoorKeep5
import Derived.Deep.RegionHeld3
import Derived.IntWalk
import Derived.WalkSmall
import Derived.Test.YtmadgbbkkkibcaaGreatDoorMRow
import Derived.Test.YtmadgbbkkkibcaaGreatDoorKeep
import Derived.LoopTactic
import Derived.Sort.Grow
import Derived.Shelf.SlSortCmp.NoneTotal
import Derived.Maps.OwnSet
import Derived.DeepKeys5
import Derived.WalkArith
import Derived.Test.YtmadgbbkkkibcaaGreatDoorRd6
import Derived.Deep.DeepCutAuto
import Derived.Shelf.SlGeneric
import Derived.Ground.SlsfProg
import Derived.Test.YtmadgbbkkkibcaaGreatDoorRows
import Derived.Laws.OwnMore
import Derived.RangeFuncNested
import Derived.RangeFuncBound
import Derived.RangeFuncCalls
import Derived.RangeFuncLeaves
import Derived.RangeFuncBox
import Derived.Shelf.Abstract
import Derived.Shelf.RegionOpen
import Derived.WalkKit
import Derived.OwnWalkIn
import Derived.TacticsInMore
import Derived.LoopNIn
import Derived.LoopIn
import Derived.Maps.AppendAt
import Derived.Sort.KeysCollected
import Derived.Sort.MapsRangeIn
namespace Go.Proofs.YtmadgbbkkkibcaaGreatDoor
section
open Go.RowKit
set_option linter.unusedSimpArgs false
set_option linter.unusedVariables false

set_option maxRecDepth 100000 in
set_option maxHeartbeats 1000000 in
theorem l05Apply_any (a b c d x y p q : Int) (w : World) (hl : limB a b c d = true) (hv : vecB x y = true) (hp : vecB p q = true) :
    Calls Tryz.prog 199 #[.agg #[.int .i64 a, .int .i64 b, .int .i64 c, .int .i64 d, .int .i64 x, .int .i64 y], .agg #[.int .i64 p, .int .i64 q]] w fun e w' => e = .returned (.agg #[.int .i64 (a * p + b * q + x), .int .i64 (c * p + d * q + y)]) ∧ Below w.heap.size w w' := by
  have S1 : -1000000000 ≤ a * p + b * q + x ∧ a * p + b * q + x ≤ 1000000000 := by
    obtain ⟨⟨ha, hb⟩, hc, hd⟩ := limB_bd hl
    obtain ⟨hx, hy⟩ := vecB_bd hv
    obtain ⟨hp1, hq1⟩ := vecB_bd hp
    have e1 := mul1000 ha hp1
    have e2 := mul1000 hb hq1
    omega
  have S2 : -1000000000 ≤ c * p + d * q + y ∧ c * p + d * q + y ≤ 1000000000 := by
    obtain ⟨⟨ha, hb⟩, hc, hd⟩ := limB_bd hl
    obtain ⟨hx, hy⟩ := vecB_bd hv
    obtain ⟨hp1, hq1⟩ := vecB_bd hp
    have e1 := mul1000 hc hp1
    have e2 := mul1000 hd hq1
    omega
  have M0 : Km (w.heap.size) a b c d x y (((w.alloc (.cells #[.int .i64 a, .int .i64 b, .int .i64 c, .int .i64 d, .int .i64 x, .int .i64 y] 36)).alloc (.cells #[.int .i64 p, .int .i64 q] 34)).alloc (.cells #[.int .i64 0, .int .i64 0] 34)) := (((Km.at (w.heap.size) rfl).alloc _).alloc _)
  have N0 : Kg (w.heap.size + 1) p q (((w.alloc (.cells #[.int .i64 a, .int .i64 b, .int .i64 c, .int .i64 d, .int .i64 x, .int .i64 y] 36)).alloc (.cells #[.int .i64 p, .int .i64 q] 34)).alloc (.cells #[.int .i64 0, .int .i64 0] 34)) := ((Kg.at2 (w.heap.size + 1) (by simp)).alloc _)
  have R0 : KV (w.heap.size + 1 + 1) 0 0 (((w.alloc (.cells #[.int .i64 a, .int .i64 b, .int .i64 c, .int .i64 d, .int .i64 x, .int .i64 y] 36)).alloc (.cells #[.int .i64 p, .int .i64 q] 34)).alloc (.cells #[.int .i64 0, .int .i64 0] 34)) := (KV.at (w.heap.size + 1 + 1) (by simp))
  have B0 : Below w.heap.size w (((w.alloc (.cells #[.int .i64 a, .int .i64 b, .int .i64 c, .int .i64 d, .int .i64 x, .int .i64 y] 36)).alloc (.cells #[.int .i64 p, .int .i64 q] 34)).alloc (.cells #[.int .i64 0, .int .i64 0] 34)) := (Below.alloc (Below.alloc (Below.alloc (Below.refl _ _) (by first | with_reducible exact Nat.le_refl _ | (simp <;> omega)) _) (by first | with_reducible exact Nat.le_refl _ | (simp <;> omega)) _) (by first | with_reducible exact Nat.le_refl _ | (simp <;> omega)) _)
  go_enter Tryz.func199, Tryz.ntmps199
  have M0lt := M0.1
  have N0lt := N0.1
  have R0lt := R0.lt
  go_wp2_with fail
  go_region_held3 (fun W => (W.cell? ⟨w.heap.size, 0, none⟩ = some (.int .i64 a) ∧ W.cell? ⟨w.heap.size, 1, none⟩ = some (.int .i64 b) ∧ W.cell? ⟨w.heap.size, 2, none⟩ = some (.int .i64 c) ∧ W.cell? ⟨w.heap.size, 3, none⟩ = some (.int .i64 d) ∧ W.cell? ⟨w.heap.size, 4, none⟩ = some (.int .i64 x) ∧ W.cell? ⟨w.heap.size, 5, none⟩ = some (.int .i64 y)) ∧ (W.cell? ⟨w.heap.size + 1, 0, none⟩ = some (.int .i64 p) ∧ W.cell? ⟨w.heap.size + 1, 1, none⟩ = some (.int .i64 q))) ((refine ⟨Km.cells ?_, Kg.cells ?_⟩ <;> repeat (first | with_reducible assumption | with_reducible refine KV.drew ?_ | with_reducible refine KV.alloc ?_ _ | with_reducible refine KV.call ?_ (by with_reducible assumption) | with_reducible refine Kg.drew ?_ | with_reducible refine Kg.alloc ?_ _ | with_reducible refine Kg.call ?_ (by with_reducible assumption) | with_reducible refine Km.drew ?_ | with_reducible refine Km.alloc ?_ _ | with_reducible refine Km.call ?_ (by with_reducible assumption) | ((with_reducible refine KV.put ?_ ?_); (first | omega | (dsimp only; omega))) | ((with_reducible refine Kg.put ?_ ?_); (first | omega | (dsimp only; omega))) | ((with_reducible refine Km.put ?_ ?_); (first | omega | (dsimp only; omega))) | ((with_reducible refine KV.far5 ?_ ?_); (first | omega | (dsimp only; omega))) | ((with_reducible refine Kg.far ?_ ?_); (first | omega | (dsimp only; omega))) | ((with_reducible refine Km.far ?_ ?_); (first | omega | (dsimp only; omega))))))
    (first
      | (go_at_call 125; ((with_reducible refine (l02Apply_any _ _ _ _ _ _ _ hl hp).mono ?_); rintro e w1 ⟨rfl, hb1⟩; have M1 : Km (w.heap.size) a b c d x y w1 := (by repeat (first | with_reducible assumption | with_reducible refine KV.drew ?_ | with_reducible refine KV.alloc ?_ _ | with_reducible refine KV.call ?_ (by with_reducible assumption) | with_reducible refine Kg.drew ?_ | with_reducible refine Kg.alloc ?_ _ | with_reducible refine Kg.call ?_ (by with_reducible assumption) | with_reducible refine Km.drew ?_ | with_reducible refine Km.alloc ?_ _ | with_reducible refine Km.call ?_ (by with_reducible assumption))); have N1 : Kg (w.heap.size + 1) p q w1 := (by repeat (first | with_reducible assumption | with_reducible refine KV.drew ?_ | with_reducible refine KV.alloc ?_ _ | with_reducible refine KV.call ?_ (by with_reducible assumption) | with_reducible refine Kg.drew ?_ | with_reducible refine Kg.alloc ?_ _ | with_reducible refine Kg.call ?_ (by with_reducible assumption) | with_reducible refine Km.drew ?_ | with_reducible refine Km.alloc ?_ _ | with_reducible refine Km.call ?_ (by with_reducible assumption))); have R1 : KV (w.heap.size + 1 + 1) 0 0 w1 := (by repeat (first | with_reducible assumption | with_reducible refine KV.drew ?_ | with_reducible refine KV.alloc ?_ _ | with_reducible refine KV.call ?_ (by with_reducible assumption) | with_reducible refine Kg.drew ?_ | with_reducible refine Kg.alloc ?_ _ | with_reducible refine Kg.call ?_ (by with_reducible assumption) | with_reducible refine Km.drew ?_ | with_reducible refine Km.alloc ?_ _ | with_reducible refine Km.call ?_ (by with_reducible assumption))); have M1l := M1.1; have N1l := N1.1; have R1c0 := R1.c0; have R1f0 := R1.f0; have R1c1 := R1.c1; have R1f1 := R1.f1; have R1l := R1.lt; have B1 : Below w.heap.size w w1 := (by repeat (first | with_reducible assumption | with_reducible refine Below.drew ?_ | with_reducible refine Below.alloc ?_ (by first | omega | (have := B0.size; simp <;> omega)) _ | with_reducible refine bstep ?_ (by with_reducible assumption)))))
      | (go_at_call 123; ((with_reducible refine (add5_any _ _ _ _ _ S1 S2).mono ?_); rintro e w2 ⟨rfl, hb2⟩; have M2 : Km (w.heap.size) a b c d x y w2 := (by repeat (first | with_reducible assumption | with_reducible refine KV.drew ?_ | with_reducible refine KV.alloc ?_ _ | with_reducible refine KV.call ?_ (by with_reducible assumption) | with_reducible refine Kg.drew ?_ | with_reducible refine Kg.alloc ?_ _ | with_reducible refine Kg.call ?_ (by with_reducible assumption) | with_reducible refine Km.drew ?_ | with_reducible refine Km.alloc ?_ _ | with_reducible refine Km.call ?_ (by with_reducible assumption))); have N2 : Kg (w.heap.size + 1) p q w2 := (by repeat (first | with_reducible assumption | with_reducible refine KV.drew ?_ | with_reducible refine KV.alloc ?_ _ | with_reducible refine KV.call ?_ (by with_reducible assumption) | with_reducible refine Kg.drew ?_ | with_reducible refine Kg.alloc ?_ _ | with_reducible refine Kg.call ?_ (by with_reducible assumption) | with_reducible refine Km.drew ?_ | with_reducible refine Km.alloc ?_ _ | with_reducible refine Km.call ?_ (by with_reducible assumption))); have R2 : KV (w.heap.size + 1 + 1) 0 0 w2 := (by repeat (first | with_reducible assumption | with_reducible refine KV.drew ?_ | with_reducible refine KV.alloc ?_ _ | with_reducible refine KV.call ?_ (by with_reducible assumption) | with_reducible refine Kg.drew ?_ | with_reducible refine Kg.alloc ?_ _ | with_reducible refine Kg.call ?_ (by with_reducible assumption) | with_reducible refine Km.drew ?_ | with_reducible refine Km.alloc ?_ _ | with_reducible refine Km.call ?_ (by with_reducible assumption))); have M2l := M2.1; have N2l := N2.1; have R2c0 := R2.c0; have R2f0 := R2.f0; have R2c1 := R2.c1; have R2f1 := R2.f1; have R2l := R2.lt; have B2 : Below w.heap.size w w2 := (by repeat (first | with_reducible assumption | with_reducible refine Below.drew ?_ | with_reducible refine Below.alloc ?_ (by first | omega | (have := B0.size; simp <;> omega)) _ | with_reducible refine bstep ?_ (by with_reducible assumption))))))
  all_goals
    go_wp2
    refine bodyPost_ret (v := .agg #[.int .i64 (a * p + b * q + x), .int .i64 (c * p + d * q + y)]) (by simp [results, Tryz.results199, go_sem, *]) rfl ⟨rfl, ?_⟩
    repeat (first | with_reducible assumption | with_reducible exact Below.refl _ _ | with_reducible refine Below.setCell ?_ (by first | omega | (simp <;> omega)) _ | with_reducible refine Below.alloc ?_ (by first | omega | (simp <;> omega)) _ | with_reducible refine bstep ?_ (by with_reducible assumption) | with_reducible refine Below.drew ?_)

set_option maxRecDepth 100000 in
set_option maxHeartbeats 1000000 in
theorem l05Compose_any (a b c d x y a' b' c' d' x' y' : Int) (w : World) (hl : limB a b c d = true) (hv : vecB x y = true) (hl' : limB a' b' c' d' = true) (hv' : vecB x' y' = true) :
    Calls Tryz.prog 112 #[.agg #[.int .i64 a, .int .i64 b, .int .i64 c, .int .i64 d, .int .i64 x, .int .i64 y], .agg #[.int .i64 a', .int .i64 b', .int .i64 c', .int .i64 d', .int .i64 x', .int .i64 y']] w fun e w' => e = .returned (.agg #[.int .i64 (a * a' + b * c'), .int .i64 (a * b' + b * d'), .int .i64 (c * a' + d * c'), .int .i64 (c * b' + d * d'), .int .i64 (a * x' + b * y' + x), .int .i64 (c * x' + d * y' + y)]) ∧ Below w.heap.size w w' := by
  have S1 : -1000000000 ≤ a * x' + b * y' + x ∧ a * x' + b * y' + x ≤ 1000000000 := by
    obtain ⟨⟨ha, hb⟩, hc, hd⟩ := limB_bd hl
    obtain ⟨hx, hy⟩ := vecB_bd hv
    obtain ⟨hp1, hq1⟩ := vecB_bd hv'
    have e1 := mul1000 ha hp1
    have e2 := mul1000 hb hq1
    omega
  have S2 : -1000000000 ≤ c * x' + d * y' + y ∧ c * x' + d * y' + y ≤ 1000000000 := by
    obtain ⟨⟨ha, hb⟩, hc, hd⟩ := limB_bd hl
    obtain ⟨hx, hy⟩ := vecB_bd hv
    obtain ⟨hp1, hq1⟩ := vecB_bd hv'
    have e1 := mul1000 hc hp1
    have e2 := mul1000 hd hq1
    omega
  have M0 : Km (w.heap.size) a b c d x y (((w.alloc (.cells #[.int .i64 a, .int .i64 b, .int .i64 c, .int .i64 d, .int .i64 x, .int .i64 y] 36)).alloc (.cells #[.int .i64 a', .int .i64 b', .int .i64 c', .int .i64 d', .int .i64 x', .int .i64 y'] 36)).alloc (.cells #[.int .i64 0, .int .i64 0, .int .i64 0, .int .i64 0, .int .i64 0, .int .i64 0] 36)) := (((Km.at (w.heap.size) rfl).alloc _).alloc _)
  have N0 : Km (w.heap.size + 1) a' b' c' d' x' y' (((w.alloc (.cells #[.int .i64 a, .int .i64 b, .int .i64 c, .int .i64 d, .int .i64 x, .int .i64 y] 36)).alloc (.cells #[.int .i64 a', .int .i64 b', .int .i64 c', .int .i64 d', .int .i64 x', .int .i64 y'] 36)).alloc (.cells #[.int .i64 0, .int .i64 0, .int .i64 0, .int .i64 0, .int .i64 0, .int .i64 0] 36)) := ((Km.at (w.heap.size + 1) (by simp)).alloc _)
  have R0 : KM (w.heap.size + 1 + 1) 0 0 0 0 0 0 (((w.alloc (.cells #[.int .i64 a, .int .i64 b, .int .i64 c, .int .i64 d, .int .i64 x, .int .i64 y] 36)).alloc (.cells #[.int .i64 a', .int .i64 b', .int .i64 c', .int .i64 d', .int .i64 x', .int .i64 y'] 36)).alloc (.cells #[.int .i64 0, .int .i64 0, .int .i64 0, .int .i64 0, .int .i64 0, .int .i64 0] 36)) := (KM.at (w.heap.size + 1 + 1) (by simp))
  have B0 : Below w.heap.size w (((w.alloc (.cells #[.int .i64 a, .int .i64 b, .int .i64 c, .int .i64 d, .int .i64 x, .int .i64 y] 36)).alloc (.cells #[.int .i64 a', .int .i64 b', .int .i64 c', .int .i64 d', .int .i64 x', .int .i64 y'] 36)).alloc (.cells #[.int .i64 0, .int .i64 0, .int .i64 0, .int .i64 0, .int .i64 0, .int .i64 0] 36)) := (Below.alloc (Below.alloc (Below.alloc (Below.refl _ _) (by first | with_reducible exact Nat.le_refl _ | (simp <;> omega)) _) (by first | with_reducible exact Nat.le_refl _ | (simp <;> omega)) _) (by first | with_reducible exact Nat.le_refl _ | (simp <;> omega)) _)
  go_enter Tryz.func112, Tryz.ntmps112
  have M0lt := M0.1
  have N0lt := N0.1
  have R0lt := R0.lt
  go_wp2_with fail
  go_region_held3 (fun W => (W.cell? ⟨w.heap.size, 0, none⟩ = some (.int .i64 a) ∧ W.cell? ⟨w.heap.size, 1, none⟩ = some (.int .i64 b) ∧ W.cell? ⟨w.heap.size, 2, none⟩ = some (.int .i64 c) ∧ W.cell? ⟨w.heap.size, 3, none⟩ = some (.int .i64 d) ∧ W.cell? ⟨w.heap.size, 4, none⟩ = some (.int .i64 x) ∧ W.cell? ⟨w.heap.size, 5, none⟩ = some (.int .i64 y)) ∧ (W.cell? ⟨w.heap.size + 1, 0, none⟩ = some (.int .i64 a') ∧ W.cell? ⟨w.heap.size + 1, 1, none⟩ = some (.int .i64 b') ∧ W.cell? ⟨w.heap.size + 1, 2, none⟩ = some (.int .i64 c') ∧ W.cell? ⟨w.heap.size + 1, 3, none⟩ = some (.int .i64 d') ∧ W.cell? ⟨w.heap.size + 1, 4, none⟩ = some (.int .i64 x') ∧ W.cell? ⟨w.heap.size + 1, 5, none⟩ = some (.int .i64 y'))) ((refine ⟨Km.cells ?_, Km.cells ?_⟩ <;> repeat (first | with_reducible assumption | with_reducible refine KM.drew ?_ | with_reducible refine KM.alloc ?_ _ | with_reducible refine KM.call ?_ (by with_reducible assumption) | with_reducible refine Km.drew ?_ | with_reducible refine Km.alloc ?_ _ | with_reducible refine Km.call ?_ (by with_reducible assumption) | ((with_reducible refine KM.put ?_ ?_); (first | omega | (dsimp only; omega))) | ((with_reducible refine Km.put ?_ ?_); (first | omega | (dsimp only; omega))) | ((with_reducible refine KM.far ?_ ?_); (first | omega | (dsimp only; omega))) | ((with_reducible refine Km.far ?_ ?_); (first | omega | (dsimp only; omega))))))
    (first
      | (go_at_call 184; ((with_reducible refine (l02Multiply_any _ _ _ _ _ _ _ _ _ hl hl').mono ?_); rintro e w1 ⟨rfl, hb1⟩; have M1 : Km (w.heap.size) a b c d x y w1 := (by repeat (first | with_reducible assumption | with_reducible refine KM.drew ?_ | with_reducible refine KM.alloc ?_ _ | with_reducible refine KM.call ?_ (by with_reducible assumption) | with_reducible refine Km.drew ?_ | with_reducible refine Km.alloc ?_ _ | with_reducible refine Km.call ?_ (by with_reducible assumption))); have N1 : Km (w.heap.size + 1) a' b' c' d' x' y' w1 := (by repeat (first | with_reducible assumption | with_reducible refine KM.drew ?_ | with_reducible refine KM.alloc ?_ _ | with_reducible refine KM.call ?_ (by with_reducible assumption) | with_reducible refine Km.drew ?_ | with_reducible refine Km.alloc ?_ _ | with_reducible refine Km.call ?_ (by with_reducible assumption))); have R1 : KM (w.heap.size + 1 + 1) 0 0 0 0 0 0 w1 := (by repeat (first | with_reducible assumption | with_reducible refine KM.drew ?_ | with_reducible refine KM.alloc ?_ _ | with_reducible refine KM.call ?_ (by with_reducible assumption) | with_reducible refine Km.drew ?_ | with_reducible refine Km.alloc ?_ _ | with_reducible refine Km.call ?_ (by with_reducible assumption))); have M1l := M1.1; have N1l := N1.1; have R1c0 := R1.c0; have R1f0 := R1.f0; have R1c1 := R1.c1; have R1f1 := R1.f1; have R1c2 := R1.c2; have R1f2 := R1.f2; have R1c3 := R1.c3; have R1f3 := R1.f3; have R1c4 := R1.c4; have R1f4 := R1.f4; have R1c5 := R1.c5; have R1f5 := R1.f5; have R1l := R1.lt; have B1 : Below w.heap.size w w1 := (by repeat (first | with_reducible assumption | with_reducible refine Below.drew ?_ | with_reducible refine Below.alloc ?_ (by first | omega | (have := B0.size; simp <;> omega)) _ | with_reducible refine bstep ?_ (by with_reducible assumption)))))
      | (go_at_call 125; ((with_reducible refine (l02Apply_any _ _ _ _ _ _ _ hl hv').mono ?_); rintro e w2 ⟨rfl, hb2⟩; have M2 : Km (w.heap.size) a b c d x y w2 := (by repeat (first | with_reducible assumption | with_reducible refine KM.drew ?_ | with_reducible refine KM.alloc ?_ _ | with_reducible refine KM.call ?_ (by with_reducible assumption) | with_reducible refine Km.drew ?_ | with_reducible refine Km.alloc ?_ _ | with_reducible refine Km.call ?_ (by with_reducible assumption))); have N2 : Km (w.heap.size + 1) a' b' c' d' x' y' w2 := (by repeat (first | with_reducible assumption | with_reducible refine KM.drew ?_ | with_reducible refine KM.alloc ?_ _ | with_reducible refine KM.call ?_ (by with_reducible assumption) | with_reducible refine Km.drew ?_ | with_reducible refine Km.alloc ?_ _ | with_reducible refine Km.call ?_ (by with_reducible assumption))); have R2 : KM (w.heap.size + 1 + 1) 0 0 0 0 0 0 w2 := (by repeat (first | with_reducible assumption | with_reducible refine KM.drew ?_ | with_reducible refine KM.alloc ?_ _ | with_reducible refine KM.call ?_ (by with_reducible assumption) | with_reducible refine Km.drew ?_ | with_reducible refine Km.alloc ?_ _ | with_reducible refine Km.call ?_ (by with_reducible assumption))); have M2l := M2.1; have N2l := N2.1; have R2c0 := R2.c0; have R2f0 := R2.f0; have R2c1 := R2.c1; have R2f1 := R2.f1; have R2c2 := R2.c2; have R2f2 := R2.f2; have R2c3 := R2.c3; have R2f3 := R2.f3; have R2c4 := R2.c4; have R2f4 := R2.f4; have R2c5 := R2.c5; have R2f5 := R2.f5; have R2l := R2.lt; have B2 : Below w.heap.size w w2 := (by repeat (first | with_reducible assumption | with_reducible refine Below.drew ?_ | with_reducible refine Below.alloc ?_ (by first | omega | (have := B0.size; simp <;> omega)) _ | with_reducible refine bstep ?_ (by with_reducible assumption)))))
      | (go_at_call 123; ((with_reducible refine (add5_any _ _ _ _ _ S1 S2).mono ?_); rintro e w3 ⟨rfl, hb3⟩; have M3 : Km (w.heap.size) a b c d x y w3 := (by repeat (first | with_reducible assumption | with_reducible refine KM.drew ?_ | with_reducible refine KM.alloc ?_ _ | with_reducible refine KM.call ?_ (by with_reducible assumption) | with_reducible refine Km.drew ?_ | with_reducible refine Km.alloc ?_ _ | with_reducible refine Km.call ?_ (by with_reducible assumption))); have N3 : Km (w.heap.size + 1) a' b' c' d' x' y' w3 := (by repeat (first | with_reducible assumption | with_reducible refine KM.drew ?_ | with_reducible refine KM.alloc ?_ _ | with_reducible refine KM.call ?_ (by with_reducible assumption) | with_reducible refine Km.drew ?_ | with_reducible refine Km.alloc ?_ _ | with_reducible refine Km.call ?_ (by with_reducible assumption))); have R3 : KM (w.heap.size + 1 + 1) 0 0 0 0 0 0 w3 := (by repeat (first | with_reducible assumption | with_reducible refine KM.drew ?_ | with_reducible refine KM.alloc ?_ _ | with_reducible refine KM.call ?_ (by with_reducible assumption) | with_reducible refine Km.drew ?_ | with_reducible refine Km.alloc ?_ _ | with_reducible refine Km.call ?_ (by with_reducible assumption))); have M3l := M3.1; have N3l := N3.1; have R3c0 := R3.c0; have R3f0 := R3.f0; have R3c1 := R3.c1; have R3f1 := R3.f1; have R3c2 := R3.c2; have R3f2 := R3.f2; have R3c3 := R3.c3; have R3f3 := R3.f3; have R3c4 := R3.c4; have R3f4 := R3.f4; have R3c5 := R3.c5; have R3f5 := R3.f5; have R3l := R3.lt; have B3 : Below w.heap.size w w3 := (by repeat (first | with_reducible assumption | with_reducible refine Below.drew ?_ | with_reducible refine Below.alloc ?_ (by first | omega | (have := B0.size; simp <;> omega)) _ | with_reducible refine bstep ?_ (by with_reducible assumption))))))
  all_goals
    go_wp2
    refine bodyPost_ret (v := .agg #[.int .i64 (a * a' + b * c'), .int .i64 (a * b' + b * d'), .int .i64 (c * a' + d * c'), .int .i64 (c * b' + d * d'), .int .i64 (a * x' + b * y' + x), .int .i64 (c * x' + d * y' + y)]) (by simp [results, Tryz.results112, go_sem, *]) rfl ⟨rfl, ?_⟩
    repeat (first | with_reducible assumption | with_reducible exact Below.refl _ _ | with_reducible refine Below.setCell ?_ (by first | omega | (simp <;> omega)) _ | with_reducible refine Below.alloc ?_ (by first | omega | (simp <;> omega)) _ | with_reducible refine bstep ?_ (by with_reducible assumption) | with_reducible refine Below.drew ?_)
end
end Go.Proofs.YtmadgbbkkkibcaaGreatDoor

namespace Go.Proofs.YtmadgbbkkkibcaaGreatDoor
section
open Go.RowKit
set_option linter.unusedSimpArgs false
set_option linter.unusedVariables false

def eqT4 (a b c d a' b' c' d' : Int) : Bool := a == a' && (b == b' && (c == c' && (d == d')))
def lex4 (a b c d a' b' c' d' : Int) : Bool := decide (a < a' ∨ a = a' ∧ (b < b' ∨ b = b' ∧ (c < c' ∨ c = c' ∧ d < d')))
def lex2 (x y x' y' : Int) : Bool := decide (x < x' ∨ x = x' ∧ y < y')
theorem eqT4_iff (a b c d a' b' c' d' : Int) : eqT4 a b c d a' b' c' d' = true ↔ a = a' ∧ b = b' ∧ c = c' ∧ d = d' := by simp [eqT4]
theorem lt_no {a b c d x y a' b' c' d' x' y' : Int} (h : eqT4 a b c d a' b' c' d' = false) : lex4 a b c d a' b' c' d' = ltM (a, b, c, d, x, y) (a', b', c', d', x', y') := by
  have h2 : ¬ (a = a' ∧ b = b' ∧ c = c' ∧ d = d') := fun e => by rw [(eqT4_iff ..).2 e] at h; cases h
  unfold lex4 ltM
  rw [decide_eq_decide]
  dsimp only
  omega
theorem lt_yes {a b c d x y a' b' c' d' x' y' : Int} (h : eqT4 a b c d a' b' c' d' = true) : lex2 x y x' y' = ltM (a, b, c, d, x, y) (a', b', c', d', x', y') := by
  have h2 := (eqT4_iff ..).1 h
  unfold lex2 ltM
  rw [decide_eq_decide]
  dsimp only
  omega
set_option maxHeartbeats 4000000 in
theorem eqMa6 (a b c d a' b' c' d' : Int) (w : World) : (Op.equalIn 10000 32 (.agg #[.int .i64 a, .int .i64 b, .int .i64 c, .int .i64 d]) (.agg #[.int .i64 a', .int .i64 b', .int .i64 c', .int .i64 d'])).run Tryz.prog w = .ok (eqT4 a b c d a' b' c' d') w := by
  have hu := Tryz.underlying32
  rw [show (10000 : Nat) = 9999 + 1 from rfl, run_equalIn_struct _ _ _ _ _ (by simp only [Program.fieldsOf, hu]) (by kernel_rfl)]
  simp only [Program.fieldsOf, hu]
  have u3 := Tryz.underlying2
  have a3 := Tryz.isAgg2
  have z3 := Tryz.sizeOf2
  unfold eqT4
  rcases h1 : (a == a') with _ | _ <;> rcases h2 : (b == b') with _ | _ <;> rcases h3 : (c == c') with _ | _ <;> rcases h4 : (d == d') with _ | _ <;> go_simp <;> simp_all
attribute [local go_sem ↓] eqMa6
def eqT6 (a b c d x y a' b' c' d' x' y' : Int) : Bool := a == a' && (b == b' && (c == c' && (d == d' && (x == x' && (y == y')))))
theorem eqT6_dec (m n : M6) : eqT6 m.1 m.2.1 m.2.2.1 m.2.2.2.1 m.2.2.2.2.1 m.2.2.2.2.2 n.1 n.2.1 n.2.2.1 n.2.2.2.1 n.2.2.2.2.1 n.2.2.2.2.2 = decide (m = n) := by
  obtain ⟨a, b, c, d, x, y⟩ := m
  obtain ⟨a', b', c', d', x', y'⟩ := n
  rw [Bool.eq_iff_iff]
  simp [eqT6, Prod.mk.injEq]
set_option maxHeartbeats 4000000 in
theorem eqM6 (a b c d x y a' b' c' d' x' y' : Int) (w : World) : (Op.equalIn 10000 36 (.agg #[.int .i64 a, .int .i64 b, .int .i64 c, .int .i64 d, .int .i64 x, .int .i64 y]) (.agg #[.int .i64 a', .int .i64 b', .int .i64 c', .int .i64 d', .int .i64 x', .int .i64 y'])).run Tryz.prog w = .ok (eqT6 a b c d x y a' b' c' d' x' y') w := by
  have hu := Tryz.underlying36
  have hv := Tryz.underlying34
  have hm := Tryz.underlying32
  rw [show (10000 : Nat) = 9999 + 1 from rfl, run_equalIn_struct _ _ _ _ _ (by simp only [Program.fieldsOf, hu]) (by kernel_rfl)]
  simp only [Program.fieldsOf, hu]
  have u3 := Tryz.underlying2
  have a3 := Tryz.isAgg2
  have z3 := Tryz.sizeOf2
  unfold eqT6
  rcases ha : (a == a') with _ | _
  · go_simp <;> simp_all
  rcases hb : (b == b') with _ | _
  · go_simp <;> simp_all
  rcases hc : (c == c') with _ | _
  · go_simp <;> simp_all
  rcases hd : (d == d') with _ | _
  · go_simp <;> simp_all
  rcases hx : (x == x') with _ | _
  · go_simp <;> simp_all
  rcases hy : (y == y') with _ | _
  · go_simp <;> simp_all
  go_simp <;> simp_all
set_option maxHeartbeats 1000000 in
theorem l02Num6_any (a b c d : Int) (w : World) :
    Calls Tryz.prog 216 #[.agg #[.int .i64 a, .int .i64 b, .int .i64 c, .int .i64 d]] w fun e w' => e = .returned (.slice (some ⟨w.heap.size + 1, 0, none⟩) 4 4) ∧ Kq (w.heap.size + 1) a b c d w' ∧ Below w.heap.size w w' := by
  go_enter Tryz.func216, Tryz.ntmps216
  go_wp2
  go_ret
  refine ⟨rfl, Kq.at _ (by simp), ?_⟩
  repeat (first | exact Below.refl _ _ | refine Below.alloc ?_ (by first | omega | (simp <;> omega)) _)
theorem lex4_at {a b c d a' b' c' d' : Int} : lex4 a b c d a' b' c' d' = (if a ≠ a' then decide (a < a') else if b ≠ b' then decide (b < b') else if c ≠ c' then decide (c < c') else if d ≠ d' then decide (d < d') else false) := by
  unfold lex4
  rw [Bool.eq_iff_iff]
  split
  · simp only [decide_eq_true_eq]; omega
  · split
    · simp only [decide_eq_true_eq]; omega
    · split
      · simp only [decide_eq_true_eq]; omega
      · split
        · simp only [decide_eq_true_eq]; omega
        · simp only [decide_eq_true_eq]; simp; omega
set_option maxRecDepth 100000 in
set_option maxHeartbeats 4000000 in
theorem lessList_any (g g' : Nat) (a b c d a' b' c' d' : Int) (w : World) (h : Kq g a b c d w) (h' : Kq g' a' b' c' d' w) :
    Calls Tryz.prog 215 #[.slice (some ⟨g, 0, none⟩) 4 4, .slice (some ⟨g', 0, none⟩) 4 4] w fun e w' => e = .returned (.bool (lex4 a b c d a' b' c' d')) ∧ Below w.heap.size w w' := by
  have EA := Lib.hid (lex4_at (a := a) (b := b) (c := c) (d := d) (a' := a') (b' := b') (c' := c') (d' := d'))
  generalize lex4 a b c d a' b' c' d' = r at EA ⊢
  go_enter Tryz.func215, Tryz.ntmps215
  go_wp2_with fail
  go_loopw [5] (fun s3 W => ∃ k : Int, s3 = .int .i64 k ∧ (0 ≤ k ∧ k ≤ 4) ∧ (0 < k → a = a') ∧ (1 < k → b = b') ∧ (2 < k → c = c') ∧ (3 < k → d = d') ∧ Below w.heap.size w W) (fun s3 _ => (4 - intOf s3).toNat)
  case atStart => exact ⟨0, rfl, by omega, by omega, by omega, by omega, by omega, Below.refl _ _⟩
  case round =>
    obtain ⟨k, rfl, hk, e0, e1, e2, e3, hB⟩ := hrel
    have q := h.call hB
    have q' := h'.call hB
    obtain ⟨q0, q1, q2, q3, q4⟩ := id q
    obtain ⟨p0, p1, p2, p3, p4⟩ := id q'
    have zB := hB.size
    have hkk : k = 0 ∨ k = 1 ∨ k = 2 ∨ k = 3 ∨ k = 4 := by omega
    rcases hkk with rfl | rfl | rfl | rfl | rfl
    ·
      clear e0 e1 e2 e3
      by_cases hd : a = a'
      · have HD := Lib.hid hd
        have hd2 : (a == a') = true := by simp [hd]
        clear hd
        go_wp2_with fail
        go_quiet (fail)
        go_wp2
        go_roundw
        case rel => exact ⟨1, rfl, by omega, fun _ => HD.out, by omega, by omega, by omega, (by repeat (first | with_reducible assumption | with_reducible refine Below.drew ?_ | with_reducible refine below_drewN ?_ _))⟩
        case measure => first | (simp [intOf]; done) | (simp [intOf]; omega)
      · have HV : Hid (r = decide (a < a')) := Lib.hid (by have hE := EA.out; simpa [hd] using hE)
        have hd2 : (a == a') = false := by simp [hd]
        clear hd
        by_cases hl : a < a'
        · have HR := Lib.hid (show r = true by rw [HV.out]; exact decide_eq_true hl)
          go_wp2_with fail
          go_quiet (fail)
          go_wp2_with fail
          go_quiet (fail)
          go_wp2
          go_ret
          exact ⟨ret_bool HR.out.symm, by repeat (first | with_reducible assumption | with_reducible refine Below.drew ?_ | with_reducible refine below_drewN ?_ _)⟩
        · go_wp2_with fail
          go_quiet (fail)
          go_wp2_with fail
          go_quiet (fail)
          go_wp2
          go_ret
          exact ⟨ret_bool HV.out.symm, by repeat (first | with_reducible assumption | with_reducible refine Below.drew ?_ | with_reducible refine below_drewN ?_ _)⟩
    ·
      have E0 := Lib.hid (e0 (by omega))
      clear e0 e1 e2 e3
      by_cases hd : b = b'
      · have HD := Lib.hid hd
        have hd2 : (b == b') = true := by simp [hd]
        clear hd
        go_wp2_with fail
        go_quiet (fail)
        go_wp2
        go_roundw
        case rel => exact ⟨2, rfl, by omega, fun _ => E0.out, fun _ => HD.out, by omega, by omega, (by repeat (first | with_reducible assumption | with_reducible refine Below.drew ?_ | with_reducible refine below_drewN ?_ _))⟩
        case measure => first | (simp [intOf]; done) | (simp [intOf]; omega)
      · have HV : Hid (r = decide (b < b')) := Lib.hid (by have hE := EA.out; simpa [E0.out, hd] using hE)
        have hd2 : (b == b') = false := by simp [hd]
        clear hd
        by_cases hl : b < b'
        · have HR := Lib.hid (show r = true by rw [HV.out]; exact decide_eq_true hl)
          go_wp2_with fail
          go_quiet (fail)
          go_wp2_with fail
          go_quiet (fail)
          go_wp2
          go_ret
          exact ⟨ret_bool HR.out.symm, by repeat (first | with_reducible assumption | with_reducible refine Below.drew ?_ | with_reducible refine below_drewN ?_ _)⟩
        · go_wp2_with fail
          go_quiet (fail)
          go_wp2_with fail
          go_quiet (fail)
          go_wp2
          go_ret
          exact ⟨ret_bool HV.out.symm, by repeat (first | with_reducible assumption | with_reducible refine Below.drew ?_ | with_reducible refine below_drewN ?_ _)⟩
    ·
      have E0 := Lib.hid (e0 (by omega))
      have E1 := Lib.hid (e1 (by omega))
      clear e0 e1 e2 e3
      by_cases hd : c = c'
      · have HD := Lib.hid hd
        have hd2 : (c == c') = true := by simp [hd]
        clear hd
        go_wp2_with fail
        go_quiet (fail)
        go_wp2
        go_roundw
        case rel => exact ⟨3, rfl, by omega, fun _ => E0.out, fun _ => E1.out, fun _ => HD.out, by omega, (by repeat (first | with_reducible assumption | with_reducible refine Below.drew ?_ | with_reducible refine below_drewN ?_ _))⟩
        case measure => first | (simp [intOf]; done) | (simp [intOf]; omega)
      · have HV : Hid (r = decide (c < c')) := Lib.hid (by have hE := EA.out; simpa [E0.out, E1.out, hd] using hE)
        have hd2 : (c == c') = false := by simp [hd]
        clear hd
        by_cases hl : c < c'
        · have HR := Lib.hid (show r = true by rw [HV.out]; exact decide_eq_true hl)
          go_wp2_with fail
          go_quiet (fail)
          go_wp2_with fail
          go_quiet (fail)
          go_wp2
          go_ret
          exact ⟨ret_bool HR.out.symm, by repeat (first | with_reducible assumption | with_reducible refine Below.drew ?_ | with_reducible refine below_drewN ?_ _)⟩
        · go_wp2_with fail
          go_quiet (fail)
          go_wp2_with fail
          go_quiet (fail)
          go_wp2
          go_ret
          exact ⟨ret_bool HV.out.symm, by repeat (first | with_reducible assumption | with_reducible refine Below.drew ?_ | with_reducible refine below_drewN ?_ _)⟩
    ·
      have E0 := Lib.hid (e0 (by omega))
      have E1 := Lib.hid (e1 (by omega))
      have E2 := Lib.hid (e2 (by omega))
      clear e0 e1 e2 e3
      by_cases hd : d = d'
      · have HD := Lib.hid hd
        have hd2 : (d == d') = true := by simp [hd]
        clear hd
        go_wp2_with fail
        go_quiet (fail)
        go_wp2
        go_roundw
        case rel => exact ⟨4, rfl, by omega, fun _ => E0.out, fun _ => E1.out, fun _ => E2.out, fun _ => HD.out, (by repeat (first | with_reducible assumption | with_reducible refine Below.drew ?_ | with_reducible refine below_drewN ?_ _))⟩
        case measure => first | (simp [intOf]; done) | (simp [intOf]; omega)
      · have HV : Hid (r = decide (d < d')) := Lib.hid (by have hE := EA.out; simpa [E0.out, E1.out, E2.out, hd] using hE)
        have hd2 : (d == d') = false := by simp [hd]
        clear hd
        by_cases hl : d < d'
        · have HR := Lib.hid (show r = true by rw [HV.out]; exact decide_eq_true hl)
          go_wp2_with fail
          go_quiet (fail)
          go_wp2_with fail
          go_quiet (fail)
          go_wp2
          go_ret
          exact ⟨ret_bool HR.out.symm, by repeat (first | with_reducible assumption | with_reducible refine Below.drew ?_ | with_reducible refine below_drewN ?_ _)⟩
        · go_wp2_with fail
          go_quiet (fail)
          go_wp2_with fail
          go_quiet (fail)
          go_wp2
          go_ret
          exact ⟨ret_bool HV.out.symm, by repeat (first | with_reducible assumption | with_reducible refine Below.drew ?_ | with_reducible refine below_drewN ?_ _)⟩
    · have HR := Lib.hid (show r = false by have hE := EA.out; simpa [e0 (by omega), e1 (by omega), e2 (by omega), e3 (by omega)] using hE)
      clear e0 e1 e2 e3
      go_wp2
      go_ret
      exact ⟨ret_bool HR.out.symm, by repeat (first | with_reducible assumption | with_reducible refine Below.drew ?_ | with_reducible refine below_drewN ?_ _)⟩
set_option maxHeartbeats 1000000 in
theorem lex2_any (x y x' y' : Int) (w : World) :
    Calls Tryz.prog 182 #[.agg #[.int .i64 x, .int .i64 y], .agg #[.int .i64 x', .int .i64 y']] w fun e w' => e = .returned (.bool (lex2 x y x' y')) ∧ Below w.heap.size w w' := by
  by_cases h1 : x < x'
  · have EA := Lib.hid (show lex2 x y x' y' = true by simp [lex2, h1])
    go_enter Tryz.func182, Tryz.ntmps182
    go_wp2
    go_ret
    refine ⟨ret_bool EA.out.symm, ?_⟩
    repeat (first | exact Below.refl _ _ | refine Below.alloc ?_ (by first | omega | (simp <;> omega)) _)
  by_cases h2 : x = x'
  · have h2b : (x == x') = true := by simp [h2]
    by_cases h3 : y < y'
    · have EA := Lib.hid (show lex2 x y x' y' = true by simp [lex2, h1, h2, h3])
      clear h2
      go_enter Tryz.func182, Tryz.ntmps182
      go_wp2
      go_ret
      refine ⟨ret_bool EA.out.symm, ?_⟩
      repeat (first | exact Below.refl _ _ | refine Below.alloc ?_ (by first | omega | (simp <;> omega)) _)
    · have EA := Lib.hid (show lex2 x y x' y' = false by simp [lex2, h1, h3])
      clear h2
      go_enter Tryz.func182, Tryz.ntmps182
      go_wp2
      go_ret
      refine ⟨ret_bool EA.out.symm, ?_⟩
      repeat (first | exact Below.refl _ _ | refine Below.alloc ?_ (by first | omega | (simp <;> omega)) _)
  · have h2b : (x == x') = false := by simp [h2]
    have EA := Lib.hid (show lex2 x y x' y' = false by simp [lex2, h1, h2])
    clear h2
    go_enter Tryz.func182, Tryz.ntmps182
    go_wp2
    go_ret
    refine ⟨ret_bool EA.out.symm, ?_⟩
    repeat (first | exact Below.refl _ _ | refine Below.alloc ?_ (by first | omega | (simp <;> omega)) _)
set_option maxRecDepth 100000 in
set_option maxHeartbeats 2000000 in
theorem l06Unit_any (w : World) :
    Calls Tryz.prog 92 #[] w fun e w' => e = .returned (.agg #[.int .i64 1, .int .i64 0, .int .i64 0, .int .i64 1, .int .i64 0, .int .i64 0]) ∧ Below w.heap.size w w' := by
  have R0 : KM (w.heap.size) 0 0 0 0 0 0 (w.alloc (.cells #[.int .i64 0, .int .i64 0, .int .i64 0, .int .i64 0, .int .i64 0, .int .i64 0] 36)) := (KM.at (w.heap.size) rfl)
  have B0 : Below w.heap.size w (w.alloc (.cells #[.int .i64 0, .int .i64 0, .int .i64 0, .int .i64 0, .int .i64 0, .int .i64 0] 36)) := (Below.alloc (Below.refl _ _) (by first | with_reducible exact Nat.le_refl _ | (simp <;> omega)) _)
  go_enter Tryz.func92, Tryz.ntmps92
  have R0c0 := R0.c0
  have R0c1 := R0.c1
  have R0c2 := R0.c2
  have R0c3 := R0.c3
  have R0c4 := R0.c4
  have R0c5 := R0.c5
  have R0f0 := R0.f0
  have R0f1 := R0.f1
  have R0f2 := R0.f2
  have R0f3 := R0.f3
  have R0f4 := R0.f4
  have R0f5 := R0.f5
  have R0l := R0.lt
  go_wp2_with fail
  refine (l02Unit_any _).mono ?_
  rintro e w1 ⟨rfl, hb1⟩
  have R1 : KM (w.heap.size) 0 0 0 0 0 0 w1 := KM.call R0 hb1
  have B1 : Below w.heap.size w w1 := bstep B0 hb1
  clear hb1 B0 R0
  have R1c0 := R1.c0
  have R1c1 := R1.c1
  have R1c2 := R1.c2
  have R1c3 := R1.c3
  have R1c4 := R1.c4
  have R1c5 := R1.c5
  have R1f0 := R1.f0
  have R1f1 := R1.f1
  have R1f2 := R1.f2
  have R1f3 := R1.f3
  have R1f4 := R1.f4
  have R1f5 := R1.f5
  have R1l := R1.lt
  have R1n : ¬ w.heap.size = w1.heap.size := by omega
  go_wp2
  refine bodyPost_ret (v := .agg #[.int .i64 1, .int .i64 0, .int .i64 0, .int .i64 1, .int .i64 0, .int .i64 0]) (by simp [results, Tryz.results92, go_sem, *]) rfl ⟨rfl, ?_⟩
  repeat (first | with_reducible assumption | with_reducible exact Below.refl _ _ | with_reducible refine Below.setCell ?_ (by first | omega | (simp <;> omega)) _ | with_reducible refine Below.alloc ?_ (by first | omega | (simp <;> omega)) _ | with_reducible refine bstep ?_ (by with_reducible assumption) | with_reducible refine Below.drew ?_)
end
end Go.Proofs.YtmadgbbkkkibcaaGreatDoor

namespace Go.Proofs.YtmadgbbkkkibcaaGreatDoor
section
set_option linter.unusedVariables false
set_option linter.unusedSimpArgs false

/- makers: motions of a list that reach all motions of its first k -/
structure Gath (A B C : Int) (R : List M6) (k : Nat) (Ms : List M6) : Prop where
  sub : ∀ m ∈ Ms, m ∈ R
  all : ∀ m ∈ R.take k, Reach A B C Ms m
  len : Ms.length ≤ k
theorem Gath.start (A B C : Int) (R : List M6) : Gath A B C R 0 [] := ⟨by simp, by simp, by simp⟩
theorem Gath.good {f A B C : Int} {R Ms : List M6} {k : Nat} (hR : GoodR f A B C R) (h : Gath A B C R k Ms) : GoodR f A B C Ms := fun m hm => hR m (h.sub m hm)
theorem Gath.has {A B C : Int} {R Ms : List M6} {k : Nat} (h : Gath A B C R k Ms) (hk : k < R.length) (hm : Reach A B C Ms R[k]) : Gath A B C R (k + 1) Ms :=
  ⟨h.sub, fun m hm' => by
    rw [List.take_succ_eq_append_getElem hk] at hm'
    rcases List.mem_append.1 hm' with hm' | hm'
    · exact h.all m hm'
    · simp at hm'; subst hm'; exact hm, by have := h.len; omega⟩
theorem Gath.adds {f A B C : Int} (hl : latI A B C) {R Ms : List M6} (hR : GoodR f A B C R) {k : Nat} (h : Gath A B C R k Ms) (hk : k < R.length) : Gath A B C R (k + 1) (Ms ++ [R[k]]) := by
  have hg : GoodR f A B C (Ms ++ [R[k]]) := by
    intro m hm
    rcases List.mem_append.1 hm with hm | hm
    · exact h.good hR m hm
    · simp at hm; subst hm; exact hR _ (List.getElem_mem hk)
  refine ⟨?_, ?_, by have := h.len; simp; omega⟩
  · intro m hm
    rcases List.mem_append.1 hm with hm | hm
    · exact h.sub m hm
    · simp at hm; subst hm; exact List.getElem_mem hk
  · intro m hm
    rw [List.take_succ_eq_append_getElem hk] at hm
    rcases List.mem_append.1 hm with hm | hm
    · exact reach_sub hl hg (fun r hr => reach_mem hl hg (List.mem_append.2 (.inl hr))) (h.all m hm)
    · simp at hm; subst hm; exact reach_mem hl hg (List.mem_append.2 (.inr (by simp)))
theorem Gath.fin {f A B C : Int} (hl : latI A B C) {R Ms : List M6} (hR : GoodR f A B C R) (h : Gath A B C R R.length Ms) (m : M6) : Reach A B C Ms m ↔ Reach A B C R m :=
  ⟨reach_sub hl hR fun r hr => reach_mem hl hR (h.sub r hr), reach_sub hl (h.good hR) fun r hr => h.all r (by rw [List.take_length]; exact hr)⟩
/- one list that is strictly increasing -/
theorem up_of {L : List M6} (hn : L.Nodup) (h : L.Pairwise fun m n => ltM n m = false) : Up L := by
  have := List.pairwise_and_iff.2 ⟨h, hn⟩
  refine this.imp fun {a b} hab => ?_
  rcases hc : ltM a b with _ | _
  · exact absurd (ltM_total hc hab.1) hab.2
  · rfl
theorem sort_up {L : List M6} (hn : L.Nodup) : Up (L.mergeSort fun x y => !ltM y x) := by
  have hs := List.pairwise_mergeSort (le := fun x y => !ltM y x) (fun a b c h1 h2 => by
    simp only [Bool.not_eq_true'] at *
    rcases hc : ltM c a with _ | _
    · rfl
    · rcases hab : ltM a b with _ | _
      · have e := ltM_total hab h1
        subst e
        rw [h2] at hc; cases hc
      · have := ltM_trans hc hab
        rw [h2] at this; cases this) (fun a b => by
    rcases hab : ltM a b with _ | _ <;> rcases hba : ltM b a with _ | _ <;> simp_all
    have := ltM_trans hab hba
    rw [ltM_irrefl] at this; cases this) L
  refine up_of ((List.mergeSort_perm L _).nodup_iff.2 hn) (hs.imp fun {a b} h => by simpa using h)
theorem sort_mem (L : List M6) (m : M6) : m ∈ L.mergeSort (fun x y => !ltM y x) ↔ m ∈ L := (List.mergeSort_perm L _).mem_iff
theorem sort_clos {A B C : Int} {R L : List M6} (hn : L.Nodup) (h : ∀ m, m ∈ L ↔ Reach A B C R m) : IsClos A B C R (L.mergeSort fun x y => !ltM y x) := ⟨sort_up hn, fun m => (sort_mem L m).trans (h m)⟩
theorem sort_eq {L L' : List M6} (hn : L.Nodup) (hU : Up L') (h : ∀ m, m ∈ L' ↔ m ∈ L) : L.mergeSort (fun x y => !ltM y x) = L' := up_unique (sort_up hn) hU fun m => (sort_mem L m).trans (h m).symm
/- a group that is shifted -/
def conM (A B C p q : Int) (m : M6) : M6 := redM A B C (m.1, m.2.1, m.2.2.1, m.2.2.2.1, m.2.2.2.2.1 + (p + (m.1 * p + m.2.1 * q) * -1), m.2.2.2.2.2 + (q + (m.2.2.1 * p + m.2.2.2.1 * q) * -1))
theorem con_inj {A B C p q : Int} (hl : latI A B C) {m n : M6} (hm : redM A B C m = m) (hn : redM A B C n = n) (h : conM A B C p q m = conM A B C p q n) : m = n := by
  obtain ⟨a, b, c, d, x, y⟩ := m
  obtain ⟨a', b', c', d', x', y'⟩ := n
  simp only [conM, redM, Prod.mk.injEq] at h
  obtain ⟨rfl, rfl, rfl, rfl, h1, h2⟩ := h
  have h3 := (red_same hl).1 ⟨h1, h2⟩
  have e1 : x + (p + (a * p + b * q) * -1) - (x' + (p + (a * p + b * q) * -1)) = x - x' := by omega
  have e2 : y + (q + (c * p + d * q) * -1) - (y' + (q + (c * p + d * q) * -1)) = y - y' := by omega
  rw [e1, e2] at h3
  rw [← hm, ← hn]
  exact redM_eq hl h3
theorem con_prog (A B C p q : Int) (m : M6) : redM A B C (cmpM (cmpM (1, 0, 0, 1, p, q) m) (1, 0, 0, 1, -p, -q)) = conM A B C p q m := by
  obtain ⟨a, b, c, d, x, y⟩ := m
  simp only [conM, redM, cmpM, cmpI]
  have e1 : (1 * a + 0 * c) * 1 + (1 * b + 0 * d) * 0 = a := by omega
  have e2 : (1 * a + 0 * c) * 0 + (1 * b + 0 * d) * 1 = b := by omega
  have e3 : (0 * a + 1 * c) * 1 + (0 * b + 1 * d) * 0 = c := by omega
  have e4 : (0 * a + 1 * c) * 0 + (0 * b + 1 * d) * 1 = d := by omega
  have e5 : (1 * a + 0 * c) * -p + (1 * b + 0 * d) * -q + (1 * x + 0 * y + p) = x + (p + (a * p + b * q) * -1) := by grind
  have e6 : (0 * a + 1 * c) * -p + (0 * b + 1 * d) * -q + (0 * x + 1 * y + q) = y + (q + (c * p + d * q) * -1) := by grind
  rw [e1, e2, e3, e4, e5, e6]
theorem con_nodup {f A B C p q : Int} (hl : latI A B C) : ∀ {L : List M6}, L.Nodup → (∀ m ∈ L, redM A B C m = m) → (L.map (conM A B C p q)).Nodup
  | [], _, _ => by simp
  | a :: L, hn, hr => by
    have h1 := List.nodup_cons.1 hn
    rw [List.map_cons]
    refine List.nodup_cons.2 ⟨fun h => ?_, con_nodup (f := f) hl h1.2 fun m hm => hr m (by simp [hm])⟩
    obtain ⟨m, hm, e⟩ := List.mem_map.1 h
    exact h1.1 (con_inj hl (hr m (by simp [hm])) (hr a (by simp)) e ▸ hm)
/- what a fold of insertions keeps -/
def putM (L : List M6) (m : M6) : List M6 := if m ∈ L then L else insM L m
theorem putM_mem {L : List M6} {m n : M6} : n ∈ putM L m ↔ n = m ∨ n ∈ L := by
  unfold putM
  split
  · rename_i h
    exact ⟨.inr, fun h' => h'.elim (fun e => e ▸ h) id⟩
  · exact insM_mem
theorem putM_up {L : List M6} {m : M6} (hU : Up L) : Up (putM L m) := by
  unfold putM
  split
  · exact hU
  · rename_i h; exact insM_up hU h
theorem putM_len (L : List M6) (m : M6) : (putM L m).length ≤ L.length + 1 := by
  unfold putM
  split
  · omega
  · rw [insM_len]; omega
def putAll (L : List M6) : List M6 := L.foldl putM []
theorem putAll_snoc (L : List M6) (m : M6) : putAll (L ++ [m]) = putM (putAll L) m := by simp [putAll, List.foldl_append]
theorem putAll_facts : ∀ (L L0 : List M6), Up L0 → Up (L.foldl putM L0) ∧ ∀ m, m ∈ L.foldl putM L0 ↔ m ∈ L0 ∨ m ∈ L
  | [], L0, h => ⟨h, by simp⟩
  | a :: L, L0, h => by
    obtain ⟨h1, h2⟩ := putAll_facts L (putM L0 a) (putM_up h)
    refine ⟨h1, fun m => (h2 m).trans ?_⟩
    rw [putM_mem, List.mem_cons]
    constructor
    · rintro ((h | h) | h)
      · exact .inr (.inl h)
      · exact .inl h
      · exact .inr (.inr h)
    · rintro (h | h | h)
      · exact .inl (.inr h)
      · exact .inl (.inl h)
      · exact .inr h
theorem putAll_up (L : List M6) : Up (putAll L) := (putAll_facts L [] List.Pairwise.nil).1
theorem putAll_mem (L : List M6) (m : M6) : m ∈ putAll L ↔ m ∈ L := by rw [putAll, (putAll_facts L [] List.Pairwise.nil).2]; simp
theorem putAll_len (L : List M6) : (putAll L).length ≤ L.length := nodup_len _ _ (putAll_up L).nodup fun m hm => (putAll_mem L m).1 hm
theorem sort_put {L : List M6} (hn : L.Nodup) : L.mergeSort (fun x y => !ltM y x) = putAll L := sort_eq hn (putAll_up L) (putAll_mem L)
/- a list is a group just if it is the closure of its reduced motions -/
theorem grp_len {f A B C : Int} {L : List M6} (h : grpB f A B C L = true) : L.length ≤ 768 := by
  have h0 := h
  unfold grpB at h
  simp only [Bool.and_eq_true, decide_eq_true_eq, List.all_eq_true, List.contains_iff_mem, beq_iff_eq] at h
  obtain ⟨hfl, h1, h2, _⟩ := h
  simp only [flB, Bool.and_eq_true] at hfl
  have hl := latB_iff.1 hfl.2
  exact good_len hfl.1 hl h2.nodup fun m hm => ⟨(okM_iff.1 (h1 m hm).1).2.1, (h1 m hm).2⟩
theorem grp_ok {f A B C : Int} {L : List M6} (h : grpB f A B C L = true) : flB f A B C = true ∧ (∀ m ∈ L, okM f A B C m = true ∧ redM A B C m = m) ∧ Up L := by
  unfold grpB at h
  simp only [Bool.and_eq_true, decide_eq_true_eq, List.all_eq_true, beq_iff_eq] at h
  exact ⟨h.1, h.2.1, h.2.2.1⟩
theorem grp_eq {f A B C : Int} (hfl : flB f A B C = true) {L L' : List M6} (hok : ∀ m ∈ L, okM f A B C m = true) (h : IsClos A B C (L.map (redM A B C)) L') : grpB f A B C L = decide (L' = L) := by
  rcases hd : decide (L' = L) with _ | _
  · rcases hg : grpB f A B C L with _ | _
    · rfl
    · exact absurd (clos_unique h ((grp_iff hfl hok).1 hg)) (by simpa using hd)
  · have e : L' = L := by simpa using hd
    rw [(grp_iff hfl hok).2 (e ▸ h)]
theorem grp_bad {f A B C : Int} {L : List M6} {m : M6} (hm : m ∈ L) (h : okM f A B C m = false) : grpB f A B C L = false := by
  rcases hg : grpB f A B C L with _ | _
  · rfl
  · have := ((grp_ok hg).2.1 m hm).1
    rw [h] at this; cases this
theorem grp_fl {f A B C : Int} {L : List M6} (h : flB f A B C = false) : grpB f A B C L = false := by simp [grpB, h]
end
end Go.Proofs.YtmadgbbkkkibcaaGreatDoor

namespace Go.Proofs.YtmadgbbkkkibcaaGreatDoor
section
open Go.RowKit Go.Sort Go.Lib
set_option linter.unusedSimpArgs false
set_option linter.unusedVariables false

def cmpZ (x y : Int) : Int := if x < y then -1 else if y < x then 1 else 0
def orZ (p q : Int) : Int := if p = 0 then q else p
theorem cmpZ_0 {x y : Int} : cmpZ x y = 0 ↔ x = y := by unfold cmpZ; split <;> (try split) <;> omega
theorem toGrow {W w1 : World} (h : Below W.heap.size W w1) (hd : W.drawn ≤ w1.drawn) : ∃ q os, w1 = grow (W.drewN q) os := by
  refine ⟨w1.drawn - W.drawn, w1.heap.extract W.heap.size w1.heap.size, ?_⟩
  obtain ⟨h1, h2, h3, h4, h5⟩ := h
  obtain ⟨hp, tp, dr, os, out⟩ := w1
  simp only at h1 h2 h3 h4 h5 hd
  subst h1 h2 h3
  unfold grow World.drewN
  simp only [World.mk.injEq, true_and]
  refine ⟨?_, (Nat.add_sub_of_le hd).symm, trivial⟩
  apply Array.ext_getElem?
  intro i
  by_cases hi : i < W.heap.size
  · rw [Array.getElem?_append_left hi]; exact h5 i hi
  · rw [Array.getElem?_append_right (by omega), Array.getElem?_extract]
    split
    · congr 1; omega
    · rw [Array.getElem?_eq_none (by omega)]
set_option maxHeartbeats 400000 in
theorem compareZ_any (x y : Int) (w : World) :
    Calls Tryz.prog 217 #[.int .i64 x, .int .i64 y] w fun e w' => e = .returned (.int .i64 (cmpZ x y)) ∧ w = w' := by
  by_cases h : x < y
  · have EA := Lib.hid (show cmpZ x y = -1 by simp [cmpZ, h])
    go_enter Tryz.func217, Tryz.ntmps217
    go_wp2
    go_ret
    exact ⟨ret_int EA.out.symm, rfl⟩
  by_cases h' : y < x
  · have EA := Lib.hid (show cmpZ x y = 1 by simp [cmpZ, h, h'])
    go_enter Tryz.func217, Tryz.ntmps217
    go_wp2
    go_ret
    exact ⟨ret_int EA.out.symm, rfl⟩
  · have EA := Lib.hid (show cmpZ x y = 0 by simp [cmpZ, h, h'])
    go_enter Tryz.func217, Tryz.ntmps217
    go_wp2
    go_ret
    exact ⟨ret_int EA.out.symm, rfl⟩

set_option maxHeartbeats 400000 in
theorem orZ_any (p q : Int) (b : Nat) (w : World) (h0 : w.cell? ⟨b, 0, none⟩ = some (.int .i64 p)) (h1 : w.cell? ⟨b, 1, none⟩ = some (.int .i64 q)) :
    Calls Tryz.prog 185 #[.slice (some ⟨b, 0, none⟩) 2 2] w fun e w' => e = .returned (.int .i64 (orZ p q)) ∧ w = w' := by
  go_enter Tryz.func185, Tryz.ntmps185
  go_wp2_with fail
  go_loop [8] (fun i => ∃ k : Nat, k ≤ 2 ∧ i = .int .i64 k ∧ Hid ((0 < k → p = 0) ∧ (1 < k → q = 0))) (fun i => 2 - (intOf i).toNat)
  case atStart => exact ⟨0, by omega, rfl, by constructor <;> (intro h; omega)⟩
  case round =>
    obtain ⟨k, hk, rfl, hz⟩ := hrel
    obtain rfl | rfl | rfl : k = 0 ∨ k = 1 ∨ k = 2 := by omega
    · by_cases hp : p = 0
      · have hp1 : (p != 0) = false := by simp [hp]
        have HP := Lib.hid hp
        clear hp
        go_wp2
        go_round
        case rel => exact ⟨1, by omega, rfl, ⟨fun _ => HP.out, fun h => by omega⟩⟩
        case measure => simp [intOf]
      · have hp1 : (p != 0) = true := by simp [hp]
        have HP := Lib.hid (show orZ p q = p by simp [orZ, hp])
        clear hp
        go_wp2
        go_ret
        exact ⟨ret_int HP.out.symm, rfl⟩
    · have HP := Lib.hid (show orZ p q = q by simp [orZ, hz.1 (by omega)])
      by_cases hq : q = 0
      · have hq1 : (q != 0) = false := by simp [hq]
        have HQ := Lib.hid hq
        clear hq
        go_wp2
        go_round
        case rel => exact ⟨2, by omega, rfl, ⟨fun _ => hz.1 (by omega), fun _ => HQ.out⟩⟩
        case measure => simp [intOf]
      · have hq1 : (q != 0) = true := by simp [hq]
        clear hq
        go_wp2
        go_ret
        exact ⟨ret_int HP.out.symm, rfl⟩
    · have HP := Lib.hid (show orZ p q = 0 by simp [orZ, hz.1 (by omega), hz.2 (by omega)])
      go_wp2
      go_ret
      exact ⟨ret_int HP.out.symm, rfl⟩

def cmp2Z (x y x' y' : Int) : Int := orZ (cmpZ x x') (cmpZ y y')
set_option maxHeartbeats 800000 in
theorem vcmpZ_any (x y x' y' : Int) (w : World) :
    Calls Tryz.prog 187 #[.agg #[.int .i64 x, .int .i64 y], .agg #[.int .i64 x', .int .i64 y']] w fun e w' => e = .returned (.int .i64 (cmp2Z x y x' y')) ∧ Below w.heap.size w w' ∧ w.drawn ≤ w'.drawn := by
  have K0 := K4.made w x y x' y' 34
  go_enter Tryz.func187, Tryz.ntmps187
  go_wp2_with fail
  go_region_held3 (fun W => W.cell? ⟨w.heap.size, 0, none⟩ = some (.int .i64 x) ∧ W.cell? ⟨w.heap.size, 1, none⟩ = some (.int .i64 y) ∧ W.cell? ⟨w.heap.size + 1, 0, none⟩ = some (.int .i64 x') ∧ W.cell? ⟨w.heap.size + 1, 1, none⟩ = some (.int .i64 y')) ((refine K4.cells ?_; repeat (first | assumption | with_reducible refine K4.alloc ?_ _ | with_reducible refine K4.drew ?_)))
    (first
      | (go_at_call 217; refine (compareZ_any _ _ _).mono ?_; rintro e w1 ⟨rfl, rfl⟩)
      | (go_at_call 185; refine (orZ_any (cmpZ x x') (cmpZ y y') _ _ ?_ ?_).mono ?_; (simp [go_sem]); (simp [go_sem]); rintro e w1 ⟨rfl, rfl⟩))
  go_wp2
  go_ret
  refine ⟨ret_int rfl, ?_, ?_⟩
  · repeat (first | exact Below.refl _ _ | refine Below.alloc ?_ (by first | omega | (simp <;> omega)) _ | refine Below.drew ?_)
  · repeat (first | exact Nat.le_refl _ | exact Nat.le_succ _ | refine Nat.le_trans ?_ (Nat.le_succ _))
def cmp4Z (a b c d a' b' c' d' : Int) : Int := orZ (cmpZ a a') (orZ (cmpZ b b') (orZ (cmpZ c c') (cmpZ d d')))
theorem orZ_no {p q : Int} (h : p ≠ 0) : orZ p q = p := by simp [orZ, h]
theorem orZ_z (q : Int) : orZ 0 q = q := by simp [orZ]
set_option maxRecDepth 100000 in
set_option maxHeartbeats 4000000 in
theorem scmpZ_any (g g' : Nat) (a b c d a' b' c' d' : Int) (w : World) (h0 : w.cell? ⟨g, 0, none⟩ = some (.int .i64 a)) (h1 : w.cell? ⟨g, 1, none⟩ = some (.int .i64 b)) (h2 : w.cell? ⟨g, 2, none⟩ = some (.int .i64 c)) (h3 : w.cell? ⟨g, 3, none⟩ = some (.int .i64 d)) (k0 : w.cell? ⟨g', 0, none⟩ = some (.int .i64 a')) (k1 : w.cell? ⟨g', 1, none⟩ = some (.int .i64 b')) (k2 : w.cell? ⟨g', 2, none⟩ = some (.int .i64 c')) (k3 : w.cell? ⟨g', 3, none⟩ = some (.int .i64 d')) :
    Calls Tryz.prog 186 #[.slice (some ⟨g, 0, none⟩) 4 4, .slice (some ⟨g', 0, none⟩) 4 4] w fun e w' => e = .returned (.int .i64 (cmp4Z a b c d a' b' c' d')) ∧ w = w' := by
  have HC := Lib.hid (fun x y W => compareZ_any x y W)
  go_enter Tryz.func186, Tryz.ntmps186
  go_wp2_with fail
  go_loop [11] (fun i => ∃ k : Nat, k ≤ 4 ∧ i = .int .i64 k ∧ Hid ((0 < k → a = a') ∧ (1 < k → b = b') ∧ (2 < k → c = c') ∧ (3 < k → d = d'))) (fun i => 4 - (intOf i).toNat)
  case atStart => exact ⟨0, by omega, rfl, Lib.hid (by refine ⟨?_, ?_, ?_, ?_⟩ <;> (intro h; omega))⟩
  case round =>
    obtain ⟨k, hk, rfl, hz⟩ := hrel
    obtain rfl | rfl | rfl | rfl | rfl : k = 0 ∨ k = 1 ∨ k = 2 ∨ k = 3 ∨ k = 4 := by omega
    · have HV := Lib.hid (show cmp4Z a b c d a' b' c' d' = orZ (cmpZ a a') (orZ (cmpZ b b') (orZ (cmpZ c c') (cmpZ d d'))) by simp only [cmp4Z])
      by_cases hq : a = a'
      · have CC : Hid (∀ W, Calls Tryz.prog 217 #[.int .i64 a, .int .i64 a'] W fun e w' => e = .returned (.int .i64 0) ∧ W = w') := Lib.hid (fun W => by have h := HC.out a a' W; rw [cmpZ_0.2 hq] at h; exact h)
        have HQ := Lib.hid hq
        clear hq
        go_wp2_with (go_at_call 217; refine (CC.out _).mono ?_; rintro e w1 ⟨rfl, rfl⟩)
        go_round
        case rel => exact ⟨1, by omega, rfl, Lib.hid ⟨fun _ => HQ.out, fun h => by omega, fun h => by omega, fun h => by omega⟩⟩
        case measure => simp [intOf]
      · have hne : cmpZ a a' ≠ 0 := fun h => hq (cmpZ_0.1 h)
        have HR := Lib.hid (show cmp4Z a b c d a' b' c' d' = cmpZ a a' by rw [HV.out]; exact orZ_no hne)
        have CC := Lib.hid (fun W => HC.out a a' W)
        generalize cmpZ a a' = r at hne HR CC
        have hne1 : (r != 0) = true := by simp [hne]
        clear hq hne
        go_wp2_with (go_at_call 217; refine (CC.out _).mono ?_; rintro e w1 ⟨rfl, rfl⟩)
        go_ret
        exact ⟨ret_int HR.out.symm, rfl⟩
    · have HV := Lib.hid (show cmp4Z a b c d a' b' c' d' = orZ (cmpZ b b') (orZ (cmpZ c c') (cmpZ d d')) by simp only [cmp4Z, cmpZ_0.2 (hz.out.1 (by omega)), orZ_z])
      by_cases hq : b = b'
      · have CC : Hid (∀ W, Calls Tryz.prog 217 #[.int .i64 b, .int .i64 b'] W fun e w' => e = .returned (.int .i64 0) ∧ W = w') := Lib.hid (fun W => by have h := HC.out b b' W; rw [cmpZ_0.2 hq] at h; exact h)
        have HQ := Lib.hid hq
        clear hq
        go_wp2_with (go_at_call 217; refine (CC.out _).mono ?_; rintro e w1 ⟨rfl, rfl⟩)
        go_round
        case rel => exact ⟨2, by omega, rfl, Lib.hid ⟨fun _ => hz.out.1 (by omega), fun _ => HQ.out, fun h => by omega, fun h => by omega⟩⟩
        case measure => simp [intOf]
      · have hne : cmpZ b b' ≠ 0 := fun h => hq (cmpZ_0.1 h)
        have HR := Lib.hid (show cmp4Z a b c d a' b' c' d' = cmpZ b b' by rw [HV.out]; exact orZ_no hne)
        have CC := Lib.hid (fun W => HC.out b b' W)
        generalize cmpZ b b' = r at hne HR CC
        have hne1 : (r != 0) = true := by simp [hne]
        clear hq hne
        go_wp2_with (go_at_call 217; refine (CC.out _).mono ?_; rintro e w1 ⟨rfl, rfl⟩)
        go_ret
        exact ⟨ret_int HR.out.symm, rfl⟩
    · have HV := Lib.hid (show cmp4Z a b c d a' b' c' d' = orZ (cmpZ c c') (cmpZ d d') by simp only [cmp4Z, cmpZ_0.2 (hz.out.1 (by omega)), orZ_z, cmpZ_0.2 (hz.out.2.1 (by omega)), orZ_z])
      by_cases hq : c = c'
      · have CC : Hid (∀ W, Calls Tryz.prog 217 #[.int .i64 c, .int .i64 c'] W fun e w' => e = .returned (.int .i64 0) ∧ W = w') := Lib.hid (fun W => by have h := HC.out c c' W; rw [cmpZ_0.2 hq] at h; exact h)
        have HQ := Lib.hid hq
        clear hq
        go_wp2_with (go_at_call 217; refine (CC.out _).mono ?_; rintro e w1 ⟨rfl, rfl⟩)
        go_round
        case rel => exact ⟨3, by omega, rfl, Lib.hid ⟨fun _ => hz.out.1 (by omega), fun _ => hz.out.2.1 (by omega), fun _ => HQ.out, fun h => by omega⟩⟩
        case measure => simp [intOf]
      · have hne : cmpZ c c' ≠ 0 := fun h => hq (cmpZ_0.1 h)
        have HR := Lib.hid (show cmp4Z a b c d a' b' c' d' = cmpZ c c' by rw [HV.out]; exact orZ_no hne)
        have CC := Lib.hid (fun W => HC.out c c' W)
        generalize cmpZ c c' = r at hne HR CC
        have hne1 : (r != 0) = true := by simp [hne]
        clear hq hne
        go_wp2_with (go_at_call 217; refine (CC.out _).mono ?_; rintro e w1 ⟨rfl, rfl⟩)
        go_ret
        exact ⟨ret_int HR.out.symm, rfl⟩
    · have HV := Lib.hid (show cmp4Z a b c d a' b' c' d' = cmpZ d d' by simp only [cmp4Z, cmpZ_0.2 (hz.out.1 (by omega)), orZ_z, cmpZ_0.2 (hz.out.2.1 (by omega)), orZ_z, cmpZ_0.2 (hz.out.2.2.1 (by omega)), orZ_z])
      by_cases hq : d = d'
      · have CC : Hid (∀ W, Calls Tryz.prog 217 #[.int .i64 d, .int .i64 d'] W fun e w' => e = .returned (.int .i64 0) ∧ W = w') := Lib.hid (fun W => by have h := HC.out d d' W; rw [cmpZ_0.2 hq] at h; exact h)
        have HQ := Lib.hid hq
        clear hq
        go_wp2_with (go_at_call 217; refine (CC.out _).mono ?_; rintro e w1 ⟨rfl, rfl⟩)
        go_round
        case rel => exact ⟨4, by omega, rfl, Lib.hid ⟨fun _ => hz.out.1 (by omega), fun _ => hz.out.2.1 (by omega), fun _ => hz.out.2.2.1 (by omega), fun _ => HQ.out⟩⟩
        case measure => simp [intOf]
      · have hne : cmpZ d d' ≠ 0 := fun h => hq (cmpZ_0.1 h)
        have HR := Lib.hid (show cmp4Z a b c d a' b' c' d' = cmpZ d d' by rw [HV.out])
        have CC := Lib.hid (fun W => HC.out d d' W)
        generalize cmpZ d d' = r at hne HR CC
        have hne1 : (r != 0) = true := by simp [hne]
        clear hq hne
        go_wp2_with (go_at_call 217; refine (CC.out _).mono ?_; rintro e w1 ⟨rfl, rfl⟩)
        go_ret
        exact ⟨ret_int HR.out.symm, rfl⟩
    · have HR := Lib.hid (show cmp4Z a b c d a' b' c' d' = 0 by simp only [cmp4Z, cmpZ_0.2 (hz.out.1 (by omega)), cmpZ_0.2 (hz.out.2.1 (by omega)), cmpZ_0.2 (hz.out.2.2.1 (by omega)), cmpZ_0.2 (hz.out.2.2.2 (by omega)), orZ_z])
      go_wp2
      go_ret
      exact ⟨ret_int HR.out.symm, rfl⟩
def cmpMZ (m n : M6) : Int := orZ (cmp4Z m.1 m.2.1 m.2.2.1 m.2.2.2.1 n.1 n.2.1 n.2.2.1 n.2.2.2.1) (cmp2Z m.2.2.2.2.1 m.2.2.2.2.2 n.2.2.2.2.1 n.2.2.2.2.2)
theorem cmpMZ_iff (m n : M6) : cmpMZ m n < 0 ↔ (m.1 < n.1 ∨ m.1 = n.1 ∧ (m.2.1 < n.2.1 ∨ m.2.1 = n.2.1 ∧ (m.2.2.1 < n.2.2.1 ∨ m.2.2.1 = n.2.2.1 ∧ (m.2.2.2.1 < n.2.2.2.1 ∨ m.2.2.2.1 = n.2.2.2.1 ∧ (m.2.2.2.2.1 < n.2.2.2.2.1 ∨ m.2.2.2.2.1 = n.2.2.2.2.1 ∧ m.2.2.2.2.2 < n.2.2.2.2.2))))) := by
  obtain ⟨a, b, c, d, x, y⟩ := m
  obtain ⟨a', b', c', d', x', y'⟩ := n
  simp only [cmpMZ, cmp4Z, cmp2Z]
  by_cases h1 : a = a'
  · rw [cmpZ_0.2 h1, orZ_z]
    by_cases h2 : b = b'
    · rw [cmpZ_0.2 h2, orZ_z]
      by_cases h3 : c = c'
      · rw [cmpZ_0.2 h3, orZ_z]
        by_cases h4 : d = d'
        · rw [cmpZ_0.2 h4, orZ_z]
          by_cases h5 : x = x'
          · rw [cmpZ_0.2 h5, orZ_z]
            unfold cmpZ
            split <;> (try split) <;> omega
          · rw [orZ_no (fun h => h5 (cmpZ_0.1 h))]
            unfold cmpZ
            split <;> (try split) <;> omega
        · rw [orZ_no (fun h => h4 (cmpZ_0.1 h))]
          unfold cmpZ
          split <;> (try split) <;> omega
      · rw [orZ_no (show orZ (cmpZ c c') (cmpZ d d') ≠ 0 by rw [orZ_no (fun h => h3 (cmpZ_0.1 h))]; exact fun h => h3 (cmpZ_0.1 h)), orZ_no (fun h => h3 (cmpZ_0.1 h))]
        unfold cmpZ
        split <;> (try split) <;> omega
    · have e := orZ_no (p := cmpZ b b') (q := orZ (cmpZ c c') (cmpZ d d')) (fun h => h2 (cmpZ_0.1 h))
      rw [e, orZ_no (fun h => h2 (cmpZ_0.1 h))]
      unfold cmpZ
      split <;> (try split) <;> omega
  · have e := orZ_no (p := cmpZ a a') (q := orZ (cmpZ b b') (orZ (cmpZ c c') (cmpZ d d'))) (fun h => h1 (cmpZ_0.1 h))
    rw [e, orZ_no (fun h => h1 (cmpZ_0.1 h))]
    unfold cmpZ
    split <;> (try split) <;> omega
theorem cmpMZ_lt (m n : M6) : decide (cmpMZ m n < 0) = ltM m n := decide_eq_decide.2 (cmpMZ_iff m n)
theorem drew_le (W : World) : W.drawn ≤ W.drew.drawn := Nat.le_succ _
theorem alloc_le (W : World) (z : Obj) : W.drawn ≤ (W.alloc z).drawn := Nat.le_refl _
set_option maxRecDepth 100000 in
set_option maxHeartbeats 8000000 in
theorem mcmp_any (m n : M6) (w : World) :
    Calls Tryz.prog 115 #[.agg #[.int .i64 (m.1), .int .i64 (m.2.1), .int .i64 (m.2.2.1), .int .i64 (m.2.2.2.1), .int .i64 (m.2.2.2.2.1), .int .i64 (m.2.2.2.2.2)], .agg #[.int .i64 (n.1), .int .i64 (n.2.1), .int .i64 (n.2.2.1), .int .i64 (n.2.2.2.1), .int .i64 (n.2.2.2.2.1), .int .i64 (n.2.2.2.2.2)]] w fun e w' => e = .returned (.int .i64 (cmpMZ m n)) ∧ Below w.heap.size w w' ∧ w.drawn ≤ w'.drawn := by
  obtain ⟨a, b, c, d, x, y⟩ := m
  obtain ⟨a', b', c', d', x', y'⟩ := n
  have HV := Lib.hid (show orZ (cmp4Z a b c d a' b' c' d') (cmp2Z x y x' y') = cmpMZ (a, b, c, d, x, y) (a', b', c', d', x', y') from rfl)
  generalize cmpMZ (a, b, c, d, x, y) (a', b', c', d', x', y') = r at HV
  have HS := Lib.hid (fun g g' W => scmpZ_any g g' a b c d a' b' c' d' W)
  have HW := Lib.hid (fun W => vcmpZ_any x y x' y' W)
  generalize cmp4Z a b c d a' b' c' d' = p at HV HS
  generalize cmp2Z x y x' y' = q at HV HW
  dsimp only
  have M0 : Km w.heap.size a b c d x y ((w.alloc (.cells #[.int .i64 a, .int .i64 b, .int .i64 c, .int .i64 d, .int .i64 x, .int .i64 y] 115)).alloc (.cells #[.int .i64 a', .int .i64 b', .int .i64 c', .int .i64 d', .int .i64 x', .int .i64 y'] 115)) := (Km.at _ rfl).alloc _
  have N0 : Km (w.heap.size + 1) a' b' c' d' x' y' ((w.alloc (.cells #[.int .i64 a, .int .i64 b, .int .i64 c, .int .i64 d, .int .i64 x, .int .i64 y] 115)).alloc (.cells #[.int .i64 a', .int .i64 b', .int .i64 c', .int .i64 d', .int .i64 x', .int .i64 y'] 115)) := Km.at _ (by simp)
  have B0 : Below w.heap.size w ((w.alloc (.cells #[.int .i64 a, .int .i64 b, .int .i64 c, .int .i64 d, .int .i64 x, .int .i64 y] 115)).alloc (.cells #[.int .i64 a', .int .i64 b', .int .i64 c', .int .i64 d', .int .i64 x', .int .i64 y'] 115)) := ((Below.refl _ _).alloc (Nat.le_refl _) _).alloc (by simp) _
  have D0 : w.drawn ≤ ((w.alloc (.cells #[.int .i64 a, .int .i64 b, .int .i64 c, .int .i64 d, .int .i64 x, .int .i64 y] 115)).alloc (.cells #[.int .i64 a', .int .i64 b', .int .i64 c', .int .i64 d', .int .i64 x', .int .i64 y'] 115)).drawn := Nat.le_refl _
  go_enter Tryz.func115, Tryz.ntmps115
  go_wp2_with fail
  go_region_held3 (fun W => (W.cell? ⟨w.heap.size, 0, none⟩ = some (.int .i64 a) ∧ W.cell? ⟨w.heap.size, 1, none⟩ = some (.int .i64 b) ∧ W.cell? ⟨w.heap.size, 2, none⟩ = some (.int .i64 c) ∧ W.cell? ⟨w.heap.size, 3, none⟩ = some (.int .i64 d) ∧ W.cell? ⟨w.heap.size, 4, none⟩ = some (.int .i64 x) ∧ W.cell? ⟨w.heap.size, 5, none⟩ = some (.int .i64 y)) ∧ (W.cell? ⟨w.heap.size + 1, 0, none⟩ = some (.int .i64 a') ∧ W.cell? ⟨w.heap.size + 1, 1, none⟩ = some (.int .i64 b') ∧ W.cell? ⟨w.heap.size + 1, 2, none⟩ = some (.int .i64 c') ∧ W.cell? ⟨w.heap.size + 1, 3, none⟩ = some (.int .i64 d') ∧ W.cell? ⟨w.heap.size + 1, 4, none⟩ = some (.int .i64 x') ∧ W.cell? ⟨w.heap.size + 1, 5, none⟩ = some (.int .i64 y'))) ((refine And.intro (Km.cells ?_) (Km.cells ?_)) <;> repeat (first | with_reducible assumption | with_reducible refine Km.drew ?_ | with_reducible refine Km.alloc ?_ _ | with_reducible refine Km.call ?_ (by with_reducible assumption)))
    (first
      | (go_at_call 186; refine (HS.out _ _ _ ?_ ?_ ?_ ?_ ?_ ?_ ?_ ?_).mono ?_; (simp [go_sem, *]); (simp [go_sem, *]); (simp [go_sem, *]); (simp [go_sem, *]); (simp [go_sem, *]); (simp [go_sem, *]); (simp [go_sem, *]); (simp [go_sem, *]); rintro e w1 ⟨rfl, rfl⟩)
      | (go_at_call 187; refine (HW.out _).mono ?_; rintro e w2 ⟨rfl, hb2, hd2⟩; have M2 : Km w.heap.size a b c d x y w2 := (by repeat (first | with_reducible assumption | with_reducible refine Km.drew ?_ | with_reducible refine Km.alloc ?_ _ | with_reducible refine Km.call ?_ (by with_reducible assumption))); have N2 : Km (w.heap.size + 1) a' b' c' d' x' y' w2 := (by repeat (first | with_reducible assumption | with_reducible refine Km.drew ?_ | with_reducible refine Km.alloc ?_ _ | with_reducible refine Km.call ?_ (by with_reducible assumption))); have B2 : Below w.heap.size w w2 := (by repeat (first | with_reducible assumption | with_reducible exact Below.refl _ _ | with_reducible refine Below.alloc ?_ (by first | omega | (simp <;> omega)) _ | with_reducible refine bstep ?_ (by with_reducible assumption) | with_reducible refine Below.drew ?_)); have D2 : w.drawn ≤ w2.drawn := (by repeat (first | with_reducible assumption | with_reducible exact Nat.le_refl _ | with_reducible refine Nat.le_trans ?_ (drew_le _) | with_reducible refine Nat.le_trans ?_ (alloc_le _ _) | with_reducible refine Nat.le_trans ?_ (by with_reducible assumption))); have zz2 := B2.size)
      | (go_at_call 185; refine (orZ_any p q _ _ ?_ ?_).mono ?_; (simp [go_sem]); (simp [go_sem]); rintro e w3 ⟨rfl, rfl⟩))
  all_goals
    go_wp2
    go_ret
    refine ⟨ret_int HV.out, ?_, ?_⟩
    · repeat (first | with_reducible assumption | with_reducible exact Below.refl _ _ | with_reducible refine Below.alloc ?_ (by first | omega | (simp <;> omega)) _ | with_reducible refine bstep ?_ (by with_reducible assumption) | with_reducible refine Below.drew ?_)
    · repeat (first | with_reducible assumption | with_reducible exact Nat.le_refl _ | with_reducible refine Nat.le_trans ?_ (drew_le _) | with_reducible refine Nat.le_trans ?_ (alloc_le _ _) | with_reducible refine Nat.le_trans ?_ (by with_reducible assumption))
end
end Go.Proofs.YtmadgbbkkkibcaaGreatDoor

namespace Go.Proofs.YtmadgbbkkkibcaaGreatDoor
section
open Go.RowKit Go.Maps
set_option linter.unusedSimpArgs false
set_option linter.unusedVariables false

theorem laidOut6 : laidOutB Tryz.prog = true := by kernel_rfl
theorem rowKey : (115 : TypeId) < Tryz.prog.types.size := of_decide_eq_true (by kernel_rfl)
theorem wideKey : (match Tryz.prog.underlying 115 with | some (.array _ _) | some (.struct _) => true | _ => false) = true := by kernel_rfl
set_option maxRecDepth 100000 in
theorem lawKey : Keyed Tryz.prog 115 := Keyed.of_law (deep_law_laid laidOut6 (m := 4) (by omega) rowKey (by kernel_rfl) wideKey)
abbrev encM (m : M6) : Value := .agg #[.int .i64 (m.1), .int .i64 (m.2.1), .int .i64 (m.2.2.1), .int .i64 (m.2.2.2.1), .int .i64 (m.2.2.2.2.1), .int .i64 (m.2.2.2.2.2)]
theorem encM_inj {m n : M6} (h : encM m = encM n) : m = n := by
  obtain ⟨a, b, c, d, x, y⟩ := m
  obtain ⟨a', b', c', d', x', y'⟩ := n
  simp [encM] at h
  obtain ⟨rfl, rfl, rfl, rfl, rfl, rfl⟩ := h
  rfl
def midZ (a : Int) : Prop := -1000000 ≤ a ∧ a ≤ 1000000
def smM (m : M6) : Prop := midZ m.1 ∧ midZ m.2.1 ∧ midZ m.2.2.1 ∧ midZ m.2.2.2.1 ∧ midZ m.2.2.2.2.1 ∧ midZ m.2.2.2.2.2
theorem midZ_wf {a : Int} (h : midZ a) : (Lit.int .i64 a).wf = true := WalkArith.wf_i64 (by unfold midZ at h; omega)
theorem sizeM : ∃ k, Tryz.prog.types.size = k + 2 := ⟨Tryz.prog.types.size - 2, by have : 2 ≤ Tryz.prog.types.size := of_decide_eq_true (by kernel_rfl); omega⟩
theorem cellsM : Tryz.prog.cellsOf 115 = 6 := by kernel_rfl
theorem cellsMx : Tryz.prog.cellsOf 113 = 4 := by kernel_rfl
theorem cellsV : Tryz.prog.cellsOf 34 = 2 := by kernel_rfl
theorem cellsI : Tryz.prog.cellsOf 2 = 1 := by kernel_rfl
theorem ktM : Tryz.prog.keyType 115 = true := by kernel_rfl
def kl (m : M6) : Lit := .string (keyBytes [.int .i64 m.1, .int .i64 m.2.1, .int .i64 m.2.2.1, .int .i64 m.2.2.2.1, .int .i64 m.2.2.2.2.1, .int .i64 m.2.2.2.2.2])
set_option maxRecDepth 100000 in
set_option maxHeartbeats 2000000 in
theorem keyM (m : M6) (h : smM m) : keyOf Tryz.prog 115 (encM m) = some (kl m) := by
  obtain ⟨a, b, c, d, x, y⟩ := m
  obtain ⟨h0, h1, h2, h3, h4, h5⟩ := h
  have w0 := midZ_wf h0
  have w1 := midZ_wf h1
  have w2 := midZ_wf h2
  have w3 := midZ_wf h3
  have w4 := midZ_wf h4
  have w5 := midZ_wf h5
  dsimp only at w0 w1 w2 w3 w4 w5
  obtain ⟨k, hk⟩ := sizeM
  have u1 := Tryz.underlying115
  have u2 := Tryz.underlying113
  have u3 := Tryz.underlying34
  have u4 := Tryz.underlying2
  unfold keyOf
  rw [u1]
  simp only [ktM, hk]
  simp [Value.formed, u1, cellsM, Value.cells, Program.keyLits, u2, u3, u4, cellsMx, cellsV, cellsI, w0, w1, w2, w3, w4, w5, List.range_succ]
  rw [if_pos (by decide)]
  simp [kl]
theorem kl_eq {m : M6} (h : smM m) : keyOf Tryz.prog 115 (encM m) = some (kl m) := keyM m h
set_option maxRecDepth 100000 in
theorem kl_inj {m n : M6} (h : smM m) (h' : smM n) (e : kl m = kl n) : m = n := encM_inj (lawKey.inj (kl_eq h) (e ▸ kl_eq h'))
set_option maxRecDepth 100000 in
theorem kl_key {m : M6} (h : smM m) : WideAt.IsKeyLit (kl m) := lawKey.key (kl_eq h)
/- the set of keys as a datum -/
abbrev TT : DataW Unit := .lit (.bool true)
abbrev dataM (Q : List M6) : DataW Unit := setOf TT (Q.map kl)
set_option maxRecDepth 100000 in
theorem atKey_fold (z : DataW Unit) (k : Lit) : ∀ (acc : List Lit) (m : DataW Unit), IsMap m → (∀ x ∈ acc, WideAt.IsKeyLit x) → (k ∈ acc → (acc.foldl (fun m x => m.put x TT) m).atKey k z = TT) ∧ (k ∉ acc → (acc.foldl (fun m x => m.put x TT) m).atKey k z = m.atKey k z)
  | [], m, _, _ => ⟨fun h => by simp at h, fun _ => rfl⟩
  | a :: acc, m, hm, hk => by
    rw [List.foldl_cons]
    obtain ⟨i1, i2⟩ := atKey_fold z k acc _ (hm.put a TT) fun x hx => hk x (by simp [hx])
    refine ⟨fun h => ?_, fun h => ?_⟩
    · by_cases h1 : k ∈ acc
      · exact i1 h1
      · rw [i2 h1]
        obtain rfl : k = a := by
          rcases List.mem_cons.1 h with h | h
          · exact h
          · exact absurd h h1
        exact atKey_put_same hm (hk k (by simp)) _ _
    · rw [i2 (fun h' => h (by simp [h'])), atKey_put_other (fun e => h (by simp [e]))]
theorem atKey_data {Q : List M6} {m : M6} (hQ : ∀ n ∈ Q, smM n) (hm : smM m) : (dataM Q).atKey (kl m) (.lit (.bool false)) = .lit (.bool (decide (m ∈ Q))) := by
  unfold dataM setOf
  obtain ⟨i1, i2⟩ := atKey_fold (.lit (.bool false)) (kl m) (Q.map kl) _ isMap_empty (fun x hx => by obtain ⟨n, hn, rfl⟩ := List.mem_map.1 hx; exact kl_key (hQ n hn))
  by_cases h : m ∈ Q
  · rw [i1 (List.mem_map.2 ⟨m, h, rfl⟩)]; simp [h]
  · rw [i2 (fun h' => by obtain ⟨n, hn, e⟩ := List.mem_map.1 h'; exact h (kl_inj hm (hQ n hn) e.symm ▸ hn))]
    simp only [h, decide_false]
    rfl
/- the map -/
def MapIs (W : World) (b n : Nat) (Q : List M6) : Prop := W.ownsMap Tryz.prog 115 (plainElem (H := Unit) Tryz.prog 4) b n (dataM Q)
theorem MapIs.kept {W W' : World} {b n : Nat} {Q : List M6} {row : Option Nat} (h : MapIs W b n Q) (hg : W.grownBy W' row) (hne : some b ≠ row) : MapIs W' b n Q := World.ownsMap.kept h hg hne
theorem MapIs.alloc {W : World} {b n : Nat} {Q : List M6} (h : MapIs W b n Q) (o : Obj) : MapIs (W.alloc o) b n Q := World.ownsMap.alloc h o
theorem MapIs.drew {W : World} {b n : Nat} {Q : List M6} (h : MapIs W b n Q) : MapIs W.drew b n Q := h
theorem MapIs.lt {W : World} {b n : Nat} {Q : List M6} (h : MapIs W b n Q) : b < W.heap.size := World.ownsMap.lt h
theorem MapIs.mono {W : World} {b n n' : Nat} {Q : List M6} (h : MapIs W b n Q) (hn : n ≤ n') : MapIs W b n' Q := World.ownsMap.mono h hn
theorem MapIs.call {W W' : World} {b n : Nat} {Q : List M6} (h : MapIs W b n Q) (hb : Below W.heap.size W W') : MapIs W' b n Q := by
  have hlt := h.lt
  obtain ⟨es, clock, hb', F, hs, hD⟩ := h
  exact ⟨es, clock, (hb.block b hlt).trans hb', F, hs, hD⟩
theorem MapIs.put {W : World} {b n : Nat} {Q : List M6} {p : Addr} {u : Value} (hp : b ≠ p.block) (h : MapIs W b n Q) : MapIs (W.setCell p u) b n Q := World.ownsMap.setCell h hp u
set_option maxRecDepth 100000 in
theorem zeroB (w : World) : (zeroValue 4).run Tryz.prog w = .ok (.bool false) w := by kernel_rfl
set_option maxRecDepth 100000 in
theorem plain_bool_inv {v : Value} {d : DataW Unit} {ps : List MemPlace} (h : plainElem (H := Unit) Tryz.prog 4 v = some (d, ps)) : ∃ x, v = .bool x ∧ d = .lit (.bool x) := by
  unfold plainElem at h
  rw [Tryz.underlying4] at h
  cases v <;> simp at h
  exact ⟨_, rfl, h.1.symm⟩
set_option maxRecDepth 100000 in
theorem MapIs.look {W : World} {b n : Nat} {Q : List M6} {m : M6} (h : MapIs W b n Q) (hQ : ∀ n ∈ Q, smM n) (hm : smM m) : (Instr.lookup 180 (.map (some b)) (encM m) false).run Tryz.prog W = .ok (.bool (decide (m ∈ Q))) W := by
  obtain ⟨v, ps, hrun, hv⟩ := World.ownsMap.lookup h lawKey Tryz.underlying180 (zeroB W) (plainElem_bool Tryz.underlying4 false) (kl_eq hm)
  obtain ⟨x, rfl, hx⟩ := plain_bool_inv hv
  rw [atKey_data hQ hm] at hx
  simp at hx
  rw [hrun, hx]
set_option maxRecDepth 100000 in
theorem MapIs.store {W : World} {b n : Nat} {Q : List M6} {m : M6} (h : MapIs W b n Q) (hm : smM m) (hn : n < maxLen) : ∃ W', (Instr.mapUpdate 180 (.map (some b)) (encM m) (.bool true)).run Tryz.prog W = .ok () W' ∧ MapIs W' b (n + 1) (Q ++ [m]) ∧ W.grownBy W' (some b) := by
  obtain ⟨W', hrun, hown, hg⟩ := World.ownsMap.update h lawKey Tryz.underlying180 hn (kl_eq hm) (plainElem_bool Tryz.underlying4 true)
  refine ⟨W', hrun, ?_, hg⟩
  unfold MapIs dataM
  rw [List.map_append, List.map_cons, List.map_nil, setOf_snoc]
  exact hown
theorem wpList_look6 {w : World} {ops : Array Oper} {rest : List Oper} {o : Oper} {a : Act} {Qx : Exit → Act → World → Prop}
    (hg : o.guard = none) (mo x : Operand) (hop : o.op = Op.lookup 180 mo x false) (b n : Nat) (Q : List M6) (m : M6)
    (hm : a.eval mo = .map (some b)) (hx : a.eval x = encM m) (h : MapIs w b n Q) (hQ : ∀ n ∈ Q, smM n) (hs : smM m) (r : Bool) (hr : decide (m ∈ Q) = r)
    (hK : wpList Tryz.prog ops Qx rest (a.put o.dst (.bool r)) w) : wpList Tryz.prog ops Qx (o :: rest) a w := by
  refine wpList_plain hg fun K' hK' => ?_
  unfold Oper.wp
  have hl := h.look hQ hs
  rw [hr] at hl
  simp [execOp, hop, hm, hx, hl, Result.andThen]
  exact hK' _ _ hK
theorem wpList_store6 {w : World} {ops : Array Oper} {rest : List Oper} {o : Oper} {a : Act} {Qx : Exit → Act → World → Prop}
    (hg : o.guard = none) (mo x v : Operand) (hop : o.op = Op.mapUpdate 180 mo x v) (b n : Nat) (Q : List M6) (m : M6)
    (hm : a.eval mo = .map (some b)) (hx : a.eval x = encM m) (hv : a.eval v = .bool true) (h : MapIs w b n Q) (hs : smM m) (hn : n < maxLen)
    (hK : ∀ w', MapIs w' b (n + 1) (Q ++ [m]) → w.grownBy w' (some b) → wpList Tryz.prog ops Qx rest (a.put o.dst undef) w') : wpList Tryz.prog ops Qx (o :: rest) a w := by
  refine wpList_plain hg fun K' hK' => ?_
  obtain ⟨w', hrun, r1, r2⟩ := h.store hs hn
  unfold Oper.wp
  simp [execOp, hop, hm, hx, hv, hrun, Result.andThen]
  exact hK' _ _ (hK w' r1 r2)
theorem wpList_insert6 {w : World} {ops : Array Oper} {rest : List Oper} {o : Oper} {a : Act} {Qx : Exit → Act → World → Prop}
    (hg : o.guard = none) (mo x v : Operand) (hop : o.op = Op.insert 180 mo x v) (b n : Nat) (Q : List M6) (m : M6)
    (hm : a.eval mo = .map (some b)) (hx : a.eval x = encM m) (hv : a.eval v = .bool true) (h : MapIs w b n Q) (hs : smM m) (hn : n < maxLen)
    (hK : ∀ w', MapIs w' b (n + 1) (Q ++ [m]) → w.grownBy w' (some b) → wpList Tryz.prog ops Qx rest (a.put o.dst undef) w') : wpList Tryz.prog ops Qx (o :: rest) a w := by
  refine wpList_plain hg fun K' hK' => ?_
  obtain ⟨w', hrun, r1, r2⟩ := h.store hs hn
  unfold Oper.wp
  simp [execOp, hop, hm, hx, hv, hrun, Result.andThen]
  exact hK' _ _ (hK w' r1 r2)
theorem MapIs.made (w : World) : MapIs (w.alloc (.map #[] 0)) w.heap.size 0 [] := World.ownsMap_made w _ _ _
end
end Go.Proofs.YtmadgbbkkkibcaaGreatDoor

namespace Go.Proofs.YtmadgbbkkkibcaaGreatDoor
section
set_option linter.unusedVariables false
set_option linter.unusedSimpArgs false

theorem has_yes {L : List M6} {m : M6} (hU : Up L) (h : plM L m < L.length) : decide (L[plM L m] = m) = decide (m ∈ L) := by
  rw [decide_eq_decide]
  exact ⟨fun e => by rw [← e]; exact List.getElem_mem h, fun hm => (plM_at hU hm).2⟩
theorem has_no {L : List M6} {m : M6} (hU : Up L) (h : ¬ plM L m < L.length) : decide (m ∈ L) = false := decide_eq_false fun hm => h (plM_at hU hm).1
/- the model's test of a group -/
structure Chk (f A B C : Int) (L : List M6) (k : Nat) : Prop where
  ok : ∀ m ∈ L.take k, okM f A B C m = true ∧ redM A B C m = m
  up : Up (L.take k)
theorem Chk.start (f A B C : Int) (L : List M6) : Chk f A B C L 0 := ⟨by simp, by simp [Up]⟩
theorem Chk.next {f A B C : Int} {L : List M6} {k : Nat} (h : Chk f A B C L k) (hk : k < L.length) (ho : okM f A B C L[k] = true) (hr : redM A B C L[k] = L[k]) (hu : ∀ (h0 : 0 < k), ltM (L[k - 1]'(by omega)) L[k] = true) : Chk f A B C L (k + 1) := by
  refine ⟨?_, ?_⟩
  · intro m hm
    rw [List.take_succ_eq_append_getElem hk] at hm
    rcases List.mem_append.1 hm with hm | hm
    · exact h.ok m hm
    · simp at hm; subst hm; exact ⟨ho, hr⟩
  · rw [List.take_succ_eq_append_getElem hk]
    refine List.pairwise_append.2 ⟨h.up, List.pairwise_singleton _ _, fun a ha b hb => ?_⟩
    simp at hb; subst hb
    obtain ⟨j, hj, rfl⟩ := List.mem_iff_getElem.1 ha
    have hj2 : j < k ∧ j < L.length := by rw [List.length_take] at hj; omega
    rw [List.getElem_take]
    by_cases e : j = k - 1
    · subst e; exact hu (by omega)
    · have h1 := List.pairwise_iff_getElem.1 h.up j (k - 1) hj (by rw [List.length_take]; omega) (by omega)
      rw [List.getElem_take, List.getElem_take] at h1
      exact ltM_trans h1 (hu (by omega))
theorem chk_ok {f A B C : Int} {L : List M6} {k : Nat} (hk : k < L.length) (h : okM f A B C L[k] = false) : grpB f A B C L = false := grp_bad (List.getElem_mem hk) h
theorem chk_red {f A B C : Int} {L : List M6} {k : Nat} (hk : k < L.length) (h : ¬ redM A B C L[k] = L[k]) : grpB f A B C L = false := by
  rcases hg : grpB f A B C L with _ | _
  · rfl
  · exact absurd ((grp_ok hg).2.1 _ (List.getElem_mem hk)).2 h
theorem chk_up {f A B C : Int} {L : List M6} {k : Nat} (hk : k < L.length) (h0 : 0 < k) (h : ltM (L[k - 1]'(by omega)) L[k] = false) : grpB f A B C L = false := by
  rcases hg : grpB f A B C L with _ | _
  · rfl
  · have := List.pairwise_iff_getElem.1 (grp_ok hg).2.2 (k - 1) k (by omega) hk (by omega)
    rw [h] at this; cases this
theorem grp_mem {f A B C : Int} {L : List M6} (h : grpB f A B C L = true) : oneM ∈ L ∧ ∀ m ∈ L, ∀ n ∈ L, mulM A B C m n ∈ L := by
  unfold grpB at h
  simp only [Bool.and_eq_true, decide_eq_true_eq, List.all_eq_true, List.contains_iff_mem, beq_iff_eq] at h
  exact ⟨h.2.2.2.1, h.2.2.2.2⟩
theorem chk_one {f A B C : Int} {L : List M6} (h : decide (oneM ∈ L) = false) : grpB f A B C L = false := by
  rcases hg : grpB f A B C L with _ | _
  · rfl
  · exact absurd (grp_mem hg).1 (of_decide_eq_false h)
theorem chk_mul {f A B C : Int} {L : List M6} {i k : Nat} (hi : i < L.length) (hk : k < L.length) (h : decide (mulM A B C L[i] L[k] ∈ L) = false) : grpB f A B C L = false := by
  rcases hg : grpB f A B C L with _ | _
  · rfl
  · exact absurd ((grp_mem hg).2 _ (List.getElem_mem hi) _ (List.getElem_mem hk)) (of_decide_eq_false h)
structure Muls (A B C : Int) (L : List M6) (i k : Nat) : Prop where
  done : ∀ (j : Nat) (hj : j < L.length), j < i → ∀ n ∈ L, mulM A B C L[j] n ∈ L
  part : ∀ (hi : i < L.length), ∀ n ∈ L.take k, mulM A B C L[i] n ∈ L
theorem Muls.start (A B C : Int) (L : List M6) : Muls A B C L 0 0 := ⟨fun j _ h => absurd h (by omega), fun _ n hn => by simp at hn⟩
theorem Muls.step {A B C : Int} {L : List M6} {i k : Nat} (h : Muls A B C L i k) (hi : i < L.length) (hk : k < L.length) (hm : decide (mulM A B C L[i] L[k] ∈ L) = true) : Muls A B C L i (k + 1) :=
  ⟨h.done, fun hi n hn => by
    rw [List.take_succ_eq_append_getElem hk] at hn
    rcases List.mem_append.1 hn with hn | hn
    · exact h.part hi n hn
    · simp at hn; subst hn; exact of_decide_eq_true hm⟩
theorem Muls.next {A B C : Int} {L : List M6} {i : Nat} (h : Muls A B C L i L.length) : Muls A B C L (i + 1) 0 :=
  ⟨fun j hj hji n hn => by
    by_cases e : j = i
    · subst e; exact h.part hj n (by rw [List.take_length]; exact hn)
    · exact h.done j hj (by omega) n hn, fun _ n hn => by simp at hn⟩
theorem chk_all {f A B C : Int} {L : List M6} {k : Nat} (hfl : flB f A B C = true) (h : Chk f A B C L L.length) (h1 : decide (oneM ∈ L) = true) (hm : Muls A B C L L.length k) : grpB f A B C L = true := by
  have ho := h.ok
  have hu := h.up
  rw [List.take_length] at ho hu
  unfold grpB
  simp only [Bool.and_eq_true, decide_eq_true_eq, List.all_eq_true, List.contains_iff_mem, beq_iff_eq]
  refine ⟨hfl, ho, hu, of_decide_eq_true h1, fun m hm' n hn => ?_⟩
  obtain ⟨j, hj, rfl⟩ := List.mem_iff_getElem.1 hm'
  exact hm.done j hj hj n hn
/- insertion -/
theorem put_old {L : List M6} {m : M6} (hU : Up L) (h : decide (m ∈ L) = true) : putM L m = L := by simp [putM, of_decide_eq_true h]
theorem put_new {L : List M6} {m : M6} (hU : Up L) (h : decide (m ∈ L) = false) : putM L m = L.take (plM L m) ++ [m] ++ L.drop (plM L m) := by
  have := of_decide_eq_false h
  simp [putM, this, insM]
theorem cells6_take (L : List M6) (n j : Nat) (u : Value) (h : (cells6 (L.take n))[j]? = some u) : (cells6 L)[j]? = some u := by
  have e : cells6 L = cells6 (L.take n) ++ cells6 (L.drop n) := by rw [← cells6_app, List.take_append_drop]
  have hj : j < (cells6 (L.take n)).length := (List.getElem?_eq_some_iff.1 h).1
  rw [e, List.getElem?_append_left hj]; exact h
theorem cells6_drop (L : List M6) (n j : Nat) (u : Value) (hn : n ≤ L.length) (h : (cells6 (L.drop n))[j]? = some u) : (cells6 L)[n * 6 + j]? = some u := by
  have e : cells6 L = cells6 (L.take n) ++ cells6 (L.drop n) := by rw [← cells6_app, List.take_append_drop]
  have hl : (cells6 (L.take n)).length = n * 6 := by rw [cells6_len, List.length_take]; congr 1; omega
  rw [e, List.getElem?_append_right (by omega), hl]
  rw [show n * 6 + j - n * 6 = j by omega]; exact h
theorem cells6_one (L : List M6) : ∀ u ∈ cells6 L, u.oneCell' = true := by
  intro u hu
  obtain ⟨z, rfl⟩ := cells6_int L u hu
  rfl
end
end Go.Proofs.YtmadgbbkkkibcaaGreatDoor

namespace Go.Proofs.YtmadgbbkkkibcaaGreatDoor
section
set_option linter.unusedVariables false
set_option linter.unusedSimpArgs false

theorem all_not {f A B C : Int} {xs : List M6} (h : allOk f A B C xs = false) : grpB f A B C xs = false := by
  unfold allOk at h
  rw [List.all_eq_false] at h
  obtain ⟨m, hm, hb⟩ := h
  exact grp_bad hm (by simpa using hb)
theorem all_good {f A B C : Int} {xs : List M6} (h : allOk f A B C xs = true) : GoodR f A B C (xs.map (redM A B C)) := by
  unfold allOk at h
  rw [List.all_eq_true] at h
  intro r hr
  obtain ⟨m, hm, rfl⟩ := List.mem_map.1 hr
  have hk := okM_iff.1 (h m hm)
  simp only [flB, Bool.and_eq_true] at hk
  exact ⟨hk.2.1, redM_redM (latB_iff.1 hk.1.2) m⟩
theorem flB_parts {f A B C : Int} (h : flB f A B C = true) : frB f = true ∧ latI A B C := by
  simp only [flB, Bool.and_eq_true] at h
  exact ⟨h.1, latB_iff.1 h.2⟩
theorem clos_pos {A B C : Int} {R L : List M6} (h : IsClos A B C R L) : 0 < L.length := List.length_pos_of_mem ((h.2 _).2 (reach_one A B C R))
end
end Go.Proofs.YtmadgbbkkkibcaaGreatDoor

namespace Go.Proofs.YtmadgbbkkkibcaaGreatDoor
section
open Go.RowKit
set_option linter.unusedSimpArgs false
set_option linter.unusedVariables false

attribute [local go_sem ↓] eqMa6
theorem l02NumE_any (a b c d : Int) (w : World) :
    Calls Tryz.prog 216 #[.agg #[.int .i64 a, .int .i64 b, .int .i64 c, .int .i64 d]] w fun e w' => ∃ g : Nat, e = .returned (.slice (some ⟨g, 0, none⟩) 4 4) ∧ Kq g a b c d w' ∧ Below w.heap.size w w' :=
  (l02Num6_any a b c d w).mono fun e w' h => ⟨_, h⟩
set_option maxRecDepth 100000 in
set_option maxHeartbeats 4000000 in
theorem l02Less_any (a b c d a' b' c' d' : Int) (w : World) :
    Calls Tryz.prog 181 #[.agg #[.int .i64 a, .int .i64 b, .int .i64 c, .int .i64 d], .agg #[.int .i64 a', .int .i64 b', .int .i64 c', .int .i64 d']] w fun e w' => e = .returned (.bool (lex4 a b c d a' b' c' d')) ∧ Below w.heap.size w w' := by
  have CL := Lib.hid (fun g g' W h h' => lessList_any g g' a b c d a' b' c' d' W h h')
  generalize lex4 a b c d a' b' c' d' = r at CL ⊢
  have M0 : Kq (w.heap.size) a b c d ((w.alloc (.cells #[.int .i64 a, .int .i64 b, .int .i64 c, .int .i64 d] 32)).alloc (.cells #[.int .i64 a', .int .i64 b', .int .i64 c', .int .i64 d'] 32)) := ((Kq.at (w.heap.size) rfl).alloc _)
  have N0 : Kq (w.heap.size + 1) a' b' c' d' ((w.alloc (.cells #[.int .i64 a, .int .i64 b, .int .i64 c, .int .i64 d] 32)).alloc (.cells #[.int .i64 a', .int .i64 b', .int .i64 c', .int .i64 d'] 32)) := (Kq.at (w.heap.size + 1) (by simp))
  have B0 : Below w.heap.size w ((w.alloc (.cells #[.int .i64 a, .int .i64 b, .int .i64 c, .int .i64 d] 32)).alloc (.cells #[.int .i64 a', .int .i64 b', .int .i64 c', .int .i64 d'] 32)) := (Below.alloc (Below.alloc (Below.refl _ _) (by first | with_reducible exact Nat.le_refl _ | (simp <;> omega)) _) (by first | with_reducible exact Nat.le_refl _ | (simp <;> omega)) _)
  go_enter Tryz.func181, Tryz.ntmps181
  go_wp2_with fail
  refine wp_region_held_drew (S := (fun W => (W.cell? ⟨w.heap.size, 0, none⟩ = some (.int .i64 a) ∧ W.cell? ⟨w.heap.size, 1, none⟩ = some (.int .i64 b) ∧ W.cell? ⟨w.heap.size, 2, none⟩ = some (.int .i64 c) ∧ W.cell? ⟨w.heap.size, 3, none⟩ = some (.int .i64 d)) ∧ (W.cell? ⟨w.heap.size + 1, 0, none⟩ = some (.int .i64 a') ∧ W.cell? ⟨w.heap.size + 1, 1, none⟩ = some (.int .i64 b') ∧ W.cell? ⟨w.heap.size + 1, 2, none⟩ = some (.int .i64 c') ∧ W.cell? ⟨w.heap.size + 1, 3, none⟩ = some (.int .i64 d')))) (by kernel_rfl) ?_ (fun hHeld => ?_)
  · exact ⟨M0.cells, N0.cells⟩
  refine wpAnyH_take (i := 0) (v := ?_) (by (simp only [List.getElem?_toArray, List.getElem?_cons_succ, List.getElem?_cons_zero]); rfl) (by kernel_rfl) (by kernel_rfl) (by kernel_rfl) (by exact fun _ _ _ h => h) (Or.inl ⟨by rfl, ?_⟩) (by assumption) ?_
  rotate_left 1
  · (intro w hSw; (try dsimp only at hSw); go_simp) <;> with_reducible rfl
  (try simp only [Act.put, List.setIfInBounds_toArray, List.set_cons_zero, List.set_cons_succ])
  refine wpAnyH_take (i := 2) (v := ?_) (by (simp only [List.getElem?_toArray, List.getElem?_cons_succ, List.getElem?_cons_zero]); rfl) (by kernel_rfl) (by kernel_rfl) (by kernel_rfl) (by exact fun _ _ _ h => h) (Or.inl ⟨by rfl, ?_⟩) (by assumption) ?_
  rotate_left 1
  · (intro w hSw; (try dsimp only at hSw); go_simp) <;> with_reducible rfl
  (try simp only [Act.put, List.setIfInBounds_toArray, List.set_cons_zero, List.set_cons_succ])
  refine wpAnyH_ready (rs := [1]) (by kernel_rfl) (by simp) ?_
  refine AllReadyH.cons (o := _) (by (simp only [List.getElem?_toArray, List.getElem?_cons_succ, List.getElem?_cons_zero]); rfl) (fun K hK => ?_) AllReadyH.nil
  go_simp
  go_at_call 216
  refine (l02NumE_any a b c d _).mono ?_
  rintro e u1 ⟨g1, rfl, hq1, hb1⟩
  have M1 : Kq (w.heap.size) a b c d u1 := (by repeat (first | with_reducible assumption | with_reducible refine Kq.drew ?_ | with_reducible refine Kq.alloc ?_ _ | with_reducible refine Kq.call ?_ (by with_reducible assumption)))
  have N1 : Kq (w.heap.size + 1) a' b' c' d' u1 := (by repeat (first | with_reducible assumption | with_reducible refine Kq.drew ?_ | with_reducible refine Kq.alloc ?_ _ | with_reducible refine Kq.call ?_ (by with_reducible assumption)))
  have B1 : Below w.heap.size w u1 := (by repeat (first | with_reducible assumption | with_reducible refine Below.drew ?_ | with_reducible refine bstep ?_ (by with_reducible assumption)))
  clear hb1
  go_wp2_with fail
  refine hK.out _ _ ?_ (fun hHeld => ?_)
  · (try dsimp only)
    exact ⟨M1.cells, N1.cells⟩
  clear hK K
  (try simp only [Act.put, List.setIfInBounds_toArray, List.set_cons_zero, List.set_cons_succ])
  refine wpAnyH_ready (rs := [3]) (by kernel_rfl) (by simp) ?_
  refine AllReadyH.cons (o := _) (by (simp only [List.getElem?_toArray, List.getElem?_cons_succ, List.getElem?_cons_zero]); rfl) (fun K hK => ?_) AllReadyH.nil
  go_simp
  go_at_call 216
  refine (l02NumE_any a' b' c' d' _).mono ?_
  rintro e u2 ⟨g2, rfl, hq2, hb2⟩
  have M2 : Kq (w.heap.size) a b c d u2 := (by repeat (first | with_reducible assumption | with_reducible refine Kq.drew ?_ | with_reducible refine Kq.alloc ?_ _ | with_reducible refine Kq.call ?_ (by with_reducible assumption)))
  have N2 : Kq (w.heap.size + 1) a' b' c' d' u2 := (by repeat (first | with_reducible assumption | with_reducible refine Kq.drew ?_ | with_reducible refine Kq.alloc ?_ _ | with_reducible refine Kq.call ?_ (by with_reducible assumption)))
  have B2 : Below w.heap.size w u2 := (by repeat (first | with_reducible assumption | with_reducible refine Below.drew ?_ | with_reducible refine bstep ?_ (by with_reducible assumption)))
  have hq12 := hq1.call hb2
  clear hb2
  go_wp2_with fail
  refine hK.out _ _ ?_ (fun hHeld => ?_)
  · (try dsimp only)
    exact ⟨M2.cells, N2.cells⟩
  clear hK K
  (try simp only [Act.put, List.setIfInBounds_toArray, List.set_cons_zero, List.set_cons_succ])
  refine wpAnyH_ready (rs := [4]) (by kernel_rfl) (by simp) ?_
  refine AllReadyH.cons (o := _) (by (simp only [List.getElem?_toArray, List.getElem?_cons_succ, List.getElem?_cons_zero]); rfl) (fun K hK => ?_) AllReadyH.nil
  go_simp
  go_at_call 215
  refine (CL.out _ _ _ hq12 hq2).mono ?_
  rintro e u3 ⟨rfl, hb3⟩
  have M3 : Kq (w.heap.size) a b c d u3 := (by repeat (first | with_reducible assumption | with_reducible refine Kq.drew ?_ | with_reducible refine Kq.alloc ?_ _ | with_reducible refine Kq.call ?_ (by with_reducible assumption)))
  have N3 : Kq (w.heap.size + 1) a' b' c' d' u3 := (by repeat (first | with_reducible assumption | with_reducible refine Kq.drew ?_ | with_reducible refine Kq.alloc ?_ _ | with_reducible refine Kq.call ?_ (by with_reducible assumption)))
  have B3 : Below w.heap.size w u3 := (by repeat (first | with_reducible assumption | with_reducible refine Below.drew ?_ | with_reducible refine bstep ?_ (by with_reducible assumption)))
  clear hb3
  go_wp2_with fail
  refine hK.out _ _ ?_ (fun hHeld => ?_)
  · (try dsimp only)
    exact ⟨M3.cells, N3.cells⟩
  clear hK K
  (try simp only [Act.put, List.setIfInBounds_toArray, List.set_cons_zero, List.set_cons_succ])
  refine wpAnyH_take (i := 5) (v := ?_) (by (simp only [List.getElem?_toArray, List.getElem?_cons_succ, List.getElem?_cons_zero]); rfl) (by kernel_rfl) (by kernel_rfl) (by kernel_rfl) (by exact fun _ _ _ h => h) (Or.inl ⟨by rfl, ?_⟩) (by assumption) ?_
  rotate_left 1
  · (intro w hSw; (try dsimp only at hSw); go_simp) <;> with_reducible rfl
  (try simp only [Act.put, List.setIfInBounds_toArray, List.set_cons_zero, List.set_cons_succ])
  refine wpAnyH_done (by kernel_rfl) ?_ _
  go_wp2
  go_ret
  exact ⟨rfl, by repeat (first | with_reducible assumption | with_reducible exact Below.refl _ _ | with_reducible refine Below.setCell ?_ (by first | omega | (simp <;> omega)) _ | with_reducible refine Below.alloc ?_ (by first | omega | (simp <;> omega)) _ | with_reducible refine bstep ?_ (by with_reducible assumption) | with_reducible refine Below.drew ?_)⟩
set_option maxRecDepth 100000 in
set_option maxHeartbeats 4000000 in
theorem l05Less_any (a b c d x y a' b' c' d' x' y' : Int) (w : World) :
    Calls Tryz.prog 110 #[.agg #[.int .i64 a, .int .i64 b, .int .i64 c, .int .i64 d, .int .i64 x, .int .i64 y], .agg #[.int .i64 a', .int .i64 b', .int .i64 c', .int .i64 d', .int .i64 x', .int .i64 y']] w fun e w' => e = .returned (.bool (ltM (a, b, c, d, x, y) (a', b', c', d', x', y'))) ∧ Below w.heap.size w w' := by
  rcases he : eqT4 a b c d a' b' c' d' with _ | _
  · have hx := he
    have EA := Lib.hid (lt_no (x := x) (y := y) (x' := x') (y' := y') he)
    have M0 : Km (w.heap.size) a b c d x y ((w.alloc (.cells #[.int .i64 a, .int .i64 b, .int .i64 c, .int .i64 d, .int .i64 x, .int .i64 y] 36)).alloc (.cells #[.int .i64 a', .int .i64 b', .int .i64 c', .int .i64 d', .int .i64 x', .int .i64 y'] 36)) := ((Km.at (w.heap.size) rfl).alloc _)
    have N0 : Km (w.heap.size + 1) a' b' c' d' x' y' ((w.alloc (.cells #[.int .i64 a, .int .i64 b, .int .i64 c, .int .i64 d, .int .i64 x, .int .i64 y] 36)).alloc (.cells #[.int .i64 a', .int .i64 b', .int .i64 c', .int .i64 d', .int .i64 x', .int .i64 y'] 36)) := (Km.at (w.heap.size + 1) (by simp))
    have B0 : Below w.heap.size w ((w.alloc (.cells #[.int .i64 a, .int .i64 b, .int .i64 c, .int .i64 d, .int .i64 x, .int .i64 y] 36)).alloc (.cells #[.int .i64 a', .int .i64 b', .int .i64 c', .int .i64 d', .int .i64 x', .int .i64 y'] 36)) := (Below.alloc (Below.alloc (Below.refl _ _) (by first | with_reducible exact Nat.le_refl _ | (simp <;> omega)) _) (by first | with_reducible exact Nat.le_refl _ | (simp <;> omega)) _)
    go_enter Tryz.func110, Tryz.ntmps110
    have M0c0 := M0.c0
    have M0c1 := M0.c1
    have M0c2 := M0.c2
    have M0c3 := M0.c3
    have M0c4 := M0.c4
    have M0c5 := M0.c5
    have M0l := M0.1
    have N0c0 := N0.c0
    have N0c1 := N0.c1
    have N0c2 := N0.c2
    have N0c3 := N0.c3
    have N0c4 := N0.c4
    have N0c5 := N0.c5
    have N0l := N0.1
    go_wp2_with fail
    refine (l02Less_any _ _ _ _ _ _ _ _ _).mono ?_
    rintro e w1 ⟨rfl, hb1⟩
    have M1 : Km (w.heap.size) a b c d x y w1 := Km.call M0 hb1
    have N1 : Km (w.heap.size + 1) a' b' c' d' x' y' w1 := Km.call N0 hb1
    have B1 : Below w.heap.size w w1 := bstep B0 hb1
    clear hb1 B0 M0 N0
    go_wp2
    go_ret
    refine ⟨ret_bool EA.out, ?_⟩
    repeat (first | with_reducible assumption | with_reducible exact Below.refl _ _ | with_reducible refine Below.setCell ?_ (by first | omega | (simp <;> omega)) _ | with_reducible refine Below.alloc ?_ (by first | omega | (simp <;> omega)) _ | with_reducible refine bstep ?_ (by with_reducible assumption) | with_reducible refine Below.drew ?_)
  · have hx := he
    have EA := Lib.hid (lt_yes (x := x) (y := y) (x' := x') (y' := y') he)
    have M0 : Km (w.heap.size) a b c d x y ((w.alloc (.cells #[.int .i64 a, .int .i64 b, .int .i64 c, .int .i64 d, .int .i64 x, .int .i64 y] 36)).alloc (.cells #[.int .i64 a', .int .i64 b', .int .i64 c', .int .i64 d', .int .i64 x', .int .i64 y'] 36)) := ((Km.at (w.heap.size) rfl).alloc _)
    have N0 : Km (w.heap.size + 1) a' b' c' d' x' y' ((w.alloc (.cells #[.int .i64 a, .int .i64 b, .int .i64 c, .int .i64 d, .int .i64 x, .int .i64 y] 36)).alloc (.cells #[.int .i64 a', .int .i64 b', .int .i64 c', .int .i64 d', .int .i64 x', .int .i64 y'] 36)) := (Km.at (w.heap.size + 1) (by simp))
    have B0 : Below w.heap.size w ((w.alloc (.cells #[.int .i64 a, .int .i64 b, .int .i64 c, .int .i64 d, .int .i64 x, .int .i64 y] 36)).alloc (.cells #[.int .i64 a', .int .i64 b', .int .i64 c', .int .i64 d', .int .i64 x', .int .i64 y'] 36)) := (Below.alloc (Below.alloc (Below.refl _ _) (by first | with_reducible exact Nat.le_refl _ | (simp <;> omega)) _) (by first | with_reducible exact Nat.le_refl _ | (simp <;> omega)) _)
    go_enter Tryz.func110, Tryz.ntmps110
    have M0c0 := M0.c0
    have M0c1 := M0.c1
    have M0c2 := M0.c2
    have M0c3 := M0.c3
    have M0c4 := M0.c4
    have M0c5 := M0.c5
    have M0l := M0.1
    have N0c0 := N0.c0
    have N0c1 := N0.c1
    have N0c2 := N0.c2
    have N0c3 := N0.c3
    have N0c4 := N0.c4
    have N0c5 := N0.c5
    have N0l := N0.1
    go_wp2_with fail
    refine (lex2_any _ _ _ _ _).mono ?_
    rintro e w1 ⟨rfl, hb1⟩
    have M1 : Km (w.heap.size) a b c d x y w1 := Km.call M0 hb1
    have N1 : Km (w.heap.size + 1) a' b' c' d' x' y' w1 := Km.call N0 hb1
    have B1 : Below w.heap.size w w1 := bstep B0 hb1
    clear hb1 B0 M0 N0
    go_wp2
    go_ret
    refine ⟨ret_bool EA.out, ?_⟩
    repeat (first | with_reducible assumption | with_reducible exact Below.refl _ _ | with_reducible refine Below.setCell ?_ (by first | omega | (simp <;> omega)) _ | with_reducible refine Below.alloc ?_ (by first | omega | (simp <;> omega)) _ | with_reducible refine bstep ?_ (by with_reducible assumption) | with_reducible refine Below.drew ?_)
end
end Go.Proofs.YtmadgbbkkkibcaaGreatDoor

namespace Go.Proofs.YtmadgbbkkkibcaaGreatDoor
section
open Go.RowKit Go.Maps
set_option linter.unusedSimpArgs false
set_option linter.unusedVariables false

theorem good_sm {f A B C : Int} (hf : frB f = true) (hl : latI A B C) {m : M6} (h : suiQ f A B C m ∧ redM A B C m = m) : smM m ∧ (((-1 ≤ m.1 ∧ m.1 ≤ 1) ∧ (-1 ≤ m.2.1 ∧ m.2.1 ≤ 1)) ∧ ((-1 ≤ m.2.2.1 ∧ m.2.2.1 ≤ 1) ∧ (-1 ≤ m.2.2.2.1 ∧ m.2.2.2.1 ≤ 1))) ∧ ((0 ≤ m.2.2.2.2.1 ∧ m.2.2.2.2.1 ≤ 64) ∧ (0 ≤ m.2.2.2.2.2 ∧ m.2.2.2.2.2 ≤ 64)) := by
  have h1 := keep_small hf h.1.1
  have h2 := redM_bd hl m
  rw [h.2] at h2
  obtain ⟨b1, b2⟩ := latI_bd hl
  refine ⟨?_, h1, by omega⟩
  unfold smM midZ
  omega
theorem cmp_facts {f A B C : Int} (hf : frB f = true) (hl : latI A B C) {m n : M6} (hm : suiQ f A B C m ∧ redM A B C m = m) (hn : suiQ f A B C n ∧ redM A B C n = n) :
    limB m.1 m.2.1 m.2.2.1 m.2.2.2.1 = true ∧ vecB m.2.2.2.2.1 m.2.2.2.2.2 = true ∧ limB n.1 n.2.1 n.2.2.1 n.2.2.2.1 = true ∧ vecB n.2.2.2.2.1 n.2.2.2.2.2 = true ∧ midI (cmpM m n).2.2.2.2.1 ∧ midI (cmpM m n).2.2.2.2.2 := by
  obtain ⟨_, m1, m2⟩ := good_sm hf hl hm
  obtain ⟨_, n1, n2⟩ := good_sm hf hl hn
  have a1 := small_mul m1.1.1 n2.1
  have a2 := small_mul m1.1.2 n2.2
  have a3 := small_mul m1.2.1 n2.1
  have a4 := small_mul m1.2.2 n2.2
  refine ⟨keep_lim hf hm.1.1, red_vec hl hm.2, keep_lim hf hn.1.1, red_vec hl hn.2, ?_, ?_⟩ <;> (unfold midI; simp only [cmpM, cmpI]; omega)
theorem one_sm : smM oneM := by unfold smM midZ oneM; simp
theorem row_start (w : World) (T : TypeId) : (w.alloc (.cells #[.int .i64 1, .int .i64 0, .int .i64 0, .int .i64 1, .int .i64 0, .int .i64 0] T)).ownsRow w.heap.size T 6 (.slice (some ⟨w.heap.size, 0, none⟩) 1 1) ([oneM] : List M6).length (cells6 [oneM]) :=
  World.ownsRow_lit w #[.int .i64 1, .int .i64 0, .int .i64 0, .int .i64 1, .int .i64 0, .int .i64 0] 1 (Nat.le_refl _) (by unfold maxLen; omega) rfl
/- a row of motions that the call owns, by its block -/
def KOw (g base cap : Nat) (T : TypeId) (Q : List M6) (W : World) : Prop := W.ownsRow base T 6 (.slice (some ⟨g, 0, none⟩) Q.length cap) Q.length (cells6 Q)
theorem KOw.call {g base cap : Nat} {T : TypeId} {Q : List M6} {W w1 : World} (h : KOw g base cap T Q W) (hb : Below W.heap.size W w1) : KOw g base cap T Q w1 := ownsRow_call h hb
theorem KOw.alloc {g base cap : Nat} {T : TypeId} {Q : List M6} {W : World} (h : KOw g base cap T Q W) (o : Obj) : KOw g base cap T Q (W.alloc o) := h.call ((Below.refl _ _).alloc (Nat.le_refl _) _)
theorem KOw.drew {g base cap : Nat} {T : TypeId} {Q : List M6} {W : World} (h : KOw g base cap T Q W) : KOw g base cap T Q W.drew := h.call (Below.refl _ _).drew
theorem KOw.lt {g base cap : Nat} {T : TypeId} {Q : List M6} {W : World} (h : KOw g base cap T Q W) : base ≤ g ∧ g < W.heap.size := World.ownsRow.lt h g rfl
theorem KOw.kept {g base cap : Nat} {T : TypeId} {Q : List M6} {W w1 : World} {row : Option Nat} (h : KOw g base cap T Q W) (hg : W.grownBy w1 row) (hne : some g ≠ row) : KOw g base cap T Q w1 := World.ownsRow.kept h hg (.inr (fun e => hne (by rw [← e]; rfl)))
theorem KOw.mo {g base cap : Nat} {T : TypeId} {Q : List M6} {W : World} (h : KOw g base cap T Q W) (hn : Q.length ≤ 1000000) (i : Nat) (hi : i < Q.length) : Ko6 g (i * 6) Q[i].1 Q[i].2.1 Q[i].2.2.1 Q[i].2.2.2.1 Q[i].2.2.2.2.1 Q[i].2.2.2.2.2 W := by
  have hs := SRow.of6 h hn
  obtain ⟨g', cap', e, _, _, r⟩ := hs.2.2.resolve_left (fun h => by omega)
  simp only [Value.slice.injEq, Option.some.injEq, Addr.mk.injEq, and_true, true_and] at e
  obtain ⟨rfl, _⟩ := e
  exact r.mo i hi
theorem KOw.of {base : Nat} {T : TypeId} {v : Value} {Q : List M6} {W : World} (h : W.ownsRow base T 6 v Q.length (cells6 Q)) (hn : 0 < Q.length) : ∃ g cap, v = .slice (some ⟨g, 0, none⟩) Q.length cap ∧ KOw g base cap T Q W := by
  rcases h.2 with ⟨_, h0⟩ | ⟨g, cap, cur, rfl, r⟩
  · omega
  · exact ⟨g, cap, rfl, h⟩
theorem KOw.put {g base cap : Nat} {T : TypeId} {Q : List M6} {W : World} {p : Addr} {u : Value} (hp : p.block ≠ g) (h : KOw g base cap T Q W) : KOw g base cap T Q (W.setCell p u) := by
  rcases h.2 with ⟨h0, _⟩ | ⟨g', cap', cur, he, r1, r2, r3⟩
  · simp at h0
  · simp only [Value.slice.injEq, Option.some.injEq, Addr.mk.injEq, and_true, true_and] at he
    obtain ⟨rfl, rfl⟩ := he
    exact ⟨h.1, .inr ⟨_, _, cur, rfl, r1, by rw [Below.heap_setCell _ _ _ _ (by omega)]; exact r2, r3⟩⟩
theorem km_lt {R : Nat} {a b c d x y : Int} {W : World} (h : Km R a b c d x y W) : R < W.heap.size := h.1
theorem ko_lt {g o : Nat} {a b c d x y : Int} {W : World} (h : Ko6 g o a b c d x y W) : g < W.heap.size := h.1
theorem kt_lt {R : Nat} {a b c : Int} {W : World} (h : Kt R a b c W) : R < W.heap.size := h.1
def KMp (b n : Nat) (Q : List M6) (W : World) : Prop := MapIs W b n Q
theorem kmp_lt {b n : Nat} {Q : List M6} {W : World} (h : KMp b n Q W) : b < W.heap.size := MapIs.lt h
theorem KMp.call {b n : Nat} {Q : List M6} {W w1 : World} (h : KMp b n Q W) (hb : Below W.heap.size W w1) : KMp b n Q w1 := MapIs.call h hb
theorem KMp.alloc {b n : Nat} {Q : List M6} {W : World} (h : KMp b n Q W) (o : Obj) : KMp b n Q (W.alloc o) := MapIs.alloc h o
theorem KMp.drew {b n : Nat} {Q : List M6} {W : World} (h : KMp b n Q W) : KMp b n Q W.drew := h
theorem km_ne_map {g b n : Nat} {Q : List M6} {a₁ b₁ c₁ d₁ x₁ y₁ : Int} {W : World} (h : KM g a₁ b₁ c₁ d₁ x₁ y₁ W) (hm : KMp b n Q W) : g ≠ b := by
  rintro rfl
  obtain ⟨es, clock, hb, _⟩ := hm
  have := h.c0
  simp [World.cell?, hb] at this
theorem KMp.put {b n : Nat} {Q : List M6} {W : World} {p : Addr} {u : Value} (hp : p.block ≠ b) (h : KMp b n Q W) : KMp b n Q (W.setCell p u) := MapIs.put (fun e => hp e.symm) h
theorem KOw.ne_map {g base cap b n : Nat} {T : TypeId} {Q Q' : List M6} {W : World} (h : KOw g base cap T Q W) (hm : KMp b n Q' W) : g ≠ b := by
  rintro rfl
  obtain ⟨es, clock, hb, _⟩ := hm
  rcases h.2 with ⟨h0, _⟩ | ⟨g', cap', cur, he, _, hc, _⟩
  · simp at h0
  · simp only [Value.slice.injEq, Option.some.injEq, Addr.mk.injEq, and_true, true_and] at he
    obtain ⟨rfl, _⟩ := he
    rw [hb] at hc; cases hc
def ProdPost (A B C : Int) (R : List M6) (w : World) (e : Ending) (w' : World) : Prop :=
  ∃ (b n : Nat) (Q : List M6), e = .returned (.map (some b)) ∧ w.heap.size ≤ b ∧ MapIs w' b n Q ∧ Q.Nodup ∧ (∀ m, m ∈ Q ↔ Reach A B C R m) ∧ Below w.heap.size w w'
def NextCut (w : World) (A B C : Int) (b n g cap : Nat) (Q : List M6) (m : M6) (s : Value) (wx : World) : Prop :=
  ∃ gn : Nat, s = .pointer (some ⟨gn, 0, none⟩) ∧ KM gn m.1 m.2.1 m.2.2.1 m.2.2.2.1 m.2.2.2.2.1 m.2.2.2.2.2 wx ∧ Kt w.heap.size A B C wx ∧ KOw g (w.heap.size + 1) cap 115 Q wx ∧ KMp b n Q wx ∧ Below w.heap.size w wx
set_option maxRecDepth 100000 in
set_option maxHeartbeats 16000000 in
theorem products_any {lo hi : Nat} {v : Value} {R : List M6} {w : World} (f A B C : Int) (hf : frB f = true) (hl : latI A B C) (hR : GoodR f A B C R) (h : SRow lo hi 6 v R.length (fm R) w) (hn : R.length ≤ 1048576) (hU : UnitOK w) :
    Calls Tryz.prog 164 #[.agg #[.int .i64 A, .int .i64 B, .int .i64 C], v] w (ProdPost A B C R w) := by
  obtain ⟨i0, hinf, hz0, hz1, hz2⟩ := info_parts infoMo
  have hmm := @run_makeMap Tryz.prog
  have L0 : Kt w.heap.size A B C (w.alloc (.cells #[.int .i64 A, .int .i64 B, .int .i64 C] 25)) := Kt.at _ rfl
  have B0 : Below w.heap.size w (w.alloc (.cells #[.int .i64 A, .int .i64 B, .int .i64 C] 25)) := (Below.refl _ _).alloc (Nat.le_refl _) _
  have U0 : Kq 0 1 0 0 1 (w.alloc (.cells #[.int .i64 A, .int .i64 B, .int .i64 C] 25)) := Kq.alloc hU _
  have HR := Lib.hid hR
  have HN := Lib.hid hn
  have HF := Lib.hid hf
  have HL := Lib.hid hl
  have HA := Lib.hid h
  clear hR hn hf hl h hU
  obtain ⟨u0, u1, u2, u3, u4⟩ := id U0
  go_enter Tryz.func164, Tryz.ntmps164
  go_wp2_with (refine wpList_insert6 rfl _ _ _ rfl (w.heap.size + 1 + 1) 0 [] oneM rfl rfl rfl ?m1 one_sm (by unfold maxLen; omega) ?_)
  case m1 =>
    have hm := MapIs.made (((w.alloc (.cells #[.int .i64 A, .int .i64 B, .int .i64 C] 25)).alloc (.cells #[.int .i64 1, .int .i64 0, .int .i64 0, .int .i64 1, .int .i64 0, .int .i64 0] 115)))
    simpa using hm
  intro w1 hM1 hg1
  have hW1 : ∃ W1, W1 = w1 := ⟨_, rfl⟩
  have R1 : KOw (w.heap.size + 1) (w.heap.size + 1) 1 115 [oneM] w1 := by
    have h := row_start (w.alloc (.cells #[.int .i64 A, .int .i64 B, .int .i64 C] 25)) 115
    have h2 : KOw (w.heap.size + 1) (w.heap.size + 1) 1 115 [oneM] ((w.alloc (.cells #[.int .i64 A, .int .i64 B, .int .i64 C] 25)).alloc (.cells #[.int .i64 1, .int .i64 0, .int .i64 0, .int .i64 1, .int .i64 0, .int .i64 0] 115)) := by simpa [KOw] using h
    exact (h2.alloc _).kept hg1 (by simp)
  have L1 : Kt w.heap.size A B C w1 := Kt.grown ((L0.alloc _).alloc _) hg1 (by simp; omega)
  have B1 : Below w.heap.size w w1 := Below.grown ((B0.alloc (by simp) _).alloc (by simp; omega) _) hg1 (by simp; omega) (fun q hq => by simp at hq; omega)
  clear hg1 L0 B0 U0 u0 u1 u2 u3 u4 hW1 hmm
  go_wp2_with fail
  go_loopw [5, 7] (fun s5 s7 W => ∃ i : Nat, s7 = .int .i64 (i : Int) ∧ ∃ Q g cap, Grows A B C R Q i 0 ∧ i ≤ Q.length ∧ s5 = .slice (some ⟨g, 0, none⟩) Q.length cap ∧ KOw g (w.heap.size + 1) cap 115 Q W ∧ KMp (w.heap.size + 1 + 1) Q.length Q W ∧ Kt w.heap.size A B C W ∧ Below w.heap.size w W ∧ g ≠ w.heap.size + 1 + 1) (fun _ s7 _ => 769 - (intOf s7).toNat)
  case atStart => exact ⟨0, rfl, [oneM], _, _, Grows.start A B C R, by simp, rfl, R1, hM1, L1, B1, by omega⟩
  case round =>
    clear R1 hM1 L1 B1
    obtain ⟨i, rfl, Q, g, cap, hG, hi, rfl, hO, hM, hL, hB, hne⟩ := hrel
    have hQl : Q.length ≤ 768 := hG.len HF.out HL.out HR.out
    have hi' : (i : Int) ≤ 768 := by omega
    by_cases hi1 : i < Q.length
    · have hi2 : (i : Int) < (Q.length : Int) := by omega
      obtain ⟨_, _, h1⟩ := id HA.out
      by_cases hz : R.length = 0
      · obtain ⟨ao, cap', rfl⟩ : ∃ ao cap, v = .slice ao 0 cap := by
          rcases h1 with ⟨_, h⟩ | ⟨g', cap', h, _⟩
          · exact h
          · exact ⟨_, cap', by rw [h, hz]⟩
        have hG1 : Grows A B C R Q (i + 1) 0 := Grows.next (by rw [hz]; exact hG)
        clear h1 hG hz
        go_wp2_with fail
        go_loopw [5, 27] (fun s5 s27 W => s5 = .slice (some ⟨g, 0, none⟩) Q.length cap ∧ s27 = .int .i64 ((0 : Nat) : Int) ∧ W = wr) (fun _ _ _ => 0)
        case atStart => exact ⟨rfl, rfl, rfl⟩
        case round =>
          obtain ⟨rfl, rfl, rfl⟩ := hrel
          go_wp2
          go_roundw
          case rel => exact ⟨i + 1, by go_num, Q, g, cap, hG1, by omega, rfl, hO, hM, hL, hB, hne⟩
          case measure => first | (simp [intOf]; done) | (simp [intOf]; omega)
      · obtain ⟨ga, cap', rfl, _, hga, RA⟩ := h1.resolve_left (fun h => hz h.1)
        have hRA := HA.out.1
        have HRA := Lib.hid (show IRow ga (R.length * 6) (fm R) w ∧ ga < w.heap.size from ⟨RA, by omega⟩)
        clear h1 hz RA hga hRA
        go_wp2_with fail
        go_loopw [5, 27] (fun s5 s27 W => ∃ k : Nat, s27 = .int .i64 (k : Int) ∧ ∃ Q g cap, i < Q.length ∧ Grows A B C R Q i k ∧ k ≤ R.length ∧ s5 = .slice (some ⟨g, 0, none⟩) Q.length cap ∧ KOw g (w.heap.size + 1) cap 115 Q W ∧ KMp (w.heap.size + 1 + 1) Q.length Q W ∧ Kt w.heap.size A B C W ∧ Below w.heap.size w W ∧ g ≠ w.heap.size + 1 + 1) (fun _ s27 _ => R.length - (intOf s27).toNat)
        case atStart => exact ⟨0, rfl, Q, g, cap, hi1, hG, by omega, rfl, hO, hM, hL, hB, hne⟩
        case round =>
          clear hG hi1 hi2 hQl hO hM hL hB hne
          have hi0 := hi'
          clear hi
          obtain ⟨k, rfl, Q1, g1, cap1, hi, hG, hk, rfl, hO, hM, hL, hB, hne⟩ := hrel
          have hQl : Q1.length ≤ 768 := hG.len HF.out HL.out HR.out
          have hi2 : (i : Int) < (Q1.length : Int) := by omega
          by_cases hk1 : k < R.length
          · have hk2 : (k : Int) < (R.length : Int) := by omega
            have hn := HN.out
            have q1 := (HRA.out.1.grow hB HRA.out.2).mo k hk1
            have o1 := hO.mo (by omega) i hi
            have HH := Lib.hid (fun h => hG.has hi hk1 h)
            have HD := Lib.hid (fun h => hG.adds hi hk1 h)
            have gm := HR.out _ (List.getElem_mem hk1)
            have gQ := hG.good HL.out HR.out
            have gn := gQ _ (List.getElem_mem hi)
            have HQS : Hid (∀ n ∈ Q1, smM n) := Lib.hid (fun n hn => (good_sm HF.out HL.out (gQ n hn)).1)
            have cf := cmp_facts HF.out HL.out gm gn
            have HSM : Hid (smM (mulM A B C R[k] Q1[i])) := Lib.hid (good_sm HF.out HL.out ⟨mul_sui gm.1 gn.1, mul_red HL.out _ _⟩).1
            have HK := Lib.hid (show k < R.length ∧ i < Q1.length ∧ Q1.length ≤ 768 from ⟨hk1, hi, hQl⟩)
            clear hG gm gn gQ
            generalize R[k] = m at q1 HH HD cf HSM
            generalize Q1[i] = n at o1 HH HD cf HSM
            obtain ⟨a, b, c, d, x, y⟩ := m
            obtain ⟨a', b', c', d', x', y'⟩ := n
            dsimp only at q1 o1
            obtain ⟨f1, f2, f3, f4, f5, f6⟩ := cf
            have CA : Hid (∀ W, Calls Tryz.prog 119 #[.agg #[.int .i64 a, .int .i64 b, .int .i64 c, .int .i64 d, .int .i64 x, .int .i64 y], .agg #[.int .i64 a', .int .i64 b', .int .i64 c', .int .i64 d', .int .i64 x', .int .i64 y']] W fun e w' => e = .returned (.agg #[.int .i64 (a * a' + b * c'), .int .i64 (a * b' + b * d'), .int .i64 (c * a' + d * c'), .int .i64 (c * b' + d * d'), .int .i64 (a * x' + b * y' + x), .int .i64 (c * x' + d * y' + y)]) ∧ Below W.heap.size W w') := Lib.hid (fun W => afterMo_any a b c d x y a' b' c' d' x' y' W f1 f2 f3 f4)
            have CR : Hid (∀ W, Calls Tryz.prog 120 #[.agg #[.int .i64 (a * a' + b * c'), .int .i64 (a * b' + b * d'), .int .i64 (c * a' + d * c'), .int .i64 (c * b' + d * d'), .int .i64 (a * x' + b * y' + x), .int .i64 (c * x' + d * y' + y)], .agg #[.int .i64 A, .int .i64 B, .int .i64 C]] W fun e w' => e = .returned (.agg #[.int .i64 (a * a' + b * c'), .int .i64 (a * b' + b * d'), .int .i64 (c * a' + d * c'), .int .i64 (c * b' + d * d'), .int .i64 (redX A B C (a * x' + b * y' + x) (c * x' + d * y' + y)), .int .i64 (redY C (c * x' + d * y' + y))]) ∧ Below W.heap.size W w') := Lib.hid (fun W => reducedMo_any A B C _ _ _ _ _ _ W HL.out f5 f6)
            have HNX : Hid (mulM A B C (a, b, c, d, x, y) (a', b', c', d', x', y') = (a * a' + b * c', a * b' + b * d', c * a' + d * c', c * b' + d * d', redX A B C (a * x' + b * y' + x) (c * x' + d * y' + y), redY C (c * x' + d * y' + y))) := Lib.hid rfl
            clear f1 f2 f3 f4 f5 f6
            generalize a * a' + b * c' = e0 at CA CR HNX
            generalize a * b' + b * d' = e1 at CA CR HNX
            generalize c * a' + d * c' = e2 at CA CR HNX
            generalize c * b' + d * d' = e3 at CA CR HNX
            generalize a * x' + b * y' + x = e4 at CA CR HNX
            generalize c * x' + d * y' + y = e5 at CA CR HNX
            generalize redX A B C e4 e5 = p at CR HNX
            generalize redY C e5 = q at CR HNX
            generalize mulM A B C (a, b, c, d, x, y) (a', b', c', d', x', y') = nx at HH HD HSM HNX
            have hnx := HNX.out
            subst hnx
            clear HNX
            have zB := hB.size
            have hLl := hL.1
            have hgl := ko_lt o1
            have hml := kmp_lt hM
            obtain ⟨q10, q11, q12, q13, q14, q15, q16⟩ := id q1
            have X0 : Km wr.heap.size a b c d x y (wr.alloc (.cells #[.int .i64 a, .int .i64 b, .int .i64 c, .int .i64 d, .int .i64 x, .int .i64 y] 115)) := Km.at _ rfl
            have L3 : Kt w.heap.size A B C (wr.alloc (.cells #[.int .i64 a, .int .i64 b, .int .i64 c, .int .i64 d, .int .i64 x, .int .i64 y] 115)) := hL.alloc _
            have O3 : KOw g1 (w.heap.size + 1) cap1 115 Q1 (wr.alloc (.cells #[.int .i64 a, .int .i64 b, .int .i64 c, .int .i64 d, .int .i64 x, .int .i64 y] 115)) := hO.alloc _
            have M3 : KMp (w.heap.size + 1 + 1) Q1.length Q1 (wr.alloc (.cells #[.int .i64 a, .int .i64 b, .int .i64 c, .int .i64 d, .int .i64 x, .int .i64 y] 115)) := KMp.alloc hM _
            have N3 : Ko6 g1 (i * 6) a' b' c' d' x' y' (wr.alloc (.cells #[.int .i64 a, .int .i64 b, .int .i64 c, .int .i64 d, .int .i64 x, .int .i64 y] 115)) := o1.alloc _
            have B3 : Below w.heap.size w (wr.alloc (.cells #[.int .i64 a, .int .i64 b, .int .i64 c, .int .i64 d, .int .i64 x, .int .i64 y] 115)) := hB.alloc hB.size _
            have X0c := X0.cells
            have L3c := L3.cells
            have N3c := N3.cells
            have zB3 := B3.size
            clear hO hM hL hB o1 q1
            go_upto_region 1 with fail
            go_cut [10] (fun s10 wx => NextCut w A B C (w.heap.size + 1 + 1) Q1.length g1 cap1 Q1 (e0, e1, e2, e3, p, q) s10 wx)
            case first =>
              go_region_held3 (fun W => (W.cell? ⟨wr.heap.size, 0, none⟩ = some (.int .i64 a) ∧ W.cell? ⟨wr.heap.size, 1, none⟩ = some (.int .i64 b) ∧ W.cell? ⟨wr.heap.size, 2, none⟩ = some (.int .i64 c) ∧ W.cell? ⟨wr.heap.size, 3, none⟩ = some (.int .i64 d) ∧ W.cell? ⟨wr.heap.size, 4, none⟩ = some (.int .i64 x) ∧ W.cell? ⟨wr.heap.size, 5, none⟩ = some (.int .i64 y)) ∧ (W.cell? ⟨w.heap.size, 0, none⟩ = some (.int .i64 A) ∧ W.cell? ⟨w.heap.size, 1, none⟩ = some (.int .i64 B) ∧ W.cell? ⟨w.heap.size, 2, none⟩ = some (.int .i64 C)) ∧ (W.cell? ⟨g1, i * 6, none⟩ = some (.int .i64 a') ∧ W.cell? ⟨g1, i * 6 + 1, none⟩ = some (.int .i64 b') ∧ W.cell? ⟨g1, i * 6 + 2, none⟩ = some (.int .i64 c') ∧ W.cell? ⟨g1, i * 6 + 3, none⟩ = some (.int .i64 d') ∧ W.cell? ⟨g1, i * 6 + 4, none⟩ = some (.int .i64 x') ∧ W.cell? ⟨g1, i * 6 + 5, none⟩ = some (.int .i64 y'))) ((refine ⟨Km.cells ?_, Kt.cells ?_, Ko6.cells ?_⟩) <;> repeat (first | with_reducible assumption | with_reducible refine KM.drew ?_ | with_reducible refine KM.alloc ?_ _ | with_reducible refine KM.call ?_ (by with_reducible assumption) | with_reducible refine Km.drew ?_ | with_reducible refine Km.alloc ?_ _ | with_reducible refine Km.call ?_ (by with_reducible assumption) | with_reducible refine Kt.drew ?_ | with_reducible refine Kt.alloc ?_ _ | with_reducible refine Kt.call ?_ (by with_reducible assumption) | with_reducible refine Ko6.drew ?_ | with_reducible refine Ko6.alloc ?_ _ | with_reducible refine Ko6.call ?_ (by with_reducible assumption) | with_reducible refine KOw.drew ?_ | with_reducible refine KOw.alloc ?_ _ | with_reducible refine KOw.call ?_ (by with_reducible assumption) | with_reducible refine KMp.drew ?_ | with_reducible refine KMp.alloc ?_ _ | with_reducible refine KMp.call ?_ (by with_reducible assumption) | ((with_reducible refine KOw.put ?_ ?_); (first | omega | (dsimp only; omega))) | ((with_reducible refine KMp.put ?_ ?_); (first | omega | (dsimp only; omega))) | ((with_reducible refine Ko6.put ?_ ?_); (first | omega | (dsimp only; omega))) | ((with_reducible refine KM.put ?_ ?_); (first | omega | (dsimp only; omega))) | ((with_reducible refine Km.put ?_ ?_); (first | omega | (dsimp only; omega))) | ((with_reducible refine Kt.put ?_ ?_); (first | omega | (dsimp only; omega))) | ((with_reducible refine KM.far ?_ ?_); (first | omega | (dsimp only; omega))) | ((with_reducible refine Km.far ?_ ?_); (first | omega | (dsimp only; omega)))))
                (first
                  | (go_at_call 119; with_reducible refine (CA.out _).mono ?_; rintro e u1 ⟨rfl, hb1⟩; have Xa1 : Km wr.heap.size a b c d x y u1 := (by repeat (first | with_reducible assumption | with_reducible refine KM.drew ?_ | with_reducible refine KM.alloc ?_ _ | with_reducible refine KM.call ?_ (by with_reducible assumption) | with_reducible refine Km.drew ?_ | with_reducible refine Km.alloc ?_ _ | with_reducible refine Km.call ?_ (by with_reducible assumption) | with_reducible refine Kt.drew ?_ | with_reducible refine Kt.alloc ?_ _ | with_reducible refine Kt.call ?_ (by with_reducible assumption) | with_reducible refine Ko6.drew ?_ | with_reducible refine Ko6.alloc ?_ _ | with_reducible refine Ko6.call ?_ (by with_reducible assumption) | with_reducible refine KOw.drew ?_ | with_reducible refine KOw.alloc ?_ _ | with_reducible refine KOw.call ?_ (by with_reducible assumption) | with_reducible refine KMp.drew ?_ | with_reducible refine KMp.alloc ?_ _ | with_reducible refine KMp.call ?_ (by with_reducible assumption))); have La1 : Kt w.heap.size A B C u1 := (by repeat (first | with_reducible assumption | with_reducible refine KM.drew ?_ | with_reducible refine KM.alloc ?_ _ | with_reducible refine KM.call ?_ (by with_reducible assumption) | with_reducible refine Km.drew ?_ | with_reducible refine Km.alloc ?_ _ | with_reducible refine Km.call ?_ (by with_reducible assumption) | with_reducible refine Kt.drew ?_ | with_reducible refine Kt.alloc ?_ _ | with_reducible refine Kt.call ?_ (by with_reducible assumption) | with_reducible refine Ko6.drew ?_ | with_reducible refine Ko6.alloc ?_ _ | with_reducible refine Ko6.call ?_ (by with_reducible assumption) | with_reducible refine KOw.drew ?_ | with_reducible refine KOw.alloc ?_ _ | with_reducible refine KOw.call ?_ (by with_reducible assumption) | with_reducible refine KMp.drew ?_ | with_reducible refine KMp.alloc ?_ _ | with_reducible refine KMp.call ?_ (by with_reducible assumption))); have Oa1 : KOw g1 (w.heap.size + 1) cap1 115 Q1 u1 := (by repeat (first | with_reducible assumption | with_reducible refine KM.drew ?_ | with_reducible refine KM.alloc ?_ _ | with_reducible refine KM.call ?_ (by with_reducible assumption) | with_reducible refine Km.drew ?_ | with_reducible refine Km.alloc ?_ _ | with_reducible refine Km.call ?_ (by with_reducible assumption) | with_reducible refine Kt.drew ?_ | with_reducible refine Kt.alloc ?_ _ | with_reducible refine Kt.call ?_ (by with_reducible assumption) | with_reducible refine Ko6.drew ?_ | with_reducible refine Ko6.alloc ?_ _ | with_reducible refine Ko6.call ?_ (by with_reducible assumption) | with_reducible refine KOw.drew ?_ | with_reducible refine KOw.alloc ?_ _ | with_reducible refine KOw.call ?_ (by with_reducible assumption) | with_reducible refine KMp.drew ?_ | with_reducible refine KMp.alloc ?_ _ | with_reducible refine KMp.call ?_ (by with_reducible assumption))); have Ma1 : KMp (w.heap.size + 1 + 1) Q1.length Q1 u1 := (by repeat (first | with_reducible assumption | with_reducible refine KM.drew ?_ | with_reducible refine KM.alloc ?_ _ | with_reducible refine KM.call ?_ (by with_reducible assumption) | with_reducible refine Km.drew ?_ | with_reducible refine Km.alloc ?_ _ | with_reducible refine Km.call ?_ (by with_reducible assumption) | with_reducible refine Kt.drew ?_ | with_reducible refine Kt.alloc ?_ _ | with_reducible refine Kt.call ?_ (by with_reducible assumption) | with_reducible refine Ko6.drew ?_ | with_reducible refine Ko6.alloc ?_ _ | with_reducible refine Ko6.call ?_ (by with_reducible assumption) | with_reducible refine KOw.drew ?_ | with_reducible refine KOw.alloc ?_ _ | with_reducible refine KOw.call ?_ (by with_reducible assumption) | with_reducible refine KMp.drew ?_ | with_reducible refine KMp.alloc ?_ _ | with_reducible refine KMp.call ?_ (by with_reducible assumption))); have Na1 : Ko6 g1 (i * 6) a' b' c' d' x' y' u1 := (by repeat (first | with_reducible assumption | with_reducible refine KM.drew ?_ | with_reducible refine KM.alloc ?_ _ | with_reducible refine KM.call ?_ (by with_reducible assumption) | with_reducible refine Km.drew ?_ | with_reducible refine Km.alloc ?_ _ | with_reducible refine Km.call ?_ (by with_reducible assumption) | with_reducible refine Kt.drew ?_ | with_reducible refine Kt.alloc ?_ _ | with_reducible refine Kt.call ?_ (by with_reducible assumption) | with_reducible refine Ko6.drew ?_ | with_reducible refine Ko6.alloc ?_ _ | with_reducible refine Ko6.call ?_ (by with_reducible assumption) | with_reducible refine KOw.drew ?_ | with_reducible refine KOw.alloc ?_ _ | with_reducible refine KOw.call ?_ (by with_reducible assumption) | with_reducible refine KMp.drew ?_ | with_reducible refine KMp.alloc ?_ _ | with_reducible refine KMp.call ?_ (by with_reducible assumption))); have Xl1 := km_lt Xa1; have Ll1 := kt_lt La1; have Nl1 := ko_lt Na1; have Ml1 := kmp_lt Ma1; (try ((refine useIt (P := KM (wr.heap.size + 1) 0 0 0 0 0 0 u1) ?_ ?_); (repeat (first | with_reducible assumption | (with_reducible exact KM.at _ (by first | with_reducible rfl | (simp; done) | fail)) | with_reducible refine KM.drew ?_ | with_reducible refine KM.alloc ?_ _ | with_reducible refine KM.call ?_ (by with_reducible assumption) | with_reducible refine Km.drew ?_ | with_reducible refine Km.alloc ?_ _ | with_reducible refine Km.call ?_ (by with_reducible assumption) | with_reducible refine Kt.drew ?_ | with_reducible refine Kt.alloc ?_ _ | with_reducible refine Kt.call ?_ (by with_reducible assumption) | with_reducible refine Ko6.drew ?_ | with_reducible refine Ko6.alloc ?_ _ | with_reducible refine Ko6.call ?_ (by with_reducible assumption) | with_reducible refine KOw.drew ?_ | with_reducible refine KOw.alloc ?_ _ | with_reducible refine KOw.call ?_ (by with_reducible assumption) | with_reducible refine KMp.drew ?_ | with_reducible refine KMp.alloc ?_ _ | with_reducible refine KMp.call ?_ (by with_reducible assumption))); intro Z1y0; have Z1y0c0 := Z1y0.c0; have Z1y0f0 := Z1y0.f0; have Z1y0c1 := Z1y0.c1; have Z1y0f1 := Z1y0.f1; have Z1y0c2 := Z1y0.c2; have Z1y0f2 := Z1y0.f2; have Z1y0c3 := Z1y0.c3; have Z1y0f3 := Z1y0.f3; have Z1y0c4 := Z1y0.c4; have Z1y0f4 := Z1y0.f4; have Z1y0c5 := Z1y0.c5; have Z1y0f5 := Z1y0.f5; have Z1y0l := Z1y0.lt)); have Ba1 : Below w.heap.size w u1 := (by repeat (first | with_reducible assumption | with_reducible exact Below.refl _ _ | with_reducible refine Below.alloc ?_ (by first | omega | (simp <;> omega)) _ | with_reducible refine bstep ?_ (by with_reducible assumption) | with_reducible refine Below.drew ?_)); have zz1 := Below.size Ba1)
                  | (go_at_call 120; with_reducible refine (CR.out _).mono ?_; rintro e u2 ⟨rfl, hb2⟩; have Xa2 : Km wr.heap.size a b c d x y u2 := (by repeat (first | with_reducible assumption | with_reducible refine KM.drew ?_ | with_reducible refine KM.alloc ?_ _ | with_reducible refine KM.call ?_ (by with_reducible assumption) | with_reducible refine Km.drew ?_ | with_reducible refine Km.alloc ?_ _ | with_reducible refine Km.call ?_ (by with_reducible assumption) | with_reducible refine Kt.drew ?_ | with_reducible refine Kt.alloc ?_ _ | with_reducible refine Kt.call ?_ (by with_reducible assumption) | with_reducible refine Ko6.drew ?_ | with_reducible refine Ko6.alloc ?_ _ | with_reducible refine Ko6.call ?_ (by with_reducible assumption) | with_reducible refine KOw.drew ?_ | with_reducible refine KOw.alloc ?_ _ | with_reducible refine KOw.call ?_ (by with_reducible assumption) | with_reducible refine KMp.drew ?_ | with_reducible refine KMp.alloc ?_ _ | with_reducible refine KMp.call ?_ (by with_reducible assumption))); have La2 : Kt w.heap.size A B C u2 := (by repeat (first | with_reducible assumption | with_reducible refine KM.drew ?_ | with_reducible refine KM.alloc ?_ _ | with_reducible refine KM.call ?_ (by with_reducible assumption) | with_reducible refine Km.drew ?_ | with_reducible refine Km.alloc ?_ _ | with_reducible refine Km.call ?_ (by with_reducible assumption) | with_reducible refine Kt.drew ?_ | with_reducible refine Kt.alloc ?_ _ | with_reducible refine Kt.call ?_ (by with_reducible assumption) | with_reducible refine Ko6.drew ?_ | with_reducible refine Ko6.alloc ?_ _ | with_reducible refine Ko6.call ?_ (by with_reducible assumption) | with_reducible refine KOw.drew ?_ | with_reducible refine KOw.alloc ?_ _ | with_reducible refine KOw.call ?_ (by with_reducible assumption) | with_reducible refine KMp.drew ?_ | with_reducible refine KMp.alloc ?_ _ | with_reducible refine KMp.call ?_ (by with_reducible assumption))); have Oa2 : KOw g1 (w.heap.size + 1) cap1 115 Q1 u2 := (by repeat (first | with_reducible assumption | with_reducible refine KM.drew ?_ | with_reducible refine KM.alloc ?_ _ | with_reducible refine KM.call ?_ (by with_reducible assumption) | with_reducible refine Km.drew ?_ | with_reducible refine Km.alloc ?_ _ | with_reducible refine Km.call ?_ (by with_reducible assumption) | with_reducible refine Kt.drew ?_ | with_reducible refine Kt.alloc ?_ _ | with_reducible refine Kt.call ?_ (by with_reducible assumption) | with_reducible refine Ko6.drew ?_ | with_reducible refine Ko6.alloc ?_ _ | with_reducible refine Ko6.call ?_ (by with_reducible assumption) | with_reducible refine KOw.drew ?_ | with_reducible refine KOw.alloc ?_ _ | with_reducible refine KOw.call ?_ (by with_reducible assumption) | with_reducible refine KMp.drew ?_ | with_reducible refine KMp.alloc ?_ _ | with_reducible refine KMp.call ?_ (by with_reducible assumption))); have Ma2 : KMp (w.heap.size + 1 + 1) Q1.length Q1 u2 := (by repeat (first | with_reducible assumption | with_reducible refine KM.drew ?_ | with_reducible refine KM.alloc ?_ _ | with_reducible refine KM.call ?_ (by with_reducible assumption) | with_reducible refine Km.drew ?_ | with_reducible refine Km.alloc ?_ _ | with_reducible refine Km.call ?_ (by with_reducible assumption) | with_reducible refine Kt.drew ?_ | with_reducible refine Kt.alloc ?_ _ | with_reducible refine Kt.call ?_ (by with_reducible assumption) | with_reducible refine Ko6.drew ?_ | with_reducible refine Ko6.alloc ?_ _ | with_reducible refine Ko6.call ?_ (by with_reducible assumption) | with_reducible refine KOw.drew ?_ | with_reducible refine KOw.alloc ?_ _ | with_reducible refine KOw.call ?_ (by with_reducible assumption) | with_reducible refine KMp.drew ?_ | with_reducible refine KMp.alloc ?_ _ | with_reducible refine KMp.call ?_ (by with_reducible assumption))); have Na2 : Ko6 g1 (i * 6) a' b' c' d' x' y' u2 := (by repeat (first | with_reducible assumption | with_reducible refine KM.drew ?_ | with_reducible refine KM.alloc ?_ _ | with_reducible refine KM.call ?_ (by with_reducible assumption) | with_reducible refine Km.drew ?_ | with_reducible refine Km.alloc ?_ _ | with_reducible refine Km.call ?_ (by with_reducible assumption) | with_reducible refine Kt.drew ?_ | with_reducible refine Kt.alloc ?_ _ | with_reducible refine Kt.call ?_ (by with_reducible assumption) | with_reducible refine Ko6.drew ?_ | with_reducible refine Ko6.alloc ?_ _ | with_reducible refine Ko6.call ?_ (by with_reducible assumption) | with_reducible refine KOw.drew ?_ | with_reducible refine KOw.alloc ?_ _ | with_reducible refine KOw.call ?_ (by with_reducible assumption) | with_reducible refine KMp.drew ?_ | with_reducible refine KMp.alloc ?_ _ | with_reducible refine KMp.call ?_ (by with_reducible assumption))); have Xl2 := km_lt Xa2; have Ll2 := kt_lt La2; have Nl2 := ko_lt Na2; have Ml2 := kmp_lt Ma2; (try ((refine useIt (P := KM (wr.heap.size + 1) 0 0 0 0 0 0 u2) ?_ ?_); (repeat (first | with_reducible assumption | (with_reducible exact KM.at _ (by first | with_reducible rfl | (simp; done) | fail)) | with_reducible refine KM.drew ?_ | with_reducible refine KM.alloc ?_ _ | with_reducible refine KM.call ?_ (by with_reducible assumption) | with_reducible refine Km.drew ?_ | with_reducible refine Km.alloc ?_ _ | with_reducible refine Km.call ?_ (by with_reducible assumption) | with_reducible refine Kt.drew ?_ | with_reducible refine Kt.alloc ?_ _ | with_reducible refine Kt.call ?_ (by with_reducible assumption) | with_reducible refine Ko6.drew ?_ | with_reducible refine Ko6.alloc ?_ _ | with_reducible refine Ko6.call ?_ (by with_reducible assumption) | with_reducible refine KOw.drew ?_ | with_reducible refine KOw.alloc ?_ _ | with_reducible refine KOw.call ?_ (by with_reducible assumption) | with_reducible refine KMp.drew ?_ | with_reducible refine KMp.alloc ?_ _ | with_reducible refine KMp.call ?_ (by with_reducible assumption))); intro Z2y0; have Z2y0c0 := Z2y0.c0; have Z2y0f0 := Z2y0.f0; have Z2y0c1 := Z2y0.c1; have Z2y0f1 := Z2y0.f1; have Z2y0c2 := Z2y0.c2; have Z2y0f2 := Z2y0.f2; have Z2y0c3 := Z2y0.c3; have Z2y0f3 := Z2y0.f3; have Z2y0c4 := Z2y0.c4; have Z2y0f4 := Z2y0.f4; have Z2y0c5 := Z2y0.c5; have Z2y0f5 := Z2y0.f5; have Z2y0l := Z2y0.lt)); (try ((refine useIt (P := KM u1.heap.size 0 0 0 0 0 0 u2) ?_ ?_); (repeat (first | with_reducible assumption | (with_reducible exact KM.at _ (by first | with_reducible rfl | (simp; done) | fail)) | with_reducible refine KM.drew ?_ | with_reducible refine KM.alloc ?_ _ | with_reducible refine KM.call ?_ (by with_reducible assumption) | with_reducible refine Km.drew ?_ | with_reducible refine Km.alloc ?_ _ | with_reducible refine Km.call ?_ (by with_reducible assumption) | with_reducible refine Kt.drew ?_ | with_reducible refine Kt.alloc ?_ _ | with_reducible refine Kt.call ?_ (by with_reducible assumption) | with_reducible refine Ko6.drew ?_ | with_reducible refine Ko6.alloc ?_ _ | with_reducible refine Ko6.call ?_ (by with_reducible assumption) | with_reducible refine KOw.drew ?_ | with_reducible refine KOw.alloc ?_ _ | with_reducible refine KOw.call ?_ (by with_reducible assumption) | with_reducible refine KMp.drew ?_ | with_reducible refine KMp.alloc ?_ _ | with_reducible refine KMp.call ?_ (by with_reducible assumption))); intro Z2y1; have Z2y1c0 := Z2y1.c0; have Z2y1f0 := Z2y1.f0; have Z2y1c1 := Z2y1.c1; have Z2y1f1 := Z2y1.f1; have Z2y1c2 := Z2y1.c2; have Z2y1f2 := Z2y1.f2; have Z2y1c3 := Z2y1.c3; have Z2y1f3 := Z2y1.f3; have Z2y1c4 := Z2y1.c4; have Z2y1f4 := Z2y1.f4; have Z2y1c5 := Z2y1.c5; have Z2y1f5 := Z2y1.f5; have Z2y1l := Z2y1.lt)); have Ba2 : Below w.heap.size w u2 := (by repeat (first | with_reducible assumption | with_reducible exact Below.refl _ _ | with_reducible refine Below.alloc ?_ (by first | omega | (simp <;> omega)) _ | with_reducible refine bstep ?_ (by with_reducible assumption) | with_reducible refine Below.drew ?_)); have zz2 := Below.size Ba2))
              all_goals
                go_wp2_with fail
                go_meet
                exact ⟨_, rfl, (by first | (with_reducible exact KM.at _ (by first | with_reducible rfl | (simp; done) | fail)) | (with_reducible exact KM.store (by repeat (first | with_reducible assumption | (with_reducible exact KM.at _ (by first | with_reducible rfl | (simp; done) | fail)) | with_reducible refine KM.drew ?_ | with_reducible refine KM.alloc ?_ _ | with_reducible refine KM.call ?_ (by with_reducible assumption) | with_reducible refine Km.drew ?_ | with_reducible refine Km.alloc ?_ _ | with_reducible refine Km.call ?_ (by with_reducible assumption) | with_reducible refine Kt.drew ?_ | with_reducible refine Kt.alloc ?_ _ | with_reducible refine Kt.call ?_ (by with_reducible assumption) | with_reducible refine Ko6.drew ?_ | with_reducible refine Ko6.alloc ?_ _ | with_reducible refine Ko6.call ?_ (by with_reducible assumption) | with_reducible refine KOw.drew ?_ | with_reducible refine KOw.alloc ?_ _ | with_reducible refine KOw.call ?_ (by with_reducible assumption) | with_reducible refine KMp.drew ?_ | with_reducible refine KMp.alloc ?_ _ | with_reducible refine KMp.call ?_ (by with_reducible assumption))) _ _ _ _ _ _) | fail), (by repeat (first | with_reducible assumption | with_reducible refine KM.drew ?_ | with_reducible refine KM.alloc ?_ _ | with_reducible refine KM.call ?_ (by with_reducible assumption) | with_reducible refine Km.drew ?_ | with_reducible refine Km.alloc ?_ _ | with_reducible refine Km.call ?_ (by with_reducible assumption) | with_reducible refine Kt.drew ?_ | with_reducible refine Kt.alloc ?_ _ | with_reducible refine Kt.call ?_ (by with_reducible assumption) | with_reducible refine Ko6.drew ?_ | with_reducible refine Ko6.alloc ?_ _ | with_reducible refine Ko6.call ?_ (by with_reducible assumption) | with_reducible refine KOw.drew ?_ | with_reducible refine KOw.alloc ?_ _ | with_reducible refine KOw.call ?_ (by with_reducible assumption) | with_reducible refine KMp.drew ?_ | with_reducible refine KMp.alloc ?_ _ | with_reducible refine KMp.call ?_ (by with_reducible assumption) | ((with_reducible refine KOw.put ?_ ?_); (first | omega | (dsimp only; omega))) | ((with_reducible refine KMp.put ?_ ?_); (first | omega | (dsimp only; omega))) | ((with_reducible refine Ko6.put ?_ ?_); (first | omega | (dsimp only; omega))) | ((with_reducible refine KM.put ?_ ?_); (first | omega | (dsimp only; omega))) | ((with_reducible refine Km.put ?_ ?_); (first | omega | (dsimp only; omega))) | ((with_reducible refine Kt.put ?_ ?_); (first | omega | (dsimp only; omega))) | ((with_reducible refine KM.far ?_ ?_); (first | omega | (dsimp only; omega))) | ((with_reducible refine Km.far ?_ ?_); (first | omega | (dsimp only; omega))))), (by repeat (first | with_reducible assumption | with_reducible refine KM.drew ?_ | with_reducible refine KM.alloc ?_ _ | with_reducible refine KM.call ?_ (by with_reducible assumption) | with_reducible refine Km.drew ?_ | with_reducible refine Km.alloc ?_ _ | with_reducible refine Km.call ?_ (by with_reducible assumption) | with_reducible refine Kt.drew ?_ | with_reducible refine Kt.alloc ?_ _ | with_reducible refine Kt.call ?_ (by with_reducible assumption) | with_reducible refine Ko6.drew ?_ | with_reducible refine Ko6.alloc ?_ _ | with_reducible refine Ko6.call ?_ (by with_reducible assumption) | with_reducible refine KOw.drew ?_ | with_reducible refine KOw.alloc ?_ _ | with_reducible refine KOw.call ?_ (by with_reducible assumption) | with_reducible refine KMp.drew ?_ | with_reducible refine KMp.alloc ?_ _ | with_reducible refine KMp.call ?_ (by with_reducible assumption) | ((with_reducible refine KOw.put ?_ ?_); (first | omega | (dsimp only; omega))) | ((with_reducible refine KMp.put ?_ ?_); (first | omega | (dsimp only; omega))) | ((with_reducible refine Ko6.put ?_ ?_); (first | omega | (dsimp only; omega))) | ((with_reducible refine KM.put ?_ ?_); (first | omega | (dsimp only; omega))) | ((with_reducible refine Km.put ?_ ?_); (first | omega | (dsimp only; omega))) | ((with_reducible refine Kt.put ?_ ?_); (first | omega | (dsimp only; omega))) | ((with_reducible refine KM.far ?_ ?_); (first | omega | (dsimp only; omega))) | ((with_reducible refine Km.far ?_ ?_); (first | omega | (dsimp only; omega))))), (by repeat (first | with_reducible assumption | with_reducible refine KM.drew ?_ | with_reducible refine KM.alloc ?_ _ | with_reducible refine KM.call ?_ (by with_reducible assumption) | with_reducible refine Km.drew ?_ | with_reducible refine Km.alloc ?_ _ | with_reducible refine Km.call ?_ (by with_reducible assumption) | with_reducible refine Kt.drew ?_ | with_reducible refine Kt.alloc ?_ _ | with_reducible refine Kt.call ?_ (by with_reducible assumption) | with_reducible refine Ko6.drew ?_ | with_reducible refine Ko6.alloc ?_ _ | with_reducible refine Ko6.call ?_ (by with_reducible assumption) | with_reducible refine KOw.drew ?_ | with_reducible refine KOw.alloc ?_ _ | with_reducible refine KOw.call ?_ (by with_reducible assumption) | with_reducible refine KMp.drew ?_ | with_reducible refine KMp.alloc ?_ _ | with_reducible refine KMp.call ?_ (by with_reducible assumption) | ((with_reducible refine KOw.put ?_ ?_); (first | omega | (dsimp only; omega))) | ((with_reducible refine KMp.put ?_ ?_); (first | omega | (dsimp only; omega))) | ((with_reducible refine Ko6.put ?_ ?_); (first | omega | (dsimp only; omega))) | ((with_reducible refine KM.put ?_ ?_); (first | omega | (dsimp only; omega))) | ((with_reducible refine Km.put ?_ ?_); (first | omega | (dsimp only; omega))) | ((with_reducible refine Kt.put ?_ ?_); (first | omega | (dsimp only; omega))) | ((with_reducible refine KM.far ?_ ?_); (first | omega | (dsimp only; omega))) | ((with_reducible refine Km.far ?_ ?_); (first | omega | (dsimp only; omega))))), (by repeat (first | with_reducible assumption | with_reducible exact Below.refl _ _ | with_reducible refine Below.setCell ?_ (by first | omega | (simp <;> omega)) _ | with_reducible refine Below.alloc ?_ (by first | omega | (simp <;> omega)) _ | with_reducible refine bstep ?_ (by with_reducible assumption) | with_reducible refine Below.drew ?_))⟩
            case rest =>
              obtain ⟨gn, rfl, X, L, O, Mp, Bx⟩ := hcut
              obtain ⟨W4, hW4⟩ : ∃ z, z = wc := ⟨_, rfl⟩
              subst hW4
              clear X0 L3 O3 M3 N3 B3 X0c L3c N3c zB3 CA CR q10 q11 q12 q13 q14 q15 q16
              have Xc := X.cells5
              have Xl := X.lt
              have hgn : gn ≠ w.heap.size + 1 + 1 := km_ne_map X Mp
              have hol := O.lt
              have hg1 : g1 ≠ w.heap.size + 1 + 1 := O.ne_map Mp
              have zx := Bx.size
              rcases hd : decide ((e0, e1, e2, e3, p, q) ∈ Q1) with _ | _
              · have HG2 := Lib.hid (HD.out (of_decide_eq_false hd))
                clear HH HD
                go_wp2_with (first
                  | (at_lookup; refine wpList_look6 rfl _ _ rfl (w.heap.size + 1 + 1) Q1.length Q1 (e0, e1, e2, e3, p, q) rfl rfl Mp HQS.out HSM.out false hd ?_)
                  | (at_mapUpdate; refine wpList_store6 rfl _ _ _ rfl (w.heap.size + 1 + 1) Q1.length Q1 (e0, e1, e2, e3, p, q) rfl rfl rfl Mp HSM.out (by have := HK.out; unfold maxLen; omega) ?_; intro w5 hM5 hg5; have X5 := KM.grown X hg5 (fun e => hgn (Option.some.inj e)); have X5c := X5.cells5; have L5 : Kt w.heap.size A B C w5 := Kt.grown L hg5 (fun e => by have := Option.some.inj e; omega); have O5 : w5.ownsRow (w.heap.size + 1) 115 6 (.slice (some ⟨g1, 0, none⟩) Q1.length cap1) Q1.length (cells6 Q1) := KOw.kept O hg5 (fun e => hg1 (Option.some.inj e)); have B5 : Below w.heap.size w w5 := Below.grown Bx hg5 zx (fun r hr => by cases hr; omega); have z5 := B5.size)
                  | (at_builtin; refine wpList_append_own _ rfl _ _ 104 rfl (w.heap.size + 1) 115 i0 (.agg #[.int .i64 0, .int .i64 0, .int .i64 0, .int .i64 0, .int .i64 0, .int .i64 0]) 6 48 Tryz.underlying104 hinf hz0 hz1 hz2 rfl (by decide) _ _ _ rfl (O5.alloc _) ⟨w5.heap.size, 0, none⟩ 1 1 [.int .i64 e0, .int .i64 e1, .int .i64 e2, .int .i64 e3, .int .i64 p, .int .i64 q] rfl rfl (new_six _ _ _ _ _ _ _ rfl) one_six (by have := HK.out; unfold maxLen; omega) (by have := HK.out; omega) (by have hz5 := z5; (try simp); omega) ?_; intro v9 w9 hown9 hgrow _))
                obtain ⟨g9, cap9, rfl, O9⟩ := KOw.of (own_next6 hown9) (by simp)
                have hne9 : some (w.heap.size + 1 + 1) ≠ (Value.slice (some ⟨g1, 0, none⟩) Q1.length cap1).ownBlock := fun e => hg1 (by simpa [Value.ownBlock] using e.symm)
                have M9 : KMp (w.heap.size + 1 + 1) (Q1 ++ [(e0, e1, e2, e3, p, q)]).length (Q1 ++ [(e0, e1, e2, e3, p, q)]) w9 := by
                  have h := (hM5.alloc (.cells #[.int .i64 e0, .int .i64 e1, .int .i64 e2, .int .i64 e3, .int .i64 p, .int .i64 q] 115)).kept hgrow hne9
                  simpa [KMp] using h
                have L9 : Kt w.heap.size A B C w9 := Kt.grown (L5.alloc _) hgrow (fun e => by have e2 : some w.heap.size = some g1 := e; have e3 := Option.some.inj e2; have := hol.1; omega)
                have B9 : Below w.heap.size w w9 := Below.grown (B5.alloc z5 _) hgrow (by simp; omega) (fun r hr => by have e2 : some g1 = some r := hr; have e3 := Option.some.inj e2; have := hol.1; omega)
                have hne10 : g9 ≠ w.heap.size + 1 + 1 := O9.ne_map M9
                clear hown9 hgrow X X5 X5c Xc L L5 O O5 Mp hM5 hg5 Bx B5
                go_wp2
                go_roundw
                case rel => exact ⟨k + 1, by go_num, Q1 ++ [(e0, e1, e2, e3, p, q)], g9, cap9, by have := HK.out; simp; omega, HG2.out, by have := HK.out; omega, rfl, O9, M9, L9, B9, hne10⟩
                case measure => (have := HK.out); first | (simp [intOf]; done) | (simp [intOf]; omega)
              · have HG2 := Lib.hid (HH.out (of_decide_eq_true hd))
                clear HH HD
                go_wp2_with (at_lookup; refine wpList_look6 rfl _ _ rfl (w.heap.size + 1 + 1) Q1.length Q1 (e0, e1, e2, e3, p, q) rfl rfl Mp HQS.out HSM.out true hd ?_)
                go_roundw
                case rel => exact ⟨k + 1, by go_num, Q1, g1, cap1, by have := HK.out; omega, HG2.out, by have := HK.out; omega, rfl, O, Mp, L, Bx, hg1⟩
                case measure => (have := HK.out); first | (simp [intOf]; done) | (simp [intOf]; omega)
          · obtain rfl : k = R.length := by omega
            have HG2 := Lib.hid hG.next
            have HK := Lib.hid (show i < Q1.length ∧ i ≤ 768 from ⟨hi, by omega⟩)
            clear hG hk hk1 hi hi2 hQl hi0
            go_wp2
            go_roundw
            case rel => exact ⟨i + 1, by go_num, Q1, g1, cap1, HG2.out, by have := HK.out; omega, rfl, hO, hM, hL, hB, hne⟩
            case measure => (have := HK.out); first | (simp [intOf]; done) | (simp [intOf]; omega)
    · obtain rfl : i = Q.length := by omega
      have HGM := Lib.hid hG
      clear hG hO hL
      go_wp2
      go_ret
      exact ⟨_, Q.length, Q, rfl, by omega, hM, HGM.out.nodup, HGM.out.mem, hB⟩
end
end Go.Proofs.YtmadgbbkkkibcaaGreatDoor

section
namespace Go.Proofs
open Go.Shelf
def Tryz.sortMo_ren : Go.Shelf.Ren := ⟨fun | 6 => 121 | 15 => 192 | 14 => 191 | 28 => 226 | 29 => 227 | 20 => 218 | 21 => 219 | 22 => 220 | 23 => 221 | 24 => 222 | 25 => 223 | 26 => 224 | 27 => 225 | 46 => 237 | 47 => 238 | 48 => 239 | 49 => 240 | 50 => 241 | 57 => 245 | n => n, fun | 22 => 104 | 24 => 115 | 25 => 125 | 3 => 3 | 39 => 203 | 0 => 0 | 53 => 239 | 55 => 241 | 4 => 4 | 46 => 233 | 45 => 232 | 50 => 123 | 5 => 5 | 9 => 9 | 66 => 245 | 70 => 249 | 76 => 252 | 77 => 253 | n => n, fun | n => n⟩
theorem Tryz.sortMo : Go.Proofs.SlLaysF0.n6 Tryz.prog Tryz.sortMo_ren := {
  mixed := by kernel_rfl
  f6 := ⟨Tryz.f121.name, by decide, Tryz.func121.trans (congrArg some (by kernel_rfl))⟩
  f14 := ⟨Tryz.f191.name, by decide, Tryz.func191.trans (congrArg some (by kernel_rfl))⟩
  f15 := Tryz.func192.trans (congrArg some (by kernel_rfl))
  f20 := ⟨Tryz.f218.name, by decide, Tryz.func218.trans (congrArg some (by kernel_rfl))⟩
  f21 := ⟨Tryz.f219.name, by decide, Tryz.func219.trans (congrArg some (by kernel_rfl))⟩
  f22 := ⟨Tryz.f220.name, by decide, Tryz.func220.trans (congrArg some (by kernel_rfl))⟩
  f23 := ⟨Tryz.f221.name, by decide, Tryz.func221.trans (congrArg some (by kernel_rfl))⟩
  f24 := ⟨Tryz.f222.name, by decide, Tryz.func222.trans (congrArg some (by kernel_rfl))⟩
  f25 := ⟨Tryz.f223.name, by decide, Tryz.func223.trans (congrArg some (by kernel_rfl))⟩
  f26 := ⟨Tryz.f224.name, by decide, Tryz.func224.trans (congrArg some (by kernel_rfl))⟩
  f27 := ⟨Tryz.f225.name, by decide, Tryz.func225.trans (congrArg some (by kernel_rfl))⟩
  f28 := Tryz.func226.trans (congrArg some (by kernel_rfl))
  f29 := Tryz.func227.trans (congrArg some (by kernel_rfl))
  f46 := ⟨Tryz.f237.name, by decide, Tryz.func237.trans (congrArg some (by kernel_rfl))⟩
  f47 := Tryz.func238.trans (congrArg some (by kernel_rfl))
  f48 := Tryz.func239.trans (congrArg some (by kernel_rfl))
  f49 := ⟨Tryz.f240.name, by decide, Tryz.func240.trans (congrArg some (by kernel_rfl))⟩
  f50 := ⟨Tryz.f241.name, by decide, Tryz.func241.trans (congrArg some (by kernel_rfl))⟩
  f57 := ⟨Tryz.f245.name, by decide, Tryz.func245.trans (congrArg some (by kernel_rfl))⟩
  t0 := Tryz.underlying0
  a0 := Tryz.isAgg0
  z0 := Tryz.sizeOf0
  v0 := Tryz.zeroValue0
  t3 := Tryz.underlying3
  a3 := Tryz.isAgg3
  z3 := Tryz.sizeOf3
  v3 := Tryz.zeroValue3
  t4 := Tryz.underlying4
  a4 := Tryz.isAgg4
  z4 := Tryz.sizeOf4
  v4 := Tryz.zeroValue4
  t5 := Tryz.underlying5
  a5 := Tryz.isAgg5
  z5 := Tryz.sizeOf5
  v5 := Tryz.zeroValue5
  t9 := Tryz.underlying9
  a9 := Tryz.isAgg9
  z9 := Tryz.sizeOf9
  v9 := Tryz.zeroValue9
  t22 := Tryz.underlying104
  a22 := Tryz.isAgg104
  z22 := Tryz.sizeOf104
  v22 := Tryz.zeroValue104
  t25 := Tryz.underlying125
  a25 := Tryz.isAgg125
  z25 := Tryz.sizeOf125
  v25 := Tryz.zeroValue125
  t39 := Tryz.underlying203
  a39 := Tryz.isAgg203
  z39 := Tryz.sizeOf203
  v39 := Tryz.zeroValue203
  t45 := Tryz.underlying232
  a45 := Tryz.isAgg232
  z45 := Tryz.sizeOf232
  v45 := Tryz.zeroValue232
  t46 := Tryz.underlying233
  a46 := Tryz.isAgg233
  z46 := Tryz.sizeOf233
  v46 := Tryz.zeroValue233
  t50 := Tryz.underlying123
  a50 := Tryz.isAgg123
  z50 := Tryz.sizeOf123
  v50 := Tryz.zeroValue123
  t53 := Tryz.underlying239
  a53 := Tryz.isAgg239
  z53 := Tryz.sizeOf239
  v53 := Tryz.zeroValue239
  t55 := Tryz.underlying241
  a55 := Tryz.isAgg241
  z55 := Tryz.sizeOf241
  v55 := Tryz.zeroValue241
  t66 := Tryz.underlying245
  a66 := Tryz.isAgg245
  z66 := Tryz.sizeOf245
  v66 := Tryz.zeroValue245
  t70 := Tryz.underlying249
  a70 := Tryz.isAgg249
  z70 := Tryz.sizeOf249
  v70 := Tryz.zeroValue249
  t76 := Tryz.underlying252
  a76 := Tryz.isAgg252
  z76 := Tryz.sizeOf252
  v76 := Tryz.zeroValue252
  t77 := Tryz.underlying253
  a77 := Tryz.isAgg253
  z77 := Tryz.sizeOf253
  v77 := Tryz.zeroValue253 }
end Go.Proofs
end

namespace Go.Proofs.YtmadgbbkkkibcaaGreatDoor
section
open Go.RowKit Go.Sort Go.Lib Go.Shelf
set_option linter.unusedSimpArgs false
set_option linter.unusedVariables false

def enc6 (m : M6) : List Value := [.int .i64 m.1, .int .i64 m.2.1, .int .i64 m.2.2.1, .int .i64 m.2.2.2.1, .int .i64 m.2.2.2.2.1, .int .i64 m.2.2.2.2.2]
theorem enc6_len (m : M6) : (enc6 m).length = 6 := rfl
theorem enc6_one (m : M6) : ∀ v ∈ enc6 m, v.oneCell' = true := one_six
theorem flat6 (d : List M6) : flatK enc6 6 d.toArray = (cells6 d).toArray := by
  refine ext_get! (by simp [cells6_len]) fun t ht => ?_
  have ht' : t < d.length * 6 := by simpa using ht
  rw [get_flatK _ _ _ _ (by simpa using ht')]
  have hi : t / 6 < d.length := by omega
  have hc := cells6_get d (t / 6) hi
  obtain ⟨c0, c1, c2, c3, c4, c5⟩ := hc
  have e : t = t / 6 * 6 + t % 6 := by omega
  have hg : ∀ v, (cells6 d)[t]? = some v → (cells6 d).toArray[t]! = v := fun v h => by simp [h]
  have hx : d.toArray[t / 6]! = d[t / 6] := by simp [hi]
  rw [hx]
  have h6 : t % 6 < 6 := by omega
  generalize t % 6 = c at e h6
  obtain rfl | rfl | rfl | rfl | rfl | rfl : c = 0 ∨ c = 1 ∨ c = 2 ∨ c = 3 ∨ c = 4 ∨ c = 5 := by omega
  · rw [hg _ (by rw [e]; exact c0)]; rfl
  · rw [hg _ (by rw [e]; exact c1)]; rfl
  · rw [hg _ (by rw [e]; exact c2)]; rfl
  · rw [hg _ (by rw [e]; exact c3)]; rfl
  · rw [hg _ (by rw [e]; exact c4)]; rfl
  · rw [hg _ (by rw [e]; exact c5)]; rfl
theorem holds_row {w : World} {g : Nat} {cur : Array Value} {e : TypeId} {l : List Value} (hb : w.heap[g]? = some (.cells cur e (0, 0))) (ht : cur.toList.take l.length = l) : Holds id w g 0 l.toArray := by
  intro j hj
  have hj' : j < l.length := by simpa using hj
  refine ⟨?_, by simp [World.frozen?, hb]⟩
  have h1 : (cur.toList.take l.length)[j]? = l[j]? := by rw [ht]
  rw [List.getElem?_take_of_lt hj'] at h1
  simp only [World.cell?, hb, Nat.zero_add]
  simp only [Option.isSome_none, Bool.false_eq_true, if_false]
  rw [← Array.getElem?_toList, h1]
  simp [hj']
theorem heap_put {w : World} {g n : Nat} {os : Array Obj} {cur : Array Value} {e : TypeId} {fr : Nat × Nat} (d : Array Value) (hb : w.heap[g]? = some (.cells cur e fr)) :
    (grow (putRow id (Sort.ahead w n) g 0 d) os).heap[g]? = some (.cells (putCells id 0 d cur) e fr) := by
  have hg : g < w.heap.size := (Array.getElem?_eq_some_iff.1 hb).1
  rw [heap_grow_old _ _ (by simpa using hg)]
  simp [putRow, mapBlock, Sort.ahead, Array.getElem?_modify, hb, onCells]
theorem grownBy_put {w : World} {g n : Nat} {os : Array Obj} (d : Array Value) : w.grownBy (grow (putRow id (Sort.ahead w n) g 0 d) os) (some g) := by
  refine ⟨rfl, rfl, rfl, by simp, fun k hk hne => ?_⟩
  rw [heap_grow_old _ _ (by simpa using hk)]
  have : g ≠ k := fun e => hne (by rw [e])
  simp [putRow, mapBlock, Sort.ahead, Array.getElem?_modify, this]
theorem take_put (cur : Array Value) (l : List Value) (h : l.length ≤ cur.size) : (putCells id 0 l.toArray cur).toList.take l.length = l := by
  apply List.ext_getElem?
  intro j
  by_cases hj : j < l.length
  · rw [List.getElem?_take_of_lt hj, Array.getElem?_toList]
    simp [putCells, hj, show j < cur.size by omega]
  · rw [List.getElem?_take_eq_none (by omega), List.getElem?_eq_none (by omega)]
theorem sort_len (xs : List M6) : (xs.mergeSort fun x y => !ltM y x).length = xs.length := (List.mergeSort_perm xs _).length_eq
theorem swoMZ : SWO (ltOf cmpMZ) := by
  have e : ltOf cmpMZ = ltM := by funext x y; exact cmpMZ_lt x y
  rw [e]
  refine ⟨ltM_irrefl, fun x y z h1 h2 => ltM_trans h1 h2, fun x y z h1 h2 => ?_⟩
  rcases hc : ltM x z with _ | _
  · rfl
  · rcases hxy : ltM y x with _ | _
    · have := ltM_total h1 hxy
      subst this
      rw [h2] at hc; cases hc
    · have := ltM_trans hxy hc
      rw [h2] at this; cases this
set_option maxRecDepth 100000 in
set_option maxHeartbeats 2000000 in
theorem sortMo_any {base g cap : Nat} {xs : List M6} {w : World} (hown : w.ownsRow base 115 6 (.slice (some ⟨g, 0, none⟩) xs.length cap) xs.length (cells6 xs)) (hn : xs.length ≤ 1000000) :
    Calls Tryz.prog 121 #[.slice (some ⟨g, 0, none⟩) xs.length cap, .func (.func 115) #[] #[]] w fun e w' => e = .returned (.tuple #[]) ∧ w'.ownsRow base 115 6 (.slice (some ⟨g, 0, none⟩) xs.length cap) xs.length (cells6 (xs.mergeSort fun x y => !ltM y x)) ∧ w.grownBy w' (some g) := by
  have hl := hown.1
  rcases hown.2 with ⟨h0, _⟩ | ⟨g', cap', cur, he, hg, hb, h1, h2, h3, h4⟩
  · simp at h0
  simp only [Value.slice.injEq, Option.some.injEq, Addr.mk.injEq, and_true, true_and] at he
  obtain ⟨rfl, rfl⟩ := he
  have hlen : (cells6 xs).length = xs.length * 6 := cells6_len xs
  have h4' : cur.toList.take (cells6 xs).length = cells6 xs := by rw [hlen]; exact h4
  have hH : HoldsK enc6 6 w g 0 xs.toArray := by
    unfold HoldsK
    rw [flat6]
    exact holds_row hb h4'
  have eg : ∀ args w, (callFunc 115 args).run Tryz.prog w = .ok (.enter 115 args) w := enters_of Tryz.func115 (by kernel_rfl) rfl
  have hcmp : CmpLays Tryz.prog 115 #[] enc6 6 cmpMZ g 0 xs.toArray.size w := fun _ _ _ _ x y => (mcmp_any x y _).mono fun _ _ ⟨he, hb, hd⟩ => ⟨he, toGrow hb hd⟩
  have hcon := AnyQ.slices_SortFunc_total Tryz.sortMo 6 Tryz.isAgg115 Tryz.sizeOf115 enc6 enc6_len enc6_one cmpMZ swoMZ 115 #[] g 0 cap xs.toArray w eg hcmp hH (Array.getElem?_eq_some_iff.1 hb).1 (by simp; omega) (fun x y a b => ltM_total (by rw [← cmpMZ_lt]; exact a) (by rw [← cmpMZ_lt]; exact b))
  refine Calls.mono hcon ?_
  rintro e w' ⟨rfl, n, os, rfl⟩
  have es : (xs.toArray.toList.mergeSort fun x y => !(ltOf cmpMZ) y x) = xs.mergeSort fun x y => !ltM y x := by
    congr 1
    funext x y
    show (!(decide (cmpMZ y x < 0))) = _
    rw [cmpMZ_lt]
  rw [es]
  have ef : sortWorldK enc6 6 w g 0 n (xs.mergeSort fun x y => !ltM y x).toArray os = grow (putRow id (Sort.ahead w n) g 0 (cells6 (xs.mergeSort fun x y => !ltM y x)).toArray) os := by
    unfold sortWorldK putRowK
    rw [flat6]
  rw [ef]
  refine ⟨rfl, ⟨by rw [cells6_len, sort_len], .inr ⟨g, cap, _, rfl, hg, heap_put _ hb, h1, h2, by simp [putCells, h3], ?_⟩⟩, grownBy_put _⟩
  have hs : (cells6 (xs.mergeSort fun x y => !ltM y x)).length = xs.length * 6 := by rw [cells6_len, sort_len]
  rw [← hs]
  exact take_put cur _ (by rw [hs, h3]; exact Nat.mul_le_mul_right 6 h1)
end
end Go.Proofs.YtmadgbbkkkibcaaGreatDoor

namespace Go.Proofs.YtmadgbbkkkibcaaGreatDoor
section
open Go.RowKit Go.Maps Go.Shelf
set_option linter.unusedSimpArgs false
set_option linter.unusedVariables false

theorem next6 {H : Type} {α : Type} {F : Fence} {n : Nat} {P : Program} {w : World} {ops : Array Oper} {rest : List Oper} {o : Oper} {a : Act} {Q : Exit → Act → World → Prop}
    (hg : o.guard = none) (it : Operand) (hop : o.op = Op.next it false) (k : TypeId) (K : Keyed P k) (R : Value → Option (DataW H × List MemPlace)) (mkK : α → Value)
    (b r nn : Nat) (D : DataW H) (left : Lit → Bool) (cnt : Nat) (invK : ∀ key kl, keyOf P k key = some kl → left kl = true → ∃ x, key = mkK x)
    (hit : a.eval it = .pointer (some ⟨r, 0, none⟩)) (h : w.ranges P k R b r nn D left cnt)
    (hDone : (∀ kl, left kl = false) → wpListIn F n P ops Q rest (a.put o.dst (.tuple #[.bool false])) w)
    (hMore : ∀ (x : α) (c : Value) (kl : Lit) (w' : World) (cnt' : Nat), keyOf P k (mkK x) = some kl → left kl = true → w'.ranges P k R b r nn D (fun z => left z && !z.sameKey kl) cnt' → cnt' < cnt →
      w.grownBy w' (some r) → w'.heap.size = w.heap.size → (Instr.entry (.pointer (some ⟨r, 0, none⟩))).run P w' = .ok (.tuple #[mkK x, c]) w' → wpListIn F n P ops Q rest (a.put o.dst (.tuple #[.bool true, mkK x, c])) w') :
    wpListIn F n P ops Q (o :: rest) a w := by
  refine wpListIn_plain hg fun K' hK' => ?_
  unfold Oper.wpIn
  refine ⟨by simp [Oper.about, hop], ?_⟩
  rw [Oper.semAt_plain F _ _ (by rw [hop]; intro c hc'; cases hc')]
  rcases h.next K o.type with ⟨h0, hl, hrun⟩ | ⟨key, v, kl, y, w', cnt', hkey, hlk, hv, hat, hrun, hrg, hlt, hgr, hsz, hen⟩
  · simp [execOp, hop, hit, hrun, Result.andThen]
    exact hK' _ _ (hDone hl)
  · obtain ⟨x, rfl⟩ := invK key kl hkey hlk
    simp [execOp, hop, hit, hrun, Result.andThen]
    exact hK' _ _ (hMore x v kl w' cnt' hkey hlk hrg hlt hgr hsz hen)
/- what has come, and what is still to come -/
structure Coll (Q : List M6) (left : Lit → Bool) (ss : List M6) : Prop where
  nodup : ss.Nodup
  sub : ∀ m ∈ ss, m ∈ Q ∧ left (kl m) = false
  rest : ∀ m ∈ Q, left (kl m) = true ∨ m ∈ ss
  from' : ∀ l, left l = true → ∃ m ∈ Q, kl m = l
theorem same_kl (m n : M6) : (kl m).sameKey (kl n) = true ↔ kl m = kl n := by
  constructor
  · intro h
    by_cases e : kl m = kl n
    · exact e
    · rw [sameKey_ne e] at h; cases h
  · intro h
    rw [h]
    simp [kl, Lit.sameKey]
theorem has_data {Q : List M6} (hQ : ∀ m ∈ Q, smM m) (l : Lit) : Maps.has (dataM Q) l = (Q.map kl).any (fun x => x.sameKey l) :=
  has_setOf _ _ _ (fun x hx => by obtain ⟨m, hm, rfl⟩ := List.mem_map.1 hx; exact kl_key (hQ m hm))
theorem Coll.start {Q : List M6} (hQ : ∀ m ∈ Q, smM m) : Coll Q (Maps.has (dataM Q)) [] := by
  refine ⟨by simp, by simp, fun m hm => .inl ?_, fun l hl => ?_⟩
  · rw [has_data hQ, List.any_eq_true]
    exact ⟨kl m, List.mem_map.2 ⟨m, hm, rfl⟩, (same_kl m m).2 rfl⟩
  · rw [has_data hQ, List.any_eq_true] at hl
    obtain ⟨x, hx, hs⟩ := hl
    obtain ⟨m, hm, rfl⟩ := List.mem_map.1 hx
    refine ⟨m, hm, ?_⟩
    by_cases e : kl m = l
    · exact e
    · rw [sameKey_ne e] at hs; cases hs
theorem Coll.step {Q : List M6} {left : Lit → Bool} {ss : List M6} (hQ : ∀ m ∈ Q, smM m) (h : Coll Q left ss) {x : M6} (hx : x ∈ Q) (hl : left (kl x) = true) : Coll Q (fun z => left z && !z.sameKey (kl x)) (ss ++ [x]) := by
  have hn : x ∉ ss := fun hm => by rw [(h.sub x hm).2] at hl; cases hl
  refine ⟨?_, ?_, ?_, ?_⟩
  · exact List.nodup_append.2 ⟨h.nodup, by simp, fun a ha b hb => by simp at hb; subst hb; exact fun e => hn (e ▸ ha)⟩
  · intro m hm
    rcases List.mem_append.1 hm with hm | hm
    · exact ⟨(h.sub m hm).1, by simp [(h.sub m hm).2]⟩
    · simp at hm; subst hm; exact ⟨hx, by simp [(same_kl m m).2 rfl]⟩
  · intro m hm
    by_cases e : m = x
    · exact .inr (by simp [e])
    · rcases h.rest m hm with h' | h'
      · refine .inl ?_
        have : (kl m).sameKey (kl x) = false := sameKey_ne (fun e' => e (kl_inj (hQ m hm) (hQ x hx) e'))
        simp [h', this]
      · exact .inr (by simp [h'])
  · intro l hl'
    simp only [Bool.and_eq_true] at hl'
    exact h.from' l hl'.1
theorem Coll.key {Q : List M6} {left : Lit → Bool} {ss : List M6} (hQ : ∀ m ∈ Q, smM m) (h : Coll Q left ss) {v : Value} {l : Lit} (hk : keyOf Tryz.prog 115 v = some l) (hl : left l = true) : ∃ x ∈ Q, v = encM x ∧ l = kl x := by
  obtain ⟨m, hm, rfl⟩ := h.from' l hl
  exact ⟨m, hm, lawKey.inj hk (kl_eq (hQ m hm)), rfl⟩
theorem Coll.len {Q : List M6} {left : Lit → Bool} {ss : List M6} (h : Coll Q left ss) {x : M6} (hx : x ∈ Q) (hl : left (kl x) = true) : ss.length < Q.length := by
  have hn : x ∉ ss := fun hm => by rw [(h.sub x hm).2] at hl; cases hl
  have := nodup_len (ss ++ [x]) Q (List.nodup_append.2 ⟨h.nodup, by simp, fun a ha b hb => by simp at hb; subst hb; exact fun e => hn (e ▸ ha)⟩) (fun m hm => by
    rcases List.mem_append.1 hm with hm | hm
    · exact (h.sub m hm).1
    · simp at hm; subst hm; exact hx)
  simp at this
  omega
theorem Coll.fin {Q : List M6} {left : Lit → Bool} {ss : List M6} (h : Coll Q left ss) (hl : ∀ l, left l = false) : ss.Nodup ∧ ∀ m, m ∈ ss ↔ m ∈ Q :=
  ⟨h.nodup, fun m => ⟨fun hm => (h.sub m hm).1, fun hm => (h.rest m hm).resolve_left (fun h' => by rw [hl] at h'; cases h')⟩⟩
theorem below_grown6 {W W' : World} (hb : Below W.heap.size W W') : W.grownBy W' none := ⟨hb.os, hb.tape, hb.output, hb.size, fun k hk _ => hb.block k hk⟩
theorem abides_below6 {β : Type} {B : Nat} {J : β → World → Prop} (h : AbidesFrom B J) {s : β} {W W' : World} (hJ : J s W) (hb : Below W.heap.size W W') : J s W' := h s W W' none hJ (below_grown6 hb) (fun r e => by cases e)
set_option maxRecDepth 100000 in
set_option maxHeartbeats 4000000 in
theorem keys_in (F : Fence) (n : Nat) (h5 : F.fn 166) (hro : F.round = none) (b : Nat) (w : World) :
    CallsIn F n Tryz.prog 166 #[.map (some b)] w fun e w' => e = .returned (.func (.func 207) #[] #[.pointer (some ⟨w.heap.size, 0, none⟩)]) ∧ w' = w.alloc (.cells #[.map (some b)] 180) := by
  refine callsIn_of_wp Tryz.func166 rfl h5 ?_ hro
  simp only [Tryz.ntmps166, List.size_toArray, List.length_cons, List.length_nil, Nat.reduceAdd, Nat.reduceSub, Array.replicate_succ, Array.replicate_zero, List.push_toArray, List.append_toArray, List.nil_append, List.cons_append]
  gi_wp2
  go_ret
  exact ⟨rfl, rfl⟩
set_option maxRecDepth 100000 in
set_option maxHeartbeats 8000000 in
theorem keys1_in (n : Nat) (hn : 1 ≤ n) (l Bm b nn : Nat) (Q : List M6) (hQ : ∀ m ∈ Q, smM m) (J Jx : List M6 → World → Prop) (W : World) (hJ : AbidesFrom W.heap.size J)
    (hY : ∀ pre x W1, J pre W1 → pre.length < Q.length → YieldAt Fence.wide (n - 1) Tryz.prog l #[encM x] W1 fun e W' =>
      (e = .returned (.bool true) ∧ J (pre ++ [x]) W' ∧ KeepsWalks W1 W') ∨ (e = .returned (.bool false) ∧ Jx (pre ++ [x]) W'))
    (hm : W.cell? ⟨Bm, 0, none⟩ = some (.map (some b))) (hown : MapIs W b nn Q) (h0 : J [] W) :
    CallsIn Fence.wide n Tryz.prog 207 #[.func (.yield l) #[] #[], .pointer (some ⟨Bm, 0, none⟩)] W fun e W' => (∃ v, e = .returned v) ∧
      ((∃ ss, (ss.Nodup ∧ ∀ m, m ∈ ss ↔ m ∈ Q) ∧ J ss W') ∨ (∃ pre, True ∧ Jx pre W')) := by
  refine callsIn_of_wp Tryz.func207 rfl trivial ?_ rfl
  simp only [Tryz.ntmps207, List.size_toArray, List.length_cons, List.length_nil, Nat.reduceAdd, Nat.reduceSub, Array.replicate_succ, Array.replicate_zero, List.push_toArray, List.append_toArray, List.nil_append, List.cons_append]
  gi_wp2_with (first
    | (gi_at_range; refine wpListIn_range_own _ rfl _ 180 rfl 115 4 lawKey Tryz.underlying180 _ b nn _ rfl hown ?_; intro w0 hrg0 hg0 hs0)
    | gi_in)
  go_frame
  gi_loopw [3] (fun _ wr => ∃ (left : Lit → Bool) (cnt : Nat) (ss : List M6), wr.ranges Tryz.prog 115 (plainElem (H := Unit) Tryz.prog 4) b W.heap.size nn (dataM Q) left cnt ∧ Coll Q left ss ∧ J ss wr)
    (fun _ wr => wr.rangeLeft b W.heap.size)
  case atStart =>
    exact ⟨_, _, [], hrg0, Coll.start hQ, hJ [] W w0 none h0 hg0 (fun r e => by cases e)⟩
  case round =>
    obtain ⟨left, cnt, ss, hrg, hC, hJs⟩ := hrel
    gi_wp2_with (first
      | (gi_at_next; refine next6 rfl _ rfl 115 lawKey _ encM b W.heap.size nn _ left cnt (fun key kl' hk hl => (hC.key hQ hk hl).imp fun x hx => hx.2.1) rfl hrg ?_ ?_)
      | gi_in)
    · intro hl0
      gi_wp2
      go_end0
      exact ⟨⟨_, rfl⟩, .inl ⟨ss, hC.fin hl0, hJs⟩⟩
    · intro p0 p1 p2 p3 p4 p5 c kl' w2 cnt2 hkey hlk hrg2 hlt hg2 hs2 hen
      obtain ⟨x', hx', ex, rfl⟩ := hC.key hQ hkey hlk
      obtain rfl : (p0, p1, p2, p3, p4, p5) = x' := encM_inj ex
      have hJ2 : J ss w2 := hJ ss wr w2 (some W.heap.size) hJs hg2 (fun r e => by cases e; exact ⟨Nat.le_refl _, hrg.iter_walk⟩)
      have hC2 := hC.step hQ hx' hlk
      have hCl := hC.len hx' hlk
      have hJ3 : J ss (w2.alloc (.cells #[.int .i64 p0, .int .i64 p1, .int .i64 p2, .int .i64 p3, .int .i64 p4, .int .i64 p5] 115)) := abides_below6 hJ hJ2 ((Below.refl _ _).alloc (Nat.le_refl _) _)
      have hrg3 := hrg2.alloc (.cells #[.int .i64 p0, .int .i64 p1, .int .i64 p2, .int .i64 p3, .int .i64 p4, .int .i64 p5] 115)
      obtain ⟨fn, tmps, assign, body, hy, hR⟩ := hY ss (p0, p1, p2, p3, p4, p5) _ hJ3 hCl
      clear hs2
      gi_wp2
      refine hR.mono ?_
      rintro e W3 (⟨rfl, hJ4, hk3⟩ | ⟨rfl, hJx3⟩)
      · gi_wp2
        have hrg4 := hrg3.of_walks hk3
        go_roundw
        case rel => exact ⟨_, cnt2, ss ++ [(p0, p1, p2, p3, p4, p5)], hrg4, hC2, hJ4⟩
        case measure => rw [hrg4.left_eq, hrg.left_eq]; exact hlt
      · gi_wp2
        refine bodyPost_ret (results_none rfl _ _ _) rfl ?_
        exact ⟨⟨_, rfl⟩, .inr ⟨ss ++ [(p0, p1, p2, p3, p4, p5)], trivial, hJx3⟩⟩
end
end Go.Proofs.YtmadgbbkkkibcaaGreatDoor

namespace Go.Proofs.YtmadgbbkkkibcaaGreatDoor
section
open Go.RowKit Go.Maps Go.Shelf
set_option linter.unusedSimpArgs false
set_option linter.unusedVariables false
attribute [local go_sem] Oper.semAt_some

theorem keys_stops (n : Nat) (hn : 1 ≤ n) (Bm b nn : Nat) (Q : List M6) (hQ : ∀ m ∈ Q, smM m) (w : World) (hBm : Bm < w.heap.size) (hm : w.cell? ⟨Bm, 0, none⟩ = some (.map (some b))) (hown : MapIs w b nn Q) :
    SeqStopsK Fence.wide n Tryz.prog 207 #[.pointer (some ⟨Bm, 0, none⟩)] (fun x : M6 => #[encM x]) KeepsWalks (fun ss => ss.Nodup ∧ ∀ m, m ∈ ss ↔ m ∈ Q) (fun _ => True) Q.length w := fun l J Jx W hW hJ _ hY h0 => by
  have hlt := hown.lt
  obtain ⟨es, clock, hb, Ft, hs, hD⟩ := hown
  have hown' : MapIs W b nn Q := ⟨es, clock, (hW.block b hlt).trans hb, Ft, hs, hD⟩
  exact keys1_in n hn l Bm b nn Q hQ J Jx W hJ hY ((hW.cell (p := ⟨Bm, 0, none⟩) hBm).trans hm) hown' h0
theorem at_own6 {β : Type} (B : Nat) (o : Obj) (ho : o.isCells = true) : Own (fun (_ : β) W => W.heap[B]? = some o) := fun s X Y row hs hg hrow => by
  have hlt := (Array.getElem?_eq_some_iff.1 hs).1
  refine (hg.block B hlt fun e => ?_).trans hs
  obtain ⟨o', ho', hc⟩ := hrow B e.symm
  rw [hs] at ho'
  cases ho'
  rw [ho] at hc
  cases hc
set_option maxRecDepth 100000 in
set_option maxHeartbeats 8000000 in
theorem appendSeq_any (gf : Nat) (lb : Array Value) (Sx Sp : List M6 → Prop) (N : Nat) (hN : N ≤ 768) (w : World) (eg : ∀ args w, (callFunc gf args).run Tryz.prog w = .ok (.enter gf args) w)
    (hseq : SeqStopsK Fence.wide (3 - 1) Tryz.prog gf lb (fun x : M6 => #[encM x]) KeepsWalks Sx Sp N w) :
    Calls Tryz.prog 230 #[.slice none 0 0, .func (.func gf) #[] lb] w fun e w' => ∃ (v : Value) (ss : List M6), e = .returned v ∧ Sx ss ∧ w'.ownsRow w.heap.size 115 6 v ss.length (cells6 ss) ∧ Below w.heap.size w w' := by
  obtain ⟨i0, hi0, hz0, hz1, hz2⟩ := info_parts infoMo
  refine (callsIn_wide (n := 3)).1 ?_
  refine callsIn_of_wp_marks Tryz.func230 rfl trivial ?_ rfl
  simp only [Tryz.ntmps230, List.size_toArray, List.length_cons, List.length_nil, Nat.reduceAdd, Nat.reduceSub, Array.replicate_succ, Array.replicate_zero, List.push_toArray, List.append_toArray, List.nil_append, List.cons_append]
  gi_wp2
  obtain ⟨W0, hW0⟩ : ∃ W0, w.alloc (.cells #[.slice none 0 0] 104) = W0 := ⟨_, rfl⟩
  have hsz : W0.heap.size = w.heap.size + 1 := by rw [← hW0]; simp
  have bL : Boxed W0 w.heap.size 104 (.slice none 0 0) := by rw [← hW0]; exact Boxed.new w _ _
  have B0 : Below w.heap.size w W0 := by rw [← hW0]; exact (Below.refl _ _).alloc (Nat.le_refl _) _
  rw [hW0]
  clear hW0
  have hz := B0.size
  refine wpIn_rangeFunc_ownH rfl (by omega) (gf := gf) (lb := lb) rfl trivial eg hseq (fun h k => walksK_t h k) (fun W l o o' => walksK_b W l o o') B0 (fun _ => rfl)
    (fun pre W => (∃ v, Boxed W w.heap.size 104 v ∧ W.ownsRow w.heap.size 115 6 v pre.length (cells6 pre) ∧ True) ∧ Below w.heap.size w W)
    (fun _ _ _ => False)
    (OwnFrom.and (Own.from (holdsRow_own w.heap.size w.heap.size 104 115 6 (fun pre : List M6 => pre.length) (fun pre => cells6 pre) (fun _ _ => True)) _) (ownFrom_below (Nat.le_refl _) hz))
    (fun _ _ _ _ _ hs _ _ => hs)
    ⟨⟨_, bL, World.ownsRow_nil _ _ _ _, trivial⟩, B0⟩
    (fun x a' W => ∃ Bx, w.heap.size < Bx ∧ W.heap[Bx]? = some (.cells #[.int .i64 x.1, .int .i64 x.2.1, .int .i64 x.2.2.1, .int .i64 x.2.2.2.1, .int .i64 x.2.2.2.2.1, .int .i64 x.2.2.2.2.2] 115 (0, 0)) ∧ a' = { tmps := #[.slice none 0 0, .func (.func gf) #[] lb, .pointer (some ⟨w.heap.size, 0, none⟩), undef, .slice none 0 0, .pointer (some ⟨Bx, 0, none⟩), .func (.func gf) #[] lb, encM x, undef, undef, undef, undef, undef], defers := [] })
    (fun x a' _ X Y row hs hg hr => by obtain ⟨Bx, h1, h2, h3⟩ := hs; exact ⟨Bx, h1, at_own6 Bx _ rfl () X Y row h2 hg (fun r e => (hr r e).2), h3⟩)
    ?assign ?body ?done ?stop
  case assign =>
    rintro l pre x W K ⟨⟨v, hv, hrow, _⟩, hB1⟩ hK
    gi_wp2
    exact hK _ _ ((KeepsOthers.alloc _ _).from _) (KeepsWalks.alloc _ _) ⟨⟨v, hv.alloc _, hrow.alloc _, trivial⟩, hB1.alloc hB1.size _⟩ ⟨W.heap.size, hv.lt, World.alloc_heap_new W _, rfl⟩
  case body =>
    rintro l pre x a' W hl ⟨r, hr⟩ ⟨⟨v, hv, hrow, _⟩, hB1⟩ ⟨Bx, hBx, bX, rfl⟩ hlt
    have hc := hv.cell
    have KX : Km Bx x.1 x.2.1 x.2.2.1 x.2.2.2.1 x.2.2.2.2.1 x.2.2.2.2.2 W := ⟨(Array.getElem?_eq_some_iff.1 bX).1, by simp [World.cell?, bX], by simp [World.cell?, bX], by simp [World.cell?, bX], by simp [World.cell?, bX], by simp [World.cell?, bX], by simp [World.cell?, bX]⟩
    obtain ⟨x0, x1, x2, x3, x4, x5, x6⟩ := id KX
    gi_wp2_with (gi_at_builtin; refine wpListIn_append_own _ rfl _ _ 104 rfl w.heap.size 115 i0 (.agg #[.int .i64 0, .int .i64 0, .int .i64 0, .int .i64 0, .int .i64 0, .int .i64 0]) 6 48 Tryz.underlying104 hi0 hz0 hz1 hz2 rfl (by decide) _ _ _ rfl (hrow.alloc _) ⟨W.heap.size, 0, none⟩ 1 1 [.int .i64 x.1, .int .i64 x.2.1, .int .i64 x.2.2.1, .int .i64 x.2.2.2.1, .int .i64 x.2.2.2.2.1, .int .i64 x.2.2.2.2.2] rfl rfl (new_six _ _ _ _ _ _ _ rfl) one_six (by unfold maxLen; omega) (by omega) (by have := hB1.size; simp; omega) ?_; intro v' w6 hown' hgrow _; obtain ⟨g', cap', rfl⟩ := ownsRow_succ hown'; obtain ⟨hv1, hv2, hr2, hk2, hb2⟩ := hv.appended (by decide) hrow hB1.size (Nat.le_refl _) hown' hgrow; have hc1 := hv1.cell; have hf1 := hv1.frozen)
    exact ⟨hk2.from _, hk2.walks, ⟨⟨_, hv2, by rw [cells6_snoc]; simpa using hr2, trivial⟩, hB1.trans hb2⟩⟩
  case done =>
    rintro D zs W hD hS ⟨⟨v, hv, hrow, _⟩, hB1⟩ hK
    have cS := hv.cell
    gi_wp2
    refine ⟨by simp, .inl ⟨_, _, rfl, run_takeDeferred hK, ?_⟩⟩
    exact ⟨_, results_tmp rfl _ _ _, v, zs, rfl, hS, ownsRow_putObj hrow _ hK rfl, hB1.trans (belowK_b (w := w) (Nat.le_refl _) W D _ _ (by omega) hK rfl rfl)⟩
  case stop =>
    rintro D c pre W _ _ h _
    exact h.elim
set_option maxRecDepth 100000 in
set_option maxHeartbeats 4000000 in
theorem collect_any (gf : Nat) (lb : Array Value) (Sx Sp : List M6 → Prop) (N : Nat) (hN : N ≤ 768) (w : World) (eg : ∀ args w, (callFunc gf args).run Tryz.prog w = .ok (.enter gf args) w)
    (hseq : SeqStopsK Fence.wide (3 - 1) Tryz.prog gf lb (fun x : M6 => #[encM x]) KeepsWalks Sx Sp N w) :
    Calls Tryz.prog 206 #[.func (.func gf) #[] lb] w fun e w' => ∃ (v : Value) (ss : List M6), e = .returned v ∧ Sx ss ∧ w'.ownsRow w.heap.size 115 6 v ss.length (cells6 ss) ∧ Below w.heap.size w w' := by
  go_enter Tryz.func206, Tryz.ntmps206
  go_wp2_with fail
  refine (appendSeq_any gf lb Sx Sp N hN w eg hseq).mono ?_
  rintro e w1 ⟨v, ss, rfl, hS, hr, hb⟩
  go_wp2
  go_ret
  exact ⟨v, ss, rfl, hS, hr, hb⟩
set_option maxRecDepth 100000 in
set_option maxHeartbeats 4000000 in
theorem sortedFunc_any (gf : Nat) (lb : Array Value) (Sx Sp : List M6 → Prop) (N : Nat) (hN : N ≤ 768) (w : World) (eg : ∀ args w, (callFunc gf args).run Tryz.prog w = .ok (.enter gf args) w)
    (hpos : ∀ ss, Sx ss → 0 < ss.length ∧ ss.length ≤ 768)
    (hseq : SeqStopsK Fence.wide (3 - 1) Tryz.prog gf lb (fun x : M6 => #[encM x]) KeepsWalks Sx Sp N w) :
    Calls Tryz.prog 165 #[.func (.func gf) #[] lb, .func (.func 115) #[] #[]] w fun e w' => ∃ (v : Value) (ss : List M6), e = .returned v ∧ Sx ss ∧ w'.ownsRow w.heap.size 115 6 v (ss.mergeSort fun x y => !ltM y x).length (cells6 (ss.mergeSort fun x y => !ltM y x)) ∧ Below w.heap.size w w' := by
  go_enter Tryz.func165, Tryz.ntmps165
  go_wp2_with fail
  refine (collect_any gf lb Sx Sp N hN w eg hseq).mono ?_
  rintro e w1 ⟨v, ss, rfl, hS, hr, hb⟩
  obtain ⟨h0, h1⟩ := hpos ss hS
  obtain ⟨g, cap, rfl, hO⟩ := KOw.of hr h0
  have hg := hO.lt
  have HS := Lib.hid hS
  clear hS hseq hpos hr
  go_wp2_with fail
  refine (sortMo_any hO (by omega)).mono ?_
  rintro e w2 ⟨rfl, hr2, hgw⟩
  have hb2 : Below w.heap.size w w2 := Below.grown hb hgw hb.size (fun r hr => by have := Option.some.inj hr; omega)
  clear hO hgw
  go_wp2
  go_ret
  exact ⟨_, ss, rfl, HS.out, by rw [sort_len]; exact hr2, hb2⟩
end
end Go.Proofs.YtmadgbbkkkibcaaGreatDoor

namespace Go.Proofs.YtmadgbbkkkibcaaGreatDoor
section
open Go.RowKit Go.Maps
set_option linter.unusedSimpArgs false
set_option linter.unusedVariables false

theorem SRow.big6 {lo : Nat} {xs : List M6} {e : TypeId} {v : Value} {W : World} (h : W.ownsRow lo e 6 v xs.length (cells6 xs)) (hn : xs.length ≤ 1048576) : SRow lo W.heap.size 6 v xs.length (fm xs) W := by
  refine ⟨Nat.le_refl _, Nat.le_trans hn (by omega), ?_⟩
  rcases h.2 with ⟨rfl, h0⟩ | ⟨g, cap, cur, rfl, _⟩
  · exact .inl ⟨h0, none, 0, rfl⟩
  · have hl := h.lt g rfl
    refine .inr ⟨g, cap, rfl, hl.1, hl.2, hl.2, fun t ht => ⟨?_, h.frozenAt t⟩⟩
    rw [h.cellAt t ht]
    exact intAt_eq (cells6_int xs) (by rw [h.1]; exact ht)
structure Mak (f A B C : Int) (R : List M6) (k : Nat) (Ms : List M6) : Prop where
  g : Gath A B C R k Ms
  nd : Ms.Nodup
theorem Mak.start (f A B C : Int) (R : List M6) : Mak f A B C R 0 [] := ⟨Gath.start A B C R, by simp⟩
theorem Mak.adds {f A B C : Int} (hl : latI A B C) {R Ms : List M6} (hR : GoodR f A B C R) {k : Nat} (h : Mak f A B C R k Ms) (hk : k < R.length) (hm : ¬ Reach A B C Ms R[k]) : Mak f A B C R (k + 1) (Ms ++ [R[k]]) :=
  ⟨h.g.adds hl hR hk, List.nodup_append.2 ⟨h.nd, by simp, fun a ha b hb => by simp at hb; subst hb; exact fun e => hm (reach_mem hl (h.g.good hR) (e ▸ ha))⟩⟩
theorem Mak.len {f A B C : Int} (hf : frB f = true) (hl : latI A B C) {R Ms : List M6} (hR : GoodR f A B C R) {k : Nat} (h : Mak f A B C R k Ms) : Ms.length ≤ 768 := good_len hf hl h.nd (h.g.good hR)
def ClosPost (A B C : Int) (R : List M6) (w : World) (e : Ending) (w' : World) : Prop :=
  ∃ (v : Value) (L : List M6), e = .returned v ∧ IsClos A B C R L ∧ w'.ownsRow w.heap.size 115 6 v L.length (cells6 L) ∧ Below w.heap.size w w'
theorem keysC_any (b : Nat) (w : World) :
    Calls Tryz.prog 166 #[.map (some b)] w fun e w' => e = .returned (.func (.func 207) #[] #[.pointer (some ⟨w.heap.size, 0, none⟩)]) ∧ w' = w.alloc (.cells #[.map (some b)] 180) :=
  (callsIn_wide (n := 3)).1 (keys_in Fence.wide 3 trivial rfl b w)
/- what the map holds between two rounds -/
structure Found (A B C : Int) (Ms Q : List M6) : Prop where
  nd : Q.Nodup
  mem : ∀ m, m ∈ Q ↔ Reach A B C Ms m
theorem Found.sm {f A B C : Int} (hf : frB f = true) (hl : latI A B C) {Ms Q : List M6} (hM : GoodR f A B C Ms) (h : Found A B C Ms Q) : ∀ m ∈ Q, smM m := fun m hm => (good_sm hf hl (reach_good hl hM ((h.mem m).1 hm))).1
theorem Found.len {f A B C : Int} (hf : frB f = true) (hl : latI A B C) {Ms Q : List M6} (hM : GoodR f A B C Ms) (h : Found A B C Ms Q) : Q.length ≤ 768 := good_len hf hl h.nd fun m hm => reach_good hl hM ((h.mem m).1 hm)
set_option maxRecDepth 100000 in
set_option maxHeartbeats 4000000 in
theorem sortKeys_any {f A B C : Int} (hf : frB f = true) (hl : latI A B C) {R Ms Q : List M6} (hR : GoodR f A B C R) (hM : Mak f A B C R R.length Ms) (hF : Found A B C Ms Q) (b n Bm : Nat) (w : World) (hBm : Bm < w.heap.size) (hc : w.cell? ⟨Bm, 0, none⟩ = some (.map (some b))) (hown : MapIs w b n Q) :
    Calls Tryz.prog 165 #[.func (.func 207) #[] #[.pointer (some ⟨Bm, 0, none⟩)], .func (.func 115) #[] #[]] w (ClosPost A B C R w) := by
  have hg := hM.g.good hR
  refine (sortedFunc_any _ _ _ _ Q.length (hF.len hf hl hg) w (enters_of Tryz.func207 (by kernel_rfl) rfl) ?_ (keys_stops (3 - 1) (by omega) Bm b n Q (hF.sm hf hl hg) w hBm hc hown)).mono ?_
  · rintro ss ⟨hn, hm⟩
    have h1 : oneM ∈ ss := (hm _).2 ((hF.mem _).2 (reach_one A B C Ms))
    exact ⟨List.length_pos_of_mem h1, Nat.le_trans (nodup_len ss Q hn fun m h => (hm m).1 h) (hF.len hf hl hg)⟩
  · rintro e w' ⟨v, ss, rfl, ⟨hn, hm⟩, hr, hb⟩
    exact ⟨v, _, rfl, sort_clos hn fun m => ((hm m).trans (hF.mem m)).trans (hM.g.fin hl hR m), hr, hb⟩
set_option maxRecDepth 100000 in
set_option maxHeartbeats 8000000 in
theorem closure_any {lo hi : Nat} {v : Value} {R : List M6} {w : World} (f A B C : Int) (hf : frB f = true) (hl : latI A B C) (hR : GoodR f A B C R) (h : SRow lo hi 6 v R.length (fm R) w) (hn : R.length ≤ 1048576) (hU : UnitOK w) :
    Calls Tryz.prog 95 #[.agg #[.int .i64 A, .int .i64 B, .int .i64 C], v] w (ClosPost A B C R w) := by
  obtain ⟨i0, hinf, hz0, hz1, hz2⟩ := info_parts infoMo
  have L0 : Kt w.heap.size A B C (w.alloc (.cells #[.int .i64 A, .int .i64 B, .int .i64 C] 25)) := Kt.at _ rfl
  have B0 : Below w.heap.size w (w.alloc (.cells #[.int .i64 A, .int .i64 B, .int .i64 C] 25)) := (Below.refl _ _).alloc (Nat.le_refl _) _
  have U0 : UnitOK (w.alloc (.cells #[.int .i64 A, .int .i64 B, .int .i64 C] 25)) := Kq.alloc hU _
  have HR := Lib.hid hR
  have HN := Lib.hid hn
  have HFr := Lib.hid hf
  have HL := Lib.hid hl
  have HA := Lib.hid h
  have HU := Lib.hid hU
  clear hR hn hf hl h hU
  have L0c := L0.cells
  go_enter Tryz.func95, Tryz.ntmps95
  go_wp2_with fail
  refine (products_any (R := []) f A B C HFr.out HL.out (fun r hr => by cases hr) (SRow.nil 0 6 _ _) (by simp) U0).mono ?_
  rintro e w1 ⟨b1, n1, Q1, rfl, hb1, hM1, hnd1, hmem1, hbl1⟩
  have L1 := L0.call hbl1
  have B1 := bstep B0 hbl1
  have hb1' : w.heap.size + 1 ≤ b1 := by simpa using hb1
  clear hbl1 L0 B0 U0 L0c hb1
  obtain ⟨_, _, h1⟩ := id HA.out
  by_cases hz : R.length = 0
  · obtain ⟨ao, cap', rfl⟩ : ∃ ao cap, v = .slice ao 0 cap := by
      rcases h1 with ⟨_, h⟩ | ⟨g', cap', h, _⟩
      · exact h
      · exact ⟨_, cap', by rw [h, hz]⟩
    have HMk : Hid (Mak f A B C R R.length []) := Lib.hid (by rw [hz]; exact Mak.start f A B C R)
    have HQ := Lib.hid (show Found A B C [] Q1 from ⟨hnd1, hmem1⟩)
    clear h1 hz hnd1 hmem1
    go_wp2_with fail
    go_loopw [5, 6, 14] (fun s5 s6 s14 W => s6 = .map (some b1) ∧ s14 = .int .i64 ((0 : Nat) : Int) ∧ W = w1) (fun _ _ _ _ => 0)
    case atStart => exact ⟨rfl, rfl, rfl⟩
    case round =>
      obtain ⟨rfl, rfl, rfl⟩ := hrel
      have hFd := HQ.out
      have hM2 : MapIs wr b1 n1 Q1 := hM1
      have hB := B1
      clear hM1 B1 L1 hb1'
      have HFd := Lib.hid hFd
      have hBl := hM2.lt
      clear hFd
      have zB := hB.size
      go_wp2_with fail
      refine (keysC_any _ _).mono ?_
      rintro e w5 ⟨rfl, rfl⟩
      have hS := sortKeys_any HFr.out HL.out HR.out HMk.out HFd.out b1 n1 wr.heap.size (wr.alloc (.cells #[.map (some b1)] 180)) (by simp) (by simp [go_sem]) (hM2.alloc _)
      have B5 := hB.alloc zB (.cells #[.map (some b1)] 180)
      clear hM2 hB
      go_wp2_with fail
      refine hS.mono ?_
      rintro e w6 ⟨v6, L6, rfl, hC6, hr6, hb6⟩
      have z5 := B5.size
      have B6 := bstep B5 hb6
      have HC6 := Lib.hid hC6
      clear hC6 hS B5 hb6
      go_wp2
      go_ret
      exact ⟨v6, L6, rfl, HC6.out, ownsRow_lower hr6 z5, B6⟩
  · obtain ⟨ga, cap', rfl, _, hga, RA⟩ := h1.resolve_left (fun h => hz h.1)
    have hRA := HA.out.1
    have HRA := Lib.hid (show IRow ga (R.length * 6) (fm R) w ∧ ga < w.heap.size from ⟨RA, by omega⟩)
    clear h1 hz RA hga hRA
    go_wp2_with fail
    go_loopw [5, 6, 14] (fun s5 s6 s14 W => ∃ k : Nat, s14 = .int .i64 (k : Int) ∧ k ≤ R.length ∧ ∃ (Ms Q : List M6) (b n : Nat), Mak f A B C R k Ms ∧ W.ownsRow (w.heap.size + 1) 115 6 s5 Ms.length (cells6 Ms) ∧ s6 = .map (some b) ∧ w.heap.size + 1 ≤ b ∧ MapIs W b n Q ∧ Found A B C Ms Q ∧ Kt w.heap.size A B C W ∧ Below w.heap.size w W) (fun _ _ s14 _ => R.length - (intOf s14).toNat)
    case atStart => exact ⟨0, rfl, by omega, [], Q1, b1, n1, Mak.start f A B C R, own_nil6 _ _ _, rfl, hb1', hM1, ⟨hnd1, hmem1⟩, L1, B1⟩
    case round =>
      clear hM1 hnd1 hmem1 hb1' L1 B1
      obtain ⟨k, rfl, hk, Ms, Q, b, n, hMk, hown, rfl, hbb, hM2, hFd, hL, hB⟩ := hrel
      by_cases hk1 : k < R.length
      · have hk2 : (k : Int) < (R.length : Int) := by omega
        have hn := HN.out
        have hk3 : (k : Int) ≤ 1048576 := by omega
        have q1 := (HRA.out.1.grow hB HRA.out.2).mo k hk1
        have hgM := hMk.g.good HR.out
        have hlen := hMk.len HFr.out HL.out HR.out
        have HQS := Lib.hid (hFd.sm HFr.out HL.out hgM)
        have HSM := Lib.hid (good_sm HFr.out HL.out (HR.out _ (List.getElem_mem hk1))).1
        have HH := Lib.hid (fun (h : R[k] ∈ Q) => (show Mak f A B C R (k + 1) Ms from ⟨hMk.g.has hk1 ((hFd.mem _).1 h), hMk.nd⟩))
        have HD := Lib.hid (fun (h : R[k] ∉ Q) => hMk.adds HL.out HR.out hk1 (fun h' => h ((hFd.mem _).2 h')))
        have HK := Lib.hid (show k < R.length ∧ Ms.length ≤ 768 from ⟨hk1, hlen⟩)
        clear hMk hgM hk hlen
        generalize R[k] = m at q1 HSM HH HD
        obtain ⟨a, b', c, d, x, y⟩ := m
        dsimp only at q1
        obtain ⟨q10, q11, q12, q13, q14, q15, q16⟩ := id q1
        have zB := hB.size
        have hLl := kt_lt hL
        have hml := hM2.lt
        have X0 : Km wr.heap.size a b' c d x y (wr.alloc (.cells #[.int .i64 a, .int .i64 b', .int .i64 c, .int .i64 d, .int .i64 x, .int .i64 y] 115)) := Km.at _ rfl
        have L3 : Kt w.heap.size A B C (wr.alloc (.cells #[.int .i64 a, .int .i64 b', .int .i64 c, .int .i64 d, .int .i64 x, .int .i64 y] 115)) := hL.alloc _
        have O3 : (wr.alloc (.cells #[.int .i64 a, .int .i64 b', .int .i64 c, .int .i64 d, .int .i64 x, .int .i64 y] 115)).ownsRow (w.heap.size + 1) 115 6 u5 Ms.length (cells6 Ms) := hown.alloc _
        have M3 : MapIs (wr.alloc (.cells #[.int .i64 a, .int .i64 b', .int .i64 c, .int .i64 d, .int .i64 x, .int .i64 y] 115)) b n Q := hM2.alloc _
        have B3 : Below w.heap.size w (wr.alloc (.cells #[.int .i64 a, .int .i64 b', .int .i64 c, .int .i64 d, .int .i64 x, .int .i64 y] 115)) := hB.alloc zB _
        have X0c := X0.cells
        have z3 := B3.size
        clear hL hown hM2 hB q1
        rcases hd : decide ((a, b', c, d, x, y) ∈ Q) with _ | _
        · have HG2 := Lib.hid (HD.out (of_decide_eq_false hd))
          clear HH HD
          have hQ9 : ∀ r, u5.ownBlock = some r → w.heap.size + 1 ≤ r ∧ r < wr.heap.size + 1 := fun r hr => by have := O3.lt r hr; simpa using this
          have HQ9 := Lib.hid hQ9
          clear hQ9
          go_wp2_with (first
            | (at_lookup; refine wpList_look6 rfl _ _ rfl b n Q (a, b', c, d, x, y) rfl rfl M3 HQS.out HSM.out false hd ?_)
            | (at_builtin; refine wpList_append_own _ rfl _ _ 104 rfl (w.heap.size + 1) 115 i0 (.agg #[.int .i64 0, .int .i64 0, .int .i64 0, .int .i64 0, .int .i64 0, .int .i64 0]) 6 48 Tryz.underlying104 hinf hz0 hz1 hz2 rfl (by decide) _ _ _ rfl (O3.alloc _) ⟨wr.heap.size + 1, 0, none⟩ 1 1 [.int .i64 a, .int .i64 b', .int .i64 c, .int .i64 d, .int .i64 x, .int .i64 y] rfl rfl (new_six _ _ _ _ _ _ _ (by simp)) one_six (by have := HK.out; unfold maxLen; omega) (by have := HK.out; omega) (by simp; omega) ?_; intro v9 w9 hown9 hgrow _; have hL9 : Kt w.heap.size A B C w9 := Kt.grown (L3.alloc _) hgrow (fun e => by have := HQ9.out _ e.symm; omega); have hL9c := hL9.cells))
          have O9 := own_next6 hown9
          have B9 : Below w.heap.size w w9 := Below.grown (B3.alloc z3 _) hgrow (by simp; omega) (fun r hr => by have := HQ9.out _ hr; omega)
          have z9 := B9.size
          have hl9 : (Ms ++ [(a, b', c, d, x, y)]).length ≤ 769 := by have := HK.out; simp; omega
          have S9 := SRow.big6 O9 (by omega)
          have g9 := HG2.out.g.good HR.out
          have U9 : UnitOK w9 := Kq.call HU.out B9
          clear hown9 hgrow X0 X0c L3 O3 M3 B3 z3
          refine (products_any f A B C HFr.out HL.out g9 S9 (by omega) U9).mono ?_
          rintro e w10 ⟨b10, n10, Q10, rfl, hb10, hM10, hnd10, hmem10, hbl10⟩
          have hL10 := hL9.call hbl10
          have O10 := ownsRow_call O9 hbl10
          have B10 := bstep B9 hbl10
          have hb11 : w.heap.size + 1 ≤ b10 := by have := kt_lt hL9; omega
          clear S9 g9 U9 O9 B9 hL9 hL9c hbl10 hb10
          go_wp2
          go_roundw
          case rel => exact ⟨k + 1, by go_num, by have := HK.out; omega, Ms ++ [(a, b', c, d, x, y)], Q10, b10, n10, HG2.out, O10, rfl, hb11, hM10, ⟨hnd10, hmem10⟩, hL10, B10⟩
          case measure => (have := HK.out); first | (simp [intOf]; done) | (simp [intOf]; omega)
        · have HG2 := Lib.hid (HH.out (of_decide_eq_true hd))
          clear HH HD
          go_wp2_with (at_lookup; refine wpList_look6 rfl _ _ rfl b n Q (a, b', c, d, x, y) rfl rfl M3 HQS.out HSM.out true hd ?_)
          go_roundw
          case rel => exact ⟨k + 1, by go_num, by have := HK.out; omega, Ms, Q, b, n, HG2.out, O3, rfl, hbb, M3, hFd, L3, B3⟩
          case measure => (have := HK.out); first | (simp [intOf]; done) | (simp [intOf]; omega)
      · obtain rfl : k = R.length := by omega
        have HMk := Lib.hid hMk
        clear hMk hk hk1 hown hL
        have HFd := Lib.hid hFd
        have hBl := hM2.lt
        clear hFd
        have zB := hB.size
        go_wp2_with fail
        refine (keysC_any _ _).mono ?_
        rintro e w5 ⟨rfl, rfl⟩
        have hS := sortKeys_any HFr.out HL.out HR.out HMk.out HFd.out b n wr.heap.size (wr.alloc (.cells #[.map (some b)] 180)) (by simp) (by simp [go_sem]) (hM2.alloc _)
        have B5 := hB.alloc zB (.cells #[.map (some b)] 180)
        clear hM2 hB
        go_wp2_with fail
        refine hS.mono ?_
        rintro e w6 ⟨v6, L6, rfl, hC6, hr6, hb6⟩
        have z5 := B5.size
        have B6 := bstep B5 hb6
        have HC6 := Lib.hid hC6
        clear hC6 hS B5 hb6
        go_wp2
        go_ret
        exact ⟨v6, L6, rfl, HC6.out, ownsRow_lower hr6 z5, B6⟩
end
end Go.Proofs.YtmadgbbkkkibcaaGreatDoor

namespace Go.Proofs.YtmadgbbkkkibcaaGreatDoor
section
open Go.RowKit Go.Maps
set_option linter.unusedSimpArgs false
set_option linter.unusedVariables false

attribute [local go_sem ↓] eqM6
set_option maxRecDepth 100000 in
set_option maxHeartbeats 4000000 in
theorem listed_any (m n : M6) (w : World) :
    Calls Tryz.prog 177 #[.agg #[.int .i64 (m.1), .int .i64 (m.2.1), .int .i64 (m.2.2.1), .int .i64 (m.2.2.2.1), .int .i64 (m.2.2.2.2.1), .int .i64 (m.2.2.2.2.2)], .agg #[.int .i64 (n.1), .int .i64 (n.2.1), .int .i64 (n.2.2.1), .int .i64 (n.2.2.2.1), .int .i64 (n.2.2.2.2.1), .int .i64 (n.2.2.2.2.2)]] w fun e w' => e = .returned (.bool (decide (m = n))) ∧ Below w.heap.size w w' := by
  have EA := Lib.hid (eqT6_dec m n)
  obtain ⟨a, b, c, d, x, y⟩ := m
  obtain ⟨a', b', c', d', x', y'⟩ := n
  dsimp only at EA ⊢
  have M0 : Km (w.heap.size) a b c d x y ((w.alloc (.cells #[.int .i64 a, .int .i64 b, .int .i64 c, .int .i64 d, .int .i64 x, .int .i64 y] 115)).alloc (.cells #[.int .i64 a', .int .i64 b', .int .i64 c', .int .i64 d', .int .i64 x', .int .i64 y'] 36)) := ((Km.at (w.heap.size) rfl).alloc _)
  have N0 : Km (w.heap.size + 1) a' b' c' d' x' y' ((w.alloc (.cells #[.int .i64 a, .int .i64 b, .int .i64 c, .int .i64 d, .int .i64 x, .int .i64 y] 115)).alloc (.cells #[.int .i64 a', .int .i64 b', .int .i64 c', .int .i64 d', .int .i64 x', .int .i64 y'] 36)) := (Km.at (w.heap.size + 1) (by simp))
  have B0 : Below w.heap.size w ((w.alloc (.cells #[.int .i64 a, .int .i64 b, .int .i64 c, .int .i64 d, .int .i64 x, .int .i64 y] 115)).alloc (.cells #[.int .i64 a', .int .i64 b', .int .i64 c', .int .i64 d', .int .i64 x', .int .i64 y'] 36)) := (Below.alloc (Below.alloc (Below.refl _ _) (by first | with_reducible exact Nat.le_refl _ | (simp <;> omega)) _) (by first | with_reducible exact Nat.le_refl _ | (simp <;> omega)) _)
  go_enter Tryz.func177, Tryz.ntmps177
  have M0lt := M0.1
  have N0lt := N0.1
  go_wp2_with fail
  go_region_held3 (fun W => (W.cell? ⟨w.heap.size, 0, none⟩ = some (.int .i64 a) ∧ W.cell? ⟨w.heap.size, 1, none⟩ = some (.int .i64 b) ∧ W.cell? ⟨w.heap.size, 2, none⟩ = some (.int .i64 c) ∧ W.cell? ⟨w.heap.size, 3, none⟩ = some (.int .i64 d) ∧ W.cell? ⟨w.heap.size, 4, none⟩ = some (.int .i64 x) ∧ W.cell? ⟨w.heap.size, 5, none⟩ = some (.int .i64 y)) ∧ (W.cell? ⟨w.heap.size + 1, 0, none⟩ = some (.int .i64 a') ∧ W.cell? ⟨w.heap.size + 1, 1, none⟩ = some (.int .i64 b') ∧ W.cell? ⟨w.heap.size + 1, 2, none⟩ = some (.int .i64 c') ∧ W.cell? ⟨w.heap.size + 1, 3, none⟩ = some (.int .i64 d') ∧ W.cell? ⟨w.heap.size + 1, 4, none⟩ = some (.int .i64 x') ∧ W.cell? ⟨w.heap.size + 1, 5, none⟩ = some (.int .i64 y'))) ((refine ⟨Km.cells ?_, Km.cells ?_⟩ <;> repeat (first | with_reducible assumption | with_reducible refine Km.drew ?_ | with_reducible refine Km.alloc ?_ _ | with_reducible refine Km.call ?_ (by with_reducible assumption) | ((with_reducible refine Km.put ?_ ?_); (first | omega | (dsimp only; omega))) | ((with_reducible refine Km.far ?_ ?_); (first | omega | (dsimp only; omega))))))
    (first
      | (go_at_call 101; ((with_reducible refine (asMo_any _ _ _ _ _ _ _).mono ?_); rintro e w1 ⟨rfl, hb1⟩; have M1 : Km (w.heap.size) a b c d x y w1 := (by repeat (first | with_reducible assumption | with_reducible refine Km.drew ?_ | with_reducible refine Km.alloc ?_ _ | with_reducible refine Km.call ?_ (by with_reducible assumption))); have N1 : Km (w.heap.size + 1) a' b' c' d' x' y' w1 := (by repeat (first | with_reducible assumption | with_reducible refine Km.drew ?_ | with_reducible refine Km.alloc ?_ _ | with_reducible refine Km.call ?_ (by with_reducible assumption))); have M1l := M1.1; have N1l := N1.1; have B1 : Below w.heap.size w w1 := (by repeat (first | with_reducible assumption | with_reducible refine Below.drew ?_ | with_reducible refine Below.alloc ?_ (by first | omega | (have := B0.size; simp <;> omega)) _ | with_reducible refine bstep ?_ (by with_reducible assumption))))))
  all_goals
    go_wp2
    go_ret
    refine ⟨ret_bool EA.out, ?_⟩
    repeat (first | with_reducible assumption | with_reducible exact Below.refl _ _ | with_reducible refine Below.setCell ?_ (by first | omega | (simp <;> omega)) _ | with_reducible refine Below.alloc ?_ (by first | omega | (simp <;> omega)) _ | with_reducible refine bstep ?_ (by with_reducible assumption) | with_reducible refine Below.drew ?_)

set_option maxRecDepth 100000 in
set_option maxHeartbeats 8000000 in
theorem equalFunc_any {lo hi base : Nat} {v v' : Value} {xs ys : List M6} {w : World} (h1 : w.ownsRow base 115 6 v xs.length (cells6 xs)) (hx : xs.length ≤ 768) (h0 : 0 < xs.length) (h2 : SRow lo hi 6 v' ys.length (fm ys) w) (hy : ys.length ≤ 1048576) :
    Calls Tryz.prog 178 #[v, v', .func (.func 177) #[] #[]] w fun e w' => e = .returned (.bool (decide (xs = ys))) ∧ Below w.heap.size w w' := by
  obtain ⟨g, cap, rfl, hO⟩ := KOw.of h1 h0
  obtain ⟨ga, capa, rfl⟩ : ∃ ga capa, v' = .slice ga ys.length capa := by
    rcases h2.2.2 with ⟨hz, ao, cap', rfl⟩ | ⟨g', cap', rfl, _⟩
    · exact ⟨ao, cap', by rw [hz]⟩
    · exact ⟨_, cap', rfl⟩
  have HX := Lib.hid (show xs.length ≤ 768 ∧ 0 < xs.length ∧ ys.length ≤ 1048576 from ⟨hx, h0, hy⟩)
  by_cases hl : xs.length = ys.length
  · have h2' := h2.2.2.resolve_left (fun h => by omega)
    obtain ⟨g', cap', he, _, hg', RA⟩ := h2'
    simp only [Value.slice.injEq] at he
    obtain ⟨rfl, _, rfl⟩ := he
    have hgw := hO.lt
    have hnw : ((xs.length : Int) != (ys.length : Int)) = false := by simp [hl]
    have h2s := h2.1
    have HR := Lib.hid (show KOw g base cap 115 xs w ∧ IRow g' (ys.length * 6) (fm ys) w ∧ g' < w.heap.size from ⟨hO, RA, by omega⟩)
    clear h1 h2 hO RA hx h0 hy hgw hg' h2s
    have HE := Lib.hid hl
    clear hl
    go_enter Tryz.func178, Tryz.ntmps178
    go_wp2_with fail
    go_loopw [17] (fun s17 W => ∃ k : Nat, s17 = .int .i64 (k : Int) ∧ k ≤ xs.length ∧ xs.take k = ys.take k ∧ Below w.heap.size w W) (fun s17 _ => xs.length - (intOf s17).toNat)
    case atStart => exact ⟨0, rfl, by omega, by simp, Below.refl _ _⟩
    case round =>
      obtain ⟨k, rfl, hk, hT, hB⟩ := hrel
      by_cases hk1 : k < xs.length
      · have hk2 : (k : Int) < (xs.length : Int) := by omega
        have hky : k < ys.length := by have := HE.out; omega
        have hk4 : (k : Int) < (ys.length : Int) := by omega
        have hk3 : (k : Int) ≤ 768 := by have := HX.out; omega
        have q1 := (SRow.of6 HR.out.1 (by have := HX.out; omega)).2.2.resolve_left (fun h => by omega)
        obtain ⟨g9, c9, e9, _, hg9, r9⟩ := q1
        simp only [Value.slice.injEq, Option.some.injEq, Addr.mk.injEq, and_true, true_and] at e9
        obtain ⟨rfl, e10⟩ := e9
        clear e10
        have p1 := (r9.grow hB hg9).mo k hk1
        have p2 := (HR.out.2.1.grow hB HR.out.2.2).mo k hky
        have HT1 := Lib.hid (fun (h : xs[k] = ys[k]) => (show xs.take (k + 1) = ys.take (k + 1) by rw [List.take_succ_eq_append_getElem hk1, List.take_succ_eq_append_getElem hky, hT, h]))
        have HT2 := Lib.hid (fun (h : ¬ xs[k] = ys[k]) => (show decide (xs = ys) = false from decide_eq_false (fun e => h (by subst e; rfl))))
        have HK := Lib.hid hk1
        clear r9 hT hk
        generalize xs[k] = m at p1 HT1 HT2
        generalize ys[k] = n at p2 HT1 HT2
        clear hk1 hky
        have CL := Lib.hid (fun W => listed_any m n W)
        obtain ⟨a, b, c, d, x, y⟩ := m
        obtain ⟨a', b', c', d', x', y'⟩ := n
        dsimp only at p1 p2 CL
        obtain ⟨p10, p11, p12, p13, p14, p15, p16⟩ := id p1
        obtain ⟨p20, p21, p22, p23, p24, p25, p26⟩ := id p2
        have zB := hB.size
        have X1 : Km wr.heap.size a b c d x y ((wr.alloc (.cells #[.int .i64 a, .int .i64 b, .int .i64 c, .int .i64 d, .int .i64 x, .int .i64 y] 115)).alloc (.cells #[.int .i64 a', .int .i64 b', .int .i64 c', .int .i64 d', .int .i64 x', .int .i64 y'] 36)) := (Km.at _ rfl).alloc _
        have X2 : Km (wr.heap.size + 1) a' b' c' d' x' y' ((wr.alloc (.cells #[.int .i64 a, .int .i64 b, .int .i64 c, .int .i64 d, .int .i64 x, .int .i64 y] 115)).alloc (.cells #[.int .i64 a', .int .i64 b', .int .i64 c', .int .i64 d', .int .i64 x', .int .i64 y'] 36)) := Km.at _ (by simp)
        have B3 : Below w.heap.size w ((wr.alloc (.cells #[.int .i64 a, .int .i64 b, .int .i64 c, .int .i64 d, .int .i64 x, .int .i64 y] 115)).alloc (.cells #[.int .i64 a', .int .i64 b', .int .i64 c', .int .i64 d', .int .i64 x', .int .i64 y'] 36)) := (hB.alloc zB _).alloc (by simp; omega) _
        have X1c := X1.cells
        have X2c := X2.cells
        rcases hd : decide (((a, b, c, d, x, y) : M6) = (a', b', c', d', x', y')) with _ | _
        · have HF := Lib.hid (HT2.out (of_decide_eq_false hd))
          rw [hd] at CL
          clear HT1 HT2 hd p1 p2
          go_wp2_with fail
          refine (CL.out _).mono ?_
          rintro e w5 ⟨rfl, hb5⟩
          have B5 := bstep B3 hb5
          clear hb5 B3 X1 X2 X1c X2c CL
          go_wp2
          go_ret
          exact ⟨ret_bool HF.out.symm, B5⟩
        · have HF := Lib.hid (HT1.out (of_decide_eq_true hd))
          rw [hd] at CL
          clear HT1 HT2 hd p1 p2
          go_wp2_with fail
          refine (CL.out _).mono ?_
          rintro e w5 ⟨rfl, hb5⟩
          have B5 := bstep B3 hb5
          clear hb5 B3 X1 X2 X1c X2c CL p10 p11 p12 p13 p14 p15 p16 p20 p21 p22 p23 p24 p25 p26
          go_wp2
          go_roundw
          case rel => exact ⟨k + 1, by go_num, by have := HK.out; omega, HF.out, B5⟩
          case measure => (have := HK.out); first | (simp [intOf]; done) | (simp [intOf]; omega)
      · obtain rfl : k = xs.length := by omega
        have HF := Lib.hid (show decide (xs = ys) = true from decide_eq_true (by rw [List.take_length, HE.out, List.take_length] at hT; exact hT))
        clear hT
        go_wp2
        go_ret
        exact ⟨ret_bool HF.out.symm, hB⟩
  · have hnw : ((xs.length : Int) != (ys.length : Int)) = true := by simp; omega
    have HF := Lib.hid (show decide (xs = ys) = false from decide_eq_false (fun e => hl (by rw [e])))
    clear h1 h2 hO hl
    go_enter Tryz.func178, Tryz.ntmps178
    go_wp2
    go_ret
    exact ⟨ret_bool HF.out.symm, Below.refl _ _⟩

def GrpPost (f A B C : Int) (xs : List M6) (w : World) (e : Ending) (w' : World) : Prop :=
  ∃ v : Value, e = .returned (.tuple #[v, .int .i64 (cod6 f A B C (grpB f A B C xs))]) ∧ (grpB f A B C xs = true → w'.ownsRow w.heap.size 115 6 v xs.length (cells6 xs)) ∧ (grpB f A B C xs = false → v = .slice none 0 0) ∧ Below w.heap.size w w'
set_option maxRecDepth 100000 in
set_option maxHeartbeats 8000000 in
theorem groupOf_any {lo hi : Nat} {v : Value} {xs : List M6} {w : World} (f A B C : Int) (h : SRow lo hi 6 v xs.length (fm xs) w) (hn : xs.length ≤ 1048576) (hU : UnitOK w) :
    Calls Tryz.prog 108 #[.int .i64 f, .agg #[.int .i64 A, .int .i64 B, .int .i64 C], v] w (GrpPost f A B C xs w) := by
  have HN := Lib.hid hn
  have L0 : Kt w.heap.size A B C (w.alloc (.cells #[.int .i64 A, .int .i64 B, .int .i64 C] 25)) := Kt.at _ rfl
  have B0 : Below w.heap.size w (w.alloc (.cells #[.int .i64 A, .int .i64 B, .int .i64 C] 25)) := (Below.refl _ _).alloc (Nat.le_refl _) _
  have A0 : SRow lo hi 6 v xs.length (fm xs) (w.alloc (.cells #[.int .i64 A, .int .i64 B, .int .i64 C] 25)) := h.grow ((Below.refl w.heap.size w).alloc (Nat.le_refl _) _) h.1
  have L0c := L0.cells
  rcases hF : flB f A B C with _ | _
  · have HG := Lib.hid (grp_fl (L := xs) hF)
    have HE := Lib.hid (show cod6 f A B C (grpB f A B C xs) = 1 by simp [cod6, hF])
    have HC := Lib.hid (show cod6 f A B C (allOk f A B C xs) = 1 by simp [cod6, hF])
    have HV := Lib.hid (show (flB f A B C && allOk f A B C xs) = false by simp [hF])
    clear hn
    go_enter Tryz.func108, Tryz.ntmps108
    go_wp2_with fail
    refine (redMs_any f A B C A0 HN.out).mono ?_
    rintro e w1 ⟨v1, he, hv, _, hb1⟩
    rw [HC.out] at he
    have hv1 : v1 = .slice none 0 0 := by simpa [HV.out] using hv
    subst hv1 he
    have B1 := bstep B0 hb1
    clear hv hb1 B0 A0 L0 L0c h
    go_wp2
    go_ret2
    exact ⟨_, ret_pair (by rfl) HE.out.symm, fun hh => (by rw [HG.out] at hh; cases hh), fun _ => rfl, B1⟩
  rcases hK : allOk f A B C xs with _ | _
  · have HG := Lib.hid (all_not hK)
    have HE := Lib.hid (show cod6 f A B C (grpB f A B C xs) = 2 by simp [cod6, hF, HG.out])
    have HC := Lib.hid (show cod6 f A B C (allOk f A B C xs) = 2 by simp [cod6, hF, hK])
    have HV := Lib.hid (show (flB f A B C && allOk f A B C xs) = false by simp [hK])
    clear hn
    go_enter Tryz.func108, Tryz.ntmps108
    go_wp2_with fail
    refine (redMs_any f A B C A0 HN.out).mono ?_
    rintro e w1 ⟨v1, he, hv, _, hb1⟩
    rw [HC.out] at he
    have hv1 : v1 = .slice none 0 0 := by simpa [HV.out] using hv
    subst hv1 he
    have B1 := bstep B0 hb1
    clear hv hb1 B0 A0 L0 L0c h
    go_wp2
    go_ret2
    exact ⟨_, ret_pair (by rfl) HE.out.symm, fun hh => (by rw [HG.out] at hh; cases hh), fun _ => rfl, B1⟩
  obtain ⟨hf, hl⟩ := flB_parts hF
  have HFr := Lib.hid hf
  have HL := Lib.hid hl
  have HR := Lib.hid (all_good hK)
  have HK := Lib.hid (show flB f A B C = true ∧ allOk f A B C xs = true from ⟨hF, hK⟩)
  have HC := Lib.hid (show cod6 f A B C (allOk f A B C xs) = 0 by simp [cod6, hF, hK])
  have HQ := Lib.hid (show ∀ L', IsClos A B C (xs.map (redM A B C)) L' → grpB f A B C xs = decide (L' = xs) from fun L' hL' => grp_eq hF (fun m hm => by unfold allOk at hK; rw [List.all_eq_true] at hK; exact hK m hm) hL')
  have HU := Lib.hid hU
  have HA := Lib.hid (show SRow lo hi 6 v xs.length (fm xs) w from h)
  clear hf hl hF hK hn hU h
  go_enter Tryz.func108, Tryz.ntmps108
  go_wp2_with fail
  refine (redMs_any f A B C A0 HN.out).mono ?_
  rintro e w1 ⟨v1, he, _, hr, hb1⟩
  rw [HC.out] at he
  subst he
  have O1 := hr HK.out.1 HK.out.2
  have L1 := L0.call hb1
  have B1 := bstep B0 hb1
  have U1 : UnitOK w1 := Kq.call HU.out B1
  clear hr hb1 B0 A0 L0 L0c
  have hml : (xs.map (redM A B C)).length = xs.length := List.length_map ..
  rw [← hml] at O1
  have S1 := SRow.big6 O1 (by rw [hml]; exact HN.out)
  have L1c := L1.cells
  have hml2 : (xs.map (redM A B C)).length ≤ 1048576 := by rw [hml]; exact HN.out
  clear hml O1
  go_wp2_with fail
  refine (closure_any f A B C HFr.out HL.out HR.out S1 hml2 U1).mono ?_
  rintro e w2 ⟨v2, L2, rfl, hC2, hr2, hb2⟩
  have B2 := bstep B1 hb2
  have hA2 := HA.out.grow B2 HA.out.1
  have h768 := clos_len HFr.out HL.out HR.out hC2
  have hpos := clos_pos hC2
  have HD := Lib.hid (HQ.out L2 hC2)
  have z1 := B1.size
  clear S1 U1 L1 L1c B1 hb2 hml2 hC2
  go_wp2_with fail
  refine (equalFunc_any hr2 h768 hpos hA2 HN.out).mono ?_
  rintro e w3 ⟨rfl, hb3⟩
  have hr3 := ownsRow_call hr2 hb3
  have B3 := bstep B2 hb3
  clear hr2 hA2 h768 hpos B2 hb3
  rcases hd : decide (L2 = xs) with _ | _
  · have HG := Lib.hid (HD.out.trans hd)
    have HE := Lib.hid (show cod6 f A B C (grpB f A B C xs) = 2 by simp [cod6, HK.out.1, HG.out])
    clear hd hr3
    go_wp2
    go_ret2
    exact ⟨_, ret_pair (by rfl) HE.out.symm, fun hh => (by rw [HG.out] at hh; cases hh), fun _ => rfl, B3⟩
  · have HG := Lib.hid (HD.out.trans hd)
    have HE := Lib.hid (show cod6 f A B C (grpB f A B C xs) = 0 by simp [cod6, HK.out.1, HG.out])
    have hr4 : w3.ownsRow w.heap.size 115 6 v2 xs.length (cells6 xs) := by
      have e := of_decide_eq_true hd
      have h5 := ownsRow_lower hr3 z1
      rw [e] at h5
      exact h5
    clear hd hr3
    go_wp2
    go_ret2
    exact ⟨_, ret_pair (by rfl) HE.out.symm, fun _ => hr4, fun hh => (by rw [HG.out] at hh; cases hh), B3⟩

set_option maxRecDepth 100000 in
set_option maxHeartbeats 4000000 in
theorem implIsGroup_any {lo hi : Nat} {v : Value} {xs : List M6} {w : World} (f A B C : Int) (h : SRow lo hi 6 v xs.length (fm xs) w) (hn : xs.length ≤ 1048576) (hU : UnitOK w) :
    Calls Tryz.prog 29 #[.int .i64 f, .agg #[.int .i64 A, .int .i64 B, .int .i64 C], v] w fun e w' => e = .returned (.bool (grpB f A B C xs)) ∧ Below w.heap.size w w' := by
  have L0 : Kt w.heap.size A B C (w.alloc (.cells #[.int .i64 A, .int .i64 B, .int .i64 C] 25)) := Kt.at _ rfl
  have B0 : Below w.heap.size w (w.alloc (.cells #[.int .i64 A, .int .i64 B, .int .i64 C] 25)) := (Below.refl _ _).alloc (Nat.le_refl _) _
  have A0 : SRow lo hi 6 v xs.length (fm xs) (w.alloc (.cells #[.int .i64 A, .int .i64 B, .int .i64 C] 25)) := h.grow ((Below.refl w.heap.size w).alloc (Nat.le_refl _) _) h.1
  have L0c := L0.cells
  have U0 : UnitOK (w.alloc (.cells #[.int .i64 A, .int .i64 B, .int .i64 C] 25)) := Kq.alloc hU _
  have HE := Lib.hid (show (cod6 f A B C (grpB f A B C xs) == 0) = grpB f A B C xs by
    rcases hF : flB f A B C with _ | _
    · simp [cod6, hF, grp_fl hF]
    · rcases hG : grpB f A B C xs with _ | _ <;> simp [cod6, hF])
  go_enter Tryz.func29, Tryz.ntmps29
  go_wp2_with fail
  refine (groupOf_any f A B C A0 hn U0).mono ?_
  rintro e w1 ⟨v1, rfl, _, _, hb1⟩
  have B1 := bstep B0 hb1
  clear hb1 B0 A0 L0 L0c U0 h hU
  generalize cod6 f A B C (grpB f A B C xs) = r at HE
  go_wp2
  go_ret
  exact ⟨ret_bool HE.out, B1⟩
end
end Go.Proofs.YtmadgbbkkkibcaaGreatDoor

namespace Go.Proofs.YtmadgbbkkkibcaaGreatDoor
section
open Go.RowKit
set_option linter.unusedSimpArgs false
set_option linter.unusedVariables false

attribute [local go_sem ↓] eqM6
theorem srow_nil {lo hi : Nat} {v : Value} {L : List M6} {w : World} (h : SRow lo hi 6 v L.length (fm L) w) (hz : L.length = 0) : L = [] ∧ ∃ ao cap, v = .slice ao 0 cap := by
  refine ⟨List.length_eq_zero_iff.1 hz, ?_⟩
  rcases h.2.2 with ⟨_, ao, cap, rfl⟩ | ⟨g, cap, rfl, _⟩
  · exact ⟨ao, cap, rfl⟩
  · exact ⟨_, cap, by rw [hz]⟩
theorem mid_lt {l h : Nat} (hh : l < h) : l ≤ (l + h) / 2 ∧ (l + h) / 2 < h := by omega
set_option maxRecDepth 100000 in
set_option maxHeartbeats 8000000 in
theorem l06Place_any {lo hi : Nat} {v : Value} {L : List M6} {w : World} (a b c d x y : Int) (h : SRow lo hi 6 v L.length (fm L) w) (hU : Up L) (hn : L.length ≤ 1048576) :
    Calls Tryz.prog 183 #[v, .agg #[.int .i64 a, .int .i64 b, .int .i64 c, .int .i64 d, .int .i64 x, .int .i64 y]] w fun e w' => e = .returned (.int .i64 (plM L (a, b, c, d, x, y) : Nat)) ∧ Below w.heap.size w w' := by
  have X0 : Km w.heap.size a b c d x y (w.alloc (.cells #[.int .i64 a, .int .i64 b, .int .i64 c, .int .i64 d, .int .i64 x, .int .i64 y] 36)) := Km.at _ rfl
  have B0 : Below w.heap.size w (w.alloc (.cells #[.int .i64 a, .int .i64 b, .int .i64 c, .int .i64 d, .int .i64 x, .int .i64 y] 36)) := (Below.refl _ _).alloc (Nat.le_refl _) _
  by_cases hz : L.length = 0
  · obtain ⟨rfl, ao, cap, rfl⟩ := srow_nil h hz
    clear h hU hn hz
    have e0 : (plM [] (a, b, c, d, x, y) : Nat) = 0 := rfl
    rw [e0]
    go_enter Tryz.func183, Tryz.ntmps183
    go_wp2_with fail
    go_loopw [5, 6, 7] (fun s5 s6 s7 W => s5 = .int .i64 ((0 : Nat) : Int) ∧ s6 = .int .i64 ((0 : Nat) : Int) ∧ Below w.heap.size w W) (fun _ _ _ _ => 0)
    case atStart => exact ⟨rfl, rfl, B0⟩
    case round =>
      obtain ⟨rfl, rfl, hB⟩ := hrel
      go_wp2
      go_ret
      exact ⟨rfl, hB⟩
  · have hres := h.2.2.resolve_left (fun h => hz h.1)
    have hhi := h.1
    obtain ⟨g, cap, rfl, _, hg, RA⟩ := hres
    have HRA := Lib.hid (show IRow g (L.length * 6) (fm L) w ∧ g < w.heap.size from ⟨RA, by omega⟩)
    have HP := Lib.hid (show plM L (a, b, c, d, x, y) ≤ L.length ∧ L.length ≤ 1048576 from ⟨plM_le L _, hn⟩)
    have HU := Lib.hid (fun i hi => plM_iff (a, b, c, d, x, y) L hU i hi)
    clear h hU hn hz RA hg hhi
    generalize hp : plM L (a, b, c, d, x, y) = p at HP HU ⊢
    clear hp
    go_enter Tryz.func183, Tryz.ntmps183
    go_wp2_with fail
    go_loopw [5, 6, 7] (fun s5 s6 s7 W => ∃ l h : Nat, s5 = .int .i64 (l : Int) ∧ s6 = .int .i64 (h : Int) ∧ l ≤ p ∧ p ≤ h ∧ h ≤ L.length ∧ Km w.heap.size a b c d x y W ∧ Below w.heap.size w W) (fun s5 s6 _ _ => (intOf s6 - intOf s5).toNat)
    case atStart => exact ⟨0, L.length, rfl, rfl, by omega, HP.out.1, by omega, X0, B0⟩
    case round =>
      clear X0 B0
      obtain ⟨l, h, rfl, rfl, hlp, hph, hhl, hX, hB⟩ := hrel
      by_cases hlh : l < h
      · obtain ⟨hm1, hm2⟩ := mid_lt hlh
        have hdiv : ((l : Int) + (h : Int)).tdiv 2 = (((l + h) / 2 : Nat) : Int) := by rw [Int.tdiv_eq_ediv_of_nonneg (by omega)]; omega
        have hlh2 : (l : Int) < (h : Int) := by omega
        have hN := HP.out.2
        have hh3 : (h : Int) ≤ 1048576 := by omega
        have hmid : (l + h) / 2 < L.length := by omega
        have q1 := (HRA.out.1.grow hB HRA.out.2).mo ((l + h) / 2) hmid
        have HQ := Lib.hid (HU.out ((l + h) / 2) hmid)
        have HK := Lib.hid (show l ≤ p ∧ p ≤ h ∧ h ≤ L.length ∧ l ≤ (l + h) / 2 ∧ (l + h) / 2 < h from ⟨hlp, hph, hhl, hm1, hm2⟩)
        have hmid2 : (((l + h) / 2 : Nat) : Int) < (L.length : Int) := by omega
        generalize L[(l + h) / 2] = m at q1 HQ
        clear hlp hph hhl hm1 hm2 hmid hlh
        generalize hmi : (l + h) / 2 = mid at *
        have HM := Lib.hid hmi
        clear hmi
        obtain ⟨n0, n1, n2, n3, n4, n5⟩ := m
        dsimp only at q1
        have CL := Lib.hid (fun W => l05Less_any n0 n1 n2 n3 n4 n5 a b c d x y W)
        generalize ltM (n0, n1, n2, n3, n4, n5) (a, b, c, d, x, y) = t at CL HQ
        have q1c := q1.cells
        have hXc := hX.cells
        have hXl := km_lt hX
        have zB := hB.size
        rcases t with _ | _
        · have HG := Lib.hid (show p ≤ mid by have := HQ.out; simp at this; omega)
          clear HQ
          go_wp2_with fail
          go_region_held3 (fun W => (W.cell? ⟨w.heap.size, 0, none⟩ = some (.int .i64 a) ∧ W.cell? ⟨w.heap.size, 1, none⟩ = some (.int .i64 b) ∧ W.cell? ⟨w.heap.size, 2, none⟩ = some (.int .i64 c) ∧ W.cell? ⟨w.heap.size, 3, none⟩ = some (.int .i64 d) ∧ W.cell? ⟨w.heap.size, 4, none⟩ = some (.int .i64 x) ∧ W.cell? ⟨w.heap.size, 5, none⟩ = some (.int .i64 y)) ∧ (W.cell? ⟨g, mid * 6, none⟩ = some (.int .i64 n0) ∧ W.cell? ⟨g, mid * 6 + 1, none⟩ = some (.int .i64 n1) ∧ W.cell? ⟨g, mid * 6 + 2, none⟩ = some (.int .i64 n2) ∧ W.cell? ⟨g, mid * 6 + 3, none⟩ = some (.int .i64 n3) ∧ W.cell? ⟨g, mid * 6 + 4, none⟩ = some (.int .i64 n4) ∧ W.cell? ⟨g, mid * 6 + 5, none⟩ = some (.int .i64 n5))) ((refine And.intro (Km.cells ?_) (Ko6.cells ?_)) <;> repeat (first | with_reducible assumption | with_reducible refine Km.drew ?_ | with_reducible refine Km.alloc ?_ _ | with_reducible refine Km.call ?_ (by with_reducible assumption) | with_reducible refine Ko6.drew ?_ | with_reducible refine Ko6.alloc ?_ _ | with_reducible refine Ko6.call ?_ (by with_reducible assumption) | with_reducible refine Kt.drew ?_ | with_reducible refine Kt.alloc ?_ _ | with_reducible refine Kt.call ?_ (by with_reducible assumption)))
            (first
              | (go_at_call 110; with_reducible refine (CL.out _).mono ?_; rintro e u1 ⟨rfl, hb1⟩; have X1 : Km w.heap.size a b c d x y u1 := (by repeat (first | with_reducible assumption | with_reducible refine Km.drew ?_ | with_reducible refine Km.alloc ?_ _ | with_reducible refine Km.call ?_ (by with_reducible assumption) | with_reducible refine Ko6.drew ?_ | with_reducible refine Ko6.alloc ?_ _ | with_reducible refine Ko6.call ?_ (by with_reducible assumption) | with_reducible refine Kt.drew ?_ | with_reducible refine Kt.alloc ?_ _ | with_reducible refine Kt.call ?_ (by with_reducible assumption))); have q2 : Ko6 g (mid * 6) n0 n1 n2 n3 n4 n5 u1 := (by repeat (first | with_reducible assumption | with_reducible refine Km.drew ?_ | with_reducible refine Km.alloc ?_ _ | with_reducible refine Km.call ?_ (by with_reducible assumption) | with_reducible refine Ko6.drew ?_ | with_reducible refine Ko6.alloc ?_ _ | with_reducible refine Ko6.call ?_ (by with_reducible assumption) | with_reducible refine Kt.drew ?_ | with_reducible refine Kt.alloc ?_ _ | with_reducible refine Kt.call ?_ (by with_reducible assumption))); have B1 : Below w.heap.size w u1 := (by repeat (first | with_reducible assumption | with_reducible exact Below.refl _ _ | with_reducible refine Below.alloc ?_ (by first | omega | (simp <;> omega)) _ | with_reducible refine bstep ?_ (by with_reducible assumption) | with_reducible refine Below.drew ?_))))
          all_goals
            go_wp2
            go_roundw
            case rel => exact ⟨l, mid, rfl, rfl, HK.out.1, HG.out, by have := HK.out; omega, X1, B1⟩
            case measure => (have := HK.out); first | (simp [intOf]; done) | (simp [intOf]; omega)
        · have HG := Lib.hid (show mid < p by have := HQ.out; simpa using this)
          clear HQ
          go_wp2_with fail
          go_region_held3 (fun W => (W.cell? ⟨w.heap.size, 0, none⟩ = some (.int .i64 a) ∧ W.cell? ⟨w.heap.size, 1, none⟩ = some (.int .i64 b) ∧ W.cell? ⟨w.heap.size, 2, none⟩ = some (.int .i64 c) ∧ W.cell? ⟨w.heap.size, 3, none⟩ = some (.int .i64 d) ∧ W.cell? ⟨w.heap.size, 4, none⟩ = some (.int .i64 x) ∧ W.cell? ⟨w.heap.size, 5, none⟩ = some (.int .i64 y)) ∧ (W.cell? ⟨g, mid * 6, none⟩ = some (.int .i64 n0) ∧ W.cell? ⟨g, mid * 6 + 1, none⟩ = some (.int .i64 n1) ∧ W.cell? ⟨g, mid * 6 + 2, none⟩ = some (.int .i64 n2) ∧ W.cell? ⟨g, mid * 6 + 3, none⟩ = some (.int .i64 n3) ∧ W.cell? ⟨g, mid * 6 + 4, none⟩ = some (.int .i64 n4) ∧ W.cell? ⟨g, mid * 6 + 5, none⟩ = some (.int .i64 n5))) ((refine And.intro (Km.cells ?_) (Ko6.cells ?_)) <;> repeat (first | with_reducible assumption | with_reducible refine Km.drew ?_ | with_reducible refine Km.alloc ?_ _ | with_reducible refine Km.call ?_ (by with_reducible assumption) | with_reducible refine Ko6.drew ?_ | with_reducible refine Ko6.alloc ?_ _ | with_reducible refine Ko6.call ?_ (by with_reducible assumption) | with_reducible refine Kt.drew ?_ | with_reducible refine Kt.alloc ?_ _ | with_reducible refine Kt.call ?_ (by with_reducible assumption)))
            (first
              | (go_at_call 110; with_reducible refine (CL.out _).mono ?_; rintro e u1 ⟨rfl, hb1⟩; have X1 : Km w.heap.size a b c d x y u1 := (by repeat (first | with_reducible assumption | with_reducible refine Km.drew ?_ | with_reducible refine Km.alloc ?_ _ | with_reducible refine Km.call ?_ (by with_reducible assumption) | with_reducible refine Ko6.drew ?_ | with_reducible refine Ko6.alloc ?_ _ | with_reducible refine Ko6.call ?_ (by with_reducible assumption) | with_reducible refine Kt.drew ?_ | with_reducible refine Kt.alloc ?_ _ | with_reducible refine Kt.call ?_ (by with_reducible assumption))); have q2 : Ko6 g (mid * 6) n0 n1 n2 n3 n4 n5 u1 := (by repeat (first | with_reducible assumption | with_reducible refine Km.drew ?_ | with_reducible refine Km.alloc ?_ _ | with_reducible refine Km.call ?_ (by with_reducible assumption) | with_reducible refine Ko6.drew ?_ | with_reducible refine Ko6.alloc ?_ _ | with_reducible refine Ko6.call ?_ (by with_reducible assumption) | with_reducible refine Kt.drew ?_ | with_reducible refine Kt.alloc ?_ _ | with_reducible refine Kt.call ?_ (by with_reducible assumption))); have B1 : Below w.heap.size w u1 := (by repeat (first | with_reducible assumption | with_reducible exact Below.refl _ _ | with_reducible refine Below.alloc ?_ (by first | omega | (simp <;> omega)) _ | with_reducible refine bstep ?_ (by with_reducible assumption) | with_reducible refine Below.drew ?_))))
          all_goals
            go_wp2
            go_roundw
            case rel => exact ⟨mid + 1, h, by go_num, rfl, by have := HG.out; omega, HK.out.2.1, HK.out.2.2.1, X1, B1⟩
            case measure => (have := HK.out); first | (simp [intOf]; done) | (simp [intOf]; omega)
      · obtain rfl : l = p := by omega
        go_wp2
        go_ret
        exact ⟨rfl, hB⟩
def KOwV (base : Nat) (T : TypeId) (v : Value) (L : List M6) (w : World) : Prop := w.ownsRow base T 6 v L.length (cells6 L)
theorem KOwV.call {base : Nat} {T : TypeId} {v : Value} {L : List M6} {W w1 : World} (h : KOwV base T v L W) (hb : Below W.heap.size W w1) : KOwV base T v L w1 := ownsRow_call h hb
theorem KOwV.alloc {base : Nat} {T : TypeId} {v : Value} {L : List M6} {W : World} (h : KOwV base T v L W) (z : Obj) : KOwV base T v L (W.alloc z) := h.call ((Below.refl _ _).alloc (Nat.le_refl _) _)
theorem KOwV.drew {base : Nat} {T : TypeId} {v : Value} {L : List M6} {W : World} (h : KOwV base T v L W) : KOwV base T v L W.drew := h.call (Below.refl _ _).drew
theorem KOw.cap_le {g base cap : Nat} {T : TypeId} {L : List M6} {W : World} (h : KOw g base cap T L W) : L.length ≤ cap := by
  rcases h.2 with ⟨h', _⟩ | ⟨g', cap', cur, h', _, hg, hc, _⟩
  · cases h'
  · simp only [Value.slice.injEq] at h'
    omega
theorem add_zero6 (g o j : Nat) : (⟨g, o, none⟩ : Addr).add j = ⟨g, o + j, none⟩ := by
  unfold Addr.add
  split
  · rename_i h; subst h; rfl
  · rfl
theorem kow_take {g base cap n : Nat} {T : TypeId} {L : List M6} {W : World} (h : KOw g base cap T L W) : ∀ (j : Nat) (u : Value), (cells6 (L.take n))[j]? = some u → W.cell? ((⟨g, 0, none⟩ : Addr).add j) = some u := by
  intro j u hj
  have h1 := cells6_take L n j u hj
  have hlt : j < (cells6 L).length := (List.getElem?_eq_some_iff.1 h1).1
  rw [add_zero6, Nat.zero_add, World.ownsRow.cellAt h j (by rw [cells6_len] at hlt; exact hlt)]
  exact h1
theorem kow_drop {g base cap n : Nat} {T : TypeId} {L : List M6} {W : World} (h : KOw g base cap T L W) (hn : n ≤ L.length) : ∀ (j : Nat) (u : Value), (cells6 (L.drop n))[j]? = some u → W.cell? ((⟨g, n * 6, none⟩ : Addr).add j) = some u := by
  intro j u hj
  have h1 := cells6_drop L n j u hn hj
  have hlt : n * 6 + j < (cells6 L).length := (List.getElem?_eq_some_iff.1 h1).1
  rw [add_zero6, World.ownsRow.cellAt h (n * 6 + j) (by rw [cells6_len] at hlt; exact hlt)]
  exact h1
theorem lit6 {base : Nat} {T : TypeId} (W : World) (g : Nat) (hg : g = W.heap.size) (hb : base ≤ W.heap.size) : KOwV base T (.slice (some ⟨g, 0, none⟩) 0 0) [] (W.alloc (.cells #[] T)) := by
  subst hg
  have h := World.ownsRow_lit (base := base) (e := T) (size := 6) W #[] 0 hb (by unfold maxLen; omega) rfl
  exact h
theorem app_len (a b : List M6) : (a ++ b).length = a.length + b.length := List.length_append
theorem take6_len {L : List M6} {n : Nat} (h : n ≤ L.length) : (cells6 (L.take n)).length = n * 6 := by rw [cells6_len, List.length_take, Nat.min_eq_left h]
theorem drop6_len {L : List M6} {n : Nat} (h : n ≤ L.length) : (cells6 (L.drop n)).length = (L.length - n) * 6 := by rw [cells6_len, List.length_drop]
theorem km_six {g : Nat} {a b c d x y : Int} {W : World} (h : Km g a b c d x y W) : ∀ (j : Nat) (u : Value), [Value.int .i64 a, .int .i64 b, .int .i64 c, .int .i64 d, .int .i64 x, .int .i64 y][j]? = some u → W.cell? ((⟨g, 0, none⟩ : Addr).add j) = some u := by
  intro j u hj
  obtain ⟨_, h0, h1, h2, h3, h4, h5⟩ := h
  rw [add_zero6, Nat.zero_add]
  match j, hj with
  | 0, e => cases e; exact h0
  | 1, e => cases e; exact h1
  | 2, e => cases e; exact h2
  | 3, e => cases e; exact h3
  | 4, e => cases e; exact h4
  | 5, e => cases e; exact h5
set_option maxRecDepth 100000 in
set_option maxHeartbeats 8000000 in
theorem l06Has_any {lo hi : Nat} {v : Value} {L : List M6} {w : World} (a b c d x y : Int) (h : SRow lo hi 6 v L.length (fm L) w) (hU : Up L) (hn : L.length ≤ 1048576) :
    Calls Tryz.prog 111 #[v, .agg #[.int .i64 a, .int .i64 b, .int .i64 c, .int .i64 d, .int .i64 x, .int .i64 y]] w fun e w' => e = .returned (.bool (decide ((a, b, c, d, x, y) ∈ L))) ∧ Below w.heap.size w w' := by
  have X0 : Km w.heap.size a b c d x y (w.alloc (.cells #[.int .i64 a, .int .i64 b, .int .i64 c, .int .i64 d, .int .i64 x, .int .i64 y] 36)) := Km.at _ rfl
  have B0 : Below w.heap.size w (w.alloc (.cells #[.int .i64 a, .int .i64 b, .int .i64 c, .int .i64 d, .int .i64 x, .int .i64 y] 36)) := (Below.refl _ _).alloc (Nat.le_refl _) _
  have A0 : SRow lo hi 6 v L.length (fm L) (w.alloc (.cells #[.int .i64 a, .int .i64 b, .int .i64 c, .int .i64 d, .int .i64 x, .int .i64 y] 36)) := h.grow ((Below.refl w.heap.size w).alloc (Nat.le_refl _) _) h.1
  have HS := Lib.hid h
  have HY := Lib.hid (fun hp => has_yes (m := (a, b, c, d, x, y)) hU hp)
  have HO := Lib.hid (fun hp => has_no (m := (a, b, c, d, x, y)) hU hp)
  have HP := Lib.hid (show plM L (a, b, c, d, x, y) ≤ L.length ∧ L.length ≤ 1048576 from ⟨plM_le L _, hn⟩)
  have CP := Lib.hid (l06Place_any a b c d x y A0 hU hn)
  obtain ⟨ao, cap, rfl⟩ : ∃ ao cap, v = .slice ao L.length cap := by
    rcases h.2.2 with ⟨hz, ao, cap, rfl⟩ | ⟨g, cap, rfl, _⟩
    · exact ⟨ao, cap, by rw [hz]⟩
    · exact ⟨_, cap, rfl⟩
  clear h hU hn A0
  have X0c := X0.cells
  generalize hp : plM L (a, b, c, d, x, y) = p at HY HO HP CP
  clear hp
  go_enter Tryz.func111, Tryz.ntmps111
  go_wp2_with fail
  refine CP.out.mono ?_
  rintro e w1 ⟨rfl, hb1⟩
  have X1 := X0.call hb1
  have B1 := bstep B0 hb1
  clear hb1 X0 B0 X0c CP
  have X1c := X1.cells
  have X1l := km_lt X1
  by_cases hpl : p < L.length
  · have hpl2 : (p : Int) < (L.length : Int) := by omega
    have hN := HP.out.2
    have hp3 : (p : Int) ≤ 1048576 := by omega
    have hres := HS.out.2.2.resolve_left (fun h => by omega)
    obtain ⟨g, cap', e9, _, hg, RA⟩ := hres
    simp only [Value.slice.injEq, true_and] at e9
    obtain ⟨rfl, rfl⟩ := e9
    have hhi := HS.out.1
    have q1 := (RA.grow B1 (by omega)).mo p hpl
    have HD := Lib.hid (HY.out hpl)
    have hgl : g < w.heap.size := by omega
    have HG := trivial
    clear RA HY HO hg hhi
    generalize L[p] = m at q1 HD
    obtain ⟨n0, n1, n2, n3, n4, n5⟩ := m
    dsimp only at q1
    have HE := Lib.hid (eqT6_dec (n0, n1, n2, n3, n4, n5) (a, b, c, d, x, y))
    dsimp only at HE
    have q1c := q1.cells
    rcases hd : decide (((n0, n1, n2, n3, n4, n5) : M6) = (a, b, c, d, x, y)) with _ | _
    · have he : eqT6 n0 n1 n2 n3 n4 n5 a b c d x y = false := HE.out.trans hd
      have HF := Lib.hid (HD.out.symm.trans hd)
      clear HD HE hd
      go_wp2_with fail
      go_quiet (fail)
      go_wp2
      go_ret
      exact ⟨ret_bool HF.out.symm, by repeat (first | with_reducible assumption | with_reducible exact Below.refl _ _ | with_reducible refine Below.alloc ?_ (by first | omega | (simp <;> omega)) _ | with_reducible refine bstep ?_ (by with_reducible assumption) | with_reducible refine Below.drew ?_ | with_reducible refine below_drewN ?_ _)⟩
    · have he : eqT6 n0 n1 n2 n3 n4 n5 a b c d x y = true := HE.out.trans hd
      have HF := Lib.hid (HD.out.symm.trans hd)
      clear HD HE hd
      go_wp2_with fail
      go_quiet (fail)
      go_wp2
      go_ret
      exact ⟨ret_bool HF.out.symm, by repeat (first | with_reducible assumption | with_reducible exact Below.refl _ _ | with_reducible refine Below.alloc ?_ (by first | omega | (simp <;> omega)) _ | with_reducible refine bstep ?_ (by with_reducible assumption) | with_reducible refine Below.drew ?_ | with_reducible refine below_drewN ?_ _)⟩
  · have hpl2 : ¬ ((p : Int) < (L.length : Int)) := by omega
    have hpl3 : decide (p < L.length) = false := decide_eq_false hpl
    have HF := Lib.hid (HO.out hpl)
    have hN := HP.out.2
    have hp3 : (p : Int) ≤ 1048576 := by have := HP.out.1; omega
    clear HY HO hpl
    go_wp2_with fail
    go_quiet (fail)
    go_wp2
    go_ret
    exact ⟨ret_bool HF.out.symm, by repeat (first | with_reducible assumption | with_reducible exact Below.refl _ _ | with_reducible refine Below.alloc ?_ (by first | omega | (simp <;> omega)) _ | with_reducible refine bstep ?_ (by with_reducible assumption) | with_reducible refine Below.drew ?_ | with_reducible refine below_drewN ?_ _)⟩
set_option maxRecDepth 100000 in
set_option maxHeartbeats 8000000 in
theorem l06Insert_any {base lo hi : Nat} {v : Value} {L : List M6} {w : World} (a b c d x y : Int) (hK : w.ownsRow base 36 6 v L.length (cells6 L)) (hv : ∃ g cap, v = .slice (some ⟨g, 0, none⟩) L.length cap) (h : SRow lo hi 6 v L.length (fm L) w) (hbase : base ≤ w.heap.size) (hU : Up L) (hn : L.length ≤ 100000) :
    Calls Tryz.prog 126 #[v, .agg #[.int .i64 a, .int .i64 b, .int .i64 c, .int .i64 d, .int .i64 x, .int .i64 y]] w fun e w' => ∃ g cap, e = .returned (.slice (some ⟨g, 0, none⟩) (putM L (a, b, c, d, x, y)).length cap) ∧ KOw g base cap 36 (putM L (a, b, c, d, x, y)) w' ∧ (decide ((a, b, c, d, x, y) ∈ L) = false → w.heap.size ≤ g) ∧ Below w.heap.size w w' := by
  obtain ⟨i0, hinf, hz0, hz1, hz2⟩ := info_parts infoMo6
  have hV := Lib.hid hv
  have HUP := Lib.hid hU
  have HOW0 := Lib.hid (show KOwV base 36 v L w from hK)
  have HBS := Lib.hid hbase
  have HN1 := Lib.hid hn
  have HPOS := Lib.hid (show 0 < (putM L (a, b, c, d, x, y)).length from List.length_pos_of_mem (putM_mem.2 (.inl rfl)))
  clear hK hv hbase
  have hn : L.length ≤ 1048576 := by omega
  have X0 : Km w.heap.size a b c d x y (w.alloc (.cells #[.int .i64 a, .int .i64 b, .int .i64 c, .int .i64 d, .int .i64 x, .int .i64 y] 36)) := Km.at _ rfl
  have B0 : Below w.heap.size w (w.alloc (.cells #[.int .i64 a, .int .i64 b, .int .i64 c, .int .i64 d, .int .i64 x, .int .i64 y] 36)) := (Below.refl _ _).alloc (Nat.le_refl _) _
  have A0 : SRow lo hi 6 v L.length (fm L) (w.alloc (.cells #[.int .i64 a, .int .i64 b, .int .i64 c, .int .i64 d, .int .i64 x, .int .i64 y] 36)) := h.grow ((Below.refl w.heap.size w).alloc (Nat.le_refl _) _) h.1
  have HS := Lib.hid h
  have HY := Lib.hid (fun hp => has_yes (m := (a, b, c, d, x, y)) hU hp)
  have HO := Lib.hid (fun hp => has_no (m := (a, b, c, d, x, y)) hU hp)
  have HP := Lib.hid (show plM L (a, b, c, d, x, y) ≤ L.length ∧ L.length ≤ 1048576 from ⟨plM_le L _, hn⟩)
  have CP := Lib.hid (l06Place_any a b c d x y A0 hU hn)
  obtain ⟨ao, cap, rfl⟩ : ∃ ao cap, v = .slice ao L.length cap := by
    rcases h.2.2 with ⟨hz, ao, cap, rfl⟩ | ⟨g, cap, rfl, _⟩
    · exact ⟨ao, cap, by rw [hz]⟩
    · exact ⟨_, cap, rfl⟩
  clear h hU hn A0
  have X0c := X0.cells
  generalize hp : plM L (a, b, c, d, x, y) = p at HY HO HP CP
  have HPE := Lib.hid hp
  clear hp
  go_enter Tryz.func126, Tryz.ntmps126
  go_wp2_with fail
  refine CP.out.mono ?_
  rintro e w1 ⟨rfl, hb1⟩
  have X1 := X0.call hb1
  have B1 := bstep B0 hb1
  clear hb1 X0 B0 X0c CP
  have X1c := X1.cells
  have X1l := km_lt X1
  by_cases hpl : p < L.length
  · have hpl2 : (p : Int) < (L.length : Int) := by omega
    have hN := HP.out.2
    have hp3 : (p : Int) ≤ 1048576 := by omega
    have hres := HS.out.2.2.resolve_left (fun h => by omega)
    obtain ⟨g, cap', e9, _, hg, RA⟩ := hres
    simp only [Value.slice.injEq, true_and] at e9
    obtain ⟨rfl, rfl⟩ := e9
    have hhi := HS.out.1
    have q1 := (RA.grow B1 (by omega)).mo p hpl
    have HD := Lib.hid (HY.out hpl)
    have hgl : g < w.heap.size := by omega
    have HG := trivial
    clear RA HY HO hg hhi
    generalize L[p] = m at q1 HD
    obtain ⟨n0, n1, n2, n3, n4, n5⟩ := m
    dsimp only at q1
    have HE := Lib.hid (eqT6_dec (n0, n1, n2, n3, n4, n5) (a, b, c, d, x, y))
    dsimp only at HE
    have q1c := q1.cells
    rcases hd : decide (((n0, n1, n2, n3, n4, n5) : M6) = (a, b, c, d, x, y)) with _ | _
    · have he : eqT6 n0 n1 n2 n3 n4 n5 a b c d x y = false := HE.out.trans hd
      have HF := Lib.hid (HD.out.symm.trans hd)
      clear HD HE hd
      go_wp2_with fail
      go_quiet (fail)
      go_wp2_with fail
      have XX : Km w.heap.size a b c d x y (w1.drewN nq) := Km.call X1 (below_drewN (Below.refl _ _) _)
      have GG : KOw g base cap 36 L (w1.drewN nq) := KOw.call (KOw.call (show KOw g base cap 36 L w from HOW0.out) B1) (below_drewN (Below.refl _ _) _)
      have BB : Below w.heap.size w (w1.drewN nq) := below_drewN B1 _
      have zB := B1.size
      have zW : (w1.drewN nq).heap.size = w1.heap.size := rfl
      clear X1 X1c q1 q1c B1 HS
      generalize w1.drewN nq = W0 at *
      rw [← zW] at zB X1l
      have hcl := KOw.cap_le GG
      clear zW
      have hpL : p ≤ L.length := by omega
      have hcp : ¬ cap = p := by omega
      have HLEN := Lib.hid (show (L.take p ++ [(a, b, c, d, x, y)]).length = p + 1 by rw [List.length_append, List.length_take, Nat.min_eq_left hpL]; rfl)
      have HL := Lib.hid (put_new HUP.out HF.out)
      rw [HPE.out] at HL
      have Xc := XX.cells
      have hpc : p ≤ cap := by omega
      go_region_held3 (fun W => (W.cell? ⟨w.heap.size, 0, none⟩ = some (.int .i64 a) ∧ W.cell? ⟨w.heap.size, 1, none⟩ = some (.int .i64 b) ∧ W.cell? ⟨w.heap.size, 2, none⟩ = some (.int .i64 c) ∧ W.cell? ⟨w.heap.size, 3, none⟩ = some (.int .i64 d) ∧ W.cell? ⟨w.heap.size, 4, none⟩ = some (.int .i64 x) ∧ W.cell? ⟨w.heap.size, 5, none⟩ = some (.int .i64 y))) ((refine Km.cells ?_) <;> repeat (first | with_reducible assumption | with_reducible refine Km.drew ?_ | with_reducible refine Km.alloc ?_ _ | with_reducible refine Km.call ?_ (by with_reducible assumption) | with_reducible refine KOw.drew ?_ | with_reducible refine KOw.alloc ?_ _ | with_reducible refine KOw.call ?_ (by with_reducible assumption)))
        (first
          | (rw [if_pos (by rfl)]; refine wp_append_own _ _ _ 26 rfl (w.heap.size + 1) 36 i0 (.agg #[.int .i64 0, .int .i64 0, .int .i64 0, .int .i64 0, .int .i64 0, .int .i64 0]) 6 48 Tryz.underlying26 hinf hz0 hz1 hz2 rfl (by decide) _ 0 [] rfl (by first | exact (lit6 W0 W0.heap.size rfl (by omega)) | exact KOwV.drew (lit6 W0 W0.heap.size rfl (by omega)) | exact KOwV.alloc (lit6 W0 W0.heap.size rfl (by omega)) _ | exact KOwV.drew (KOwV.alloc (lit6 W0 W0.heap.size rfl (by omega)) _) | exact KOwV.drew (KOwV.alloc (KOwV.drew (lit6 W0 W0.heap.size rfl (by omega))) _) | exact (lit6 _ (W0.heap.size + 1) (by simp) (by simp; omega)) | exact KOwV.drew (lit6 _ (W0.heap.size + 1) (by simp) (by simp; omega))) ⟨g, 0, none⟩ p _ (cells6 (L.take p)) rfl (take6_len hpL) (kow_take (show KOw g base cap 36 L _ from by repeat (first | with_reducible assumption | with_reducible refine Km.drew ?_ | with_reducible refine Km.alloc ?_ _ | with_reducible refine Km.call ?_ (by with_reducible assumption) | with_reducible refine KOw.drew ?_ | with_reducible refine KOw.alloc ?_ _ | with_reducible refine KOw.call ?_ (by with_reducible assumption)))) (cells6_one _) (by unfold maxLen; omega) (by omega) (by first | omega | (simp <;> omega)) ?_; intro v26 w26 hown26 hgr26 _; have O26 : KOwV (w.heap.size + 1) 36 v26 (L.take p) w26 := (by have h := hown26; unfold KOwV; rw [List.length_take, Nat.min_eq_left hpL]; simpa using h); have G26 : KOw g base cap 36 L w26 := KOw.kept (show KOw g base cap 36 L _ from by repeat (first | with_reducible assumption | with_reducible refine Km.drew ?_ | with_reducible refine Km.alloc ?_ _ | with_reducible refine Km.call ?_ (by with_reducible assumption) | with_reducible refine KOw.drew ?_ | with_reducible refine KOw.alloc ?_ _ | with_reducible refine KOw.call ?_ (by with_reducible assumption))) hgr26 (fun e => by have e2 := Option.some.inj e; first | omega | (simp at e2; done) | (simp at e2; omega)); have X26 : Km w.heap.size a b c d x y w26 := Km.grown (show Km w.heap.size a b c d x y _ from by repeat (first | with_reducible assumption | with_reducible refine Km.drew ?_ | with_reducible refine Km.alloc ?_ _ | with_reducible refine Km.call ?_ (by with_reducible assumption) | with_reducible refine KOw.drew ?_ | with_reducible refine KOw.alloc ?_ _ | with_reducible refine KOw.call ?_ (by with_reducible assumption))) hgr26 (fun e => by have e2 := Option.some.inj e; first | omega | (simp at e2; done) | (simp at e2; omega)); (first | have S26 := Km.grown (Km.at (W0.heap.size + 1) (by simp)) hgr26 (fun e => by have e2 := Option.some.inj e; first | omega | (simp at e2; done) | (simp at e2; omega)) | have S26 := Km.grown (Km.drew (Km.at (W0.heap.size + 1) (by simp))) hgr26 (fun e => by have e2 := Option.some.inj e; first | omega | (simp at e2; done) | (simp at e2; omega)) | have S26 := Km.grown (Km.alloc (Km.at W0.heap.size rfl) _) hgr26 (fun e => by have e2 := Option.some.inj e; first | omega | (simp at e2; done) | (simp at e2; omega)) | have S26 := Km.grown (Km.drew (Km.alloc (Km.at W0.heap.size rfl) _)) hgr26 (fun e => by have e2 := Option.some.inj e; first | omega | (simp at e2; done) | (simp at e2; omega)) | have S26 := Km.grown (Km.alloc (Km.drew (Km.at W0.heap.size rfl)) _) hgr26 (fun e => by have e2 := Option.some.inj e; first | omega | (simp at e2; done) | (simp at e2; omega)) | have S26 := Km.grown (Km.drew (Km.alloc (Km.drew (Km.at W0.heap.size rfl)) _)) hgr26 (fun e => by have e2 := Option.some.inj e; first | omega | (simp at e2; done) | (simp at e2; omega)) | have S26 := trivial); have B26 : Below w.heap.size w w26 := Below.grown (show Below w.heap.size w _ from by repeat (first | with_reducible assumption | with_reducible refine Below.drew ?_ | with_reducible refine Below.alloc ?_ (by first | omega | (simp <;> omega)) _ | with_reducible refine bstep ?_ (by with_reducible assumption))) hgr26 (by first | omega | (simp <;> omega)) (fun r hr => by have e2 := Option.some.inj hr; first | omega | (simp at e2; omega)); have z26 : w.heap.size + 1 ≤ w26.heap.size := km_lt X26)
          | (rw [if_pos (by rfl)]; refine wp_append_own _ _ _ 26 rfl (w.heap.size + 1) 36 i0 (.agg #[.int .i64 0, .int .i64 0, .int .i64 0, .int .i64 0, .int .i64 0, .int .i64 0]) 6 48 Tryz.underlying26 hinf hz0 hz1 hz2 rfl (by decide) _ (L.take p).length (cells6 (L.take p)) rfl (show KOwV (w.heap.size + 1) 36 v26 (L.take p) _ from by repeat (first | with_reducible assumption | with_reducible refine KOwV.drew ?_ | with_reducible refine KOwV.alloc ?_ _)) _ 1 1 [.int .i64 a, .int .i64 b, .int .i64 c, .int .i64 d, .int .i64 x, .int .i64 y] rfl rfl (by first | exact km_six S26 | exact km_six (Km.drew S26) | exact km_six (Km.at _ rfl) | exact km_six (Km.drew (Km.at _ rfl))) one_six (by have hh := take6_len hpL; rw [cells6_len] at hh; unfold maxLen; omega) (by have hh := take6_len hpL; rw [cells6_len] at hh; omega) (by first | omega | (simp <;> omega)) ?_; intro v29 w29 hown29 hgr29 _; have O29 : KOwV (w.heap.size + 1) 36 v29 (L.take p ++ [(a, b, c, d, x, y)]) w29 := own_next6 hown29; have G29 : KOw g base cap 36 L w29 := KOw.kept (show KOw g base cap 36 L _ from by repeat (first | with_reducible assumption | with_reducible refine Km.drew ?_ | with_reducible refine Km.alloc ?_ _ | with_reducible refine Km.call ?_ (by with_reducible assumption) | with_reducible refine KOw.drew ?_ | with_reducible refine KOw.alloc ?_ _ | with_reducible refine KOw.call ?_ (by with_reducible assumption))) hgr29 (fun e => by have := (World.ownsRow.lt O26 _ e.symm).1; omega); have X29 : Km w.heap.size a b c d x y w29 := Km.grown (show Km w.heap.size a b c d x y _ from by repeat (first | with_reducible assumption | with_reducible refine Km.drew ?_ | with_reducible refine Km.alloc ?_ _ | with_reducible refine Km.call ?_ (by with_reducible assumption) | with_reducible refine KOw.drew ?_ | with_reducible refine KOw.alloc ?_ _ | with_reducible refine KOw.call ?_ (by with_reducible assumption))) hgr29 (fun e => by have := (World.ownsRow.lt O26 _ e.symm).1; omega); have B29 : Below w.heap.size w w29 := Below.grown (show Below w.heap.size w _ from by repeat (first | with_reducible assumption | with_reducible refine Below.drew ?_ | with_reducible refine Below.alloc ?_ (by first | omega | (simp <;> omega)) _ | with_reducible refine bstep ?_ (by with_reducible assumption))) hgr29 (by first | omega | (simp <;> omega)) (fun r hr => by have := (World.ownsRow.lt O26 _ hr).1; omega); have z29 : w.heap.size + 1 ≤ w29.heap.size := km_lt X29)
          | (rw [if_pos (by rfl)]; refine wp_append_own _ _ _ 26 rfl (w.heap.size + 1) 36 i0 (.agg #[.int .i64 0, .int .i64 0, .int .i64 0, .int .i64 0, .int .i64 0, .int .i64 0]) 6 48 Tryz.underlying26 hinf hz0 hz1 hz2 rfl (by decide) _ (L.take p ++ [(a, b, c, d, x, y)]).length (cells6 (L.take p ++ [(a, b, c, d, x, y)])) rfl (show KOwV (w.heap.size + 1) 36 v29 (L.take p ++ [(a, b, c, d, x, y)]) _ from by repeat (first | with_reducible assumption | with_reducible refine KOwV.drew ?_ | with_reducible refine KOwV.alloc ?_ _)) _ (L.length - p) _ (cells6 (L.drop p)) rfl (drop6_len hpL) (kow_drop (show KOw g base cap 36 L _ from by repeat (first | with_reducible assumption | with_reducible refine Km.drew ?_ | with_reducible refine Km.alloc ?_ _ | with_reducible refine Km.call ?_ (by with_reducible assumption) | with_reducible refine KOw.drew ?_ | with_reducible refine KOw.alloc ?_ _ | with_reducible refine KOw.call ?_ (by with_reducible assumption))) hpL) (cells6_one _) (by have hh := HLEN.out; unfold maxLen; omega) (by have hh := HLEN.out; omega) (by first | omega | (simp <;> omega)) ?_; intro v33 w33 hown33 hgr33 _; have O33 : KOwV (w.heap.size + 1) 36 v33 (L.take p ++ [(a, b, c, d, x, y)] ++ L.drop p) w33 := (by have h := hown33; unfold KOwV; rw [cells6_app (L.take p ++ [(a, b, c, d, x, y)]) (L.drop p), app_len (L.take p ++ [(a, b, c, d, x, y)]) (L.drop p), List.length_drop]; exact h); have X33 : Km w.heap.size a b c d x y w33 := Km.grown (show Km w.heap.size a b c d x y _ from by repeat (first | with_reducible assumption | with_reducible refine Km.drew ?_ | with_reducible refine Km.alloc ?_ _ | with_reducible refine Km.call ?_ (by with_reducible assumption) | with_reducible refine KOw.drew ?_ | with_reducible refine KOw.alloc ?_ _ | with_reducible refine KOw.call ?_ (by with_reducible assumption))) hgr33 (fun e => by have := (World.ownsRow.lt O29 _ e.symm).1; omega); have B33 : Below w.heap.size w w33 := Below.grown (show Below w.heap.size w _ from by repeat (first | with_reducible assumption | with_reducible refine Below.drew ?_ | with_reducible refine Below.alloc ?_ (by first | omega | (simp <;> omega)) _ | with_reducible refine bstep ?_ (by with_reducible assumption))) hgr33 (by first | omega | (simp <;> omega)) (fun r hr => by have := (World.ownsRow.lt O29 _ hr).1; omega)))
      all_goals
        rw [← HL.out] at O33
        obtain ⟨g9, cap9, rfl, K9⟩ := KOw.of O33 (by have := HPOS.out; omega)
        go_wp2
        go_ret
        exact ⟨g9, cap9, rfl, ownsRow_lower K9 (by have := HBS.out; omega), fun _ => by have := (KOw.lt K9).1; omega, B33⟩
    · have he : eqT6 n0 n1 n2 n3 n4 n5 a b c d x y = true := HE.out.trans hd
      have HF := Lib.hid (HD.out.symm.trans hd)
      clear HD HE hd
      go_wp2_with fail
      go_quiet (fail)
      go_wp2
      go_ret
      have hl : putM L (a, b, c, d, x, y) = L := put_old HUP.out HF.out
      exact ⟨g, cap, by rw [hl]; rfl, by rw [hl]; exact KOw.call HOW0.out (by repeat (first | with_reducible assumption | with_reducible exact Below.refl _ _ | with_reducible refine Below.alloc ?_ (by first | omega | (simp <;> omega)) _ | with_reducible refine bstep ?_ (by with_reducible assumption) | with_reducible refine Below.drew ?_ | with_reducible refine below_drewN ?_ _)), (fun hh => by rw [HF.out] at hh; cases hh), by repeat (first | with_reducible assumption | with_reducible exact Below.refl _ _ | with_reducible refine Below.alloc ?_ (by first | omega | (simp <;> omega)) _ | with_reducible refine bstep ?_ (by with_reducible assumption) | with_reducible refine Below.drew ?_ | with_reducible refine below_drewN ?_ _)⟩
  · have hpl2 : ¬ ((p : Int) < (L.length : Int)) := by omega
    have hpl3 : decide (p < L.length) = false := decide_eq_false hpl
    have HF := Lib.hid (HO.out hpl)
    have hN := HP.out.2
    have hp3 : (p : Int) ≤ 1048576 := by have := HP.out.1; omega
    clear HY HO hpl
    obtain ⟨g, cap', e9⟩ := hV.out
    simp only [Value.slice.injEq, true_and] at e9
    obtain ⟨rfl, rfl⟩ := e9
    have hgl : g < w.heap.size := (KOw.lt (show KOw g base cap 36 L w from HOW0.out)).2
    have hpL : p ≤ L.length := HP.out.1
    by_cases hcp : cap = p
    · have hdn : L.drop p = [] := List.drop_eq_nil_of_le (by omega)
      go_wp2_with fail
      go_quiet (fail)
      go_wp2_with fail
      have XX : Km w.heap.size a b c d x y (w1.drewN nq) := Km.call X1 (below_drewN (Below.refl _ _) _)
      have GG : KOw g base cap 36 L (w1.drewN nq) := KOw.call (KOw.call (show KOw g base cap 36 L w from HOW0.out) B1) (below_drewN (Below.refl _ _) _)
      have BB : Below w.heap.size w (w1.drewN nq) := below_drewN B1 _
      have zB := B1.size
      have zW : (w1.drewN nq).heap.size = w1.heap.size := rfl
      clear X1 X1c  B1 HS
      generalize w1.drewN nq = W0 at *
      rw [← zW] at zB X1l
      have hcl := KOw.cap_le GG
      clear zW

      have HLEN := Lib.hid (show (L.take p ++ [(a, b, c, d, x, y)]).length = p + 1 by rw [List.length_append, List.length_take, Nat.min_eq_left hpL]; rfl)
      have HL := Lib.hid (put_new HUP.out HF.out)
      rw [HPE.out] at HL
      have Xc := XX.cells
      have hpc : p ≤ cap := by omega
      go_region_held3 (fun W => (W.cell? ⟨w.heap.size, 0, none⟩ = some (.int .i64 a) ∧ W.cell? ⟨w.heap.size, 1, none⟩ = some (.int .i64 b) ∧ W.cell? ⟨w.heap.size, 2, none⟩ = some (.int .i64 c) ∧ W.cell? ⟨w.heap.size, 3, none⟩ = some (.int .i64 d) ∧ W.cell? ⟨w.heap.size, 4, none⟩ = some (.int .i64 x) ∧ W.cell? ⟨w.heap.size, 5, none⟩ = some (.int .i64 y))) ((refine Km.cells ?_) <;> repeat (first | with_reducible assumption | with_reducible refine Km.drew ?_ | with_reducible refine Km.alloc ?_ _ | with_reducible refine Km.call ?_ (by with_reducible assumption) | with_reducible refine KOw.drew ?_ | with_reducible refine KOw.alloc ?_ _ | with_reducible refine KOw.call ?_ (by with_reducible assumption)))
        (first
          | (rw [if_pos (by rfl)]; refine wp_append_own _ _ _ 26 rfl (w.heap.size + 1) 36 i0 (.agg #[.int .i64 0, .int .i64 0, .int .i64 0, .int .i64 0, .int .i64 0, .int .i64 0]) 6 48 Tryz.underlying26 hinf hz0 hz1 hz2 rfl (by decide) _ 0 [] rfl (by first | exact (lit6 W0 W0.heap.size rfl (by omega)) | exact KOwV.drew (lit6 W0 W0.heap.size rfl (by omega)) | exact KOwV.alloc (lit6 W0 W0.heap.size rfl (by omega)) _ | exact KOwV.drew (KOwV.alloc (lit6 W0 W0.heap.size rfl (by omega)) _) | exact KOwV.drew (KOwV.alloc (KOwV.drew (lit6 W0 W0.heap.size rfl (by omega))) _) | exact (lit6 _ (W0.heap.size + 1) (by simp) (by simp; omega)) | exact KOwV.drew (lit6 _ (W0.heap.size + 1) (by simp) (by simp; omega))) ⟨g, 0, none⟩ p _ (cells6 (L.take p)) rfl (take6_len hpL) (kow_take (show KOw g base cap 36 L _ from by repeat (first | with_reducible assumption | with_reducible refine Km.drew ?_ | with_reducible refine Km.alloc ?_ _ | with_reducible refine Km.call ?_ (by with_reducible assumption) | with_reducible refine KOw.drew ?_ | with_reducible refine KOw.alloc ?_ _ | with_reducible refine KOw.call ?_ (by with_reducible assumption)))) (cells6_one _) (by unfold maxLen; omega) (by omega) (by first | omega | (simp <;> omega)) ?_; intro v26 w26 hown26 hgr26 _; have O26 : KOwV (w.heap.size + 1) 36 v26 (L.take p) w26 := (by have h := hown26; unfold KOwV; rw [List.length_take, Nat.min_eq_left hpL]; simpa using h); have G26 : KOw g base cap 36 L w26 := KOw.kept (show KOw g base cap 36 L _ from by repeat (first | with_reducible assumption | with_reducible refine Km.drew ?_ | with_reducible refine Km.alloc ?_ _ | with_reducible refine Km.call ?_ (by with_reducible assumption) | with_reducible refine KOw.drew ?_ | with_reducible refine KOw.alloc ?_ _ | with_reducible refine KOw.call ?_ (by with_reducible assumption))) hgr26 (fun e => by have e2 := Option.some.inj e; first | omega | (simp at e2; done) | (simp at e2; omega)); have X26 : Km w.heap.size a b c d x y w26 := Km.grown (show Km w.heap.size a b c d x y _ from by repeat (first | with_reducible assumption | with_reducible refine Km.drew ?_ | with_reducible refine Km.alloc ?_ _ | with_reducible refine Km.call ?_ (by with_reducible assumption) | with_reducible refine KOw.drew ?_ | with_reducible refine KOw.alloc ?_ _ | with_reducible refine KOw.call ?_ (by with_reducible assumption))) hgr26 (fun e => by have e2 := Option.some.inj e; first | omega | (simp at e2; done) | (simp at e2; omega)); (first | have S26 := Km.grown (Km.at (W0.heap.size + 1) (by simp)) hgr26 (fun e => by have e2 := Option.some.inj e; first | omega | (simp at e2; done) | (simp at e2; omega)) | have S26 := Km.grown (Km.drew (Km.at (W0.heap.size + 1) (by simp))) hgr26 (fun e => by have e2 := Option.some.inj e; first | omega | (simp at e2; done) | (simp at e2; omega)) | have S26 := Km.grown (Km.alloc (Km.at W0.heap.size rfl) _) hgr26 (fun e => by have e2 := Option.some.inj e; first | omega | (simp at e2; done) | (simp at e2; omega)) | have S26 := Km.grown (Km.drew (Km.alloc (Km.at W0.heap.size rfl) _)) hgr26 (fun e => by have e2 := Option.some.inj e; first | omega | (simp at e2; done) | (simp at e2; omega)) | have S26 := Km.grown (Km.alloc (Km.drew (Km.at W0.heap.size rfl)) _) hgr26 (fun e => by have e2 := Option.some.inj e; first | omega | (simp at e2; done) | (simp at e2; omega)) | have S26 := Km.grown (Km.drew (Km.alloc (Km.drew (Km.at W0.heap.size rfl)) _)) hgr26 (fun e => by have e2 := Option.some.inj e; first | omega | (simp at e2; done) | (simp at e2; omega)) | have S26 := trivial); have B26 : Below w.heap.size w w26 := Below.grown (show Below w.heap.size w _ from by repeat (first | with_reducible assumption | with_reducible refine Below.drew ?_ | with_reducible refine Below.alloc ?_ (by first | omega | (simp <;> omega)) _ | with_reducible refine bstep ?_ (by with_reducible assumption))) hgr26 (by first | omega | (simp <;> omega)) (fun r hr => by have e2 := Option.some.inj hr; first | omega | (simp at e2; omega)); have z26 : w.heap.size + 1 ≤ w26.heap.size := km_lt X26)
          | (rw [if_pos (by rfl)]; refine wp_append_own _ _ _ 26 rfl (w.heap.size + 1) 36 i0 (.agg #[.int .i64 0, .int .i64 0, .int .i64 0, .int .i64 0, .int .i64 0, .int .i64 0]) 6 48 Tryz.underlying26 hinf hz0 hz1 hz2 rfl (by decide) _ (L.take p).length (cells6 (L.take p)) rfl (show KOwV (w.heap.size + 1) 36 v26 (L.take p) _ from by repeat (first | with_reducible assumption | with_reducible refine KOwV.drew ?_ | with_reducible refine KOwV.alloc ?_ _)) _ 1 1 [.int .i64 a, .int .i64 b, .int .i64 c, .int .i64 d, .int .i64 x, .int .i64 y] rfl rfl (by first | exact km_six S26 | exact km_six (Km.drew S26) | exact km_six (Km.at _ rfl) | exact km_six (Km.drew (Km.at _ rfl))) one_six (by have hh := take6_len hpL; rw [cells6_len] at hh; unfold maxLen; omega) (by have hh := take6_len hpL; rw [cells6_len] at hh; omega) (by first | omega | (simp <;> omega)) ?_; intro v29 w29 hown29 hgr29 _; have O29 : KOwV (w.heap.size + 1) 36 v29 (L.take p ++ [(a, b, c, d, x, y)]) w29 := own_next6 hown29; have G29 : KOw g base cap 36 L w29 := KOw.kept (show KOw g base cap 36 L _ from by repeat (first | with_reducible assumption | with_reducible refine Km.drew ?_ | with_reducible refine Km.alloc ?_ _ | with_reducible refine Km.call ?_ (by with_reducible assumption) | with_reducible refine KOw.drew ?_ | with_reducible refine KOw.alloc ?_ _ | with_reducible refine KOw.call ?_ (by with_reducible assumption))) hgr29 (fun e => by have := (World.ownsRow.lt O26 _ e.symm).1; omega); have X29 : Km w.heap.size a b c d x y w29 := Km.grown (show Km w.heap.size a b c d x y _ from by repeat (first | with_reducible assumption | with_reducible refine Km.drew ?_ | with_reducible refine Km.alloc ?_ _ | with_reducible refine Km.call ?_ (by with_reducible assumption) | with_reducible refine KOw.drew ?_ | with_reducible refine KOw.alloc ?_ _ | with_reducible refine KOw.call ?_ (by with_reducible assumption))) hgr29 (fun e => by have := (World.ownsRow.lt O26 _ e.symm).1; omega); have B29 : Below w.heap.size w w29 := Below.grown (show Below w.heap.size w _ from by repeat (first | with_reducible assumption | with_reducible refine Below.drew ?_ | with_reducible refine Below.alloc ?_ (by first | omega | (simp <;> omega)) _ | with_reducible refine bstep ?_ (by with_reducible assumption))) hgr29 (by first | omega | (simp <;> omega)) (fun r hr => by have := (World.ownsRow.lt O26 _ hr).1; omega); have z29 : w.heap.size + 1 ≤ w29.heap.size := km_lt X29)
          | (rw [if_pos (by rfl)]; refine wp_append_own _ _ _ 26 rfl (w.heap.size + 1) 36 i0 (.agg #[.int .i64 0, .int .i64 0, .int .i64 0, .int .i64 0, .int .i64 0, .int .i64 0]) 6 48 Tryz.underlying26 hinf hz0 hz1 hz2 rfl (by decide) _ (L.take p ++ [(a, b, c, d, x, y)]).length (cells6 (L.take p ++ [(a, b, c, d, x, y)])) rfl (show KOwV (w.heap.size + 1) 36 v29 (L.take p ++ [(a, b, c, d, x, y)]) _ from by repeat (first | with_reducible assumption | with_reducible refine KOwV.drew ?_ | with_reducible refine KOwV.alloc ?_ _)) _ (L.length - p) _ (cells6 (L.drop p)) rfl (drop6_len hpL) (by rw [hdn]; intro j u hj; simp [cells6] at hj) (cells6_one _) (by have hh := HLEN.out; unfold maxLen; omega) (by have hh := HLEN.out; omega) (by first | omega | (simp <;> omega)) ?_; intro v33 w33 hown33 hgr33 _; have O33 : KOwV (w.heap.size + 1) 36 v33 (L.take p ++ [(a, b, c, d, x, y)] ++ L.drop p) w33 := (by have h := hown33; unfold KOwV; rw [cells6_app (L.take p ++ [(a, b, c, d, x, y)]) (L.drop p), app_len (L.take p ++ [(a, b, c, d, x, y)]) (L.drop p), List.length_drop]; exact h); have X33 : Km w.heap.size a b c d x y w33 := Km.grown (show Km w.heap.size a b c d x y _ from by repeat (first | with_reducible assumption | with_reducible refine Km.drew ?_ | with_reducible refine Km.alloc ?_ _ | with_reducible refine Km.call ?_ (by with_reducible assumption) | with_reducible refine KOw.drew ?_ | with_reducible refine KOw.alloc ?_ _ | with_reducible refine KOw.call ?_ (by with_reducible assumption))) hgr33 (fun e => by have := (World.ownsRow.lt O29 _ e.symm).1; omega); have B33 : Below w.heap.size w w33 := Below.grown (show Below w.heap.size w _ from by repeat (first | with_reducible assumption | with_reducible refine Below.drew ?_ | with_reducible refine Below.alloc ?_ (by first | omega | (simp <;> omega)) _ | with_reducible refine bstep ?_ (by with_reducible assumption))) hgr33 (by first | omega | (simp <;> omega)) (fun r hr => by have := (World.ownsRow.lt O29 _ hr).1; omega)))
      all_goals
        rw [← HL.out] at O33
        obtain ⟨g9, cap9, rfl, K9⟩ := KOw.of O33 (by have := HPOS.out; omega)
        go_wp2
        go_ret
        exact ⟨g9, cap9, rfl, ownsRow_lower K9 (by have := HBS.out; omega), fun _ => by have := (KOw.lt K9).1; omega, B33⟩
    · skip
      go_wp2_with fail
      go_quiet (fail)
      go_wp2_with fail
      have XX : Km w.heap.size a b c d x y (w1.drewN nq) := Km.call X1 (below_drewN (Below.refl _ _) _)
      have GG : KOw g base cap 36 L (w1.drewN nq) := KOw.call (KOw.call (show KOw g base cap 36 L w from HOW0.out) B1) (below_drewN (Below.refl _ _) _)
      have BB : Below w.heap.size w (w1.drewN nq) := below_drewN B1 _
      have zB := B1.size
      have zW : (w1.drewN nq).heap.size = w1.heap.size := rfl
      clear X1 X1c  B1 HS
      generalize w1.drewN nq = W0 at *
      rw [← zW] at zB X1l
      have hcl := KOw.cap_le GG
      clear zW

      have HLEN := Lib.hid (show (L.take p ++ [(a, b, c, d, x, y)]).length = p + 1 by rw [List.length_append, List.length_take, Nat.min_eq_left hpL]; rfl)
      have HL := Lib.hid (put_new HUP.out HF.out)
      rw [HPE.out] at HL
      have Xc := XX.cells
      have hpc : p ≤ cap := by omega
      go_region_held3 (fun W => (W.cell? ⟨w.heap.size, 0, none⟩ = some (.int .i64 a) ∧ W.cell? ⟨w.heap.size, 1, none⟩ = some (.int .i64 b) ∧ W.cell? ⟨w.heap.size, 2, none⟩ = some (.int .i64 c) ∧ W.cell? ⟨w.heap.size, 3, none⟩ = some (.int .i64 d) ∧ W.cell? ⟨w.heap.size, 4, none⟩ = some (.int .i64 x) ∧ W.cell? ⟨w.heap.size, 5, none⟩ = some (.int .i64 y))) ((refine Km.cells ?_) <;> repeat (first | with_reducible assumption | with_reducible refine Km.drew ?_ | with_reducible refine Km.alloc ?_ _ | with_reducible refine Km.call ?_ (by with_reducible assumption) | with_reducible refine KOw.drew ?_ | with_reducible refine KOw.alloc ?_ _ | with_reducible refine KOw.call ?_ (by with_reducible assumption)))
        (first
          | (rw [if_pos (by rfl)]; refine wp_append_own _ _ _ 26 rfl (w.heap.size + 1) 36 i0 (.agg #[.int .i64 0, .int .i64 0, .int .i64 0, .int .i64 0, .int .i64 0, .int .i64 0]) 6 48 Tryz.underlying26 hinf hz0 hz1 hz2 rfl (by decide) _ 0 [] rfl (by first | exact (lit6 W0 W0.heap.size rfl (by omega)) | exact KOwV.drew (lit6 W0 W0.heap.size rfl (by omega)) | exact KOwV.alloc (lit6 W0 W0.heap.size rfl (by omega)) _ | exact KOwV.drew (KOwV.alloc (lit6 W0 W0.heap.size rfl (by omega)) _) | exact KOwV.drew (KOwV.alloc (KOwV.drew (lit6 W0 W0.heap.size rfl (by omega))) _) | exact (lit6 _ (W0.heap.size + 1) (by simp) (by simp; omega)) | exact KOwV.drew (lit6 _ (W0.heap.size + 1) (by simp) (by simp; omega))) ⟨g, 0, none⟩ p _ (cells6 (L.take p)) rfl (take6_len hpL) (kow_take (show KOw g base cap 36 L _ from by repeat (first | with_reducible assumption | with_reducible refine Km.drew ?_ | with_reducible refine Km.alloc ?_ _ | with_reducible refine Km.call ?_ (by with_reducible assumption) | with_reducible refine KOw.drew ?_ | with_reducible refine KOw.alloc ?_ _ | with_reducible refine KOw.call ?_ (by with_reducible assumption)))) (cells6_one _) (by unfold maxLen; omega) (by omega) (by first | omega | (simp <;> omega)) ?_; intro v26 w26 hown26 hgr26 _; have O26 : KOwV (w.heap.size + 1) 36 v26 (L.take p) w26 := (by have h := hown26; unfold KOwV; rw [List.length_take, Nat.min_eq_left hpL]; simpa using h); have G26 : KOw g base cap 36 L w26 := KOw.kept (show KOw g base cap 36 L _ from by repeat (first | with_reducible assumption | with_reducible refine Km.drew ?_ | with_reducible refine Km.alloc ?_ _ | with_reducible refine Km.call ?_ (by with_reducible assumption) | with_reducible refine KOw.drew ?_ | with_reducible refine KOw.alloc ?_ _ | with_reducible refine KOw.call ?_ (by with_reducible assumption))) hgr26 (fun e => by have e2 := Option.some.inj e; first | omega | (simp at e2; done) | (simp at e2; omega)); have X26 : Km w.heap.size a b c d x y w26 := Km.grown (show Km w.heap.size a b c d x y _ from by repeat (first | with_reducible assumption | with_reducible refine Km.drew ?_ | with_reducible refine Km.alloc ?_ _ | with_reducible refine Km.call ?_ (by with_reducible assumption) | with_reducible refine KOw.drew ?_ | with_reducible refine KOw.alloc ?_ _ | with_reducible refine KOw.call ?_ (by with_reducible assumption))) hgr26 (fun e => by have e2 := Option.some.inj e; first | omega | (simp at e2; done) | (simp at e2; omega)); (first | have S26 := Km.grown (Km.at (W0.heap.size + 1) (by simp)) hgr26 (fun e => by have e2 := Option.some.inj e; first | omega | (simp at e2; done) | (simp at e2; omega)) | have S26 := Km.grown (Km.drew (Km.at (W0.heap.size + 1) (by simp))) hgr26 (fun e => by have e2 := Option.some.inj e; first | omega | (simp at e2; done) | (simp at e2; omega)) | have S26 := Km.grown (Km.alloc (Km.at W0.heap.size rfl) _) hgr26 (fun e => by have e2 := Option.some.inj e; first | omega | (simp at e2; done) | (simp at e2; omega)) | have S26 := Km.grown (Km.drew (Km.alloc (Km.at W0.heap.size rfl) _)) hgr26 (fun e => by have e2 := Option.some.inj e; first | omega | (simp at e2; done) | (simp at e2; omega)) | have S26 := Km.grown (Km.alloc (Km.drew (Km.at W0.heap.size rfl)) _) hgr26 (fun e => by have e2 := Option.some.inj e; first | omega | (simp at e2; done) | (simp at e2; omega)) | have S26 := Km.grown (Km.drew (Km.alloc (Km.drew (Km.at W0.heap.size rfl)) _)) hgr26 (fun e => by have e2 := Option.some.inj e; first | omega | (simp at e2; done) | (simp at e2; omega)) | have S26 := trivial); have B26 : Below w.heap.size w w26 := Below.grown (show Below w.heap.size w _ from by repeat (first | with_reducible assumption | with_reducible refine Below.drew ?_ | with_reducible refine Below.alloc ?_ (by first | omega | (simp <;> omega)) _ | with_reducible refine bstep ?_ (by with_reducible assumption))) hgr26 (by first | omega | (simp <;> omega)) (fun r hr => by have e2 := Option.some.inj hr; first | omega | (simp at e2; omega)); have z26 : w.heap.size + 1 ≤ w26.heap.size := km_lt X26)
          | (rw [if_pos (by rfl)]; refine wp_append_own _ _ _ 26 rfl (w.heap.size + 1) 36 i0 (.agg #[.int .i64 0, .int .i64 0, .int .i64 0, .int .i64 0, .int .i64 0, .int .i64 0]) 6 48 Tryz.underlying26 hinf hz0 hz1 hz2 rfl (by decide) _ (L.take p).length (cells6 (L.take p)) rfl (show KOwV (w.heap.size + 1) 36 v26 (L.take p) _ from by repeat (first | with_reducible assumption | with_reducible refine KOwV.drew ?_ | with_reducible refine KOwV.alloc ?_ _)) _ 1 1 [.int .i64 a, .int .i64 b, .int .i64 c, .int .i64 d, .int .i64 x, .int .i64 y] rfl rfl (by first | exact km_six S26 | exact km_six (Km.drew S26) | exact km_six (Km.at _ rfl) | exact km_six (Km.drew (Km.at _ rfl))) one_six (by have hh := take6_len hpL; rw [cells6_len] at hh; unfold maxLen; omega) (by have hh := take6_len hpL; rw [cells6_len] at hh; omega) (by first | omega | (simp <;> omega)) ?_; intro v29 w29 hown29 hgr29 _; have O29 : KOwV (w.heap.size + 1) 36 v29 (L.take p ++ [(a, b, c, d, x, y)]) w29 := own_next6 hown29; have G29 : KOw g base cap 36 L w29 := KOw.kept (show KOw g base cap 36 L _ from by repeat (first | with_reducible assumption | with_reducible refine Km.drew ?_ | with_reducible refine Km.alloc ?_ _ | with_reducible refine Km.call ?_ (by with_reducible assumption) | with_reducible refine KOw.drew ?_ | with_reducible refine KOw.alloc ?_ _ | with_reducible refine KOw.call ?_ (by with_reducible assumption))) hgr29 (fun e => by have := (World.ownsRow.lt O26 _ e.symm).1; omega); have X29 : Km w.heap.size a b c d x y w29 := Km.grown (show Km w.heap.size a b c d x y _ from by repeat (first | with_reducible assumption | with_reducible refine Km.drew ?_ | with_reducible refine Km.alloc ?_ _ | with_reducible refine Km.call ?_ (by with_reducible assumption) | with_reducible refine KOw.drew ?_ | with_reducible refine KOw.alloc ?_ _ | with_reducible refine KOw.call ?_ (by with_reducible assumption))) hgr29 (fun e => by have := (World.ownsRow.lt O26 _ e.symm).1; omega); have B29 : Below w.heap.size w w29 := Below.grown (show Below w.heap.size w _ from by repeat (first | with_reducible assumption | with_reducible refine Below.drew ?_ | with_reducible refine Below.alloc ?_ (by first | omega | (simp <;> omega)) _ | with_reducible refine bstep ?_ (by with_reducible assumption))) hgr29 (by first | omega | (simp <;> omega)) (fun r hr => by have := (World.ownsRow.lt O26 _ hr).1; omega); have z29 : w.heap.size + 1 ≤ w29.heap.size := km_lt X29)
          | (rw [if_pos (by rfl)]; refine wp_append_own _ _ _ 26 rfl (w.heap.size + 1) 36 i0 (.agg #[.int .i64 0, .int .i64 0, .int .i64 0, .int .i64 0, .int .i64 0, .int .i64 0]) 6 48 Tryz.underlying26 hinf hz0 hz1 hz2 rfl (by decide) _ (L.take p ++ [(a, b, c, d, x, y)]).length (cells6 (L.take p ++ [(a, b, c, d, x, y)])) rfl (show KOwV (w.heap.size + 1) 36 v29 (L.take p ++ [(a, b, c, d, x, y)]) _ from by repeat (first | with_reducible assumption | with_reducible refine KOwV.drew ?_ | with_reducible refine KOwV.alloc ?_ _)) _ (L.length - p) _ (cells6 (L.drop p)) rfl (drop6_len hpL) (kow_drop (show KOw g base cap 36 L _ from by repeat (first | with_reducible assumption | with_reducible refine Km.drew ?_ | with_reducible refine Km.alloc ?_ _ | with_reducible refine Km.call ?_ (by with_reducible assumption) | with_reducible refine KOw.drew ?_ | with_reducible refine KOw.alloc ?_ _ | with_reducible refine KOw.call ?_ (by with_reducible assumption))) hpL) (cells6_one _) (by have hh := HLEN.out; unfold maxLen; omega) (by have hh := HLEN.out; omega) (by first | omega | (simp <;> omega)) ?_; intro v33 w33 hown33 hgr33 _; have O33 : KOwV (w.heap.size + 1) 36 v33 (L.take p ++ [(a, b, c, d, x, y)] ++ L.drop p) w33 := (by have h := hown33; unfold KOwV; rw [cells6_app (L.take p ++ [(a, b, c, d, x, y)]) (L.drop p), app_len (L.take p ++ [(a, b, c, d, x, y)]) (L.drop p), List.length_drop]; exact h); have X33 : Km w.heap.size a b c d x y w33 := Km.grown (show Km w.heap.size a b c d x y _ from by repeat (first | with_reducible assumption | with_reducible refine Km.drew ?_ | with_reducible refine Km.alloc ?_ _ | with_reducible refine Km.call ?_ (by with_reducible assumption) | with_reducible refine KOw.drew ?_ | with_reducible refine KOw.alloc ?_ _ | with_reducible refine KOw.call ?_ (by with_reducible assumption))) hgr33 (fun e => by have := (World.ownsRow.lt O29 _ e.symm).1; omega); have B33 : Below w.heap.size w w33 := Below.grown (show Below w.heap.size w _ from by repeat (first | with_reducible assumption | with_reducible refine Below.drew ?_ | with_reducible refine Below.alloc ?_ (by first | omega | (simp <;> omega)) _ | with_reducible refine bstep ?_ (by with_reducible assumption))) hgr33 (by first | omega | (simp <;> omega)) (fun r hr => by have := (World.ownsRow.lt O29 _ hr).1; omega)))
      all_goals
        rw [← HL.out] at O33
        obtain ⟨g9, cap9, rfl, K9⟩ := KOw.of O33 (by have := HPOS.out; omega)
        go_wp2
        go_ret
        exact ⟨g9, cap9, rfl, ownsRow_lower K9 (by have := HBS.out; omega), fun _ => by have := (KOw.lt K9).1; omega, B33⟩
end
end Go.Proofs.YtmadgbbkkkibcaaGreatDoor

