/-
  Plain facts and contracts of groups of motions, as the texts of this claim need them. Conditions: those stated at each.
-/
import Derived.Test.YtjjfomokecngoaaGreatDoorGi
import Derived.Test.YtjjfomokecngoaaGreatDoorGc
import Derived.Test.YtjjfomokecngoaaGreatDoorGf
import Derived.Deep.RegionHeld3
import Derived.IntWalk
import Derived.Test.YtjjfomokecngoaaGreatDoorGh
import Derived.WalkSmall
import Derived.Test.YtjjfomokecngoaaGreatDoorGd
import Derived.Test.YtjjfomokecngoaaGreatDoorGg
import Derived.Test.YtjjfomokecngoaaGreatDoorGe
import Derived.Maps.OwnSet
import Derived.DeepKeys5
import Derived.WalkArith
import Derived.Deep.DeepCutAuto
import Derived.Test.YtjjfomokecngoaaGreatDoorGa
import Derived.LoopTactic
import Derived.Sort.Grow
import Derived.Shelf.SlSortCmp.NoneTotal
import Derived.Shelf.SlGeneric
import Derived.Ground.SlsfProg
import Derived.Test.YtjjfomokecngoaaGreatDoorRows
import Derived.Laws.OwnMore
import Derived.RangeFuncNested
import Derived.RangeFuncBound
import Derived.RangeFuncCalls
import Derived.RangeFuncLeaves
import Derived.RangeFuncBox
import Derived.Shelf.Abstract
import Derived.Shelf.RegionOpen
import Derived.WalkKit
import Derived.OwnWalkIn
import Derived.TacticsInMore
import Derived.LoopNIn
import Derived.LoopIn
import Derived.Maps.AppendAt
import Derived.Sort.KeysCollected
import Derived.Sort.MapsRangeIn
import Derived.Laws.IdiomCopy
import Derived.Test.YtjjfomokecngoaaGreatDoorFaF
namespace Go.Proofs.YtjjfomokecngoaaGreatDoor
open Go.RowKit
set_option linter.unusedSimpArgs false
set_option linter.unusedVariables false

theorem eqLat6 (a b c a' b' c' : Int) (w : World) : (Op.equalIn 10000 28 (.agg #[.int .i64 a, .int .i64 b, .int .i64 c]) (.agg #[.int .i64 a', .int .i64 b', .int .i64 c'])).run Tryz.prog w = .ok (eqT a b c a' b' c') w := by
 have hu := Tryz.underlying28
 rw [show (10000 : Nat) = 9999 + 1 from rfl, run_equalIn_struct _ _ _ _ _ (by simp only [Program.fieldsOf, hu]) (by kernel_rfl)]
 simp only [Program.fieldsOf, hu]
 have u3 := Tryz.underlying2
 have a3 := Tryz.isAgg2
 have z3 := Tryz.sizeOf2
 unfold eqT
 rcases h1 : (a == a') with _ | _ <;> rcases h2 : (b == b') with _ | _ <;> rcases h3 : (c == c') with _ | _ <;> go_simp <;> simp_all
attribute [local go_sem ↓] eqLat6
end Go.Proofs.YtjjfomokecngoaaGreatDoor
namespace Go.Proofs.YtjjfomokecngoaaGreatDoor
section
open Go.RowKit
set_option linter.unusedSimpArgs false
set_option linter.unusedVariables false

def eqT4 (a b c d a' b' c' d' : Int) : Bool := a == a' && (b == b' && (c == c' && (d == d')))
set_option maxHeartbeats 4000000 in
theorem eqMa6 (a b c d a' b' c' d' : Int) (w : World) : (Op.equalIn 10000 59 (.agg #[.int .i64 a, .int .i64 b, .int .i64 c, .int .i64 d]) (.agg #[.int .i64 a', .int .i64 b', .int .i64 c', .int .i64 d'])).run Tryz.prog w = .ok (eqT4 a b c d a' b' c' d') w := by
 have hu := Tryz.underlying59
 rw [show (10000 : Nat) = 9999 + 1 from rfl, run_equalIn_struct _ _ _ _ _ (by simp only [Program.fieldsOf, hu]) (by kernel_rfl)]
 simp only [Program.fieldsOf, hu]
 have u3 := Tryz.underlying2
 have a3 := Tryz.isAgg2
 have z3 := Tryz.sizeOf2
 unfold eqT4
 rcases h1 : (a == a') with _ | _ <;> rcases h2 : (b == b') with _ | _ <;> rcases h3 : (c == c') with _ | _ <;> rcases h4 : (d == d') with _ | _ <;> go_simp <;> simp_all
attribute [local go_sem ↓] eqMa6
def eqT6 (a b c d x y a' b' c' d' x' y' : Int) : Bool := a == a' && (b == b' && (c == c' && (d == d' && (x == x' && (y == y')))))
set_option maxHeartbeats 4000000 in
theorem eqM6 (a b c d x y a' b' c' d' x' y' : Int) (w : World) : (Op.equalIn 10000 69 (.agg #[.int .i64 a, .int .i64 b, .int .i64 c, .int .i64 d, .int .i64 x, .int .i64 y]) (.agg #[.int .i64 a', .int .i64 b', .int .i64 c', .int .i64 d', .int .i64 x', .int .i64 y'])).run Tryz.prog w = .ok (eqT6 a b c d x y a' b' c' d' x' y') w := by
 have hu := Tryz.underlying69
 have hv := Tryz.underlying63
 have hm := Tryz.underlying59
 rw [show (10000 : Nat) = 9999 + 1 from rfl, run_equalIn_struct _ _ _ _ _ (by simp only [Program.fieldsOf, hu]) (by kernel_rfl)]
 simp only [Program.fieldsOf, hu]
 have u3 := Tryz.underlying2
 have a3 := Tryz.isAgg2
 have z3 := Tryz.sizeOf2
 unfold eqT6
 rcases ha : (a == a') with _ | _
 ·go_simp <;> simp_all
 rcases hb : (b == b') with _ | _
 ·go_simp <;> simp_all
 rcases hc : (c == c') with _ | _
 ·go_simp <;> simp_all
 rcases hd : (d == d') with _ | _
 ·go_simp <;> simp_all
 rcases hx : (x == x') with _ | _
 ·go_simp <;> simp_all
 rcases hy : (y == y') with _ | _
 ·go_simp <;> simp_all
 go_simp <;> simp_all
end
end Go.Proofs.YtjjfomokecngoaaGreatDoor

namespace Go.Proofs.YtjjfomokecngoaaGreatDoor
section
open Go.RowKit
set_option linter.unusedSimpArgs false
set_option linter.unusedVariables false

attribute [local go_sem ↓] eqMa6
end
end Go.Proofs.YtjjfomokecngoaaGreatDoor

namespace Go.Proofs.YtjjfomokecngoaaGreatDoor
section
open Go.RowKit
set_option linter.unusedSimpArgs false
set_option linter.unusedVariables false

end
end Go.Proofs.YtjjfomokecngoaaGreatDoor
namespace Go.Proofs.YtjjfomokecngoaaGreatDoor
open Go.RowKit
set_option linter.unusedSimpArgs false
set_option linter.unusedVariables false

theorem pkMo10 {P : Prop} (h : P := by repeat (first | exact Below.refl _ _ | refine Below.setCell ?_ (by first | omega | (simp <;> omega)) _ | refine Below.alloc ?_ (by first | omega | (simp <;> omega)) _ | refine bstep ?_ (by assumption) | refine Below.drew ?_)) : P := h
set_option maxRecDepth 100000 in
set_option maxHeartbeats 1000000 in
theorem plus5_any (x y x' y' : Int) (w : World) (h1 : -1000000000 ≤ x + x' ∧ x + x' ≤ 1000000000) (h2 : -1000000000 ≤ y + y' ∧ y + y' ≤ 1000000000) :
  Calls Tryz.prog 154 #[.agg #[.int .i64 x, .int .i64 y], .agg #[.int .i64 x', .int .i64 y']] w fun e w' => e = .returned (.agg #[.int .i64 (x + x'), .int .i64 (y + y')]) ∧ Below w.heap.size w w' := by
 go_enter Tryz.func154, Tryz.ntmps154
 go_wp2
 refine bodyPost_ret (v := .agg #[.int .i64 (x + x'), .int .i64 (y + y')]) (by simp [results, Tryz.results154, go_sem]) rfl ⟨rfl, ?_⟩
 exact pkMo10

set_option maxRecDepth 100000 in
set_option maxHeartbeats 1000000 in
theorem add5_any (x y x' y' : Int) (w : World) (h1 : -1000000000 ≤ x + x' ∧ x + x' ≤ 1000000000) (h2 : -1000000000 ≤ y + y' ∧ y + y' ≤ 1000000000) :
  Calls Tryz.prog 178 #[.agg #[.int .i64 x, .int .i64 y], .agg #[.int .i64 x', .int .i64 y']] w fun e w' => e = .returned (.agg #[.int .i64 (x + x'), .int .i64 (y + y')]) ∧ Below w.heap.size w w' := by
 go_enter Tryz.func178, Tryz.ntmps178
 go_wp2
 refine bodyPost_ret (v := .agg #[.int .i64 (x + x'), .int .i64 (y + y')]) (by simp [results, Tryz.results178, go_sem]) rfl ⟨rfl, ?_⟩
 exact pkMo10

end Go.Proofs.YtjjfomokecngoaaGreatDoor
namespace Go.Proofs.YtjjfomokecngoaaGreatDoor
open Go.RowKit
set_option linter.unusedSimpArgs false
set_option linter.unusedVariables false

theorem pkMo32 {P : Prop} (h : P := by repeat (first | with_reducible assumption | with_reducible exact Below.refl _ _ | with_reducible refine Below.setCell ?_ (by first | omega | (simp <;> omega)) _ | with_reducible refine Below.alloc ?_ (by first | omega | (simp <;> omega)) _ | with_reducible refine bstep ?_ (by with_reducible assumption) | with_reducible refine Below.drew ?_)) : P := h
theorem pkMo33 {P : Prop} (h : P := by repeat (first | assumption | refine KV.drew ?_ | refine KV.alloc ?_ _ | refine KV.call ?_ (by assumption) | refine Kg.drew ?_ | refine Kg.alloc ?_ _ | refine Kg.call ?_ (by assumption) | refine Km.drew ?_ | refine Km.alloc ?_ _ | refine Km.call ?_ (by assumption))) : P := h
theorem pkMo34 {P : Prop} (h : P := by repeat (first | assumption | refine KV.drew ?_ | refine KV.alloc ?_ _ | refine KV.call ?_ (by assumption) | refine Km.drew ?_ | refine Km.alloc ?_ _ | refine Km.call ?_ (by assumption))) : P := h
set_option maxRecDepth 100000 in
set_option maxHeartbeats 1000000 in
theorem l05Apply_any (a b c d x y p q : Int) (w : World) (hl : limB a b c d = true) (hv : vecB x y = true) (hp : vecB p q = true) :
  Calls Tryz.prog 242 #[.agg #[.int .i64 a, .int .i64 b, .int .i64 c, .int .i64 d, .int .i64 x, .int .i64 y], .agg #[.int .i64 p, .int .i64 q]] w fun e w' => e = .returned (.agg #[.int .i64 (a * p + b * q + x), .int .i64 (c * p + d * q + y)]) ∧ Below w.heap.size w w' := by
 have S1 : -1000000000 ≤ a * p + b * q + x ∧ a * p + b * q + x ≤ 1000000000 := by
  obtain ⟨⟨ha, hb⟩, hc, hd⟩ := limB_bd hl
  obtain ⟨hx, hy⟩ := vecB_bd hv
  obtain ⟨hp1, hq1⟩ := vecB_bd hp
  have e1 := mul1000 ha hp1
  have e2 := mul1000 hb hq1
  omega
 have S2 : -1000000000 ≤ c * p + d * q + y ∧ c * p + d * q + y ≤ 1000000000 := by
  obtain ⟨⟨ha, hb⟩, hc, hd⟩ := limB_bd hl
  obtain ⟨hx, hy⟩ := vecB_bd hv
  obtain ⟨hp1, hq1⟩ := vecB_bd hp
  have e1 := mul1000 hc hp1
  have e2 := mul1000 hd hq1
  omega
 have M0 : Km (w.heap.size) a b c d x y (((w.alloc (.cells #[.int .i64 a, .int .i64 b, .int .i64 c, .int .i64 d, .int .i64 x, .int .i64 y] 69)).alloc (.cells #[.int .i64 p, .int .i64 q] 63)).alloc (.cells #[.int .i64 0, .int .i64 0] 63)) := (((Km.at (w.heap.size) rfl).alloc _).alloc _)
 have N0 : Kg (w.heap.size + 1) p q (((w.alloc (.cells #[.int .i64 a, .int .i64 b, .int .i64 c, .int .i64 d, .int .i64 x, .int .i64 y] 69)).alloc (.cells #[.int .i64 p, .int .i64 q] 63)).alloc (.cells #[.int .i64 0, .int .i64 0] 63)) := ((Kg.at2 (w.heap.size + 1) (by simp)).alloc _)
 have R0 : KV (w.heap.size + 1 + 1) 0 0 (((w.alloc (.cells #[.int .i64 a, .int .i64 b, .int .i64 c, .int .i64 d, .int .i64 x, .int .i64 y] 69)).alloc (.cells #[.int .i64 p, .int .i64 q] 63)).alloc (.cells #[.int .i64 0, .int .i64 0] 63)) := (KV.at (w.heap.size + 1 + 1) (by simp))
 have B0 : Below w.heap.size w (((w.alloc (.cells #[.int .i64 a, .int .i64 b, .int .i64 c, .int .i64 d, .int .i64 x, .int .i64 y] 69)).alloc (.cells #[.int .i64 p, .int .i64 q] 63)).alloc (.cells #[.int .i64 0, .int .i64 0] 63)) := (Below.alloc (Below.alloc (Below.alloc (Below.refl _ _) (by first | with_reducible exact Nat.le_refl _ | (simp <;> omega)) _) (by first | with_reducible exact Nat.le_refl _ | (simp <;> omega)) _) (by first | with_reducible exact Nat.le_refl _ | (simp <;> omega)) _)
 go_enter Tryz.func242, Tryz.ntmps242
 have M0lt := M0.1
 have N0lt := N0.1
 have R0lt := R0.lt
 go_wp2_with fail
 go_region_held3 (fun W => (W.cell? ⟨w.heap.size, 0, none⟩ = some (.int .i64 a) ∧ W.cell? ⟨w.heap.size, 1, none⟩ = some (.int .i64 b) ∧ W.cell? ⟨w.heap.size, 2, none⟩ = some (.int .i64 c) ∧ W.cell? ⟨w.heap.size, 3, none⟩ = some (.int .i64 d) ∧ W.cell? ⟨w.heap.size, 4, none⟩ = some (.int .i64 x) ∧ W.cell? ⟨w.heap.size, 5, none⟩ = some (.int .i64 y)) ∧ (W.cell? ⟨w.heap.size + 1, 0, none⟩ = some (.int .i64 p) ∧ W.cell? ⟨w.heap.size + 1, 1, none⟩ = some (.int .i64 q))) ((refine ⟨Km.cells ?_, Kg.cells ?_⟩ <;> repeat (first | with_reducible assumption | with_reducible refine KV.drew ?_ | with_reducible refine KV.alloc ?_ _ | with_reducible refine KV.call ?_ (by with_reducible assumption) | with_reducible refine Kg.drew ?_ | with_reducible refine Kg.alloc ?_ _ | with_reducible refine Kg.call ?_ (by with_reducible assumption) | with_reducible refine Km.drew ?_ | with_reducible refine Km.alloc ?_ _ | with_reducible refine Km.call ?_ (by with_reducible assumption) | ((with_reducible refine KV.put ?_ ?_); (first | omega | (dsimp only; omega))) | ((with_reducible refine Kg.put ?_ ?_); (first | omega | (dsimp only; omega))) | ((with_reducible refine Km.put ?_ ?_); (first | omega | (dsimp only; omega))) | ((with_reducible refine KV.far5 ?_ ?_); (first | omega | (dsimp only; omega))) | ((with_reducible refine Kg.far ?_ ?_); (first | omega | (dsimp only; omega))) | ((with_reducible refine Km.far ?_ ?_); (first | omega | (dsimp only; omega))))))
  (first
   | (go_at_call 232; ((with_reducible refine (l02Apply_any _ _ _ _ _ _ _ hl hp).mono ?_); rintro e w1 ⟨rfl, hb1⟩; have M1 : Km (w.heap.size) a b c d x y w1 := (by with_reducible exact pkMo33); have N1 : Kg (w.heap.size + 1) p q w1 := (by with_reducible exact pkMo33); have R1 : KV (w.heap.size + 1 + 1) 0 0 w1 := (by with_reducible exact pkMo33); have M1l := M1.1; have N1l := N1.1; have R1c0 := R1.c0; have R1f0 := R1.f0; have R1c1 := R1.c1; have R1f1 := R1.f1; have R1l := R1.lt; have B1 : Below w.heap.size w w1 := (by repeat (first | with_reducible assumption | with_reducible refine Below.drew ?_ | with_reducible refine Below.alloc ?_ (by first | omega | (have := B0.size; simp <;> omega)) _ | with_reducible refine bstep ?_ (by with_reducible assumption)))))
   | (go_at_call 178; ((with_reducible refine (add5_any _ _ _ _ _ S1 S2).mono ?_); rintro e w2 ⟨rfl, hb2⟩; have M2 : Km (w.heap.size) a b c d x y w2 := (by with_reducible exact pkMo33); have N2 : Kg (w.heap.size + 1) p q w2 := (by with_reducible exact pkMo33); have R2 : KV (w.heap.size + 1 + 1) 0 0 w2 := (by with_reducible exact pkMo33); have M2l := M2.1; have N2l := N2.1; have R2c0 := R2.c0; have R2f0 := R2.f0; have R2c1 := R2.c1; have R2f1 := R2.f1; have R2l := R2.lt; have B2 : Below w.heap.size w w2 := (by repeat (first | with_reducible assumption | with_reducible refine Below.drew ?_ | with_reducible refine Below.alloc ?_ (by first | omega | (have := B0.size; simp <;> omega)) _ | with_reducible refine bstep ?_ (by with_reducible assumption))))))
 all_goals
  go_wp2
  refine bodyPost_ret (v := .agg #[.int .i64 (a * p + b * q + x), .int .i64 (c * p + d * q + y)]) (by simp [results, Tryz.results242, go_sem, *]) rfl ⟨rfl, ?_⟩
  exact pkMo32

set_option maxRecDepth 100000 in
set_option maxHeartbeats 1000000 in
theorem l05Twice_any (a b c d x y : Int) (w : World) (hl : limB a b c d = true) (hv : vecB x y = true) :
  Calls Tryz.prog 166 #[.agg #[.int .i64 a, .int .i64 b, .int .i64 c, .int .i64 d, .int .i64 x, .int .i64 y]] w fun e w' => e = .returned (.agg #[.int .i64 (a * x + b * y + x), .int .i64 (c * x + d * y + y)]) ∧ Below w.heap.size w w' := by
 have S1 : -1000000000 ≤ a * x + b * y + x ∧ a * x + b * y + x ≤ 1000000000 := by
  obtain ⟨⟨ha, hb⟩, hc, hd⟩ := limB_bd hl
  obtain ⟨hx, hy⟩ := vecB_bd hv
  have e1 := mul1000 ha hx
  have e2 := mul1000 hb hy
  omega
 have S2 : -1000000000 ≤ c * x + d * y + y ∧ c * x + d * y + y ≤ 1000000000 := by
  obtain ⟨⟨ha, hb⟩, hc, hd⟩ := limB_bd hl
  obtain ⟨hx, hy⟩ := vecB_bd hv
  have e1 := mul1000 hc hx
  have e2 := mul1000 hd hy
  omega
 have M0 : Km (w.heap.size) a b c d x y ((w.alloc (.cells #[.int .i64 a, .int .i64 b, .int .i64 c, .int .i64 d, .int .i64 x, .int .i64 y] 69)).alloc (.cells #[.int .i64 0, .int .i64 0] 63)) := ((Km.at (w.heap.size) rfl).alloc _)
 have R0 : KV (w.heap.size + 1) 0 0 ((w.alloc (.cells #[.int .i64 a, .int .i64 b, .int .i64 c, .int .i64 d, .int .i64 x, .int .i64 y] 69)).alloc (.cells #[.int .i64 0, .int .i64 0] 63)) := (KV.at (w.heap.size + 1) (by simp))
 have B0 : Below w.heap.size w ((w.alloc (.cells #[.int .i64 a, .int .i64 b, .int .i64 c, .int .i64 d, .int .i64 x, .int .i64 y] 69)).alloc (.cells #[.int .i64 0, .int .i64 0] 63)) := (Below.alloc (Below.alloc (Below.refl _ _) (by first | with_reducible exact Nat.le_refl _ | (simp <;> omega)) _) (by first | with_reducible exact Nat.le_refl _ | (simp <;> omega)) _)
 go_enter Tryz.func166, Tryz.ntmps166
 have M0lt := M0.1
 have R0lt := R0.lt
 go_wp2_with fail
 go_region_held3 (fun W => (W.cell? ⟨w.heap.size, 0, none⟩ = some (.int .i64 a) ∧ W.cell? ⟨w.heap.size, 1, none⟩ = some (.int .i64 b) ∧ W.cell? ⟨w.heap.size, 2, none⟩ = some (.int .i64 c) ∧ W.cell? ⟨w.heap.size, 3, none⟩ = some (.int .i64 d) ∧ W.cell? ⟨w.heap.size, 4, none⟩ = some (.int .i64 x) ∧ W.cell? ⟨w.heap.size, 5, none⟩ = some (.int .i64 y))) ((refine Km.cells ?_ <;> repeat (first | with_reducible assumption | with_reducible refine KV.drew ?_ | with_reducible refine KV.alloc ?_ _ | with_reducible refine KV.call ?_ (by with_reducible assumption) | with_reducible refine Km.drew ?_ | with_reducible refine Km.alloc ?_ _ | with_reducible refine Km.call ?_ (by with_reducible assumption) | ((with_reducible refine KV.put ?_ ?_); (first | omega | (dsimp only; omega))) | ((with_reducible refine Km.put ?_ ?_); (first | omega | (dsimp only; omega))) | ((with_reducible refine KV.far5 ?_ ?_); (first | omega | (dsimp only; omega))) | ((with_reducible refine Km.far ?_ ?_); (first | omega | (dsimp only; omega))))))
  (first
   | (go_at_call 232; ((with_reducible refine (l02Apply_any _ _ _ _ _ _ _ hl hv).mono ?_); rintro e w1 ⟨rfl, hb1⟩; have M1 : Km (w.heap.size) a b c d x y w1 := (by with_reducible exact pkMo34); have R1 : KV (w.heap.size + 1) 0 0 w1 := (by with_reducible exact pkMo34); have M1l := M1.1; have R1c0 := R1.c0; have R1f0 := R1.f0; have R1c1 := R1.c1; have R1f1 := R1.f1; have R1l := R1.lt; have B1 : Below w.heap.size w w1 := (by repeat (first | with_reducible assumption | with_reducible refine Below.drew ?_ | with_reducible refine Below.alloc ?_ (by first | omega | (have := B0.size; simp <;> omega)) _ | with_reducible refine bstep ?_ (by with_reducible assumption)))))
   | (go_at_call 178; ((with_reducible refine (add5_any _ _ _ _ _ S1 S2).mono ?_); rintro e w2 ⟨rfl, hb2⟩; have M2 : Km (w.heap.size) a b c d x y w2 := (by with_reducible exact pkMo34); have R2 : KV (w.heap.size + 1) 0 0 w2 := (by with_reducible exact pkMo34); have M2l := M2.1; have R2c0 := R2.c0; have R2f0 := R2.f0; have R2c1 := R2.c1; have R2f1 := R2.f1; have R2l := R2.lt; have B2 : Below w.heap.size w w2 := (by repeat (first | with_reducible assumption | with_reducible refine Below.drew ?_ | with_reducible refine Below.alloc ?_ (by first | omega | (have := B0.size; simp <;> omega)) _ | with_reducible refine bstep ?_ (by with_reducible assumption))))))
 all_goals
  go_wp2
  refine bodyPost_ret (v := .agg #[.int .i64 (a * x + b * y + x), .int .i64 (c * x + d * y + y)]) (by simp [results, Tryz.results166, go_sem, *]) rfl ⟨rfl, ?_⟩
  exact pkMo32

end Go.Proofs.YtjjfomokecngoaaGreatDoor
namespace Go.Proofs.YtjjfomokecngoaaGreatDoor
section
set_option linter.unusedVariables false
set_option linter.unusedSimpArgs false

abbrev V2 := Int × Int
def mv (A B C : Int) (m : M6) (v : V2) : V2 := (redX A B C (m.1 * v.1 + m.2.1 * v.2 + m.2.2.2.2.1) (m.2.2.1 * v.1 + m.2.2.2.1 * v.2 + m.2.2.2.2.2), redY C (m.2.2.1 * v.1 + m.2.2.2.1 * v.2 + m.2.2.2.2.2))
def celB (A C : Int) (v : V2) : Bool := decide (0 ≤ v.1) && (decide (v.1 < A) && (decide (0 ≤ v.2) && decide (v.2 < C)))
theorem celB_iff {A C : Int} {v : V2} : celB A C v = true ↔ (0 ≤ v.1 ∧ v.1 < A) ∧ (0 ≤ v.2 ∧ v.2 < C) := by
 simp only [celB, Bool.and_eq_true, decide_eq_true_eq]; omega
theorem mv_cel {A B C : Int} (hl : latI A B C) (m : M6) (v : V2) : celB A C (mv A B C m v) = true := celB_iff.2 ⟨redX_bd hl, redY_bd hl⟩
theorem mv_one {A B C : Int} (hl : latI A B C) {v : V2} (h : celB A C v = true) : mv A B C oneM v = v := by
 obtain ⟨x, y⟩ := v
 obtain ⟨h1, h2⟩ := celB_iff.1 h
 obtain ⟨e1, e2⟩ := red_cell (A := A) (B := B) (C := C) h1.1 h1.2 h2.1 h2.2
 simp only [mv, oneM, Int.one_mul, Int.zero_mul, Int.add_zero, Int.zero_add]
 rw [e1, e2]
theorem mv_mul {f A B C : Int} (hl : latI A B C) {m : M6} (hm : suiQ f A B C m) (n : M6) (v : V2) : mv A B C (mulM A B C m n) v = mv A B C m (mv A B C n v) := by
 have h := mul_assoc6 (n := n) (k := (1, 0, 0, 1, v.1, v.2)) hl hm
 have h2 := congrArg (fun k : M6 => ((k.2.2.2.2.1, k.2.2.2.2.2) : V2)) h
 exact h2
/- a function of a finite list into itself that is one to one meets all -/
theorem inj_surj {α : Type} [DecidableEq α] {L : List α} (hn : L.Nodup) (φ : α → α) (hin : ∀ x ∈ L, φ x ∈ L) (hinj : ∀ x ∈ L, ∀ y ∈ L, φ x = φ y → x = y) {y : α} (hy : y ∈ L) : ∃ x ∈ L, φ x = y := by
 by_cases h : y ∈ L.map φ
 ·obtain ⟨x, hx, e⟩ := List.mem_map.1 h
  exact ⟨x, hx, e⟩
 ·exfalso
  have hm : (L.map φ).Nodup := by
   have : ∀ l : List α, l.Nodup → (∀ x ∈ l, x ∈ L) → (l.map φ).Nodup := by
    intro l
    induction l with
    | nil => intro _ _; simp
    | cons a l ih =>
     intro hl hs
     rw [List.map_cons]
     have h1 := List.nodup_cons.1 hl
     refine List.nodup_cons.2 ⟨fun hx => ?_, ih h1.2 fun x hx => hs x (by simp [hx])⟩
     obtain ⟨b, hb, e⟩ := List.mem_map.1 hx
     have := hinj b (hs b (by simp [hb])) a (hs a (by simp)) e
     exact h1.1 (this ▸ hb)
   exact this L hn fun x hx => hx
  have := nodup_len (y :: L.map φ) L (List.nodup_cons.2 ⟨h, hm⟩) fun x hx => by
   rcases List.mem_cons.1 hx with rfl | hx
   ·exact hy
   ·obtain ⟨b, hb, rfl⟩ := List.mem_map.1 hx
    exact hin b hb
  rw [List.length_cons, List.length_map] at this; omega
theorem grp_good {f A B C : Int} {G : List M6} (h : grpB f A B C G = true) : latI A B C ∧ frB f = true ∧ GoodR f A B C G := by
 obtain ⟨h1, h2, _⟩ := grp_ok h
 have h5 := h1
 simp only [flB, Bool.and_eq_true] at h5
 exact ⟨latB_iff.1 h5.2, h5.1, fun m hm => ⟨(okM_iff.1 (h2 m hm).1).2.1, (h2 m hm).2⟩⟩
theorem grp_mem2 {f A B C : Int} {L : List M6} (h : grpB f A B C L = true) : oneM ∈ L ∧ ∀ m ∈ L, ∀ n ∈ L, mulM A B C m n ∈ L := by
 unfold grpB at h
 simp only [Bool.and_eq_true, decide_eq_true_eq, List.all_eq_true, List.contains_iff_mem, beq_iff_eq] at h
 exact ⟨h.2.2.2.1, h.2.2.2.2⟩
theorem mul_cancel {f A B C : Int} (hf : frB f = true) (hl : latI A B C) {m n g : M6} (hm : redM A B C m = m) (hn : redM A B C n = n) (hg : suiQ f A B C g) (h : mulM A B C m g = mulM A B C n g) : m = n := by
 obtain ⟨a, b, c, d, x, y⟩ := m
 obtain ⟨a', b', c', d', x', y'⟩ := n
 obtain ⟨p, q, r, s, u, v⟩ := g
 have hd := keep_det hf hg.1
 simp only [mulM, cmpM, cmpI, redM, Prod.mk.injEq] at h
 obtain ⟨h1, h2, h3, h4, h5, h6⟩ := h
 simp only at hd
 have k1 : (a - a') * (p * s - q * r) = 0 := by
  have e : (a - a') * (p * s - q * r) = (a * p + b * r - (a' * p + b' * r)) * s - (a * q + b * s - (a' * q + b' * s)) * r := by grind
  rw [e, h1, h2]; simp
 have k2 : (b - b') * (p * s - q * r) = 0 := by
  have e : (b - b') * (p * s - q * r) = (a * q + b * s - (a' * q + b' * s)) * p - (a * p + b * r - (a' * p + b' * r)) * q := by grind
  rw [e, h1, h2]; simp
 have k3 : (c - c') * (p * s - q * r) = 0 := by
  have e : (c - c') * (p * s - q * r) = (c * p + d * r - (c' * p + d' * r)) * s - (c * q + d * s - (c' * q + d' * s)) * r := by grind
  rw [e, h3, h4]; simp
 have k4 : (d - d') * (p * s - q * r) = 0 := by
  have e : (d - d') * (p * s - q * r) = (c * q + d * s - (c' * q + d' * s)) * p - (c * p + d * r - (c' * p + d' * r)) * q := by grind
  rw [e, h3, h4]; simp
 have hne : p * s - q * r ≠ 0 := by omega
 have z : ∀ t : Int, t * (p * s - q * r) = 0 → t = 0 := fun t ht => (Int.mul_eq_zero.1 ht).resolve_right hne
 have ea := z _ k1
 have eb := z _ k2
 have ec := z _ k3
 have ed := z _ k4
 obtain rfl : a = a' := by omega
 obtain rfl : b = b' := by omega
 obtain rfl : c = c' := by omega
 obtain rfl : d = d' := by omega
 have hi := (red_same hl).1 ⟨h5, h6⟩
 have e1 : a * u + b * v + x - (a * u + b * v + x') = x - x' := by omega
 have e2 : c * u + d * v + y - (c * u + d * v + y') = y - y' := by omega
 rw [e1, e2] at hi
 rw [← hm, ← hn]
 exact redM_eq hl hi
theorem grp_inv {f A B C : Int} {G : List M6} (h : grpB f A B C G = true) {g : M6} (hg : g ∈ G) : ∃ n ∈ G, mulM A B C n g = oneM := by
 obtain ⟨hl, hf, hG⟩ := grp_good h
 obtain ⟨h1, h2⟩ := grp_mem2 h
 exact inj_surj (grp_ok h).2.2.nodup (fun n => mulM A B C n g) (fun n hn => h2 n hn g hg) (fun m hm n hn e => mul_cancel hf hl (hG m hm).2 (hG n hn).2 (hG g hg).1 e) h1
/- which cells the group takes to which -/
def Orb (A B C : Int) (G : List M6) (u v : V2) : Prop := ∃ g ∈ G, mv A B C g u = v
instance (A B C : Int) (G : List M6) (u v : V2) : Decidable (Orb A B C G u v) := inferInstanceAs (Decidable (∃ g ∈ G, mv A B C g u = v))
end
end Go.Proofs.YtjjfomokecngoaaGreatDoor

namespace Go.Proofs.YtjjfomokecngoaaGreatDoor
section
open Go.RowKit
set_option linter.unusedSimpArgs false
set_option linter.unusedVariables false

def eqV2 (a b a' b' : Int) : Bool := a == a' && b == b'
set_option maxHeartbeats 4000000 in
theorem eqVe7 (a b a' b' : Int) (w : World) : (Op.equalIn 10000 63 (.agg #[.int .i64 a, .int .i64 b]) (.agg #[.int .i64 a', .int .i64 b'])).run Tryz.prog w = .ok (eqV2 a b a' b') w := by
 have hu := Tryz.underlying63
 rw [show (10000 : Nat) = 9999 + 1 from rfl, run_equalIn_struct _ _ _ _ _ (by simp only [Program.fieldsOf, hu]) (by kernel_rfl)]
 simp only [Program.fieldsOf, hu]
 have u3 := Tryz.underlying2
 have a3 := Tryz.isAgg2
 have z3 := Tryz.sizeOf2
 unfold eqV2
 rcases h1 : (a == a') with _ | _ <;> rcases h2 : (b == b') with _ | _ <;> go_simp <;> simp_all
attribute [local go_sem ↓] eqVe7
end
end Go.Proofs.YtjjfomokecngoaaGreatDoor
namespace Go.Proofs.YtjjfomokecngoaaGreatDoor
open Go.RowKit
set_option linter.unusedSimpArgs false
set_option linter.unusedVariables false

theorem Kt.grown {R : Nat} {a b c : Int} {W w1 : World} {row : Option Nat} (h : Kt R a b c W) (hg : W.grownBy w1 row) (hne : some R ≠ row) : Kt R a b c w1 :=
 ⟨Nat.lt_of_lt_of_le h.1 hg.size, hg.cell h.c0 hne, hg.cell h.c1 hne, hg.cell h.c2 hne⟩
theorem Km.grown {R : Nat} {a b c d x y : Int} {W w1 : World} {row : Option Nat} (h : Km R a b c d x y W) (hg : W.grownBy w1 row) (hne : some R ≠ row) : Km R a b c d x y w1 :=
 ⟨Nat.lt_of_lt_of_le h.1 hg.size, hg.cell h.c0 hne, hg.cell h.c1 hne, hg.cell h.c2 hne, hg.cell h.c3 hne, hg.cell h.c4 hne, hg.cell h.c5 hne⟩
theorem KM.grown {R : Nat} {a b c d x y : Int} {W w1 : World} {row : Option Nat} (h : KM R a b c d x y W) (hg : W.grownBy w1 row) (hne : some R ≠ row) : KM R a b c d x y w1 := by
 have hh := hg.block R h.lt hne
 exact ⟨Nat.lt_of_lt_of_le h.lt hg.size, (World.cell?_of_block (w := W) hh).trans h.c0, (World.cell?_of_block (w := W) hh).trans h.c1, (World.cell?_of_block (w := W) hh).trans h.c2, (World.cell?_of_block (w := W) hh).trans h.c3, (World.cell?_of_block (w := W) hh).trans h.c4, (World.cell?_of_block (w := W) hh).trans h.c5, (World.frozen?_of_block (w := W) hh).trans h.f0, (World.frozen?_of_block (w := W) hh).trans h.f1, (World.frozen?_of_block (w := W) hh).trans h.f2, (World.frozen?_of_block (w := W) hh).trans h.f3, (World.frozen?_of_block (w := W) hh).trans h.f4, (World.frozen?_of_block (w := W) hh).trans h.f5⟩
end Go.Proofs.YtjjfomokecngoaaGreatDoor
namespace Go.Proofs.YtjjfomokecngoaaGreatDoor
section
set_option linter.unusedVariables false
set_option linter.unusedSimpArgs false

end
end Go.Proofs.YtjjfomokecngoaaGreatDoor

namespace Go.Proofs.YtjjfomokecngoaaGreatDoor
section
open Go.RowKit Go.Maps
set_option linter.unusedSimpArgs false
set_option linter.unusedVariables false

theorem laidOut6 : laidOutB Tryz.prog = true := by kernel_rfl
theorem rowKey : (145 : TypeId) < Tryz.prog.types.size := of_decide_eq_true (by kernel_rfl)
theorem wideKey : (match Tryz.prog.underlying 145 with | some (.array _ _) | some (.struct _) => true | _ => false) = true := by kernel_rfl
set_option maxRecDepth 100000 in
theorem lawKey : Keyed Tryz.prog 145 := Keyed.of_law (deep_law_laid laidOut6 (m := 4) (by omega) rowKey (by kernel_rfl) wideKey)
abbrev encM (m : M6) : Value := .agg #[.int .i64 (m.1), .int .i64 (m.2.1), .int .i64 (m.2.2.1), .int .i64 (m.2.2.2.1), .int .i64 (m.2.2.2.2.1), .int .i64 (m.2.2.2.2.2)]
theorem encM_inj {m n : M6} (h : encM m = encM n) : m = n := by
 obtain ⟨a, b, c, d, x, y⟩ := m
 obtain ⟨a', b', c', d', x', y'⟩ := n
 simp [encM] at h
 obtain ⟨rfl, rfl, rfl, rfl, rfl, rfl⟩ := h
 rfl
def midZ (a : Int) : Prop := -1000000 ≤ a ∧ a ≤ 1000000
def smM (m : M6) : Prop := midZ m.1 ∧ midZ m.2.1 ∧ midZ m.2.2.1 ∧ midZ m.2.2.2.1 ∧ midZ m.2.2.2.2.1 ∧ midZ m.2.2.2.2.2
theorem midZ_wf {a : Int} (h : midZ a) : (Lit.int .i64 a).wf = true := WalkArith.wf_i64 (by unfold midZ at h; omega)
theorem sizeM : ∃ k, Tryz.prog.types.size = k + 2 := ⟨Tryz.prog.types.size - 2, by have : 2 ≤ Tryz.prog.types.size := of_decide_eq_true (by kernel_rfl); omega⟩
theorem cellsM : Tryz.prog.cellsOf 145 = 6 := by kernel_rfl
theorem cellsMx : Tryz.prog.cellsOf 133 = 4 := by kernel_rfl
theorem cellsV : Tryz.prog.cellsOf 63 = 2 := by kernel_rfl
theorem cellsI : Tryz.prog.cellsOf 2 = 1 := by kernel_rfl
theorem ktM : Tryz.prog.keyType 145 = true := by kernel_rfl
def kl (m : M6) : Lit := .string (keyBytes [.int .i64 m.1, .int .i64 m.2.1, .int .i64 m.2.2.1, .int .i64 m.2.2.2.1, .int .i64 m.2.2.2.2.1, .int .i64 m.2.2.2.2.2])
set_option maxRecDepth 100000 in
set_option maxHeartbeats 2000000 in
theorem keyM (m : M6) (h : smM m) : keyOf Tryz.prog 145 (encM m) = some (kl m) := by
 obtain ⟨a, b, c, d, x, y⟩ := m
 obtain ⟨h0, h1, h2, h3, h4, h5⟩ := h
 have w0 := midZ_wf h0
 have w1 := midZ_wf h1
 have w2 := midZ_wf h2
 have w3 := midZ_wf h3
 have w4 := midZ_wf h4
 have w5 := midZ_wf h5
 dsimp only at w0 w1 w2 w3 w4 w5
 obtain ⟨k, hk⟩ := sizeM
 have u1 := Tryz.underlying145
 have u2 := Tryz.underlying133
 have u3 := Tryz.underlying63
 have u4 := Tryz.underlying2
 unfold keyOf
 rw [u1]
 simp only [ktM, hk]
 simp [Value.formed, u1, cellsM, Value.cells, Program.keyLits, u2, u3, u4, cellsMx, cellsV, cellsI, w0, w1, w2, w3, w4, w5, List.range_succ]
 rw [if_pos (by decide)]
 simp [kl]
theorem kl_eq {m : M6} (h : smM m) : keyOf Tryz.prog 145 (encM m) = some (kl m) := keyM m h
set_option maxRecDepth 100000 in
theorem kl_inj {m n : M6} (h : smM m) (h' : smM n) (e : kl m = kl n) : m = n := encM_inj (lawKey.inj (kl_eq h) (e ▸ kl_eq h'))
set_option maxRecDepth 100000 in
theorem kl_key {m : M6} (h : smM m) : WideAt.IsKeyLit (kl m) := lawKey.key (kl_eq h)
/- the set of keys as a datum -/
abbrev TT : DataW Unit := .lit (.bool true)
abbrev dataM (Q : List M6) : DataW Unit := setOf TT (Q.map kl)
/- the map -/
def MapIs (W : World) (b n : Nat) (Q : List M6) : Prop := W.ownsMap Tryz.prog 145 (plainElem (H := Unit) Tryz.prog 4) b n (dataM Q)
theorem MapIs.kept {W W' : World} {b n : Nat} {Q : List M6} {row : Option Nat} (h : MapIs W b n Q) (hg : W.grownBy W' row) (hne : some b ≠ row) : MapIs W' b n Q := World.ownsMap.kept h hg hne
theorem MapIs.alloc {W : World} {b n : Nat} {Q : List M6} (h : MapIs W b n Q) (o : Obj) : MapIs (W.alloc o) b n Q := World.ownsMap.alloc h o
theorem MapIs.drew {W : World} {b n : Nat} {Q : List M6} (h : MapIs W b n Q) : MapIs W.drew b n Q := h
theorem MapIs.lt {W : World} {b n : Nat} {Q : List M6} (h : MapIs W b n Q) : b < W.heap.size := World.ownsMap.lt h
theorem MapIs.mono {W : World} {b n n' : Nat} {Q : List M6} (h : MapIs W b n Q) (hn : n ≤ n') : MapIs W b n' Q := World.ownsMap.mono h hn
theorem MapIs.call {W W' : World} {b n : Nat} {Q : List M6} (h : MapIs W b n Q) (hb : Below W.heap.size W W') : MapIs W' b n Q := by
 have hlt := h.lt
 obtain ⟨es, clock, hb', F, hs, hD⟩ := h
 exact ⟨es, clock, (hb.block b hlt).trans hb', F, hs, hD⟩
theorem MapIs.put {W : World} {b n : Nat} {Q : List M6} {p : Addr} {u : Value} (hp : b ≠ p.block) (h : MapIs W b n Q) : MapIs (W.setCell p u) b n Q := World.ownsMap.setCell h hp u
set_option maxRecDepth 100000 in
theorem MapIs.store {W : World} {b n : Nat} {Q : List M6} {m : M6} (h : MapIs W b n Q) (hm : smM m) (hn : n < maxLen) : ∃ W', (Instr.mapUpdate 250 (.map (some b)) (encM m) (.bool true)).run Tryz.prog W = .ok () W' ∧ MapIs W' b (n + 1) (Q ++ [m]) ∧ W.grownBy W' (some b) := by
 obtain ⟨W', hrun, hown, hg⟩ := World.ownsMap.update h lawKey Tryz.underlying250 hn (kl_eq hm) (plainElem_bool Tryz.underlying4 true)
 refine ⟨W', hrun, ?_, hg⟩
 unfold MapIs dataM
 rw [List.map_append, List.map_cons, List.map_nil, setOf_snoc]
 exact hown
theorem MapIs.made (w : World) : MapIs (w.alloc (.map #[] 0)) w.heap.size 0 [] := World.ownsMap_made w _ _ _
end
end Go.Proofs.YtjjfomokecngoaaGreatDoor

namespace Go.Proofs.YtjjfomokecngoaaGreatDoor
section
open Go.RowKit Go.Maps
set_option linter.unusedSimpArgs false
set_option linter.unusedVariables false

/- a row of motions that the call owns, by its block -/
def KOw (g base cap : Nat) (T : TypeId) (Q : List M6) (W : World) : Prop := W.ownsRow base T 6 (.slice (some ⟨g, 0, none⟩) Q.length cap) Q.length (cells6 Q)
theorem KOw.call {g base cap : Nat} {T : TypeId} {Q : List M6} {W w1 : World} (h : KOw g base cap T Q W) (hb : Below W.heap.size W w1) : KOw g base cap T Q w1 := ownsRow_call h hb
theorem KOw.alloc {g base cap : Nat} {T : TypeId} {Q : List M6} {W : World} (h : KOw g base cap T Q W) (o : Obj) : KOw g base cap T Q (W.alloc o) := h.call ((Below.refl _ _).alloc (Nat.le_refl _) _)
theorem KOw.drew {g base cap : Nat} {T : TypeId} {Q : List M6} {W : World} (h : KOw g base cap T Q W) : KOw g base cap T Q W.drew := h.call (Below.refl _ _).drew
theorem KOw.lt {g base cap : Nat} {T : TypeId} {Q : List M6} {W : World} (h : KOw g base cap T Q W) : base ≤ g ∧ g < W.heap.size := World.ownsRow.lt h g rfl
theorem KOw.kept {g base cap : Nat} {T : TypeId} {Q : List M6} {W w1 : World} {row : Option Nat} (h : KOw g base cap T Q W) (hg : W.grownBy w1 row) (hne : some g ≠ row) : KOw g base cap T Q w1 := World.ownsRow.kept h hg (.inr (fun e => hne (by rw [← e]; rfl)))
theorem KOw.mo {g base cap : Nat} {T : TypeId} {Q : List M6} {W : World} (h : KOw g base cap T Q W) (hn : Q.length ≤ 1000000) (i : Nat) (hi : i < Q.length) : Ko6 g (i * 6) Q[i].1 Q[i].2.1 Q[i].2.2.1 Q[i].2.2.2.1 Q[i].2.2.2.2.1 Q[i].2.2.2.2.2 W := by
 have hs := SRow.of6 h hn
 obtain ⟨g', cap', e, _, _, r⟩ := hs.2.2.resolve_left (fun h => by omega)
 simp only [Value.slice.injEq, Option.some.injEq, Addr.mk.injEq, and_true, true_and] at e
 obtain ⟨rfl, _⟩ := e
 exact r.mo i hi
theorem KOw.of {base : Nat} {T : TypeId} {v : Value} {Q : List M6} {W : World} (h : W.ownsRow base T 6 v Q.length (cells6 Q)) (hn : 0 < Q.length) : ∃ g cap, v = .slice (some ⟨g, 0, none⟩) Q.length cap ∧ KOw g base cap T Q W := by
 rcases h.2 with ⟨_, h0⟩ | ⟨g, cap, cur, rfl, r⟩
 ·omega
 ·exact ⟨g, cap, rfl, h⟩
theorem KOw.put {g base cap : Nat} {T : TypeId} {Q : List M6} {W : World} {p : Addr} {u : Value} (hp : p.block ≠ g) (h : KOw g base cap T Q W) : KOw g base cap T Q (W.setCell p u) := by
 rcases h.2 with ⟨h0, _⟩ | ⟨g', cap', cur, he, r1, r2, r3⟩
 ·simp at h0
 ·simp only [Value.slice.injEq, Option.some.injEq, Addr.mk.injEq, and_true, true_and] at he
  obtain ⟨rfl, rfl⟩ := he
  exact ⟨h.1, .inr ⟨_, _, cur, rfl, r1, by rw [Below.heap_setCell _ _ _ _ (by omega)]; exact r2, r3⟩⟩
theorem ko_lt {g o : Nat} {a b c d x y : Int} {W : World} (h : Ko6 g o a b c d x y W) : g < W.heap.size := h.1
def KMp (b n : Nat) (Q : List M6) (W : World) : Prop := MapIs W b n Q
theorem KMp.call {b n : Nat} {Q : List M6} {W w1 : World} (h : KMp b n Q W) (hb : Below W.heap.size W w1) : KMp b n Q w1 := MapIs.call h hb
theorem KMp.alloc {b n : Nat} {Q : List M6} {W : World} (h : KMp b n Q W) (o : Obj) : KMp b n Q (W.alloc o) := MapIs.alloc h o
theorem KMp.drew {b n : Nat} {Q : List M6} {W : World} (h : KMp b n Q W) : KMp b n Q W.drew := h
theorem KMp.put {b n : Nat} {Q : List M6} {W : World} {p : Addr} {u : Value} (hp : p.block ≠ b) (h : KMp b n Q W) : KMp b n Q (W.setCell p u) := MapIs.put (fun e => hp e.symm) h
end
end Go.Proofs.YtjjfomokecngoaaGreatDoor
namespace Go.Proofs.YtjjfomokecngoaaGreatDoor
section
open Go.RowKit Go.Sort Go.Lib
set_option linter.unusedSimpArgs false
set_option linter.unusedVariables false

end
end Go.Proofs.YtjjfomokecngoaaGreatDoor

section
namespace Go.Proofs
open Go.Shelf
end Go.Proofs
end

namespace Go.Proofs.YtjjfomokecngoaaGreatDoor
section
open Go.RowKit Go.Sort Go.Lib Go.Shelf
set_option linter.unusedSimpArgs false
set_option linter.unusedVariables false

end
end Go.Proofs.YtjjfomokecngoaaGreatDoor
namespace Go.Proofs.YtjjfomokecngoaaGreatDoor
open Go.RowKit
set_option linter.unusedSimpArgs false
set_option linter.unusedVariables false

attribute [local go_sem ↓] eqM6
def KOwV (base : Nat) (T : TypeId) (v : Value) (L : List M6) (w : World) : Prop := w.ownsRow base T 6 v L.length (cells6 L)
theorem KOwV.call {base : Nat} {T : TypeId} {v : Value} {L : List M6} {W w1 : World} (h : KOwV base T v L W) (hb : Below W.heap.size W w1) : KOwV base T v L w1 := ownsRow_call h hb
theorem KOwV.alloc {base : Nat} {T : TypeId} {v : Value} {L : List M6} {W : World} (h : KOwV base T v L W) (z : Obj) : KOwV base T v L (W.alloc z) := h.call ((Below.refl _ _).alloc (Nat.le_refl _) _)
theorem KOwV.drew {base : Nat} {T : TypeId} {v : Value} {L : List M6} {W : World} (h : KOwV base T v L W) : KOwV base T v L W.drew := h.call (Below.refl _ _).drew
end Go.Proofs.YtjjfomokecngoaaGreatDoor
namespace Go.Proofs.YtjjfomokecngoaaGreatDoor
open Go.RowKit
set_option linter.unusedSimpArgs false
set_option linter.unusedVariables false

theorem KOw.one {W : World} {base g : Nat} {T : TypeId} (m : M6) (hg : g = W.heap.size) (hb : base ≤ W.heap.size) : KOw g base 1 T [m] (W.alloc (.cells #[.int .i64 m.1, .int .i64 m.2.1, .int .i64 m.2.2.1, .int .i64 m.2.2.2.1, .int .i64 m.2.2.2.2.1, .int .i64 m.2.2.2.2.2] T)) := by
 subst hg
 have h := World.ownsRow_lit (base := base) (e := T) (size := 6) W #[.int .i64 m.1, .int .i64 m.2.1, .int .i64 m.2.2.1, .int .i64 m.2.2.2.1, .int .i64 m.2.2.2.2.1, .int .i64 m.2.2.2.2.2] 1 hb (by unfold maxLen; omega) rfl
 exact h
end Go.Proofs.YtjjfomokecngoaaGreatDoor
namespace Go.Proofs.YtjjfomokecngoaaGreatDoor
section
open Go.RowKit Go.Maps Go.Shelf
set_option linter.unusedSimpArgs false
set_option linter.unusedVariables false

/- what has come, and what is still to come -/
structure Coll (Q : List M6) (left : Lit → Bool) (ss : List M6) : Prop where
 nodup : ss.Nodup
 sub : ∀ m ∈ ss, m ∈ Q ∧ left (kl m) = false
 rest : ∀ m ∈ Q, left (kl m) = true ∨ m ∈ ss
 from' : ∀ l, left l = true → ∃ m ∈ Q, kl m = l
theorem same_kl (m n : M6) : (kl m).sameKey (kl n) = true ↔ kl m = kl n := by
 constructor
 ·intro h
  by_cases e : kl m = kl n
  ·exact e
  ·rw [sameKey_ne e] at h; cases h
 ·intro h
  rw [h]
  simp [kl, Lit.sameKey]
theorem has_data {Q : List M6} (hQ : ∀ m ∈ Q, smM m) (l : Lit) : Maps.has (dataM Q) l = (Q.map kl).any (fun x => x.sameKey l) :=
 has_setOf _ _ _ (fun x hx => by obtain ⟨m, hm, rfl⟩ := List.mem_map.1 hx; exact kl_key (hQ m hm))
theorem Coll.start {Q : List M6} (hQ : ∀ m ∈ Q, smM m) : Coll Q (Maps.has (dataM Q)) [] := by
 refine ⟨by simp, by simp, fun m hm => .inl ?_, fun l hl => ?_⟩
 ·rw [has_data hQ, List.any_eq_true]
  exact ⟨kl m, List.mem_map.2 ⟨m, hm, rfl⟩, (same_kl m m).2 rfl⟩
 ·rw [has_data hQ, List.any_eq_true] at hl
  obtain ⟨x, hx, hs⟩ := hl
  obtain ⟨m, hm, rfl⟩ := List.mem_map.1 hx
  refine ⟨m, hm, ?_⟩
  by_cases e : kl m = l
  ·exact e
  ·rw [sameKey_ne e] at hs; cases hs
theorem Coll.step {Q : List M6} {left : Lit → Bool} {ss : List M6} (hQ : ∀ m ∈ Q, smM m) (h : Coll Q left ss) {x : M6} (hx : x ∈ Q) (hl : left (kl x) = true) : Coll Q (fun z => left z && !z.sameKey (kl x)) (ss ++ [x]) := by
 have hn : x ∉ ss := fun hm => by rw [(h.sub x hm).2] at hl; cases hl
 refine ⟨?_, ?_, ?_, ?_⟩
 ·exact List.nodup_append.2 ⟨h.nodup, by simp, fun a ha b hb => by simp at hb; subst hb; exact fun e => hn (e ▸ ha)⟩
 ·intro m hm
  rcases List.mem_append.1 hm with hm | hm
  ·exact ⟨(h.sub m hm).1, by simp [(h.sub m hm).2]⟩
  ·simp at hm; subst hm; exact ⟨hx, by simp [(same_kl m m).2 rfl]⟩
 ·intro m hm
  by_cases e : m = x
  ·exact .inr (by simp [e])
  ·rcases h.rest m hm with h' | h'
   ·refine .inl ?_
    have : (kl m).sameKey (kl x) = false := sameKey_ne (fun e' => e (kl_inj (hQ m hm) (hQ x hx) e'))
    simp [h', this]
   ·exact .inr (by simp [h'])
 ·intro l hl'
  simp only [Bool.and_eq_true] at hl'
  exact h.from' l hl'.1
theorem Coll.key {Q : List M6} {left : Lit → Bool} {ss : List M6} (hQ : ∀ m ∈ Q, smM m) (h : Coll Q left ss) {v : Value} {l : Lit} (hk : keyOf Tryz.prog 145 v = some l) (hl : left l = true) : ∃ x ∈ Q, v = encM x ∧ l = kl x := by
 obtain ⟨m, hm, rfl⟩ := h.from' l hl
 exact ⟨m, hm, lawKey.inj hk (kl_eq (hQ m hm)), rfl⟩
theorem Coll.len {Q : List M6} {left : Lit → Bool} {ss : List M6} (h : Coll Q left ss) {x : M6} (hx : x ∈ Q) (hl : left (kl x) = true) : ss.length < Q.length := by
 have hn : x ∉ ss := fun hm => by rw [(h.sub x hm).2] at hl; cases hl
 have := nodup_len (ss ++ [x]) Q (List.nodup_append.2 ⟨h.nodup, by simp, fun a ha b hb => by simp at hb; subst hb; exact fun e => hn (e ▸ ha)⟩) (fun m hm => by
  rcases List.mem_append.1 hm with hm | hm
  ·exact (h.sub m hm).1
  ·simp at hm; subst hm; exact hx)
 simp at this
 omega
theorem Coll.fin {Q : List M6} {left : Lit → Bool} {ss : List M6} (h : Coll Q left ss) (hl : ∀ l, left l = false) : ss.Nodup ∧ ∀ m, m ∈ ss ↔ m ∈ Q :=
 ⟨h.nodup, fun m => ⟨fun hm => (h.sub m hm).1, fun hm => (h.rest m hm).resolve_left (fun h' => by rw [hl] at h'; cases h')⟩⟩
end
end Go.Proofs.YtjjfomokecngoaaGreatDoor

namespace Go.Proofs.YtjjfomokecngoaaGreatDoor
section
open Go.RowKit Go.Maps Go.Shelf
set_option linter.unusedSimpArgs false
set_option linter.unusedVariables false
attribute [local go_sem] Oper.semAt_some

end
end Go.Proofs.YtjjfomokecngoaaGreatDoor

namespace Go.Proofs.YtjjfomokecngoaaGreatDoor
section
open Go.RowKit Go.Maps
set_option linter.unusedSimpArgs false
set_option linter.unusedVariables false

structure Mak (f A B C : Int) (R : List M6) (k : Nat) (Ms : List M6) : Prop where
 g : Gath A B C R k Ms
 nd : Ms.Nodup
theorem Mak.start (f A B C : Int) (R : List M6) : Mak f A B C R 0 [] := ⟨Gath.start A B C R, by simp⟩
theorem Mak.adds {f A B C : Int} (hl : latI A B C) {R Ms : List M6} (hR : GoodR f A B C R) {k : Nat} (h : Mak f A B C R k Ms) (hk : k < R.length) (hm : ¬ Reach A B C Ms R[k]) : Mak f A B C R (k + 1) (Ms ++ [R[k]]) :=
 ⟨h.g.adds hl hR hk, List.nodup_append.2 ⟨h.nd, by simp, fun a ha b hb => by simp at hb; subst hb; exact fun e => hm (reach_mem hl (h.g.good hR) (e ▸ ha))⟩⟩
theorem Mak.len {f A B C : Int} (hf : frB f = true) (hl : latI A B C) {R Ms : List M6} (hR : GoodR f A B C R) {k : Nat} (h : Mak f A B C R k Ms) : Ms.length ≤ 768 := good_len hf hl h.nd (h.g.good hR)
/- what the map holds between two rounds -/
structure Found (A B C : Int) (Ms Q : List M6) : Prop where
 nd : Q.Nodup
 mem : ∀ m, m ∈ Q ↔ Reach A B C Ms m
theorem Found.len {f A B C : Int} (hf : frB f = true) (hl : latI A B C) {Ms Q : List M6} (hM : GoodR f A B C Ms) (h : Found A B C Ms Q) : Q.length ≤ 768 := good_len hf hl h.nd fun m hm => reach_good hl hM ((h.mem m).1 hm)
end
end Go.Proofs.YtjjfomokecngoaaGreatDoor

namespace Go.Proofs.YtjjfomokecngoaaGreatDoor
section
open Go.RowKit Go.Maps
set_option linter.unusedSimpArgs false
set_option linter.unusedVariables false

attribute [local go_sem ↓] eqM6
end
end Go.Proofs.YtjjfomokecngoaaGreatDoor

namespace Go.Proofs.YtjjfomokecngoaaGreatDoor
section
open Go.RowKit
set_option linter.unusedSimpArgs false
set_option linter.unusedVariables false

theorem Ko6.grown {g o : Nat} {a b c d x y : Int} {W w1 : World} {row : Option Nat} (h : Ko6 g o a b c d x y W) (hg : W.grownBy w1 row) (hne : some g ≠ row) : Ko6 g o a b c d x y w1 :=
 ⟨Nat.lt_of_lt_of_le h.1 hg.size, hg.cell h.2.1 hne, hg.cell h.2.2.1 hne, hg.cell h.2.2.2.1 hne, hg.cell h.2.2.2.2.1 hne, hg.cell h.2.2.2.2.2.1 hne, hg.cell h.2.2.2.2.2.2 hne⟩
theorem srow_shape {lo hi K n : Nat} {v : Value} {F : Nat → Int} {W : World} (h : SRow lo hi K v n F W) : ∃ ao cap, v = .slice ao n cap := by
 rcases h.2.2 with ⟨rfl, ao, cap, rfl⟩ | ⟨g, cap, rfl, _⟩
 ·exact ⟨ao, cap, rfl⟩
 ·exact ⟨_, cap, rfl⟩
def LAns (K : Nat) (n : Nat) (F : Nat → Int) (c : Int) (w : World) (e : Ending) (w' : World) : Prop :=
 ∃ v : Value, e = .returned (.tuple #[v, .int .i64 c]) ∧ SRow w.heap.size w'.heap.size K v n F w' ∧ Below w.heap.size w w'
theorem LAns.nil {K : Nat} {F : Nat → Int} {c c' : Int} {w w' : World} (hc : c' = c) (hb : Below w.heap.size w w') : LAns K 0 F c w (.returned (.tuple #[.slice none 0 0, .int .i64 c'])) w' :=
 ⟨_, by rw [hc], ⟨Nat.le_refl _, Nat.zero_le _, .inl ⟨rfl, none, 0, rfl⟩⟩, hb⟩
end
end Go.Proofs.YtjjfomokecngoaaGreatDoor
namespace Go.Proofs.YtjjfomokecngoaaGreatDoor
open Go.RowKit
set_option linter.unusedSimpArgs false
set_option linter.unusedVariables false

attribute [local go_sem ↓] eqM6
end Go.Proofs.YtjjfomokecngoaaGreatDoor
namespace Go.Proofs.YtjjfomokecngoaaGreatDoor
section
open Go.RowKit
set_option linter.unusedSimpArgs false
set_option linter.unusedVariables false

def isOne (m : M6) : Bool := eqM m.1 m.2.1 m.2.2.1 m.2.2.2.1 1 0 0 1
def shP (xs : List M6) : List (Int × Int) := (xs.filter isOne).map fun m => (m.2.2.2.2.1, m.2.2.2.2.2)
attribute [local go_sem ↓] eqArr eqMa6
end
end Go.Proofs.YtjjfomokecngoaaGreatDoor

namespace Go.Proofs.YtjjfomokecngoaaGreatDoor
section
open Go.RowKit
set_option linter.unusedSimpArgs false
set_option linter.unusedVariables false

/- what a closure on motions does: it answers O m in each world that keeps Inv, and leaves what was there -/
/- an invariant that only looks at blocks other than g -/
structure Cmp6 (O : M6 → Bool) (L N : List M6) (j : Nat) : Prop where
 ij : N.length < j
 pre : N = (L.take j).filter (fun v => !O v)
theorem Cmp6.start {O : M6 → Bool} {L : List M6} {k : Nat} (hk : k < L.length) (ho : O L[k] = true) (hb : ∀ v ∈ L.take k, O v = false) : Cmp6 O L (L.take k) (k + 1) := by
 refine ⟨by rw [List.length_take]; omega, ?_⟩
 rw [List.take_succ_eq_append_getElem hk, List.filter_append, List.filter_eq_self.2 (fun v hv => by rw [hb v hv]; rfl)]
 simp [ho]
theorem Cmp6.skip {O : M6 → Bool} {L N : List M6} {j : Nat} (h : Cmp6 O L N j) (hj : j < L.length) (ho : O L[j] = true) : Cmp6 O L N (j + 1) := by
 refine ⟨by have := h.ij; omega, ?_⟩
 rw [List.take_succ_eq_append_getElem hj, List.filter_append, ← h.pre]
 simp [ho]
theorem Cmp6.keep {O : M6 → Bool} {L N : List M6} {j : Nat} (h : Cmp6 O L N j) (hj : j < L.length) (ho : O L[j] = false) : Cmp6 O L (N ++ [L[j]]) (j + 1) := by
 refine ⟨by have := h.ij; simp; omega, ?_⟩
 rw [List.take_succ_eq_append_getElem hj, List.filter_append, ← h.pre]
 simp [ho]
theorem Ko6.of {g o : Nat} {F : Nat → Int} {W : World} {N : Nat} {m : M6} (h : IRow g N F W) (ho : o + 5 < N) (e : F o = m.1 ∧ F (o + 1) = m.2.1 ∧ F (o + 2) = m.2.2.1 ∧ F (o + 3) = m.2.2.2.1 ∧ F (o + 4) = m.2.2.2.2.1 ∧ F (o + 5) = m.2.2.2.2.2) : Ko6 g o m.1 m.2.1 m.2.2.1 m.2.2.2.1 m.2.2.2.2.1 m.2.2.2.2.2 W := by
 have k := h.ko6 o ho
 rwa [e.1, e.2.1, e.2.2.1, e.2.2.2.1, e.2.2.2.2.1, e.2.2.2.2.2] at k
end
end Go.Proofs.YtjjfomokecngoaaGreatDoor
namespace Go.Proofs.YtjjfomokecngoaaGreatDoor
open Go.RowKit
set_option linter.unusedSimpArgs false
set_option linter.unusedVariables false

end Go.Proofs.YtjjfomokecngoaaGreatDoor
namespace Go.Proofs.YtjjfomokecngoaaGreatDoor
open Go.RowKit
set_option linter.unusedSimpArgs false
set_option linter.unusedVariables false

attribute [local go_sem ↓] eqVe7
end Go.Proofs.YtjjfomokecngoaaGreatDoor
namespace Go.Proofs.YtjjfomokecngoaaGreatDoor
open Go.RowKit
set_option linter.unusedSimpArgs false
set_option linter.unusedVariables false

def trnS (n : Int) (m : M6) : Int := if m.1 * m.2.2.2.1 - m.2.1 * m.2.2.1 = 1 then max n (ordI m.1 m.2.1 m.2.2.1 m.2.2.2.1) else n
def trnP (xs : List M6) : Int := xs.foldl trnS 1
theorem trnP_next {xs : List M6} {k : Nat} {m : M6} (h : xs.take (k + 1) = xs.take k ++ [m]) : trnP (xs.take (k + 1)) = trnS (trnP (xs.take k)) m := by
 unfold trnP
 rw [h, List.foldl_append]; rfl
theorem ordI_bd (a b c d : Int) : 0 ≤ ordI a b c d ∧ ordI a b c d ≤ 6 := by
 have h : ∀ (m n : Nat), 0 ≤ ordGo a b c d n m ∧ ordGo a b c d n m ≤ n + m := by
  intro m
  induction m with
  | zero => intro n; simp only [ordGo]; omega
  | succ m ih =>
   intro n
   have := ih (n + 1)
   simp only [ordGo]
   cases limP (pw a b c d n) <;> cases unitP (pw a b c d n) <;> simp only [cond_true, cond_false] <;> omega
 have h0 := h 6 1
 have h1 : ordI a b c d ≤ 6 := by
  unfold ordI
  have : ∀ (m n : Nat), ordGo a b c d n m ≤ 0 ∨ ordGo a b c d n m < n + m := by
   intro m
   induction m with
   | zero => intro n; left; simp [ordGo]
   | succ m ih =>
    intro n
    have := ih (n + 1)
    simp only [ordGo]
    cases limP (pw a b c d n) <;> cases unitP (pw a b c d n) <;> simp only [cond_true, cond_false] <;> omega
  have := this 6 1
  omega
 exact ⟨h0.1, h1⟩
theorem trnP_bd (xs : List M6) : 1 ≤ trnP xs ∧ trnP xs ≤ 6 := by
 unfold trnP
 have h : ∀ (L : List M6) (n : Int), (1 ≤ n ∧ n ≤ 6) → 1 ≤ L.foldl trnS n ∧ L.foldl trnS n ≤ 6 := by
  intro L
  induction L with
  | nil => intro n h; exact h
  | cons m L ih =>
   intro n h
   refine ih _ ?_
   have := ordI_bd m.1 m.2.1 m.2.2.1 m.2.2.2.1
   unfold trnS
   split <;> omega
 exact h xs 1 (by omega)
/- a motion of a group -/
theorem grp_mot {f A B C a b c d x y : Int} {xs : List M6} (h : grpB f A B C xs = true) (hm : (a, b, c, d, x, y) ∈ xs) : matB a b c d = true ∧ reflB a b c d = (a * d - b * c == -1) ∧ (a * d - b * c = 1 ∨ a * d - b * c = -1) ∧ okM f A B C (a, b, c, d, x, y) = true := by
 have hok := ((grp_ok h).2.1 _ hm).1
 obtain ⟨hl, hf, hk, hs, hmm, _⟩ := suit_parts hok
 exact ⟨hmm, keep_refl hf hk, keep_det hf hk, hok⟩
set_option maxRecDepth 100000 in
set_option maxHeartbeats 8000000 in
theorem turn_any {lo hi : Nat} {v : Value} {xs : List M6} {w1 : World} {f A B C : Int} (h : SRow lo hi 6 v xs.length (fm xs) w1) (hg : grpB f A B C xs = true) (hU : UnitOK w1) :
  Calls Tryz.prog 116 #[v] w1 fun e w' => e = .returned (.int .i64 (trnP xs)) ∧ Below w1.heap.size w1 w' := by
 have HS1 := Lib.hid h
 have HG := Lib.hid hg
 have h7 : (xs.length : Int) ≤ 768 := by have := grp_len hg; omega
 have U1 : UnitOK w1 := hU
 obtain ⟨ao, cap, rfl⟩ := srow_shape h
 clear h hg hU
 go_enter Tryz.func116, Tryz.ntmps116
 go_wp2_with fail
 go_loopw [3, 8] (fun s3 s8 W => ∃ k : Nat, s3 = .int .i64 (trnP (xs.take k)) ∧ s8 = .int .i64 (k : Int) ∧ k ≤ xs.length ∧ Below w1.heap.size w1 W) (fun _ s8 _ => xs.length - (intOf s8).toNat)
 case atStart => exact ⟨0, rfl, rfl, by omega, Below.refl _ _⟩
 case round =>
  obtain ⟨k, rfl, rfl, hk, hB⟩ := hrel
  by_cases hk1 : k < xs.length
  ·skip
   have HEL := Lib.hid (List.getElem_mem hk1)
   have hk2 : (k : Int) < (xs.length : Int) := by omega
   have hk3 : (k : Int) ≤ 768 := by omega
   have hres := HS1.out.2.2.resolve_left (fun h => by omega)
   have hhi := HS1.out.1
   obtain ⟨g, cap', e9, _, hg, RA⟩ := hres
   simp only [Value.slice.injEq, true_and] at e9
   obtain ⟨rfl, rfl⟩ := e9
   have q1 := (RA.grow hB (by omega)).mo k hk1
   have HT := Lib.hid (show xs.take (k + 1) = xs.take k ++ [xs[k]] from List.take_succ_eq_append_getElem hk1)
   have HTL := Lib.hid (show (xs.take k).length ≤ 768 by rw [List.length_take]; omega)
   have HK := Lib.hid hk1
   clear RA hg hhi hk
   generalize xs[k] = m at q1 HT HEL
   clear hk1
   obtain ⟨a, b, c, d, x, y⟩ := m
   dsimp only at q1
   obtain ⟨hmm, hrr, hdd, hok⟩ := grp_mot HG.out HEL.out
   have HMB := Lib.hid hmm
   have HLI := Lib.hid (matB_lim hmm)
   have HQ0 := trnP_next HT.out
   obtain ⟨n, hn⟩ : ∃ n, n = trnP (xs.take k) := ⟨_, rfl⟩
   rw [← hn] at HQ0
   have hnb := trnP_bd (xs.take k)
   rw [← hn] at hnb
   have U2 : UnitOK wr := Kq.call U1 hB
   have zB := hB.size
   have q1c := q1.cells
   have X0 : Km wr.heap.size a b c d x y (wr.alloc (.cells #[.int .i64 a, .int .i64 b, .int .i64 c, .int .i64 d, .int .i64 x, .int .i64 y] 145)) := Km.at _ rfl
   have U3 : UnitOK (wr.alloc (.cells #[.int .i64 a, .int .i64 b, .int .i64 c, .int .i64 d, .int .i64 x, .int .i64 y] 145)) := Kq.alloc U2 _
   have B3 : Below w1.heap.size w1 (wr.alloc (.cells #[.int .i64 a, .int .i64 b, .int .i64 c, .int .i64 d, .int .i64 x, .int .i64 y] 145)) := hB.alloc zB _
   rw [← hn]
   clear hB U2
   rcases hdd with hd | hd
   ·have HRB := Lib.hid (show reflB a b c d = false by rw [hrr, hd]; rfl)
    have HQ := Lib.hid (show trnP (xs.take (k + 1)) = max n (ordI a b c d) by rw [HQ0]; unfold trnS; dsimp only; rw [if_pos hd])
    have hob := ordI_bd a b c d
    obtain ⟨r, hr⟩ : ∃ r, r = ordI a b c d := ⟨_, rfl⟩
    rw [← hr] at HQ hob
    have HOQ := Lib.hid (show r = ordT a b c d by rw [hr, ord_eq hmm])
    clear hr hmm hrr hd hok HQ0 hn HEL HT
    have X1c := X0.cells
    go_wp2_with fail
    refine (isReflection_any a b c d _ HLI.out).mono ?_
    rintro e w4 ⟨rfl, hb4⟩
    rw [HRB.out]
    have X4 := Km.call X0 hb4
    have B4 := bstep B3 hb4
    have U4 : UnitOK w4 := Kq.call U3 hb4
    clear hb4 X0 B3 X1c U3
    have X4c := X4.cells
    go_wp2_with fail
    refine (order_any a b c d _ HMB.out U4).mono ?_
    rintro e w5 ⟨rfl, hb5⟩
    rw [← HOQ.out]
    have B5 := bstep B4 hb5
    clear hb5 X4 B4 X4c U4
    go_wp2
    all_goals
     go_roundw
     case rel => exact ⟨k + 1, by rw [HQ.out]; try (first | rw [show max n r = n by omega] | rw [show max n r = r by omega]), by go_num, by have := HK.out; omega, B5⟩
     case measure => (have := HK.out); first | (simp [intOf]; done) | (simp [intOf]; omega)
   ·have HRB := Lib.hid (show reflB a b c d = true by rw [hrr, hd]; rfl)
    have HQ := Lib.hid (show trnP (xs.take (k + 1)) = n by rw [HQ0]; unfold trnS; dsimp only; rw [if_neg (by omega)])
    clear hmm hrr hd hok HQ0 hn HEL HT
    have X1c := X0.cells
    go_wp2_with fail
    refine (isReflection_any a b c d _ HLI.out).mono ?_
    rintro e w4 ⟨rfl, hb4⟩
    rw [HRB.out]
    have X4 := Km.call X0 hb4
    have B4 := bstep B3 hb4
    clear hb4 X0 B3 X1c U3
    go_wp2
    go_roundw
    case rel => exact ⟨k + 1, by rw [HQ.out], by go_num, by have := HK.out; omega, B4⟩
    case measure => (have := HK.out); first | (simp [intOf]; done) | (simp [intOf]; omega)
  ·obtain rfl : k = xs.length := by omega
   have HE := Lib.hid (congrArg trnP (List.take_length (l := xs)))
   obtain ⟨r, hr⟩ : ∃ r, r = trnP (xs.take xs.length) := ⟨_, rfl⟩
   rw [← hr] at HE ⊢
   clear hk hk1 hr
   go_wp2
   go_ret
   exact ⟨ret_int HE.out, hB⟩
end Go.Proofs.YtjjfomokecngoaaGreatDoor
