/-
  Contracts of the program's small functions on motions (chapter 5). Conditions: those stated; the program's variable unitMatrix holds the unit where the order is asked.
-/
import Derived.Test.YtodkomaeljbhaaaMoF
import Derived.Test.YtodkomaeljbhaaaKeep5
import Derived.Test.YtodkomaeljbhaaaMat3
import Derived.Test.YtodkomaeljbhaaaGcd2
import Derived.Test.YtodkomaeljbhaaaOrd
import Derived.Test.YtodkomaeljbhaaaChap1
import Derived.Deep.RegionHeld3
import Derived.IntWalk
namespace Go.Proofs.Ytodkomaeljbhaaa
open Go.RowKit
set_option linter.unusedSimpArgs false
set_option linter.unusedVariables false

set_option maxRecDepth 100000 in
set_option maxHeartbeats 1000000 in
theorem plus5_any (x y x' y' : Int) (w : World) (h1 : -1000000000 ≤ x + x' ∧ x + x' ≤ 1000000000) (h2 : -1000000000 ≤ y + y' ∧ y + y' ≤ 1000000000) :
    Calls Try.prog 43 #[.agg #[.int .i64 x, .int .i64 y], .agg #[.int .i64 x', .int .i64 y']] w fun e w' => e = .returned (.agg #[.int .i64 (x + x'), .int .i64 (y + y')]) ∧ Below w.heap.size w w' := by
  go_enter Try.func43, Try.ntmps43
  go_wp2
  refine bodyPost_ret (v := .agg #[.int .i64 (x + x'), .int .i64 (y + y')]) (by simp [results, Try.results43, go_sem]) rfl ⟨rfl, ?_⟩
  repeat (first | exact Below.refl _ _ | refine Below.setCell ?_ (by first | omega | (simp <;> omega)) _ | refine Below.alloc ?_ (by first | omega | (simp <;> omega)) _ | refine bstep ?_ (by assumption) | refine Below.drew ?_)

set_option maxRecDepth 100000 in
set_option maxHeartbeats 1000000 in
theorem add5_any (x y x' y' : Int) (w : World) (h1 : -1000000000 ≤ x + x' ∧ x + x' ≤ 1000000000) (h2 : -1000000000 ≤ y + y' ∧ y + y' ≤ 1000000000) :
    Calls Try.prog 73 #[.agg #[.int .i64 x, .int .i64 y], .agg #[.int .i64 x', .int .i64 y']] w fun e w' => e = .returned (.agg #[.int .i64 (x + x'), .int .i64 (y + y')]) ∧ Below w.heap.size w w' := by
  go_enter Try.func73, Try.ntmps73
  go_wp2
  refine bodyPost_ret (v := .agg #[.int .i64 (x + x'), .int .i64 (y + y')]) (by simp [results, Try.results73, go_sem]) rfl ⟨rfl, ?_⟩
  repeat (first | exact Below.refl _ _ | refine Below.setCell ?_ (by first | omega | (simp <;> omega)) _ | refine Below.alloc ?_ (by first | omega | (simp <;> omega)) _ | refine bstep ?_ (by assumption) | refine Below.drew ?_)

set_option maxRecDepth 100000 in
set_option maxHeartbeats 1000000 in
theorem scale5_any (x y : Int) (w : World) (h1 : -1000000000 ≤ x ∧ x ≤ 1000000000) (h2 : -1000000000 ≤ y ∧ y ≤ 1000000000) :
    Calls Try.prog 40 #[.agg #[.int .i64 x, .int .i64 y], .int .i64 (-1)] w fun e w' => e = .returned (.agg #[.int .i64 (-1 * x), .int .i64 (-1 * y)]) ∧ Below w.heap.size w w' := by
  go_enter Try.func40, Try.ntmps40
  go_wp2
  refine bodyPost_ret (v := .agg #[.int .i64 (-1 * x), .int .i64 (-1 * y)]) (by simp [results, Try.results40, go_sem]) rfl ⟨rfl, ?_⟩
  repeat (first | exact Below.refl _ _ | refine Below.setCell ?_ (by first | omega | (simp <;> omega)) _ | refine Below.alloc ?_ (by first | omega | (simp <;> omega)) _ | refine bstep ?_ (by assumption) | refine Below.drew ?_)

set_option maxRecDepth 100000 in
set_option maxHeartbeats 2000000 in
theorem motionOf_any (a b c d x y : Int) (w : World) :
    Calls Try.prog 50 #[.agg #[.int .i64 a, .int .i64 b, .int .i64 c, .int .i64 d, .int .i64 x, .int .i64 y]] w fun e w' => e = .returned (.agg #[.int .i64 a, .int .i64 b, .int .i64 c, .int .i64 d, .int .i64 x, .int .i64 y]) ∧ Below w.heap.size w w' := by
  have M0 : Km (w.heap.size) a b c d x y ((w.alloc (.cells #[.int .i64 a, .int .i64 b, .int .i64 c, .int .i64 d, .int .i64 x, .int .i64 y] 43)).alloc (.cells #[.int .i64 0, .int .i64 0, .int .i64 0, .int .i64 0, .int .i64 0, .int .i64 0] 66)) := ((Km.at (w.heap.size) rfl).alloc _)
  have R0 : KM (w.heap.size + 1) 0 0 0 0 0 0 ((w.alloc (.cells #[.int .i64 a, .int .i64 b, .int .i64 c, .int .i64 d, .int .i64 x, .int .i64 y] 43)).alloc (.cells #[.int .i64 0, .int .i64 0, .int .i64 0, .int .i64 0, .int .i64 0, .int .i64 0] 66)) := (KM.at (w.heap.size + 1) (by simp))
  have B0 : Below w.heap.size w ((w.alloc (.cells #[.int .i64 a, .int .i64 b, .int .i64 c, .int .i64 d, .int .i64 x, .int .i64 y] 43)).alloc (.cells #[.int .i64 0, .int .i64 0, .int .i64 0, .int .i64 0, .int .i64 0, .int .i64 0] 66)) := (Below.alloc (Below.alloc (Below.refl _ _) (by first | with_reducible exact Nat.le_refl _ | (simp <;> omega)) _) (by first | with_reducible exact Nat.le_refl _ | (simp <;> omega)) _)
  go_enter Try.func50, Try.ntmps50
  have M0lt := M0.1
  have R0lt := R0.lt
  go_wp2_with fail
  go_region_held3 (fun W => (W.cell? ⟨w.heap.size, 0, none⟩ = some (.int .i64 a) ∧ W.cell? ⟨w.heap.size, 1, none⟩ = some (.int .i64 b) ∧ W.cell? ⟨w.heap.size, 2, none⟩ = some (.int .i64 c) ∧ W.cell? ⟨w.heap.size, 3, none⟩ = some (.int .i64 d) ∧ W.cell? ⟨w.heap.size, 4, none⟩ = some (.int .i64 x) ∧ W.cell? ⟨w.heap.size, 5, none⟩ = some (.int .i64 y))) ((refine Km.cells ?_ <;> repeat (first | with_reducible assumption | with_reducible refine KM.drew ?_ | with_reducible refine KM.alloc ?_ _ | with_reducible refine KM.call ?_ (by with_reducible assumption) | with_reducible refine Km.drew ?_ | with_reducible refine Km.alloc ?_ _ | with_reducible refine Km.call ?_ (by with_reducible assumption) | ((with_reducible refine KM.put ?_ ?_); (first | omega | (dsimp only; omega))) | ((with_reducible refine Km.put ?_ ?_); (first | omega | (dsimp only; omega))) | ((with_reducible refine KM.far ?_ ?_); (first | omega | (dsimp only; omega))) | ((with_reducible refine Km.far ?_ ?_); (first | omega | (dsimp only; omega))))))
    (first
      | (go_at_call 34; ((with_reducible refine (matrixOf_any _ _ _ _ _).mono ?_); rintro e w1 ⟨rfl, hb1⟩; have M1 : Km (w.heap.size) a b c d x y w1 := (by repeat (first | with_reducible assumption | with_reducible refine KM.drew ?_ | with_reducible refine KM.alloc ?_ _ | with_reducible refine KM.call ?_ (by with_reducible assumption) | with_reducible refine Km.drew ?_ | with_reducible refine Km.alloc ?_ _ | with_reducible refine Km.call ?_ (by with_reducible assumption))); have R1 : KM (w.heap.size + 1) 0 0 0 0 0 0 w1 := (by repeat (first | with_reducible assumption | with_reducible refine KM.drew ?_ | with_reducible refine KM.alloc ?_ _ | with_reducible refine KM.call ?_ (by with_reducible assumption) | with_reducible refine Km.drew ?_ | with_reducible refine Km.alloc ?_ _ | with_reducible refine Km.call ?_ (by with_reducible assumption))); have M1l := M1.1; have R1c0 := R1.c0; have R1f0 := R1.f0; have R1c1 := R1.c1; have R1f1 := R1.f1; have R1c2 := R1.c2; have R1f2 := R1.f2; have R1c3 := R1.c3; have R1f3 := R1.f3; have R1c4 := R1.c4; have R1f4 := R1.f4; have R1c5 := R1.c5; have R1f5 := R1.f5; have R1l := R1.lt; have B1 : Below w.heap.size w w1 := (by repeat (first | with_reducible assumption | with_reducible refine Below.drew ?_ | with_reducible refine Below.alloc ?_ (by first | omega | (have := B0.size; simp <;> omega)) _ | with_reducible refine bstep ?_ (by with_reducible assumption))))))
  all_goals
    go_wp2
    refine bodyPost_ret (v := .agg #[.int .i64 a, .int .i64 b, .int .i64 c, .int .i64 d, .int .i64 x, .int .i64 y]) (by simp [results, Try.results50, go_sem, *]) rfl ⟨rfl, ?_⟩
    repeat (first | with_reducible assumption | with_reducible exact Below.refl _ _ | with_reducible refine Below.setCell ?_ (by first | omega | (simp <;> omega)) _ | with_reducible refine Below.alloc ?_ (by first | omega | (simp <;> omega)) _ | with_reducible refine bstep ?_ (by with_reducible assumption) | with_reducible refine Below.drew ?_)

end Go.Proofs.Ytodkomaeljbhaaa
