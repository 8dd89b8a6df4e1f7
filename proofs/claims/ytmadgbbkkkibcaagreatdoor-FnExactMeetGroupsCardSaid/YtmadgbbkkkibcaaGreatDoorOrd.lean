/-
  Contracts of chapter 2's OrderOf and MatKind: the program's function and the model's have one and the same answer. Condition: the program's variable unitMatrix holds the unit.
-/
import Derived.Test.YtmadgbbkkkibcaaGreatDoorMat4b
import Derived.Test.YtmadgbbkkkibcaaGreatDoorMat2
namespace Go.Proofs.YtmadgbbkkkibcaaGreatDoor
open Go.RowKit
set_option linter.unusedSimpArgs false
set_option linter.unusedVariables false

/- the program's variable unitMatrix holds the unit -/
def UnitOK (W : World) : Prop := Kq 0 1 0 0 1 W
theorem UnitOK.call {W w1 : World} (h : UnitOK W) (hb : Below W.heap.size W w1) : UnitOK w1 := Kq.call h hb
theorem UnitOK.alloc {W : World} (h : UnitOK W) (o : Obj) : UnitOK (W.alloc o) := Kq.alloc h o
theorem UnitOK.drew {W : World} (h : UnitOK W) : UnitOK W.drew := Kq.drew h

set_option maxHeartbeats 1000000 in
theorem timesU_any (w : World) :
    Calls Tryz.prog 242 #[.agg #[.int .i64 1, .int .i64 0, .int .i64 0, .int .i64 1], .int .i64 (-1)] w fun e w' => e = .returned (.agg #[.int .i64 (-1), .int .i64 0, .int .i64 0, .int .i64 (-1)]) ∧ Below w.heap.size w w' :=
  (timesM_any 1 0 0 1 (-1) w (by decide) (by decide)).mono fun _ _ h => by simpa using h

theorem eqArr (a b c d a' b' c' d' : Int) (w : World) : (Op.equalIn 10000 113 (.agg #[.int .i64 a, .int .i64 b, .int .i64 c, .int .i64 d]) (.agg #[.int .i64 a', .int .i64 b', .int .i64 c', .int .i64 d'])).run Tryz.prog w = .ok (eqM a b c d a' b' c' d') w := by
  have u3 := Tryz.underlying2
  have a3 := Tryz.isAgg2
  have z3 := Tryz.sizeOf2
  rw [show (10000 : Nat) = 9999 + 1 from rfl, Op.equalIn]
  simp only [Sem.run_bind, run_underlying Tryz.underlying113, Result.andThen_ok]
  simp only [Std.Legacy.Range.forIn_eq_forIn_range', Std.Legacy.Range.size, Nat.sub_zero, Nat.add_sub_cancel, Nat.div_one, List.range'_succ, List.range'_zero, List.forIn_cons, List.forIn_nil]
  go_simp
  unfold eqM
  by_cases h1 : a = a' <;> by_cases h2 : b = b' <;> by_cases h3 : c = c' <;> by_cases h4 : d = d' <;> simp [h1, h2, h3, h4]
attribute [local go_sem ↓] eqArr

theorem ordT_eqs {a b c d : Int} : unitB a b c d = eqM a b c d 1 0 0 1 := rfl
set_option maxHeartbeats 4000000 in
theorem order_any (a b c d : Int) (w : World) (h : matB a b c d = true) (hU : UnitOK w) :
    Calls Tryz.prog 228 #[.agg #[.int .i64 a, .int .i64 b, .int .i64 c, .int .i64 d]] w fun e w' => e = .returned (.int .i64 (ordT a b c d)) ∧ Below w.heap.size w w' := by
  have lu := matB_lim h
  rcases h1 : eqM a b c d 1 0 0 1 with _ | _
  case true =>
    have ea : ordT a b c d = 1 := by simp [ordT, ordT_eqs, h1]
    have EA := Lib.hid ea
    clear ea
    have U0 : Kq 0 1 0 0 1 (w.alloc (.cells #[.int .i64 a, .int .i64 b, .int .i64 c, .int .i64 d] 113)) := Kq.alloc hU _
    have M0 : Kq w.heap.size a b c d (w.alloc (.cells #[.int .i64 a, .int .i64 b, .int .i64 c, .int .i64 d] 113)) := Kq.at _ rfl
    obtain ⟨u0, u1, u2, u3, u4⟩ := id hU
    have un : ¬ 0 = w.heap.size := by omega
    go_enter Tryz.func228, Tryz.ntmps228
    go_wp2_with fail
    go_wp2
    go_ret
    refine ⟨ret_int EA.out.symm, ?_⟩
    repeat (first | exact B1 | exact Below.refl _ _ | refine Below.setCell ?_ (by first | omega | (simp <;> omega)) _ | refine Below.alloc ?_ (by first | omega | (simp <;> omega)) _ | refine bstep ?_ (by assumption) | refine Below.drew ?_)
  rcases h2 : eqM a b c d (-1) 0 0 (-1) with _ | _
  case true =>
    have ea : ordT a b c d = 2 := by
      have h3 : (a == -1 && b == 0 && c == 0 && d == -1) = true := h2
      simp [ordT, ordT_eqs, h1, h3]
    have EA := Lib.hid ea
    clear ea
    have U0 : Kq 0 1 0 0 1 (w.alloc (.cells #[.int .i64 a, .int .i64 b, .int .i64 c, .int .i64 d] 113)) := Kq.alloc hU _
    have M0 : Kq w.heap.size a b c d (w.alloc (.cells #[.int .i64 a, .int .i64 b, .int .i64 c, .int .i64 d] 113)) := Kq.at _ rfl
    obtain ⟨u0, u1, u2, u3, u4⟩ := id hU
    have un : ¬ 0 = w.heap.size := by omega
    go_enter Tryz.func228, Tryz.ntmps228
    go_wp2_with fail
    go_region_held3 (fun W => (W.cell? ⟨w.heap.size, 0, none⟩ = some (.int .i64 a) ∧ W.cell? ⟨w.heap.size, 1, none⟩ = some (.int .i64 b) ∧ W.cell? ⟨w.heap.size, 2, none⟩ = some (.int .i64 c) ∧ W.cell? ⟨w.heap.size, 3, none⟩ = some (.int .i64 d)) ∧ W.cell? ⟨0, 0, none⟩ = some (.int .i64 1) ∧ W.cell? ⟨0, 1, none⟩ = some (.int .i64 0) ∧ W.cell? ⟨0, 2, none⟩ = some (.int .i64 0) ∧ W.cell? ⟨0, 3, none⟩ = some (.int .i64 1)) ((refine Kq.two ?_ ?_ <;> repeat (first | assumption | with_reducible refine Kq.drew ?_ | with_reducible refine Kq.call ?_ (by assumption))))
      (first | (go_at_call 242; refine (timesU_any _).mono ?_; rintro e w1 ⟨rfl, hb1⟩; have M1 : Kq w.heap.size a b c d w1 := (by repeat (first | assumption | with_reducible refine Kq.drew ?_ | with_reducible refine Kq.call ?_ (by assumption))); have B1 : Below w.heap.size w w1 := bstep (Below.drew (Below.alloc (Below.refl _ _) (Nat.le_refl _) _)) hb1))
    obtain ⟨m0, m1, m2, m3⟩ := M1.cells
    have M1l := M1.1
    go_wp2
    go_ret
    refine ⟨ret_int EA.out.symm, ?_⟩
    repeat (first | exact B1 | exact Below.refl _ _ | refine Below.setCell ?_ (by first | omega | (simp <;> omega)) _ | refine Below.alloc ?_ (by first | omega | (simp <;> omega)) _ | refine bstep ?_ (by assumption) | refine Below.drew ?_)
  have h3 : (a == -1 && b == 0 && c == 0 && d == -1) = false := h2
  rcases h4 : reflB a b c d with _ | _
  case true =>
    have ea : ordT a b c d = 2 := by
      have h5 : (a * d - b * c == -1 && a + d == 0) = true := h4
      simp [ordT, ordT_eqs, h1, h5]
    have EA := Lib.hid ea
    clear ea h3
    have U0 : Kq 0 1 0 0 1 (w.alloc (.cells #[.int .i64 a, .int .i64 b, .int .i64 c, .int .i64 d] 113)) := Kq.alloc hU _
    have M0 : Kq w.heap.size a b c d (w.alloc (.cells #[.int .i64 a, .int .i64 b, .int .i64 c, .int .i64 d] 113)) := Kq.at _ rfl
    obtain ⟨u0, u1, u2, u3, u4⟩ := id hU
    have un : ¬ 0 = w.heap.size := by omega
    go_enter Tryz.func228, Tryz.ntmps228
    go_wp2_with fail
    go_region_held3 (fun W => (W.cell? ⟨w.heap.size, 0, none⟩ = some (.int .i64 a) ∧ W.cell? ⟨w.heap.size, 1, none⟩ = some (.int .i64 b) ∧ W.cell? ⟨w.heap.size, 2, none⟩ = some (.int .i64 c) ∧ W.cell? ⟨w.heap.size, 3, none⟩ = some (.int .i64 d)) ∧ W.cell? ⟨0, 0, none⟩ = some (.int .i64 1) ∧ W.cell? ⟨0, 1, none⟩ = some (.int .i64 0) ∧ W.cell? ⟨0, 2, none⟩ = some (.int .i64 0) ∧ W.cell? ⟨0, 3, none⟩ = some (.int .i64 1)) ((refine Kq.two ?_ ?_ <;> repeat (first | assumption | with_reducible refine Kq.drew ?_ | with_reducible refine Kq.call ?_ (by assumption))))
      (first | (go_at_call 242; refine (timesU_any _).mono ?_; rintro e w1 ⟨rfl, hb1⟩; have M1 : Kq w.heap.size a b c d w1 := (by repeat (first | assumption | with_reducible refine Kq.drew ?_ | with_reducible refine Kq.call ?_ (by assumption))); have B1 : Below w.heap.size w w1 := bstep (Below.drew (Below.alloc (Below.refl _ _) (Nat.le_refl _) _)) hb1))
    obtain ⟨m0, m1, m2, m3⟩ := M1.cells
    have M1l := M1.1
    go_wp2_with fail
    refine (isReflection_any _ _ _ _ _ lu).mono ?_
    rintro e w2 ⟨rfl, hb2⟩
    have M2 := Kq.call M1 hb2
    obtain ⟨n2a, n2b, n2c, n2d⟩ := M2.cells
    go_wp2
    go_ret
    refine ⟨ret_int EA.out.symm, ?_⟩
    repeat (first | exact B1 | exact Below.refl _ _ | refine Below.setCell ?_ (by first | omega | (simp <;> omega)) _ | refine Below.alloc ?_ (by first | omega | (simp <;> omega)) _ | refine bstep ?_ (by assumption) | refine Below.drew ?_)
  have h5 : (a * d - b * c == -1 && a + d == 0) = false := h4
  rcases h6 : a * d - b * c == -1 with _ | _
  case true =>
    have ea : ordT a b c d = 0 := by unfold ordT; rw [ordT_eqs, h1, h3, h5]; simp [h6]
    have EA := Lib.hid ea
    clear ea h3 h5
    have U0 : Kq 0 1 0 0 1 (w.alloc (.cells #[.int .i64 a, .int .i64 b, .int .i64 c, .int .i64 d] 113)) := Kq.alloc hU _
    have M0 : Kq w.heap.size a b c d (w.alloc (.cells #[.int .i64 a, .int .i64 b, .int .i64 c, .int .i64 d] 113)) := Kq.at _ rfl
    obtain ⟨u0, u1, u2, u3, u4⟩ := id hU
    have un : ¬ 0 = w.heap.size := by omega
    go_enter Tryz.func228, Tryz.ntmps228
    go_wp2_with fail
    go_region_held3 (fun W => (W.cell? ⟨w.heap.size, 0, none⟩ = some (.int .i64 a) ∧ W.cell? ⟨w.heap.size, 1, none⟩ = some (.int .i64 b) ∧ W.cell? ⟨w.heap.size, 2, none⟩ = some (.int .i64 c) ∧ W.cell? ⟨w.heap.size, 3, none⟩ = some (.int .i64 d)) ∧ W.cell? ⟨0, 0, none⟩ = some (.int .i64 1) ∧ W.cell? ⟨0, 1, none⟩ = some (.int .i64 0) ∧ W.cell? ⟨0, 2, none⟩ = some (.int .i64 0) ∧ W.cell? ⟨0, 3, none⟩ = some (.int .i64 1)) ((refine Kq.two ?_ ?_ <;> repeat (first | assumption | with_reducible refine Kq.drew ?_ | with_reducible refine Kq.call ?_ (by assumption))))
      (first | (go_at_call 242; refine (timesU_any _).mono ?_; rintro e w1 ⟨rfl, hb1⟩; have M1 : Kq w.heap.size a b c d w1 := (by repeat (first | assumption | with_reducible refine Kq.drew ?_ | with_reducible refine Kq.call ?_ (by assumption))); have B1 : Below w.heap.size w w1 := bstep (Below.drew (Below.alloc (Below.refl _ _) (Nat.le_refl _) _)) hb1))
    obtain ⟨m0, m1, m2, m3⟩ := M1.cells
    have M1l := M1.1
    go_wp2_with fail
    refine (isReflection_any _ _ _ _ _ lu).mono ?_
    rintro e w2 ⟨rfl, hb2⟩
    have M2 := Kq.call M1 hb2
    obtain ⟨n2a, n2b, n2c, n2d⟩ := M2.cells
    go_wp2_with fail
    refine (det_any _ _ _ _ _ lu).mono ?_
    rintro e w3 ⟨rfl, hb3⟩
    have M3 := Kq.call M2 hb3
    obtain ⟨n3a, n3b, n3c, n3d⟩ := M3.cells
    go_wp2
    go_ret
    refine ⟨ret_int EA.out.symm, ?_⟩
    repeat (first | exact B1 | exact Below.refl _ _ | refine Below.setCell ?_ (by first | omega | (simp <;> omega)) _ | refine Below.alloc ?_ (by first | omega | (simp <;> omega)) _ | refine bstep ?_ (by assumption) | refine Below.drew ?_)
  rcases t0 : a + d == -1 with _ | _
  case true =>
    have ea : ordT a b c d = 3 := by unfold ordT; rw [ordT_eqs, h1, h3, h5]; simp only [h6, t0]; rfl
    have EA := Lib.hid ea
    clear ea h3 h5
    have U0 : Kq 0 1 0 0 1 (w.alloc (.cells #[.int .i64 a, .int .i64 b, .int .i64 c, .int .i64 d] 113)) := Kq.alloc hU _
    have M0 : Kq w.heap.size a b c d (w.alloc (.cells #[.int .i64 a, .int .i64 b, .int .i64 c, .int .i64 d] 113)) := Kq.at _ rfl
    obtain ⟨u0, u1, u2, u3, u4⟩ := id hU
    have un : ¬ 0 = w.heap.size := by omega
    go_enter Tryz.func228, Tryz.ntmps228
    go_wp2_with fail
    go_region_held3 (fun W => (W.cell? ⟨w.heap.size, 0, none⟩ = some (.int .i64 a) ∧ W.cell? ⟨w.heap.size, 1, none⟩ = some (.int .i64 b) ∧ W.cell? ⟨w.heap.size, 2, none⟩ = some (.int .i64 c) ∧ W.cell? ⟨w.heap.size, 3, none⟩ = some (.int .i64 d)) ∧ W.cell? ⟨0, 0, none⟩ = some (.int .i64 1) ∧ W.cell? ⟨0, 1, none⟩ = some (.int .i64 0) ∧ W.cell? ⟨0, 2, none⟩ = some (.int .i64 0) ∧ W.cell? ⟨0, 3, none⟩ = some (.int .i64 1)) ((refine Kq.two ?_ ?_ <;> repeat (first | assumption | with_reducible refine Kq.drew ?_ | with_reducible refine Kq.call ?_ (by assumption))))
      (first | (go_at_call 242; refine (timesU_any _).mono ?_; rintro e w1 ⟨rfl, hb1⟩; have M1 : Kq w.heap.size a b c d w1 := (by repeat (first | assumption | with_reducible refine Kq.drew ?_ | with_reducible refine Kq.call ?_ (by assumption))); have B1 : Below w.heap.size w w1 := bstep (Below.drew (Below.alloc (Below.refl _ _) (Nat.le_refl _) _)) hb1))
    obtain ⟨m0, m1, m2, m3⟩ := M1.cells
    have M1l := M1.1
    go_wp2_with fail
    refine (isReflection_any _ _ _ _ _ lu).mono ?_
    rintro e w2 ⟨rfl, hb2⟩
    have M2 := Kq.call M1 hb2
    obtain ⟨n2a, n2b, n2c, n2d⟩ := M2.cells
    go_wp2_with fail
    refine (det_any _ _ _ _ _ lu).mono ?_
    rintro e w3 ⟨rfl, hb3⟩
    have M3 := Kq.call M2 hb3
    obtain ⟨n3a, n3b, n3c, n3d⟩ := M3.cells
    go_wp2_with fail
    refine (trace_any _ _ _ _ _ lu).mono ?_
    rintro e w4 ⟨rfl, hb4⟩
    have M4 := Kq.call M3 hb4
    obtain ⟨n4a, n4b, n4c, n4d⟩ := M4.cells
    go_wp2
    go_ret
    refine ⟨ret_int EA.out.symm, ?_⟩
    repeat (first | exact B1 | exact Below.refl _ _ | refine Below.setCell ?_ (by first | omega | (simp <;> omega)) _ | refine Below.alloc ?_ (by first | omega | (simp <;> omega)) _ | refine bstep ?_ (by assumption) | refine Below.drew ?_)
  rcases t1 : a + d == 0 with _ | _
  case true =>
    have ea : ordT a b c d = 4 := by unfold ordT; rw [ordT_eqs, h1, h3, h5]; simp only [h6, t0, t1]; rfl
    have EA := Lib.hid ea
    clear ea h3 h5
    have U0 : Kq 0 1 0 0 1 (w.alloc (.cells #[.int .i64 a, .int .i64 b, .int .i64 c, .int .i64 d] 113)) := Kq.alloc hU _
    have M0 : Kq w.heap.size a b c d (w.alloc (.cells #[.int .i64 a, .int .i64 b, .int .i64 c, .int .i64 d] 113)) := Kq.at _ rfl
    obtain ⟨u0, u1, u2, u3, u4⟩ := id hU
    have un : ¬ 0 = w.heap.size := by omega
    go_enter Tryz.func228, Tryz.ntmps228
    go_wp2_with fail
    go_region_held3 (fun W => (W.cell? ⟨w.heap.size, 0, none⟩ = some (.int .i64 a) ∧ W.cell? ⟨w.heap.size, 1, none⟩ = some (.int .i64 b) ∧ W.cell? ⟨w.heap.size, 2, none⟩ = some (.int .i64 c) ∧ W.cell? ⟨w.heap.size, 3, none⟩ = some (.int .i64 d)) ∧ W.cell? ⟨0, 0, none⟩ = some (.int .i64 1) ∧ W.cell? ⟨0, 1, none⟩ = some (.int .i64 0) ∧ W.cell? ⟨0, 2, none⟩ = some (.int .i64 0) ∧ W.cell? ⟨0, 3, none⟩ = some (.int .i64 1)) ((refine Kq.two ?_ ?_ <;> repeat (first | assumption | with_reducible refine Kq.drew ?_ | with_reducible refine Kq.call ?_ (by assumption))))
      (first | (go_at_call 242; refine (timesU_any _).mono ?_; rintro e w1 ⟨rfl, hb1⟩; have M1 : Kq w.heap.size a b c d w1 := (by repeat (first | assumption | with_reducible refine Kq.drew ?_ | with_reducible refine Kq.call ?_ (by assumption))); have B1 : Below w.heap.size w w1 := bstep (Below.drew (Below.alloc (Below.refl _ _) (Nat.le_refl _) _)) hb1))
    obtain ⟨m0, m1, m2, m3⟩ := M1.cells
    have M1l := M1.1
    go_wp2_with fail
    refine (isReflection_any _ _ _ _ _ lu).mono ?_
    rintro e w2 ⟨rfl, hb2⟩
    have M2 := Kq.call M1 hb2
    obtain ⟨n2a, n2b, n2c, n2d⟩ := M2.cells
    go_wp2_with fail
    refine (det_any _ _ _ _ _ lu).mono ?_
    rintro e w3 ⟨rfl, hb3⟩
    have M3 := Kq.call M2 hb3
    obtain ⟨n3a, n3b, n3c, n3d⟩ := M3.cells
    go_wp2_with fail
    refine (trace_any _ _ _ _ _ lu).mono ?_
    rintro e w4 ⟨rfl, hb4⟩
    have M4 := Kq.call M3 hb4
    obtain ⟨n4a, n4b, n4c, n4d⟩ := M4.cells
    go_wp2
    go_ret
    refine ⟨ret_int EA.out.symm, ?_⟩
    repeat (first | exact B1 | exact Below.refl _ _ | refine Below.setCell ?_ (by first | omega | (simp <;> omega)) _ | refine Below.alloc ?_ (by first | omega | (simp <;> omega)) _ | refine bstep ?_ (by assumption) | refine Below.drew ?_)
  rcases t2 : a + d == 1 with _ | _
  case true =>
    have ea : ordT a b c d = 6 := by unfold ordT; rw [ordT_eqs, h1, h3, h5]; simp only [h6, t0, t1, t2]; rfl
    have EA := Lib.hid ea
    clear ea h3 h5
    have U0 : Kq 0 1 0 0 1 (w.alloc (.cells #[.int .i64 a, .int .i64 b, .int .i64 c, .int .i64 d] 113)) := Kq.alloc hU _
    have M0 : Kq w.heap.size a b c d (w.alloc (.cells #[.int .i64 a, .int .i64 b, .int .i64 c, .int .i64 d] 113)) := Kq.at _ rfl
    obtain ⟨u0, u1, u2, u3, u4⟩ := id hU
    have un : ¬ 0 = w.heap.size := by omega
    go_enter Tryz.func228, Tryz.ntmps228
    go_wp2_with fail
    go_region_held3 (fun W => (W.cell? ⟨w.heap.size, 0, none⟩ = some (.int .i64 a) ∧ W.cell? ⟨w.heap.size, 1, none⟩ = some (.int .i64 b) ∧ W.cell? ⟨w.heap.size, 2, none⟩ = some (.int .i64 c) ∧ W.cell? ⟨w.heap.size, 3, none⟩ = some (.int .i64 d)) ∧ W.cell? ⟨0, 0, none⟩ = some (.int .i64 1) ∧ W.cell? ⟨0, 1, none⟩ = some (.int .i64 0) ∧ W.cell? ⟨0, 2, none⟩ = some (.int .i64 0) ∧ W.cell? ⟨0, 3, none⟩ = some (.int .i64 1)) ((refine Kq.two ?_ ?_ <;> repeat (first | assumption | with_reducible refine Kq.drew ?_ | with_reducible refine Kq.call ?_ (by assumption))))
      (first | (go_at_call 242; refine (timesU_any _).mono ?_; rintro e w1 ⟨rfl, hb1⟩; have M1 : Kq w.heap.size a b c d w1 := (by repeat (first | assumption | with_reducible refine Kq.drew ?_ | with_reducible refine Kq.call ?_ (by assumption))); have B1 : Below w.heap.size w w1 := bstep (Below.drew (Below.alloc (Below.refl _ _) (Nat.le_refl _) _)) hb1))
    obtain ⟨m0, m1, m2, m3⟩ := M1.cells
    have M1l := M1.1
    go_wp2_with fail
    refine (isReflection_any _ _ _ _ _ lu).mono ?_
    rintro e w2 ⟨rfl, hb2⟩
    have M2 := Kq.call M1 hb2
    obtain ⟨n2a, n2b, n2c, n2d⟩ := M2.cells
    go_wp2_with fail
    refine (det_any _ _ _ _ _ lu).mono ?_
    rintro e w3 ⟨rfl, hb3⟩
    have M3 := Kq.call M2 hb3
    obtain ⟨n3a, n3b, n3c, n3d⟩ := M3.cells
    go_wp2_with fail
    refine (trace_any _ _ _ _ _ lu).mono ?_
    rintro e w4 ⟨rfl, hb4⟩
    have M4 := Kq.call M3 hb4
    obtain ⟨n4a, n4b, n4c, n4d⟩ := M4.cells
    go_wp2
    go_ret
    refine ⟨ret_int EA.out.symm, ?_⟩
    repeat (first | exact B1 | exact Below.refl _ _ | refine Below.setCell ?_ (by first | omega | (simp <;> omega)) _ | refine Below.alloc ?_ (by first | omega | (simp <;> omega)) _ | refine bstep ?_ (by assumption) | refine Below.drew ?_)
  have ea : ordT a b c d = 0 := by unfold ordT; rw [ordT_eqs, h1, h3, h5]; simp only [h6, t0, t1, t2]; rfl
  have EA := Lib.hid ea
  clear ea h3 h5
  have U0 : Kq 0 1 0 0 1 (w.alloc (.cells #[.int .i64 a, .int .i64 b, .int .i64 c, .int .i64 d] 113)) := Kq.alloc hU _
  have M0 : Kq w.heap.size a b c d (w.alloc (.cells #[.int .i64 a, .int .i64 b, .int .i64 c, .int .i64 d] 113)) := Kq.at _ rfl
  obtain ⟨u0, u1, u2, u3, u4⟩ := id hU
  have un : ¬ 0 = w.heap.size := by omega
  go_enter Tryz.func228, Tryz.ntmps228
  go_wp2_with fail
  go_region_held3 (fun W => (W.cell? ⟨w.heap.size, 0, none⟩ = some (.int .i64 a) ∧ W.cell? ⟨w.heap.size, 1, none⟩ = some (.int .i64 b) ∧ W.cell? ⟨w.heap.size, 2, none⟩ = some (.int .i64 c) ∧ W.cell? ⟨w.heap.size, 3, none⟩ = some (.int .i64 d)) ∧ W.cell? ⟨0, 0, none⟩ = some (.int .i64 1) ∧ W.cell? ⟨0, 1, none⟩ = some (.int .i64 0) ∧ W.cell? ⟨0, 2, none⟩ = some (.int .i64 0) ∧ W.cell? ⟨0, 3, none⟩ = some (.int .i64 1)) ((refine Kq.two ?_ ?_ <;> repeat (first | assumption | with_reducible refine Kq.drew ?_ | with_reducible refine Kq.call ?_ (by assumption))))
    (first | (go_at_call 242; refine (timesU_any _).mono ?_; rintro e w1 ⟨rfl, hb1⟩; have M1 : Kq w.heap.size a b c d w1 := (by repeat (first | assumption | with_reducible refine Kq.drew ?_ | with_reducible refine Kq.call ?_ (by assumption))); have B1 : Below w.heap.size w w1 := bstep (Below.drew (Below.alloc (Below.refl _ _) (Nat.le_refl _) _)) hb1))
  obtain ⟨m0, m1, m2, m3⟩ := M1.cells
  have M1l := M1.1
  go_wp2_with fail
  refine (isReflection_any _ _ _ _ _ lu).mono ?_
  rintro e w2 ⟨rfl, hb2⟩
  have M2 := Kq.call M1 hb2
  obtain ⟨n2a, n2b, n2c, n2d⟩ := M2.cells
  go_wp2_with fail
  refine (det_any _ _ _ _ _ lu).mono ?_
  rintro e w3 ⟨rfl, hb3⟩
  have M3 := Kq.call M2 hb3
  obtain ⟨n3a, n3b, n3c, n3d⟩ := M3.cells
  go_wp2_with fail
  refine (trace_any _ _ _ _ _ lu).mono ?_
  rintro e w4 ⟨rfl, hb4⟩
  have M4 := Kq.call M3 hb4
  obtain ⟨n4a, n4b, n4c, n4d⟩ := M4.cells
  go_wp2
  go_ret
  refine ⟨ret_int EA.out.symm, ?_⟩
  repeat (first | exact B1 | exact Below.refl _ _ | refine Below.setCell ?_ (by first | omega | (simp <;> omega)) _ | refine Below.alloc ?_ (by first | omega | (simp <;> omega)) _ | refine bstep ?_ (by assumption) | refine Below.drew ?_)
end Go.Proofs.YtmadgbbkkkibcaaGreatDoor
