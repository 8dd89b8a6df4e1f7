/-
  hasCell of a lattice, in the program and in the model. No condition.
-/
import Derived.Test.YtkfdaepnjdnnmaaDoorTk7
import Derived.Deep.RegionHeld3
import Derived.IntWalk
namespace Go.Proofs.YtkfdaepnjdnnmaaDoor
open Go.RowKit
set_option linter.unusedSimpArgs false
set_option linter.unusedVariables false

def cel7 (A C p q : Int) : Bool := inB p 0 (wrap64 (A - 1)) && inB q 0 (wrap64 (C - 1))
theorem cel7_eq {A B C p q : Int} (hl : latI A B C) : cel7 A C p q = celB A C (p, q) := by
  obtain ⟨b1, b2⟩ := latI_bd hl
  have h1 := hl.1
  have h2 := hl.2.1
  have w1 : wrap64 (A - 1) = A - 1 := by unfold wrap64; omega
  have w2 : wrap64 (C - 1) = C - 1 := by unfold wrap64; omega
  rw [Bool.eq_iff_iff, celB_iff]
  simp [cel7, inB, w1, w2]
  omega
attribute [local go_sem ↓] eqVe7
set_option maxRecDepth 100000 in
set_option maxRecDepth 100000 in
set_option maxHeartbeats 8000000 in
theorem hasCell_any (A B C p q : Int) (w : World) :
    Calls Tryd.prog 57 #[.agg #[.int .i64 A, .int .i64 B, .int .i64 C], .agg #[.int .i64 p, .int .i64 q]] w fun e w' => e = .returned (.bool (celB A C (p, q))) ∧ Below w.heap.size w w' := by
  have L0 : Kt (w.heap.size) A B C ((w.alloc (.cells #[.int .i64 A, .int .i64 B, .int .i64 C] 31)).alloc (.cells #[.int .i64 p, .int .i64 q] 49)) := ((Kt.at (w.heap.size) rfl).alloc _)
  have V0 : Kg (w.heap.size + 1) p q ((w.alloc (.cells #[.int .i64 A, .int .i64 B, .int .i64 C] 31)).alloc (.cells #[.int .i64 p, .int .i64 q] 49)) := (Kg.at2 (w.heap.size + 1) (by simp))
  have B0 : Below w.heap.size w ((w.alloc (.cells #[.int .i64 A, .int .i64 B, .int .i64 C] 31)).alloc (.cells #[.int .i64 p, .int .i64 q] 49)) := (Below.alloc (Below.alloc (Below.refl _ _) (by first | with_reducible exact Nat.le_refl _ | (simp <;> omega)) _) (by first | with_reducible exact Nat.le_refl _ | (simp <;> omega)) _)
  go_enter Tryd.func57, Tryd.ntmps57
  have L0c := L0.cells
  have V0c := V0.cells
  go_wp2
  all_goals
    go_ret
    refine ⟨ret_bool ?_, by repeat (first | with_reducible assumption | with_reducible exact Below.refl _ _ | with_reducible refine Below.drew ?_ | with_reducible refine below_drewN ?_ _ | with_reducible refine Below.alloc ?_ (by first | omega | (simp <;> omega)) _ | with_reducible refine bstep ?_ (by with_reducible assumption))⟩
    rw [Bool.eq_iff_iff, celB_iff]
    dsimp only
    first
      | omega
      | (simp only [decide_eq_true_eq, Bool.false_eq_true, true_iff, false_iff, iff_true]; omega)
      | (simp; omega)

set_option maxRecDepth 100000 in
set_option maxRecDepth 100000 in
set_option maxHeartbeats 8000000 in
theorem l07Cell_any (A B C p q : Int) (w : World) :
    Calls Tryd.prog 55 #[.agg #[.int .i64 A, .int .i64 B, .int .i64 C], .agg #[.int .i64 p, .int .i64 q]] w fun e w' => e = .returned (.bool (cel7 A C p q)) ∧ Below w.heap.size w w' := by
  have CA := Lib.hid (fun W => l01In_any p 0 (wrap64 (A - 1)) W)
  have CC := Lib.hid (fun W => l01In_any q 0 (wrap64 (C - 1)) W)
  have HV : Hid (cel7 A C p q = (inB p 0 (wrap64 (A - 1)) && inB q 0 (wrap64 (C - 1)))) := Lib.hid rfl
  generalize cel7 A C p q = r at HV ⊢
  rcases hx : inB p 0 (wrap64 (A - 1)) with _ | _
  · simp only [hx] at CA
    have EA : Hid (r = false) := Lib.hid (by rw [HV.out, hx]; rfl)
    clear HV CC hx
    have L0 : Kt (w.heap.size) A B C ((w.alloc (.cells #[.int .i64 A, .int .i64 B, .int .i64 C] 31)).alloc (.cells #[.int .i64 p, .int .i64 q] 49)) := ((Kt.at (w.heap.size) rfl).alloc _)
    have V0 : Kg (w.heap.size + 1) p q ((w.alloc (.cells #[.int .i64 A, .int .i64 B, .int .i64 C] 31)).alloc (.cells #[.int .i64 p, .int .i64 q] 49)) := (Kg.at2 (w.heap.size + 1) (by simp))
    have B0 : Below w.heap.size w ((w.alloc (.cells #[.int .i64 A, .int .i64 B, .int .i64 C] 31)).alloc (.cells #[.int .i64 p, .int .i64 q] 49)) := (Below.alloc (Below.alloc (Below.refl _ _) (by first | with_reducible exact Nat.le_refl _ | (simp <;> omega)) _) (by first | with_reducible exact Nat.le_refl _ | (simp <;> omega)) _)
    go_enter Tryd.func55, Tryd.ntmps55
    have L0c := L0.cells
    have V0c := V0.cells
    go_wp2_with (go_at_call 88; with_reducible refine (CA.out _).mono ?_; rintro e w' ⟨rfl, rfl⟩)
    all_goals
      go_ret
      exact ⟨ret_bool EA.out.symm, by repeat (first | with_reducible assumption | with_reducible exact Below.refl _ _ | with_reducible refine Below.drew ?_ | with_reducible refine below_drewN ?_ _ | with_reducible refine Below.alloc ?_ (by first | omega | (simp <;> omega)) _ | with_reducible refine bstep ?_ (by with_reducible assumption))⟩
  rcases hy : inB q 0 (wrap64 (C - 1)) with _ | _
  all_goals
    simp only [hx] at CA
    simp only [hy] at CC
    have EA := Lib.hid (show r = _ from by rw [HV.out, hx, hy])
    clear HV hx hy
    have L0 : Kt (w.heap.size) A B C ((w.alloc (.cells #[.int .i64 A, .int .i64 B, .int .i64 C] 31)).alloc (.cells #[.int .i64 p, .int .i64 q] 49)) := ((Kt.at (w.heap.size) rfl).alloc _)
    have V0 : Kg (w.heap.size + 1) p q ((w.alloc (.cells #[.int .i64 A, .int .i64 B, .int .i64 C] 31)).alloc (.cells #[.int .i64 p, .int .i64 q] 49)) := (Kg.at2 (w.heap.size + 1) (by simp))
    have B0 : Below w.heap.size w ((w.alloc (.cells #[.int .i64 A, .int .i64 B, .int .i64 C] 31)).alloc (.cells #[.int .i64 p, .int .i64 q] 49)) := (Below.alloc (Below.alloc (Below.refl _ _) (by first | with_reducible exact Nat.le_refl _ | (simp <;> omega)) _) (by first | with_reducible exact Nat.le_refl _ | (simp <;> omega)) _)
    go_enter Tryd.func55, Tryd.ntmps55
    have L0c := L0.cells
    have V0c := V0.cells
    go_wp2_with (first | (go_at_call 88; with_reducible refine (CA.out _).mono ?_; rintro e w' ⟨rfl, rfl⟩) | (go_at_call 88; with_reducible refine (CC.out _).mono ?_; rintro e w' ⟨rfl, rfl⟩))
    all_goals
      go_ret
      exact ⟨ret_bool EA.out.symm, by repeat (first | with_reducible assumption | with_reducible exact Below.refl _ _ | with_reducible refine Below.drew ?_ | with_reducible refine below_drewN ?_ _ | with_reducible refine Below.alloc ?_ (by first | omega | (simp <;> omega)) _ | with_reducible refine bstep ?_ (by with_reducible assumption))⟩

end Go.Proofs.YtkfdaepnjdnnmaaDoor
