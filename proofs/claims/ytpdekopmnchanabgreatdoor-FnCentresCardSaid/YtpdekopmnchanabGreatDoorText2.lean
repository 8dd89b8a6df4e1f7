/-
  Contracts of VecText (program and model), and the walk of the law FnExactVecText. Condition: the library's table of powers of ten reads as its initialiser lays it.
-/
import Derived.Test.YtpdekopmnchanabGreatDoorNText
namespace Go.Proofs.YtpdekopmnchanabGreatDoor
open Go.RowKit
set_option linter.unusedSimpArgs false
set_option linter.unusedVariables false

set_option maxHeartbeats 1000000 in
theorem specText_any (x y : Int) (w : World) :
    Calls Tryz.prog 34 #[.agg #[.int .i64 x, .int .i64 y]] w fun e w' => e = .returned (.string (textS x y)) ∧ Below w.heap.size w w' := by
  rcases hu : vecB x y with _ | _
  · have EA := Lib.hid (show textS x y = ⟨#[]⟩ by simp [textS, hu])
    go_enter Tryz.func34, Tryz.ntmps34
    go_wp2_with fail
    refine (specIsVec_any _ _ _).mono ?_
    rintro e w1 ⟨rfl, hb1⟩
    go_wp2
    go_ret
    refine ⟨ret_str EA.out.symm, ?_⟩
    repeat (first | exact Below.refl _ _ | refine Below.setCell ?_ (by first | omega | (simp <;> omega)) _ | refine Below.alloc ?_ (by first | omega | (simp <;> omega)) _ | refine bstep ?_ (by assumption) | refine Below.drew ?_)
  · have EA := Lib.hid (show textS x y = vecS x y by simp [textS, hu])
    obtain ⟨⟨a1, a2⟩, a3, a4⟩ := vecB_bd hu
    have K0 : Kg w.heap.size x y (w.alloc (.cells #[.int .i64 x, .int .i64 y] 27)) := by refine ⟨by simp, ?_, ?_⟩ <;> simp [go_sem]
    have s1 := add1 x (by omega) (by omega)
    have s2 := add2 x y (by omega) (by omega) (by omega) (by omega)
    go_enter Tryz.func34, Tryz.ntmps34
    go_wp2_with fail
    refine (specIsVec_any _ _ _).mono ?_
    rintro e w1 ⟨rfl, hb1⟩
    have K1 := Kg.call K0 hb1
    go_wp2_with fail
    go_region_held3 (fun W => W.cell? ⟨w.heap.size, 0, none⟩ = some (.int .i64 x) ∧ W.cell? ⟨w.heap.size, 1, none⟩ = some (.int .i64 y)) ((refine Kg.cells ?_; repeat (first | assumption | with_reducible refine Kg.alloc ?_ _ | with_reducible refine Kg.drew ?_ | ((with_reducible refine Kg.put ?_ ?_); (first | exact Nat.lt_succ_self _ | omega)) | with_reducible refine Kg.call ?_ (by assumption))))
      (first
        | (go_at_call_of 65 (Value.int IntKind.i64 x); refine (number_any x _ (by omega) (by omega)).mono ?_; rintro e u1 ⟨rfl, hbu1⟩)
        | (go_at_call_of 65 (Value.int IntKind.i64 y); refine (number_any y _ (by omega) (by omega)).mono ?_; rintro e u2 ⟨rfl, hbu2⟩))
    all_goals
      go_wp2
      go_ret
      refine ⟨ret_str EA.out.symm, ?_⟩
      repeat (first | exact Below.refl _ _ | refine Below.setCell ?_ (by first | omega | (simp <;> omega)) _ | refine Below.alloc ?_ (by first | omega | (simp <;> omega)) _ | refine bstep ?_ (by assumption) | refine Below.drew ?_)



end Go.Proofs.YtpdekopmnchanabGreatDoor
