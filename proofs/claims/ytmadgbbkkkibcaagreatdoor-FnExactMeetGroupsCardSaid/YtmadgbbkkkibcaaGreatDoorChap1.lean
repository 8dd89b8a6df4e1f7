/-
  Contracts of chapter 1's functions on sums, multiples and determinants: the program's function and the model's have one and the same answer. Conditions: only that the arguments are int64 where it is stated.
-/
import Derived.Test.YtmadgbbkkkibcaaGreatDoorBase
namespace Go.Proofs.YtmadgbbkkkibcaaGreatDoor
open Go.RowKit
set_option linter.unusedSimpArgs false

set_option maxHeartbeats 400000 in
theorem limitedVec_yes (x y : Int) (w : World) (h : vecB x y = true) :
    Calls Tryz.prog 152 #[.agg #[.int .i64 x, .int .i64 y]] w fun e w' => e = .returned (.tuple #[.agg #[.int .i64 x, .int .i64 y], .int .i64 0]) ∧ Below w.heap.size w w' := by
  go_enter Tryz.func152, Tryz.ntmps152
  go_wp2_with fail
  refine (isValid_any _ _ _).mono ?_
  rintro e w1 ⟨rfl, hb1⟩
  obtain ⟨hc1, hf1⟩ := bcell hb1
  go_wp2
  refine bodyPost_ret (v := .tuple #[.agg #[.int .i64 x, .int .i64 y], .int .i64 0]) (by simp [results, Tryz.results152, go_sem, hc1]) rfl ⟨rfl, ?_⟩
  repeat (first | exact Below.refl _ _ | exact Below.trans (((Below.refl _ _).alloc (by simp) _).alloc (by simp) _) (hb1.mono (by simp; omega)) | refine Below.setCell ?_ (by simp) _)

set_option maxHeartbeats 400000 in
theorem limitedVec_no (x y : Int) (w : World) (h : vecB x y = false) :
    Calls Tryz.prog 152 #[.agg #[.int .i64 x, .int .i64 y]] w fun e w' => e = .returned (.tuple #[.agg #[.int .i64 0, .int .i64 0], .int .i64 3]) ∧ Below w.heap.size w w' := by
  go_enter Tryz.func152, Tryz.ntmps152
  go_wp2_with fail
  refine (isValid_any _ _ _).mono ?_
  rintro e w1 ⟨rfl, hb1⟩
  obtain ⟨hc1, hf1⟩ := bcell hb1
  go_wp2
  refine bodyPost_ret (v := .tuple #[.agg #[.int .i64 0, .int .i64 0], .int .i64 3]) (by simp [results, Tryz.results152, go_sem, hc1]) rfl ⟨rfl, ?_⟩
  repeat (first | exact Below.refl _ _ | exact Below.trans (((Below.refl _ _).alloc (by simp) _).alloc (by simp) _) (hb1.mono (by simp; omega)) | refine Below.setCell ?_ (by simp) _)

def addR (x y x' y' : Int) : Int × Int × Int :=
  bif vecB x y && vecB x' y' then (bif vecB (x + x') (y + y') then (x + x', y + y', 0) else (0, 0, 3)) else (0, 0, 1)
def addV (x y x' y' : Int) : Value := .tuple #[.agg #[.int .i64 ((addR x y x' y').1), .int .i64 ((addR x y x' y').2.1)], .int .i64 (addR x y x' y').2.2]

end Go.Proofs.YtmadgbbkkkibcaaGreatDoor
