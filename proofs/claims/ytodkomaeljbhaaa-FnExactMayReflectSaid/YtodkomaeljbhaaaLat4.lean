/-
  Contracts of chapter 3's LatticeOf: the program's function and the model's have one and the same answer. No condition.
-/
import Derived.Test.YtodkomaeljbhaaaHerm
import Derived.Test.YtodkomaeljbhaaaLat3
import Derived.Test.YtodkomaeljbhaaaOps
namespace Go.Proofs.Ytodkomaeljbhaaa
open Go.RowKit
set_option linter.unusedSimpArgs false
set_option linter.unusedVariables false

def limR (t : Int × Int × Int) : Int × Int × Int × Int := bif latB t.1 t.2.1 t.2.2 then (t.1, t.2.1, t.2.2, 0) else (0, 0, 0, 3)
def latT (r : Int × Int × Int × Int) : Value := .tuple #[.agg #[.int .i64 (r.1), .int .i64 (r.2.1), .int .i64 (r.2.2.1)], .int .i64 r.2.2.2]
def ofR (x y x' y' : Int) : Int × Int × Int × Int :=
  bif vecB x y && vecB x' y' then (bif x * y' - y * x' == 0 then (0, 0, 0, 5) else limR (latL [(x, y), (x', y')])) else (0, 0, 0, 1)
def ofT (x y x' y' : Int) : Value := latT (ofR x y x' y')
theorem hm_two (L : List (Int × Int)) : (spFold L).2 = (hmFold L).2 := (sameS_fold L (0, 0, 0) (0, 0, 0) ⟨rfl, by simp⟩).1
theorem vecsB_two {x y x' y' : Int} (h : vecB x y = true) (h' : vecB x' y' = true) : vecsB [(x, y), (x', y')] := by
  obtain ⟨⟨a1, a2⟩, a3, a4⟩ := vecB_bd h
  obtain ⟨⟨b1, b2⟩, b3, b4⟩ := vecB_bd h'
  intro v hv
  simp at hv
  rcases hv with rfl | rfl <;> (simp only; omega)

theorem VL_two (W : World) (x y x' y' : Int) (T : TypeId) : VL W.heap.size [(x, y), (x', y')] (W.alloc (.cells #[.int .i64 x, .int .i64 y, .int .i64 x', .int .i64 y'] T)) := by
  refine ⟨by simp, fun i hi => ?_⟩
  match i, hi with
  | 0, _ => exact ⟨by simp [go_sem], by simp [go_sem]⟩
  | 1, _ => exact ⟨by simp [go_sem], by simp [go_sem]⟩

end Go.Proofs.Ytodkomaeljbhaaa
