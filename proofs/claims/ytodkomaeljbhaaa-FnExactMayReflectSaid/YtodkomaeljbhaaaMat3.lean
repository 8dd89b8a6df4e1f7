/-
  Contracts of chapter 2's MultiplyMats, InverseMat and ApplyMat: the program's function and the model's have one and the same answer. No condition.
-/
import Derived.Test.YtodkomaeljbhaaaMat2
import Derived.IntWalk
namespace Go.Proofs.Ytodkomaeljbhaaa
open Go.RowKit
set_option linter.unusedSimpArgs false
set_option linter.unusedVariables false

def mulR (a b c d a' b' c' d' : Int) : Int × Int × Int × Int × Int :=
  bif matB a b c d && matB a' b' c' d' then (bif limB (a * a' + b * c') (a * b' + b * d') (c * a' + d * c') (c * b' + d * d') then (a * a' + b * c', a * b' + b * d', c * a' + d * c', c * b' + d * d', 0) else (0, 0, 0, 0, 3)) else (0, 0, 0, 0, 1)
def matV (r : Int × Int × Int × Int × Int) : Value := .tuple #[.agg #[.int .i64 (r.1), .int .i64 (r.2.1), .int .i64 (r.2.2.1), .int .i64 (r.2.2.2.1)], .int .i64 r.2.2.2.2]
def vecV (r : Int × Int × Int) : Value := .tuple #[.agg #[.int .i64 (r.1), .int .i64 (r.2.1)], .int .i64 r.2.2]
def invR (a b c d : Int) : Int × Int × Int × Int × Int :=
  bif matB a b c d then (d * (a * d - b * c), -b * (a * d - b * c), -c * (a * d - b * c), a * (a * d - b * c), 0) else (0, 0, 0, 0, 1)
def appR (a b c d x y : Int) : Int × Int × Int :=
  bif matB a b c d && vecB x y then (bif vecB (a * x + b * y) (c * x + d * y) then (a * x + b * y, c * x + d * y, 0) else (0, 0, 3)) else (0, 0, 1)
theorem inv_lim {a b c d : Int} (h : matB a b c d = true) : limB (d * (a * d - b * c)) (-b * (a * d - b * c)) (-c * (a * d - b * c)) (a * (a * d - b * c)) = true := by
  obtain ⟨⟨ha, hb⟩, hc, hd⟩ := limB_bd (matB_lim h)
  rcases matB_det h with e | e <;> rw [e] <;> simp [limB, vecB] <;> omega

end Go.Proofs.Ytodkomaeljbhaaa
