/-
  Contracts of chapter 4: which matrices keep norms, point matrices, norms; the walks of the exact laws of NormOf and IsPointMat. Conditions: those stated.
-/
import Derived.Test.YtpdekopmnchanabDoorFrN
import Derived.Test.YtpdekopmnchanabDoorMat1
import Derived.Test.YtpdekopmnchanabDoorKeep2
namespace Go.Proofs.YtpdekopmnchanabDoor
open Go.RowKit
set_option linter.unusedSimpArgs false
set_option linter.unusedVariables false

def keepB (f a b c d : Int) : Bool := nrmI f a c == 1 && (nrmI f b d == 1 && nrmI f (a + b) (c + d) == 2 + f)
theorem lim_mid {a b c d : Int} (h : limB a b c d = true) : (midI a ∧ midI b ∧ midI c ∧ midI d) ∧ (midI (a + b) ∧ midI (c + d)) := by
  have := limB_bd h
  unfold midI; omega
theorem nrm_10 (f : Int) : nrmI f 1 0 = 1 := by simp [nrmI]
theorem nrm_01 (f : Int) : nrmI f 0 1 = 1 := by simp [nrmI]
theorem nrm_11 (f : Int) : nrmI f 1 1 = 2 + f := by unfold nrmI; omega
theorem app10 (a b c d : Int) (w : World) (h : limB a b c d = true) :
    Calls Tryd.prog 70 #[.agg #[.int .i64 a, .int .i64 b, .int .i64 c, .int .i64 d], .agg #[.int .i64 1, .int .i64 0]] w fun e w' => e = .returned (.agg #[.int .i64 a, .int .i64 c]) ∧ Below w.heap.size w w' := by
  have := apply_any a b c d 1 0 w h (by decide)
  simpa using this
theorem app01 (a b c d : Int) (w : World) (h : limB a b c d = true) :
    Calls Tryd.prog 70 #[.agg #[.int .i64 a, .int .i64 b, .int .i64 c, .int .i64 d], .agg #[.int .i64 0, .int .i64 1]] w fun e w' => e = .returned (.agg #[.int .i64 b, .int .i64 d]) ∧ Below w.heap.size w w' := by
  have := apply_any a b c d 0 1 w h (by decide)
  simpa using this
theorem app11 (a b c d : Int) (w : World) (h : limB a b c d = true) :
    Calls Tryd.prog 70 #[.agg #[.int .i64 a, .int .i64 b, .int .i64 c, .int .i64 d], .agg #[.int .i64 1, .int .i64 1]] w fun e w' => e = .returned (.agg #[.int .i64 (a + b), .int .i64 (c + d)]) ∧ Below w.heap.size w w' := by
  have := apply_any a b c d 1 1 w h (by decide)
  simpa using this
def KeepAt (f a b c d k : Int) : Prop :=
  k = 0 ∨ (k = 1 ∧ (nrmI f a c == 1) = true) ∨ (k = 2 ∧ (nrmI f a c == 1) = true ∧ (nrmI f b d == 1) = true) ∨ (k = 3 ∧ keepB f a b c d = true)
end Go.Proofs.YtpdekopmnchanabDoor
