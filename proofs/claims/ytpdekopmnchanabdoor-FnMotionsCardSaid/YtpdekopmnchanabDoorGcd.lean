/-
  Contracts of chapter 1's greatest common divisor: the program's loop and the model's recursion both answer the mathematical divisor. Condition: numbers from -1000000 to 1000000.
-/
import Derived.Test.YtpdekopmnchanabDoorBase
import Derived.LoopTactic
import Derived.BigQuiet
import Derived.Deep.QuietTactic
import Derived.WalkSmall
namespace Go.Proofs.YtpdekopmnchanabDoor
open Go.RowKit

def gcdI (a b : Int) : Int := (Int.gcd a b : Nat)
theorem gcdI_step (x y : Int) : gcdI y (x.tmod y) = gcdI x y := by
  unfold gcdI
  simp only [Int.gcd, Int.natAbs_tmod]
  congr 1
  rw [Nat.gcd_comm x.natAbs y.natAbs, Nat.gcd_rec y.natAbs x.natAbs, Nat.gcd_comm]
theorem gcdI_zero (x : Int) : gcdI x 0 = max x (-x) := by
  unfold gcdI
  simp only [Int.gcd]
  simp
  omega
theorem tmod_lt (x y : Int) (h : y ≠ 0) : (x.tmod y).natAbs < y.natAbs := by
  rw [Int.natAbs_tmod]; exact Nat.mod_lt _ (by omega)

end Go.Proofs.YtpdekopmnchanabDoor
