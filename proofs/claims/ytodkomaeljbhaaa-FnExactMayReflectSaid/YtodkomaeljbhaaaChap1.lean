/-
  Contracts of chapter 1's functions on sums, multiples and determinants: the program's function and the model's have one and the same answer. Conditions: only that the arguments are int64 where it is stated.
-/
import Derived.Test.YtodkomaeljbhaaaBase
namespace Go.Proofs.Ytodkomaeljbhaaa
open Go.RowKit
set_option linter.unusedSimpArgs false

def addR (x y x' y' : Int) : Int × Int × Int :=
  bif vecB x y && vecB x' y' then (bif vecB (x + x') (y + y') then (x + x', y + y', 0) else (0, 0, 3)) else (0, 0, 1)
def addV (x y x' y' : Int) : Value := .tuple #[.agg #[.int .i64 ((addR x y x' y').1), .int .i64 ((addR x y x' y').2.1)], .int .i64 (addR x y x' y').2.2]

end Go.Proofs.Ytodkomaeljbhaaa
