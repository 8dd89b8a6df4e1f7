/-
  The model's cells of a lattice: a list in memory of its own. Conditions: the lattice is valid.
-/
import Derived.Test.YtodkomaeljbhaaaCelI
import Derived.OwnWalk
import Derived.LoopTactic
namespace Go.Proofs.Ytodkomaeljbhaaa
open Go.RowKit
set_option linter.unusedSimpArgs false
set_option linter.unusedVariables false

theorem own_next2 {w1 : World} {base : Nat} {e : TypeId} {v : Value} {xs : List (Int × Int)} {a b : Int} (h : w1.ownsRow base e 2 v (xs.length + 1) (cells2 xs ++ [.int .i64 a, .int .i64 b])) : w1.ownsRow base e 2 v (xs ++ [(a, b)]).length (cells2 (xs ++ [(a, b)])) := by
  rw [cells2_snoc]; simpa using h

end Go.Proofs.Ytodkomaeljbhaaa
