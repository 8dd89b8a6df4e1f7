/-
  Contracts of chapter 2's OrderOf and MatKind: the program's function and the model's have one and the same answer. Condition: the program's variable unitMatrix holds the unit.
-/
import Derived.Test.YtodkomaeljbhaaaMat5q
import Derived.Test.YtodkomaeljbhaaaMat2
namespace Go.Proofs.Ytodkomaeljbhaaa
open Go.RowKit
set_option linter.unusedSimpArgs false
set_option linter.unusedVariables false

/- the program's variable unitMatrix holds the unit -/
theorem eqArr (a b c d a' b' c' d' : Int) (w : World) : (Op.equalIn 10000 50 (.agg #[.int .i64 a, .int .i64 b, .int .i64 c, .int .i64 d]) (.agg #[.int .i64 a', .int .i64 b', .int .i64 c', .int .i64 d'])).run Try.prog w = .ok (eqM a b c d a' b' c' d') w := by
  have u3 := Try.underlying2
  have a3 := Try.isAgg2
  have z3 := Try.sizeOf2
  rw [show (10000 : Nat) = 9999 + 1 from rfl, Op.equalIn]
  simp only [Sem.run_bind, run_underlying Try.underlying50, Result.andThen_ok]
  simp only [Std.Legacy.Range.forIn_eq_forIn_range', Std.Legacy.Range.size, Nat.sub_zero, Nat.add_sub_cancel, Nat.div_one, List.range'_succ, List.range'_zero, List.forIn_cons, List.forIn_nil]
  go_simp
  unfold eqM
  by_cases h1 : a = a' <;> by_cases h2 : b = b' <;> by_cases h3 : c = c' <;> by_cases h4 : d = d' <;> simp [h1, h2, h3, h4]
attribute [local go_sem ↓] eqArr

theorem ordT_eqs {a b c d : Int} : unitB a b c d = eqM a b c d 1 0 0 1 := rfl
end Go.Proofs.Ytodkomaeljbhaaa
