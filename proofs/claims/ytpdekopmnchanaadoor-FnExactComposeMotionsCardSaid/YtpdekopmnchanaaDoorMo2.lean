/-
  Contracts of the program's kind, order and centre of a motion (chapter 5). Conditions: the motion is valid; the program's variable unitMatrix holds the unit.
-/
import Derived.Test.YtpdekopmnchanaaDoorMo1
namespace Go.Proofs.YtpdekopmnchanaaDoor
open Go.RowKit
set_option linter.unusedSimpArgs false
set_option linter.unusedVariables false

theorem eqArr2 (n : Nat) (a b c d a' b' c' d' : Int) (w : World) : (Op.equalIn (n + 2) 47 (.agg #[.int .i64 a, .int .i64 b, .int .i64 c, .int .i64 d]) (.agg #[.int .i64 a', .int .i64 b', .int .i64 c', .int .i64 d'])).run Tryd.prog w = .ok (eqM a b c d a' b' c' d') w := by
  have u3 := Tryd.underlying2
  have a3 := Tryd.isAgg2
  have z3 := Tryd.sizeOf2
  rw [show n + 2 = (n + 1) + 1 from rfl, Op.equalIn]
  simp only [Sem.run_bind, run_underlying Tryd.underlying47, Result.andThen_ok]
  simp only [Std.Legacy.Range.forIn_eq_forIn_range', Std.Legacy.Range.size, Nat.sub_zero, Nat.add_sub_cancel, Nat.div_one, List.range'_succ, List.range'_zero, List.forIn_cons, List.forIn_nil]
  go_simp
  unfold eqM
  by_cases h1 : a = a' <;> by_cases h2 : b = b' <;> by_cases h3 : c = c' <;> by_cases h4 : d = d' <;> simp [h1, h2, h3, h4]
theorem eqMo (a b c d x y a' b' c' d' x' y' : Int) (w : World) : (Op.equalIn 10000 49 (.agg #[.int .i64 a, .int .i64 b, .int .i64 c, .int .i64 d, .int .i64 x, .int .i64 y]) (.agg #[.int .i64 a', .int .i64 b', .int .i64 c', .int .i64 d', .int .i64 x', .int .i64 y'])).run Tryd.prog w = .ok (eqM a b c d a' b' c' d' && (x == x' && y == y')) w := by
  have hu := Tryd.underlying49
  have hv := Tryd.underlying29
  rw [show (10000 : Nat) = 9999 + 1 from rfl, run_equalIn_struct _ _ _ _ _ (by simp only [Program.fieldsOf, hu]) (by kernel_rfl)]
  simp only [Program.fieldsOf, hu]
  have hA := fun W => eqArr2 9997 a b c d a' b' c' d' W
  have u3 := Tryd.underlying2
  have a3 := Tryd.isAgg2
  have z3 := Tryd.sizeOf2
  go_simp
  rcases eqM a b c d a' b' c' d' with _ | _ <;> by_cases h5 : x = x' <;> by_cases h6 : y = y' <;> simp [h5, h6]

attribute [local go_sem ↓] eqArr eqMo

end Go.Proofs.YtpdekopmnchanaaDoor
