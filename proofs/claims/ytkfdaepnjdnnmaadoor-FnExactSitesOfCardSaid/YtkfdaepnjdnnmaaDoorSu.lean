/-
  Contracts of chapter 6: which motions are suitable, and what reducing leaves of them, in the program and in the model. Condition: only the bounds that are stated.
-/
import Derived.Test.YtkfdaepnjdnnmaaDoorGi
import Derived.Test.YtkfdaepnjdnnmaaDoorGc
import Derived.Test.YtkfdaepnjdnnmaaDoorGf
import Derived.Deep.RegionHeld3
import Derived.IntWalk
namespace Go.Proofs.YtkfdaepnjdnnmaaDoor
open Go.RowKit
set_option linter.unusedSimpArgs false
set_option linter.unusedVariables false

theorem eqLat6 (a b c a' b' c' : Int) (w : World) : (Op.equalIn 10000 31 (.agg #[.int .i64 a, .int .i64 b, .int .i64 c]) (.agg #[.int .i64 a', .int .i64 b', .int .i64 c'])).run Tryd.prog w = .ok (eqT a b c a' b' c') w := by
  have hu := Tryd.underlying31
  rw [show (10000 : Nat) = 9999 + 1 from rfl, run_equalIn_struct _ _ _ _ _ (by simp only [Program.fieldsOf, hu]) (by kernel_rfl)]
  simp only [Program.fieldsOf, hu]
  have u3 := Tryd.underlying2
  have a3 := Tryd.isAgg2
  have z3 := Tryd.sizeOf2
  unfold eqT
  rcases h1 : (a == a') with _ | _ <;> rcases h2 : (b == b') with _ | _ <;> rcases h3 : (c == c') with _ | _ <;> go_simp <;> simp_all
attribute [local go_sem ↓] eqLat6
end Go.Proofs.YtkfdaepnjdnnmaaDoor
