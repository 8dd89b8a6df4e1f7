/-
  The walk of the exact law of NameOfFacts: the law returns true and writes nothing that was there. No condition.
-/
import Derived.Test.YtjocmfnjfmlgiaaDoorNm3
namespace Go.Proofs.YtjocmfnjfmlgiaaDoor
open Go.RowKit
set_option linter.unusedSimpArgs false
set_option linter.unusedVariables false

set_option maxRecDepth 100000 in
set_option maxHeartbeats 4000000 in
theorem toFacts_any (r n e c : Int) (al : Bool) (w : World) :
    Calls Tryd.prog 15 #[.agg #[.int .i64 r, .int .i64 n, .int .i64 e, .int .i64 c, .bool al]] w fun z w' => z = .returned (.agg #[.int .i64 r, .int .i64 n, .int .i64 e, .int .i64 c, .bool al]) ∧ Below w.heap.size w w' := by
  go_enter Tryd.func15, Tryd.ntmps15
  go_wp2
  refine bodyPost_ret (v := .agg #[.int .i64 r, .int .i64 n, .int .i64 e, .int .i64 c, .bool al]) (by simp [results, Tryd.results15, go_sem, *]) rfl ⟨rfl, ?_⟩
  repeat (first | with_reducible assumption | with_reducible exact Below.refl _ _ | with_reducible refine Below.setCell ?_ (by first | omega | (simp <;> omega)) _ | with_reducible refine Below.alloc ?_ (by first | omega | (simp <;> omega)) _ | with_reducible refine bstep ?_ (by with_reducible assumption) | with_reducible refine Below.drew ?_)
set_option maxRecDepth 100000 in
set_option maxHeartbeats 8000000 in
theorem walkNof (r n e c : Int) (al : Bool) (w : World) :
    Calls Tryd.prog 4 #[.agg #[.int .i64 r, .int .i64 n, .int .i64 e, .int .i64 c, .bool al]] w fun z w' => z = .returned (.bool true) ∧ Below w.heap.size w w' := by
  have X0 : Bx w.heap.size [.int .i64 r, .int .i64 n, .int .i64 e, .int .i64 c, .bool al] (w.alloc (.cells #[.int .i64 r, .int .i64 n, .int .i64 e, .int .i64 c, .bool al] 28)) := Bx.at _ rfl
  obtain ⟨s0, k0, hT⟩ : ∃ s k, nmR (nmI r n e c al) = .tuple #[.string s, .int .i64 k] := ⟨_, _, rfl⟩
  have HT := Lib.hid hT
  clear hT
  go_enter Tryd.func4, Tryd.ntmps4
  go_wp2_with fail
  with_reducible refine (toFacts_any _ _ _ _ _ _).mono ?_
  rintro z1 w1 ⟨rfl, hb1⟩
  have B1 := bstep (ab w _) hb1
  have X1 := X0.call hb1
  clear X0 hb1
  go_wp2_with fail
  with_reducible refine (specNof_any _ _ _ _ _ _).mono ?_
  rintro z2 w2 ⟨rfl, hb2⟩
  rw [HT.out]
  have B2 := bstep B1 hb2
  have X2 := X1.call hb2
  clear X1 B1 hb2
  have x0 := X2.c0
  have x1 := X2.c1
  have x2 := X2.c2
  have x3 := X2.c3
  have x4 := X2.c4
  go_wp2_with fail
  with_reducible refine (toFacts_any _ _ _ _ _ _).mono ?_
  rintro z3 w3 ⟨rfl, hb3⟩
  have B3 := bstep B2 hb3
  clear B2 hb3 x0 x1 x2 x3 x4 X2
  go_wp2_with fail
  with_reducible refine (implNof_any _ _ _ _ _ _).mono ?_
  rintro z4 w4 ⟨rfl, hb4⟩
  rw [HT.out]
  have B4 := bstep B3 hb4
  clear B3 hb4 HT
  go_wp2
  all_goals
    first
    | (go_ret; exact ⟨rfl, B4⟩)
    | (exfalso; simp_all)
end Go.Proofs.YtjocmfnjfmlgiaaDoor
