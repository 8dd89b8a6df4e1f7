/-
 The walk of the exact law of FactsOf: the law returns true and writes nothing that was there. Conditions: the list's length is one that a slice can have, and the program's variable unitMatrix holds the unit.
-/
import Derived.Test.YtodkomaeljbhaaaGreatDoorFtM
import Derived.Test.YtodkomaeljbhaaaGreatDoorGq
namespace Go.Proofs.YtodkomaeljbhaaaGreatDoor
open Go.RowKit
set_option linter.unusedSimpArgs false
set_option linter.unusedVariables false

set_option maxRecDepth 100000 in
set_option maxHeartbeats 8000000 in
theorem walkFt (f A B C : Int) (v : Value) (xs : List M6) (w : World) (hA : ARow v xs w) (hm : xs.length ≤ 9223372036854775807) (hU : UnitOK w) :
  Calls Tryz.prog 3 #[.int .i64 f, .agg #[.int .i64 A, .int .i64 B, .int .i64 C], v] w fun e w' => e = .returned (.bool true) ∧ Below w.heap.size w w' := by
 have L0 : Kt w.heap.size A B C (w.alloc (.cells #[.int .i64 A, .int .i64 B, .int .i64 C] 23)) := Kt.at _ rfl
 have B0 : Below w.heap.size w (w.alloc (.cells #[.int .i64 A, .int .i64 B, .int .i64 C] 23)) := (Below.refl _ _).alloc (Nat.le_refl _) _
 have HA := Lib.hid hA
 have HU := Lib.hid hU
 obtain ⟨ao, cap, rfl, _⟩ := hA
 clear hU
 by_cases hbig : xs.length ≤ 1048576
 ·have hz : (if (xs.length : Int) ≤ 1048576 then 1048576 - (xs.length : Int) else -1) = 1048576 - (xs.length : Int) := if_pos (by omega)
  have HN := Lib.hid hbig
  have hn1 : (xs.length : Int) ≤ 1048576 := by omega
  have hn2 : 0 ≤ (xs.length : Int) := by omega
  have CS : Hid (∀ (lo hi : Nat) (v : Value) (W : World), SRow lo hi 6 v xs.length (fm xs) W → Calls Tryz.prog 8 #[.int .i64 f, .agg #[.int .i64 A, .int .i64 B, .int .i64 C], v] W fun e w' => e = .returned (ftT f A B C xs) ∧ Below W.heap.size W w') := Lib.hid (fun lo hi v W h => specFacts_any f A B C h HN.out)
  have CI : Hid (∀ (lo hi : Nat) (v : Value) (W : World), SRow lo hi 6 v xs.length (fm xs) W → UnitOK W → Calls Tryz.prog 11 #[.int .i64 f, .agg #[.int .i64 A, .int .i64 B, .int .i64 C], v] W fun e w' => e = .returned (ftT f A B C xs) ∧ Below W.heap.size W w') := Lib.hid (fun lo hi v W h hU => implFacts_any f A B C h HN.out hU)
  obtain ⟨r, n, e_, c, al, cd, hT⟩ := ftT_form f A B C xs
  rw [hT] at CS CI
  clear hbig hT
  go_enter Tryz.func3, Tryz.ntmps3
  go_wp2_with fail
  refine (szMo_any ao xs.length cap 1048576 _ hm (by omega)).mono ?_
  rintro e w1 ⟨rfl, hb1⟩
  rw [hz]
  have L1 := L0.call hb1
  have B1 := bstep B0 hb1
  have L1c := L1.cells
  clear L0 B0 hb1
  go_wp2_with fail
  refine (toLat_any _ _ _ _).mono ?_
  rintro e w2 ⟨rfl, hb2⟩
  have L2 := L1.call hb2
  have B2 := bstep B1 hb2
  have A2 := HA.out.grow (w2 := w2) B2
  clear L1c
  clear L1 B1 hb2
  go_wp2_with fail
  refine (toMotionS_any A2 HN.out).mono ?_
  rintro e w3 ⟨v3, rfl, s3, hb3⟩
  have L3 := L2.call hb3
  have B3 := bstep B2 hb3
  clear A2
  clear L2 B2 hb3
  go_wp2_with fail
  refine (CS.out _ _ _ _ s3).mono ?_
  rintro e w4 ⟨rfl, hb4⟩
  have L4 := (L3.call hb4).alloc (.cells #[.int .i64 r, .int .i64 n, .int .i64 e_, .int .i64 c, .bool al] 27)
  have B4 : Below w.heap.size w (w4.alloc (.cells #[.int .i64 r, .int .i64 n, .int .i64 e_, .int .i64 c, .bool al] 27)) := (bstep B3 hb4).alloc (bstep B3 hb4).size _
  have A4 := HA.out.grow (w2 := w4) B4
  have F4 : Bx w4.heap.size [.int .i64 r, .int .i64 n, .int .i64 e_, .int .i64 c, .bool al] (w4.alloc (.cells #[.int .i64 r, .int .i64 n, .int .i64 e_, .int .i64 c, .bool al] 27)) := Bx.at _ rfl
  clear L3 s3 B3 hb4
  go_wp2_with fail
  refine (toMotionS_any A4 HN.out).mono ?_
  rintro e w5 ⟨v5, rfl, x5, hb5⟩
  have L5 := L4.call hb5
  have F5 := F4.call hb5
  have B5 := bstep B4 hb5
  clear A4
  have L5c := L5.cells
  clear L4 B4 hb5
  go_wp2_with fail
  refine (toLat_any _ _ _ _).mono ?_
  rintro e w6 ⟨rfl, hb6⟩
  have x6 := x5.call hb6
  have F6 := F5.call hb6
  have B6 := bstep B5 hb6
  have U6 : UnitOK w6 := Kq.call HU.out B6
  clear L5c
  clear L5 x5 B5 hb6
  go_wp2_with fail
  refine (CI.out _ _ _ _ x6 U6).mono ?_
  rintro e w7 ⟨rfl, hb7⟩
  have F7 := (F6.call hb7).alloc (.cells #[.int .i64 r, .int .i64 n, .int .i64 e_, .int .i64 c, .bool al] 27)
  have G7 : Bx w7.heap.size [.int .i64 r, .int .i64 n, .int .i64 e_, .int .i64 c, .bool al] (w7.alloc (.cells #[.int .i64 r, .int .i64 n, .int .i64 e_, .int .i64 c, .bool al] 27)) := Bx.at _ rfl
  have x7 := (x6.call hb7).grow (Below.alloc (Below.refl _ _) (Nat.le_refl _) (.cells #[.int .i64 r, .int .i64 n, .int .i64 e_, .int .i64 c, .bool al] 27)) (x6.call hb7).1
  have B7 : Below w.heap.size w (w7.alloc (.cells #[.int .i64 r, .int .i64 n, .int .i64 e_, .int .i64 c, .bool al] 27)) := (bstep B6 hb7).alloc (bstep B6 hb7).size _
  have F7c0 := F7.c0
  have F7c1 := F7.c1
  have F7c2 := F7.c2
  have F7c3 := F7.c3
  have F7c4 := F7.c4
  have F7l := F7.lt
  have G7c0 := G7.c0
  have G7c1 := G7.c1
  have G7c2 := G7.c2
  have G7c3 := G7.c3
  have G7c4 := G7.c4
  have G7l := G7.lt
  clear U6
  clear x6 B6 hb7
  go_wp2_with fail
  refine (eqFacts_any r n e_ c al _).mono ?_
  rintro e w7' ⟨rfl, hb7'⟩
  have x7' := x7.call hb7'
  have B7' := bstep B7 hb7'
  have A7 := HA.out.grow (w2 := w4) B7'
  clear hb7' x7 B7 F7 G7 F7c0 F7c1 F7c2 F7c3 F7c4 F7l G7c0 G7c1 G7c2 G7c3 G7c4 G7l
  go_wp2_with fail
  refine (toMotionS_any A7 HN.out).mono ?_
  rintro e w8 ⟨v8, rfl, s8, hb8⟩
  have x8 := x7'.call hb8
  have B8 := bstep B7' hb8
  clear A7
  clear x7' B7' hb8
  go_wp2_with fail
  refine (eqMotionS_any x8 s8).mono ?_
  rintro e w9 ⟨rfl, hb9⟩
  have B9 := bstep B8 hb9
  clear x8 s8 B8 hb9
  go_wp2
  all_goals
   first
   | (go_ret; exact ⟨rfl, B9⟩)
   | (exfalso; simp_all)
 ·have hz : (if (xs.length : Int) ≤ 1048576 then 1048576 - (xs.length : Int) else -1) = -1 := if_neg (by omega)
  clear L0
  go_enter Tryz.func3, Tryz.ntmps3
  go_wp2_with fail
  refine (szMo_any ao xs.length cap 1048576 _ hm (by omega)).mono ?_
  rintro e w1 ⟨rfl, hb1⟩
  rw [hz]
  have B1 := bstep B0 hb1
  clear B0 hb1
  go_wp2
  go_ret
  exact ⟨rfl, B1⟩

end Go.Proofs.YtodkomaeljbhaaaGreatDoor
