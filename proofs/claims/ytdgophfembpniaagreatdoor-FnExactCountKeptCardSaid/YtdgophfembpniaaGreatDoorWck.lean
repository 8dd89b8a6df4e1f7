/-
 The walk of the exact law of CountKept: the law returns true and writes nothing that was there. Conditions: the list's length is one that a slice can have, and the program's variable unitMatrix holds the unit.
-/
import Derived.Test.YtdgophfembpniaaGreatDoorCk
import Derived.Test.YtdgophfembpniaaGreatDoorGq
namespace Go.Proofs.YtdgophfembpniaaGreatDoor
open Go.RowKit
set_option linter.unusedSimpArgs false
set_option linter.unusedVariables false

set_option maxRecDepth 100000 in
set_option maxHeartbeats 8000000 in
theorem walkCk (f A B C : Int) (v : Value) (xs : List M6) (n : Int) (w : World) (hA : ARow v xs w) (hm : xs.length ≤ 9223372036854775807) (hU : UnitOK w) :
  Calls Tryz.prog 7 #[.int .i64 f, .agg #[.int .i64 A, .int .i64 B, .int .i64 C], v, .int .i64 n] w fun e w' => e = .returned (.bool true) ∧ Below w.heap.size w w' := by
 have L0 : Kt w.heap.size A B C (w.alloc (.cells #[.int .i64 A, .int .i64 B, .int .i64 C] 23)) := Kt.at _ rfl
 have B0 : Below w.heap.size w (w.alloc (.cells #[.int .i64 A, .int .i64 B, .int .i64 C] 23)) := (Below.refl _ _).alloc (Nat.le_refl _) _
 have HA := Lib.hid hA
 have HU := Lib.hid hU
 obtain ⟨ao, cap, rfl, _⟩ := hA
 clear hU
 by_cases hbig : xs.length ≤ 1048576
 ·have hz : (if (xs.length : Int) ≤ 1048576 then 1048576 - (xs.length : Int) else -1) = 1048576 - (xs.length : Int) := if_pos (by omega)
  have HN := Lib.hid hbig
  have hn1 : (xs.length : Int) ≤ 1048576 := by omega
  have hn2 : 0 ≤ (xs.length : Int) := by omega
  have CS : Hid (∀ (lo hi : Nat) (v : Value) (W : World), SRow lo hi 6 v xs.length (fm xs) W → Calls Tryz.prog 33 #[.int .i64 f, .agg #[.int .i64 A, .int .i64 B, .int .i64 C], v, .int .i64 n] W fun e w' => e = .returned (ckT f A B C xs n) ∧ Below W.heap.size W w') := Lib.hid (fun lo hi v W h => specCk_any f A B C n h HN.out)
  have CI : Hid (∀ (lo hi : Nat) (v : Value) (W : World), SRow lo hi 6 v xs.length (fm xs) W → UnitOK W → Calls Tryz.prog 34 #[.int .i64 f, .agg #[.int .i64 A, .int .i64 B, .int .i64 C], v, .int .i64 n] W fun e w' => e = .returned (ckT f A B C xs n) ∧ Below W.heap.size W w') := Lib.hid (fun lo hi v W h hU => implCk_any f A B C n h HN.out hU)
  unfold ckT at CS CI
  generalize (ckR f A B C xs n).1 = r0 at CS CI
  generalize (ckR f A B C xs n).2 = r1 at CS CI
  clear hbig
  go_enter Tryz.func7, Tryz.ntmps7
  go_wp2_with fail
  refine (szMo_any ao xs.length cap 1048576 _ hm (by omega)).mono ?_
  rintro e w1 ⟨rfl, hb1⟩
  rw [hz]
  have L1 := L0.call hb1
  have B1 := bstep B0 hb1
  have L1c := L1.cells
  clear L0 B0 hb1
  go_wp2_with fail
  refine (toLat_any _ _ _ _).mono ?_
  rintro e w2 ⟨rfl, hb2⟩
  have L2 := L1.call hb2
  have B2 := bstep B1 hb2
  have A2 := HA.out.grow (w2 := w2) B2
  clear L1c
  clear L1 B1 hb2
  go_wp2_with fail
  refine (toMotionS_any A2 HN.out).mono ?_
  rintro e w3 ⟨v3, rfl, s3, hb3⟩
  have L3 := L2.call hb3
  have B3 := bstep B2 hb3
  clear A2
  clear L2 B2 hb3
  go_wp2_with fail
  refine (CS.out _ _ _ _ s3).mono ?_
  rintro e w4 ⟨rfl, hb4⟩
  have L4 := L3.call hb4
  have B4 := bstep B3 hb4
  have A4 := HA.out.grow (w2 := w4) B4
  clear L3 s3 B3 hb4
  go_wp2_with fail
  refine (toMotionS_any A4 HN.out).mono ?_
  rintro e w5 ⟨v5, rfl, x5, hb5⟩
  have L5 := L4.call hb5
  have B5 := bstep B4 hb5
  clear A4
  have L5c := L5.cells
  clear L4 B4 hb5
  go_wp2_with fail
  refine (toLat_any _ _ _ _).mono ?_
  rintro e w6 ⟨rfl, hb6⟩
  have x6 := x5.call hb6
  have B6 := bstep B5 hb6
  have U6 : UnitOK w6 := Kq.call HU.out B6
  clear L5c
  clear L5 x5 B5 hb6
  go_wp2_with fail
  refine (CI.out _ _ _ _ x6 U6).mono ?_
  rintro e w7 ⟨rfl, hb7⟩
  have x7 := x6.call hb7
  have B7 := bstep B6 hb7
  have A7 := HA.out.grow (w2 := w7) B7
  clear U6
  clear x6 B6 hb7
  go_wp2_with fail
  refine (toMotionS_any A7 HN.out).mono ?_
  rintro e w8 ⟨v8, rfl, s8, hb8⟩
  have x8 := x7.call hb8
  have B8 := bstep B7 hb8
  clear A7
  clear x7 B7 hb8
  go_wp2_with fail
  refine (eqMotionS_any x8 s8).mono ?_
  rintro e w9 ⟨rfl, hb9⟩
  have B9 := bstep B8 hb9
  clear x8 s8 B8 hb9
  go_wp2
  all_goals
   first
   | (go_ret; exact ⟨rfl, B9⟩)
   | (exfalso; simp_all)
 ·have hz : (if (xs.length : Int) ≤ 1048576 then 1048576 - (xs.length : Int) else -1) = -1 := if_neg (by omega)
  clear L0
  go_enter Tryz.func7, Tryz.ntmps7
  go_wp2_with fail
  refine (szMo_any ao xs.length cap 1048576 _ hm (by omega)).mono ?_
  rintro e w1 ⟨rfl, hb1⟩
  rw [hz]
  have B1 := bstep B0 hb1
  clear B0 hb1
  go_wp2
  go_ret
  exact ⟨rfl, B1⟩

end Go.Proofs.YtdgophfembpniaaGreatDoor
