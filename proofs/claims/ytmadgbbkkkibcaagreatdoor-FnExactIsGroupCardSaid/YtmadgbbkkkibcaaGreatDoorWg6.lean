/-
  The walk of the exact law of IsGroup: the law returns true and writes nothing that was there. Conditions: the list's length is one that a slice can have, and the program's variable unitMatrix holds the unit.
-/
import Derived.Test.YtmadgbbkkkibcaaGreatDoorMg6
import Derived.Test.YtmadgbbkkkibcaaGreatDoorTms
import Derived.Test.YtmadgbbkkkibcaaGreatDoorGz6
namespace Go.Proofs.YtmadgbbkkkibcaaGreatDoor
open Go.RowKit
set_option linter.unusedSimpArgs false
set_option linter.unusedVariables false

set_option maxRecDepth 100000 in
set_option maxHeartbeats 8000000 in
theorem walkIsGroup (f A B C : Int) (v : Value) (xs : List M6) (w : World) (hA : ARow v xs w) (hm : xs.length ≤ 9223372036854775807) (hU : UnitOK w) :
    Calls Tryz.prog 5 #[.int .i64 f, .agg #[.int .i64 A, .int .i64 B, .int .i64 C], v] w fun e w' => e = .returned (.bool true) ∧ Below w.heap.size w w' := by
  have L0 : Kt w.heap.size A B C (w.alloc (.cells #[.int .i64 A, .int .i64 B, .int .i64 C] 51)) := Kt.at _ rfl
  have B0 : Below w.heap.size w (w.alloc (.cells #[.int .i64 A, .int .i64 B, .int .i64 C] 51)) := (Below.refl _ _).alloc (Nat.le_refl _) _
  have HA := Lib.hid hA
  have HU := Lib.hid hU
  obtain ⟨ao, cap, rfl, _⟩ := hA
  clear hU
  by_cases hbig : xs.length ≤ 1048576
  · have hz : (if (xs.length : Int) ≤ 1048576 then 1048576 - (xs.length : Int) else -1) = 1048576 - (xs.length : Int) := if_pos (by omega)
    have HN := Lib.hid hbig
    have hn1 : (xs.length : Int) ≤ 1048576 := by omega
    have hn2 : 0 ≤ (xs.length : Int) := by omega
    have CS : Hid (∀ (lo hi : Nat) (u : Value) (W : World), SRow lo hi 6 u xs.length (fm xs) W → UnitOK W → Calls Tryz.prog 30 #[.int .i64 f, .agg #[.int .i64 A, .int .i64 B, .int .i64 C], u] W fun e w' => e = .returned (.bool (grpB f A B C xs)) ∧ Below W.heap.size W w') := Lib.hid (fun lo hi u W hS hU => specIsGroup_any f A B C hS HN.out)
    have CI : Hid (∀ (lo hi : Nat) (u : Value) (W : World), SRow lo hi 6 u xs.length (fm xs) W → UnitOK W → Calls Tryz.prog 29 #[.int .i64 f, .agg #[.int .i64 A, .int .i64 B, .int .i64 C], u] W fun e w' => e = .returned (.bool (grpB f A B C xs)) ∧ Below W.heap.size W w') := Lib.hid (fun lo hi u W hS hU => implIsGroup_any f A B C hS HN.out hU)
    generalize grpB f A B C xs = r at CS CI
    clear hbig
    go_enter Tryz.func5, Tryz.ntmps5
    go_wp2_with fail
    refine (szMo_any ao xs.length cap 1048576 _ hm (by omega)).mono ?_
    rintro e w1 ⟨rfl, hb1⟩
    rw [hz]
    have L1 := L0.call hb1
    have B1 := bstep B0 hb1
    have L1c := L1.cells
    clear hz hb1 L0 B0
    go_wp2_with fail
    refine (toLat_any _ _ _ _).mono ?_
    rintro e w2 ⟨rfl, hb2⟩
    have L2 := L1.call hb2
    have B2 := bstep B1 hb2
    have A2 := HA.out.grow (w2 := w2) B2
    clear hb2 L1 B1 L1c
    go_wp2_with fail
    refine (toMotionS_any A2 HN.out).mono ?_
    rintro e w3 ⟨v3, rfl, s3, hb3⟩
    have L3 := L2.call hb3
    have B3 := bstep B2 hb3
    have U3 : UnitOK w3 := Kq.call HU.out B3
    clear hb3 A2 L2 B2
    go_wp2_with fail
    refine (CS.out _ _ _ _ s3 U3).mono ?_
    rintro e w4 ⟨rfl, hb4⟩
    have L4 := L3.call hb4
    have B4 := bstep B3 hb4
    have A4 := HA.out.grow (w2 := w4) B4
    clear hb4 L3 B3 s3 U3
    go_wp2_with fail
    refine (toMotionS_any A4 HN.out).mono ?_
    rintro e w5 ⟨v5, rfl, x5, hb5⟩
    have L5 := L4.call hb5
    have B5 := bstep B4 hb5
    have L5c := L5.cells
    clear hb5 A4 L4 B4
    go_wp2_with fail
    refine (toLat_any _ _ _ _).mono ?_
    rintro e w6 ⟨rfl, hb6⟩
    have B6 := bstep B5 hb6
    have x6 := x5.call hb6
    have U6 : UnitOK w6 := Kq.call HU.out B6
    clear hb6 L5 B5 x5 L5c
    go_wp2_with fail
    refine (CI.out _ _ _ _ x6 U6).mono ?_
    rintro e w7 ⟨rfl, hb7⟩
    have B7 := bstep B6 hb7
    have x7 := x6.call hb7
    have A7 := HA.out.grow (w2 := w7) B7
    clear hb7 B6 x6 U6
    go_wp2_with fail
    refine (toMotionS_any A7 HN.out).mono ?_
    rintro e w8 ⟨v8, rfl, y8, hb8⟩
    have B8 := bstep B7 hb8
    have x8 := x7.call hb8
    clear hb8 A7 B7 x7
    go_wp2_with fail
    refine (eqMotionS_any x8 y8).mono ?_
    rintro e w9 ⟨rfl, hb9⟩
    have B9 := bstep B8 hb9
    clear hb9 x8 y8 B8
    go_wp2
    all_goals
      first
      | (go_ret; exact ⟨rfl, B9⟩)
      | (exfalso; simp_all)
  · have hz : (if (xs.length : Int) ≤ 1048576 then 1048576 - (xs.length : Int) else -1) = -1 := if_neg (by omega)
    go_enter Tryz.func5, Tryz.ntmps5
    go_wp2_with fail
    refine (szMo_any ao xs.length cap 1048576 _ hm (by omega)).mono ?_
    rintro e w1 ⟨rfl, hb1⟩
    rw [hz]
    have B1 := bstep B0 hb1
    clear hz hb1 L0 B0
    go_wp2
    go_ret
    exact ⟨rfl, B1⟩

end Go.Proofs.YtmadgbbkkkibcaaGreatDoor
