/-
  Facts of the search for a witness, and the program's searchWitness, IsSymmetry and WitnessAgainst. Conditions: a slice that lies in a block of its own; the program's variable unitMatrix holds the unit.
-/
import Derived.Test.YtkfdaepnjdnnmaaDoorSyB
import Derived.Test.YtkfdaepnjdnnmaaDoorSu
import Derived.Test.YtkfdaepnjdnnmaaDoorPtW
import Derived.Test.YtkfdaepnjdnnmaaDoorMoP
import Derived.Test.YtkfdaepnjdnnmaaDoorVb
namespace Go.Proofs.YtkfdaepnjdnnmaaDoor
open Go.RowKit
set_option linter.unusedSimpArgs false
set_option linter.unusedVariables false

def syS (f A B C : Int) (F : Nat → Int) (a b c d x y : Int) : Bool := suitB f (leaP A B C F : Int) (fulI A B C F).2.1 (leaQ A B C F : Int) a b c d x y
def syW (A B C : Int) (F : Nat → Int) (a b c d x y : Int) : Option V29 := witR (leaP A B C F : Int) (fulI A B C F).2.1 (leaQ A B C F : Int) (onG A B C F (leaP A B C F) (leaQ A B C F)) a b c d x y (cellP (leaQ A B C F) (leaP A B C F))
def syA (f A B C : Int) (n : Nat) (F : Nat → Int) (a b c d x y : Int) : Option V29 × Int := if patB f A B C n F = true then (if syS f A B C F a b c d x y = true then (syW A B C F a b c d x y, 0) else (none, 2)) else (none, 1)
theorem suit_bd {f A B C a b c d x y : Int} (h : suitB f A B C a b c d x y = true) : limB a b c d = true ∧ vecB x y = true := by
  unfold suitB pmB matB at h
  simp only [Bool.and_eq_true] at h
  exact ⟨h.2.1.1.2.1, h.2.2.2⟩
/- what a drawn region leaves that sets a new vector from a call's answer, and a truth value -/
def McV (r : Option V29) (w : World) (s8 s9 : Value) (wx : World) : Prop :=
  ∃ bx : Nat, s8 = .pointer (some ⟨bx, 0, none⟩) ∧ s9 = .bool r.isSome ∧ Bx bx [.int .i64 (witV r).1, .int .i64 (witV r).2] wx ∧ w.heap.size ≤ bx ∧ Below w.heap.size w wx
theorem Bx.st2 {g : Nat} {u0 u1 : Value} {W : World} (h : BX g [.int .i64 0, .int .i64 0] W) : Bx g [u0, u1] ((W.setCell ⟨g, 0, none⟩ u0).setCell ⟨g, 1, none⟩ u1) := ((h.store 0 (by simp) u0).store 1 (by simp) u1).bx
set_option maxRecDepth 100000 in
set_option maxHeartbeats 16000000 in
theorem search_any {lo hi n : Nat} {v : Value} {F : Nat → Int} {w : World} (f A B C a b c d x y : Int) (hv : SRow lo hi 1 v n F w) (hU : UnitOK w) :
    Calls Tryd.prog 51 #[.agg #[.int .i64 f, .int .i64 A, .int .i64 B, .int .i64 C, v], .agg #[.int .i64 a, .int .i64 b, .int .i64 c, .int .i64 d, .int .i64 x, .int .i64 y]] w fun e w' => e = .returned (.tuple #[.agg #[.int .i64 ((witV (syA f A B C n F a b c d x y).1).1), .int .i64 ((witV (syA f A B C n F a b c d x y).1).2)], .bool (syA f A B C n F a b c d x y).1.isSome, .int .i64 (syA f A B C n F a b c d x y).2]) ∧ Below w.heap.size w w' := by
  have R9 := Lib.hid hv
  have HU := Lib.hid hU
  obtain ⟨ao, cap, rfl⟩ := hv.slice
  clear hv hU
  have P0 : Bx w.heap.size [.int .i64 f, .int .i64 A, .int .i64 B, .int .i64 C, .slice ao n cap] (((w.alloc (.cells #[.int .i64 f, .int .i64 A, .int .i64 B, .int .i64 C, .slice ao n cap] 33)).alloc (.cells #[.int .i64 a, .int .i64 b, .int .i64 c, .int .i64 d, .int .i64 x, .int .i64 y] 51)).alloc (.cells #[.int .i64 0, .int .i64 0] 49)) := ((Bx.at _ rfl).alloc _).alloc _
  have M0 : Bx (w.heap.size + 1) [.int .i64 a, .int .i64 b, .int .i64 c, .int .i64 d, .int .i64 x, .int .i64 y] (((w.alloc (.cells #[.int .i64 f, .int .i64 A, .int .i64 B, .int .i64 C, .slice ao n cap] 33)).alloc (.cells #[.int .i64 a, .int .i64 b, .int .i64 c, .int .i64 d, .int .i64 x, .int .i64 y] 51)).alloc (.cells #[.int .i64 0, .int .i64 0] 49)) := (Bx.at _ (by simp)).alloc _
  have R0 : BX (w.heap.size + 1 + 1) [.int .i64 0, .int .i64 0] (((w.alloc (.cells #[.int .i64 f, .int .i64 A, .int .i64 B, .int .i64 C, .slice ao n cap] 33)).alloc (.cells #[.int .i64 a, .int .i64 b, .int .i64 c, .int .i64 d, .int .i64 x, .int .i64 y] 51)).alloc (.cells #[.int .i64 0, .int .i64 0] 49)) := BX.at _ (by simp)
  have B0 : Below w.heap.size w (((w.alloc (.cells #[.int .i64 f, .int .i64 A, .int .i64 B, .int .i64 C, .slice ao n cap] 33)).alloc (.cells #[.int .i64 a, .int .i64 b, .int .i64 c, .int .i64 d, .int .i64 x, .int .i64 y] 51)).alloc (.cells #[.int .i64 0, .int .i64 0] 49)) := by repeat (first | with_reducible exact Below.refl _ _ | with_reducible assumption | with_reducible refine Below.setCell ?_ (by first | omega | (dsimp only; omega) | (simp <;> omega)) _ | with_reducible refine Below.alloc ?_ (by first | omega | (simp <;> omega)) _ | with_reducible refine bstep ?_ (by with_reducible assumption) | with_reducible refine Below.drew ?_ | with_reducible refine below_drewN ?_ _)
  rcases k1 : patB f A B C n F with _ | _
  · rw [show syA f A B C n F a b c d x y = (none, 1) by simp [syA, k1]]
    go_enter Tryd.func51, Tryd.ntmps51
    go_wp2_with fail
    with_reducible refine (patValid_any f A B C (R9.out.call B0)).mono ?_
    rintro e w1 ⟨rfl, hb1⟩
    rw [k1]
    have P1 := P0.call hb1
    have M1 := M0.call hb1
    have R1 := R0.call hb1
    have B1 := bstep B0 hb1
    clear P0 M0 R0 B0 hb1
    have r1c0 := R1.c0
    have r1c1 := R1.c1
    have r1f0 := R1.f0
    have r1f1 := R1.f1
    have r1l := R1.lt
    go_wp2
    refine bodyPost_ret (v := (.tuple #[.agg #[.int .i64 0, .int .i64 0], .bool false, .int .i64 1])) (by simp [results, Tryd.results51, go_sem, *]) rfl ⟨rfl, ?_⟩
    repeat (first | with_reducible exact Below.refl _ _ | with_reducible assumption | with_reducible refine Below.setCell ?_ (by first | omega | (dsimp only; omega) | (simp <;> omega)) _ | with_reducible refine Below.alloc ?_ (by first | omega | (simp <;> omega)) _ | with_reducible refine bstep ?_ (by with_reducible assumption) | with_reducible refine Below.drew ?_ | with_reducible refine below_drewN ?_ _)
  obtain ⟨l0, e0⟩ : ∃ z : Int, z = (leaP A B C F : Int) := ⟨_, rfl⟩
  obtain ⟨l1, e1⟩ : ∃ z : Int, z = (fulI A B C F).2.1 := ⟨_, rfl⟩
  obtain ⟨l2, e2⟩ : ∃ z : Int, z = (leaQ A B C F : Int) := ⟨_, rfl⟩
  obtain ⟨lm, em⟩ : ∃ z : Nat, z = leaP A B C F * leaQ A B C F := ⟨_, rfl⟩
  obtain ⟨lG, eG⟩ : ∃ z : Nat → Int, z = (onG A B C F (leaP A B C F) (leaQ A B C F)) := ⟨_, rfl⟩
  have HLE := Lib.hid (fun (X : World) (hX : Below w.heap.size w X) => (show Calls Tryd.prog 42 #[.agg #[.int .i64 f, .int .i64 A, .int .i64 B, .int .i64 C, .slice ao n cap]] X (fun e w' => ∃ v' : Value, e = .returned (.agg #[.int .i64 f, .int .i64 l0, .int .i64 l1, .int .i64 l2, v']) ∧ SRow X.heap.size w'.heap.size 1 v' lm lG w' ∧ Below X.heap.size X w') from by
    obtain ⟨p, q, rfl, rfl, hp⟩ := patB_of k1
    rw [e0, e1, e2, em, eG]
    exact lean_any hp (fulI_at hp.lat).1 (fulI_at hp.lat).2 (R9.out.call hX) (HU.out.call hX)))
  rcases k2 : syS f A B C F a b c d x y with _ | _
  · have k2' : suitB f l0 l1 l2 a b c d x y = false := by rw [e0, e1, e2]; exact k2
    rw [show syA f A B C n F a b c d x y = (none, 2) by simp [syA, k1, k2]]
    clear e0 e1 e2 em eG k2
    go_enter Tryd.func51, Tryd.ntmps51
    go_wp2_with fail
    with_reducible refine (patValid_any f A B C (R9.out.call B0)).mono ?_
    rintro e w1 ⟨rfl, hb1⟩
    rw [k1]
    have P1 := P0.call hb1
    have M1 := M0.call hb1
    have R1 := R0.call hb1
    have B1 := bstep B0 hb1
    clear P0 M0 R0 B0 hb1
    have p1c0 := P1.c0
    have p1c1 := P1.c1
    have p1c2 := P1.c2
    have p1c3 := P1.c3
    have p1c4 := P1.c4
    have p1l := P1.lt
    have m1c0 := M1.c0
    have m1c1 := M1.c1
    have m1c2 := M1.c2
    have m1c3 := M1.c3
    have m1c4 := M1.c4
    have m1c5 := M1.c5
    have m1l := M1.lt
    go_wp2_with fail
    with_reducible refine (HLE.out _ B1).mono ?_
    rintro e w2 ⟨v2, rfl, r2, hb2⟩
    obtain ⟨ao2, cap2, rfl⟩ := r2.slice
    clear p1c0 p1c1 p1c2 p1c3 p1c4 m1c0 m1c1 m1c2 m1c3 m1c4 m1c5 p1l m1l
    have P2 := P1.call hb2
    have M2 := M1.call hb2
    have R2 := R1.call hb2
    have B2 := bstep B1 hb2
    clear P1 M1 R1 B1 hb2
    have r3 := r2.call ((Below.refl _ _).alloc (Nat.le_refl _) (.cells #[.int .i64 f, .int .i64 l0, .int .i64 l1, .int .i64 l2, .slice ao2 lm cap2] 33))
    have P3 := P2.alloc (.cells #[.int .i64 f, .int .i64 l0, .int .i64 l1, .int .i64 l2, .slice ao2 lm cap2] 33)
    have M3 := M2.alloc (.cells #[.int .i64 f, .int .i64 l0, .int .i64 l1, .int .i64 l2, .slice ao2 lm cap2] 33)
    have R3 := R2.alloc (.cells #[.int .i64 f, .int .i64 l0, .int .i64 l1, .int .i64 l2, .slice ao2 lm cap2] 33)
    have B3 : Below w.heap.size w (w2.alloc (.cells #[.int .i64 f, .int .i64 l0, .int .i64 l1, .int .i64 l2, .slice ao2 lm cap2] 33)) := B2.alloc B2.size _
    have Q3 : Bx w2.heap.size [.int .i64 f, .int .i64 l0, .int .i64 l1, .int .i64 l2, .slice ao2 lm cap2] (w2.alloc (.cells #[.int .i64 f, .int .i64 l0, .int .i64 l1, .int .i64 l2, .slice ao2 lm cap2] 33)) := Bx.at _ rfl
    have p2c0 := P2.c0
    have p2c1 := P2.c1
    have p2c2 := P2.c2
    have p2c3 := P2.c3
    have p2c4 := P2.c4
    have p2l := P2.lt
    have m2c0 := M2.c0
    have m2c1 := M2.c1
    have m2c2 := M2.c2
    have m2c3 := M2.c3
    have m2c4 := M2.c4
    have m2c5 := M2.c5
    have m2l := M2.lt
    go_wp2_with fail
    with_reducible refine (implSuit_any f l0 l1 l2 a b c d x y _).mono ?_
    rintro e w4 ⟨rfl, hb4⟩
    rw [k2']
    have HR4 := Lib.hid (r3.call hb4)
    have Q4 := Q3.call hb4
    clear Q3
    have P4 := P3.call hb4
    have M4 := M3.call hb4
    have R4 := R3.call hb4
    have B4 := bstep B3 hb4
    clear P3 M3 R3 B3 hb4
    clear p2c0 p2c1 p2c2 p2c3 p2c4 m2c0 m2c1 m2c2 m2c3 m2c4 m2c5 p2l m2l r2 r3 P2 M2 R2 B2
    have r4c0 := R4.c0
    have r4c1 := R4.c1
    have r4f0 := R4.f0
    have r4f1 := R4.f1
    have r4l := R4.lt
    go_wp2
    refine bodyPost_ret (v := (.tuple #[.agg #[.int .i64 0, .int .i64 0], .bool false, .int .i64 2])) (by simp [results, Tryd.results51, go_sem, *]) rfl ⟨rfl, ?_⟩
    repeat (first | with_reducible exact Below.refl _ _ | with_reducible assumption | with_reducible refine Below.setCell ?_ (by first | omega | (dsimp only; omega) | (simp <;> omega)) _ | with_reducible refine Below.alloc ?_ (by first | omega | (simp <;> omega)) _ | with_reducible refine bstep ?_ (by with_reducible assumption) | with_reducible refine Below.drew ?_ | with_reducible refine below_drewN ?_ _)
  · have k2' : suitB f l0 l1 l2 a b c d x y = true := by rw [e0, e1, e2]; exact k2
    rw [show syA f A B C n F a b c d x y = (syW A B C F a b c d x y, 0) by simp [syA, k1, k2]]
    obtain ⟨ro, hro⟩ : ∃ z, z = syW A B C F a b c d x y := ⟨_, rfl⟩
    rw [← hro]
    have HWJ := Lib.hid (fun (X : World) (v' : Value) (lo' hi' : Nat) (hs : SRow lo' hi' 1 v' lm lG X) => (show Calls Tryd.prog 83 #[.agg #[.int .i64 f, .int .i64 l0, .int .i64 l1, .int .i64 l2, v'], .agg #[.int .i64 a, .int .i64 b, .int .i64 c, .int .i64 d, .int .i64 x, .int .i64 y]] X (fun e w' => e = .returned (.tuple #[.agg #[.int .i64 ((witV ro).1), .int .i64 ((witV ro).2)], .bool ro.isSome]) ∧ Below X.heap.size X w') from by
      obtain ⟨p, q, rfl, rfl, hp⟩ := patB_of k1
      have hs' := hs
      rw [em, eG] at hs'
      have h9 := witness_any (lean_pat hp) hs' a b c d x y (suit_bd k2').1 (suit_bd k2').2
      rw [e0, e1, e2, hro]
      exact h9))
    clear e0 e1 e2 em eG hro k2
    go_enter Tryd.func51, Tryd.ntmps51
    go_wp2_with fail
    with_reducible refine (patValid_any f A B C (R9.out.call B0)).mono ?_
    rintro e w1 ⟨rfl, hb1⟩
    rw [k1]
    have P1 := P0.call hb1
    have M1 := M0.call hb1
    have R1 := R0.call hb1
    have B1 := bstep B0 hb1
    clear P0 M0 R0 B0 hb1
    have p1c0 := P1.c0
    have p1c1 := P1.c1
    have p1c2 := P1.c2
    have p1c3 := P1.c3
    have p1c4 := P1.c4
    have p1l := P1.lt
    have m1c0 := M1.c0
    have m1c1 := M1.c1
    have m1c2 := M1.c2
    have m1c3 := M1.c3
    have m1c4 := M1.c4
    have m1c5 := M1.c5
    have m1l := M1.lt
    go_wp2_with fail
    with_reducible refine (HLE.out _ B1).mono ?_
    rintro e w2 ⟨v2, rfl, r2, hb2⟩
    obtain ⟨ao2, cap2, rfl⟩ := r2.slice
    clear p1c0 p1c1 p1c2 p1c3 p1c4 m1c0 m1c1 m1c2 m1c3 m1c4 m1c5 p1l m1l
    have P2 := P1.call hb2
    have M2 := M1.call hb2
    have R2 := R1.call hb2
    have B2 := bstep B1 hb2
    clear P1 M1 R1 B1 hb2
    have r3 := r2.call ((Below.refl _ _).alloc (Nat.le_refl _) (.cells #[.int .i64 f, .int .i64 l0, .int .i64 l1, .int .i64 l2, .slice ao2 lm cap2] 33))
    have P3 := P2.alloc (.cells #[.int .i64 f, .int .i64 l0, .int .i64 l1, .int .i64 l2, .slice ao2 lm cap2] 33)
    have M3 := M2.alloc (.cells #[.int .i64 f, .int .i64 l0, .int .i64 l1, .int .i64 l2, .slice ao2 lm cap2] 33)
    have R3 := R2.alloc (.cells #[.int .i64 f, .int .i64 l0, .int .i64 l1, .int .i64 l2, .slice ao2 lm cap2] 33)
    have B3 : Below w.heap.size w (w2.alloc (.cells #[.int .i64 f, .int .i64 l0, .int .i64 l1, .int .i64 l2, .slice ao2 lm cap2] 33)) := B2.alloc B2.size _
    have Q3 : Bx w2.heap.size [.int .i64 f, .int .i64 l0, .int .i64 l1, .int .i64 l2, .slice ao2 lm cap2] (w2.alloc (.cells #[.int .i64 f, .int .i64 l0, .int .i64 l1, .int .i64 l2, .slice ao2 lm cap2] 33)) := Bx.at _ rfl
    have p2c0 := P2.c0
    have p2c1 := P2.c1
    have p2c2 := P2.c2
    have p2c3 := P2.c3
    have p2c4 := P2.c4
    have p2l := P2.lt
    have m2c0 := M2.c0
    have m2c1 := M2.c1
    have m2c2 := M2.c2
    have m2c3 := M2.c3
    have m2c4 := M2.c4
    have m2c5 := M2.c5
    have m2l := M2.lt
    go_wp2_with fail
    with_reducible refine (implSuit_any f l0 l1 l2 a b c d x y _).mono ?_
    rintro e w4 ⟨rfl, hb4⟩
    rw [k2']
    have HR4 := Lib.hid (r3.call hb4)
    have Q4 := Q3.call hb4
    clear Q3
    have P4 := P3.call hb4
    have M4 := M3.call hb4
    have R4 := R3.call hb4
    have B4 := bstep B3 hb4
    clear P3 M3 R3 B3 hb4
    clear p2c0 p2c1 p2c2 p2c3 p2c4 m2c0 m2c1 m2c2 m2c3 m2c4 m2c5 p2l m2l r2 r3 P2 M2 R2 B2
    have HWI := Lib.hid (fun (X : World) (hX : Below w4.heap.size w4 X) => HWJ.out X _ _ _ (HR4.out.call hX))
    go_upto_region 1 with fail
    go_cut [8, 9] (fun s8 s9 wx => McV ro w4 s8 s9 wx)
    case first =>
      have q4c0 := Q4.c0
      have q4c1 := Q4.c1
      have q4c2 := Q4.c2
      have q4c3 := Q4.c3
      have q4c4 := Q4.c4
      have q4l := Q4.lt
      have m4c0 := M4.c0
      have m4c1 := M4.c1
      have m4c2 := M4.c2
      have m4c3 := M4.c3
      have m4c4 := M4.c4
      have m4c5 := M4.c5
      have m4l := M4.lt
      go_region_held3 (fun W9 => (W9.cell? ⟨w2.heap.size, 0, none⟩ = some (.int .i64 f) ∧ W9.cell? ⟨w2.heap.size, 1, none⟩ = some (.int .i64 l0) ∧ W9.cell? ⟨w2.heap.size, 2, none⟩ = some (.int .i64 l1) ∧ W9.cell? ⟨w2.heap.size, 3, none⟩ = some (.int .i64 l2) ∧ W9.cell? ⟨w2.heap.size, 4, none⟩ = some (.slice ao2 lm cap2)) ∧ (W9.cell? ⟨(w.heap.size + 1), 0, none⟩ = some (.int .i64 a) ∧ W9.cell? ⟨(w.heap.size + 1), 1, none⟩ = some (.int .i64 b) ∧ W9.cell? ⟨(w.heap.size + 1), 2, none⟩ = some (.int .i64 c) ∧ W9.cell? ⟨(w.heap.size + 1), 3, none⟩ = some (.int .i64 d) ∧ W9.cell? ⟨(w.heap.size + 1), 4, none⟩ = some (.int .i64 x) ∧ W9.cell? ⟨(w.heap.size + 1), 5, none⟩ = some (.int .i64 y))) ((refine And.intro (Bx.cells5 ?_) (Bx.cells6 ?_)) <;> (repeat (first | with_reducible assumption | (with_reducible exact BX.at _ (by first | with_reducible rfl | (simp; done))) | (with_reducible exact Bx.at _ (by first | with_reducible rfl | (simp; done))) | with_reducible refine Bx.drew ?_ | with_reducible refine Bx.alloc ?_ _ | with_reducible refine Bx.call ?_ (by with_reducible assumption) | with_reducible refine BX.drew ?_ | with_reducible refine BX.alloc ?_ _ | with_reducible refine BX.call ?_ (by with_reducible assumption) | with_reducible refine Bx.st2 ?_ | with_reducible refine Bx.far (by first | omega | (dsimp only; omega)) ?_ | with_reducible refine BX.far (by first | omega | (dsimp only; omega)) ?_)))
        (first
          | (go_at_call 84; with_reducible refine (motionOf_any a b c d x y _).mono ?_; rintro e w5 ⟨rfl, hb5⟩; (try ((refine useIt (P := BX w4.heap.size [.int .i64 0, .int .i64 0] w5) ?_ ?_); (repeat (first | with_reducible assumption | (with_reducible exact BX.at _ (by first | with_reducible rfl | (simp; done))) | (with_reducible exact Bx.at _ (by first | with_reducible rfl | (simp; done))) | with_reducible refine Bx.drew ?_ | with_reducible refine Bx.alloc ?_ _ | with_reducible refine Bx.call ?_ (by with_reducible assumption) | with_reducible refine BX.drew ?_ | with_reducible refine BX.alloc ?_ _ | with_reducible refine BX.call ?_ (by with_reducible assumption) | with_reducible refine Bx.st2 ?_ | with_reducible refine Bx.far (by first | omega | (dsimp only; omega)) ?_ | with_reducible refine BX.far (by first | omega | (dsimp only; omega)) ?_)); intro d5_4; have d5_4c0 := d5_4.c0; have d5_4c1 := d5_4.c1; have d5_4f0 := d5_4.f0; have d5_4f1 := d5_4.f1; have d5_4l := d5_4.lt)); have c5 : Below w4.heap.size w4 w5 := (by repeat (first | with_reducible assumption | with_reducible exact Below.refl _ _ | with_reducible refine Below.drew ?_ | with_reducible refine Below.alloc ?_ (by first | omega | (simp <;> omega)) _ | with_reducible refine Below.setCell ?_ (by first | omega | (dsimp only; omega)) _ | with_reducible refine bstep ?_ (by with_reducible assumption))); have y5 := c5.size; have P5 := P4.call c5; have M5 := M4.call c5; have Q5 := Q4.call c5; have l5 := Q5.lt; have ll5 := M5.lt)
          | (go_at_call 83; with_reducible refine (HWI.out _ (by repeat (first | with_reducible assumption | with_reducible exact Below.refl _ _ | with_reducible refine Below.drew ?_ | with_reducible refine Below.alloc ?_ (by first | omega | (simp <;> omega)) _ | with_reducible refine Below.setCell ?_ (by first | omega | (dsimp only; omega)) _ | with_reducible refine bstep ?_ (by with_reducible assumption)))).mono ?_; rintro e w6 ⟨rfl, hb6⟩; (try ((refine useIt (P := BX w4.heap.size [.int .i64 0, .int .i64 0] w6) ?_ ?_); (repeat (first | with_reducible assumption | (with_reducible exact BX.at _ (by first | with_reducible rfl | (simp; done))) | (with_reducible exact Bx.at _ (by first | with_reducible rfl | (simp; done))) | with_reducible refine Bx.drew ?_ | with_reducible refine Bx.alloc ?_ _ | with_reducible refine Bx.call ?_ (by with_reducible assumption) | with_reducible refine BX.drew ?_ | with_reducible refine BX.alloc ?_ _ | with_reducible refine BX.call ?_ (by with_reducible assumption) | with_reducible refine Bx.st2 ?_ | with_reducible refine Bx.far (by first | omega | (dsimp only; omega)) ?_ | with_reducible refine BX.far (by first | omega | (dsimp only; omega)) ?_)); intro d6_4; have d6_4c0 := d6_4.c0; have d6_4c1 := d6_4.c1; have d6_4f0 := d6_4.f0; have d6_4f1 := d6_4.f1; have d6_4l := d6_4.lt)); (try ((refine useIt (P := BX w5.heap.size [.int .i64 0, .int .i64 0] w6) ?_ ?_); (repeat (first | with_reducible assumption | (with_reducible exact BX.at _ (by first | with_reducible rfl | (simp; done))) | (with_reducible exact Bx.at _ (by first | with_reducible rfl | (simp; done))) | with_reducible refine Bx.drew ?_ | with_reducible refine Bx.alloc ?_ _ | with_reducible refine Bx.call ?_ (by with_reducible assumption) | with_reducible refine BX.drew ?_ | with_reducible refine BX.alloc ?_ _ | with_reducible refine BX.call ?_ (by with_reducible assumption) | with_reducible refine Bx.st2 ?_ | with_reducible refine Bx.far (by first | omega | (dsimp only; omega)) ?_ | with_reducible refine BX.far (by first | omega | (dsimp only; omega)) ?_)); intro d6_5; have d6_5c0 := d6_5.c0; have d6_5c1 := d6_5.c1; have d6_5f0 := d6_5.f0; have d6_5f1 := d6_5.f1; have d6_5l := d6_5.lt)); have c6 : Below w4.heap.size w4 w6 := (by repeat (first | with_reducible assumption | with_reducible exact Below.refl _ _ | with_reducible refine Below.drew ?_ | with_reducible refine Below.alloc ?_ (by first | omega | (simp <;> omega)) _ | with_reducible refine Below.setCell ?_ (by first | omega | (dsimp only; omega)) _ | with_reducible refine bstep ?_ (by with_reducible assumption))); have y6 := c6.size; have M6 := M4.call c6; have Q6 := Q4.call c6; have l6 := Q6.lt; have ll6 := M6.lt))
      all_goals
        go_wp2_with fail
        go_meet
        exact ⟨_, rfl, rfl, (by repeat (first | with_reducible assumption | (with_reducible exact BX.at _ (by first | with_reducible rfl | (simp; done))) | (with_reducible exact Bx.at _ (by first | with_reducible rfl | (simp; done))) | with_reducible refine Bx.drew ?_ | with_reducible refine Bx.alloc ?_ _ | with_reducible refine Bx.call ?_ (by with_reducible assumption) | with_reducible refine BX.drew ?_ | with_reducible refine BX.alloc ?_ _ | with_reducible refine BX.call ?_ (by with_reducible assumption) | with_reducible refine Bx.st2 ?_ | with_reducible refine Bx.far (by first | omega | (dsimp only; omega)) ?_ | with_reducible refine BX.far (by first | omega | (dsimp only; omega)) ?_)), (by first | omega | (simp <;> omega)), (by repeat (first | with_reducible assumption | with_reducible exact Below.refl _ _ | with_reducible refine Below.drew ?_ | with_reducible refine Below.alloc ?_ (by first | omega | (simp <;> omega)) _ | with_reducible refine Below.setCell ?_ (by first | omega | (dsimp only; omega)) _ | with_reducible refine bstep ?_ (by with_reducible assumption)))⟩
    case rest =>
      obtain ⟨b7, rfl, rfl, V7, hl7, hb7⟩ := hcut
      obtain ⟨w7, hw7⟩ : ∃ z, z = wc := ⟨_, rfl⟩
      subst hw7
      have R7 := R4.call hb7
      have B7 := bstep B4 hb7
      have hrl := R4.lt
      have n7 : ¬ b7 = w.heap.size + 1 + 1 := by omega
      have n8 : ¬ w.heap.size + 1 + 1 = b7 := by omega
      have v7c0 := V7.c0
      have v7c1 := V7.c1
      have v7l := V7.lt
      have r7c0 := R7.c0
      have r7c1 := R7.c1
      have r7f0 := R7.f0
      have r7f1 := R7.f1
      have r7l := R7.lt
      clear P4 M4 R4 B4 Q4 hb7
      go_wp2
      refine bodyPost_ret (v := (.tuple #[.agg #[.int .i64 ((witV ro).1), .int .i64 ((witV ro).2)], .bool ro.isSome, .int .i64 0])) (by simp [results, Tryd.results51, go_sem, *]) rfl ⟨rfl, ?_⟩
      repeat (first | with_reducible exact Below.refl _ _ | with_reducible assumption | with_reducible refine Below.setCell ?_ (by first | omega | (dsimp only; omega) | (simp <;> omega)) _ | with_reducible refine Below.alloc ?_ (by first | omega | (simp <;> omega)) _ | with_reducible refine bstep ?_ (by with_reducible assumption) | with_reducible refine Below.drew ?_ | with_reducible refine below_drewN ?_ _)
/- IsSymmetry's answer -/
def isB (r : Option V29 × Int) : Bool := r.2 == 0 && !r.1.isSome
set_option maxRecDepth 100000 in
set_option maxHeartbeats 16000000 in
theorem implSym_any {lo hi n : Nat} {v : Value} {F : Nat → Int} {w : World} (f A B C a b c d x y : Int) (hv : SRow lo hi 1 v n F w) (hU : UnitOK w) :
    Calls Tryd.prog 20 #[.agg #[.int .i64 f, .int .i64 A, .int .i64 B, .int .i64 C, v], .agg #[.int .i64 a, .int .i64 b, .int .i64 c, .int .i64 d, .int .i64 x, .int .i64 y]] w fun e w' => e = .returned (.tuple #[.bool (isB (syA f A B C n F a b c d x y)), .int .i64 (syA f A B C n F a b c d x y).2]) ∧ Below w.heap.size w w' := by
  have R9 := Lib.hid hv
  have HU := Lib.hid hU
  obtain ⟨ao, cap, rfl⟩ := hv.slice
  clear hv hU
  have P0 : Bx w.heap.size [.int .i64 f, .int .i64 A, .int .i64 B, .int .i64 C, .slice ao n cap] ((w.alloc (.cells #[.int .i64 f, .int .i64 A, .int .i64 B, .int .i64 C, .slice ao n cap] 33)).alloc (.cells #[.int .i64 a, .int .i64 b, .int .i64 c, .int .i64 d, .int .i64 x, .int .i64 y] 51)) := (Bx.at _ rfl).alloc _
  have M0 : Bx (w.heap.size + 1) [.int .i64 a, .int .i64 b, .int .i64 c, .int .i64 d, .int .i64 x, .int .i64 y] ((w.alloc (.cells #[.int .i64 f, .int .i64 A, .int .i64 B, .int .i64 C, .slice ao n cap] 33)).alloc (.cells #[.int .i64 a, .int .i64 b, .int .i64 c, .int .i64 d, .int .i64 x, .int .i64 y] 51)) := Bx.at _ (by simp)
  have B0 : Below w.heap.size w ((w.alloc (.cells #[.int .i64 f, .int .i64 A, .int .i64 B, .int .i64 C, .slice ao n cap] 33)).alloc (.cells #[.int .i64 a, .int .i64 b, .int .i64 c, .int .i64 d, .int .i64 x, .int .i64 y] 51)) := by repeat (first | with_reducible exact Below.refl _ _ | with_reducible assumption | with_reducible refine Below.setCell ?_ (by first | omega | (dsimp only; omega) | (simp <;> omega)) _ | with_reducible refine Below.alloc ?_ (by first | omega | (simp <;> omega)) _ | with_reducible refine bstep ?_ (by with_reducible assumption) | with_reducible refine Below.drew ?_ | with_reducible refine below_drewN ?_ _)
  obtain ⟨ro, rc, hr⟩ : ∃ ro rc, syA f A B C n F a b c d x y = (ro, rc) := ⟨_, _, rfl⟩
  have HR := Lib.hid hr
  rw [hr]
  clear hr
  by_cases h0 : rc = 0
  · subst h0
    rcases ro with _ | ⟨r0, r1⟩
    · go_enter Tryd.func20, Tryd.ntmps20
      go_wp2_with fail
      with_reducible refine (search_any f A B C a b c d x y (R9.out.call B0) (HU.out.call B0)).mono ?_
      rintro e w1 ⟨rfl, hb1⟩
      rw [HR.out]
      have B1 := bstep B0 hb1
      have hb2 := B1.size
      clear P0 M0 B0 hb1
      go_wp2
      go_ret2
      exact ⟨by rfl, by repeat (first | with_reducible exact Below.refl _ _ | with_reducible assumption | with_reducible refine Below.setCell ?_ (by first | omega | (dsimp only; omega) | (simp <;> omega)) _ | with_reducible refine Below.alloc ?_ (by first | omega | (simp <;> omega)) _ | with_reducible refine bstep ?_ (by with_reducible assumption) | with_reducible refine Below.drew ?_ | with_reducible refine below_drewN ?_ _)⟩
    · go_enter Tryd.func20, Tryd.ntmps20
      go_wp2_with fail
      with_reducible refine (search_any f A B C a b c d x y (R9.out.call B0) (HU.out.call B0)).mono ?_
      rintro e w1 ⟨rfl, hb1⟩
      rw [HR.out]
      have B1 := bstep B0 hb1
      have hb2 := B1.size
      clear P0 M0 B0 hb1
      go_wp2
      go_ret2
      exact ⟨by rfl, by repeat (first | with_reducible exact Below.refl _ _ | with_reducible assumption | with_reducible refine Below.setCell ?_ (by first | omega | (dsimp only; omega) | (simp <;> omega)) _ | with_reducible refine Below.alloc ?_ (by first | omega | (simp <;> omega)) _ | with_reducible refine bstep ?_ (by with_reducible assumption) | with_reducible refine Below.drew ?_ | with_reducible refine below_drewN ?_ _)⟩
  · have h9 : (rc == 0) = false := by simpa using h0
    have h8 : isB (ro, rc) = false := by simp [isB, h9]
    rw [h8]
    clear h8
    go_enter Tryd.func20, Tryd.ntmps20
    go_wp2_with fail
    with_reducible refine (search_any f A B C a b c d x y (R9.out.call B0) (HU.out.call B0)).mono ?_
    rintro e w1 ⟨rfl, hb1⟩
    rw [HR.out]
    have B1 := bstep B0 hb1
    have hb2 := B1.size
    clear P0 M0 B0 hb1
    go_wp2
    go_ret2
    exact ⟨by rfl, by repeat (first | with_reducible exact Below.refl _ _ | with_reducible assumption | with_reducible refine Below.setCell ?_ (by first | omega | (dsimp only; omega) | (simp <;> omega)) _ | with_reducible refine Below.alloc ?_ (by first | omega | (simp <;> omega)) _ | with_reducible refine bstep ?_ (by with_reducible assumption) | with_reducible refine Below.drew ?_ | with_reducible refine below_drewN ?_ _)⟩
/- WitnessAgainst's answer -/
def waA (r : Option V29 × Int) : V29 × Int := if r.2 = 0 ∧ r.1.isSome = false then ((0, 0), 4) else (witV r.1, r.2)
set_option maxRecDepth 100000 in
set_option maxHeartbeats 16000000 in
theorem implWit_any {lo hi n : Nat} {v : Value} {F : Nat → Int} {w : World} (f A B C a b c d x y : Int) (hv : SRow lo hi 1 v n F w) (hU : UnitOK w) :
    Calls Tryd.prog 22 #[.agg #[.int .i64 f, .int .i64 A, .int .i64 B, .int .i64 C, v], .agg #[.int .i64 a, .int .i64 b, .int .i64 c, .int .i64 d, .int .i64 x, .int .i64 y]] w fun e w' => e = .returned (.tuple #[.agg #[.int .i64 ((waA (syA f A B C n F a b c d x y)).1.1), .int .i64 ((waA (syA f A B C n F a b c d x y)).1.2)], .int .i64 (waA (syA f A B C n F a b c d x y)).2]) ∧ Below w.heap.size w w' := by
  have R9 := Lib.hid hv
  have HU := Lib.hid hU
  obtain ⟨ao, cap, rfl⟩ := hv.slice
  clear hv hU
  have P0 : Bx w.heap.size [.int .i64 f, .int .i64 A, .int .i64 B, .int .i64 C, .slice ao n cap] (((w.alloc (.cells #[.int .i64 f, .int .i64 A, .int .i64 B, .int .i64 C, .slice ao n cap] 33)).alloc (.cells #[.int .i64 a, .int .i64 b, .int .i64 c, .int .i64 d, .int .i64 x, .int .i64 y] 51)).alloc (.cells #[.int .i64 0, .int .i64 0] 49)) := ((Bx.at _ rfl).alloc _).alloc _
  have M0 : Bx (w.heap.size + 1) [.int .i64 a, .int .i64 b, .int .i64 c, .int .i64 d, .int .i64 x, .int .i64 y] (((w.alloc (.cells #[.int .i64 f, .int .i64 A, .int .i64 B, .int .i64 C, .slice ao n cap] 33)).alloc (.cells #[.int .i64 a, .int .i64 b, .int .i64 c, .int .i64 d, .int .i64 x, .int .i64 y] 51)).alloc (.cells #[.int .i64 0, .int .i64 0] 49)) := (Bx.at _ (by simp)).alloc _
  have R0 : BX (w.heap.size + 1 + 1) [.int .i64 0, .int .i64 0] (((w.alloc (.cells #[.int .i64 f, .int .i64 A, .int .i64 B, .int .i64 C, .slice ao n cap] 33)).alloc (.cells #[.int .i64 a, .int .i64 b, .int .i64 c, .int .i64 d, .int .i64 x, .int .i64 y] 51)).alloc (.cells #[.int .i64 0, .int .i64 0] 49)) := BX.at _ (by simp)
  have B0 : Below w.heap.size w (((w.alloc (.cells #[.int .i64 f, .int .i64 A, .int .i64 B, .int .i64 C, .slice ao n cap] 33)).alloc (.cells #[.int .i64 a, .int .i64 b, .int .i64 c, .int .i64 d, .int .i64 x, .int .i64 y] 51)).alloc (.cells #[.int .i64 0, .int .i64 0] 49)) := by repeat (first | with_reducible exact Below.refl _ _ | with_reducible assumption | with_reducible refine Below.setCell ?_ (by first | omega | (dsimp only; omega) | (simp <;> omega)) _ | with_reducible refine Below.alloc ?_ (by first | omega | (simp <;> omega)) _ | with_reducible refine bstep ?_ (by with_reducible assumption) | with_reducible refine Below.drew ?_ | with_reducible refine below_drewN ?_ _)
  obtain ⟨ro, rc, hr⟩ : ∃ ro rc, syA f A B C n F a b c d x y = (ro, rc) := ⟨_, _, rfl⟩
  have HR := Lib.hid hr
  rw [hr]
  clear hr
  by_cases h0 : rc = 0
  · subst h0
    rcases ro with _ | ⟨r0, r1⟩
    · go_enter Tryd.func22, Tryd.ntmps22
      go_wp2_with fail
      with_reducible refine (search_any f A B C a b c d x y (R9.out.call B0) (HU.out.call B0)).mono ?_
      rintro e w1 ⟨rfl, hb1⟩
      rw [HR.out]
      have B1 := bstep B0 hb1
      have hb2 := B1.size
      have R1 := R0.call hb1
      clear P0 M0 B0 R0 hb1
      have r1c0 := R1.c0
      have r1c1 := R1.c1
      have r1f0 := R1.f0
      have r1f1 := R1.f1
      have r1l := R1.lt
      have nr : ¬ w1.heap.size = w.heap.size + 1 + 1 := by omega
      have nr2 : ¬ w.heap.size + 1 + 1 = w1.heap.size := by omega
      go_wp2
      refine bodyPost_ret (v := .tuple #[.agg #[.int .i64 0, .int .i64 0], .int .i64 4]) (by simp [results, Tryd.results22, go_sem, witV, *]) rfl ?_
      exact ⟨by rfl, by repeat (first | with_reducible exact Below.refl _ _ | with_reducible assumption | with_reducible refine Below.setCell ?_ (by first | omega | (dsimp only; omega) | (simp <;> omega)) _ | with_reducible refine Below.alloc ?_ (by first | omega | (simp <;> omega)) _ | with_reducible refine bstep ?_ (by with_reducible assumption) | with_reducible refine Below.drew ?_ | with_reducible refine below_drewN ?_ _)⟩
    · go_enter Tryd.func22, Tryd.ntmps22
      go_wp2_with fail
      with_reducible refine (search_any f A B C a b c d x y (R9.out.call B0) (HU.out.call B0)).mono ?_
      rintro e w1 ⟨rfl, hb1⟩
      rw [HR.out]
      have B1 := bstep B0 hb1
      have hb2 := B1.size
      have R1 := R0.call hb1
      clear P0 M0 B0 R0 hb1
      have r1c0 := R1.c0
      have r1c1 := R1.c1
      have r1f0 := R1.f0
      have r1f1 := R1.f1
      have r1l := R1.lt
      have nr : ¬ w1.heap.size = w.heap.size + 1 + 1 := by omega
      have nr2 : ¬ w.heap.size + 1 + 1 = w1.heap.size := by omega
      go_wp2
      refine bodyPost_ret (v := .tuple #[.agg #[.int .i64 r0, .int .i64 r1], .int .i64 0]) (by simp [results, Tryd.results22, go_sem, witV, *]) rfl ?_
      exact ⟨by rfl, by repeat (first | with_reducible exact Below.refl _ _ | with_reducible assumption | with_reducible refine Below.setCell ?_ (by first | omega | (dsimp only; omega) | (simp <;> omega)) _ | with_reducible refine Below.alloc ?_ (by first | omega | (simp <;> omega)) _ | with_reducible refine bstep ?_ (by with_reducible assumption) | with_reducible refine Below.drew ?_ | with_reducible refine below_drewN ?_ _)⟩
  · have h9 : (rc == 0) = false := by simpa using h0
    have h8 : waA (ro, rc) = (witV ro, rc) := by simp [waA, h0]
    rw [h8]
    clear h8
    obtain ⟨r0, r1, hrr⟩ : ∃ r0 r1, witV ro = (r0, r1) := ⟨_, _, rfl⟩
    have HRR := Lib.hid hrr
    rw [hrr]
    clear hrr
    go_enter Tryd.func22, Tryd.ntmps22
    go_wp2_with fail
    with_reducible refine (search_any f A B C a b c d x y (R9.out.call B0) (HU.out.call B0)).mono ?_
    rintro e w1 ⟨rfl, hb1⟩
    rw [HR.out]; dsimp only; rw [HRR.out]
    have B1 := bstep B0 hb1
    have hb2 := B1.size
    have R1 := R0.call hb1
    clear P0 M0 B0 R0 hb1
    have r1c0 := R1.c0
    have r1c1 := R1.c1
    have r1f0 := R1.f0
    have r1f1 := R1.f1
    have r1l := R1.lt
    have nr : ¬ w1.heap.size = w.heap.size + 1 + 1 := by omega
    have nr2 : ¬ w.heap.size + 1 + 1 = w1.heap.size := by omega
    go_wp2
    refine bodyPost_ret (v := .tuple #[.agg #[.int .i64 r0, .int .i64 r1], .int .i64 rc]) (by simp [results, Tryd.results22, go_sem, witV, *]) rfl ?_
    exact ⟨by rfl, by repeat (first | with_reducible exact Below.refl _ _ | with_reducible assumption | with_reducible refine Below.setCell ?_ (by first | omega | (dsimp only; omega) | (simp <;> omega)) _ | with_reducible refine Below.alloc ?_ (by first | omega | (simp <;> omega)) _ | with_reducible refine bstep ?_ (by with_reducible assumption) | with_reducible refine Below.drew ?_ | with_reducible refine below_drewN ?_ _)⟩
end Go.Proofs.YtkfdaepnjdnnmaaDoor
