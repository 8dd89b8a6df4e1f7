/-
  The walk of the exact law of LeanPattern: the law returns true and writes nothing that was there. Conditions: the list's length is one that a slice can have; the program's variable unitMatrix holds the unit.
-/
import Derived.Test.YtpejihckepaojaaDoorPtY
import Derived.Test.YtpejihckepaojaaDoorPtW
namespace Go.Proofs.YtpejihckepaojaaDoor
open Go.RowKit
set_option linter.unusedSimpArgs false
set_option linter.unusedVariables false

set_option maxRecDepth 100000 in
set_option maxHeartbeats 16000000 in
theorem walkLean (f A B C : Int) (v : Value) (n : Nat) (F : Nat → Int) (w : World) (hA : ARw v n F w) (hm : n ≤ 9223372036854775807) (hU : UnitOK w) :
    Calls Tryd.prog 3 #[.agg #[.int .i64 f, .int .i64 A, .int .i64 B, .int .i64 C, v]] w fun e w' => e = .returned (.bool true) ∧ Below w.heap.size w w' := by
  have HA := Lib.hid hA
  obtain ⟨ao, cap, rfl, _⟩ := hA
  have HU := Lib.hid hU
  clear hU
  by_cases hbig : n ≤ 1048576
  · have hz : (if (n : Int) ≤ 1048576 then 1048576 - (n : Int) else -1) = 1048576 - (n : Int) := if_pos (by omega)
    have HN := Lib.hid hbig
    have hn1 : ¬ (1048576 - (n : Int) < 0) := by omega
    clear hbig
    go_enter Tryd.func3, Tryd.ntmps3
    go_wp2_with fail
    with_reducible refine (szPat_any f A B C ao n cap 1048576 _ hm (by omega)).mono ?_
    rintro e w1 ⟨rfl, hb1⟩
    rw [hz]
    have K1 : Bx (w.heap.size) [.int .i64 f, .int .i64 A, .int .i64 B, .int .i64 C, .slice ao n cap] w1 := Bx.call ((Bx.at _ rfl)) hb1
    have B1 : Below w.heap.size w w1 := bstep (by repeat (first | with_reducible assumption | with_reducible exact Below.refl _ _ | with_reducible refine Below.drew ?_ | with_reducible refine Below.alloc ?_ (by first | omega | (simp <;> omega)) _ | with_reducible refine Below.setCell ?_ (by first | omega | (dsimp only; omega)) _ | with_reducible refine bstep ?_ (by with_reducible assumption))) hb1
    have A1 := Lib.hid (HA.out.call B1)
    have z1 : w.heap.size + 0 < w1.heap.size := by have := hb1.size; simp at this; omega
    clear hb1
    have K1c0 := K1.c0
    have K1c1 := K1.c1
    have K1c2 := K1.c2
    have K1c3 := K1.c3
    have K1c4 := K1.c4
    have K1l := K1.lt
    go_wp2_with fail
    with_reducible refine (toPat_any f A B C A1.out HN.out).mono ?_
    rintro e w2 ⟨v2, rfl, r2, hb2⟩
    have K2 : Bx (w.heap.size) [.int .i64 f, .int .i64 A, .int .i64 B, .int .i64 C, .slice ao n cap] w2 := Bx.call K1 hb2
    have B2 : Below w.heap.size w w2 := bstep B1 hb2
    have A2 := Lib.hid (HA.out.call B2)
    have z2 : w1.heap.size ≤ w2.heap.size := hb2.size
    clear K1 B1 A1 K1c0 K1c1 K1c2 K1c3 K1c4 K1l hb2
    obtain ⟨ao2, cap2, rfl⟩ := r2.slice
    have q2 := Lib.hid r2
    clear r2
    go_wp2_with fail
    with_reducible refine (specLean_any f A B C q2.out).mono ?_
    rintro e w3 hh
    unfold PAns at hh
    obtain ⟨pf3, pa3, pb3, pc3, m3, G3, c3, v3, hr3, rfl, rq3, hb3⟩ := hh
    obtain ⟨ao3, cap3, rfl⟩ := rq3.slice
    have HP := Lib.hid hr3
    clear hr3
    have K3 : Bx (w.heap.size) [.int .i64 f, .int .i64 A, .int .i64 B, .int .i64 C, .slice ao n cap] w3 := Bx.call K2 hb3
    have B3 : Below w.heap.size w w3 := bstep B2 hb3
    have A3 := Lib.hid (HA.out.call B3)
    have z3 : w2.heap.size ≤ w3.heap.size := hb3.size
    have q3 := Lib.hid (SRow.call q2.out hb3)
    clear K2 B2 A2 q2 hb3
    have y3 := Lib.hid rq3
    clear rq3
    clear q3
    have K3c0 := K3.c0
    have K3c1 := K3.c1
    have K3c2 := K3.c2
    have K3c3 := K3.c3
    have K3c4 := K3.c4
    have K3l := K3.lt
    go_wp2_with fail
    have K4 : Bx (w.heap.size) [.int .i64 f, .int .i64 A, .int .i64 B, .int .i64 C, .slice ao n cap] (w3.alloc (.cells #[.int .i64 pf3, .int .i64 pa3, .int .i64 pb3, .int .i64 pc3, .slice ao3 m3 cap3] 30)) := Bx.alloc K3 _
    have Y4 : Bx (w3.heap.size) [.int .i64 pf3, .int .i64 pa3, .int .i64 pb3, .int .i64 pc3, .slice ao3 m3 cap3] (w3.alloc (.cells #[.int .i64 pf3, .int .i64 pa3, .int .i64 pb3, .int .i64 pc3, .slice ao3 m3 cap3] 30)) := Bx.at _ rfl
    have B4 : Below w.heap.size w (w3.alloc (.cells #[.int .i64 pf3, .int .i64 pa3, .int .i64 pb3, .int .i64 pc3, .slice ao3 m3 cap3] 30)) := bstep B3 (show Below w3.heap.size w3 (w3.alloc (.cells #[.int .i64 pf3, .int .i64 pa3, .int .i64 pb3, .int .i64 pc3, .slice ao3 m3 cap3] 30)) from (Below.refl _ _).alloc (Nat.le_refl _) _)
    have z4 : w3.heap.size + 1 ≤ (w3.alloc (.cells #[.int .i64 pf3, .int .i64 pa3, .int .i64 pb3, .int .i64 pc3, .slice ao3 m3 cap3] 30)).heap.size := by simp
    have y4 := Lib.hid (SRow.call y3.out (show Below w3.heap.size w3 (w3.alloc (.cells #[.int .i64 pf3, .int .i64 pa3, .int .i64 pb3, .int .i64 pc3, .slice ao3 m3 cap3] 30)) from (Below.refl _ _).alloc (Nat.le_refl _) _))
    generalize hW4 : w3.alloc (.cells #[.int .i64 pf3, .int .i64 pa3, .int .i64 pb3, .int .i64 pc3, .slice ao3 m3 cap3] 30) = w4 at *
    clear hW4
    have A4 := Lib.hid (HA.out.call B4)
    clear K3 B3 A3 y3 K3c0 K3c1 K3c2 K3c3 K3c4 K3l
    with_reducible refine (toPat_any f A B C A4.out HN.out).mono ?_
    rintro e w5 ⟨v5, rfl, r5, hb5⟩
    have K5 : Bx (w.heap.size) [.int .i64 f, .int .i64 A, .int .i64 B, .int .i64 C, .slice ao n cap] w5 := Bx.call K4 hb5
    have Y5 : Bx (w3.heap.size) [.int .i64 pf3, .int .i64 pa3, .int .i64 pb3, .int .i64 pc3, .slice ao3 m3 cap3] w5 := Bx.call Y4 hb5
    have B5 : Below w.heap.size w w5 := bstep B4 hb5
    have A5 := Lib.hid (HA.out.call B5)
    have z5 : w4.heap.size ≤ w5.heap.size := hb5.size
    have y5 := Lib.hid (SRow.call y4.out hb5)
    clear K4 Y4 B4 A4 y4 hb5
    obtain ⟨ao5, cap5, rfl⟩ := r5.slice
    have x5 := Lib.hid r5
    clear r5
    go_wp2_with fail
    have K6 : Bx (w.heap.size) [.int .i64 f, .int .i64 A, .int .i64 B, .int .i64 C, .slice ao n cap] (w5.alloc (.cells #[.int .i64 f, .int .i64 A, .int .i64 B, .int .i64 C, .slice ao5 n cap5] 30)) := Bx.alloc K5 _
    have Y6 : Bx (w3.heap.size) [.int .i64 pf3, .int .i64 pa3, .int .i64 pb3, .int .i64 pc3, .slice ao3 m3 cap3] (w5.alloc (.cells #[.int .i64 f, .int .i64 A, .int .i64 B, .int .i64 C, .slice ao5 n cap5] 30)) := Bx.alloc Y5 _
    have X6 : Bx (w5.heap.size) [.int .i64 f, .int .i64 A, .int .i64 B, .int .i64 C, .slice ao5 n cap5] (w5.alloc (.cells #[.int .i64 f, .int .i64 A, .int .i64 B, .int .i64 C, .slice ao5 n cap5] 30)) := Bx.at _ rfl
    have B6 : Below w.heap.size w (w5.alloc (.cells #[.int .i64 f, .int .i64 A, .int .i64 B, .int .i64 C, .slice ao5 n cap5] 30)) := bstep B5 (show Below w5.heap.size w5 (w5.alloc (.cells #[.int .i64 f, .int .i64 A, .int .i64 B, .int .i64 C, .slice ao5 n cap5] 30)) from (Below.refl _ _).alloc (Nat.le_refl _) _)
    have z6 : w5.heap.size + 1 ≤ (w5.alloc (.cells #[.int .i64 f, .int .i64 A, .int .i64 B, .int .i64 C, .slice ao5 n cap5] 30)).heap.size := by simp
    have y6 := Lib.hid (SRow.call y5.out (show Below w5.heap.size w5 (w5.alloc (.cells #[.int .i64 f, .int .i64 A, .int .i64 B, .int .i64 C, .slice ao5 n cap5] 30)) from (Below.refl _ _).alloc (Nat.le_refl _) _))
    have x6 := Lib.hid (SRow.call x5.out (show Below w5.heap.size w5 (w5.alloc (.cells #[.int .i64 f, .int .i64 A, .int .i64 B, .int .i64 C, .slice ao5 n cap5] 30)) from (Below.refl _ _).alloc (Nat.le_refl _) _))
    generalize hW6 : w5.alloc (.cells #[.int .i64 f, .int .i64 A, .int .i64 B, .int .i64 C, .slice ao5 n cap5] 30) = w6 at *
    clear hW6
    have A6 := Lib.hid (HA.out.call B6)
    clear K5 Y5 B5 A5 y5 x5
    with_reducible refine (implLean_any f A B C x6.out (HU.out.call B6)).mono ?_
    rintro e w7 hh
    unfold PAns at hh
    obtain ⟨pf7, pa7, pb7, pc7, m7, G7, c7, v7, hr7, rfl, rq7, hb7⟩ := hh
    obtain ⟨ao7, cap7, rfl⟩ := rq7.slice
    obtain ⟨rfl, rfl, rfl, rfl, rfl, rfl, rfl⟩ : pf3 = pf7 ∧ pa3 = pa7 ∧ pb3 = pb7 ∧ pc3 = pc7 ∧ m3 = m7 ∧ G3 = G7 ∧ c3 = c7 := by have h9 := HP.out.symm.trans hr7; simpa using h9
    clear hr7
    have K7 : Bx (w.heap.size) [.int .i64 f, .int .i64 A, .int .i64 B, .int .i64 C, .slice ao n cap] w7 := Bx.call K6 hb7
    have Y7 : Bx (w3.heap.size) [.int .i64 pf3, .int .i64 pa3, .int .i64 pb3, .int .i64 pc3, .slice ao3 m3 cap3] w7 := Bx.call Y6 hb7
    have X7 : Bx (w5.heap.size) [.int .i64 f, .int .i64 A, .int .i64 B, .int .i64 C, .slice ao5 n cap5] w7 := Bx.call X6 hb7
    have B7 : Below w.heap.size w w7 := bstep B6 hb7
    have A7 := Lib.hid (HA.out.call B7)
    have z7 : w6.heap.size ≤ w7.heap.size := hb7.size
    have y7 := Lib.hid (SRow.call y6.out hb7)
    have x7 := Lib.hid (SRow.call x6.out hb7)
    clear K6 Y6 X6 B6 A6 y6 x6 hb7
    have g7 := Lib.hid rq7
    clear rq7
    have Y7c0 := Y7.c0
    have Y7c1 := Y7.c1
    have Y7c2 := Y7.c2
    have Y7c3 := Y7.c3
    have Y7c4 := Y7.c4
    have Y7l := Y7.lt
    go_wp2_with fail
    have K8 : Bx (w.heap.size) [.int .i64 f, .int .i64 A, .int .i64 B, .int .i64 C, .slice ao n cap] (w7.alloc (.cells #[.int .i64 pf3, .int .i64 pa3, .int .i64 pb3, .int .i64 pc3, .slice ao7 m3 cap7] 30)) := Bx.alloc K7 _
    have Y8 : Bx (w3.heap.size) [.int .i64 pf3, .int .i64 pa3, .int .i64 pb3, .int .i64 pc3, .slice ao3 m3 cap3] (w7.alloc (.cells #[.int .i64 pf3, .int .i64 pa3, .int .i64 pb3, .int .i64 pc3, .slice ao7 m3 cap7] 30)) := Bx.alloc Y7 _
    have X8 : Bx (w5.heap.size) [.int .i64 f, .int .i64 A, .int .i64 B, .int .i64 C, .slice ao5 n cap5] (w7.alloc (.cells #[.int .i64 pf3, .int .i64 pa3, .int .i64 pb3, .int .i64 pc3, .slice ao7 m3 cap7] 30)) := Bx.alloc X7 _
    have G8 : Bx (w7.heap.size) [.int .i64 pf3, .int .i64 pa3, .int .i64 pb3, .int .i64 pc3, .slice ao7 m3 cap7] (w7.alloc (.cells #[.int .i64 pf3, .int .i64 pa3, .int .i64 pb3, .int .i64 pc3, .slice ao7 m3 cap7] 30)) := Bx.at _ rfl
    have B8 : Below w.heap.size w (w7.alloc (.cells #[.int .i64 pf3, .int .i64 pa3, .int .i64 pb3, .int .i64 pc3, .slice ao7 m3 cap7] 30)) := bstep B7 (show Below w7.heap.size w7 (w7.alloc (.cells #[.int .i64 pf3, .int .i64 pa3, .int .i64 pb3, .int .i64 pc3, .slice ao7 m3 cap7] 30)) from (Below.refl _ _).alloc (Nat.le_refl _) _)
    have z8 : w7.heap.size + 1 ≤ (w7.alloc (.cells #[.int .i64 pf3, .int .i64 pa3, .int .i64 pb3, .int .i64 pc3, .slice ao7 m3 cap7] 30)).heap.size := by simp
    have y8 := Lib.hid (SRow.call y7.out (show Below w7.heap.size w7 (w7.alloc (.cells #[.int .i64 pf3, .int .i64 pa3, .int .i64 pb3, .int .i64 pc3, .slice ao7 m3 cap7] 30)) from (Below.refl _ _).alloc (Nat.le_refl _) _))
    have x8 := Lib.hid (SRow.call x7.out (show Below w7.heap.size w7 (w7.alloc (.cells #[.int .i64 pf3, .int .i64 pa3, .int .i64 pb3, .int .i64 pc3, .slice ao7 m3 cap7] 30)) from (Below.refl _ _).alloc (Nat.le_refl _) _))
    have g8 := Lib.hid (SRow.call g7.out (show Below w7.heap.size w7 (w7.alloc (.cells #[.int .i64 pf3, .int .i64 pa3, .int .i64 pb3, .int .i64 pc3, .slice ao7 m3 cap7] 30)) from (Below.refl _ _).alloc (Nat.le_refl _) _))
    generalize hW8 : w7.alloc (.cells #[.int .i64 pf3, .int .i64 pa3, .int .i64 pb3, .int .i64 pc3, .slice ao7 m3 cap7] 30) = w8 at *
    clear hW8
    have A8 := Lib.hid (HA.out.call B8)
    clear K7 Y7 X7 B7 A7 y7 x7 g7 Y7c0 Y7c1 Y7c2 Y7c3 Y7c4 Y7l
    with_reducible refine (eqPat_any pf3 pa3 pb3 pc3 g8.out y8.out).mono ?_
    rintro e w9 ⟨rfl, hb9⟩
    have K9 : Bx (w.heap.size) [.int .i64 f, .int .i64 A, .int .i64 B, .int .i64 C, .slice ao n cap] w9 := Bx.call K8 hb9
    have Y9 : Bx (w3.heap.size) [.int .i64 pf3, .int .i64 pa3, .int .i64 pb3, .int .i64 pc3, .slice ao3 m3 cap3] w9 := Bx.call Y8 hb9
    have X9 : Bx (w5.heap.size) [.int .i64 f, .int .i64 A, .int .i64 B, .int .i64 C, .slice ao5 n cap5] w9 := Bx.call X8 hb9
    have G9 : Bx (w7.heap.size) [.int .i64 pf3, .int .i64 pa3, .int .i64 pb3, .int .i64 pc3, .slice ao7 m3 cap7] w9 := Bx.call G8 hb9
    have B9 : Below w.heap.size w w9 := bstep B8 hb9
    have A9 := Lib.hid (HA.out.call B9)
    have z9 : w8.heap.size ≤ w9.heap.size := hb9.size
    have y9 := Lib.hid (SRow.call y8.out hb9)
    have x9 := Lib.hid (SRow.call x8.out hb9)
    have g9 := Lib.hid (SRow.call g8.out hb9)
    clear K8 Y8 X8 G8 B8 A8 y8 x8 g8 hb9
    have K9c0 := K9.c0
    have K9c1 := K9.c1
    have K9c2 := K9.c2
    have K9c3 := K9.c3
    have K9c4 := K9.c4
    have K9l := K9.lt
    have X9c0 := X9.c0
    have X9c1 := X9.c1
    have X9c2 := X9.c2
    have X9c3 := X9.c3
    have X9c4 := X9.c4
    have X9l := X9.lt
    go_wp2_with fail
    go_region_held3 (fun W9 => (W9.cell? ⟨w.heap.size, 0, none⟩ = some (.int .i64 f) ∧ W9.cell? ⟨w.heap.size, 1, none⟩ = some (.int .i64 A) ∧ W9.cell? ⟨w.heap.size, 2, none⟩ = some (.int .i64 B) ∧ W9.cell? ⟨w.heap.size, 3, none⟩ = some (.int .i64 C) ∧ W9.cell? ⟨w.heap.size, 4, none⟩ = some (.slice ao n cap)) ∧ (W9.cell? ⟨w5.heap.size, 0, none⟩ = some (.int .i64 f) ∧ W9.cell? ⟨w5.heap.size, 1, none⟩ = some (.int .i64 A) ∧ W9.cell? ⟨w5.heap.size, 2, none⟩ = some (.int .i64 B) ∧ W9.cell? ⟨w5.heap.size, 3, none⟩ = some (.int .i64 C) ∧ W9.cell? ⟨w5.heap.size, 4, none⟩ = some (.slice ao5 n cap5))) ((refine (And.intro (Bx.cells5 ?_) (Bx.cells5 ?_))) <;> (repeat (first | with_reducible assumption | with_reducible refine Bx.drew ?_ | with_reducible refine Bx.alloc ?_ _ | with_reducible refine Bx.call ?_ (by with_reducible assumption))))
      (first
        | (go_at_call 10; with_reducible refine (toPat_any f A B C (A9.out.call (by repeat (first | with_reducible assumption | with_reducible exact Below.refl _ _ | with_reducible refine Below.drew ?_ | with_reducible refine Below.alloc ?_ (by first | omega | (simp <;> omega)) _ | with_reducible refine Below.setCell ?_ (by first | omega | (dsimp only; omega)) _ | with_reducible refine bstep ?_ (by with_reducible assumption)))) HN.out).mono ?_; rintro e u10p ⟨v10p, rfl, r10p, hb10p⟩; obtain ⟨ao10p, cap10p, rfl⟩ := r10p.slice; have c10p : Below w9.heap.size w9 u10p := (by repeat (first | with_reducible assumption | with_reducible exact Below.refl _ _ | with_reducible refine Below.drew ?_ | with_reducible refine Below.alloc ?_ (by first | omega | (simp <;> omega)) _ | with_reducible refine Below.setCell ?_ (by first | omega | (dsimp only; omega)) _ | with_reducible refine bstep ?_ (by with_reducible assumption))))
        | (go_at_call 12; with_reducible refine (eqPat_any f A B C (SRow.call x9.out (by repeat (first | with_reducible assumption | with_reducible exact Below.refl _ _ | with_reducible refine Below.drew ?_ | with_reducible refine Below.alloc ?_ (by first | omega | (simp <;> omega)) _ | with_reducible refine Below.setCell ?_ (by first | omega | (dsimp only; omega)) _ | with_reducible refine bstep ?_ (by with_reducible assumption)))) (SRow.call r10p (by repeat (first | with_reducible assumption | with_reducible exact Below.refl _ _ | with_reducible refine Below.drew ?_ | with_reducible refine Below.alloc ?_ (by first | omega | (simp <;> omega)) _ | with_reducible refine Below.setCell ?_ (by first | omega | (dsimp only; omega)) _ | with_reducible refine bstep ?_ (by with_reducible assumption))))).mono ?_; rintro e u10q ⟨rfl, hb10q⟩; have c10q : Below w9.heap.size w9 u10q := (by repeat (first | with_reducible assumption | with_reducible exact Below.refl _ _ | with_reducible refine Below.drew ?_ | with_reducible refine Below.alloc ?_ (by first | omega | (simp <;> omega)) _ | with_reducible refine Below.setCell ?_ (by first | omega | (dsimp only; omega)) _ | with_reducible refine bstep ?_ (by with_reducible assumption)))))
    all_goals
      obtain ⟨w10, hw10⟩ : ∃ z, z = u10q := ⟨_, rfl⟩
      subst hw10
      have K10 : Bx (w.heap.size) [.int .i64 f, .int .i64 A, .int .i64 B, .int .i64 C, .slice ao n cap] w10 := Bx.call K9 c10q
      have Y10 : Bx (w3.heap.size) [.int .i64 pf3, .int .i64 pa3, .int .i64 pb3, .int .i64 pc3, .slice ao3 m3 cap3] w10 := Bx.call Y9 c10q
      have X10 : Bx (w5.heap.size) [.int .i64 f, .int .i64 A, .int .i64 B, .int .i64 C, .slice ao5 n cap5] w10 := Bx.call X9 c10q
      have G10 : Bx (w7.heap.size) [.int .i64 pf3, .int .i64 pa3, .int .i64 pb3, .int .i64 pc3, .slice ao7 m3 cap7] w10 := Bx.call G9 c10q
      have B10 : Below w.heap.size w w10 := bstep B9 c10q
      have A10 := Lib.hid (HA.out.call B10)
      have z10 : w9.heap.size ≤ w10.heap.size := c10q.size
      have y10 := Lib.hid (SRow.call y9.out c10q)
      have x10 := Lib.hid (SRow.call x9.out c10q)
      have g10 := Lib.hid (SRow.call g9.out c10q)
      clear K9 Y9 X9 G9 B9 A9 y9 x9 g9 K9c0 K9c1 K9c2 K9c3 K9c4 K9l X9c0 X9c1 X9c2 X9c3 X9c4 X9l c10q
      have X10c0 := X10.c0
      have X10c1 := X10.c1
      have X10c2 := X10.c2
      have X10c3 := X10.c3
      have X10c4 := X10.c4
      have X10l := X10.lt
      go_wp2_with fail
      with_reducible refine (markPat_any f A B C x10.out (by omega)).mono ?_
      rintro e w11 ⟨rfl, rm11, hb11, hk11⟩
      have z11 : w10.heap.size ≤ w11.heap.size := hb11.size
      have K11 : Bx (w.heap.size) [.int .i64 f, .int .i64 A, .int .i64 B, .int .i64 C, .slice ao n cap] w11 := Bx.keepV K10 hk11 (SRow.off x10.out (by omega)) z11
      have Y11 : Bx (w3.heap.size) [.int .i64 pf3, .int .i64 pa3, .int .i64 pb3, .int .i64 pc3, .slice ao3 m3 cap3] w11 := Bx.keepV Y10 hk11 (SRow.off x10.out (by omega)) z11
      have X11 : Bx (w5.heap.size) [.int .i64 f, .int .i64 A, .int .i64 B, .int .i64 C, .slice ao5 n cap5] w11 := Bx.keepV X10 hk11 (SRow.off x10.out (by omega)) z11
      have G11 : Bx (w7.heap.size) [.int .i64 pf3, .int .i64 pa3, .int .i64 pb3, .int .i64 pc3, .slice ao7 m3 cap7] w11 := Bx.keepV G10 hk11 (SRow.off x10.out (by omega)) z11
      have B11 : Below w.heap.size w w11 := B10.trans (hb11.mono (by omega))
      have A11 := Lib.hid (HA.out.call B11)
      have y11 := Lib.hid (SRow.keepV y10.out hk11 (fun b9 h8 h9 => SRow.off x10.out (by omega)) z11)
      have g11 := Lib.hid (SRow.keepV g10.out hk11 (fun b9 h8 h9 => SRow.off x10.out (by omega)) z11)
      have x11 := Lib.hid rm11
      clear rm11 hb11 hk11 K10 Y10 X10 G10 B10 A10 y10 x10 g10 X10c0 X10c1 X10c2 X10c3 X10c4 X10l
      clear x11
      clear X11
      have hk9 : ¬ ((n : Int) * 1 + 1 < 0) := by omega
      have G11c0 := G11.c0
      have G11c1 := G11.c1
      have G11c2 := G11.c2
      have G11c3 := G11.c3
      have G11c4 := G11.c4
      have G11l := G11.lt
      have Y11c0 := Y11.c0
      have Y11c1 := Y11.c1
      have Y11c2 := Y11.c2
      have Y11c3 := Y11.c3
      have Y11c4 := Y11.c4
      have Y11l := Y11.lt
      go_wp2_with fail
      with_reducible refine (eqPat_any pf3 pa3 pb3 pc3 g11.out y11.out).mono ?_
      rintro e w12 ⟨rfl, hb12⟩
      have K12 : Bx (w.heap.size) [.int .i64 f, .int .i64 A, .int .i64 B, .int .i64 C, .slice ao n cap] w12 := Bx.call K11 hb12
      have Y12 : Bx (w3.heap.size) [.int .i64 pf3, .int .i64 pa3, .int .i64 pb3, .int .i64 pc3, .slice ao3 m3 cap3] w12 := Bx.call Y11 hb12
      have G12 : Bx (w7.heap.size) [.int .i64 pf3, .int .i64 pa3, .int .i64 pb3, .int .i64 pc3, .slice ao7 m3 cap7] w12 := Bx.call G11 hb12
      have B12 : Below w.heap.size w w12 := bstep B11 hb12
      have A12 := Lib.hid (HA.out.call B12)
      have z12 : w11.heap.size ≤ w12.heap.size := hb12.size
      have y12 := Lib.hid (SRow.call y11.out hb12)
      have g12 := Lib.hid (SRow.call g11.out hb12)
      clear K11 Y11 G11 B11 A11 y11 g11 G11c0 G11c1 G11c2 G11c3 G11c4 G11l Y11c0 Y11c1 Y11c2 Y11c3 Y11c4 Y11l hb12
      have G12c0 := G12.c0
      have G12c1 := G12.c1
      have G12c2 := G12.c2
      have G12c3 := G12.c3
      have G12c4 := G12.c4
      have G12l := G12.lt
      go_wp2_with fail
      with_reducible refine (markPat_any pf3 pa3 pb3 pc3 g12.out (by omega)).mono ?_
      rintro e w13 ⟨rfl, rm13, hb13, hk13⟩
      have z13 : w12.heap.size ≤ w13.heap.size := hb13.size
      have K13 : Bx (w.heap.size) [.int .i64 f, .int .i64 A, .int .i64 B, .int .i64 C, .slice ao n cap] w13 := Bx.keepV K12 hk13 (SRow.off g12.out (by omega)) z13
      have Y13 : Bx (w3.heap.size) [.int .i64 pf3, .int .i64 pa3, .int .i64 pb3, .int .i64 pc3, .slice ao3 m3 cap3] w13 := Bx.keepV Y12 hk13 (SRow.off g12.out (by omega)) z13
      have G13 : Bx (w7.heap.size) [.int .i64 pf3, .int .i64 pa3, .int .i64 pb3, .int .i64 pc3, .slice ao7 m3 cap7] w13 := Bx.keepV G12 hk13 (SRow.off g12.out (by omega)) z13
      have B13 : Below w.heap.size w w13 := B12.trans (hb13.mono (by omega))
      have A13 := Lib.hid (HA.out.call B13)
      have y13 := Lib.hid (SRow.keepV y12.out hk13 (fun b9 h8 h9 => SRow.off g12.out (by omega)) z13)
      have g13 := Lib.hid rm13
      clear rm13 hb13 hk13 K12 Y12 G12 B12 A12 y12 g12 G12c0 G12c1 G12c2 G12c3 G12c4 G12l
      have hk8 : ¬ ((m3 : Int) * 1 + 1 < 0) := by have := g13.out.2.1; omega
      have hq8 : (((m3 : Int) * 1 + 1) != (m3 : Int) * 1 + 1) = false := by simp
      have hm8 : (m3 : Int) ≤ 2000000 := by have := g13.out.2.1; omega
      have G13c0 := G13.c0
      have G13c1 := G13.c1
      have G13c2 := G13.c2
      have G13c3 := G13.c3
      have G13c4 := G13.c4
      have G13l := G13.lt
      go_wp2_with fail
      with_reducible refine (heldPat_any pf3 pa3 pb3 pc3 g13.out).mono ?_
      rintro e w14 ⟨rfl, hb14⟩
      have K14 : Bx (w.heap.size) [.int .i64 f, .int .i64 A, .int .i64 B, .int .i64 C, .slice ao n cap] w14 := Bx.call K13 hb14
      have Y14 : Bx (w3.heap.size) [.int .i64 pf3, .int .i64 pa3, .int .i64 pb3, .int .i64 pc3, .slice ao3 m3 cap3] w14 := Bx.call Y13 hb14
      have G14 : Bx (w7.heap.size) [.int .i64 pf3, .int .i64 pa3, .int .i64 pb3, .int .i64 pc3, .slice ao7 m3 cap7] w14 := Bx.call G13 hb14
      have B14 : Below w.heap.size w w14 := bstep B13 hb14
      have A14 := Lib.hid (HA.out.call B14)
      have z14 : w13.heap.size ≤ w14.heap.size := hb14.size
      have y14 := Lib.hid (SRow.call y13.out hb14)
      have g14 := Lib.hid (SRow.call g13.out hb14)
      clear K13 Y13 G13 B13 A13 y13 g13 G13c0 G13c1 G13c2 G13c3 G13c4 G13l hb14
      have K14c0 := K14.c0
      have K14c1 := K14.c1
      have K14c2 := K14.c2
      have K14c3 := K14.c3
      have K14c4 := K14.c4
      have K14l := K14.lt
      go_wp2_with fail
      with_reducible refine (toPat_any f A B C A14.out HN.out).mono ?_
      rintro e w15 ⟨v15, rfl, r15, hb15⟩
      have K15 : Bx (w.heap.size) [.int .i64 f, .int .i64 A, .int .i64 B, .int .i64 C, .slice ao n cap] w15 := Bx.call K14 hb15
      have Y15 : Bx (w3.heap.size) [.int .i64 pf3, .int .i64 pa3, .int .i64 pb3, .int .i64 pc3, .slice ao3 m3 cap3] w15 := Bx.call Y14 hb15
      have G15 : Bx (w7.heap.size) [.int .i64 pf3, .int .i64 pa3, .int .i64 pb3, .int .i64 pc3, .slice ao7 m3 cap7] w15 := Bx.call G14 hb15
      have B15 : Below w.heap.size w w15 := bstep B14 hb15
      have A15 := Lib.hid (HA.out.call B15)
      have z15 : w14.heap.size ≤ w15.heap.size := hb15.size
      have y15 := Lib.hid (SRow.call y14.out hb15)
      have g15 := Lib.hid (SRow.call g14.out hb15)
      clear K14 Y14 G14 B14 A14 y14 g14 K14c0 K14c1 K14c2 K14c3 K14c4 K14l hb15
      obtain ⟨ao15, cap15, rfl⟩ := r15.slice
      have q15 := Lib.hid r15
      clear r15
      go_wp2_with fail
      with_reducible refine (implLean_any f A B C q15.out (HU.out.call B15)).mono ?_
      rintro e w16 hh
      unfold PAns at hh
      obtain ⟨pf16, pa16, pb16, pc16, m16, G16, c16, v16, hr16, rfl, rq16, hb16⟩ := hh
      obtain ⟨ao16, cap16, rfl⟩ := rq16.slice
      obtain ⟨rfl, rfl, rfl, rfl, rfl, rfl, rfl⟩ : pf3 = pf16 ∧ pa3 = pa16 ∧ pb3 = pb16 ∧ pc3 = pc16 ∧ m3 = m16 ∧ G3 = G16 ∧ c3 = c16 := by have h9 := HP.out.symm.trans hr16; simpa using h9
      clear hr16
      have K16 : Bx (w.heap.size) [.int .i64 f, .int .i64 A, .int .i64 B, .int .i64 C, .slice ao n cap] w16 := Bx.call K15 hb16
      have Y16 : Bx (w3.heap.size) [.int .i64 pf3, .int .i64 pa3, .int .i64 pb3, .int .i64 pc3, .slice ao3 m3 cap3] w16 := Bx.call Y15 hb16
      have G16 : Bx (w7.heap.size) [.int .i64 pf3, .int .i64 pa3, .int .i64 pb3, .int .i64 pc3, .slice ao7 m3 cap7] w16 := Bx.call G15 hb16
      have B16 : Below w.heap.size w w16 := bstep B15 hb16
      have A16 := Lib.hid (HA.out.call B16)
      have z16 : w15.heap.size ≤ w16.heap.size := hb16.size
      have y16 := Lib.hid (SRow.call y15.out hb16)
      have g16 := Lib.hid (SRow.call g15.out hb16)
      have q16 := Lib.hid (SRow.call q15.out hb16)
      clear K15 Y15 G15 B15 A15 y15 g15 q15 hb16
      have h16 := Lib.hid rq16
      clear rq16
      clear q16
      have Y16c0 := Y16.c0
      have Y16c1 := Y16.c1
      have Y16c2 := Y16.c2
      have Y16c3 := Y16.c3
      have Y16c4 := Y16.c4
      have Y16l := Y16.lt
      go_wp2_with fail
      have K17 : Bx (w.heap.size) [.int .i64 f, .int .i64 A, .int .i64 B, .int .i64 C, .slice ao n cap] (w16.alloc (.cells #[.int .i64 pf3, .int .i64 pa3, .int .i64 pb3, .int .i64 pc3, .slice ao16 m3 cap16] 30)) := Bx.alloc K16 _
      have Y17 : Bx (w3.heap.size) [.int .i64 pf3, .int .i64 pa3, .int .i64 pb3, .int .i64 pc3, .slice ao3 m3 cap3] (w16.alloc (.cells #[.int .i64 pf3, .int .i64 pa3, .int .i64 pb3, .int .i64 pc3, .slice ao16 m3 cap16] 30)) := Bx.alloc Y16 _
      have G17 : Bx (w7.heap.size) [.int .i64 pf3, .int .i64 pa3, .int .i64 pb3, .int .i64 pc3, .slice ao7 m3 cap7] (w16.alloc (.cells #[.int .i64 pf3, .int .i64 pa3, .int .i64 pb3, .int .i64 pc3, .slice ao16 m3 cap16] 30)) := Bx.alloc G16 _
      have H17 : Bx (w16.heap.size) [.int .i64 pf3, .int .i64 pa3, .int .i64 pb3, .int .i64 pc3, .slice ao16 m3 cap16] (w16.alloc (.cells #[.int .i64 pf3, .int .i64 pa3, .int .i64 pb3, .int .i64 pc3, .slice ao16 m3 cap16] 30)) := Bx.at _ rfl
      have B17 : Below w.heap.size w (w16.alloc (.cells #[.int .i64 pf3, .int .i64 pa3, .int .i64 pb3, .int .i64 pc3, .slice ao16 m3 cap16] 30)) := bstep B16 (show Below w16.heap.size w16 (w16.alloc (.cells #[.int .i64 pf3, .int .i64 pa3, .int .i64 pb3, .int .i64 pc3, .slice ao16 m3 cap16] 30)) from (Below.refl _ _).alloc (Nat.le_refl _) _)
      have z17 : w16.heap.size + 1 ≤ (w16.alloc (.cells #[.int .i64 pf3, .int .i64 pa3, .int .i64 pb3, .int .i64 pc3, .slice ao16 m3 cap16] 30)).heap.size := by simp
      have y17 := Lib.hid (SRow.call y16.out (show Below w16.heap.size w16 (w16.alloc (.cells #[.int .i64 pf3, .int .i64 pa3, .int .i64 pb3, .int .i64 pc3, .slice ao16 m3 cap16] 30)) from (Below.refl _ _).alloc (Nat.le_refl _) _))
      have g17 := Lib.hid (SRow.call g16.out (show Below w16.heap.size w16 (w16.alloc (.cells #[.int .i64 pf3, .int .i64 pa3, .int .i64 pb3, .int .i64 pc3, .slice ao16 m3 cap16] 30)) from (Below.refl _ _).alloc (Nat.le_refl _) _))
      have h17 := Lib.hid (SRow.call h16.out (show Below w16.heap.size w16 (w16.alloc (.cells #[.int .i64 pf3, .int .i64 pa3, .int .i64 pb3, .int .i64 pc3, .slice ao16 m3 cap16] 30)) from (Below.refl _ _).alloc (Nat.le_refl _) _))
      generalize hW17 : w16.alloc (.cells #[.int .i64 pf3, .int .i64 pa3, .int .i64 pb3, .int .i64 pc3, .slice ao16 m3 cap16] 30) = w17 at *
      clear hW17
      have A17 := Lib.hid (HA.out.call B17)
      clear K16 Y16 G16 B16 A16 y16 g16 h16 Y16c0 Y16c1 Y16c2 Y16c3 Y16c4 Y16l
      with_reducible refine (eqPat_any pf3 pa3 pb3 pc3 h17.out y17.out).mono ?_
      rintro e w18 ⟨rfl, hb18⟩
      have K18 : Bx (w.heap.size) [.int .i64 f, .int .i64 A, .int .i64 B, .int .i64 C, .slice ao n cap] w18 := Bx.call K17 hb18
      have Y18 : Bx (w3.heap.size) [.int .i64 pf3, .int .i64 pa3, .int .i64 pb3, .int .i64 pc3, .slice ao3 m3 cap3] w18 := Bx.call Y17 hb18
      have G18 : Bx (w7.heap.size) [.int .i64 pf3, .int .i64 pa3, .int .i64 pb3, .int .i64 pc3, .slice ao7 m3 cap7] w18 := Bx.call G17 hb18
      have H18 : Bx (w16.heap.size) [.int .i64 pf3, .int .i64 pa3, .int .i64 pb3, .int .i64 pc3, .slice ao16 m3 cap16] w18 := Bx.call H17 hb18
      have B18 : Below w.heap.size w w18 := bstep B17 hb18
      have A18 := Lib.hid (HA.out.call B18)
      have z18 : w17.heap.size ≤ w18.heap.size := hb18.size
      have y18 := Lib.hid (SRow.call y17.out hb18)
      have g18 := Lib.hid (SRow.call g17.out hb18)
      have h18 := Lib.hid (SRow.call h17.out hb18)
      clear K17 Y17 G17 H17 B17 A17 y17 g17 h17 hb18
      clear h18
      clear y18
      clear H18
      clear Y18
      have G18c0 := G18.c0
      have G18c1 := G18.c1
      have G18c2 := G18.c2
      have G18c3 := G18.c3
      have G18c4 := G18.c4
      have G18l := G18.lt
      go_wp2_with fail
      with_reducible refine (heldPat_any pf3 pa3 pb3 pc3 g18.out).mono ?_
      rintro e w19 ⟨rfl, hb19⟩
      have K19 : Bx (w.heap.size) [.int .i64 f, .int .i64 A, .int .i64 B, .int .i64 C, .slice ao n cap] w19 := Bx.call K18 hb19
      have G19 : Bx (w7.heap.size) [.int .i64 pf3, .int .i64 pa3, .int .i64 pb3, .int .i64 pc3, .slice ao7 m3 cap7] w19 := Bx.call G18 hb19
      have B19 : Below w.heap.size w w19 := bstep B18 hb19
      have A19 := Lib.hid (HA.out.call B19)
      have z19 : w18.heap.size ≤ w19.heap.size := hb19.size
      have g19 := Lib.hid (SRow.call g18.out hb19)
      clear K18 G18 B18 A18 g18 G18c0 G18c1 G18c2 G18c3 G18c4 G18l hb19
      go_wp2
      go_ret
      exact ⟨rfl, B19⟩
  · have hz : (if (n : Int) ≤ 1048576 then 1048576 - (n : Int) else -1) = -1 := if_neg (by omega)
    go_enter Tryd.func3, Tryd.ntmps3
    go_wp2_with fail
    refine (szPat_any f A B C ao n cap 1048576 _ hm (by omega)).mono ?_
    rintro e w1 ⟨rfl, hb1⟩
    rw [hz]
    go_wp2
    go_ret
    exact ⟨rfl, bstep (by repeat (first | with_reducible assumption | with_reducible exact Below.refl _ _ | with_reducible refine Below.drew ?_ | with_reducible refine Below.alloc ?_ (by first | omega | (simp <;> omega)) _ | with_reducible refine Below.setCell ?_ (by first | omega | (dsimp only; omega)) _ | with_reducible refine bstep ?_ (by with_reducible assumption))) hb1⟩
end Go.Proofs.YtpejihckepaojaaDoor
