/-
  The walk of the exact law of ArePatternsSame: the law returns true and writes nothing that was there. Conditions: the lists' lengths are ones that a slice can have; the program's variable unitMatrix holds the unit.
-/
import Derived.Test.YtpejihckepaojaaDoorPtZ
import Derived.Test.YtpejihckepaojaaDoorPtW
namespace Go.Proofs.YtpejihckepaojaaDoor
open Go.RowKit
set_option linter.unusedSimpArgs false
set_option linter.unusedVariables false

set_option maxRecDepth 100000 in
set_option maxHeartbeats 16000000 in
theorem walkSame (f A B C : Int) (v : Value) (n : Nat) (F : Nat → Int) (f' A' B' C' : Int) (v' : Value) (n' : Nat) (F' : Nat → Int) (w : World) (hA : ARw v n F w) (hm : n ≤ 9223372036854775807) (hA2 : ARw v' n' F' w) (hm2 : n' ≤ 9223372036854775807) (hU : UnitOK w) :
    Calls Tryd.prog 5 #[.agg #[.int .i64 f, .int .i64 A, .int .i64 B, .int .i64 C, v], .agg #[.int .i64 f', .int .i64 A', .int .i64 B', .int .i64 C', v']] w fun e w' => e = .returned (.bool true) ∧ Below w.heap.size w w' := by
  have HA := Lib.hid hA
  obtain ⟨ao, cap, rfl, _⟩ := hA
  have HU := Lib.hid hU
  have HA2 := Lib.hid hA2
  clear hU
  obtain ⟨ao', cap', rfl, _⟩ := hA2
  obtain ⟨b0, c0, hsm⟩ : ∃ b c, smA f A B C n F f' A' B' C' n' F' = (b, c) := ⟨_, _, rfl⟩
  have HSM := Lib.hid hsm
  clear hsm
  by_cases hbig : n ≤ 1048576
  · have hz : (if (n : Int) ≤ 1048576 then 1048576 - (n : Int) else -1) = 1048576 - (n : Int) := if_pos (by omega)
    have HN := Lib.hid hbig
    have hn1 : ¬ (1048576 - (n : Int) < 0) := by omega
    clear hbig
    go_enter Tryd.func5, Tryd.ntmps5
    go_wp2_with fail
    with_reducible refine (szPat_any f A B C ao n cap 1048576 _ hm (by omega)).mono ?_
    rintro e w1 ⟨rfl, hb1⟩
    rw [hz]
    have K1 : Bx (w.heap.size) [.int .i64 f, .int .i64 A, .int .i64 B, .int .i64 C, .slice ao n cap] w1 := Bx.call ((Bx.at _ rfl).alloc _) hb1
    have L1 : Bx (w.heap.size + 1) [.int .i64 f', .int .i64 A', .int .i64 B', .int .i64 C', .slice ao' n' cap'] w1 := Bx.call ((Bx.at _ (by simp))) hb1
    have B1 : Below w.heap.size w w1 := bstep (by repeat (first | with_reducible assumption | with_reducible exact Below.refl _ _ | with_reducible refine Below.drew ?_ | with_reducible refine Below.alloc ?_ (by first | omega | (simp <;> omega)) _ | with_reducible refine Below.setCell ?_ (by first | omega | (dsimp only; omega)) _ | with_reducible refine bstep ?_ (by with_reducible assumption))) hb1
    have A1 := Lib.hid (HA.out.call B1)
    have z1 : w.heap.size + 1 < w1.heap.size := by have := hb1.size; simp at this; omega
    clear hb1
    have K1c0 := K1.c0
    have K1c1 := K1.c1
    have K1c2 := K1.c2
    have K1c3 := K1.c3
    have K1c4 := K1.c4
    have K1l := K1.lt
    have L1c0 := L1.c0
    have L1c1 := L1.c1
    have L1c2 := L1.c2
    have L1c3 := L1.c3
    have L1c4 := L1.c4
    have L1l := L1.lt
    by_cases hbig2 : (n' : Int) ≤ 1048576 - (n : Int)
    · have hbig3 := Lib.hid hbig2
      have HN2 := Lib.hid (show n' ≤ 1048576 from by omega)
      have hn2 : ¬ (1048576 - (n : Int) - (n' : Int) < 0) := by omega
      clear hbig2
      go_wp2_with fail
      with_reducible refine (szPat_any f' A' B' C' ao' n' cap' (1048576 - (n : Int)) _ hm2 (by have := HN.out; omega)).mono ?_
      rintro e w2 ⟨rfl, hb2⟩
      rw [if_pos hbig3.out]
      have K2 : Bx (w.heap.size) [.int .i64 f, .int .i64 A, .int .i64 B, .int .i64 C, .slice ao n cap] w2 := Bx.call K1 hb2
      have L2 : Bx (w.heap.size + 1) [.int .i64 f', .int .i64 A', .int .i64 B', .int .i64 C', .slice ao' n' cap'] w2 := Bx.call L1 hb2
      have B2 : Below w.heap.size w w2 := bstep B1 hb2
      have A2 := Lib.hid (HA.out.call B2)
      have z2 : w1.heap.size ≤ w2.heap.size := hb2.size
      clear K1 L1 B1 A1 K1c0 K1c1 K1c2 K1c3 K1c4 K1l L1c0 L1c1 L1c2 L1c3 L1c4 L1l hb2
      have K2c0 := K2.c0
      have K2c1 := K2.c1
      have K2c2 := K2.c2
      have K2c3 := K2.c3
      have K2c4 := K2.c4
      have K2l := K2.lt
      have L2c0 := L2.c0
      have L2c1 := L2.c1
      have L2c2 := L2.c2
      have L2c3 := L2.c3
      have L2c4 := L2.c4
      have L2l := L2.lt
      go_wp2_with fail
      go_region_held3 (fun W9 => (W9.cell? ⟨w.heap.size, 0, none⟩ = some (.int .i64 f) ∧ W9.cell? ⟨w.heap.size, 1, none⟩ = some (.int .i64 A) ∧ W9.cell? ⟨w.heap.size, 2, none⟩ = some (.int .i64 B) ∧ W9.cell? ⟨w.heap.size, 3, none⟩ = some (.int .i64 C) ∧ W9.cell? ⟨w.heap.size, 4, none⟩ = some (.slice ao n cap)) ∧ (W9.cell? ⟨w.heap.size + 1, 0, none⟩ = some (.int .i64 f') ∧ W9.cell? ⟨w.heap.size + 1, 1, none⟩ = some (.int .i64 A') ∧ W9.cell? ⟨w.heap.size + 1, 2, none⟩ = some (.int .i64 B') ∧ W9.cell? ⟨w.heap.size + 1, 3, none⟩ = some (.int .i64 C') ∧ W9.cell? ⟨w.heap.size + 1, 4, none⟩ = some (.slice ao' n' cap'))) ((refine (And.intro (Bx.cells5 ?_) (Bx.cells5 ?_))) <;> (repeat (first | with_reducible assumption | with_reducible refine Bx.drew ?_ | with_reducible refine Bx.alloc ?_ _ | with_reducible refine Bx.call ?_ (by with_reducible assumption))))
        (first
          | (go_at_call_of 10 (Value.agg #[.int .i64 f, .int .i64 A, .int .i64 B, .int .i64 C, .slice ao n cap]); with_reducible refine (toPat_any f A B C (A2.out.call (by repeat (first | with_reducible assumption | with_reducible exact Below.refl _ _ | with_reducible refine Below.drew ?_ | with_reducible refine Below.alloc ?_ (by first | omega | (simp <;> omega)) _ | with_reducible refine Below.setCell ?_ (by first | omega | (dsimp only; omega)) _ | with_reducible refine bstep ?_ (by with_reducible assumption)))) HN.out).mono ?_; rintro e u3p ⟨v3p, rfl, r3p, hb3p⟩; obtain ⟨ao3p, cap3p, rfl⟩ := r3p.slice; have c3p : Below w2.heap.size w2 u3p := (by repeat (first | with_reducible assumption | with_reducible exact Below.refl _ _ | with_reducible refine Below.drew ?_ | with_reducible refine Below.alloc ?_ (by first | omega | (simp <;> omega)) _ | with_reducible refine Below.setCell ?_ (by first | omega | (dsimp only; omega)) _ | with_reducible refine bstep ?_ (by with_reducible assumption))))
          | (go_at_call_of 10 (Value.agg #[.int .i64 f', .int .i64 A', .int .i64 B', .int .i64 C', .slice ao' n' cap']); with_reducible refine (toPat_any f' A' B' C' (HA2.out.call (by repeat (first | with_reducible assumption | with_reducible exact Below.refl _ _ | with_reducible refine Below.drew ?_ | with_reducible refine Below.alloc ?_ (by first | omega | (simp <;> omega)) _ | with_reducible refine Below.setCell ?_ (by first | omega | (dsimp only; omega)) _ | with_reducible refine bstep ?_ (by with_reducible assumption)))) HN2.out).mono ?_; rintro e u3q ⟨v3q, rfl, r3q, hb3q⟩; obtain ⟨ao3q, cap3q, rfl⟩ := r3q.slice; have c3q : Below w2.heap.size w2 u3q := (by repeat (first | with_reducible assumption | with_reducible exact Below.refl _ _ | with_reducible refine Below.drew ?_ | with_reducible refine Below.alloc ?_ (by first | omega | (simp <;> omega)) _ | with_reducible refine Below.setCell ?_ (by first | omega | (dsimp only; omega)) _ | with_reducible refine bstep ?_ (by with_reducible assumption))))
          | (go_at_call 18; with_reducible refine (specSame_any f A B C f' A' B' C' HSM.out (SRow.call r3p (by repeat (first | with_reducible assumption | with_reducible exact Below.refl _ _ | with_reducible refine Below.drew ?_ | with_reducible refine Below.alloc ?_ (by first | omega | (simp <;> omega)) _ | with_reducible refine Below.setCell ?_ (by first | omega | (dsimp only; omega)) _ | with_reducible refine bstep ?_ (by with_reducible assumption)))) (SRow.call r3q (by repeat (first | with_reducible assumption | with_reducible exact Below.refl _ _ | with_reducible refine Below.drew ?_ | with_reducible refine Below.alloc ?_ (by first | omega | (simp <;> omega)) _ | with_reducible refine Below.setCell ?_ (by first | omega | (dsimp only; omega)) _ | with_reducible refine bstep ?_ (by with_reducible assumption))))).mono ?_; rintro e u3s ⟨rfl, hb3s⟩; have c3s : Below w2.heap.size w2 u3s := (by repeat (first | with_reducible assumption | with_reducible exact Below.refl _ _ | with_reducible refine Below.drew ?_ | with_reducible refine Below.alloc ?_ (by first | omega | (simp <;> omega)) _ | with_reducible refine Below.setCell ?_ (by first | omega | (dsimp only; omega)) _ | with_reducible refine bstep ?_ (by with_reducible assumption)))))
      all_goals
        obtain ⟨w3, hw3⟩ : ∃ z, z = u3s := ⟨_, rfl⟩
        subst hw3
        have K3 : Bx (w.heap.size) [.int .i64 f, .int .i64 A, .int .i64 B, .int .i64 C, .slice ao n cap] w3 := Bx.call K2 c3s
        have L3 : Bx (w.heap.size + 1) [.int .i64 f', .int .i64 A', .int .i64 B', .int .i64 C', .slice ao' n' cap'] w3 := Bx.call L2 c3s
        have B3 : Below w.heap.size w w3 := bstep B2 c3s
        have A3 := Lib.hid (HA.out.call B3)
        have z3 : w2.heap.size ≤ w3.heap.size := c3s.size
        clear K2 L2 B2 A2 K2c0 K2c1 K2c2 K2c3 K2c4 K2l L2c0 L2c1 L2c2 L2c3 L2c4 L2l c3s
        have K3c0 := K3.c0
        have K3c1 := K3.c1
        have K3c2 := K3.c2
        have K3c3 := K3.c3
        have K3c4 := K3.c4
        have K3l := K3.lt
        go_wp2_with fail
        with_reducible refine (toPat_any f A B C A3.out HN.out).mono ?_
        rintro e w4 ⟨v4, rfl, r4, hb4⟩
        have K4 : Bx (w.heap.size) [.int .i64 f, .int .i64 A, .int .i64 B, .int .i64 C, .slice ao n cap] w4 := Bx.call K3 hb4
        have L4 : Bx (w.heap.size + 1) [.int .i64 f', .int .i64 A', .int .i64 B', .int .i64 C', .slice ao' n' cap'] w4 := Bx.call L3 hb4
        have B4 : Below w.heap.size w w4 := bstep B3 hb4
        have A4 := Lib.hid (HA.out.call B4)
        have z4 : w3.heap.size ≤ w4.heap.size := hb4.size
        clear K3 L3 B3 A3 K3c0 K3c1 K3c2 K3c3 K3c4 K3l hb4
        obtain ⟨ao4, cap4, rfl⟩ := r4.slice
        have x4 := Lib.hid r4
        clear r4
        have L4c0 := L4.c0
        have L4c1 := L4.c1
        have L4c2 := L4.c2
        have L4c3 := L4.c3
        have L4c4 := L4.c4
        have L4l := L4.lt
        go_wp2_with fail
        have K5 : Bx (w.heap.size) [.int .i64 f, .int .i64 A, .int .i64 B, .int .i64 C, .slice ao n cap] (w4.alloc (.cells #[.int .i64 f, .int .i64 A, .int .i64 B, .int .i64 C, .slice ao4 n cap4] 30)) := Bx.alloc K4 _
        have L5 : Bx (w.heap.size + 1) [.int .i64 f', .int .i64 A', .int .i64 B', .int .i64 C', .slice ao' n' cap'] (w4.alloc (.cells #[.int .i64 f, .int .i64 A, .int .i64 B, .int .i64 C, .slice ao4 n cap4] 30)) := Bx.alloc L4 _
        have X5 : Bx (w4.heap.size) [.int .i64 f, .int .i64 A, .int .i64 B, .int .i64 C, .slice ao4 n cap4] (w4.alloc (.cells #[.int .i64 f, .int .i64 A, .int .i64 B, .int .i64 C, .slice ao4 n cap4] 30)) := Bx.at _ rfl
        have B5 : Below w.heap.size w (w4.alloc (.cells #[.int .i64 f, .int .i64 A, .int .i64 B, .int .i64 C, .slice ao4 n cap4] 30)) := bstep B4 (show Below w4.heap.size w4 (w4.alloc (.cells #[.int .i64 f, .int .i64 A, .int .i64 B, .int .i64 C, .slice ao4 n cap4] 30)) from (Below.refl _ _).alloc (Nat.le_refl _) _)
        have z5 : w4.heap.size + 1 ≤ (w4.alloc (.cells #[.int .i64 f, .int .i64 A, .int .i64 B, .int .i64 C, .slice ao4 n cap4] 30)).heap.size := by simp
        have x5 := Lib.hid (SRow.call x4.out (show Below w4.heap.size w4 (w4.alloc (.cells #[.int .i64 f, .int .i64 A, .int .i64 B, .int .i64 C, .slice ao4 n cap4] 30)) from (Below.refl _ _).alloc (Nat.le_refl _) _))
        generalize hW5 : w4.alloc (.cells #[.int .i64 f, .int .i64 A, .int .i64 B, .int .i64 C, .slice ao4 n cap4] 30) = w5 at *
        clear hW5
        have A5 := Lib.hid (HA.out.call B5)
        clear K4 L4 B4 A4 x4 L4c0 L4c1 L4c2 L4c3 L4c4 L4l
        with_reducible refine (toPat_any f' A' B' C' (HA2.out.call B5) HN2.out).mono ?_
        rintro e w6 ⟨v6, rfl, r6, hb6⟩
        have K6 : Bx (w.heap.size) [.int .i64 f, .int .i64 A, .int .i64 B, .int .i64 C, .slice ao n cap] w6 := Bx.call K5 hb6
        have L6 : Bx (w.heap.size + 1) [.int .i64 f', .int .i64 A', .int .i64 B', .int .i64 C', .slice ao' n' cap'] w6 := Bx.call L5 hb6
        have X6 : Bx (w4.heap.size) [.int .i64 f, .int .i64 A, .int .i64 B, .int .i64 C, .slice ao4 n cap4] w6 := Bx.call X5 hb6
        have B6 : Below w.heap.size w w6 := bstep B5 hb6
        have A6 := Lib.hid (HA.out.call B6)
        have z6 : w5.heap.size ≤ w6.heap.size := hb6.size
        have x6 := Lib.hid (SRow.call x5.out hb6)
        clear K5 L5 X5 B5 A5 x5 hb6
        obtain ⟨ao6, cap6, rfl⟩ := r6.slice
        have y6 := Lib.hid r6
        clear r6
        have X6c0 := X6.c0
        have X6c1 := X6.c1
        have X6c2 := X6.c2
        have X6c3 := X6.c3
        have X6c4 := X6.c4
        have X6l := X6.lt
        go_wp2_with fail
        have K7 : Bx (w.heap.size) [.int .i64 f, .int .i64 A, .int .i64 B, .int .i64 C, .slice ao n cap] (w6.alloc (.cells #[.int .i64 f', .int .i64 A', .int .i64 B', .int .i64 C', .slice ao6 n' cap6] 30)) := Bx.alloc K6 _
        have L7 : Bx (w.heap.size + 1) [.int .i64 f', .int .i64 A', .int .i64 B', .int .i64 C', .slice ao' n' cap'] (w6.alloc (.cells #[.int .i64 f', .int .i64 A', .int .i64 B', .int .i64 C', .slice ao6 n' cap6] 30)) := Bx.alloc L6 _
        have X7 : Bx (w4.heap.size) [.int .i64 f, .int .i64 A, .int .i64 B, .int .i64 C, .slice ao4 n cap4] (w6.alloc (.cells #[.int .i64 f', .int .i64 A', .int .i64 B', .int .i64 C', .slice ao6 n' cap6] 30)) := Bx.alloc X6 _
        have Y7 : Bx (w6.heap.size) [.int .i64 f', .int .i64 A', .int .i64 B', .int .i64 C', .slice ao6 n' cap6] (w6.alloc (.cells #[.int .i64 f', .int .i64 A', .int .i64 B', .int .i64 C', .slice ao6 n' cap6] 30)) := Bx.at _ rfl
        have B7 : Below w.heap.size w (w6.alloc (.cells #[.int .i64 f', .int .i64 A', .int .i64 B', .int .i64 C', .slice ao6 n' cap6] 30)) := bstep B6 (show Below w6.heap.size w6 (w6.alloc (.cells #[.int .i64 f', .int .i64 A', .int .i64 B', .int .i64 C', .slice ao6 n' cap6] 30)) from (Below.refl _ _).alloc (Nat.le_refl _) _)
        have z7 : w6.heap.size + 1 ≤ (w6.alloc (.cells #[.int .i64 f', .int .i64 A', .int .i64 B', .int .i64 C', .slice ao6 n' cap6] 30)).heap.size := by simp
        have x7 := Lib.hid (SRow.call x6.out (show Below w6.heap.size w6 (w6.alloc (.cells #[.int .i64 f', .int .i64 A', .int .i64 B', .int .i64 C', .slice ao6 n' cap6] 30)) from (Below.refl _ _).alloc (Nat.le_refl _) _))
        have y7 := Lib.hid (SRow.call y6.out (show Below w6.heap.size w6 (w6.alloc (.cells #[.int .i64 f', .int .i64 A', .int .i64 B', .int .i64 C', .slice ao6 n' cap6] 30)) from (Below.refl _ _).alloc (Nat.le_refl _) _))
        generalize hW7 : w6.alloc (.cells #[.int .i64 f', .int .i64 A', .int .i64 B', .int .i64 C', .slice ao6 n' cap6] 30) = w7 at *
        clear hW7
        have A7 := Lib.hid (HA.out.call B7)
        clear K6 L6 X6 B6 A6 x6 y6 X6c0 X6c1 X6c2 X6c3 X6c4 X6l
        with_reducible refine (implSame_any f A B C f' A' B' C' HSM.out x7.out y7.out (HU.out.call B7)).mono ?_
        rintro e w8 ⟨rfl, hb8⟩
        have K8 : Bx (w.heap.size) [.int .i64 f, .int .i64 A, .int .i64 B, .int .i64 C, .slice ao n cap] w8 := Bx.call K7 hb8
        have L8 : Bx (w.heap.size + 1) [.int .i64 f', .int .i64 A', .int .i64 B', .int .i64 C', .slice ao' n' cap'] w8 := Bx.call L7 hb8
        have X8 : Bx (w4.heap.size) [.int .i64 f, .int .i64 A, .int .i64 B, .int .i64 C, .slice ao4 n cap4] w8 := Bx.call X7 hb8
        have Y8 : Bx (w6.heap.size) [.int .i64 f', .int .i64 A', .int .i64 B', .int .i64 C', .slice ao6 n' cap6] w8 := Bx.call Y7 hb8
        have B8 : Below w.heap.size w w8 := bstep B7 hb8
        have A8 := Lib.hid (HA.out.call B8)
        have z8 : w7.heap.size ≤ w8.heap.size := hb8.size
        have x8 := Lib.hid (SRow.call x7.out hb8)
        have y8 := Lib.hid (SRow.call y7.out hb8)
        clear K7 L7 X7 Y7 B7 A7 x7 y7 hb8
        have K8c0 := K8.c0
        have K8c1 := K8.c1
        have K8c2 := K8.c2
        have K8c3 := K8.c3
        have K8c4 := K8.c4
        have K8l := K8.lt
        have X8c0 := X8.c0
        have X8c1 := X8.c1
        have X8c2 := X8.c2
        have X8c3 := X8.c3
        have X8c4 := X8.c4
        have X8l := X8.lt
        go_wp2_with fail
        go_region_held3 (fun W9 => (W9.cell? ⟨w.heap.size, 0, none⟩ = some (.int .i64 f) ∧ W9.cell? ⟨w.heap.size, 1, none⟩ = some (.int .i64 A) ∧ W9.cell? ⟨w.heap.size, 2, none⟩ = some (.int .i64 B) ∧ W9.cell? ⟨w.heap.size, 3, none⟩ = some (.int .i64 C) ∧ W9.cell? ⟨w.heap.size, 4, none⟩ = some (.slice ao n cap)) ∧ (W9.cell? ⟨w4.heap.size, 0, none⟩ = some (.int .i64 f) ∧ W9.cell? ⟨w4.heap.size, 1, none⟩ = some (.int .i64 A) ∧ W9.cell? ⟨w4.heap.size, 2, none⟩ = some (.int .i64 B) ∧ W9.cell? ⟨w4.heap.size, 3, none⟩ = some (.int .i64 C) ∧ W9.cell? ⟨w4.heap.size, 4, none⟩ = some (.slice ao4 n cap4))) ((refine (And.intro (Bx.cells5 ?_) (Bx.cells5 ?_))) <;> (repeat (first | with_reducible assumption | with_reducible refine Bx.drew ?_ | with_reducible refine Bx.alloc ?_ _ | with_reducible refine Bx.call ?_ (by with_reducible assumption))))
          (first
            | (go_at_call 10; with_reducible refine (toPat_any f A B C (A8.out.call (by repeat (first | with_reducible assumption | with_reducible exact Below.refl _ _ | with_reducible refine Below.drew ?_ | with_reducible refine Below.alloc ?_ (by first | omega | (simp <;> omega)) _ | with_reducible refine Below.setCell ?_ (by first | omega | (dsimp only; omega)) _ | with_reducible refine bstep ?_ (by with_reducible assumption)))) HN.out).mono ?_; rintro e u9p ⟨v9p, rfl, r9p, hb9p⟩; obtain ⟨ao9p, cap9p, rfl⟩ := r9p.slice; have c9p : Below w8.heap.size w8 u9p := (by repeat (first | with_reducible assumption | with_reducible exact Below.refl _ _ | with_reducible refine Below.drew ?_ | with_reducible refine Below.alloc ?_ (by first | omega | (simp <;> omega)) _ | with_reducible refine Below.setCell ?_ (by first | omega | (dsimp only; omega)) _ | with_reducible refine bstep ?_ (by with_reducible assumption))))
            | (go_at_call 12; with_reducible refine (eqPat_any f A B C (SRow.call x8.out (by repeat (first | with_reducible assumption | with_reducible exact Below.refl _ _ | with_reducible refine Below.drew ?_ | with_reducible refine Below.alloc ?_ (by first | omega | (simp <;> omega)) _ | with_reducible refine Below.setCell ?_ (by first | omega | (dsimp only; omega)) _ | with_reducible refine bstep ?_ (by with_reducible assumption)))) (SRow.call r9p (by repeat (first | with_reducible assumption | with_reducible exact Below.refl _ _ | with_reducible refine Below.drew ?_ | with_reducible refine Below.alloc ?_ (by first | omega | (simp <;> omega)) _ | with_reducible refine Below.setCell ?_ (by first | omega | (dsimp only; omega)) _ | with_reducible refine bstep ?_ (by with_reducible assumption))))).mono ?_; rintro e u9q ⟨rfl, hb9q⟩; have c9q : Below w8.heap.size w8 u9q := (by repeat (first | with_reducible assumption | with_reducible exact Below.refl _ _ | with_reducible refine Below.drew ?_ | with_reducible refine Below.alloc ?_ (by first | omega | (simp <;> omega)) _ | with_reducible refine Below.setCell ?_ (by first | omega | (dsimp only; omega)) _ | with_reducible refine bstep ?_ (by with_reducible assumption)))))
        all_goals
          obtain ⟨w9, hw9⟩ : ∃ z, z = u9q := ⟨_, rfl⟩
          subst hw9
          have K9 : Bx (w.heap.size) [.int .i64 f, .int .i64 A, .int .i64 B, .int .i64 C, .slice ao n cap] w9 := Bx.call K8 c9q
          have L9 : Bx (w.heap.size + 1) [.int .i64 f', .int .i64 A', .int .i64 B', .int .i64 C', .slice ao' n' cap'] w9 := Bx.call L8 c9q
          have X9 : Bx (w4.heap.size) [.int .i64 f, .int .i64 A, .int .i64 B, .int .i64 C, .slice ao4 n cap4] w9 := Bx.call X8 c9q
          have Y9 : Bx (w6.heap.size) [.int .i64 f', .int .i64 A', .int .i64 B', .int .i64 C', .slice ao6 n' cap6] w9 := Bx.call Y8 c9q
          have B9 : Below w.heap.size w w9 := bstep B8 c9q
          have A9 := Lib.hid (HA.out.call B9)
          have z9 : w8.heap.size ≤ w9.heap.size := c9q.size
          have x9 := Lib.hid (SRow.call x8.out c9q)
          have y9 := Lib.hid (SRow.call y8.out c9q)
          clear K8 L8 X8 Y8 B8 A8 x8 y8 K8c0 K8c1 K8c2 K8c3 K8c4 K8l X8c0 X8c1 X8c2 X8c3 X8c4 X8l c9q
          have L9c0 := L9.c0
          have L9c1 := L9.c1
          have L9c2 := L9.c2
          have L9c3 := L9.c3
          have L9c4 := L9.c4
          have L9l := L9.lt
          have Y9c0 := Y9.c0
          have Y9c1 := Y9.c1
          have Y9c2 := Y9.c2
          have Y9c3 := Y9.c3
          have Y9c4 := Y9.c4
          have Y9l := Y9.lt
          go_wp2_with fail
          go_region_held3 (fun W9 => (W9.cell? ⟨w.heap.size + 1, 0, none⟩ = some (.int .i64 f') ∧ W9.cell? ⟨w.heap.size + 1, 1, none⟩ = some (.int .i64 A') ∧ W9.cell? ⟨w.heap.size + 1, 2, none⟩ = some (.int .i64 B') ∧ W9.cell? ⟨w.heap.size + 1, 3, none⟩ = some (.int .i64 C') ∧ W9.cell? ⟨w.heap.size + 1, 4, none⟩ = some (.slice ao' n' cap')) ∧ (W9.cell? ⟨w6.heap.size, 0, none⟩ = some (.int .i64 f') ∧ W9.cell? ⟨w6.heap.size, 1, none⟩ = some (.int .i64 A') ∧ W9.cell? ⟨w6.heap.size, 2, none⟩ = some (.int .i64 B') ∧ W9.cell? ⟨w6.heap.size, 3, none⟩ = some (.int .i64 C') ∧ W9.cell? ⟨w6.heap.size, 4, none⟩ = some (.slice ao6 n' cap6))) ((refine (And.intro (Bx.cells5 ?_) (Bx.cells5 ?_))) <;> (repeat (first | with_reducible assumption | with_reducible refine Bx.drew ?_ | with_reducible refine Bx.alloc ?_ _ | with_reducible refine Bx.call ?_ (by with_reducible assumption))))
            (first
              | (go_at_call 10; with_reducible refine (toPat_any f' A' B' C' (HA2.out.call (by repeat (first | with_reducible assumption | with_reducible exact Below.refl _ _ | with_reducible refine Below.drew ?_ | with_reducible refine Below.alloc ?_ (by first | omega | (simp <;> omega)) _ | with_reducible refine Below.setCell ?_ (by first | omega | (dsimp only; omega)) _ | with_reducible refine bstep ?_ (by with_reducible assumption)))) HN2.out).mono ?_; rintro e u10p ⟨v10p, rfl, r10p, hb10p⟩; obtain ⟨ao10p, cap10p, rfl⟩ := r10p.slice; have c10p : Below w9.heap.size w9 u10p := (by repeat (first | with_reducible assumption | with_reducible exact Below.refl _ _ | with_reducible refine Below.drew ?_ | with_reducible refine Below.alloc ?_ (by first | omega | (simp <;> omega)) _ | with_reducible refine Below.setCell ?_ (by first | omega | (dsimp only; omega)) _ | with_reducible refine bstep ?_ (by with_reducible assumption))))
              | (go_at_call 12; with_reducible refine (eqPat_any f' A' B' C' (SRow.call y9.out (by repeat (first | with_reducible assumption | with_reducible exact Below.refl _ _ | with_reducible refine Below.drew ?_ | with_reducible refine Below.alloc ?_ (by first | omega | (simp <;> omega)) _ | with_reducible refine Below.setCell ?_ (by first | omega | (dsimp only; omega)) _ | with_reducible refine bstep ?_ (by with_reducible assumption)))) (SRow.call r10p (by repeat (first | with_reducible assumption | with_reducible exact Below.refl _ _ | with_reducible refine Below.drew ?_ | with_reducible refine Below.alloc ?_ (by first | omega | (simp <;> omega)) _ | with_reducible refine Below.setCell ?_ (by first | omega | (dsimp only; omega)) _ | with_reducible refine bstep ?_ (by with_reducible assumption))))).mono ?_; rintro e u10q ⟨rfl, hb10q⟩; have c10q : Below w9.heap.size w9 u10q := (by repeat (first | with_reducible assumption | with_reducible exact Below.refl _ _ | with_reducible refine Below.drew ?_ | with_reducible refine Below.alloc ?_ (by first | omega | (simp <;> omega)) _ | with_reducible refine Below.setCell ?_ (by first | omega | (dsimp only; omega)) _ | with_reducible refine bstep ?_ (by with_reducible assumption)))))
          all_goals
            obtain ⟨w10, hw10⟩ : ∃ z, z = u10q := ⟨_, rfl⟩
            subst hw10
            have K10 : Bx (w.heap.size) [.int .i64 f, .int .i64 A, .int .i64 B, .int .i64 C, .slice ao n cap] w10 := Bx.call K9 c10q
            have L10 : Bx (w.heap.size + 1) [.int .i64 f', .int .i64 A', .int .i64 B', .int .i64 C', .slice ao' n' cap'] w10 := Bx.call L9 c10q
            have X10 : Bx (w4.heap.size) [.int .i64 f, .int .i64 A, .int .i64 B, .int .i64 C, .slice ao4 n cap4] w10 := Bx.call X9 c10q
            have Y10 : Bx (w6.heap.size) [.int .i64 f', .int .i64 A', .int .i64 B', .int .i64 C', .slice ao6 n' cap6] w10 := Bx.call Y9 c10q
            have B10 : Below w.heap.size w w10 := bstep B9 c10q
            have A10 := Lib.hid (HA.out.call B10)
            have z10 : w9.heap.size ≤ w10.heap.size := c10q.size
            have x10 := Lib.hid (SRow.call x9.out c10q)
            have y10 := Lib.hid (SRow.call y9.out c10q)
            clear K9 L9 X9 Y9 B9 A9 x9 y9 L9c0 L9c1 L9c2 L9c3 L9c4 L9l Y9c0 Y9c1 Y9c2 Y9c3 Y9c4 Y9l c10q
            go_wp2
            go_ret
            exact ⟨rfl, B10⟩
    · have hbig3 := Lib.hid hbig2
      clear hbig2
      go_wp2_with fail
      with_reducible refine (szPat_any f' A' B' C' ao' n' cap' (1048576 - (n : Int)) _ hm2 (by have := HN.out; omega)).mono ?_
      rintro e w2 ⟨rfl, hb2⟩
      rw [if_neg (by have := hbig3.out; omega)]
      go_wp2
      go_ret
      exact ⟨rfl, bstep B1 hb2⟩
  · have hz : (if (n : Int) ≤ 1048576 then 1048576 - (n : Int) else -1) = -1 := if_neg (by omega)
    go_enter Tryd.func5, Tryd.ntmps5
    go_wp2_with fail
    refine (szPat_any f A B C ao n cap 1048576 _ hm (by omega)).mono ?_
    rintro e w1 ⟨rfl, hb1⟩
    rw [hz]
    go_wp2
    go_ret
    exact ⟨rfl, bstep (by repeat (first | with_reducible assumption | with_reducible exact Below.refl _ _ | with_reducible refine Below.drew ?_ | with_reducible refine Below.alloc ?_ (by first | omega | (simp <;> omega)) _ | with_reducible refine Below.setCell ?_ (by first | omega | (dsimp only; omega)) _ | with_reducible refine bstep ?_ (by with_reducible assumption))) hb1⟩
end Go.Proofs.YtpejihckepaojaaDoor
