/-
  The walk of the exact law of FullLattice: the law returns true and writes nothing that was there. Condition: the list's length is one that a slice can have.
-/
import Derived.Test.YtpejihckepaojaaPtQ
import Derived.Test.YtpejihckepaojaaPtW
namespace Go.Proofs.Ytpejihckepaojaa
open Go.RowKit
set_option linter.unusedSimpArgs false
set_option linter.unusedVariables false

set_option maxRecDepth 100000 in
set_option maxHeartbeats 16000000 in
theorem walkFull (f A B C : Int) (v : Value) (n : Nat) (F : Nat → Int) (w : World) (hA : ARw v n F w) (hm : n ≤ 9223372036854775807) :
    Calls Try.prog 5 #[.agg #[.int .i64 f, .int .i64 A, .int .i64 B, .int .i64 C, v]] w fun e w' => e = .returned (.bool true) ∧ Below w.heap.size w w' := by
  have HA := Lib.hid hA
  obtain ⟨ao, cap, rfl, _⟩ := hA
  by_cases hbig : n ≤ 1048576
  · have hz : (if (n : Int) ≤ 1048576 then 1048576 - (n : Int) else -1) = 1048576 - (n : Int) := if_pos (by omega)
    have HN := Lib.hid hbig
    have hn1 : ¬ (1048576 - (n : Int) < 0) := by omega
    clear hbig
    go_enter Try.func5, Try.ntmps5
    go_wp2_with fail
    with_reducible refine (szPat_any f A B C ao n cap 1048576 _ hm (by omega)).mono ?_
    rintro e w1 ⟨rfl, hb1⟩
    rw [hz]
    have K1 : Bx (w.heap.size) [.int .i64 f, .int .i64 A, .int .i64 B, .int .i64 C, .slice ao n cap] w1 := Bx.call ((Bx.at _ rfl)) hb1
    have B1 : Below w.heap.size w w1 := bstep (by repeat (first | with_reducible assumption | with_reducible exact Below.refl _ _ | with_reducible refine Below.drew ?_ | with_reducible refine Below.alloc ?_ (by first | omega | (simp <;> omega)) _ | with_reducible refine Below.setCell ?_ (by first | omega | (dsimp only; omega)) _ | with_reducible refine bstep ?_ (by with_reducible assumption))) hb1
    have A1 := Lib.hid (HA.out.call B1)
    have z1 : w.heap.size + 0 < w1.heap.size := by have := hb1.size; simp at this; omega
    clear hb1
    have K1c0 := K1.c0
    have K1c1 := K1.c1
    have K1c2 := K1.c2
    have K1c3 := K1.c3
    have K1c4 := K1.c4
    have K1l := K1.lt
    go_wp2_with fail
    with_reducible refine (toPat_any f A B C A1.out HN.out).mono ?_
    rintro e w2 ⟨v2, rfl, r2, hb2⟩
    have K2 : Bx (w.heap.size) [.int .i64 f, .int .i64 A, .int .i64 B, .int .i64 C, .slice ao n cap] w2 := Bx.call K1 hb2
    have B2 : Below w.heap.size w w2 := bstep B1 hb2
    have A2 := Lib.hid (HA.out.call B2)
    have z2 : w1.heap.size ≤ w2.heap.size := hb2.size
    clear K1 B1 A1 K1c0 K1c1 K1c2 K1c3 K1c4 K1l hb2
    obtain ⟨ao2, cap2, rfl⟩ := r2.slice
    have q2 := Lib.hid r2
    clear r2
    go_wp2_with fail
    with_reducible refine (specFull_any f A B C q2.out).mono ?_
    rintro e w3 hh
    unfold TAns at hh
    obtain ⟨⟨a3, b3, c3, d3, hr3, rfl⟩, hb3⟩ := hh
    have HP := Lib.hid hr3
    clear hr3
    have K3 : Bx (w.heap.size) [.int .i64 f, .int .i64 A, .int .i64 B, .int .i64 C, .slice ao n cap] w3 := Bx.call K2 hb3
    have B3 : Below w.heap.size w w3 := bstep B2 hb3
    have A3 := Lib.hid (HA.out.call B3)
    have z3 : w2.heap.size ≤ w3.heap.size := hb3.size
    have q3 := Lib.hid (SRow.call q2.out hb3)
    clear K2 B2 A2 q2 hb3
    clear q3
    have K3c0 := K3.c0
    have K3c1 := K3.c1
    have K3c2 := K3.c2
    have K3c3 := K3.c3
    have K3c4 := K3.c4
    have K3l := K3.lt
    go_wp2_with fail
    have K4 : Bx (w.heap.size) [.int .i64 f, .int .i64 A, .int .i64 B, .int .i64 C, .slice ao n cap] (w3.alloc (.cells #[.int .i64 a3, .int .i64 b3, .int .i64 c3] 29)) := Bx.alloc K3 _
    have Y4 : Bx (w3.heap.size) [.int .i64 a3, .int .i64 b3, .int .i64 c3] (w3.alloc (.cells #[.int .i64 a3, .int .i64 b3, .int .i64 c3] 29)) := Bx.at _ rfl
    have B4 : Below w.heap.size w (w3.alloc (.cells #[.int .i64 a3, .int .i64 b3, .int .i64 c3] 29)) := bstep B3 (show Below w3.heap.size w3 (w3.alloc (.cells #[.int .i64 a3, .int .i64 b3, .int .i64 c3] 29)) from (Below.refl _ _).alloc (Nat.le_refl _) _)
    have z4 : w3.heap.size + 1 ≤ (w3.alloc (.cells #[.int .i64 a3, .int .i64 b3, .int .i64 c3] 29)).heap.size := by simp
    generalize hW4 : w3.alloc (.cells #[.int .i64 a3, .int .i64 b3, .int .i64 c3] 29) = w4 at *
    clear hW4
    have A4 := Lib.hid (HA.out.call B4)
    clear K3 B3 A3 K3c0 K3c1 K3c2 K3c3 K3c4 K3l
    with_reducible refine (toPat_any f A B C A4.out HN.out).mono ?_
    rintro e w5 ⟨v5, rfl, r5, hb5⟩
    have K5 : Bx (w.heap.size) [.int .i64 f, .int .i64 A, .int .i64 B, .int .i64 C, .slice ao n cap] w5 := Bx.call K4 hb5
    have Y5 : Bx (w3.heap.size) [.int .i64 a3, .int .i64 b3, .int .i64 c3] w5 := Bx.call Y4 hb5
    have B5 : Below w.heap.size w w5 := bstep B4 hb5
    have A5 := Lib.hid (HA.out.call B5)
    have z5 : w4.heap.size ≤ w5.heap.size := hb5.size
    clear K4 Y4 B4 A4 hb5
    obtain ⟨ao5, cap5, rfl⟩ := r5.slice
    have x5 := Lib.hid r5
    clear r5
    go_wp2_with fail
    have K6 : Bx (w.heap.size) [.int .i64 f, .int .i64 A, .int .i64 B, .int .i64 C, .slice ao n cap] (w5.alloc (.cells #[.int .i64 f, .int .i64 A, .int .i64 B, .int .i64 C, .slice ao5 n cap5] 31)) := Bx.alloc K5 _
    have Y6 : Bx (w3.heap.size) [.int .i64 a3, .int .i64 b3, .int .i64 c3] (w5.alloc (.cells #[.int .i64 f, .int .i64 A, .int .i64 B, .int .i64 C, .slice ao5 n cap5] 31)) := Bx.alloc Y5 _
    have X6 : Bx (w5.heap.size) [.int .i64 f, .int .i64 A, .int .i64 B, .int .i64 C, .slice ao5 n cap5] (w5.alloc (.cells #[.int .i64 f, .int .i64 A, .int .i64 B, .int .i64 C, .slice ao5 n cap5] 31)) := Bx.at _ rfl
    have B6 : Below w.heap.size w (w5.alloc (.cells #[.int .i64 f, .int .i64 A, .int .i64 B, .int .i64 C, .slice ao5 n cap5] 31)) := bstep B5 (show Below w5.heap.size w5 (w5.alloc (.cells #[.int .i64 f, .int .i64 A, .int .i64 B, .int .i64 C, .slice ao5 n cap5] 31)) from (Below.refl _ _).alloc (Nat.le_refl _) _)
    have z6 : w5.heap.size + 1 ≤ (w5.alloc (.cells #[.int .i64 f, .int .i64 A, .int .i64 B, .int .i64 C, .slice ao5 n cap5] 31)).heap.size := by simp
    have x6 := Lib.hid (SRow.call x5.out (show Below w5.heap.size w5 (w5.alloc (.cells #[.int .i64 f, .int .i64 A, .int .i64 B, .int .i64 C, .slice ao5 n cap5] 31)) from (Below.refl _ _).alloc (Nat.le_refl _) _))
    generalize hW6 : w5.alloc (.cells #[.int .i64 f, .int .i64 A, .int .i64 B, .int .i64 C, .slice ao5 n cap5] 31) = w6 at *
    clear hW6
    have A6 := Lib.hid (HA.out.call B6)
    clear K5 Y5 B5 A5 x5
    with_reducible refine (implFull_any f A B C x6.out).mono ?_
    rintro e w7 hh
    unfold TAns at hh
    obtain ⟨⟨a7, b7, c7, d7, hr7, rfl⟩, hb7⟩ := hh
    obtain ⟨rfl, rfl, rfl, rfl⟩ : a3 = a7 ∧ b3 = b7 ∧ c3 = c7 ∧ d3 = d7 := by have h9 := HP.out.symm.trans hr7; simpa using h9
    clear hr7
    have K7 : Bx (w.heap.size) [.int .i64 f, .int .i64 A, .int .i64 B, .int .i64 C, .slice ao n cap] w7 := Bx.call K6 hb7
    have Y7 : Bx (w3.heap.size) [.int .i64 a3, .int .i64 b3, .int .i64 c3] w7 := Bx.call Y6 hb7
    have X7 : Bx (w5.heap.size) [.int .i64 f, .int .i64 A, .int .i64 B, .int .i64 C, .slice ao5 n cap5] w7 := Bx.call X6 hb7
    have B7 : Below w.heap.size w w7 := bstep B6 hb7
    have A7 := Lib.hid (HA.out.call B7)
    have z7 : w6.heap.size ≤ w7.heap.size := hb7.size
    have x7 := Lib.hid (SRow.call x6.out hb7)
    clear K6 Y6 X6 B6 A6 x6 hb7
    have Y7c0 := Y7.c0
    have Y7c1 := Y7.c1
    have Y7c2 := Y7.c2
    have Y7l := Y7.lt
    go_wp2_with fail
    have K8 : Bx (w.heap.size) [.int .i64 f, .int .i64 A, .int .i64 B, .int .i64 C, .slice ao n cap] (w7.alloc (.cells #[.int .i64 a3, .int .i64 b3, .int .i64 c3] 29)) := Bx.alloc K7 _
    have Y8 : Bx (w3.heap.size) [.int .i64 a3, .int .i64 b3, .int .i64 c3] (w7.alloc (.cells #[.int .i64 a3, .int .i64 b3, .int .i64 c3] 29)) := Bx.alloc Y7 _
    have X8 : Bx (w5.heap.size) [.int .i64 f, .int .i64 A, .int .i64 B, .int .i64 C, .slice ao5 n cap5] (w7.alloc (.cells #[.int .i64 a3, .int .i64 b3, .int .i64 c3] 29)) := Bx.alloc X7 _
    have G8 : Bx (w7.heap.size) [.int .i64 a3, .int .i64 b3, .int .i64 c3] (w7.alloc (.cells #[.int .i64 a3, .int .i64 b3, .int .i64 c3] 29)) := Bx.at _ rfl
    have B8 : Below w.heap.size w (w7.alloc (.cells #[.int .i64 a3, .int .i64 b3, .int .i64 c3] 29)) := bstep B7 (show Below w7.heap.size w7 (w7.alloc (.cells #[.int .i64 a3, .int .i64 b3, .int .i64 c3] 29)) from (Below.refl _ _).alloc (Nat.le_refl _) _)
    have z8 : w7.heap.size + 1 ≤ (w7.alloc (.cells #[.int .i64 a3, .int .i64 b3, .int .i64 c3] 29)).heap.size := by simp
    have x8 := Lib.hid (SRow.call x7.out (show Below w7.heap.size w7 (w7.alloc (.cells #[.int .i64 a3, .int .i64 b3, .int .i64 c3] 29)) from (Below.refl _ _).alloc (Nat.le_refl _) _))
    generalize hW8 : w7.alloc (.cells #[.int .i64 a3, .int .i64 b3, .int .i64 c3] 29) = w8 at *
    clear hW8
    have A8 := Lib.hid (HA.out.call B8)
    clear K7 Y7 X7 B7 A7 x7 Y7c0 Y7c1 Y7c2 Y7l
    with_reducible refine (eqLat_any a3 b3 c3 a3 b3 c3 _).mono ?_
    rintro e w9 ⟨rfl, hb9⟩
    rw [eqT_rfl]
    have K9 : Bx (w.heap.size) [.int .i64 f, .int .i64 A, .int .i64 B, .int .i64 C, .slice ao n cap] w9 := Bx.call K8 hb9
    have Y9 : Bx (w3.heap.size) [.int .i64 a3, .int .i64 b3, .int .i64 c3] w9 := Bx.call Y8 hb9
    have X9 : Bx (w5.heap.size) [.int .i64 f, .int .i64 A, .int .i64 B, .int .i64 C, .slice ao5 n cap5] w9 := Bx.call X8 hb9
    have G9 : Bx (w7.heap.size) [.int .i64 a3, .int .i64 b3, .int .i64 c3] w9 := Bx.call G8 hb9
    have B9 : Below w.heap.size w w9 := bstep B8 hb9
    have A9 := Lib.hid (HA.out.call B9)
    have z9 : w8.heap.size ≤ w9.heap.size := hb9.size
    have x9 := Lib.hid (SRow.call x8.out hb9)
    clear K8 Y8 X8 G8 B8 A8 x8 hb9
    have K9c0 := K9.c0
    have K9c1 := K9.c1
    have K9c2 := K9.c2
    have K9c3 := K9.c3
    have K9c4 := K9.c4
    have K9l := K9.lt
    have X9c0 := X9.c0
    have X9c1 := X9.c1
    have X9c2 := X9.c2
    have X9c3 := X9.c3
    have X9c4 := X9.c4
    have X9l := X9.lt
    go_wp2_with fail
    go_region_held3 (fun W9 => (W9.cell? ⟨w.heap.size, 0, none⟩ = some (.int .i64 f) ∧ W9.cell? ⟨w.heap.size, 1, none⟩ = some (.int .i64 A) ∧ W9.cell? ⟨w.heap.size, 2, none⟩ = some (.int .i64 B) ∧ W9.cell? ⟨w.heap.size, 3, none⟩ = some (.int .i64 C) ∧ W9.cell? ⟨w.heap.size, 4, none⟩ = some (.slice ao n cap)) ∧ (W9.cell? ⟨w5.heap.size, 0, none⟩ = some (.int .i64 f) ∧ W9.cell? ⟨w5.heap.size, 1, none⟩ = some (.int .i64 A) ∧ W9.cell? ⟨w5.heap.size, 2, none⟩ = some (.int .i64 B) ∧ W9.cell? ⟨w5.heap.size, 3, none⟩ = some (.int .i64 C) ∧ W9.cell? ⟨w5.heap.size, 4, none⟩ = some (.slice ao5 n cap5))) ((refine (And.intro (Bx.cells5 ?_) (Bx.cells5 ?_))) <;> (repeat (first | with_reducible assumption | with_reducible refine Bx.drew ?_ | with_reducible refine Bx.alloc ?_ _ | with_reducible refine Bx.call ?_ (by with_reducible assumption))))
      (first
        | (go_at_call 10; with_reducible refine (toPat_any f A B C (A9.out.call (by repeat (first | with_reducible assumption | with_reducible exact Below.refl _ _ | with_reducible refine Below.drew ?_ | with_reducible refine Below.alloc ?_ (by first | omega | (simp <;> omega)) _ | with_reducible refine Below.setCell ?_ (by first | omega | (dsimp only; omega)) _ | with_reducible refine bstep ?_ (by with_reducible assumption)))) HN.out).mono ?_; rintro e u10p ⟨v10p, rfl, r10p, hb10p⟩; obtain ⟨ao10p, cap10p, rfl⟩ := r10p.slice; have c10p : Below w9.heap.size w9 u10p := (by repeat (first | with_reducible assumption | with_reducible exact Below.refl _ _ | with_reducible refine Below.drew ?_ | with_reducible refine Below.alloc ?_ (by first | omega | (simp <;> omega)) _ | with_reducible refine Below.setCell ?_ (by first | omega | (dsimp only; omega)) _ | with_reducible refine bstep ?_ (by with_reducible assumption))))
        | (go_at_call 12; with_reducible refine (eqPat_any f A B C (SRow.call x9.out (by repeat (first | with_reducible assumption | with_reducible exact Below.refl _ _ | with_reducible refine Below.drew ?_ | with_reducible refine Below.alloc ?_ (by first | omega | (simp <;> omega)) _ | with_reducible refine Below.setCell ?_ (by first | omega | (dsimp only; omega)) _ | with_reducible refine bstep ?_ (by with_reducible assumption)))) (SRow.call r10p (by repeat (first | with_reducible assumption | with_reducible exact Below.refl _ _ | with_reducible refine Below.drew ?_ | with_reducible refine Below.alloc ?_ (by first | omega | (simp <;> omega)) _ | with_reducible refine Below.setCell ?_ (by first | omega | (dsimp only; omega)) _ | with_reducible refine bstep ?_ (by with_reducible assumption))))).mono ?_; rintro e u10q ⟨rfl, hb10q⟩; have c10q : Below w9.heap.size w9 u10q := (by repeat (first | with_reducible assumption | with_reducible exact Below.refl _ _ | with_reducible refine Below.drew ?_ | with_reducible refine Below.alloc ?_ (by first | omega | (simp <;> omega)) _ | with_reducible refine Below.setCell ?_ (by first | omega | (dsimp only; omega)) _ | with_reducible refine bstep ?_ (by with_reducible assumption)))))
    all_goals
      obtain ⟨w10, hw10⟩ : ∃ z, z = u10q := ⟨_, rfl⟩
      subst hw10
      have K10 : Bx (w.heap.size) [.int .i64 f, .int .i64 A, .int .i64 B, .int .i64 C, .slice ao n cap] w10 := Bx.call K9 c10q
      have Y10 : Bx (w3.heap.size) [.int .i64 a3, .int .i64 b3, .int .i64 c3] w10 := Bx.call Y9 c10q
      have X10 : Bx (w5.heap.size) [.int .i64 f, .int .i64 A, .int .i64 B, .int .i64 C, .slice ao5 n cap5] w10 := Bx.call X9 c10q
      have G10 : Bx (w7.heap.size) [.int .i64 a3, .int .i64 b3, .int .i64 c3] w10 := Bx.call G9 c10q
      have B10 : Below w.heap.size w w10 := bstep B9 c10q
      have A10 := Lib.hid (HA.out.call B10)
      have z10 : w9.heap.size ≤ w10.heap.size := c10q.size
      have x10 := Lib.hid (SRow.call x9.out c10q)
      clear K9 Y9 X9 G9 B9 A9 x9 K9c0 K9c1 K9c2 K9c3 K9c4 K9l X9c0 X9c1 X9c2 X9c3 X9c4 X9l c10q
      go_wp2
      go_ret
      exact ⟨rfl, B10⟩
  · have hz : (if (n : Int) ≤ 1048576 then 1048576 - (n : Int) else -1) = -1 := if_neg (by omega)
    go_enter Try.func5, Try.ntmps5
    go_wp2_with fail
    refine (szPat_any f A B C ao n cap 1048576 _ hm (by omega)).mono ?_
    rintro e w1 ⟨rfl, hb1⟩
    rw [hz]
    go_wp2
    go_ret
    exact ⟨rfl, bstep (by repeat (first | with_reducible assumption | with_reducible exact Below.refl _ _ | with_reducible refine Below.drew ?_ | with_reducible refine Below.alloc ?_ (by first | omega | (simp <;> omega)) _ | with_reducible refine Below.setCell ?_ (by first | omega | (dsimp only; omega)) _ | with_reducible refine bstep ?_ (by with_reducible assumption))) hb1⟩
end Go.Proofs.Ytpejihckepaojaa
