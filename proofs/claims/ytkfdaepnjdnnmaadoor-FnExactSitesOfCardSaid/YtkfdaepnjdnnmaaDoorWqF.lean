/-
  The walk of the exact law of SitesOf: the law returns true and writes nothing that was there. Conditions: the list's length is one that a slice can have; the program's variable unitMatrix holds the unit.
-/
import Derived.Test.YtkfdaepnjdnnmaaDoorSyT
import Derived.Test.YtkfdaepnjdnnmaaDoorPtW
import Derived.Test.YtkfdaepnjdnnmaaDoorOc
namespace Go.Proofs.YtkfdaepnjdnnmaaDoor
open Go.RowKit
set_option linter.unusedSimpArgs false
set_option linter.unusedVariables false

theorem eqVecSSd_any {lo hi lo' hi' n : Nat} {v v' : Value} {len : Nat → Nat} {F : Nat → Nat → Int} {w : World} (h1 : VRowD lo hi v n len F w) (h2 : VRow lo' hi' v' n len F w) :
    Calls Tryd.prog 31 #[v, v'] w fun e w' => e = .returned (.bool true) ∧ Below w.heap.size w w' := eqVecSS_any h1.row h2
theorem VRowD.slice {lo hi n : Nat} {v : Value} {len : Nat → Nat} {F : Nat → Nat → Int} {W : World} (h : VRowD lo hi v n len F W) : ∃ ao cap, v = .slice ao n cap := by
  rcases h.2.2 with ⟨rfl, ao, cap, rfl⟩ | ⟨g, cap, gs, caps, rfl, _⟩
  · exact ⟨ao, cap, rfl⟩
  · exact ⟨_, cap, rfl⟩
theorem VRow.slice {lo hi n : Nat} {v : Value} {len : Nat → Nat} {F : Nat → Nat → Int} {W : World} (h : VRow lo hi v n len F W) : ∃ ao cap, v = .slice ao n cap := by
  rcases h.2.2 with ⟨rfl, ao, cap, rfl⟩ | ⟨g, cap, gs, caps, rfl, _⟩
  · exact ⟨ao, cap, rfl⟩
  · exact ⟨_, cap, rfl⟩
set_option maxRecDepth 100000 in
set_option maxHeartbeats 16000000 in
theorem walkSitesOf (f A B C : Int) (v : Value) (n : Nat) (F : Nat → Int) (w : World) (hA : ARw v n F w) (hm : n ≤ 9223372036854775807) (hU : UnitOK w) :
    Calls Tryd.prog 8 #[.agg #[.int .i64 f, .int .i64 A, .int .i64 B, .int .i64 C, v]] w fun e w' => e = .returned (.bool true) ∧ Below w.heap.size w w' := by
  have HA := Lib.hid hA
  obtain ⟨ao, cap, rfl, _⟩ := hA
  have HU := Lib.hid hU
  clear hU
  obtain ⟨m9, hm9⟩ : ∃ m, m = stN f A B C n F := ⟨_, rfl⟩
  have hm5 : m9 ≤ 64 := by rw [hm9]; exact stN_64 f A B C n F
  obtain ⟨c9, hc9⟩ : ∃ c, c = sgC f A B C n F := ⟨_, rfl⟩
  obtain ⟨F9, hF9⟩ : ∃ F9, F9 = stF f A B C n F := ⟨_, rfl⟩
  obtain ⟨Ln9, hLn9⟩ : ∃ z, z = stLen f A B C n F := ⟨_, rfl⟩
  have HMF := Lib.hid (And.intro hm9 (And.intro hc9 (And.intro hF9 hLn9)))
  clear hm9 hc9 hF9 hLn9
  by_cases hbig : n ≤ 1048576
  · have hz : (if (n : Int) ≤ 1048576 then 1048576 - (n : Int) else -1) = 1048576 - (n : Int) := if_pos (by omega)
    have HN := Lib.hid hbig
    have hn1 : ¬ (1048576 - (n : Int) < 0) := by omega
    clear hbig
    go_enter Tryd.func8, Tryd.ntmps8
    go_wp2_with fail
    with_reducible refine (szPat_any f A B C ao n cap 1048576 _ hm (by omega)).mono ?_
    rintro e w1 ⟨rfl, hb1⟩
    rw [hz]
    have K1 : Bx (w.heap.size) [.int .i64 f, .int .i64 A, .int .i64 B, .int .i64 C, .slice ao n cap] w1 := Bx.call ((Bx.at _ rfl)) hb1
    have B1 : Below w.heap.size w w1 := bstep (by repeat (first | with_reducible assumption | with_reducible exact Below.refl _ _ | with_reducible refine Below.drew ?_ | with_reducible refine Below.alloc ?_ (by first | omega | (simp <;> omega)) _ | with_reducible refine Below.setCell ?_ (by first | omega | (dsimp only; omega)) _ | with_reducible refine bstep ?_ (by with_reducible assumption))) hb1
    have A1 := Lib.hid (HA.out.call B1)
    have z1 : w.heap.size + 0 < w1.heap.size := by have := hb1.size; simp at this; omega
    clear hb1
    have K1c0 := K1.c0
    have K1c1 := K1.c1
    have K1c2 := K1.c2
    have K1c3 := K1.c3
    have K1c4 := K1.c4
    have K1l := K1.lt
    go_wp2_with fail
    with_reducible refine (toPat_any f A B C A1.out HN.out).mono ?_
    rintro e w2 ⟨v2, rfl, r2, hb2⟩
    have K2 : Bx (w.heap.size) [.int .i64 f, .int .i64 A, .int .i64 B, .int .i64 C, .slice ao n cap] w2 := Bx.call K1 hb2
    have B2 : Below w.heap.size w w2 := bstep B1 hb2
    have A2 := Lib.hid (HA.out.call B2)
    have z2 : w1.heap.size ≤ w2.heap.size := hb2.size
    clear K1 B1 A1 K1c0 K1c1 K1c2 K1c3 K1c4 K1l hb2
    obtain ⟨ao2, cap2, rfl⟩ := r2.slice
    have q2 := Lib.hid r2
    clear r2
    go_wp2_with fail
    with_reducible refine (specST_any f A B C q2.out).mono ?_
    rintro e w3 hh
    unfold TAns at hh
    rw [← HMF.out.1, ← HMF.out.2.1, ← HMF.out.2.2.1, ← HMF.out.2.2.2] at hh
    obtain ⟨v3, rfl, rq3, hb3⟩ := hh
    simp only [cond_true, cond_false] at rq3
    obtain ⟨ao3, cap3, rfl⟩ := rq3.slice
    have K3 : Bx (w.heap.size) [.int .i64 f, .int .i64 A, .int .i64 B, .int .i64 C, .slice ao n cap] w3 := Bx.call K2 hb3
    have B3 : Below w.heap.size w w3 := bstep B2 hb3
    have A3 := Lib.hid (HA.out.call B3)
    have z3 : w2.heap.size ≤ w3.heap.size := hb3.size
    have q3 := Lib.hid (SRow.call q2.out hb3)
    clear K2 B2 A2 q2 hb3
    have y3 := Lib.hid rq3
    clear rq3
    clear q3
    have K3c0 := K3.c0
    have K3c1 := K3.c1
    have K3c2 := K3.c2
    have K3c3 := K3.c3
    have K3c4 := K3.c4
    have K3l := K3.lt
    go_wp2_with fail
    with_reducible refine (toPat_any f A B C A3.out HN.out).mono ?_
    rintro e w4 ⟨v4, rfl, r4, hb4⟩
    have K4 : Bx (w.heap.size) [.int .i64 f, .int .i64 A, .int .i64 B, .int .i64 C, .slice ao n cap] w4 := Bx.call K3 hb4
    have B4 : Below w.heap.size w w4 := bstep B3 hb4
    have A4 := Lib.hid (HA.out.call B4)
    have z4 : w3.heap.size ≤ w4.heap.size := hb4.size
    have y4 := Lib.hid (VRow.call y3.out hb4)
    clear K3 B3 A3 y3 K3c0 K3c1 K3c2 K3c3 K3c4 K3l hb4
    obtain ⟨ao4, cap4, rfl⟩ := r4.slice
    have x4 := Lib.hid r4
    clear r4
    go_wp2_with fail
    have K5 : Bx (w.heap.size) [.int .i64 f, .int .i64 A, .int .i64 B, .int .i64 C, .slice ao n cap] (w4.alloc (.cells #[.int .i64 f, .int .i64 A, .int .i64 B, .int .i64 C, .slice ao4 n cap4] 33)) := Bx.alloc K4 _
    have X5 : Bx (w4.heap.size) [.int .i64 f, .int .i64 A, .int .i64 B, .int .i64 C, .slice ao4 n cap4] (w4.alloc (.cells #[.int .i64 f, .int .i64 A, .int .i64 B, .int .i64 C, .slice ao4 n cap4] 33)) := Bx.at _ rfl
    have B5 : Below w.heap.size w (w4.alloc (.cells #[.int .i64 f, .int .i64 A, .int .i64 B, .int .i64 C, .slice ao4 n cap4] 33)) := bstep B4 (show Below w4.heap.size w4 (w4.alloc (.cells #[.int .i64 f, .int .i64 A, .int .i64 B, .int .i64 C, .slice ao4 n cap4] 33)) from (Below.refl _ _).alloc (Nat.le_refl _) _)
    have z5 : w4.heap.size + 1 ≤ (w4.alloc (.cells #[.int .i64 f, .int .i64 A, .int .i64 B, .int .i64 C, .slice ao4 n cap4] 33)).heap.size := by simp
    have y5 := Lib.hid (VRow.call y4.out (show Below w4.heap.size w4 (w4.alloc (.cells #[.int .i64 f, .int .i64 A, .int .i64 B, .int .i64 C, .slice ao4 n cap4] 33)) from (Below.refl _ _).alloc (Nat.le_refl _) _))
    have x5 := Lib.hid (SRow.call x4.out (show Below w4.heap.size w4 (w4.alloc (.cells #[.int .i64 f, .int .i64 A, .int .i64 B, .int .i64 C, .slice ao4 n cap4] 33)) from (Below.refl _ _).alloc (Nat.le_refl _) _))
    generalize hW5 : w4.alloc (.cells #[.int .i64 f, .int .i64 A, .int .i64 B, .int .i64 C, .slice ao4 n cap4] 33) = w5 at *
    clear hW5
    have A5 := Lib.hid (HA.out.call B5)
    clear K4 B4 A4 y4 x4
    with_reducible refine (implST_any f A B C x5.out (HU.out.call B5)).mono ?_
    rintro e w6 hh
    unfold TAns at hh
    rw [← HMF.out.1, ← HMF.out.2.1, ← HMF.out.2.2.1, ← HMF.out.2.2.2] at hh
    obtain ⟨v6, rfl, rq6, hb6⟩ := hh
    simp only [cond_true, cond_false] at rq6
    obtain ⟨ao6, cap6, rfl⟩ := rq6.slice
    have K6 : Bx (w.heap.size) [.int .i64 f, .int .i64 A, .int .i64 B, .int .i64 C, .slice ao n cap] w6 := Bx.call K5 hb6
    have X6 : Bx (w4.heap.size) [.int .i64 f, .int .i64 A, .int .i64 B, .int .i64 C, .slice ao4 n cap4] w6 := Bx.call X5 hb6
    have B6 : Below w.heap.size w w6 := bstep B5 hb6
    have A6 := Lib.hid (HA.out.call B6)
    have z6 : w5.heap.size ≤ w6.heap.size := hb6.size
    have y6 := Lib.hid (VRow.call y5.out hb6)
    have x6 := Lib.hid (SRow.call x5.out hb6)
    clear K5 X5 B5 A5 y5 x5 hb6
    have g6 := Lib.hid rq6
    clear rq6
    go_wp2_with fail
    with_reducible refine (eqVecSSd_any g6.out y6.out).mono ?_
    rintro e w7 ⟨rfl, hb7⟩
    have K7 : Bx (w.heap.size) [.int .i64 f, .int .i64 A, .int .i64 B, .int .i64 C, .slice ao n cap] w7 := Bx.call K6 hb7
    have X7 : Bx (w4.heap.size) [.int .i64 f, .int .i64 A, .int .i64 B, .int .i64 C, .slice ao4 n cap4] w7 := Bx.call X6 hb7
    have B7 : Below w.heap.size w w7 := bstep B6 hb7
    have A7 := Lib.hid (HA.out.call B7)
    have z7 : w6.heap.size ≤ w7.heap.size := hb7.size
    have y7 := Lib.hid (VRow.call y6.out hb7)
    have x7 := Lib.hid (SRow.call x6.out hb7)
    have g7 := Lib.hid (VRowD.call g6.out hb7)
    clear K6 X6 B6 A6 y6 x6 g6 hb7
    have K7c0 := K7.c0
    have K7c1 := K7.c1
    have K7c2 := K7.c2
    have K7c3 := K7.c3
    have K7c4 := K7.c4
    have K7l := K7.lt
    have X7c0 := X7.c0
    have X7c1 := X7.c1
    have X7c2 := X7.c2
    have X7c3 := X7.c3
    have X7c4 := X7.c4
    have X7l := X7.lt
    go_wp2_with fail
    go_region_held3 (fun W9 => (W9.cell? ⟨w.heap.size, 0, none⟩ = some (.int .i64 f) ∧ W9.cell? ⟨w.heap.size, 1, none⟩ = some (.int .i64 A) ∧ W9.cell? ⟨w.heap.size, 2, none⟩ = some (.int .i64 B) ∧ W9.cell? ⟨w.heap.size, 3, none⟩ = some (.int .i64 C) ∧ W9.cell? ⟨w.heap.size, 4, none⟩ = some (.slice ao n cap)) ∧ (W9.cell? ⟨w4.heap.size, 0, none⟩ = some (.int .i64 f) ∧ W9.cell? ⟨w4.heap.size, 1, none⟩ = some (.int .i64 A) ∧ W9.cell? ⟨w4.heap.size, 2, none⟩ = some (.int .i64 B) ∧ W9.cell? ⟨w4.heap.size, 3, none⟩ = some (.int .i64 C) ∧ W9.cell? ⟨w4.heap.size, 4, none⟩ = some (.slice ao4 n cap4))) ((refine (And.intro (Bx.cells5 ?_) (Bx.cells5 ?_))) <;> (repeat (first | with_reducible assumption | with_reducible refine Bx.drew ?_ | with_reducible refine Bx.alloc ?_ _ | with_reducible refine Bx.call ?_ (by with_reducible assumption))))
      (first
        | (go_at_call 11; with_reducible refine (toPat_any f A B C (A7.out.call (by repeat (first | with_reducible assumption | with_reducible exact Below.refl _ _ | with_reducible refine Below.drew ?_ | with_reducible refine Below.alloc ?_ (by first | omega | (simp <;> omega)) _ | with_reducible refine Below.setCell ?_ (by first | omega | (dsimp only; omega)) _ | with_reducible refine bstep ?_ (by with_reducible assumption)))) HN.out).mono ?_; rintro e u8p ⟨v8p, rfl, r8p, hb8p⟩; obtain ⟨ao8p, cap8p, rfl⟩ := r8p.slice; have c8p : Below w7.heap.size w7 u8p := (by repeat (first | with_reducible assumption | with_reducible exact Below.refl _ _ | with_reducible refine Below.drew ?_ | with_reducible refine Below.alloc ?_ (by first | omega | (simp <;> omega)) _ | with_reducible refine Below.setCell ?_ (by first | omega | (dsimp only; omega)) _ | with_reducible refine bstep ?_ (by with_reducible assumption))))
        | (go_at_call 14; with_reducible refine (eqPat_any f A B C (SRow.call x7.out (by repeat (first | with_reducible assumption | with_reducible exact Below.refl _ _ | with_reducible refine Below.drew ?_ | with_reducible refine Below.alloc ?_ (by first | omega | (simp <;> omega)) _ | with_reducible refine Below.setCell ?_ (by first | omega | (dsimp only; omega)) _ | with_reducible refine bstep ?_ (by with_reducible assumption)))) (SRow.call r8p (by repeat (first | with_reducible assumption | with_reducible exact Below.refl _ _ | with_reducible refine Below.drew ?_ | with_reducible refine Below.alloc ?_ (by first | omega | (simp <;> omega)) _ | with_reducible refine Below.setCell ?_ (by first | omega | (dsimp only; omega)) _ | with_reducible refine bstep ?_ (by with_reducible assumption))))).mono ?_; rintro e u8q ⟨rfl, hb8q⟩; have c8q : Below w7.heap.size w7 u8q := (by repeat (first | with_reducible assumption | with_reducible exact Below.refl _ _ | with_reducible refine Below.drew ?_ | with_reducible refine Below.alloc ?_ (by first | omega | (simp <;> omega)) _ | with_reducible refine Below.setCell ?_ (by first | omega | (dsimp only; omega)) _ | with_reducible refine bstep ?_ (by with_reducible assumption)))))
    all_goals
      obtain ⟨w8, hw8⟩ : ∃ z, z = u8q := ⟨_, rfl⟩
      subst hw8
      have K8 : Bx (w.heap.size) [.int .i64 f, .int .i64 A, .int .i64 B, .int .i64 C, .slice ao n cap] w8 := Bx.call K7 c8q
      have X8 : Bx (w4.heap.size) [.int .i64 f, .int .i64 A, .int .i64 B, .int .i64 C, .slice ao4 n cap4] w8 := Bx.call X7 c8q
      have B8 : Below w.heap.size w w8 := bstep B7 c8q
      have A8 := Lib.hid (HA.out.call B8)
      have z8 : w7.heap.size ≤ w8.heap.size := c8q.size
      have y8 := Lib.hid (VRow.call y7.out c8q)
      have x8 := Lib.hid (SRow.call x7.out c8q)
      have g8 := Lib.hid (VRowD.call g7.out c8q)
      clear K7 X7 B7 A7 y7 x7 g7 K7c0 K7c1 K7c2 K7c3 K7c4 K7l X7c0 X7c1 X7c2 X7c3 X7c4 X7l c8q
      have X8c0 := X8.c0
      have X8c1 := X8.c1
      have X8c2 := X8.c2
      have X8c3 := X8.c3
      have X8c4 := X8.c4
      have X8l := X8.lt
      go_wp2_with fail
      with_reducible refine (markPat_any f A B C x8.out (by omega)).mono ?_
      rintro e w9 ⟨rfl, rm9, hb9, hk9⟩
      have z9 : w8.heap.size ≤ w9.heap.size := hb9.size
      have K9 : Bx (w.heap.size) [.int .i64 f, .int .i64 A, .int .i64 B, .int .i64 C, .slice ao n cap] w9 := Bx.keepV K8 hk9 (SRow.off x8.out (by omega)) z9
      have B9 : Below w.heap.size w w9 := B8.trans (hb9.mono (by omega))
      have A9 := Lib.hid (HA.out.call B9)
      have y9 := Lib.hid (VRow.keepV y8.out hk9 (fun b9 h8 h9 => SRow.off x8.out (by omega)) z9)
      have g9 := Lib.hid (VRowD.keepV g8.out hk9 (fun b9 h8 h9 => SRow.off x8.out (by omega)) z9)
      clear rm9 hb9 hk9 K8 X8 B8 A8 y8 x8 g8 X8c0 X8c1 X8c2 X8c3 X8c4 X8l
      have hk9 : ¬ ((n : Int) * 1 + 1 < 0) := by omega
      go_wp2_with fail
      with_reducible refine (eqVecSSd_any g9.out y9.out).mono ?_
      rintro e w10 ⟨rfl, hb10⟩
      have K10 : Bx (w.heap.size) [.int .i64 f, .int .i64 A, .int .i64 B, .int .i64 C, .slice ao n cap] w10 := Bx.call K9 hb10
      have B10 : Below w.heap.size w w10 := bstep B9 hb10
      have A10 := Lib.hid (HA.out.call B10)
      have z10 : w9.heap.size ≤ w10.heap.size := hb10.size
      have y10 := Lib.hid (VRow.call y9.out hb10)
      have g10 := Lib.hid (VRowD.call g9.out hb10)
      clear K9 B9 A9 y9 g9 hb10
      go_wp2_with fail
      with_reducible refine (markVecSS_any g10.out).mono ?_
      rintro e w11 ⟨rfl, rm11, hb11⟩
      have z11 : w10.heap.size ≤ w11.heap.size := hb11.size
      have K11 : Bx (w.heap.size) [.int .i64 f, .int .i64 A, .int .i64 B, .int .i64 C, .slice ao n cap] w11 := K10.grow hb11 (by omega)
      have B11 : Below w.heap.size w w11 := B10.trans (hb11.mono (by omega))
      have A11 := Lib.hid (HA.out.call B11)
      have y11 := Lib.hid (VRow.grow y10.out hb11 (by omega))
      have g11 := Lib.hid rm11
      clear rm11 hb11 K10 B10 A10 y10 g10
      have hk8 : ¬ (((sumL Ln9 m9 * 2 + 1 : Nat) : Int) < 0) := by omega
      have hq8 : (((sumL Ln9 m9 * 2 + 1 : Nat) : Int) != ((sumL Ln9 m9 * 2 + 1 : Nat) : Int)) = false := by simp
      go_wp2_with fail
      with_reducible refine (heldVecSS_any g11.out).mono ?_
      rintro e w12 ⟨rfl, hb12⟩
      have K12 : Bx (w.heap.size) [.int .i64 f, .int .i64 A, .int .i64 B, .int .i64 C, .slice ao n cap] w12 := Bx.call K11 hb12
      have B12 : Below w.heap.size w w12 := bstep B11 hb12
      have A12 := Lib.hid (HA.out.call B12)
      have z12 : w11.heap.size ≤ w12.heap.size := hb12.size
      have y12 := Lib.hid (VRow.call y11.out hb12)
      have g12 := Lib.hid (VRow.call g11.out hb12)
      clear K11 B11 A11 y11 g11 hb12
      have K12c0 := K12.c0
      have K12c1 := K12.c1
      have K12c2 := K12.c2
      have K12c3 := K12.c3
      have K12c4 := K12.c4
      have K12l := K12.lt
      go_wp2_with fail
      with_reducible refine (toPat_any f A B C A12.out HN.out).mono ?_
      rintro e w13 ⟨v13, rfl, r13, hb13⟩
      have K13 : Bx (w.heap.size) [.int .i64 f, .int .i64 A, .int .i64 B, .int .i64 C, .slice ao n cap] w13 := Bx.call K12 hb13
      have B13 : Below w.heap.size w w13 := bstep B12 hb13
      have A13 := Lib.hid (HA.out.call B13)
      have z13 : w12.heap.size ≤ w13.heap.size := hb13.size
      have y13 := Lib.hid (VRow.call y12.out hb13)
      have g13 := Lib.hid (VRow.call g12.out hb13)
      clear K12 B12 A12 y12 g12 K12c0 K12c1 K12c2 K12c3 K12c4 K12l hb13
      obtain ⟨ao13, cap13, rfl⟩ := r13.slice
      have q13 := Lib.hid r13
      clear r13
      go_wp2_with fail
      with_reducible refine (implST_any f A B C q13.out (HU.out.call B13)).mono ?_
      rintro e w14 hh
      unfold TAns at hh
      rw [← HMF.out.1, ← HMF.out.2.1, ← HMF.out.2.2.1, ← HMF.out.2.2.2] at hh
      obtain ⟨v14, rfl, rq14, hb14⟩ := hh
      simp only [cond_true, cond_false] at rq14
      obtain ⟨ao14, cap14, rfl⟩ := rq14.slice
      have K14 : Bx (w.heap.size) [.int .i64 f, .int .i64 A, .int .i64 B, .int .i64 C, .slice ao n cap] w14 := Bx.call K13 hb14
      have B14 : Below w.heap.size w w14 := bstep B13 hb14
      have A14 := Lib.hid (HA.out.call B14)
      have z14 : w13.heap.size ≤ w14.heap.size := hb14.size
      have y14 := Lib.hid (VRow.call y13.out hb14)
      have g14 := Lib.hid (VRow.call g13.out hb14)
      have q14 := Lib.hid (SRow.call q13.out hb14)
      clear K13 B13 A13 y13 g13 q13 hb14
      have h14 := Lib.hid rq14
      clear rq14
      clear q14
      go_wp2_with fail
      with_reducible refine (eqVecSSd_any h14.out y14.out).mono ?_
      rintro e w15 ⟨rfl, hb15⟩
      have K15 : Bx (w.heap.size) [.int .i64 f, .int .i64 A, .int .i64 B, .int .i64 C, .slice ao n cap] w15 := Bx.call K14 hb15
      have B15 : Below w.heap.size w w15 := bstep B14 hb15
      have A15 := Lib.hid (HA.out.call B15)
      have z15 : w14.heap.size ≤ w15.heap.size := hb15.size
      have y15 := Lib.hid (VRow.call y14.out hb15)
      have g15 := Lib.hid (VRow.call g14.out hb15)
      have h15 := Lib.hid (VRowD.call h14.out hb15)
      clear K14 B14 A14 y14 g14 h14 hb15
      clear h15
      clear y15
      go_wp2_with fail
      with_reducible refine (heldVecSS_any g15.out).mono ?_
      rintro e w16 ⟨rfl, hb16⟩
      have K16 : Bx (w.heap.size) [.int .i64 f, .int .i64 A, .int .i64 B, .int .i64 C, .slice ao n cap] w16 := Bx.call K15 hb16
      have B16 : Below w.heap.size w w16 := bstep B15 hb16
      have A16 := Lib.hid (HA.out.call B16)
      have z16 : w15.heap.size ≤ w16.heap.size := hb16.size
      have g16 := Lib.hid (VRow.call g15.out hb16)
      clear K15 B15 A15 g15 hb16
      go_wp2
      all_goals
        first
        | (go_ret; exact ⟨rfl, B16⟩)
        | (exfalso; simp_all)
  · have hz : (if (n : Int) ≤ 1048576 then 1048576 - (n : Int) else -1) = -1 := if_neg (by omega)
    go_enter Tryd.func8, Tryd.ntmps8
    go_wp2_with fail
    refine (szPat_any f A B C ao n cap 1048576 _ hm (by omega)).mono ?_
    rintro e w1 ⟨rfl, hb1⟩
    rw [hz]
    go_wp2
    go_ret
    exact ⟨rfl, bstep (by repeat (first | with_reducible assumption | with_reducible exact Below.refl _ _ | with_reducible refine Below.drew ?_ | with_reducible refine Below.alloc ?_ (by first | omega | (simp <;> omega)) _ | with_reducible refine Below.setCell ?_ (by first | omega | (dsimp only; omega)) _ | with_reducible refine bstep ?_ (by with_reducible assumption))) hb1⟩
end Go.Proofs.YtkfdaepnjdnnmaaDoor
