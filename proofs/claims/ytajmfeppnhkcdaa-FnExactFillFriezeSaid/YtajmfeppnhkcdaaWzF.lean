/-
  The walk of the exact law of FillFrieze: the law returns true and writes nothing that was there. Condition: the list's length is one that a slice can have.
-/
import Derived.Test.YtajmfeppnhkcdaaFzI
namespace Go.Proofs.Ytajmfeppnhkcdaa
open Go.RowKit
set_option linter.unusedSimpArgs false
set_option linter.unusedVariables false

set_option maxRecDepth 100000 in
set_option maxHeartbeats 16000000 in
theorem walkFi (a b : Int) (v : Value) (n : Nat) (F : Nat → Int) (s : ByteArray) (w : World) (hA : ARw v n F w) (hm : n ≤ 9223372036854775807) (hs9 : s.size ≤ maxLen) :
    Calls Try.prog 3 #[.agg #[.int .i64 a, .int .i64 b, v], .string s] w fun e w' => e = .returned (.bool true) ∧ Below w.heap.size w w' := by
  have HA := Lib.hid hA
  obtain ⟨ao, cap, rfl, _⟩ := hA
  have hsz : (s.size : Int) ≤ 9223372036854775807 := by have := hs9; unfold maxLen at this; omega
  by_cases hs1 : 1048576 < (s.size : Int)
  · go_enter Try.func3, Try.ntmps3
    go_wp2
    go_ret
    exact ⟨rfl, (Below.refl _ _).alloc (Nat.le_refl _) _⟩
  by_cases hbig : n ≤ 1048576
  · have hz : (if (n : Int) ≤ 1048576 then 1048576 - (n : Int) else -1) = 1048576 - (n : Int) := if_pos (by omega)
    have HN := Lib.hid hbig
    have hn1 : ¬ (1048576 - (n : Int) < 0) := by omega
    clear hbig
    go_enter Try.func3, Try.ntmps3
    go_wp2_with fail
    with_reducible refine (szFr_any a b ao n cap 1048576 _ hm (by omega)).mono ?_
    rintro e w1 ⟨rfl, hb1⟩
    rw [hz]
    have Kb1 : Kf (w.heap.size) a b (.slice ao n cap) w1 := Kf.call (Kf.at _ rfl) hb1
    have B1 : Below w.heap.size w w1 := bstep ((Below.refl _ _).alloc (Nat.le_refl _) _) hb1
    have A1 := Lib.hid (HA.out.call B1)
    have z1 : w.heap.size < w1.heap.size := Kb1.lt
    clear hb1
    have Kb1c0 := Kb1.c0
    have Kb1c1 := Kb1.c1
    have Kb1c2 := Kb1.c2
    have Kb1l := Kb1.lt
    go_wp2_with fail
    with_reducible refine (toFr_any a b A1.out HN.out).mono ?_
    rintro e w2 ⟨v2, rfl, r2, hb2⟩
    have Kb2 : Kf (w.heap.size) a b (.slice ao n cap) w2 := Kf.call Kb1 hb2
    have B2 : Below w.heap.size w w2 := bstep B1 hb2
    have A2 := Lib.hid (HA.out.call B2)
    have z2 : w1.heap.size ≤ w2.heap.size := hb2.size
    clear Kb1 B1 A1 Kb1c0 Kb1c1 Kb1c2 Kb1l hb2
    obtain ⟨ao2, cap2, rfl⟩ := r2.slice
    have q2 := Lib.hid r2
    clear r2
    go_wp2_with fail
    with_reducible refine (specFi_any a b q2.out s).mono ?_
    rintro e w3 hh
    unfold FAns at hh
    obtain ⟨P3, Q3, m3, G3, c3, v3, hr3, rfl, rq3, hb3⟩ := hh
    obtain ⟨ao3, cap3, rfl⟩ := rq3.slice
    have HP := Lib.hid hr3
    clear hr3
    have Kb3 : Kf (w.heap.size) a b (.slice ao n cap) w3 := Kf.call Kb2 hb3
    have B3 : Below w.heap.size w w3 := bstep B2 hb3
    have A3 := Lib.hid (HA.out.call B3)
    have z3 : w2.heap.size ≤ w3.heap.size := hb3.size
    have q3 := Lib.hid (SRow.call q2.out hb3)
    clear Kb2 B2 A2 q2 hb3
    have y3 := Lib.hid rq3
    clear rq3
    clear q3
    have Kb3c0 := Kb3.c0
    have Kb3c1 := Kb3.c1
    have Kb3c2 := Kb3.c2
    have Kb3l := Kb3.lt
    go_wp2_with fail
    have Kb4 : Kf (w.heap.size) a b (.slice ao n cap) (w3.alloc (.cells #[.int .i64 P3, .int .i64 Q3, .slice ao3 m3 cap3] 26)) := Kf.alloc Kb3 _
    have Y4 : Kf (w3.heap.size) P3 Q3 (.slice ao3 m3 cap3) (w3.alloc (.cells #[.int .i64 P3, .int .i64 Q3, .slice ao3 m3 cap3] 26)) := Kf.at _ rfl
    have B4 : Below w.heap.size w (w3.alloc (.cells #[.int .i64 P3, .int .i64 Q3, .slice ao3 m3 cap3] 26)) := bstep B3 (show Below w3.heap.size w3 (w3.alloc (.cells #[.int .i64 P3, .int .i64 Q3, .slice ao3 m3 cap3] 26)) from (Below.refl _ _).alloc (Nat.le_refl _) _)
    have z4 : w3.heap.size + 1 ≤ (w3.alloc (.cells #[.int .i64 P3, .int .i64 Q3, .slice ao3 m3 cap3] 26)).heap.size := by simp
    have y4 := Lib.hid (SRow.call y3.out (show Below w3.heap.size w3 (w3.alloc (.cells #[.int .i64 P3, .int .i64 Q3, .slice ao3 m3 cap3] 26)) from (Below.refl _ _).alloc (Nat.le_refl _) _))
    generalize hW4 : w3.alloc (.cells #[.int .i64 P3, .int .i64 Q3, .slice ao3 m3 cap3] 26) = w4 at *
    clear hW4
    have A4 := Lib.hid (HA.out.call B4)
    clear Kb3 B3 A3 y3 Kb3c0 Kb3c1 Kb3c2 Kb3l
    with_reducible refine (toFr_any a b A4.out HN.out).mono ?_
    rintro e w5 ⟨v5, rfl, r5, hb5⟩
    have Kb5 : Kf (w.heap.size) a b (.slice ao n cap) w5 := Kf.call Kb4 hb5
    have Y5 : Kf (w3.heap.size) P3 Q3 (.slice ao3 m3 cap3) w5 := Kf.call Y4 hb5
    have B5 : Below w.heap.size w w5 := bstep B4 hb5
    have A5 := Lib.hid (HA.out.call B5)
    have z5 : w4.heap.size ≤ w5.heap.size := hb5.size
    have y5 := Lib.hid (SRow.call y4.out hb5)
    clear Kb4 Y4 B4 A4 y4 hb5
    obtain ⟨ao5, cap5, rfl⟩ := r5.slice
    have x5 := Lib.hid r5
    clear r5
    go_wp2_with fail
    have Kb6 : Kf (w.heap.size) a b (.slice ao n cap) (w5.alloc (.cells #[.int .i64 a, .int .i64 b, .slice ao5 n cap5] 26)) := Kf.alloc Kb5 _
    have Y6 : Kf (w3.heap.size) P3 Q3 (.slice ao3 m3 cap3) (w5.alloc (.cells #[.int .i64 a, .int .i64 b, .slice ao5 n cap5] 26)) := Kf.alloc Y5 _
    have X6 : Kf (w5.heap.size) a b (.slice ao5 n cap5) (w5.alloc (.cells #[.int .i64 a, .int .i64 b, .slice ao5 n cap5] 26)) := Kf.at _ rfl
    have B6 : Below w.heap.size w (w5.alloc (.cells #[.int .i64 a, .int .i64 b, .slice ao5 n cap5] 26)) := bstep B5 (show Below w5.heap.size w5 (w5.alloc (.cells #[.int .i64 a, .int .i64 b, .slice ao5 n cap5] 26)) from (Below.refl _ _).alloc (Nat.le_refl _) _)
    have z6 : w5.heap.size + 1 ≤ (w5.alloc (.cells #[.int .i64 a, .int .i64 b, .slice ao5 n cap5] 26)).heap.size := by simp
    have y6 := Lib.hid (SRow.call y5.out (show Below w5.heap.size w5 (w5.alloc (.cells #[.int .i64 a, .int .i64 b, .slice ao5 n cap5] 26)) from (Below.refl _ _).alloc (Nat.le_refl _) _))
    have x6 := Lib.hid (SRow.call x5.out (show Below w5.heap.size w5 (w5.alloc (.cells #[.int .i64 a, .int .i64 b, .slice ao5 n cap5] 26)) from (Below.refl _ _).alloc (Nat.le_refl _) _))
    generalize hW6 : w5.alloc (.cells #[.int .i64 a, .int .i64 b, .slice ao5 n cap5] 26) = w6 at *
    clear hW6
    have A6 := Lib.hid (HA.out.call B6)
    clear Kb5 Y5 B5 A5 y5 x5
    with_reducible refine (implFi_any a b x6.out s).mono ?_
    rintro e w7 hh
    unfold FAns at hh
    obtain ⟨P7, Q7, m7, G7, c7, v7, hr7, rfl, rq7, hb7⟩ := hh
    obtain ⟨ao7, cap7, rfl⟩ := rq7.slice
    obtain ⟨rfl, rfl, rfl, rfl, rfl⟩ : P3 = P7 ∧ Q3 = Q7 ∧ m3 = m7 ∧ G3 = G7 ∧ c3 = c7 := by have h9 := HP.out.symm.trans hr7; simpa using h9
    clear hr7
    have Kb7 : Kf (w.heap.size) a b (.slice ao n cap) w7 := Kf.call Kb6 hb7
    have Y7 : Kf (w3.heap.size) P3 Q3 (.slice ao3 m3 cap3) w7 := Kf.call Y6 hb7
    have X7 : Kf (w5.heap.size) a b (.slice ao5 n cap5) w7 := Kf.call X6 hb7
    have B7 : Below w.heap.size w w7 := bstep B6 hb7
    have A7 := Lib.hid (HA.out.call B7)
    have z7 : w6.heap.size ≤ w7.heap.size := hb7.size
    have y7 := Lib.hid (SRow.call y6.out hb7)
    have x7 := Lib.hid (SRow.call x6.out hb7)
    clear Kb6 Y6 X6 B6 A6 y6 x6 hb7
    have g7 := Lib.hid rq7
    clear rq7
    have Y7c0 := Y7.c0
    have Y7c1 := Y7.c1
    have Y7c2 := Y7.c2
    have Y7l := Y7.lt
    go_wp2_with fail
    have Kb8 : Kf (w.heap.size) a b (.slice ao n cap) (w7.alloc (.cells #[.int .i64 P3, .int .i64 Q3, .slice ao7 m3 cap7] 26)) := Kf.alloc Kb7 _
    have Y8 : Kf (w3.heap.size) P3 Q3 (.slice ao3 m3 cap3) (w7.alloc (.cells #[.int .i64 P3, .int .i64 Q3, .slice ao7 m3 cap7] 26)) := Kf.alloc Y7 _
    have X8 : Kf (w5.heap.size) a b (.slice ao5 n cap5) (w7.alloc (.cells #[.int .i64 P3, .int .i64 Q3, .slice ao7 m3 cap7] 26)) := Kf.alloc X7 _
    have G8 : Kf (w7.heap.size) P3 Q3 (.slice ao7 m3 cap7) (w7.alloc (.cells #[.int .i64 P3, .int .i64 Q3, .slice ao7 m3 cap7] 26)) := Kf.at _ rfl
    have B8 : Below w.heap.size w (w7.alloc (.cells #[.int .i64 P3, .int .i64 Q3, .slice ao7 m3 cap7] 26)) := bstep B7 (show Below w7.heap.size w7 (w7.alloc (.cells #[.int .i64 P3, .int .i64 Q3, .slice ao7 m3 cap7] 26)) from (Below.refl _ _).alloc (Nat.le_refl _) _)
    have z8 : w7.heap.size + 1 ≤ (w7.alloc (.cells #[.int .i64 P3, .int .i64 Q3, .slice ao7 m3 cap7] 26)).heap.size := by simp
    have y8 := Lib.hid (SRow.call y7.out (show Below w7.heap.size w7 (w7.alloc (.cells #[.int .i64 P3, .int .i64 Q3, .slice ao7 m3 cap7] 26)) from (Below.refl _ _).alloc (Nat.le_refl _) _))
    have x8 := Lib.hid (SRow.call x7.out (show Below w7.heap.size w7 (w7.alloc (.cells #[.int .i64 P3, .int .i64 Q3, .slice ao7 m3 cap7] 26)) from (Below.refl _ _).alloc (Nat.le_refl _) _))
    have g8 := Lib.hid (SRow.call g7.out (show Below w7.heap.size w7 (w7.alloc (.cells #[.int .i64 P3, .int .i64 Q3, .slice ao7 m3 cap7] 26)) from (Below.refl _ _).alloc (Nat.le_refl _) _))
    generalize hW8 : w7.alloc (.cells #[.int .i64 P3, .int .i64 Q3, .slice ao7 m3 cap7] 26) = w8 at *
    clear hW8
    have A8 := Lib.hid (HA.out.call B8)
    clear Kb7 Y7 X7 B7 A7 y7 x7 g7 Y7c0 Y7c1 Y7c2 Y7l
    with_reducible refine (eqFr_any P3 Q3 g8.out y8.out).mono ?_
    rintro e w9 ⟨rfl, hb9⟩
    have Kb9 : Kf (w.heap.size) a b (.slice ao n cap) w9 := Kf.call Kb8 hb9
    have Y9 : Kf (w3.heap.size) P3 Q3 (.slice ao3 m3 cap3) w9 := Kf.call Y8 hb9
    have X9 : Kf (w5.heap.size) a b (.slice ao5 n cap5) w9 := Kf.call X8 hb9
    have G9 : Kf (w7.heap.size) P3 Q3 (.slice ao7 m3 cap7) w9 := Kf.call G8 hb9
    have B9 : Below w.heap.size w w9 := bstep B8 hb9
    have A9 := Lib.hid (HA.out.call B9)
    have z9 : w8.heap.size ≤ w9.heap.size := hb9.size
    have y9 := Lib.hid (SRow.call y8.out hb9)
    have x9 := Lib.hid (SRow.call x8.out hb9)
    have g9 := Lib.hid (SRow.call g8.out hb9)
    clear Kb8 Y8 X8 G8 B8 A8 y8 x8 g8 hb9
    have Kb9c0 := Kb9.c0
    have Kb9c1 := Kb9.c1
    have Kb9c2 := Kb9.c2
    have Kb9l := Kb9.lt
    have X9c0 := X9.c0
    have X9c1 := X9.c1
    have X9c2 := X9.c2
    have X9l := X9.lt
    go_wp2_with fail
    go_region_held3 (fun W => (W.cell? ⟨w.heap.size, 0, none⟩ = some (.int .i64 a) ∧ W.cell? ⟨w.heap.size, 1, none⟩ = some (.int .i64 b) ∧ W.cell? ⟨w.heap.size, 2, none⟩ = some (.slice ao n cap)) ∧ (W.cell? ⟨w5.heap.size, 0, none⟩ = some (.int .i64 a) ∧ W.cell? ⟨w5.heap.size, 1, none⟩ = some (.int .i64 b) ∧ W.cell? ⟨w5.heap.size, 2, none⟩ = some (.slice ao5 n cap5))) ((refine And.intro (Kf.cells ?_) (Kf.cells ?_)) <;> (repeat (first | with_reducible assumption | (with_reducible exact KF.at _ (by first | with_reducible rfl | (simp; done))) | with_reducible refine Kf.drew ?_ | with_reducible refine K3.drew ?_ | with_reducible refine KF.drew ?_ | with_reducible refine Kf.alloc ?_ _ | with_reducible refine K3.alloc ?_ _ | with_reducible refine KF.alloc ?_ _ | with_reducible refine Kf.call ?_ (by with_reducible assumption) | with_reducible refine K3.call ?_ (by with_reducible assumption) | with_reducible refine KF.call ?_ (by with_reducible assumption) | ((with_reducible refine Kf.far ?_ ?_); (first | omega | (dsimp only; omega))) | ((with_reducible refine K3.far ?_ ?_); (first | omega | (dsimp only; omega))))))
      (first
        | (go_at_call 10; with_reducible refine (toFr_any a b (A9.out.call (by repeat (first | with_reducible assumption | with_reducible exact Below.refl _ _ | with_reducible refine Below.drew ?_ | with_reducible refine Below.alloc ?_ (by first | omega | (simp <;> omega)) _ | with_reducible refine Below.setCell ?_ (by first | omega | (dsimp only; omega)) _ | with_reducible refine bstep ?_ (by with_reducible assumption)))) HN.out).mono ?_; rintro e w10 ⟨v10, rfl, s10, hb10⟩; have c10 : Below w9.heap.size w9 w10 := (by repeat (first | with_reducible assumption | with_reducible exact Below.refl _ _ | with_reducible refine Below.drew ?_ | with_reducible refine Below.alloc ?_ (by first | omega | (simp <;> omega)) _ | with_reducible refine Below.setCell ?_ (by first | omega | (dsimp only; omega)) _ | with_reducible refine bstep ?_ (by with_reducible assumption))); have k910 := Kf.call Kb9 c10; have x910 := Kf.call X9 c10)
        | (go_at_call 12; with_reducible refine (eqFr_any a b (SRow.call x9.out (by repeat (first | with_reducible assumption | with_reducible exact Below.refl _ _ | with_reducible refine Below.drew ?_ | with_reducible refine Below.alloc ?_ (by first | omega | (simp <;> omega)) _ | with_reducible refine Below.setCell ?_ (by first | omega | (dsimp only; omega)) _ | with_reducible refine bstep ?_ (by with_reducible assumption)))) (SRow.call s10 (by repeat (first | with_reducible assumption | with_reducible exact Below.refl _ _ | with_reducible refine Below.drew ?_ | with_reducible refine Below.alloc ?_ (by first | omega | (simp <;> omega)) _ | with_reducible refine Below.setCell ?_ (by first | omega | (dsimp only; omega)) _ | with_reducible refine bstep ?_ (by with_reducible assumption))))).mono ?_; rintro e w11 ⟨rfl, hb11⟩; have c11 : Below w9.heap.size w9 w11 := (by repeat (first | with_reducible assumption | with_reducible exact Below.refl _ _ | with_reducible refine Below.drew ?_ | with_reducible refine Below.alloc ?_ (by first | omega | (simp <;> omega)) _ | with_reducible refine Below.setCell ?_ (by first | omega | (dsimp only; omega)) _ | with_reducible refine bstep ?_ (by with_reducible assumption)))))
    all_goals
      have Kb11 : Kf (w.heap.size) a b (.slice ao n cap) w11 := Kf.call Kb9 c11
      have Y11 : Kf (w3.heap.size) P3 Q3 (.slice ao3 m3 cap3) w11 := Kf.call Y9 c11
      have X11 : Kf (w5.heap.size) a b (.slice ao5 n cap5) w11 := Kf.call X9 c11
      have G11 : Kf (w7.heap.size) P3 Q3 (.slice ao7 m3 cap7) w11 := Kf.call G9 c11
      have B11 : Below w.heap.size w w11 := bstep B9 c11
      have A11 := Lib.hid (HA.out.call B11)
      have z11 : w9.heap.size ≤ w11.heap.size := c11.size
      have y11 := Lib.hid (SRow.call y9.out c11)
      have x11 := Lib.hid (SRow.call x9.out c11)
      have g11 := Lib.hid (SRow.call g9.out c11)
      clear Kb9 Y9 X9 G9 B9 A9 s10 hb10 c10 hb11 c11 k910 x910 y9 x9 g9 Kb9c0 Kb9c1 Kb9c2 Kb9l X9c0 X9c1 X9c2 X9l
      have X11c0 := X11.c0
      have X11c1 := X11.c1
      have X11c2 := X11.c2
      have X11l := X11.lt
      go_wp2_with fail
      with_reducible refine (markFr_any a b x11.out (by omega)).mono ?_
      rintro e w12 ⟨rfl, rm12, hb12, hk12⟩
      have z12 : w11.heap.size ≤ w12.heap.size := hb12.size
      have Kb12 : Kf (w.heap.size) a b (.slice ao n cap) w12 := Kf.keepV Kb11 hk12 (SRow.off x11.out (by omega)) z12
      have Y12 : Kf (w3.heap.size) P3 Q3 (.slice ao3 m3 cap3) w12 := Kf.keepV Y11 hk12 (SRow.off x11.out (by omega)) z12
      have X12 : Kf (w5.heap.size) a b (.slice ao5 n cap5) w12 := Kf.keepV X11 hk12 (SRow.off x11.out (by omega)) z12
      have G12 : Kf (w7.heap.size) P3 Q3 (.slice ao7 m3 cap7) w12 := Kf.keepV G11 hk12 (SRow.off x11.out (by omega)) z12
      have B12 : Below w.heap.size w w12 := B11.trans (hb12.mono (by omega))
      have A12 := Lib.hid (HA.out.call B12)
      have y12 := Lib.hid (SRow.keepV y11.out hk12 (fun b9 h8 h9 => SRow.off x11.out (by omega)) z12)
      have g12 := Lib.hid (SRow.keepV g11.out hk12 (fun b9 h8 h9 => SRow.off x11.out (by omega)) z12)
      have x12 := Lib.hid rm12
      clear rm12 hb12 hk12 Kb11 Y11 X11 G11 B11 A11 y11 x11 g11 X11c0 X11c1 X11c2 X11l
      clear x12
      clear X12
      have hk9 : ¬ ((n : Int) * 1 + 1 < 0) := by omega
      have G12c0 := G12.c0
      have G12c1 := G12.c1
      have G12c2 := G12.c2
      have G12l := G12.lt
      have Y12c0 := Y12.c0
      have Y12c1 := Y12.c1
      have Y12c2 := Y12.c2
      have Y12l := Y12.lt
      go_wp2_with fail
      with_reducible refine (eqFr_any P3 Q3 g12.out y12.out).mono ?_
      rintro e w13 ⟨rfl, hb13⟩
      have Kb13 : Kf (w.heap.size) a b (.slice ao n cap) w13 := Kf.call Kb12 hb13
      have Y13 : Kf (w3.heap.size) P3 Q3 (.slice ao3 m3 cap3) w13 := Kf.call Y12 hb13
      have G13 : Kf (w7.heap.size) P3 Q3 (.slice ao7 m3 cap7) w13 := Kf.call G12 hb13
      have B13 : Below w.heap.size w w13 := bstep B12 hb13
      have A13 := Lib.hid (HA.out.call B13)
      have z13 : w12.heap.size ≤ w13.heap.size := hb13.size
      have y13 := Lib.hid (SRow.call y12.out hb13)
      have g13 := Lib.hid (SRow.call g12.out hb13)
      clear Kb12 Y12 G12 B12 A12 y12 g12 G12c0 G12c1 G12c2 G12l Y12c0 Y12c1 Y12c2 Y12l hb13
      have G13c0 := G13.c0
      have G13c1 := G13.c1
      have G13c2 := G13.c2
      have G13l := G13.lt
      go_wp2_with fail
      with_reducible refine (markFr_any P3 Q3 g13.out (by omega)).mono ?_
      rintro e w14 ⟨rfl, rm14, hb14, hk14⟩
      have z14 : w13.heap.size ≤ w14.heap.size := hb14.size
      have Kb14 : Kf (w.heap.size) a b (.slice ao n cap) w14 := Kf.keepV Kb13 hk14 (SRow.off g13.out (by omega)) z14
      have Y14 : Kf (w3.heap.size) P3 Q3 (.slice ao3 m3 cap3) w14 := Kf.keepV Y13 hk14 (SRow.off g13.out (by omega)) z14
      have G14 : Kf (w7.heap.size) P3 Q3 (.slice ao7 m3 cap7) w14 := Kf.keepV G13 hk14 (SRow.off g13.out (by omega)) z14
      have B14 : Below w.heap.size w w14 := B13.trans (hb14.mono (by omega))
      have A14 := Lib.hid (HA.out.call B14)
      have y14 := Lib.hid (SRow.keepV y13.out hk14 (fun b9 h8 h9 => SRow.off g13.out (by omega)) z14)
      have g14 := Lib.hid rm14
      clear rm14 hb14 hk14 Kb13 Y13 G13 B13 A13 y13 g13 G13c0 G13c1 G13c2 G13l
      have hk8 : ¬ ((m3 : Int) * 1 + 1 < 0) := by have := g14.out.2.1; omega
      have hq8 : (((m3 : Int) * 1 + 1) != (m3 : Int) * 1 + 1) = false := by simp
      have hm8 : (m3 : Int) ≤ 2000000 := by have := g14.out.2.1; omega
      have G14c0 := G14.c0
      have G14c1 := G14.c1
      have G14c2 := G14.c2
      have G14l := G14.lt
      go_wp2_with fail
      with_reducible refine (heldFr_any P3 Q3 g14.out).mono ?_
      rintro e w15 ⟨rfl, hb15⟩
      have Kb15 : Kf (w.heap.size) a b (.slice ao n cap) w15 := Kf.call Kb14 hb15
      have Y15 : Kf (w3.heap.size) P3 Q3 (.slice ao3 m3 cap3) w15 := Kf.call Y14 hb15
      have G15 : Kf (w7.heap.size) P3 Q3 (.slice ao7 m3 cap7) w15 := Kf.call G14 hb15
      have B15 : Below w.heap.size w w15 := bstep B14 hb15
      have A15 := Lib.hid (HA.out.call B15)
      have z15 : w14.heap.size ≤ w15.heap.size := hb15.size
      have y15 := Lib.hid (SRow.call y14.out hb15)
      have g15 := Lib.hid (SRow.call g14.out hb15)
      clear Kb14 Y14 G14 B14 A14 y14 g14 G14c0 G14c1 G14c2 G14l hb15
      have Kb15c0 := Kb15.c0
      have Kb15c1 := Kb15.c1
      have Kb15c2 := Kb15.c2
      have Kb15l := Kb15.lt
      go_wp2_with fail
      with_reducible refine (toFr_any a b A15.out HN.out).mono ?_
      rintro e w16 ⟨v16, rfl, r16, hb16⟩
      have Kb16 : Kf (w.heap.size) a b (.slice ao n cap) w16 := Kf.call Kb15 hb16
      have Y16 : Kf (w3.heap.size) P3 Q3 (.slice ao3 m3 cap3) w16 := Kf.call Y15 hb16
      have G16 : Kf (w7.heap.size) P3 Q3 (.slice ao7 m3 cap7) w16 := Kf.call G15 hb16
      have B16 : Below w.heap.size w w16 := bstep B15 hb16
      have A16 := Lib.hid (HA.out.call B16)
      have z16 : w15.heap.size ≤ w16.heap.size := hb16.size
      have y16 := Lib.hid (SRow.call y15.out hb16)
      have g16 := Lib.hid (SRow.call g15.out hb16)
      clear Kb15 Y15 G15 B15 A15 y15 g15 Kb15c0 Kb15c1 Kb15c2 Kb15l hb16
      obtain ⟨ao16, cap16, rfl⟩ := r16.slice
      have q16 := Lib.hid r16
      clear r16
      go_wp2_with fail
      with_reducible refine (implFi_any a b q16.out s).mono ?_
      rintro e w17 hh
      unfold FAns at hh
      obtain ⟨P17, Q17, m17, G17, c17, v17, hr17, rfl, rq17, hb17⟩ := hh
      obtain ⟨ao17, cap17, rfl⟩ := rq17.slice
      obtain ⟨rfl, rfl, rfl, rfl, rfl⟩ : P3 = P17 ∧ Q3 = Q17 ∧ m3 = m17 ∧ G3 = G17 ∧ c3 = c17 := by have h9 := HP.out.symm.trans hr17; simpa using h9
      clear hr17
      have Kb17 : Kf (w.heap.size) a b (.slice ao n cap) w17 := Kf.call Kb16 hb17
      have Y17 : Kf (w3.heap.size) P3 Q3 (.slice ao3 m3 cap3) w17 := Kf.call Y16 hb17
      have G17 : Kf (w7.heap.size) P3 Q3 (.slice ao7 m3 cap7) w17 := Kf.call G16 hb17
      have B17 : Below w.heap.size w w17 := bstep B16 hb17
      have A17 := Lib.hid (HA.out.call B17)
      have z17 : w16.heap.size ≤ w17.heap.size := hb17.size
      have y17 := Lib.hid (SRow.call y16.out hb17)
      have g17 := Lib.hid (SRow.call g16.out hb17)
      have q17 := Lib.hid (SRow.call q16.out hb17)
      clear Kb16 Y16 G16 B16 A16 y16 g16 q16 hb17
      have h17 := Lib.hid rq17
      clear rq17
      clear q17
      have Y17c0 := Y17.c0
      have Y17c1 := Y17.c1
      have Y17c2 := Y17.c2
      have Y17l := Y17.lt
      go_wp2_with fail
      have Kb18 : Kf (w.heap.size) a b (.slice ao n cap) (w17.alloc (.cells #[.int .i64 P3, .int .i64 Q3, .slice ao17 m3 cap17] 26)) := Kf.alloc Kb17 _
      have Y18 : Kf (w3.heap.size) P3 Q3 (.slice ao3 m3 cap3) (w17.alloc (.cells #[.int .i64 P3, .int .i64 Q3, .slice ao17 m3 cap17] 26)) := Kf.alloc Y17 _
      have G18 : Kf (w7.heap.size) P3 Q3 (.slice ao7 m3 cap7) (w17.alloc (.cells #[.int .i64 P3, .int .i64 Q3, .slice ao17 m3 cap17] 26)) := Kf.alloc G17 _
      have H18 : Kf (w17.heap.size) P3 Q3 (.slice ao17 m3 cap17) (w17.alloc (.cells #[.int .i64 P3, .int .i64 Q3, .slice ao17 m3 cap17] 26)) := Kf.at _ rfl
      have B18 : Below w.heap.size w (w17.alloc (.cells #[.int .i64 P3, .int .i64 Q3, .slice ao17 m3 cap17] 26)) := bstep B17 (show Below w17.heap.size w17 (w17.alloc (.cells #[.int .i64 P3, .int .i64 Q3, .slice ao17 m3 cap17] 26)) from (Below.refl _ _).alloc (Nat.le_refl _) _)
      have z18 : w17.heap.size + 1 ≤ (w17.alloc (.cells #[.int .i64 P3, .int .i64 Q3, .slice ao17 m3 cap17] 26)).heap.size := by simp
      have y18 := Lib.hid (SRow.call y17.out (show Below w17.heap.size w17 (w17.alloc (.cells #[.int .i64 P3, .int .i64 Q3, .slice ao17 m3 cap17] 26)) from (Below.refl _ _).alloc (Nat.le_refl _) _))
      have g18 := Lib.hid (SRow.call g17.out (show Below w17.heap.size w17 (w17.alloc (.cells #[.int .i64 P3, .int .i64 Q3, .slice ao17 m3 cap17] 26)) from (Below.refl _ _).alloc (Nat.le_refl _) _))
      have h18 := Lib.hid (SRow.call h17.out (show Below w17.heap.size w17 (w17.alloc (.cells #[.int .i64 P3, .int .i64 Q3, .slice ao17 m3 cap17] 26)) from (Below.refl _ _).alloc (Nat.le_refl _) _))
      generalize hW18 : w17.alloc (.cells #[.int .i64 P3, .int .i64 Q3, .slice ao17 m3 cap17] 26) = w18 at *
      clear hW18
      have A18 := Lib.hid (HA.out.call B18)
      clear Kb17 Y17 G17 B17 A17 y17 g17 h17 Y17c0 Y17c1 Y17c2 Y17l
      with_reducible refine (eqFr_any P3 Q3 h18.out y18.out).mono ?_
      rintro e w19 ⟨rfl, hb19⟩
      have Kb19 : Kf (w.heap.size) a b (.slice ao n cap) w19 := Kf.call Kb18 hb19
      have Y19 : Kf (w3.heap.size) P3 Q3 (.slice ao3 m3 cap3) w19 := Kf.call Y18 hb19
      have G19 : Kf (w7.heap.size) P3 Q3 (.slice ao7 m3 cap7) w19 := Kf.call G18 hb19
      have H19 : Kf (w17.heap.size) P3 Q3 (.slice ao17 m3 cap17) w19 := Kf.call H18 hb19
      have B19 : Below w.heap.size w w19 := bstep B18 hb19
      have A19 := Lib.hid (HA.out.call B19)
      have z19 : w18.heap.size ≤ w19.heap.size := hb19.size
      have y19 := Lib.hid (SRow.call y18.out hb19)
      have g19 := Lib.hid (SRow.call g18.out hb19)
      have h19 := Lib.hid (SRow.call h18.out hb19)
      clear Kb18 Y18 G18 H18 B18 A18 y18 g18 h18 hb19
      clear h19
      clear y19
      clear H19
      clear Y19
      have G19c0 := G19.c0
      have G19c1 := G19.c1
      have G19c2 := G19.c2
      have G19l := G19.lt
      go_wp2_with fail
      with_reducible refine (heldFr_any P3 Q3 g19.out).mono ?_
      rintro e w20 ⟨rfl, hb20⟩
      have Kb20 : Kf (w.heap.size) a b (.slice ao n cap) w20 := Kf.call Kb19 hb20
      have G20 : Kf (w7.heap.size) P3 Q3 (.slice ao7 m3 cap7) w20 := Kf.call G19 hb20
      have B20 : Below w.heap.size w w20 := bstep B19 hb20
      have A20 := Lib.hid (HA.out.call B20)
      have z20 : w19.heap.size ≤ w20.heap.size := hb20.size
      have g20 := Lib.hid (SRow.call g19.out hb20)
      clear Kb19 G19 B19 A19 g19 G19c0 G19c1 G19c2 G19l hb20
      go_wp2
      go_ret
      exact ⟨rfl, B20⟩
  · have hz : (if (n : Int) ≤ 1048576 then 1048576 - (n : Int) else -1) = -1 := if_neg (by omega)
    go_enter Try.func3, Try.ntmps3
    go_wp2_with fail
    refine (szFr_any a b ao n cap 1048576 _ hm (by omega)).mono ?_
    rintro e w1 ⟨rfl, hb1⟩
    rw [hz]
    go_wp2
    go_ret
    exact ⟨rfl, bstep (by repeat (first | with_reducible assumption | with_reducible exact Below.refl _ _ | with_reducible refine Below.drew ?_ | with_reducible refine below_drewN ?_ _ | with_reducible refine Below.alloc ?_ (by first | omega | (simp <;> omega)) _ | with_reducible refine bstep ?_ (by with_reducible assumption))) hb1⟩
end Go.Proofs.Ytajmfeppnhkcdaa
