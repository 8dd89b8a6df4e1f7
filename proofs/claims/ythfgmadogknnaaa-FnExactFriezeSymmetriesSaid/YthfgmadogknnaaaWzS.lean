/-
  The walk of the exact law of FriezeSymmetries: the law returns true and writes nothing that was there. Condition: the list's length is one that a slice can have.
-/
import Derived.Test.YthfgmadogknnaaaFzH
import Derived.Test.YthfgmadogknnaaaFzL
namespace Go.Proofs.Ythfgmadogknnaaa
open Go.RowKit
set_option linter.unusedSimpArgs false
set_option linter.unusedVariables false

set_option maxRecDepth 100000 in
set_option maxHeartbeats 16000000 in
theorem walkSym (a b : Int) (v : Value) (n : Nat) (F : Nat → Int) (w : World) (hA : ARw v n F w) (hm : n ≤ 9223372036854775807) :
    Calls Try.prog 7 #[.agg #[.int .i64 a, .int .i64 b, v]] w fun e w' => e = .returned (.bool true) ∧ Below w.heap.size w w' := by
  have HA := Lib.hid hA
  obtain ⟨ao, cap, rfl, _⟩ := hA
  by_cases hbig : n ≤ 1048576
  · have hz : (if (n : Int) ≤ 1048576 then 1048576 - (n : Int) else -1) = 1048576 - (n : Int) := if_pos (by omega)
    have HN := Lib.hid hbig
    have hn1 : ¬ (1048576 - (n : Int) < 0) := by omega
    clear hbig
    go_enter Try.func7, Try.ntmps7
    go_wp2_with fail
    with_reducible refine (szFr_any a b ao n cap 1048576 _ hm (by omega)).mono ?_
    rintro e w1 ⟨rfl, hb1⟩
    rw [hz]
    have Kb1 : Kf (w.heap.size) a b (.slice ao n cap) w1 := Kf.call (Kf.at _ rfl) hb1
    have B1 : Below w.heap.size w w1 := bstep ((Below.refl _ _).alloc (Nat.le_refl _) _) hb1
    have A1 := Lib.hid (HA.out.call B1)
    have z1 : w.heap.size < w1.heap.size := Kb1.lt
    clear hb1
    have Kb1c0 := Kb1.c0
    have Kb1c1 := Kb1.c1
    have Kb1c2 := Kb1.c2
    have Kb1l := Kb1.lt
    go_wp2_with fail
    with_reducible refine (toFr_any a b A1.out HN.out).mono ?_
    rintro e w2 ⟨v2, rfl, r2, hb2⟩
    have Kb2 : Kf (w.heap.size) a b (.slice ao n cap) w2 := Kf.call Kb1 hb2
    have B2 : Below w.heap.size w w2 := bstep B1 hb2
    have A2 := Lib.hid (HA.out.call B2)
    have z2 : w1.heap.size ≤ w2.heap.size := hb2.size
    clear Kb1 B1 A1 Kb1c0 Kb1c1 Kb1c2 Kb1l hb2
    obtain ⟨ao2, cap2, rfl⟩ := r2.slice
    have q2 := Lib.hid r2
    clear r2
    go_wp2_with fail
    with_reducible refine (specSym_any a b q2.out).mono ?_
    rintro e w3 hh
    unfold SAns at hh
    obtain ⟨L3, c3, v3, hr3, rfl, ho3, hb3⟩ := hh
    have hl96 : L3.length ≤ 96 := by have h9 := symA_len a b n F; rw [hr3] at h9; exact h9
    have HP := Lib.hid hr3
    clear hr3
    have rm3 := MRow.of ho3 (by omega)
    obtain ⟨ao3, cap3, rfl⟩ := MRow.slice rm3
    have Kb3 : Kf (w.heap.size) a b (.slice ao n cap) w3 := Kf.call Kb2 hb3
    have B3 : Below w.heap.size w w3 := bstep B2 hb3
    have A3 := Lib.hid (HA.out.call B3)
    have z3 : w2.heap.size ≤ w3.heap.size := hb3.size
    have q3 := Lib.hid (SRow.call q2.out hb3)
    clear Kb2 B2 A2 q2 hb3
    have y3 := Lib.hid rm3
    clear rm3 ho3
    clear q3
    have Kb3c0 := Kb3.c0
    have Kb3c1 := Kb3.c1
    have Kb3c2 := Kb3.c2
    have Kb3l := Kb3.lt
    go_wp2_with fail
    with_reducible refine (toFr_any a b A3.out HN.out).mono ?_
    rintro e w4 ⟨v4, rfl, r4, hb4⟩
    have Kb4 : Kf (w.heap.size) a b (.slice ao n cap) w4 := Kf.call Kb3 hb4
    have B4 : Below w.heap.size w w4 := bstep B3 hb4
    have A4 := Lib.hid (HA.out.call B4)
    have z4 : w3.heap.size ≤ w4.heap.size := hb4.size
    have y4 := Lib.hid (MRow.call y3.out hb4)
    clear Kb3 B3 A3 y3 Kb3c0 Kb3c1 Kb3c2 Kb3l hb4
    obtain ⟨ao4, cap4, rfl⟩ := r4.slice
    have x4 := Lib.hid r4
    clear r4
    go_wp2_with fail
    have Kb5 : Kf (w.heap.size) a b (.slice ao n cap) (w4.alloc (.cells #[.int .i64 a, .int .i64 b, .slice ao4 n cap4] 27)) := Kf.alloc Kb4 _
    have X5 : Kf (w4.heap.size) a b (.slice ao4 n cap4) (w4.alloc (.cells #[.int .i64 a, .int .i64 b, .slice ao4 n cap4] 27)) := Kf.at _ rfl
    have B5 : Below w.heap.size w (w4.alloc (.cells #[.int .i64 a, .int .i64 b, .slice ao4 n cap4] 27)) := bstep B4 (show Below w4.heap.size w4 (w4.alloc (.cells #[.int .i64 a, .int .i64 b, .slice ao4 n cap4] 27)) from (Below.refl _ _).alloc (Nat.le_refl _) _)
    have z5 : w4.heap.size + 1 ≤ (w4.alloc (.cells #[.int .i64 a, .int .i64 b, .slice ao4 n cap4] 27)).heap.size := by simp
    have y5 := Lib.hid (MRow.call y4.out (show Below w4.heap.size w4 (w4.alloc (.cells #[.int .i64 a, .int .i64 b, .slice ao4 n cap4] 27)) from (Below.refl _ _).alloc (Nat.le_refl _) _))
    have x5 := Lib.hid (SRow.call x4.out (show Below w4.heap.size w4 (w4.alloc (.cells #[.int .i64 a, .int .i64 b, .slice ao4 n cap4] 27)) from (Below.refl _ _).alloc (Nat.le_refl _) _))
    generalize hW5 : w4.alloc (.cells #[.int .i64 a, .int .i64 b, .slice ao4 n cap4] 27) = w5 at *
    clear hW5
    have A5 := Lib.hid (HA.out.call B5)
    clear Kb4 B4 A4 y4 x4
    with_reducible refine (implSym_any a b x5.out).mono ?_
    rintro e w6 hh
    unfold SAns at hh
    obtain ⟨L6, c6, v6, hr6, rfl, ho6, hb6⟩ := hh
    obtain ⟨rfl, rfl⟩ : L3 = L6 ∧ c3 = c6 := by have h9 := HP.out.symm.trans hr6; simpa using h9
    clear hr6
    have rm6 := MRow.of ho6 (by omega)
    obtain ⟨ao6, cap6, rfl⟩ := MRow.slice rm6
    have Kb6 : Kf (w.heap.size) a b (.slice ao n cap) w6 := Kf.call Kb5 hb6
    have X6 : Kf (w4.heap.size) a b (.slice ao4 n cap4) w6 := Kf.call X5 hb6
    have B6 : Below w.heap.size w w6 := bstep B5 hb6
    have A6 := Lib.hid (HA.out.call B6)
    have z6 : w5.heap.size ≤ w6.heap.size := hb6.size
    have y6 := Lib.hid (MRow.call y5.out hb6)
    have x6 := Lib.hid (SRow.call x5.out hb6)
    clear Kb5 X5 B5 A5 y5 x5 hb6
    have g6 := Lib.hid rm6
    clear rm6 ho6
    go_wp2_with fail
    with_reducible refine (eqFmS_any g6.out y6.out).mono ?_
    rintro e w7 ⟨rfl, hb7⟩
    have Kb7 : Kf (w.heap.size) a b (.slice ao n cap) w7 := Kf.call Kb6 hb7
    have X7 : Kf (w4.heap.size) a b (.slice ao4 n cap4) w7 := Kf.call X6 hb7
    have B7 : Below w.heap.size w w7 := bstep B6 hb7
    have A7 := Lib.hid (HA.out.call B7)
    have z7 : w6.heap.size ≤ w7.heap.size := hb7.size
    have y7 := Lib.hid (MRow.call y6.out hb7)
    have x7 := Lib.hid (SRow.call x6.out hb7)
    have g7 := Lib.hid (MRow.call g6.out hb7)
    clear Kb6 X6 B6 A6 y6 x6 g6 hb7
    have Kb7c0 := Kb7.c0
    have Kb7c1 := Kb7.c1
    have Kb7c2 := Kb7.c2
    have Kb7l := Kb7.lt
    have X7c0 := X7.c0
    have X7c1 := X7.c1
    have X7c2 := X7.c2
    have X7l := X7.lt
    go_wp2_with fail
    go_region_held3 (fun W => (W.cell? ⟨w.heap.size, 0, none⟩ = some (.int .i64 a) ∧ W.cell? ⟨w.heap.size, 1, none⟩ = some (.int .i64 b) ∧ W.cell? ⟨w.heap.size, 2, none⟩ = some (.slice ao n cap)) ∧ (W.cell? ⟨w4.heap.size, 0, none⟩ = some (.int .i64 a) ∧ W.cell? ⟨w4.heap.size, 1, none⟩ = some (.int .i64 b) ∧ W.cell? ⟨w4.heap.size, 2, none⟩ = some (.slice ao4 n cap4))) ((refine And.intro (Kf.cells ?_) (Kf.cells ?_)) <;> (repeat (first | with_reducible assumption | (with_reducible exact KF.at _ (by first | with_reducible rfl | (simp; done))) | with_reducible refine Kf.drew ?_ | with_reducible refine K3.drew ?_ | with_reducible refine KF.drew ?_ | with_reducible refine Kf.alloc ?_ _ | with_reducible refine K3.alloc ?_ _ | with_reducible refine KF.alloc ?_ _ | with_reducible refine Kf.call ?_ (by with_reducible assumption) | with_reducible refine K3.call ?_ (by with_reducible assumption) | with_reducible refine KF.call ?_ (by with_reducible assumption) | ((with_reducible refine Kf.far ?_ ?_); (first | omega | (dsimp only; omega))) | ((with_reducible refine K3.far ?_ ?_); (first | omega | (dsimp only; omega))))))
      (first
        | (go_at_call 16; with_reducible refine (toFr_any a b (A7.out.call (by repeat (first | with_reducible assumption | with_reducible exact Below.refl _ _ | with_reducible refine Below.drew ?_ | with_reducible refine Below.alloc ?_ (by first | omega | (simp <;> omega)) _ | with_reducible refine Below.setCell ?_ (by first | omega | (dsimp only; omega)) _ | with_reducible refine bstep ?_ (by with_reducible assumption)))) HN.out).mono ?_; rintro e w8 ⟨v8, rfl, s8, hb8⟩; have c8 : Below w7.heap.size w7 w8 := (by repeat (first | with_reducible assumption | with_reducible exact Below.refl _ _ | with_reducible refine Below.drew ?_ | with_reducible refine Below.alloc ?_ (by first | omega | (simp <;> omega)) _ | with_reducible refine Below.setCell ?_ (by first | omega | (dsimp only; omega)) _ | with_reducible refine bstep ?_ (by with_reducible assumption))); have k98 := Kf.call Kb7 c8; have x98 := Kf.call X7 c8)
        | (go_at_call 18; with_reducible refine (eqFr_any a b (SRow.call x7.out (by repeat (first | with_reducible assumption | with_reducible exact Below.refl _ _ | with_reducible refine Below.drew ?_ | with_reducible refine Below.alloc ?_ (by first | omega | (simp <;> omega)) _ | with_reducible refine Below.setCell ?_ (by first | omega | (dsimp only; omega)) _ | with_reducible refine bstep ?_ (by with_reducible assumption)))) (SRow.call s8 (by repeat (first | with_reducible assumption | with_reducible exact Below.refl _ _ | with_reducible refine Below.drew ?_ | with_reducible refine Below.alloc ?_ (by first | omega | (simp <;> omega)) _ | with_reducible refine Below.setCell ?_ (by first | omega | (dsimp only; omega)) _ | with_reducible refine bstep ?_ (by with_reducible assumption))))).mono ?_; rintro e w9 ⟨rfl, hb9⟩; have c9 : Below w7.heap.size w7 w9 := (by repeat (first | with_reducible assumption | with_reducible exact Below.refl _ _ | with_reducible refine Below.drew ?_ | with_reducible refine Below.alloc ?_ (by first | omega | (simp <;> omega)) _ | with_reducible refine Below.setCell ?_ (by first | omega | (dsimp only; omega)) _ | with_reducible refine bstep ?_ (by with_reducible assumption)))))
    all_goals
      have Kb9 : Kf (w.heap.size) a b (.slice ao n cap) w9 := Kf.call Kb7 c9
      have X9 : Kf (w4.heap.size) a b (.slice ao4 n cap4) w9 := Kf.call X7 c9
      have B9 : Below w.heap.size w w9 := bstep B7 c9
      have A9 := Lib.hid (HA.out.call B9)
      have z9 : w7.heap.size ≤ w9.heap.size := c9.size
      have y9 := Lib.hid (MRow.call y7.out c9)
      have x9 := Lib.hid (SRow.call x7.out c9)
      have g9 := Lib.hid (MRow.call g7.out c9)
      clear Kb7 X7 B7 A7 s8 hb8 c8 hb9 c9 k98 x98 y7 x7 g7 Kb7c0 Kb7c1 Kb7c2 Kb7l X7c0 X7c1 X7c2 X7l
      have X9c0 := X9.c0
      have X9c1 := X9.c1
      have X9c2 := X9.c2
      have X9l := X9.lt
      go_wp2_with fail
      with_reducible refine (markFr_any a b x9.out (by omega)).mono ?_
      rintro e w10 ⟨rfl, rm10, hb10, hk10⟩
      have z10 : w9.heap.size ≤ w10.heap.size := hb10.size
      have Kb10 : Kf (w.heap.size) a b (.slice ao n cap) w10 := Kf.keepV Kb9 hk10 (SRow.off x9.out (by omega)) z10
      have X10 : Kf (w4.heap.size) a b (.slice ao4 n cap4) w10 := Kf.keepV X9 hk10 (SRow.off x9.out (by omega)) z10
      have B10 : Below w.heap.size w w10 := B9.trans (hb10.mono (by omega))
      have A10 := Lib.hid (HA.out.call B10)
      have y10 := Lib.hid (MRow.keepV y9.out hk10 (fun b9 h8 h9 => SRow.off x9.out (by omega)) z10)
      have g10 := Lib.hid (MRow.keepV g9.out hk10 (fun b9 h8 h9 => SRow.off x9.out (by omega)) z10)
      have x10 := Lib.hid rm10
      clear rm10 hb10 hk10 Kb9 X9 B9 A9 y9 x9 g9 X9c0 X9c1 X9c2 X9l
      clear x10
      clear X10
      have hk9 : ¬ ((n : Int) * 1 + 1 < 0) := by omega
      go_wp2_with fail
      with_reducible refine (eqFmS_any g10.out y10.out).mono ?_
      rintro e w11 ⟨rfl, hb11⟩
      have Kb11 : Kf (w.heap.size) a b (.slice ao n cap) w11 := Kf.call Kb10 hb11
      have B11 : Below w.heap.size w w11 := bstep B10 hb11
      have A11 := Lib.hid (HA.out.call B11)
      have z11 : w10.heap.size ≤ w11.heap.size := hb11.size
      have y11 := Lib.hid (MRow.call y10.out hb11)
      have g11 := Lib.hid (MRow.call g10.out hb11)
      clear Kb10 B10 A10 y10 g10 hb11
      go_wp2_with fail
      with_reducible refine (markFmS_any g11.out).mono ?_
      rintro e w12 ⟨rfl, rm12, hb12, hk12⟩
      have z12 : w11.heap.size ≤ w12.heap.size := hb12.size
      have Kb12 : Kf (w.heap.size) a b (.slice ao n cap) w12 := Kf.keepV Kb11 hk12 (MRow.off g11.out (by omega)) z12
      have B12 : Below w.heap.size w w12 := B11.trans (hb12.mono (by omega))
      have A12 := Lib.hid (HA.out.call B12)
      have y12 := Lib.hid (MRow.keepV y11.out hk12 (fun b9 h8 h9 => MRow.off g11.out (by omega)) z12)
      have g12 := Lib.hid rm12
      clear rm12 hb12 hk12 Kb11 B11 A11 y11 g11
      have hk8 : ¬ ((L3.length : Int) * 3 + 1 < 0) := by omega
      have hq8 : (((L3.length : Int) * 3 + 1) != (L3.length : Int) * 3 + 1) = false := by simp
      go_wp2_with fail
      with_reducible refine (heldFmS_any g12.out).mono ?_
      rintro e w13 ⟨rfl, hb13⟩
      have Kb13 : Kf (w.heap.size) a b (.slice ao n cap) w13 := Kf.call Kb12 hb13
      have B13 : Below w.heap.size w w13 := bstep B12 hb13
      have A13 := Lib.hid (HA.out.call B13)
      have z13 : w12.heap.size ≤ w13.heap.size := hb13.size
      have y13 := Lib.hid (MRow.call y12.out hb13)
      have g13 := Lib.hid (MRow.call g12.out hb13)
      clear Kb12 B12 A12 y12 g12 hb13
      have Kb13c0 := Kb13.c0
      have Kb13c1 := Kb13.c1
      have Kb13c2 := Kb13.c2
      have Kb13l := Kb13.lt
      go_wp2_with fail
      with_reducible refine (toFr_any a b A13.out HN.out).mono ?_
      rintro e w14 ⟨v14, rfl, r14, hb14⟩
      have Kb14 : Kf (w.heap.size) a b (.slice ao n cap) w14 := Kf.call Kb13 hb14
      have B14 : Below w.heap.size w w14 := bstep B13 hb14
      have A14 := Lib.hid (HA.out.call B14)
      have z14 : w13.heap.size ≤ w14.heap.size := hb14.size
      have y14 := Lib.hid (MRow.call y13.out hb14)
      have g14 := Lib.hid (MRow.call g13.out hb14)
      clear Kb13 B13 A13 y13 g13 Kb13c0 Kb13c1 Kb13c2 Kb13l hb14
      obtain ⟨ao14, cap14, rfl⟩ := r14.slice
      have q14 := Lib.hid r14
      clear r14
      go_wp2_with fail
      with_reducible refine (implSym_any a b q14.out).mono ?_
      rintro e w15 hh
      unfold SAns at hh
      obtain ⟨L15, c15, v15, hr15, rfl, ho15, hb15⟩ := hh
      obtain ⟨rfl, rfl⟩ : L3 = L15 ∧ c3 = c15 := by have h9 := HP.out.symm.trans hr15; simpa using h9
      clear hr15
      have rm15 := MRow.of ho15 (by omega)
      obtain ⟨ao15, cap15, rfl⟩ := MRow.slice rm15
      have Kb15 : Kf (w.heap.size) a b (.slice ao n cap) w15 := Kf.call Kb14 hb15
      have B15 : Below w.heap.size w w15 := bstep B14 hb15
      have A15 := Lib.hid (HA.out.call B15)
      have z15 : w14.heap.size ≤ w15.heap.size := hb15.size
      have y15 := Lib.hid (MRow.call y14.out hb15)
      have g15 := Lib.hid (MRow.call g14.out hb15)
      have q15 := Lib.hid (SRow.call q14.out hb15)
      clear Kb14 B14 A14 y14 g14 q14 hb15
      have h15 := Lib.hid rm15
      clear rm15 ho15
      clear q15
      go_wp2_with fail
      with_reducible refine (eqFmS_any h15.out y15.out).mono ?_
      rintro e w16 ⟨rfl, hb16⟩
      have Kb16 : Kf (w.heap.size) a b (.slice ao n cap) w16 := Kf.call Kb15 hb16
      have B16 : Below w.heap.size w w16 := bstep B15 hb16
      have A16 := Lib.hid (HA.out.call B16)
      have z16 : w15.heap.size ≤ w16.heap.size := hb16.size
      have y16 := Lib.hid (MRow.call y15.out hb16)
      have g16 := Lib.hid (MRow.call g15.out hb16)
      have h16 := Lib.hid (MRow.call h15.out hb16)
      clear Kb15 B15 A15 y15 g15 h15 hb16
      clear h16
      clear y16
      go_wp2_with fail
      with_reducible refine (heldFmS_any g16.out).mono ?_
      rintro e w17 ⟨rfl, hb17⟩
      have Kb17 : Kf (w.heap.size) a b (.slice ao n cap) w17 := Kf.call Kb16 hb17
      have B17 : Below w.heap.size w w17 := bstep B16 hb17
      have A17 := Lib.hid (HA.out.call B17)
      have z17 : w16.heap.size ≤ w17.heap.size := hb17.size
      have g17 := Lib.hid (MRow.call g16.out hb17)
      clear Kb16 B16 A16 g16 hb17
      go_wp2
      go_ret
      exact ⟨rfl, B17⟩
  · have hz : (if (n : Int) ≤ 1048576 then 1048576 - (n : Int) else -1) = -1 := if_neg (by omega)
    go_enter Try.func7, Try.ntmps7
    go_wp2_with fail
    refine (szFr_any a b ao n cap 1048576 _ hm (by omega)).mono ?_
    rintro e w1 ⟨rfl, hb1⟩
    rw [hz]
    go_wp2
    go_ret
    exact ⟨rfl, bstep (by repeat (first | with_reducible assumption | with_reducible exact Below.refl _ _ | with_reducible refine Below.drew ?_ | with_reducible refine below_drewN ?_ _ | with_reducible refine Below.alloc ?_ (by first | omega | (simp <;> omega)) _ | with_reducible refine bstep ?_ (by with_reducible assumption))) hb1⟩
end Go.Proofs.Ythfgmadogknnaaa
