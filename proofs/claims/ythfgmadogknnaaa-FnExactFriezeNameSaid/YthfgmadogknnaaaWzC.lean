/-
  The walk of the exact law of FriezeName: the law returns true and writes nothing that was there. Condition: the list's length is one that a slice can have.
-/
import Derived.Test.YthfgmadogknnaaaFzH
namespace Go.Proofs.Ythfgmadogknnaaa
open Go.RowKit
set_option linter.unusedSimpArgs false
set_option linter.unusedVariables false

set_option maxRecDepth 100000 in
set_option maxHeartbeats 8000000 in
theorem walkName (a b : Int) (v : Value) (n : Nat) (F : Nat → Int) (w : World) (hA : ARw v n F w) (hm : n ≤ 9223372036854775807) :
    Calls Try.prog 8 #[.agg #[.int .i64 a, .int .i64 b, v]] w fun e w' => e = .returned (.bool true) ∧ Below w.heap.size w w' := by
  have HA := Lib.hid hA
  obtain ⟨ao, cap, rfl, _⟩ := hA
  by_cases hbig : n ≤ 1048576
  · have hz : (if (n : Int) ≤ 1048576 then 1048576 - (n : Int) else -1) = 1048576 - (n : Int) := if_pos (by omega)
    have HN := Lib.hid hbig
    have hn1 : ¬ (1048576 - (n : Int) < 0) := by omega
    clear hbig

    go_enter Try.func8, Try.ntmps8
    go_wp2_with fail
    with_reducible refine (szFr_any a b ao n cap 1048576 _ hm (by omega)).mono ?_
    rintro e w1 ⟨rfl, hb1⟩
    rw [hz]
    have K1 : Kf (w.heap.size) a b (.slice ao n cap) w1 := Kf.call (Kf.at _ rfl) hb1
    have B1 : Below w.heap.size w w1 := bstep ((Below.refl _ _).alloc (Nat.le_refl _) _) hb1
    have A1 := Lib.hid (HA.out.call B1)
    clear hb1
    have K1c0 := K1.c0
    have K1c1 := K1.c1
    have K1c2 := K1.c2
    have K1l := K1.lt
    go_wp2_with fail
    with_reducible refine (toFr_any a b A1.out HN.out).mono ?_
    rintro e w2 ⟨v2, rfl, r2, hb2⟩
    have K2 : Kf (w.heap.size) a b (.slice ao n cap) w2 := Kf.call (K1) hb2
    have B2 : Below w.heap.size w w2 := bstep (B1) hb2
    have A2 := Lib.hid (HA.out.call B2)
    clear K1 B1 A1 K1c0 K1c1 K1c2 K1l hb2
    have q2 := Lib.hid r2
    clear r2
    go_wp2_with fail
    with_reducible refine (specName_any a b q2.out).mono ?_
    rintro e w3 ⟨⟨p3, q3, hpq3, rfl⟩, hb3⟩
    have HP := Lib.hid hpq3
    clear hpq3
    have K3 : Kf (w.heap.size) a b (.slice ao n cap) w3 := Kf.call (K2) hb3
    have B3 : Below w.heap.size w w3 := bstep (B2) hb3
    have A3 := Lib.hid (HA.out.call B3)
    have q3 := Lib.hid (SRow.call q2.out (hb3))
    clear K2 B2 A2 q2 hb3
    clear q3
    have K3c0 := K3.c0
    have K3c1 := K3.c1
    have K3c2 := K3.c2
    have K3l := K3.lt
    go_wp2_with fail
    with_reducible refine (toFr_any a b A3.out HN.out).mono ?_
    rintro e w4 ⟨v4, rfl, r4, hb4⟩
    have K4 : Kf (w.heap.size) a b (.slice ao n cap) w4 := Kf.call (K3) hb4
    have B4 : Below w.heap.size w w4 := bstep (B3) hb4
    have A4 := Lib.hid (HA.out.call B4)
    clear K3 B3 A3 K3c0 K3c1 K3c2 K3l hb4
    obtain ⟨ao4, cap4, rfl⟩ := r4.slice
    have x4 := Lib.hid r4
    clear r4
    go_wp2_with fail
    with_reducible refine (implName_any a b (SRow.call x4.out (by repeat (first | with_reducible assumption | with_reducible exact Below.refl _ _ | with_reducible refine Below.drew ?_ | with_reducible refine below_drewN ?_ _ | with_reducible refine Below.alloc ?_ (by first | omega | (simp <;> omega)) _ | with_reducible refine bstep ?_ (by with_reducible assumption))))).mono ?_
    rintro e w5 ⟨⟨p5, q5, hpq5, rfl⟩, hb5⟩
    obtain ⟨rfl, rfl⟩ : p3 = p5 ∧ q3 = q5 := by have h9 := HP.out.symm.trans hpq5; simpa using h9
    clear hpq5
    have K5 : Kf (w.heap.size) a b (.slice ao n cap) w5 := Kf.call (K4.alloc _) hb5
    have B5 : Below w.heap.size w w5 := bstep (B4.alloc B4.size _) hb5
    have A5 := Lib.hid (HA.out.call B5)
    have x5 := Lib.hid (SRow.call x4.out (bstep ((Below.refl _ _).alloc (Nat.le_refl _) _) hb5))
    have X5 : Kf (w4.heap.size) a b (.slice ao4 n cap4) w5 := Kf.call (Kf.at _ rfl) hb5
    clear K4 B4 A4 x4 hb5
    have K5lt := K5.lt
    have X5lt := X5.lt
    go_wp2_with fail
    go_region_held3 (fun W => (W.cell? ⟨w.heap.size, 0, none⟩ = some (.int .i64 a) ∧ W.cell? ⟨w.heap.size, 1, none⟩ = some (.int .i64 b) ∧ W.cell? ⟨w.heap.size, 2, none⟩ = some (.slice ao n cap)) ∧ (W.cell? ⟨w4.heap.size, 0, none⟩ = some (.int .i64 a) ∧ W.cell? ⟨w4.heap.size, 1, none⟩ = some (.int .i64 b) ∧ W.cell? ⟨w4.heap.size, 2, none⟩ = some (.slice ao4 n cap4))) ((refine And.intro (Kf.cells ?_) (Kf.cells ?_)) <;> repeat (first | with_reducible assumption | with_reducible refine Kf.drew ?_ | with_reducible refine Kf.alloc ?_ _ | with_reducible refine Kf.call ?_ (by with_reducible assumption)))
      (first
        | (go_at_call 16; with_reducible refine (toFr_any a b (A5.out.call (by repeat (first | with_reducible exact Below.refl _ _ | with_reducible refine Below.drew ?_))) HN.out).mono ?_; rintro e w6 ⟨v6, rfl, s6, hb6⟩; have c6 : Below w5.heap.size w5 w6 := bstep (by repeat (first | with_reducible exact Below.refl _ _ | with_reducible refine Below.drew ?_)) hb6; have K6 : Kf (w.heap.size) a b (.slice ao n cap) w6 := (by repeat (first | with_reducible assumption | with_reducible refine Kf.drew ?_ | with_reducible refine Kf.alloc ?_ _ | with_reducible refine Kf.call ?_ (by with_reducible assumption))); have K6l := K6.lt; have X6 : Kf (w4.heap.size) a b (.slice ao4 n cap4) w6 := (by repeat (first | with_reducible assumption | with_reducible refine Kf.drew ?_ | with_reducible refine Kf.alloc ?_ _ | with_reducible refine Kf.call ?_ (by with_reducible assumption))); have X6l := X6.lt; have x6 := Lib.hid (SRow.call x5.out c6))
        | (go_at_call 18; with_reducible refine (eqFr_any a b (x6.out.call (by repeat (first | with_reducible exact Below.refl _ _ | with_reducible refine Below.drew ?_))) (SRow.call s6 (by repeat (first | with_reducible exact Below.refl _ _ | with_reducible refine Below.drew ?_)))).mono ?_; rintro e w7 ⟨rfl, hb7⟩; have c7 : Below w5.heap.size w5 w7 := c6.trans ((bstep (by repeat (first | with_reducible exact Below.refl _ _ | with_reducible refine Below.drew ?_)) hb7).mono c6.size); have K7 : Kf (w.heap.size) a b (.slice ao n cap) w7 := (by repeat (first | with_reducible assumption | with_reducible refine Kf.drew ?_ | with_reducible refine Kf.alloc ?_ _ | with_reducible refine Kf.call ?_ (by with_reducible assumption))); have K7l := K7.lt; have X7 : Kf (w4.heap.size) a b (.slice ao4 n cap4) w7 := (by repeat (first | with_reducible assumption | with_reducible refine Kf.drew ?_ | with_reducible refine Kf.alloc ?_ _ | with_reducible refine Kf.call ?_ (by with_reducible assumption))); have X7l := X7.lt))
    all_goals
      have x7 := Lib.hid (SRow.call x5.out c7)
      have B7 : Below w.heap.size w w7 := bstep B5 c7
      have A7 := Lib.hid (HA.out.call B7)
      clear K5 K5lt K6 K6l K7l X5 X5lt X6 X6l X7l x5 x6 B5 A5 s6 hb6 c6 hb7 c7
      go_wp2
      go_ret
      exact ⟨rfl, B7⟩
  · have hz : (if (n : Int) ≤ 1048576 then 1048576 - (n : Int) else -1) = -1 := if_neg (by omega)
    go_enter Try.func8, Try.ntmps8
    go_wp2_with fail
    refine (szFr_any a b ao n cap 1048576 _ hm (by omega)).mono ?_
    rintro e w1 ⟨rfl, hb1⟩
    rw [hz]
    go_wp2
    go_ret
    exact ⟨rfl, bstep ((Below.refl _ _).alloc (Nat.le_refl _) _) hb1⟩
end Go.Proofs.Ythfgmadogknnaaa
