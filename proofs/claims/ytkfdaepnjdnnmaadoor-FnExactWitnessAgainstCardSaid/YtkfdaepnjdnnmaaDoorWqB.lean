/-
  The walk of the exact law of WitnessAgainst: the law returns true and writes nothing that was there. Conditions: the list's length is one that a slice can have; the program's variable unitMatrix holds the unit.
-/
import Derived.Test.YtkfdaepnjdnnmaaDoorSyD
import Derived.Test.YtkfdaepnjdnnmaaDoorPtW
import Derived.Test.YtkfdaepnjdnnmaaDoorPtR
import Derived.Test.YtkfdaepnjdnnmaaDoorGc
namespace Go.Proofs.YtkfdaepnjdnnmaaDoor
open Go.RowKit
set_option linter.unusedSimpArgs false
set_option linter.unusedVariables false

/- what a drawn region leaves that sets a new vector from a call's answer, and a code -/
def McW (z0 z1 c : Int) (w : World) (s6 s7 : Value) (wx : World) : Prop :=
  ∃ bx : Nat, s6 = .pointer (some ⟨bx, 0, none⟩) ∧ s7 = .int .i64 c ∧ Bx bx [.int .i64 z0, .int .i64 z1] wx ∧ w.heap.size ≤ bx ∧ Below w.heap.size w wx
set_option maxRecDepth 100000 in
set_option maxHeartbeats 16000000 in
theorem walkWit (f A B C : Int) (v : Value) (n : Nat) (F : Nat → Int) (a b c d x y : Int) (w : World) (hA : ARw v n F w) (hm : n ≤ 9223372036854775807) (hU : UnitOK w) :
    Calls Tryd.prog 5 #[.agg #[.int .i64 f, .int .i64 A, .int .i64 B, .int .i64 C, v], .agg #[.int .i64 a, .int .i64 b, .int .i64 c, .int .i64 d, .int .i64 x, .int .i64 y]] w fun e w' => e = .returned (.bool true) ∧ Below w.heap.size w w' := by
  have HA := Lib.hid hA
  obtain ⟨ao, cap, rfl, _⟩ := hA
  have HU := Lib.hid hU
  clear hU
  obtain ⟨t0, t1, t2, hzz⟩ : ∃ t0 t1 t2, waA (syA f A B C n F a b c d x y) = ((t0, t1), t2) := ⟨_, _, _, rfl⟩
  have HW9 := Lib.hid hzz
  clear hzz
  by_cases hbig : n ≤ 1048576
  · have hz : (if (n : Int) ≤ 1048576 then 1048576 - (n : Int) else -1) = 1048576 - (n : Int) := if_pos (by omega)
    have HN := Lib.hid hbig
    have hn1 : ¬ (1048576 - (n : Int) < 0) := by omega
    clear hbig
    go_enter Tryd.func5, Tryd.ntmps5
    go_wp2_with fail
    with_reducible refine (szPat_any f A B C ao n cap 1048576 _ hm (by omega)).mono ?_
    rintro e w1 ⟨rfl, hb1⟩
    rw [hz]
    have K1 : Bx (w.heap.size) [.int .i64 f, .int .i64 A, .int .i64 B, .int .i64 C, .slice ao n cap] w1 := Bx.call ((Bx.at _ rfl).alloc _) hb1
    have L1 : Bx (w.heap.size + 1) [.int .i64 a, .int .i64 b, .int .i64 c, .int .i64 d, .int .i64 x, .int .i64 y] w1 := Bx.call ((Bx.at _ (by simp))) hb1
    have B1 : Below w.heap.size w w1 := bstep (by repeat (first | with_reducible assumption | with_reducible exact Below.refl _ _ | with_reducible refine Below.drew ?_ | with_reducible refine Below.alloc ?_ (by first | omega | (simp <;> omega)) _ | with_reducible refine Below.setCell ?_ (by first | omega | (dsimp only; omega)) _ | with_reducible refine bstep ?_ (by with_reducible assumption))) hb1
    have A1 := Lib.hid (HA.out.call B1)
    have z1 : w.heap.size + 1 < w1.heap.size := by have := hb1.size; simp at this; omega
    clear hb1
    have K1c0 := K1.c0
    have K1c1 := K1.c1
    have K1c2 := K1.c2
    have K1c3 := K1.c3
    have K1c4 := K1.c4
    have K1l := K1.lt
    have L1c0 := L1.c0
    have L1c1 := L1.c1
    have L1c2 := L1.c2
    have L1c3 := L1.c3
    have L1c4 := L1.c4
    have L1c5 := L1.c5
    have L1l := L1.lt
    go_upto_region 1 with fail
    go_cut [6, 7] (fun s6 s7 wx => McW t0 t1 t2 w1 s6 s7 wx)
    case first =>
      have k9 : Bx (w.heap.size) [.int .i64 f, .int .i64 A, .int .i64 B, .int .i64 C, .slice ao n cap] w1 := K1
      have k8 : Bx (w.heap.size + 1) [.int .i64 a, .int .i64 b, .int .i64 c, .int .i64 d, .int .i64 x, .int .i64 y] w1 := L1
      go_region_held3 (fun W9 => (W9.cell? ⟨w.heap.size, 0, none⟩ = some (.int .i64 f) ∧ W9.cell? ⟨w.heap.size, 1, none⟩ = some (.int .i64 A) ∧ W9.cell? ⟨w.heap.size, 2, none⟩ = some (.int .i64 B) ∧ W9.cell? ⟨w.heap.size, 3, none⟩ = some (.int .i64 C) ∧ W9.cell? ⟨w.heap.size, 4, none⟩ = some (.slice ao n cap)) ∧ (W9.cell? ⟨w.heap.size + 1, 0, none⟩ = some (.int .i64 a) ∧ W9.cell? ⟨w.heap.size + 1, 1, none⟩ = some (.int .i64 b) ∧ W9.cell? ⟨w.heap.size + 1, 2, none⟩ = some (.int .i64 c) ∧ W9.cell? ⟨w.heap.size + 1, 3, none⟩ = some (.int .i64 d) ∧ W9.cell? ⟨w.heap.size + 1, 4, none⟩ = some (.int .i64 x) ∧ W9.cell? ⟨w.heap.size + 1, 5, none⟩ = some (.int .i64 y))) ((refine And.intro (Bx.cells5 ?_) (Bx.cells6 ?_)) <;> (repeat (first | with_reducible assumption | (with_reducible exact BX.at _ (by first | with_reducible rfl | (simp; done))) | (with_reducible exact Bx.at _ (by first | with_reducible rfl | (simp; done))) | with_reducible refine Bx.drew ?_ | with_reducible refine Bx.alloc ?_ _ | with_reducible refine Bx.call ?_ (by with_reducible assumption) | with_reducible refine BX.drew ?_ | with_reducible refine BX.alloc ?_ _ | with_reducible refine BX.call ?_ (by with_reducible assumption) | with_reducible refine Bx.st2 ?_ | with_reducible refine Bx.far (by first | omega | (dsimp only; omega)) ?_ | with_reducible refine BX.far (by first | omega | (dsimp only; omega)) ?_)))
        (first
          | (go_at_call 11; with_reducible refine (toPat_any f A B C (A1.out.call (by repeat (first | with_reducible assumption | with_reducible exact Below.refl _ _ | with_reducible refine Below.drew ?_ | with_reducible refine Below.alloc ?_ (by first | omega | (simp <;> omega)) _ | with_reducible refine Below.setCell ?_ (by first | omega | (dsimp only; omega)) _ | with_reducible refine bstep ?_ (by with_reducible assumption)))) HN.out).mono ?_; rintro e w1fr ⟨v1fr, rfl, r1fr, hb1fr⟩; obtain ⟨ao1fr, cap1fr, rfl⟩ := r1fr.slice; (try ((refine useIt (P := BX w1.heap.size [.int .i64 0, .int .i64 0] w1fr) ?_ ?_); (repeat (first | with_reducible assumption | (with_reducible exact BX.at _ (by first | with_reducible rfl | (simp; done))) | (with_reducible exact Bx.at _ (by first | with_reducible rfl | (simp; done))) | with_reducible refine Bx.drew ?_ | with_reducible refine Bx.alloc ?_ _ | with_reducible refine Bx.call ?_ (by with_reducible assumption) | with_reducible refine BX.drew ?_ | with_reducible refine BX.alloc ?_ _ | with_reducible refine BX.call ?_ (by with_reducible assumption) | with_reducible refine Bx.st2 ?_ | with_reducible refine Bx.far (by first | omega | (dsimp only; omega)) ?_ | with_reducible refine BX.far (by first | omega | (dsimp only; omega)) ?_)); intro d1fr_1; have d1fr_1c0 := d1fr_1.c0; have d1fr_1c1 := d1fr_1.c1; have d1fr_1f0 := d1fr_1.f0; have d1fr_1f1 := d1fr_1.f1; have d1fr_1l := d1fr_1.lt)); (try ((refine useIt (P := BX w1mo.heap.size [.int .i64 0, .int .i64 0] w1fr) ?_ ?_); (repeat (first | with_reducible assumption | (with_reducible exact BX.at _ (by first | with_reducible rfl | (simp; done))) | (with_reducible exact Bx.at _ (by first | with_reducible rfl | (simp; done))) | with_reducible refine Bx.drew ?_ | with_reducible refine Bx.alloc ?_ _ | with_reducible refine Bx.call ?_ (by with_reducible assumption) | with_reducible refine BX.drew ?_ | with_reducible refine BX.alloc ?_ _ | with_reducible refine BX.call ?_ (by with_reducible assumption) | with_reducible refine Bx.st2 ?_ | with_reducible refine Bx.far (by first | omega | (dsimp only; omega)) ?_ | with_reducible refine BX.far (by first | omega | (dsimp only; omega)) ?_)); intro d1fr_1mo; have d1fr_1moc0 := d1fr_1mo.c0; have d1fr_1moc1 := d1fr_1mo.c1; have d1fr_1mof0 := d1fr_1mo.f0; have d1fr_1mof1 := d1fr_1mo.f1; have d1fr_1mol := d1fr_1mo.lt)); have c1fr : Below w1.heap.size w1 w1fr := (by repeat (first | with_reducible assumption | with_reducible exact Below.refl _ _ | with_reducible refine Below.drew ?_ | with_reducible refine Below.alloc ?_ (by first | omega | (simp <;> omega)) _ | with_reducible refine Below.setCell ?_ (by first | omega | (dsimp only; omega)) _ | with_reducible refine bstep ?_ (by with_reducible assumption))); have y1fr := c1fr.size; have l1fr := Bx.call k9 c1fr; have ll1fr := l1fr.lt; have n1fr := Bx.call k8 c1fr; have nl1fr := n1fr.lt)
          | (go_at_call 19; with_reducible refine (toMo_any a b c d x y _).mono ?_; rintro e w1mo ⟨rfl, hb1mo⟩; (try ((refine useIt (P := BX w1.heap.size [.int .i64 0, .int .i64 0] w1mo) ?_ ?_); (repeat (first | with_reducible assumption | (with_reducible exact BX.at _ (by first | with_reducible rfl | (simp; done))) | (with_reducible exact Bx.at _ (by first | with_reducible rfl | (simp; done))) | with_reducible refine Bx.drew ?_ | with_reducible refine Bx.alloc ?_ _ | with_reducible refine Bx.call ?_ (by with_reducible assumption) | with_reducible refine BX.drew ?_ | with_reducible refine BX.alloc ?_ _ | with_reducible refine BX.call ?_ (by with_reducible assumption) | with_reducible refine Bx.st2 ?_ | with_reducible refine Bx.far (by first | omega | (dsimp only; omega)) ?_ | with_reducible refine BX.far (by first | omega | (dsimp only; omega)) ?_)); intro d1mo_1; have d1mo_1c0 := d1mo_1.c0; have d1mo_1c1 := d1mo_1.c1; have d1mo_1f0 := d1mo_1.f0; have d1mo_1f1 := d1mo_1.f1; have d1mo_1l := d1mo_1.lt)); (try ((refine useIt (P := BX w1fr.heap.size [.int .i64 0, .int .i64 0] w1mo) ?_ ?_); (repeat (first | with_reducible assumption | (with_reducible exact BX.at _ (by first | with_reducible rfl | (simp; done))) | (with_reducible exact Bx.at _ (by first | with_reducible rfl | (simp; done))) | with_reducible refine Bx.drew ?_ | with_reducible refine Bx.alloc ?_ _ | with_reducible refine Bx.call ?_ (by with_reducible assumption) | with_reducible refine BX.drew ?_ | with_reducible refine BX.alloc ?_ _ | with_reducible refine BX.call ?_ (by with_reducible assumption) | with_reducible refine Bx.st2 ?_ | with_reducible refine Bx.far (by first | omega | (dsimp only; omega)) ?_ | with_reducible refine BX.far (by first | omega | (dsimp only; omega)) ?_)); intro d1mo_1fr; have d1mo_1frc0 := d1mo_1fr.c0; have d1mo_1frc1 := d1mo_1fr.c1; have d1mo_1frf0 := d1mo_1fr.f0; have d1mo_1frf1 := d1mo_1fr.f1; have d1mo_1frl := d1mo_1fr.lt)); (try ((refine useIt (P := Below w1fr.heap.size w1fr w1mo) ?_ ?_); (with_reducible exact bstep (by repeat (first | with_reducible assumption | with_reducible exact Below.refl _ _ | with_reducible refine Below.drew ?_ | with_reducible refine Below.alloc ?_ (by first | omega | (simp <;> omega)) _ | with_reducible refine Below.setCell ?_ (by first | omega | (dsimp only; omega)) _ | with_reducible refine bstep ?_ (by with_reducible assumption))) hb1mo); intro e1mo; have ye1mo := e1mo.size)); have c1mo : Below w1.heap.size w1 w1mo := (by repeat (first | with_reducible assumption | with_reducible exact Below.refl _ _ | with_reducible refine Below.drew ?_ | with_reducible refine Below.alloc ?_ (by first | omega | (simp <;> omega)) _ | with_reducible refine Below.setCell ?_ (by first | omega | (dsimp only; omega)) _ | with_reducible refine bstep ?_ (by with_reducible assumption))); have y1mo := c1mo.size; have l1mo := Bx.call k9 c1mo; have ll1mo := l1mo.lt; have n1mo := Bx.call k8 c1mo; have nl1mo := n1mo.lt)
          | (go_at_call 21; with_reducible refine (specWit_any f A B C a b c d x y (SRow.call r1fr (by repeat (first | with_reducible assumption | with_reducible exact Below.refl _ _ | with_reducible refine Below.drew ?_ | with_reducible refine Below.alloc ?_ (by first | omega | (simp <;> omega)) _ | with_reducible refine Below.setCell ?_ (by first | omega | (dsimp only; omega)) _ | with_reducible refine bstep ?_ (by with_reducible assumption))))).mono ?_; rintro e w1mv ⟨rfl, hb1mv⟩; (try ((refine useIt (P := BX w1.heap.size [.int .i64 0, .int .i64 0] w1mv) ?_ ?_); (repeat (first | with_reducible assumption | (with_reducible exact BX.at _ (by first | with_reducible rfl | (simp; done))) | (with_reducible exact Bx.at _ (by first | with_reducible rfl | (simp; done))) | with_reducible refine Bx.drew ?_ | with_reducible refine Bx.alloc ?_ _ | with_reducible refine Bx.call ?_ (by with_reducible assumption) | with_reducible refine BX.drew ?_ | with_reducible refine BX.alloc ?_ _ | with_reducible refine BX.call ?_ (by with_reducible assumption) | with_reducible refine Bx.st2 ?_ | with_reducible refine Bx.far (by first | omega | (dsimp only; omega)) ?_ | with_reducible refine BX.far (by first | omega | (dsimp only; omega)) ?_)); intro d1mv_1; have d1mv_1c0 := d1mv_1.c0; have d1mv_1c1 := d1mv_1.c1; have d1mv_1f0 := d1mv_1.f0; have d1mv_1f1 := d1mv_1.f1; have d1mv_1l := d1mv_1.lt)); (try ((refine useIt (P := BX w1mo.heap.size [.int .i64 0, .int .i64 0] w1mv) ?_ ?_); (repeat (first | with_reducible assumption | (with_reducible exact BX.at _ (by first | with_reducible rfl | (simp; done))) | (with_reducible exact Bx.at _ (by first | with_reducible rfl | (simp; done))) | with_reducible refine Bx.drew ?_ | with_reducible refine Bx.alloc ?_ _ | with_reducible refine Bx.call ?_ (by with_reducible assumption) | with_reducible refine BX.drew ?_ | with_reducible refine BX.alloc ?_ _ | with_reducible refine BX.call ?_ (by with_reducible assumption) | with_reducible refine Bx.st2 ?_ | with_reducible refine Bx.far (by first | omega | (dsimp only; omega)) ?_ | with_reducible refine BX.far (by first | omega | (dsimp only; omega)) ?_)); intro d1mv_1mo; have d1mv_1moc0 := d1mv_1mo.c0; have d1mv_1moc1 := d1mv_1mo.c1; have d1mv_1mof0 := d1mv_1mo.f0; have d1mv_1mof1 := d1mv_1mo.f1; have d1mv_1mol := d1mv_1mo.lt)); (try ((refine useIt (P := BX w1fr.heap.size [.int .i64 0, .int .i64 0] w1mv) ?_ ?_); (repeat (first | with_reducible assumption | (with_reducible exact BX.at _ (by first | with_reducible rfl | (simp; done))) | (with_reducible exact Bx.at _ (by first | with_reducible rfl | (simp; done))) | with_reducible refine Bx.drew ?_ | with_reducible refine Bx.alloc ?_ _ | with_reducible refine Bx.call ?_ (by with_reducible assumption) | with_reducible refine BX.drew ?_ | with_reducible refine BX.alloc ?_ _ | with_reducible refine BX.call ?_ (by with_reducible assumption) | with_reducible refine Bx.st2 ?_ | with_reducible refine Bx.far (by first | omega | (dsimp only; omega)) ?_ | with_reducible refine BX.far (by first | omega | (dsimp only; omega)) ?_)); intro d1mv_1fr; have d1mv_1frc0 := d1mv_1fr.c0; have d1mv_1frc1 := d1mv_1fr.c1; have d1mv_1frf0 := d1mv_1fr.f0; have d1mv_1frf1 := d1mv_1fr.f1; have d1mv_1frl := d1mv_1fr.lt)); have c1mv : Below w1.heap.size w1 w1mv := (by repeat (first | with_reducible assumption | with_reducible exact Below.refl _ _ | with_reducible refine Below.drew ?_ | with_reducible refine Below.alloc ?_ (by first | omega | (simp <;> omega)) _ | with_reducible refine Below.setCell ?_ (by first | omega | (dsimp only; omega)) _ | with_reducible refine bstep ?_ (by with_reducible assumption))); have y1mv := c1mv.size; have l1mv := Bx.call k9 c1mv; have ll1mv := l1mv.lt; have n1mv := Bx.call k8 c1mv; have nl1mv := n1mv.lt; rw [HW9.out]))
      all_goals
        go_wp2_with fail
        go_meet
        exact ⟨_, rfl, rfl, (by repeat (first | with_reducible assumption | (with_reducible exact BX.at _ (by first | with_reducible rfl | (simp; done))) | (with_reducible exact Bx.at _ (by first | with_reducible rfl | (simp; done))) | with_reducible refine Bx.drew ?_ | with_reducible refine Bx.alloc ?_ _ | with_reducible refine Bx.call ?_ (by with_reducible assumption) | with_reducible refine BX.drew ?_ | with_reducible refine BX.alloc ?_ _ | with_reducible refine BX.call ?_ (by with_reducible assumption) | with_reducible refine Bx.st2 ?_ | with_reducible refine Bx.far (by first | omega | (dsimp only; omega)) ?_ | with_reducible refine BX.far (by first | omega | (dsimp only; omega)) ?_)), (by first | omega | (simp <;> omega)), (by repeat (first | with_reducible assumption | with_reducible exact Below.refl _ _ | with_reducible refine Below.drew ?_ | with_reducible refine Below.alloc ?_ (by first | omega | (simp <;> omega)) _ | with_reducible refine Below.setCell ?_ (by first | omega | (dsimp only; omega)) _ | with_reducible refine bstep ?_ (by with_reducible assumption)))⟩
    case rest =>
      obtain ⟨bx2, rfl, rfl, KD2, hl2, hb2⟩ := hcut
      obtain ⟨w2, hw2⟩ : ∃ z, z = wc := ⟨_, rfl⟩
      subst hw2
      have K2 : Bx (w.heap.size) [.int .i64 f, .int .i64 A, .int .i64 B, .int .i64 C, .slice ao n cap] w2 := Bx.call K1 hb2
      have L2 : Bx (w.heap.size + 1) [.int .i64 a, .int .i64 b, .int .i64 c, .int .i64 d, .int .i64 x, .int .i64 y] w2 := Bx.call L1 hb2
      have B2 : Below w.heap.size w w2 := bstep B1 hb2
      have A2 := Lib.hid (HA.out.call B2)
      have z2 : w1.heap.size ≤ w2.heap.size := hb2.size
      clear K1 L1 B1 A1 K1c0 K1c1 K1c2 K1c3 K1c4 K1l L1c0 L1c1 L1c2 L1c3 L1c4 L1c5 L1l hb2
      have Y2 := KD2
      have bl2 := KD2.lt
      clear KD2
      have K2c0 := K2.c0
      have K2c1 := K2.c1
      have K2c2 := K2.c2
      have K2c3 := K2.c3
      have K2c4 := K2.c4
      have K2l := K2.lt
      go_wp2_with fail
      with_reducible refine (toPat_any f A B C A2.out HN.out).mono ?_
      rintro e w3 ⟨v3, rfl, r3, hb3⟩
      have K3 : Bx (w.heap.size) [.int .i64 f, .int .i64 A, .int .i64 B, .int .i64 C, .slice ao n cap] w3 := Bx.call K2 hb3
      have L3 : Bx (w.heap.size + 1) [.int .i64 a, .int .i64 b, .int .i64 c, .int .i64 d, .int .i64 x, .int .i64 y] w3 := Bx.call L2 hb3
      have Y3 : Bx (bx2) [.int .i64 t0, .int .i64 t1] w3 := Bx.call Y2 hb3
      have B3 : Below w.heap.size w w3 := bstep B2 hb3
      have A3 := Lib.hid (HA.out.call B3)
      have z3 : w2.heap.size ≤ w3.heap.size := hb3.size
      clear K2 L2 Y2 B2 A2 K2c0 K2c1 K2c2 K2c3 K2c4 K2l hb3
      obtain ⟨ao3, cap3, rfl⟩ := r3.slice
      have x3 := Lib.hid r3
      clear r3
      go_upto_region 1 with fail
      have K4 : Bx (w.heap.size) [.int .i64 f, .int .i64 A, .int .i64 B, .int .i64 C, .slice ao n cap] (w3.alloc (.cells #[.int .i64 f, .int .i64 A, .int .i64 B, .int .i64 C, .slice ao3 n cap3] 33)) := Bx.alloc K3 _
      have L4 : Bx (w.heap.size + 1) [.int .i64 a, .int .i64 b, .int .i64 c, .int .i64 d, .int .i64 x, .int .i64 y] (w3.alloc (.cells #[.int .i64 f, .int .i64 A, .int .i64 B, .int .i64 C, .slice ao3 n cap3] 33)) := Bx.alloc L3 _
      have Y4 : Bx (bx2) [.int .i64 t0, .int .i64 t1] (w3.alloc (.cells #[.int .i64 f, .int .i64 A, .int .i64 B, .int .i64 C, .slice ao3 n cap3] 33)) := Bx.alloc Y3 _
      have X4 : Bx (w3.heap.size) [.int .i64 f, .int .i64 A, .int .i64 B, .int .i64 C, .slice ao3 n cap3] (w3.alloc (.cells #[.int .i64 f, .int .i64 A, .int .i64 B, .int .i64 C, .slice ao3 n cap3] 33)) := Bx.at _ rfl
      have B4 : Below w.heap.size w (w3.alloc (.cells #[.int .i64 f, .int .i64 A, .int .i64 B, .int .i64 C, .slice ao3 n cap3] 33)) := bstep B3 (show Below w3.heap.size w3 (w3.alloc (.cells #[.int .i64 f, .int .i64 A, .int .i64 B, .int .i64 C, .slice ao3 n cap3] 33)) from (Below.refl _ _).alloc (Nat.le_refl _) _)
      have z4 : w3.heap.size + 1 ≤ (w3.alloc (.cells #[.int .i64 f, .int .i64 A, .int .i64 B, .int .i64 C, .slice ao3 n cap3] 33)).heap.size := by simp
      have x4 := Lib.hid (SRow.call x3.out (show Below w3.heap.size w3 (w3.alloc (.cells #[.int .i64 f, .int .i64 A, .int .i64 B, .int .i64 C, .slice ao3 n cap3] 33)) from (Below.refl _ _).alloc (Nat.le_refl _) _))
      generalize hW4 : w3.alloc (.cells #[.int .i64 f, .int .i64 A, .int .i64 B, .int .i64 C, .slice ao3 n cap3] 33) = w4 at *
      clear hW4
      have A4 := Lib.hid (HA.out.call B4)
      clear K3 L3 Y3 B3 A3 x3
      have X4c0 := X4.c0
      have X4c1 := X4.c1
      have X4c2 := X4.c2
      have X4c3 := X4.c3
      have X4c4 := X4.c4
      have X4l := X4.lt
      have L4c0 := L4.c0
      have L4c1 := L4.c1
      have L4c2 := L4.c2
      have L4c3 := L4.c3
      have L4c4 := L4.c4
      have L4c5 := L4.c5
      have L4l := L4.lt
      go_upto_region 1 with fail
      go_cut [9, 10] (fun s6 s7 wx => McW t0 t1 t2 w4 s6 s7 wx)
      case first =>
        have k9 : Bx (w3.heap.size) [.int .i64 f, .int .i64 A, .int .i64 B, .int .i64 C, .slice ao3 n cap3] w4 := X4
        have k8 : Bx (w.heap.size + 1) [.int .i64 a, .int .i64 b, .int .i64 c, .int .i64 d, .int .i64 x, .int .i64 y] w4 := L4
        go_region_held3 (fun W9 => (W9.cell? ⟨w3.heap.size, 0, none⟩ = some (.int .i64 f) ∧ W9.cell? ⟨w3.heap.size, 1, none⟩ = some (.int .i64 A) ∧ W9.cell? ⟨w3.heap.size, 2, none⟩ = some (.int .i64 B) ∧ W9.cell? ⟨w3.heap.size, 3, none⟩ = some (.int .i64 C) ∧ W9.cell? ⟨w3.heap.size, 4, none⟩ = some (.slice ao3 n cap3)) ∧ (W9.cell? ⟨w.heap.size + 1, 0, none⟩ = some (.int .i64 a) ∧ W9.cell? ⟨w.heap.size + 1, 1, none⟩ = some (.int .i64 b) ∧ W9.cell? ⟨w.heap.size + 1, 2, none⟩ = some (.int .i64 c) ∧ W9.cell? ⟨w.heap.size + 1, 3, none⟩ = some (.int .i64 d) ∧ W9.cell? ⟨w.heap.size + 1, 4, none⟩ = some (.int .i64 x) ∧ W9.cell? ⟨w.heap.size + 1, 5, none⟩ = some (.int .i64 y))) ((refine And.intro (Bx.cells5 ?_) (Bx.cells6 ?_)) <;> (repeat (first | with_reducible assumption | (with_reducible exact BX.at _ (by first | with_reducible rfl | (simp; done))) | (with_reducible exact Bx.at _ (by first | with_reducible rfl | (simp; done))) | with_reducible refine Bx.drew ?_ | with_reducible refine Bx.alloc ?_ _ | with_reducible refine Bx.call ?_ (by with_reducible assumption) | with_reducible refine BX.drew ?_ | with_reducible refine BX.alloc ?_ _ | with_reducible refine BX.call ?_ (by with_reducible assumption) | with_reducible refine Bx.st2 ?_ | with_reducible refine Bx.far (by first | omega | (dsimp only; omega)) ?_ | with_reducible refine BX.far (by first | omega | (dsimp only; omega)) ?_)))
          (first
            | (go_at_call 19; with_reducible refine (toMo_any a b c d x y _).mono ?_; rintro e w4mo ⟨rfl, hb4mo⟩; (try ((refine useIt (P := BX w4.heap.size [.int .i64 0, .int .i64 0] w4mo) ?_ ?_); (repeat (first | with_reducible assumption | (with_reducible exact BX.at _ (by first | with_reducible rfl | (simp; done))) | (with_reducible exact Bx.at _ (by first | with_reducible rfl | (simp; done))) | with_reducible refine Bx.drew ?_ | with_reducible refine Bx.alloc ?_ _ | with_reducible refine Bx.call ?_ (by with_reducible assumption) | with_reducible refine BX.drew ?_ | with_reducible refine BX.alloc ?_ _ | with_reducible refine BX.call ?_ (by with_reducible assumption) | with_reducible refine Bx.st2 ?_ | with_reducible refine Bx.far (by first | omega | (dsimp only; omega)) ?_ | with_reducible refine BX.far (by first | omega | (dsimp only; omega)) ?_)); intro d4mo_4; have d4mo_4c0 := d4mo_4.c0; have d4mo_4c1 := d4mo_4.c1; have d4mo_4f0 := d4mo_4.f0; have d4mo_4f1 := d4mo_4.f1; have d4mo_4l := d4mo_4.lt)); (try ((refine useIt (P := BX w4fr.heap.size [.int .i64 0, .int .i64 0] w4mo) ?_ ?_); (repeat (first | with_reducible assumption | (with_reducible exact BX.at _ (by first | with_reducible rfl | (simp; done))) | (with_reducible exact Bx.at _ (by first | with_reducible rfl | (simp; done))) | with_reducible refine Bx.drew ?_ | with_reducible refine Bx.alloc ?_ _ | with_reducible refine Bx.call ?_ (by with_reducible assumption) | with_reducible refine BX.drew ?_ | with_reducible refine BX.alloc ?_ _ | with_reducible refine BX.call ?_ (by with_reducible assumption) | with_reducible refine Bx.st2 ?_ | with_reducible refine Bx.far (by first | omega | (dsimp only; omega)) ?_ | with_reducible refine BX.far (by first | omega | (dsimp only; omega)) ?_)); intro d4mo_4fr; have d4mo_4frc0 := d4mo_4fr.c0; have d4mo_4frc1 := d4mo_4fr.c1; have d4mo_4frf0 := d4mo_4fr.f0; have d4mo_4frf1 := d4mo_4fr.f1; have d4mo_4frl := d4mo_4fr.lt)); have c4mo : Below w4.heap.size w4 w4mo := (by repeat (first | with_reducible assumption | with_reducible exact Below.refl _ _ | with_reducible refine Below.drew ?_ | with_reducible refine Below.alloc ?_ (by first | omega | (simp <;> omega)) _ | with_reducible refine Below.setCell ?_ (by first | omega | (dsimp only; omega)) _ | with_reducible refine bstep ?_ (by with_reducible assumption))); have y4mo := c4mo.size; have l4mo := Bx.call k9 c4mo; have ll4mo := l4mo.lt; have n4mo := Bx.call k8 c4mo; have nl4mo := n4mo.lt)
            | (go_at_call 22; with_reducible refine (implWit_any f A B C a b c d x y (SRow.call x4.out (by repeat (first | with_reducible assumption | with_reducible exact Below.refl _ _ | with_reducible refine Below.drew ?_ | with_reducible refine Below.alloc ?_ (by first | omega | (simp <;> omega)) _ | with_reducible refine Below.setCell ?_ (by first | omega | (dsimp only; omega)) _ | with_reducible refine bstep ?_ (by with_reducible assumption)))) (HU.out.call (by repeat (first | with_reducible assumption | with_reducible exact Below.refl _ _ | with_reducible refine Below.drew ?_ | with_reducible refine Below.alloc ?_ (by first | omega | (simp <;> omega)) _ | with_reducible refine Below.setCell ?_ (by first | omega | (dsimp only; omega)) _ | with_reducible refine bstep ?_ (by with_reducible assumption))))).mono ?_; rintro e w4mv ⟨rfl, hb4mv⟩; (try ((refine useIt (P := BX w4.heap.size [.int .i64 0, .int .i64 0] w4mv) ?_ ?_); (repeat (first | with_reducible assumption | (with_reducible exact BX.at _ (by first | with_reducible rfl | (simp; done))) | (with_reducible exact Bx.at _ (by first | with_reducible rfl | (simp; done))) | with_reducible refine Bx.drew ?_ | with_reducible refine Bx.alloc ?_ _ | with_reducible refine Bx.call ?_ (by with_reducible assumption) | with_reducible refine BX.drew ?_ | with_reducible refine BX.alloc ?_ _ | with_reducible refine BX.call ?_ (by with_reducible assumption) | with_reducible refine Bx.st2 ?_ | with_reducible refine Bx.far (by first | omega | (dsimp only; omega)) ?_ | with_reducible refine BX.far (by first | omega | (dsimp only; omega)) ?_)); intro d4mv_4; have d4mv_4c0 := d4mv_4.c0; have d4mv_4c1 := d4mv_4.c1; have d4mv_4f0 := d4mv_4.f0; have d4mv_4f1 := d4mv_4.f1; have d4mv_4l := d4mv_4.lt)); (try ((refine useIt (P := BX w4mo.heap.size [.int .i64 0, .int .i64 0] w4mv) ?_ ?_); (repeat (first | with_reducible assumption | (with_reducible exact BX.at _ (by first | with_reducible rfl | (simp; done))) | (with_reducible exact Bx.at _ (by first | with_reducible rfl | (simp; done))) | with_reducible refine Bx.drew ?_ | with_reducible refine Bx.alloc ?_ _ | with_reducible refine Bx.call ?_ (by with_reducible assumption) | with_reducible refine BX.drew ?_ | with_reducible refine BX.alloc ?_ _ | with_reducible refine BX.call ?_ (by with_reducible assumption) | with_reducible refine Bx.st2 ?_ | with_reducible refine Bx.far (by first | omega | (dsimp only; omega)) ?_ | with_reducible refine BX.far (by first | omega | (dsimp only; omega)) ?_)); intro d4mv_4mo; have d4mv_4moc0 := d4mv_4mo.c0; have d4mv_4moc1 := d4mv_4mo.c1; have d4mv_4mof0 := d4mv_4mo.f0; have d4mv_4mof1 := d4mv_4mo.f1; have d4mv_4mol := d4mv_4mo.lt)); (try ((refine useIt (P := BX w4fr.heap.size [.int .i64 0, .int .i64 0] w4mv) ?_ ?_); (repeat (first | with_reducible assumption | (with_reducible exact BX.at _ (by first | with_reducible rfl | (simp; done))) | (with_reducible exact Bx.at _ (by first | with_reducible rfl | (simp; done))) | with_reducible refine Bx.drew ?_ | with_reducible refine Bx.alloc ?_ _ | with_reducible refine Bx.call ?_ (by with_reducible assumption) | with_reducible refine BX.drew ?_ | with_reducible refine BX.alloc ?_ _ | with_reducible refine BX.call ?_ (by with_reducible assumption) | with_reducible refine Bx.st2 ?_ | with_reducible refine Bx.far (by first | omega | (dsimp only; omega)) ?_ | with_reducible refine BX.far (by first | omega | (dsimp only; omega)) ?_)); intro d4mv_4fr; have d4mv_4frc0 := d4mv_4fr.c0; have d4mv_4frc1 := d4mv_4fr.c1; have d4mv_4frf0 := d4mv_4fr.f0; have d4mv_4frf1 := d4mv_4fr.f1; have d4mv_4frl := d4mv_4fr.lt)); have c4mv : Below w4.heap.size w4 w4mv := (by repeat (first | with_reducible assumption | with_reducible exact Below.refl _ _ | with_reducible refine Below.drew ?_ | with_reducible refine Below.alloc ?_ (by first | omega | (simp <;> omega)) _ | with_reducible refine Below.setCell ?_ (by first | omega | (dsimp only; omega)) _ | with_reducible refine bstep ?_ (by with_reducible assumption))); have y4mv := c4mv.size; have l4mv := Bx.call k9 c4mv; have ll4mv := l4mv.lt; have n4mv := Bx.call k8 c4mv; have nl4mv := n4mv.lt; rw [HW9.out]))
        all_goals
          go_wp2_with fail
          go_meet
          exact ⟨_, rfl, rfl, (by repeat (first | with_reducible assumption | (with_reducible exact BX.at _ (by first | with_reducible rfl | (simp; done))) | (with_reducible exact Bx.at _ (by first | with_reducible rfl | (simp; done))) | with_reducible refine Bx.drew ?_ | with_reducible refine Bx.alloc ?_ _ | with_reducible refine Bx.call ?_ (by with_reducible assumption) | with_reducible refine BX.drew ?_ | with_reducible refine BX.alloc ?_ _ | with_reducible refine BX.call ?_ (by with_reducible assumption) | with_reducible refine Bx.st2 ?_ | with_reducible refine Bx.far (by first | omega | (dsimp only; omega)) ?_ | with_reducible refine BX.far (by first | omega | (dsimp only; omega)) ?_)), (by first | omega | (simp <;> omega)), (by repeat (first | with_reducible assumption | with_reducible exact Below.refl _ _ | with_reducible refine Below.drew ?_ | with_reducible refine Below.alloc ?_ (by first | omega | (simp <;> omega)) _ | with_reducible refine Below.setCell ?_ (by first | omega | (dsimp only; omega)) _ | with_reducible refine bstep ?_ (by with_reducible assumption)))⟩
      case rest =>
        obtain ⟨bx5, rfl, rfl, KD5, hl5, hb5⟩ := hcut
        obtain ⟨w5, hw5⟩ : ∃ z, z = wc := ⟨_, rfl⟩
        subst hw5
        have K5 : Bx (w.heap.size) [.int .i64 f, .int .i64 A, .int .i64 B, .int .i64 C, .slice ao n cap] w5 := Bx.call K4 hb5
        have L5 : Bx (w.heap.size + 1) [.int .i64 a, .int .i64 b, .int .i64 c, .int .i64 d, .int .i64 x, .int .i64 y] w5 := Bx.call L4 hb5
        have Y5 : Bx (bx2) [.int .i64 t0, .int .i64 t1] w5 := Bx.call Y4 hb5
        have X5 : Bx (w3.heap.size) [.int .i64 f, .int .i64 A, .int .i64 B, .int .i64 C, .slice ao3 n cap3] w5 := Bx.call X4 hb5
        have B5 : Below w.heap.size w w5 := bstep B4 hb5
        have A5 := Lib.hid (HA.out.call B5)
        have z5 : w4.heap.size ≤ w5.heap.size := hb5.size
        have x5 := Lib.hid (SRow.call x4.out hb5)
        clear K4 L4 Y4 X4 B4 A4 x4 X4c0 X4c1 X4c2 X4c3 X4c4 X4l L4c0 L4c1 L4c2 L4c3 L4c4 L4c5 L4l hb5
        have G5 := KD5
        have bl5 := KD5.lt
        clear KD5
        have G5c0 := G5.c0
        have G5c1 := G5.c1
        have G5l := G5.lt
        have Y5c0 := Y5.c0
        have Y5c1 := Y5.c1
        have Y5l := Y5.lt
        go_wp2_with fail
        with_reducible refine (eqVec_any t0 t1 t0 t1 _).mono ?_
        rintro e w6 ⟨rfl, hb6⟩
        rw [show eqB t0 t1 t0 t1 = true by simp [eqB]]
        have K6 : Bx (w.heap.size) [.int .i64 f, .int .i64 A, .int .i64 B, .int .i64 C, .slice ao n cap] w6 := Bx.call K5 hb6
        have L6 : Bx (w.heap.size + 1) [.int .i64 a, .int .i64 b, .int .i64 c, .int .i64 d, .int .i64 x, .int .i64 y] w6 := Bx.call L5 hb6
        have Y6 : Bx (bx2) [.int .i64 t0, .int .i64 t1] w6 := Bx.call Y5 hb6
        have X6 : Bx (w3.heap.size) [.int .i64 f, .int .i64 A, .int .i64 B, .int .i64 C, .slice ao3 n cap3] w6 := Bx.call X5 hb6
        have G6 : Bx (bx5) [.int .i64 t0, .int .i64 t1] w6 := Bx.call G5 hb6
        have B6 : Below w.heap.size w w6 := bstep B5 hb6
        have A6 := Lib.hid (HA.out.call B6)
        have z6 : w5.heap.size ≤ w6.heap.size := hb6.size
        have x6 := Lib.hid (SRow.call x5.out hb6)
        clear K5 L5 Y5 X5 G5 B5 A5 x5 G5c0 G5c1 G5l Y5c0 Y5c1 Y5l hb6
        have K6c0 := K6.c0
        have K6c1 := K6.c1
        have K6c2 := K6.c2
        have K6c3 := K6.c3
        have K6c4 := K6.c4
        have K6l := K6.lt
        have X6c0 := X6.c0
        have X6c1 := X6.c1
        have X6c2 := X6.c2
        have X6c3 := X6.c3
        have X6c4 := X6.c4
        have X6l := X6.lt
        go_wp2_with fail
        go_region_held3 (fun W9 => (W9.cell? ⟨w.heap.size, 0, none⟩ = some (.int .i64 f) ∧ W9.cell? ⟨w.heap.size, 1, none⟩ = some (.int .i64 A) ∧ W9.cell? ⟨w.heap.size, 2, none⟩ = some (.int .i64 B) ∧ W9.cell? ⟨w.heap.size, 3, none⟩ = some (.int .i64 C) ∧ W9.cell? ⟨w.heap.size, 4, none⟩ = some (.slice ao n cap)) ∧ (W9.cell? ⟨w3.heap.size, 0, none⟩ = some (.int .i64 f) ∧ W9.cell? ⟨w3.heap.size, 1, none⟩ = some (.int .i64 A) ∧ W9.cell? ⟨w3.heap.size, 2, none⟩ = some (.int .i64 B) ∧ W9.cell? ⟨w3.heap.size, 3, none⟩ = some (.int .i64 C) ∧ W9.cell? ⟨w3.heap.size, 4, none⟩ = some (.slice ao3 n cap3))) ((refine (And.intro (Bx.cells5 ?_) (Bx.cells5 ?_))) <;> (repeat (first | with_reducible assumption | with_reducible refine Bx.drew ?_ | with_reducible refine Bx.alloc ?_ _ | with_reducible refine Bx.call ?_ (by with_reducible assumption))))
          (first
            | (go_at_call 11; with_reducible refine (toPat_any f A B C (A6.out.call (by repeat (first | with_reducible assumption | with_reducible exact Below.refl _ _ | with_reducible refine Below.drew ?_ | with_reducible refine Below.alloc ?_ (by first | omega | (simp <;> omega)) _ | with_reducible refine Below.setCell ?_ (by first | omega | (dsimp only; omega)) _ | with_reducible refine bstep ?_ (by with_reducible assumption)))) HN.out).mono ?_; rintro e u7p ⟨v7p, rfl, r7p, hb7p⟩; obtain ⟨ao7p, cap7p, rfl⟩ := r7p.slice; have c7p : Below w6.heap.size w6 u7p := (by repeat (first | with_reducible assumption | with_reducible exact Below.refl _ _ | with_reducible refine Below.drew ?_ | with_reducible refine Below.alloc ?_ (by first | omega | (simp <;> omega)) _ | with_reducible refine Below.setCell ?_ (by first | omega | (dsimp only; omega)) _ | with_reducible refine bstep ?_ (by with_reducible assumption))))
            | (go_at_call 14; with_reducible refine (eqPat_any f A B C (SRow.call x6.out (by repeat (first | with_reducible assumption | with_reducible exact Below.refl _ _ | with_reducible refine Below.drew ?_ | with_reducible refine Below.alloc ?_ (by first | omega | (simp <;> omega)) _ | with_reducible refine Below.setCell ?_ (by first | omega | (dsimp only; omega)) _ | with_reducible refine bstep ?_ (by with_reducible assumption)))) (SRow.call r7p (by repeat (first | with_reducible assumption | with_reducible exact Below.refl _ _ | with_reducible refine Below.drew ?_ | with_reducible refine Below.alloc ?_ (by first | omega | (simp <;> omega)) _ | with_reducible refine Below.setCell ?_ (by first | omega | (dsimp only; omega)) _ | with_reducible refine bstep ?_ (by with_reducible assumption))))).mono ?_; rintro e u7q ⟨rfl, hb7q⟩; have c7q : Below w6.heap.size w6 u7q := (by repeat (first | with_reducible assumption | with_reducible exact Below.refl _ _ | with_reducible refine Below.drew ?_ | with_reducible refine Below.alloc ?_ (by first | omega | (simp <;> omega)) _ | with_reducible refine Below.setCell ?_ (by first | omega | (dsimp only; omega)) _ | with_reducible refine bstep ?_ (by with_reducible assumption)))))
        all_goals
          obtain ⟨w7, hw7⟩ : ∃ z, z = u7q := ⟨_, rfl⟩
          subst hw7
          have K7 : Bx (w.heap.size) [.int .i64 f, .int .i64 A, .int .i64 B, .int .i64 C, .slice ao n cap] w7 := Bx.call K6 c7q
          have L7 : Bx (w.heap.size + 1) [.int .i64 a, .int .i64 b, .int .i64 c, .int .i64 d, .int .i64 x, .int .i64 y] w7 := Bx.call L6 c7q
          have Y7 : Bx (bx2) [.int .i64 t0, .int .i64 t1] w7 := Bx.call Y6 c7q
          have X7 : Bx (w3.heap.size) [.int .i64 f, .int .i64 A, .int .i64 B, .int .i64 C, .slice ao3 n cap3] w7 := Bx.call X6 c7q
          have G7 : Bx (bx5) [.int .i64 t0, .int .i64 t1] w7 := Bx.call G6 c7q
          have B7 : Below w.heap.size w w7 := bstep B6 c7q
          have A7 := Lib.hid (HA.out.call B7)
          have z7 : w6.heap.size ≤ w7.heap.size := c7q.size
          have x7 := Lib.hid (SRow.call x6.out c7q)
          clear K6 L6 Y6 X6 G6 B6 A6 x6 K6c0 K6c1 K6c2 K6c3 K6c4 K6l X6c0 X6c1 X6c2 X6c3 X6c4 X6l c7q
          go_wp2
          go_ret
          exact ⟨rfl, B7⟩
  · have hz : (if (n : Int) ≤ 1048576 then 1048576 - (n : Int) else -1) = -1 := if_neg (by omega)
    go_enter Tryd.func5, Tryd.ntmps5
    go_wp2_with fail
    refine (szPat_any f A B C ao n cap 1048576 _ hm (by omega)).mono ?_
    rintro e w1 ⟨rfl, hb1⟩
    rw [hz]
    go_wp2
    go_ret
    exact ⟨rfl, bstep (by repeat (first | with_reducible assumption | with_reducible exact Below.refl _ _ | with_reducible refine Below.drew ?_ | with_reducible refine Below.alloc ?_ (by first | omega | (simp <;> omega)) _ | with_reducible refine Below.setCell ?_ (by first | omega | (dsimp only; omega)) _ | with_reducible refine bstep ?_ (by with_reducible assumption))) hb1⟩
end Go.Proofs.YtkfdaepnjdnnmaaDoor
