/-
  The walk of the exact law of MovePattern: the law returns true and writes nothing that was there. Condition: the list's length is one that a slice can have.
-/
import Derived.Test.YtpejihckepaojaaPtN
import Derived.Test.YtpejihckepaojaaVc
import Derived.Test.YtpejihckepaojaaPtW
namespace Go.Proofs.Ytpejihckepaojaa
open Go.RowKit
set_option linter.unusedSimpArgs false
set_option linter.unusedVariables false

set_option maxRecDepth 100000 in
set_option maxHeartbeats 16000000 in
theorem walkMv (f A B C : Int) (v : Value) (n : Nat) (F : Nat → Int) (a b c d x y : Int) (w : World) (hA : ARw v n F w) (hm : n ≤ 9223372036854775807) :
    Calls Try.prog 7 #[.agg #[.int .i64 f, .int .i64 A, .int .i64 B, .int .i64 C, v], .agg #[.int .i64 a, .int .i64 b, .int .i64 c, .int .i64 d, .int .i64 x, .int .i64 y]] w fun e w' => e = .returned (.bool true) ∧ Below w.heap.size w w' := by
  have HA := Lib.hid hA
  obtain ⟨ao, cap, rfl, _⟩ := hA
  by_cases hbig : n ≤ 1048576
  · have hz : (if (n : Int) ≤ 1048576 then 1048576 - (n : Int) else -1) = 1048576 - (n : Int) := if_pos (by omega)
    have HN := Lib.hid hbig
    have hn1 : ¬ (1048576 - (n : Int) < 0) := by omega
    clear hbig
    go_enter Try.func7, Try.ntmps7
    go_wp2_with fail
    with_reducible refine (szPat_any f A B C ao n cap 1048576 _ hm (by omega)).mono ?_
    rintro e w1 ⟨rfl, hb1⟩
    rw [hz]
    have K1 : Bx (w.heap.size) [.int .i64 f, .int .i64 A, .int .i64 B, .int .i64 C, .slice ao n cap] w1 := Bx.call ((Bx.at _ rfl).alloc _) hb1
    have L1 : Bx (w.heap.size + 1) [.int .i64 a, .int .i64 b, .int .i64 c, .int .i64 d, .int .i64 x, .int .i64 y] w1 := Bx.call ((Bx.at _ (by simp))) hb1
    have B1 : Below w.heap.size w w1 := bstep (by repeat (first | with_reducible assumption | with_reducible exact Below.refl _ _ | with_reducible refine Below.drew ?_ | with_reducible refine Below.alloc ?_ (by first | omega | (simp <;> omega)) _ | with_reducible refine Below.setCell ?_ (by first | omega | (dsimp only; omega)) _ | with_reducible refine bstep ?_ (by with_reducible assumption))) hb1
    have A1 := Lib.hid (HA.out.call B1)
    have z1 : w.heap.size + 1 < w1.heap.size := by have := hb1.size; simp at this; omega
    clear hb1
    have K1c0 := K1.c0
    have K1c1 := K1.c1
    have K1c2 := K1.c2
    have K1c3 := K1.c3
    have K1c4 := K1.c4
    have K1l := K1.lt
    have L1c0 := L1.c0
    have L1c1 := L1.c1
    have L1c2 := L1.c2
    have L1c3 := L1.c3
    have L1c4 := L1.c4
    have L1c5 := L1.c5
    have L1l := L1.lt
    go_upto_region 1 with fail
    go_cut [6, 7] (fun s6 s7 wx => McP (mvA f A B C n F a b c d x y) w1 s6 s7 wx)
    case first =>
      have k9 : Bx (w.heap.size) [.int .i64 f, .int .i64 A, .int .i64 B, .int .i64 C, .slice ao n cap] w1 := K1
      have k8 : Bx (w.heap.size + 1) [.int .i64 a, .int .i64 b, .int .i64 c, .int .i64 d, .int .i64 x, .int .i64 y] w1 := L1
      go_region_held3 (fun W9 => (W9.cell? ⟨w.heap.size, 0, none⟩ = some (.int .i64 f) ∧ W9.cell? ⟨w.heap.size, 1, none⟩ = some (.int .i64 A) ∧ W9.cell? ⟨w.heap.size, 2, none⟩ = some (.int .i64 B) ∧ W9.cell? ⟨w.heap.size, 3, none⟩ = some (.int .i64 C) ∧ W9.cell? ⟨w.heap.size, 4, none⟩ = some (.slice ao n cap)) ∧ (W9.cell? ⟨w.heap.size + 1, 0, none⟩ = some (.int .i64 a) ∧ W9.cell? ⟨w.heap.size + 1, 1, none⟩ = some (.int .i64 b) ∧ W9.cell? ⟨w.heap.size + 1, 2, none⟩ = some (.int .i64 c) ∧ W9.cell? ⟨w.heap.size + 1, 3, none⟩ = some (.int .i64 d) ∧ W9.cell? ⟨w.heap.size + 1, 4, none⟩ = some (.int .i64 x) ∧ W9.cell? ⟨w.heap.size + 1, 5, none⟩ = some (.int .i64 y))) ((refine And.intro (Bx.cells5 ?_) (Bx.cells6 ?_)) <;> (repeat (first | with_reducible assumption | (with_reducible exact BX.at _ (by first | with_reducible rfl | (simp; done))) | (with_reducible exact Bx.at _ (by first | with_reducible rfl | (simp; done))) | with_reducible refine Bx.drew ?_ | with_reducible refine Bx.alloc ?_ _ | with_reducible refine Bx.call ?_ (by with_reducible assumption) | with_reducible refine BX.drew ?_ | with_reducible refine BX.alloc ?_ _ | with_reducible refine BX.call ?_ (by with_reducible assumption) | with_reducible refine Bx.far (by first | omega | (dsimp only; omega)) ?_ | with_reducible refine Bx.st5 ?_)))
        (first
          | (go_at_call 10; with_reducible refine (toPat_any f A B C (A1.out.call (by repeat (first | with_reducible assumption | with_reducible exact Below.refl _ _ | with_reducible refine Below.drew ?_ | with_reducible refine Below.alloc ?_ (by first | omega | (simp <;> omega)) _ | with_reducible refine Below.setCell ?_ (by first | omega | (dsimp only; omega)) _ | with_reducible refine bstep ?_ (by with_reducible assumption)))) HN.out).mono ?_; rintro e w1fr ⟨v1fr, rfl, r1fr, hb1fr⟩; obtain ⟨ao1fr, cap1fr, rfl⟩ := r1fr.slice; (try ((refine useIt (P := BX w1.heap.size [.int .i64 0, .int .i64 0, .int .i64 0, .int .i64 0, .slice none 0 0] w1fr) ?_ ?_); (repeat (first | with_reducible assumption | (with_reducible exact BX.at _ (by first | with_reducible rfl | (simp; done))) | (with_reducible exact Bx.at _ (by first | with_reducible rfl | (simp; done))) | with_reducible refine Bx.drew ?_ | with_reducible refine Bx.alloc ?_ _ | with_reducible refine Bx.call ?_ (by with_reducible assumption) | with_reducible refine BX.drew ?_ | with_reducible refine BX.alloc ?_ _ | with_reducible refine BX.call ?_ (by with_reducible assumption) | with_reducible refine Bx.far (by first | omega | (dsimp only; omega)) ?_ | with_reducible refine Bx.st5 ?_)); intro d1fr_1; have d1fr_1c0 := d1fr_1.c0; have d1fr_1c1 := d1fr_1.c1; have d1fr_1c2 := d1fr_1.c2; have d1fr_1c3 := d1fr_1.c3; have d1fr_1c4 := d1fr_1.c4; have d1fr_1f0 := d1fr_1.f0; have d1fr_1f1 := d1fr_1.f1; have d1fr_1f2 := d1fr_1.f2; have d1fr_1f3 := d1fr_1.f3; have d1fr_1f4 := d1fr_1.f4; have d1fr_1l := d1fr_1.lt)); (try ((refine useIt (P := BX w1mo.heap.size [.int .i64 0, .int .i64 0, .int .i64 0, .int .i64 0, .slice none 0 0] w1fr) ?_ ?_); (repeat (first | with_reducible assumption | (with_reducible exact BX.at _ (by first | with_reducible rfl | (simp; done))) | (with_reducible exact Bx.at _ (by first | with_reducible rfl | (simp; done))) | with_reducible refine Bx.drew ?_ | with_reducible refine Bx.alloc ?_ _ | with_reducible refine Bx.call ?_ (by with_reducible assumption) | with_reducible refine BX.drew ?_ | with_reducible refine BX.alloc ?_ _ | with_reducible refine BX.call ?_ (by with_reducible assumption) | with_reducible refine Bx.far (by first | omega | (dsimp only; omega)) ?_ | with_reducible refine Bx.st5 ?_)); intro d1fr_1mo; have d1fr_1moc0 := d1fr_1mo.c0; have d1fr_1moc1 := d1fr_1mo.c1; have d1fr_1moc2 := d1fr_1mo.c2; have d1fr_1moc3 := d1fr_1mo.c3; have d1fr_1moc4 := d1fr_1mo.c4; have d1fr_1mof0 := d1fr_1mo.f0; have d1fr_1mof1 := d1fr_1mo.f1; have d1fr_1mof2 := d1fr_1mo.f2; have d1fr_1mof3 := d1fr_1mo.f3; have d1fr_1mof4 := d1fr_1mo.f4; have d1fr_1mol := d1fr_1mo.lt)); have c1fr : Below w1.heap.size w1 w1fr := (by repeat (first | with_reducible assumption | with_reducible exact Below.refl _ _ | with_reducible refine Below.drew ?_ | with_reducible refine Below.alloc ?_ (by first | omega | (simp <;> omega)) _ | with_reducible refine Below.setCell ?_ (by first | omega | (dsimp only; omega)) _ | with_reducible refine bstep ?_ (by with_reducible assumption))); have y1fr := c1fr.size; have l1fr := Bx.call k9 c1fr; have ll1fr := l1fr.lt; have n1fr := Bx.call k8 c1fr; have nl1fr := n1fr.lt)
          | (go_at_call 26; with_reducible refine (toMo_any a b c d x y _).mono ?_; rintro e w1mo ⟨rfl, hb1mo⟩; (try ((refine useIt (P := BX w1.heap.size [.int .i64 0, .int .i64 0, .int .i64 0, .int .i64 0, .slice none 0 0] w1mo) ?_ ?_); (repeat (first | with_reducible assumption | (with_reducible exact BX.at _ (by first | with_reducible rfl | (simp; done))) | (with_reducible exact Bx.at _ (by first | with_reducible rfl | (simp; done))) | with_reducible refine Bx.drew ?_ | with_reducible refine Bx.alloc ?_ _ | with_reducible refine Bx.call ?_ (by with_reducible assumption) | with_reducible refine BX.drew ?_ | with_reducible refine BX.alloc ?_ _ | with_reducible refine BX.call ?_ (by with_reducible assumption) | with_reducible refine Bx.far (by first | omega | (dsimp only; omega)) ?_ | with_reducible refine Bx.st5 ?_)); intro d1mo_1; have d1mo_1c0 := d1mo_1.c0; have d1mo_1c1 := d1mo_1.c1; have d1mo_1c2 := d1mo_1.c2; have d1mo_1c3 := d1mo_1.c3; have d1mo_1c4 := d1mo_1.c4; have d1mo_1f0 := d1mo_1.f0; have d1mo_1f1 := d1mo_1.f1; have d1mo_1f2 := d1mo_1.f2; have d1mo_1f3 := d1mo_1.f3; have d1mo_1f4 := d1mo_1.f4; have d1mo_1l := d1mo_1.lt)); (try ((refine useIt (P := BX w1fr.heap.size [.int .i64 0, .int .i64 0, .int .i64 0, .int .i64 0, .slice none 0 0] w1mo) ?_ ?_); (repeat (first | with_reducible assumption | (with_reducible exact BX.at _ (by first | with_reducible rfl | (simp; done))) | (with_reducible exact Bx.at _ (by first | with_reducible rfl | (simp; done))) | with_reducible refine Bx.drew ?_ | with_reducible refine Bx.alloc ?_ _ | with_reducible refine Bx.call ?_ (by with_reducible assumption) | with_reducible refine BX.drew ?_ | with_reducible refine BX.alloc ?_ _ | with_reducible refine BX.call ?_ (by with_reducible assumption) | with_reducible refine Bx.far (by first | omega | (dsimp only; omega)) ?_ | with_reducible refine Bx.st5 ?_)); intro d1mo_1fr; have d1mo_1frc0 := d1mo_1fr.c0; have d1mo_1frc1 := d1mo_1fr.c1; have d1mo_1frc2 := d1mo_1fr.c2; have d1mo_1frc3 := d1mo_1fr.c3; have d1mo_1frc4 := d1mo_1fr.c4; have d1mo_1frf0 := d1mo_1fr.f0; have d1mo_1frf1 := d1mo_1fr.f1; have d1mo_1frf2 := d1mo_1fr.f2; have d1mo_1frf3 := d1mo_1fr.f3; have d1mo_1frf4 := d1mo_1fr.f4; have d1mo_1frl := d1mo_1fr.lt)); (try ((refine useIt (P := Below w1fr.heap.size w1fr w1mo) ?_ ?_); (with_reducible exact bstep (by repeat (first | with_reducible assumption | with_reducible exact Below.refl _ _ | with_reducible refine Below.drew ?_ | with_reducible refine Below.alloc ?_ (by first | omega | (simp <;> omega)) _ | with_reducible refine Below.setCell ?_ (by first | omega | (dsimp only; omega)) _ | with_reducible refine bstep ?_ (by with_reducible assumption))) hb1mo); intro e1mo; have ye1mo := e1mo.size)); have c1mo : Below w1.heap.size w1 w1mo := (by repeat (first | with_reducible assumption | with_reducible exact Below.refl _ _ | with_reducible refine Below.drew ?_ | with_reducible refine Below.alloc ?_ (by first | omega | (simp <;> omega)) _ | with_reducible refine Below.setCell ?_ (by first | omega | (dsimp only; omega)) _ | with_reducible refine bstep ?_ (by with_reducible assumption))); have y1mo := c1mo.size; have l1mo := Bx.call k9 c1mo; have ll1mo := l1mo.lt; have n1mo := Bx.call k8 c1mo; have nl1mo := n1mo.lt)
          | (go_at_call 25; with_reducible refine (specMv_any f A B C a b c d x y (SRow.call r1fr (by repeat (first | with_reducible assumption | with_reducible exact Below.refl _ _ | with_reducible refine Below.drew ?_ | with_reducible refine Below.alloc ?_ (by first | omega | (simp <;> omega)) _ | with_reducible refine Below.setCell ?_ (by first | omega | (dsimp only; omega)) _ | with_reducible refine bstep ?_ (by with_reducible assumption))))).mono ?_; rintro e w1mv hh; unfold PAns at hh; obtain ⟨pf2, pa2, pb2, pc2, m2, G2, c2, v2, hr2, rfl, rq2, hb1mv⟩ := hh; obtain ⟨ao2, cap2, rfl⟩ := rq2.slice; (try ((refine useIt (P := BX w1.heap.size [.int .i64 0, .int .i64 0, .int .i64 0, .int .i64 0, .slice none 0 0] w1mv) ?_ ?_); (repeat (first | with_reducible assumption | (with_reducible exact BX.at _ (by first | with_reducible rfl | (simp; done))) | (with_reducible exact Bx.at _ (by first | with_reducible rfl | (simp; done))) | with_reducible refine Bx.drew ?_ | with_reducible refine Bx.alloc ?_ _ | with_reducible refine Bx.call ?_ (by with_reducible assumption) | with_reducible refine BX.drew ?_ | with_reducible refine BX.alloc ?_ _ | with_reducible refine BX.call ?_ (by with_reducible assumption) | with_reducible refine Bx.far (by first | omega | (dsimp only; omega)) ?_ | with_reducible refine Bx.st5 ?_)); intro d1mv_1; have d1mv_1c0 := d1mv_1.c0; have d1mv_1c1 := d1mv_1.c1; have d1mv_1c2 := d1mv_1.c2; have d1mv_1c3 := d1mv_1.c3; have d1mv_1c4 := d1mv_1.c4; have d1mv_1f0 := d1mv_1.f0; have d1mv_1f1 := d1mv_1.f1; have d1mv_1f2 := d1mv_1.f2; have d1mv_1f3 := d1mv_1.f3; have d1mv_1f4 := d1mv_1.f4; have d1mv_1l := d1mv_1.lt)); (try ((refine useIt (P := BX w1mo.heap.size [.int .i64 0, .int .i64 0, .int .i64 0, .int .i64 0, .slice none 0 0] w1mv) ?_ ?_); (repeat (first | with_reducible assumption | (with_reducible exact BX.at _ (by first | with_reducible rfl | (simp; done))) | (with_reducible exact Bx.at _ (by first | with_reducible rfl | (simp; done))) | with_reducible refine Bx.drew ?_ | with_reducible refine Bx.alloc ?_ _ | with_reducible refine Bx.call ?_ (by with_reducible assumption) | with_reducible refine BX.drew ?_ | with_reducible refine BX.alloc ?_ _ | with_reducible refine BX.call ?_ (by with_reducible assumption) | with_reducible refine Bx.far (by first | omega | (dsimp only; omega)) ?_ | with_reducible refine Bx.st5 ?_)); intro d1mv_1mo; have d1mv_1moc0 := d1mv_1mo.c0; have d1mv_1moc1 := d1mv_1mo.c1; have d1mv_1moc2 := d1mv_1mo.c2; have d1mv_1moc3 := d1mv_1mo.c3; have d1mv_1moc4 := d1mv_1mo.c4; have d1mv_1mof0 := d1mv_1mo.f0; have d1mv_1mof1 := d1mv_1mo.f1; have d1mv_1mof2 := d1mv_1mo.f2; have d1mv_1mof3 := d1mv_1mo.f3; have d1mv_1mof4 := d1mv_1mo.f4; have d1mv_1mol := d1mv_1mo.lt)); (try ((refine useIt (P := BX w1fr.heap.size [.int .i64 0, .int .i64 0, .int .i64 0, .int .i64 0, .slice none 0 0] w1mv) ?_ ?_); (repeat (first | with_reducible assumption | (with_reducible exact BX.at _ (by first | with_reducible rfl | (simp; done))) | (with_reducible exact Bx.at _ (by first | with_reducible rfl | (simp; done))) | with_reducible refine Bx.drew ?_ | with_reducible refine Bx.alloc ?_ _ | with_reducible refine Bx.call ?_ (by with_reducible assumption) | with_reducible refine BX.drew ?_ | with_reducible refine BX.alloc ?_ _ | with_reducible refine BX.call ?_ (by with_reducible assumption) | with_reducible refine Bx.far (by first | omega | (dsimp only; omega)) ?_ | with_reducible refine Bx.st5 ?_)); intro d1mv_1fr; have d1mv_1frc0 := d1mv_1fr.c0; have d1mv_1frc1 := d1mv_1fr.c1; have d1mv_1frc2 := d1mv_1fr.c2; have d1mv_1frc3 := d1mv_1fr.c3; have d1mv_1frc4 := d1mv_1fr.c4; have d1mv_1frf0 := d1mv_1fr.f0; have d1mv_1frf1 := d1mv_1fr.f1; have d1mv_1frf2 := d1mv_1fr.f2; have d1mv_1frf3 := d1mv_1fr.f3; have d1mv_1frf4 := d1mv_1fr.f4; have d1mv_1frl := d1mv_1fr.lt)); have c1mv : Below w1.heap.size w1 w1mv := (by repeat (first | with_reducible assumption | with_reducible exact Below.refl _ _ | with_reducible refine Below.drew ?_ | with_reducible refine Below.alloc ?_ (by first | omega | (simp <;> omega)) _ | with_reducible refine Below.setCell ?_ (by first | omega | (dsimp only; omega)) _ | with_reducible refine bstep ?_ (by with_reducible assumption))); have y1mv := c1mv.size; have l1mv := Bx.call k9 c1mv; have ll1mv := l1mv.lt; have n1mv := Bx.call k8 c1mv; have nl1mv := n1mv.lt; have rr2 : SRow w1.heap.size w1mv.heap.size 1 (.slice ao2 m2 cap2) m2 G2 w1mv := SRow.low rq2 (by first | omega | (simp <;> omega))))
      all_goals
        go_wp2_with fail
        go_meet
        exact ⟨_, _, _, _, _, _, _, _, _, _, hr2, rfl, rfl, (by repeat (first | with_reducible assumption | (with_reducible exact BX.at _ (by first | with_reducible rfl | (simp; done))) | (with_reducible exact Bx.at _ (by first | with_reducible rfl | (simp; done))) | with_reducible refine Bx.drew ?_ | with_reducible refine Bx.alloc ?_ _ | with_reducible refine Bx.call ?_ (by with_reducible assumption) | with_reducible refine BX.drew ?_ | with_reducible refine BX.alloc ?_ _ | with_reducible refine BX.call ?_ (by with_reducible assumption) | with_reducible refine Bx.far (by first | omega | (dsimp only; omega)) ?_ | with_reducible refine Bx.st5 ?_)), (by refine SRow.up (hi := w1mv.heap.size) ?_; repeat (first | with_reducible exact rr2 | with_reducible refine SRow.alloc9 ?_ _ | with_reducible refine SRow.drew9 ?_ | (with_reducible refine SRow.putO9 (rq2.off (by dsimp only; first | omega | exact Or.inl (lt_al9 _ _) | (have := d1mo_1.lt; first | omega | (simp <;> omega)) | (have := d1mo_1mo.lt; first | omega | (simp <;> omega)) | (have := d1mo_1fr.lt; first | omega | (simp <;> omega)) | (have := d1mv_1.lt; first | omega | (simp <;> omega)) | (have := d1mv_1mo.lt; first | omega | (simp <;> omega)) | (have := d1mv_1fr.lt; first | omega | (simp <;> omega)) | (have := d1fr_1.lt; first | omega | (simp <;> omega)) | (have := d1fr_1mo.lt; first | omega | (simp <;> omega)) | (have := d1fr_1fr.lt; first | omega | (simp <;> omega)))) _ ?_))), (by first | omega | (simp <;> omega)), rq2.off (by first | omega | exact Or.inl (lt_al9 _ _) | (simp <;> omega) | (have := d1mo_1.lt; first | omega | (simp <;> omega)) | (have := d1mo_1mo.lt; first | omega | (simp <;> omega)) | (have := d1mo_1fr.lt; first | omega | (simp <;> omega)) | (have := d1mv_1.lt; first | omega | (simp <;> omega)) | (have := d1mv_1mo.lt; first | omega | (simp <;> omega)) | (have := d1mv_1fr.lt; first | omega | (simp <;> omega)) | (have := d1fr_1.lt; first | omega | (simp <;> omega)) | (have := d1fr_1mo.lt; first | omega | (simp <;> omega)) | (have := d1fr_1fr.lt; first | omega | (simp <;> omega))), (by repeat (first | with_reducible assumption | with_reducible exact Below.refl _ _ | with_reducible refine Below.drew ?_ | with_reducible refine Below.alloc ?_ (by first | omega | (simp <;> omega)) _ | with_reducible refine Below.setCell ?_ (by first | omega | (dsimp only; omega)) _ | with_reducible refine bstep ?_ (by with_reducible assumption)))⟩
    case rest =>
      obtain ⟨bx2, pf2, pa2, pb2, pc2, m2, G2, c2, ao2, cap2, hr2, rfl, rfl, KD2, rq2, hl2, ho2, hb2⟩ := hcut
      obtain ⟨w2, hw2⟩ : ∃ z, z = wc := ⟨_, rfl⟩
      subst hw2
      have HP := Lib.hid hr2
      clear hr2
      have K2 : Bx (w.heap.size) [.int .i64 f, .int .i64 A, .int .i64 B, .int .i64 C, .slice ao n cap] w2 := Bx.call K1 hb2
      have L2 : Bx (w.heap.size + 1) [.int .i64 a, .int .i64 b, .int .i64 c, .int .i64 d, .int .i64 x, .int .i64 y] w2 := Bx.call L1 hb2
      have B2 : Below w.heap.size w w2 := bstep B1 hb2
      have A2 := Lib.hid (HA.out.call B2)
      have z2 : w1.heap.size ≤ w2.heap.size := hb2.size
      clear K1 L1 B1 A1 K1c0 K1c1 K1c2 K1c3 K1c4 K1l L1c0 L1c1 L1c2 L1c3 L1c4 L1c5 L1l hb2
      have y2 := Lib.hid rq2
      clear rq2
      have Y2 := KD2
      have bl2 := KD2.lt
      clear KD2
      have HO2 := Lib.hid ho2
      clear ho2
      have K2c0 := K2.c0
      have K2c1 := K2.c1
      have K2c2 := K2.c2
      have K2c3 := K2.c3
      have K2c4 := K2.c4
      have K2l := K2.lt
      go_wp2_with fail
      with_reducible refine (toPat_any f A B C A2.out HN.out).mono ?_
      rintro e w3 ⟨v3, rfl, r3, hb3⟩
      have K3 : Bx (w.heap.size) [.int .i64 f, .int .i64 A, .int .i64 B, .int .i64 C, .slice ao n cap] w3 := Bx.call K2 hb3
      have L3 : Bx (w.heap.size + 1) [.int .i64 a, .int .i64 b, .int .i64 c, .int .i64 d, .int .i64 x, .int .i64 y] w3 := Bx.call L2 hb3
      have Y3 : Bx (bx2) [.int .i64 pf2, .int .i64 pa2, .int .i64 pb2, .int .i64 pc2, .slice ao2 m2 cap2] w3 := Bx.call Y2 hb3
      have B3 : Below w.heap.size w w3 := bstep B2 hb3
      have A3 := Lib.hid (HA.out.call B3)
      have z3 : w2.heap.size ≤ w3.heap.size := hb3.size
      have y3 := Lib.hid (SRow.call y2.out hb3)
      clear K2 L2 Y2 B2 A2 y2 K2c0 K2c1 K2c2 K2c3 K2c4 K2l hb3
      obtain ⟨ao3, cap3, rfl⟩ := r3.slice
      have x3 := Lib.hid r3
      clear r3
      go_upto_region 1 with fail
      have K4 : Bx (w.heap.size) [.int .i64 f, .int .i64 A, .int .i64 B, .int .i64 C, .slice ao n cap] (w3.alloc (.cells #[.int .i64 f, .int .i64 A, .int .i64 B, .int .i64 C, .slice ao3 n cap3] 31)) := Bx.alloc K3 _
      have L4 : Bx (w.heap.size + 1) [.int .i64 a, .int .i64 b, .int .i64 c, .int .i64 d, .int .i64 x, .int .i64 y] (w3.alloc (.cells #[.int .i64 f, .int .i64 A, .int .i64 B, .int .i64 C, .slice ao3 n cap3] 31)) := Bx.alloc L3 _
      have Y4 : Bx (bx2) [.int .i64 pf2, .int .i64 pa2, .int .i64 pb2, .int .i64 pc2, .slice ao2 m2 cap2] (w3.alloc (.cells #[.int .i64 f, .int .i64 A, .int .i64 B, .int .i64 C, .slice ao3 n cap3] 31)) := Bx.alloc Y3 _
      have X4 : Bx (w3.heap.size) [.int .i64 f, .int .i64 A, .int .i64 B, .int .i64 C, .slice ao3 n cap3] (w3.alloc (.cells #[.int .i64 f, .int .i64 A, .int .i64 B, .int .i64 C, .slice ao3 n cap3] 31)) := Bx.at _ rfl
      have B4 : Below w.heap.size w (w3.alloc (.cells #[.int .i64 f, .int .i64 A, .int .i64 B, .int .i64 C, .slice ao3 n cap3] 31)) := bstep B3 (show Below w3.heap.size w3 (w3.alloc (.cells #[.int .i64 f, .int .i64 A, .int .i64 B, .int .i64 C, .slice ao3 n cap3] 31)) from (Below.refl _ _).alloc (Nat.le_refl _) _)
      have z4 : w3.heap.size + 1 ≤ (w3.alloc (.cells #[.int .i64 f, .int .i64 A, .int .i64 B, .int .i64 C, .slice ao3 n cap3] 31)).heap.size := by simp
      have y4 := Lib.hid (SRow.call y3.out (show Below w3.heap.size w3 (w3.alloc (.cells #[.int .i64 f, .int .i64 A, .int .i64 B, .int .i64 C, .slice ao3 n cap3] 31)) from (Below.refl _ _).alloc (Nat.le_refl _) _))
      have x4 := Lib.hid (SRow.call x3.out (show Below w3.heap.size w3 (w3.alloc (.cells #[.int .i64 f, .int .i64 A, .int .i64 B, .int .i64 C, .slice ao3 n cap3] 31)) from (Below.refl _ _).alloc (Nat.le_refl _) _))
      generalize hW4 : w3.alloc (.cells #[.int .i64 f, .int .i64 A, .int .i64 B, .int .i64 C, .slice ao3 n cap3] 31) = w4 at *
      clear hW4
      have A4 := Lib.hid (HA.out.call B4)
      clear K3 L3 Y3 B3 A3 y3 x3
      have X4c0 := X4.c0
      have X4c1 := X4.c1
      have X4c2 := X4.c2
      have X4c3 := X4.c3
      have X4c4 := X4.c4
      have X4l := X4.lt
      have L4c0 := L4.c0
      have L4c1 := L4.c1
      have L4c2 := L4.c2
      have L4c3 := L4.c3
      have L4c4 := L4.c4
      have L4c5 := L4.c5
      have L4l := L4.lt
      go_upto_region 1 with fail
      go_cut [9, 10] (fun s6 s7 wx => McP (mvA f A B C n F a b c d x y) w4 s6 s7 wx)
      case first =>
        have k9 : Bx (w3.heap.size) [.int .i64 f, .int .i64 A, .int .i64 B, .int .i64 C, .slice ao3 n cap3] w4 := X4
        have k8 : Bx (w.heap.size + 1) [.int .i64 a, .int .i64 b, .int .i64 c, .int .i64 d, .int .i64 x, .int .i64 y] w4 := L4
        go_region_held3 (fun W9 => (W9.cell? ⟨w3.heap.size, 0, none⟩ = some (.int .i64 f) ∧ W9.cell? ⟨w3.heap.size, 1, none⟩ = some (.int .i64 A) ∧ W9.cell? ⟨w3.heap.size, 2, none⟩ = some (.int .i64 B) ∧ W9.cell? ⟨w3.heap.size, 3, none⟩ = some (.int .i64 C) ∧ W9.cell? ⟨w3.heap.size, 4, none⟩ = some (.slice ao3 n cap3)) ∧ (W9.cell? ⟨w.heap.size + 1, 0, none⟩ = some (.int .i64 a) ∧ W9.cell? ⟨w.heap.size + 1, 1, none⟩ = some (.int .i64 b) ∧ W9.cell? ⟨w.heap.size + 1, 2, none⟩ = some (.int .i64 c) ∧ W9.cell? ⟨w.heap.size + 1, 3, none⟩ = some (.int .i64 d) ∧ W9.cell? ⟨w.heap.size + 1, 4, none⟩ = some (.int .i64 x) ∧ W9.cell? ⟨w.heap.size + 1, 5, none⟩ = some (.int .i64 y))) ((refine And.intro (Bx.cells5 ?_) (Bx.cells6 ?_)) <;> (repeat (first | with_reducible assumption | (with_reducible exact BX.at _ (by first | with_reducible rfl | (simp; done))) | (with_reducible exact Bx.at _ (by first | with_reducible rfl | (simp; done))) | with_reducible refine Bx.drew ?_ | with_reducible refine Bx.alloc ?_ _ | with_reducible refine Bx.call ?_ (by with_reducible assumption) | with_reducible refine BX.drew ?_ | with_reducible refine BX.alloc ?_ _ | with_reducible refine BX.call ?_ (by with_reducible assumption) | with_reducible refine Bx.far (by first | omega | (dsimp only; omega)) ?_ | with_reducible refine Bx.st5 ?_)))
          (first
            | (go_at_call 26; with_reducible refine (toMo_any a b c d x y _).mono ?_; rintro e w4mo ⟨rfl, hb4mo⟩; (try ((refine useIt (P := BX w4.heap.size [.int .i64 0, .int .i64 0, .int .i64 0, .int .i64 0, .slice none 0 0] w4mo) ?_ ?_); (repeat (first | with_reducible assumption | (with_reducible exact BX.at _ (by first | with_reducible rfl | (simp; done))) | (with_reducible exact Bx.at _ (by first | with_reducible rfl | (simp; done))) | with_reducible refine Bx.drew ?_ | with_reducible refine Bx.alloc ?_ _ | with_reducible refine Bx.call ?_ (by with_reducible assumption) | with_reducible refine BX.drew ?_ | with_reducible refine BX.alloc ?_ _ | with_reducible refine BX.call ?_ (by with_reducible assumption) | with_reducible refine Bx.far (by first | omega | (dsimp only; omega)) ?_ | with_reducible refine Bx.st5 ?_)); intro d4mo_4; have d4mo_4c0 := d4mo_4.c0; have d4mo_4c1 := d4mo_4.c1; have d4mo_4c2 := d4mo_4.c2; have d4mo_4c3 := d4mo_4.c3; have d4mo_4c4 := d4mo_4.c4; have d4mo_4f0 := d4mo_4.f0; have d4mo_4f1 := d4mo_4.f1; have d4mo_4f2 := d4mo_4.f2; have d4mo_4f3 := d4mo_4.f3; have d4mo_4f4 := d4mo_4.f4; have d4mo_4l := d4mo_4.lt)); (try ((refine useIt (P := BX w4fr.heap.size [.int .i64 0, .int .i64 0, .int .i64 0, .int .i64 0, .slice none 0 0] w4mo) ?_ ?_); (repeat (first | with_reducible assumption | (with_reducible exact BX.at _ (by first | with_reducible rfl | (simp; done))) | (with_reducible exact Bx.at _ (by first | with_reducible rfl | (simp; done))) | with_reducible refine Bx.drew ?_ | with_reducible refine Bx.alloc ?_ _ | with_reducible refine Bx.call ?_ (by with_reducible assumption) | with_reducible refine BX.drew ?_ | with_reducible refine BX.alloc ?_ _ | with_reducible refine BX.call ?_ (by with_reducible assumption) | with_reducible refine Bx.far (by first | omega | (dsimp only; omega)) ?_ | with_reducible refine Bx.st5 ?_)); intro d4mo_4fr; have d4mo_4frc0 := d4mo_4fr.c0; have d4mo_4frc1 := d4mo_4fr.c1; have d4mo_4frc2 := d4mo_4fr.c2; have d4mo_4frc3 := d4mo_4fr.c3; have d4mo_4frc4 := d4mo_4fr.c4; have d4mo_4frf0 := d4mo_4fr.f0; have d4mo_4frf1 := d4mo_4fr.f1; have d4mo_4frf2 := d4mo_4fr.f2; have d4mo_4frf3 := d4mo_4fr.f3; have d4mo_4frf4 := d4mo_4fr.f4; have d4mo_4frl := d4mo_4fr.lt)); (try ((refine useIt (P := Below w4fr.heap.size w4fr w4mo) ?_ ?_); (with_reducible exact bstep (by repeat (first | with_reducible assumption | with_reducible exact Below.refl _ _ | with_reducible refine Below.drew ?_ | with_reducible refine Below.alloc ?_ (by first | omega | (simp <;> omega)) _ | with_reducible refine Below.setCell ?_ (by first | omega | (dsimp only; omega)) _ | with_reducible refine bstep ?_ (by with_reducible assumption))) hb4mo); intro e4mo; have ye4mo := e4mo.size)); have c4mo : Below w4.heap.size w4 w4mo := (by repeat (first | with_reducible assumption | with_reducible exact Below.refl _ _ | with_reducible refine Below.drew ?_ | with_reducible refine Below.alloc ?_ (by first | omega | (simp <;> omega)) _ | with_reducible refine Below.setCell ?_ (by first | omega | (dsimp only; omega)) _ | with_reducible refine bstep ?_ (by with_reducible assumption))); have y4mo := c4mo.size; have l4mo := Bx.call k9 c4mo; have ll4mo := l4mo.lt; have n4mo := Bx.call k8 c4mo; have nl4mo := n4mo.lt)
            | (go_at_call 27; with_reducible refine (implMv_any f A B C a b c d x y (SRow.call x4.out (by repeat (first | with_reducible assumption | with_reducible exact Below.refl _ _ | with_reducible refine Below.drew ?_ | with_reducible refine Below.alloc ?_ (by first | omega | (simp <;> omega)) _ | with_reducible refine Below.setCell ?_ (by first | omega | (dsimp only; omega)) _ | with_reducible refine bstep ?_ (by with_reducible assumption))))).mono ?_; rintro e w4mv hh; unfold PAns at hh; obtain ⟨pf5, pa5, pb5, pc5, m5, G5, c5, v5, hr5, rfl, rq5, hb4mv⟩ := hh; obtain ⟨ao5, cap5, rfl⟩ := rq5.slice; (try ((refine useIt (P := BX w4.heap.size [.int .i64 0, .int .i64 0, .int .i64 0, .int .i64 0, .slice none 0 0] w4mv) ?_ ?_); (repeat (first | with_reducible assumption | (with_reducible exact BX.at _ (by first | with_reducible rfl | (simp; done))) | (with_reducible exact Bx.at _ (by first | with_reducible rfl | (simp; done))) | with_reducible refine Bx.drew ?_ | with_reducible refine Bx.alloc ?_ _ | with_reducible refine Bx.call ?_ (by with_reducible assumption) | with_reducible refine BX.drew ?_ | with_reducible refine BX.alloc ?_ _ | with_reducible refine BX.call ?_ (by with_reducible assumption) | with_reducible refine Bx.far (by first | omega | (dsimp only; omega)) ?_ | with_reducible refine Bx.st5 ?_)); intro d4mv_4; have d4mv_4c0 := d4mv_4.c0; have d4mv_4c1 := d4mv_4.c1; have d4mv_4c2 := d4mv_4.c2; have d4mv_4c3 := d4mv_4.c3; have d4mv_4c4 := d4mv_4.c4; have d4mv_4f0 := d4mv_4.f0; have d4mv_4f1 := d4mv_4.f1; have d4mv_4f2 := d4mv_4.f2; have d4mv_4f3 := d4mv_4.f3; have d4mv_4f4 := d4mv_4.f4; have d4mv_4l := d4mv_4.lt)); (try ((refine useIt (P := BX w4mo.heap.size [.int .i64 0, .int .i64 0, .int .i64 0, .int .i64 0, .slice none 0 0] w4mv) ?_ ?_); (repeat (first | with_reducible assumption | (with_reducible exact BX.at _ (by first | with_reducible rfl | (simp; done))) | (with_reducible exact Bx.at _ (by first | with_reducible rfl | (simp; done))) | with_reducible refine Bx.drew ?_ | with_reducible refine Bx.alloc ?_ _ | with_reducible refine Bx.call ?_ (by with_reducible assumption) | with_reducible refine BX.drew ?_ | with_reducible refine BX.alloc ?_ _ | with_reducible refine BX.call ?_ (by with_reducible assumption) | with_reducible refine Bx.far (by first | omega | (dsimp only; omega)) ?_ | with_reducible refine Bx.st5 ?_)); intro d4mv_4mo; have d4mv_4moc0 := d4mv_4mo.c0; have d4mv_4moc1 := d4mv_4mo.c1; have d4mv_4moc2 := d4mv_4mo.c2; have d4mv_4moc3 := d4mv_4mo.c3; have d4mv_4moc4 := d4mv_4mo.c4; have d4mv_4mof0 := d4mv_4mo.f0; have d4mv_4mof1 := d4mv_4mo.f1; have d4mv_4mof2 := d4mv_4mo.f2; have d4mv_4mof3 := d4mv_4mo.f3; have d4mv_4mof4 := d4mv_4mo.f4; have d4mv_4mol := d4mv_4mo.lt)); (try ((refine useIt (P := BX w4fr.heap.size [.int .i64 0, .int .i64 0, .int .i64 0, .int .i64 0, .slice none 0 0] w4mv) ?_ ?_); (repeat (first | with_reducible assumption | (with_reducible exact BX.at _ (by first | with_reducible rfl | (simp; done))) | (with_reducible exact Bx.at _ (by first | with_reducible rfl | (simp; done))) | with_reducible refine Bx.drew ?_ | with_reducible refine Bx.alloc ?_ _ | with_reducible refine Bx.call ?_ (by with_reducible assumption) | with_reducible refine BX.drew ?_ | with_reducible refine BX.alloc ?_ _ | with_reducible refine BX.call ?_ (by with_reducible assumption) | with_reducible refine Bx.far (by first | omega | (dsimp only; omega)) ?_ | with_reducible refine Bx.st5 ?_)); intro d4mv_4fr; have d4mv_4frc0 := d4mv_4fr.c0; have d4mv_4frc1 := d4mv_4fr.c1; have d4mv_4frc2 := d4mv_4fr.c2; have d4mv_4frc3 := d4mv_4fr.c3; have d4mv_4frc4 := d4mv_4fr.c4; have d4mv_4frf0 := d4mv_4fr.f0; have d4mv_4frf1 := d4mv_4fr.f1; have d4mv_4frf2 := d4mv_4fr.f2; have d4mv_4frf3 := d4mv_4fr.f3; have d4mv_4frf4 := d4mv_4fr.f4; have d4mv_4frl := d4mv_4fr.lt)); have c4mv : Below w4.heap.size w4 w4mv := (by repeat (first | with_reducible assumption | with_reducible exact Below.refl _ _ | with_reducible refine Below.drew ?_ | with_reducible refine Below.alloc ?_ (by first | omega | (simp <;> omega)) _ | with_reducible refine Below.setCell ?_ (by first | omega | (dsimp only; omega)) _ | with_reducible refine bstep ?_ (by with_reducible assumption))); have y4mv := c4mv.size; have l4mv := Bx.call k9 c4mv; have ll4mv := l4mv.lt; have n4mv := Bx.call k8 c4mv; have nl4mv := n4mv.lt; have rr5 : SRow w4.heap.size w4mv.heap.size 1 (.slice ao5 m5 cap5) m5 G5 w4mv := SRow.low rq5 (by first | omega | (simp <;> omega))))
        all_goals
          go_wp2_with fail
          go_meet
          exact ⟨_, _, _, _, _, _, _, _, _, _, hr5, rfl, rfl, (by repeat (first | with_reducible assumption | (with_reducible exact BX.at _ (by first | with_reducible rfl | (simp; done))) | (with_reducible exact Bx.at _ (by first | with_reducible rfl | (simp; done))) | with_reducible refine Bx.drew ?_ | with_reducible refine Bx.alloc ?_ _ | with_reducible refine Bx.call ?_ (by with_reducible assumption) | with_reducible refine BX.drew ?_ | with_reducible refine BX.alloc ?_ _ | with_reducible refine BX.call ?_ (by with_reducible assumption) | with_reducible refine Bx.far (by first | omega | (dsimp only; omega)) ?_ | with_reducible refine Bx.st5 ?_)), (by refine SRow.up (hi := w4mv.heap.size) ?_; repeat (first | with_reducible exact rr5 | with_reducible refine SRow.alloc9 ?_ _ | with_reducible refine SRow.drew9 ?_ | (with_reducible refine SRow.putO9 (rq5.off (by dsimp only; first | omega | exact Or.inl (lt_al9 _ _) | (have := d4mo_4.lt; first | omega | (simp <;> omega)) | (have := d4mo_4mo.lt; first | omega | (simp <;> omega)) | (have := d4mo_4fr.lt; first | omega | (simp <;> omega)) | (have := d4mv_4.lt; first | omega | (simp <;> omega)) | (have := d4mv_4mo.lt; first | omega | (simp <;> omega)) | (have := d4mv_4fr.lt; first | omega | (simp <;> omega)) | (have := d4fr_4.lt; first | omega | (simp <;> omega)) | (have := d4fr_4mo.lt; first | omega | (simp <;> omega)) | (have := d4fr_4fr.lt; first | omega | (simp <;> omega)))) _ ?_))), (by first | omega | (simp <;> omega)), rq5.off (by first | omega | exact Or.inl (lt_al9 _ _) | (simp <;> omega) | (have := d4mo_4.lt; first | omega | (simp <;> omega)) | (have := d4mo_4mo.lt; first | omega | (simp <;> omega)) | (have := d4mo_4fr.lt; first | omega | (simp <;> omega)) | (have := d4mv_4.lt; first | omega | (simp <;> omega)) | (have := d4mv_4mo.lt; first | omega | (simp <;> omega)) | (have := d4mv_4fr.lt; first | omega | (simp <;> omega)) | (have := d4fr_4.lt; first | omega | (simp <;> omega)) | (have := d4fr_4mo.lt; first | omega | (simp <;> omega)) | (have := d4fr_4fr.lt; first | omega | (simp <;> omega))), (by repeat (first | with_reducible assumption | with_reducible exact Below.refl _ _ | with_reducible refine Below.drew ?_ | with_reducible refine Below.alloc ?_ (by first | omega | (simp <;> omega)) _ | with_reducible refine Below.setCell ?_ (by first | omega | (dsimp only; omega)) _ | with_reducible refine bstep ?_ (by with_reducible assumption)))⟩
      case rest =>
        obtain ⟨bx5, pf5, pa5, pb5, pc5, m5, G5, c5, ao5, cap5, hr5, rfl, rfl, KD5, rq5, hl5, ho5, hb5⟩ := hcut
        obtain ⟨w5, hw5⟩ : ∃ z, z = wc := ⟨_, rfl⟩
        subst hw5
        obtain ⟨rfl, rfl, rfl, rfl, rfl, rfl, rfl⟩ : pf2 = pf5 ∧ pa2 = pa5 ∧ pb2 = pb5 ∧ pc2 = pc5 ∧ m2 = m5 ∧ G2 = G5 ∧ c2 = c5 := by have h9 := HP.out.symm.trans hr5; simpa using h9
        clear hr5
        have K5 : Bx (w.heap.size) [.int .i64 f, .int .i64 A, .int .i64 B, .int .i64 C, .slice ao n cap] w5 := Bx.call K4 hb5
        have L5 : Bx (w.heap.size + 1) [.int .i64 a, .int .i64 b, .int .i64 c, .int .i64 d, .int .i64 x, .int .i64 y] w5 := Bx.call L4 hb5
        have Y5 : Bx (bx2) [.int .i64 pf2, .int .i64 pa2, .int .i64 pb2, .int .i64 pc2, .slice ao2 m2 cap2] w5 := Bx.call Y4 hb5
        have X5 : Bx (w3.heap.size) [.int .i64 f, .int .i64 A, .int .i64 B, .int .i64 C, .slice ao3 n cap3] w5 := Bx.call X4 hb5
        have B5 : Below w.heap.size w w5 := bstep B4 hb5
        have A5 := Lib.hid (HA.out.call B5)
        have z5 : w4.heap.size ≤ w5.heap.size := hb5.size
        have y5 := Lib.hid (SRow.call y4.out hb5)
        have x5 := Lib.hid (SRow.call x4.out hb5)
        clear K4 L4 Y4 X4 B4 A4 y4 x4 X4c0 X4c1 X4c2 X4c3 X4c4 X4l L4c0 L4c1 L4c2 L4c3 L4c4 L4c5 L4l hb5
        have g5 := Lib.hid rq5
        clear rq5
        have G5 := KD5
        have bl5 := KD5.lt
        clear KD5
        have HO5 := Lib.hid ho5
        clear ho5
        have G5c0 := G5.c0
        have G5c1 := G5.c1
        have G5c2 := G5.c2
        have G5c3 := G5.c3
        have G5c4 := G5.c4
        have G5l := G5.lt
        have Y5c0 := Y5.c0
        have Y5c1 := Y5.c1
        have Y5c2 := Y5.c2
        have Y5c3 := Y5.c3
        have Y5c4 := Y5.c4
        have Y5l := Y5.lt
        go_wp2_with fail
        with_reducible refine (eqPat_any pf2 pa2 pb2 pc2 g5.out y5.out).mono ?_
        rintro e w6 ⟨rfl, hb6⟩
        have K6 : Bx (w.heap.size) [.int .i64 f, .int .i64 A, .int .i64 B, .int .i64 C, .slice ao n cap] w6 := Bx.call K5 hb6
        have L6 : Bx (w.heap.size + 1) [.int .i64 a, .int .i64 b, .int .i64 c, .int .i64 d, .int .i64 x, .int .i64 y] w6 := Bx.call L5 hb6
        have Y6 : Bx (bx2) [.int .i64 pf2, .int .i64 pa2, .int .i64 pb2, .int .i64 pc2, .slice ao2 m2 cap2] w6 := Bx.call Y5 hb6
        have X6 : Bx (w3.heap.size) [.int .i64 f, .int .i64 A, .int .i64 B, .int .i64 C, .slice ao3 n cap3] w6 := Bx.call X5 hb6
        have G6 : Bx (bx5) [.int .i64 pf2, .int .i64 pa2, .int .i64 pb2, .int .i64 pc2, .slice ao5 m2 cap5] w6 := Bx.call G5 hb6
        have B6 : Below w.heap.size w w6 := bstep B5 hb6
        have A6 := Lib.hid (HA.out.call B6)
        have z6 : w5.heap.size ≤ w6.heap.size := hb6.size
        have y6 := Lib.hid (SRow.call y5.out hb6)
        have x6 := Lib.hid (SRow.call x5.out hb6)
        have g6 := Lib.hid (SRow.call g5.out hb6)
        clear K5 L5 Y5 X5 G5 B5 A5 y5 x5 g5 G5c0 G5c1 G5c2 G5c3 G5c4 G5l Y5c0 Y5c1 Y5c2 Y5c3 Y5c4 Y5l hb6
        have K6c0 := K6.c0
        have K6c1 := K6.c1
        have K6c2 := K6.c2
        have K6c3 := K6.c3
        have K6c4 := K6.c4
        have K6l := K6.lt
        have X6c0 := X6.c0
        have X6c1 := X6.c1
        have X6c2 := X6.c2
        have X6c3 := X6.c3
        have X6c4 := X6.c4
        have X6l := X6.lt
        go_wp2_with fail
        go_region_held3 (fun W9 => (W9.cell? ⟨w.heap.size, 0, none⟩ = some (.int .i64 f) ∧ W9.cell? ⟨w.heap.size, 1, none⟩ = some (.int .i64 A) ∧ W9.cell? ⟨w.heap.size, 2, none⟩ = some (.int .i64 B) ∧ W9.cell? ⟨w.heap.size, 3, none⟩ = some (.int .i64 C) ∧ W9.cell? ⟨w.heap.size, 4, none⟩ = some (.slice ao n cap)) ∧ (W9.cell? ⟨w3.heap.size, 0, none⟩ = some (.int .i64 f) ∧ W9.cell? ⟨w3.heap.size, 1, none⟩ = some (.int .i64 A) ∧ W9.cell? ⟨w3.heap.size, 2, none⟩ = some (.int .i64 B) ∧ W9.cell? ⟨w3.heap.size, 3, none⟩ = some (.int .i64 C) ∧ W9.cell? ⟨w3.heap.size, 4, none⟩ = some (.slice ao3 n cap3))) ((refine (And.intro (Bx.cells5 ?_) (Bx.cells5 ?_))) <;> (repeat (first | with_reducible assumption | with_reducible refine Bx.drew ?_ | with_reducible refine Bx.alloc ?_ _ | with_reducible refine Bx.call ?_ (by with_reducible assumption))))
          (first
            | (go_at_call 10; with_reducible refine (toPat_any f A B C (A6.out.call (by repeat (first | with_reducible assumption | with_reducible exact Below.refl _ _ | with_reducible refine Below.drew ?_ | with_reducible refine Below.alloc ?_ (by first | omega | (simp <;> omega)) _ | with_reducible refine Below.setCell ?_ (by first | omega | (dsimp only; omega)) _ | with_reducible refine bstep ?_ (by with_reducible assumption)))) HN.out).mono ?_; rintro e u7p ⟨v7p, rfl, r7p, hb7p⟩; obtain ⟨ao7p, cap7p, rfl⟩ := r7p.slice; have c7p : Below w6.heap.size w6 u7p := (by repeat (first | with_reducible assumption | with_reducible exact Below.refl _ _ | with_reducible refine Below.drew ?_ | with_reducible refine Below.alloc ?_ (by first | omega | (simp <;> omega)) _ | with_reducible refine Below.setCell ?_ (by first | omega | (dsimp only; omega)) _ | with_reducible refine bstep ?_ (by with_reducible assumption))))
            | (go_at_call 12; with_reducible refine (eqPat_any f A B C (SRow.call x6.out (by repeat (first | with_reducible assumption | with_reducible exact Below.refl _ _ | with_reducible refine Below.drew ?_ | with_reducible refine Below.alloc ?_ (by first | omega | (simp <;> omega)) _ | with_reducible refine Below.setCell ?_ (by first | omega | (dsimp only; omega)) _ | with_reducible refine bstep ?_ (by with_reducible assumption)))) (SRow.call r7p (by repeat (first | with_reducible assumption | with_reducible exact Below.refl _ _ | with_reducible refine Below.drew ?_ | with_reducible refine Below.alloc ?_ (by first | omega | (simp <;> omega)) _ | with_reducible refine Below.setCell ?_ (by first | omega | (dsimp only; omega)) _ | with_reducible refine bstep ?_ (by with_reducible assumption))))).mono ?_; rintro e u7q ⟨rfl, hb7q⟩; have c7q : Below w6.heap.size w6 u7q := (by repeat (first | with_reducible assumption | with_reducible exact Below.refl _ _ | with_reducible refine Below.drew ?_ | with_reducible refine Below.alloc ?_ (by first | omega | (simp <;> omega)) _ | with_reducible refine Below.setCell ?_ (by first | omega | (dsimp only; omega)) _ | with_reducible refine bstep ?_ (by with_reducible assumption)))))
        all_goals
          obtain ⟨w7, hw7⟩ : ∃ z, z = u7q := ⟨_, rfl⟩
          subst hw7
          have K7 : Bx (w.heap.size) [.int .i64 f, .int .i64 A, .int .i64 B, .int .i64 C, .slice ao n cap] w7 := Bx.call K6 c7q
          have L7 : Bx (w.heap.size + 1) [.int .i64 a, .int .i64 b, .int .i64 c, .int .i64 d, .int .i64 x, .int .i64 y] w7 := Bx.call L6 c7q
          have Y7 : Bx (bx2) [.int .i64 pf2, .int .i64 pa2, .int .i64 pb2, .int .i64 pc2, .slice ao2 m2 cap2] w7 := Bx.call Y6 c7q
          have X7 : Bx (w3.heap.size) [.int .i64 f, .int .i64 A, .int .i64 B, .int .i64 C, .slice ao3 n cap3] w7 := Bx.call X6 c7q
          have G7 : Bx (bx5) [.int .i64 pf2, .int .i64 pa2, .int .i64 pb2, .int .i64 pc2, .slice ao5 m2 cap5] w7 := Bx.call G6 c7q
          have B7 : Below w.heap.size w w7 := bstep B6 c7q
          have A7 := Lib.hid (HA.out.call B7)
          have z7 : w6.heap.size ≤ w7.heap.size := c7q.size
          have y7 := Lib.hid (SRow.call y6.out c7q)
          have x7 := Lib.hid (SRow.call x6.out c7q)
          have g7 := Lib.hid (SRow.call g6.out c7q)
          clear K6 L6 Y6 X6 G6 B6 A6 y6 x6 g6 K6c0 K6c1 K6c2 K6c3 K6c4 K6l X6c0 X6c1 X6c2 X6c3 X6c4 X6l c7q
          have X7c0 := X7.c0
          have X7c1 := X7.c1
          have X7c2 := X7.c2
          have X7c3 := X7.c3
          have X7c4 := X7.c4
          have X7l := X7.lt
          go_wp2_with fail
          with_reducible refine (markPat_any f A B C x7.out (by omega)).mono ?_
          rintro e w8 ⟨rfl, rm8, hb8, hk8⟩
          have z8 : w7.heap.size ≤ w8.heap.size := hb8.size
          have K8 : Bx (w.heap.size) [.int .i64 f, .int .i64 A, .int .i64 B, .int .i64 C, .slice ao n cap] w8 := Bx.keepV K7 hk8 (SRow.off x7.out (by omega)) z8
          have L8 : Bx (w.heap.size + 1) [.int .i64 a, .int .i64 b, .int .i64 c, .int .i64 d, .int .i64 x, .int .i64 y] w8 := Bx.keepV L7 hk8 (SRow.off x7.out (by omega)) z8
          have Y8 : Bx (bx2) [.int .i64 pf2, .int .i64 pa2, .int .i64 pb2, .int .i64 pc2, .slice ao2 m2 cap2] w8 := Bx.keepV Y7 hk8 (SRow.off x7.out (by omega)) z8
          have X8 : Bx (w3.heap.size) [.int .i64 f, .int .i64 A, .int .i64 B, .int .i64 C, .slice ao3 n cap3] w8 := Bx.keepV X7 hk8 (SRow.off x7.out (by omega)) z8
          have G8 : Bx (bx5) [.int .i64 pf2, .int .i64 pa2, .int .i64 pb2, .int .i64 pc2, .slice ao5 m2 cap5] w8 := Bx.keepV G7 hk8 (SRow.off x7.out (by omega)) z8
          have B8 : Below w.heap.size w w8 := B7.trans (hb8.mono (by omega))
          have A8 := Lib.hid (HA.out.call B8)
          have y8 := Lib.hid (SRow.keepV y7.out hk8 (fun b9 h8 h9 => SRow.off x7.out (by omega)) z8)
          have g8 := Lib.hid (SRow.keepV g7.out hk8 (fun b9 h8 h9 => SRow.off x7.out (by omega)) z8)
          have x8 := Lib.hid rm8
          clear rm8 hb8 hk8 K7 L7 Y7 X7 G7 B7 A7 y7 x7 g7 X7c0 X7c1 X7c2 X7c3 X7c4 X7l
          clear x8
          clear X8
          have hk9 : ¬ ((n : Int) * 1 + 1 < 0) := by omega
          have G8c0 := G8.c0
          have G8c1 := G8.c1
          have G8c2 := G8.c2
          have G8c3 := G8.c3
          have G8c4 := G8.c4
          have G8l := G8.lt
          have Y8c0 := Y8.c0
          have Y8c1 := Y8.c1
          have Y8c2 := Y8.c2
          have Y8c3 := Y8.c3
          have Y8c4 := Y8.c4
          have Y8l := Y8.lt
          go_wp2_with fail
          with_reducible refine (eqPat_any pf2 pa2 pb2 pc2 g8.out y8.out).mono ?_
          rintro e w9 ⟨rfl, hb9⟩
          have K9 : Bx (w.heap.size) [.int .i64 f, .int .i64 A, .int .i64 B, .int .i64 C, .slice ao n cap] w9 := Bx.call K8 hb9
          have L9 : Bx (w.heap.size + 1) [.int .i64 a, .int .i64 b, .int .i64 c, .int .i64 d, .int .i64 x, .int .i64 y] w9 := Bx.call L8 hb9
          have Y9 : Bx (bx2) [.int .i64 pf2, .int .i64 pa2, .int .i64 pb2, .int .i64 pc2, .slice ao2 m2 cap2] w9 := Bx.call Y8 hb9
          have G9 : Bx (bx5) [.int .i64 pf2, .int .i64 pa2, .int .i64 pb2, .int .i64 pc2, .slice ao5 m2 cap5] w9 := Bx.call G8 hb9
          have B9 : Below w.heap.size w w9 := bstep B8 hb9
          have A9 := Lib.hid (HA.out.call B9)
          have z9 : w8.heap.size ≤ w9.heap.size := hb9.size
          have y9 := Lib.hid (SRow.call y8.out hb9)
          have g9 := Lib.hid (SRow.call g8.out hb9)
          clear K8 L8 Y8 G8 B8 A8 y8 g8 G8c0 G8c1 G8c2 G8c3 G8c4 G8l Y8c0 Y8c1 Y8c2 Y8c3 Y8c4 Y8l hb9
          have G9c0 := G9.c0
          have G9c1 := G9.c1
          have G9c2 := G9.c2
          have G9c3 := G9.c3
          have G9c4 := G9.c4
          have G9l := G9.lt
          go_wp2_with fail
          with_reducible refine (markPat_any pf2 pa2 pb2 pc2 g9.out (by omega)).mono ?_
          rintro e w10 ⟨rfl, rm10, hb10, hk10⟩
          have z10 : w9.heap.size ≤ w10.heap.size := hb10.size
          have K10 : Bx (w.heap.size) [.int .i64 f, .int .i64 A, .int .i64 B, .int .i64 C, .slice ao n cap] w10 := Bx.keepV K9 hk10 (SRow.off g9.out (by omega)) z10
          have L10 : Bx (w.heap.size + 1) [.int .i64 a, .int .i64 b, .int .i64 c, .int .i64 d, .int .i64 x, .int .i64 y] w10 := Bx.keepV L9 hk10 (SRow.off g9.out (by omega)) z10
          have Y10 : Bx (bx2) [.int .i64 pf2, .int .i64 pa2, .int .i64 pb2, .int .i64 pc2, .slice ao2 m2 cap2] w10 := Bx.keepV Y9 hk10 (SRow.off g9.out (by omega)) z10
          have G10 : Bx (bx5) [.int .i64 pf2, .int .i64 pa2, .int .i64 pb2, .int .i64 pc2, .slice ao5 m2 cap5] w10 := Bx.keepV G9 hk10 HO5.out z10
          have B10 : Below w.heap.size w w10 := B9.trans (hb10.mono (by omega))
          have A10 := Lib.hid (HA.out.call B10)
          have y10 := Lib.hid (SRow.keepV y9.out hk10 (fun b9 h8 h9 => SRow.off g9.out (by omega)) z10)
          have g10 := Lib.hid rm10
          clear rm10 hb10 hk10 K9 L9 Y9 G9 B9 A9 y9 g9 G9c0 G9c1 G9c2 G9c3 G9c4 G9l
          have hk8 : ¬ ((m2 : Int) * 1 + 1 < 0) := by have := g10.out.2.1; omega
          have hq8 : (((m2 : Int) * 1 + 1) != (m2 : Int) * 1 + 1) = false := by simp
          have hm8 : (m2 : Int) ≤ 2000000 := by have := g10.out.2.1; omega
          have G10c0 := G10.c0
          have G10c1 := G10.c1
          have G10c2 := G10.c2
          have G10c3 := G10.c3
          have G10c4 := G10.c4
          have G10l := G10.lt
          go_wp2_with fail
          with_reducible refine (heldPat_any pf2 pa2 pb2 pc2 g10.out).mono ?_
          rintro e w11 ⟨rfl, hb11⟩
          have K11 : Bx (w.heap.size) [.int .i64 f, .int .i64 A, .int .i64 B, .int .i64 C, .slice ao n cap] w11 := Bx.call K10 hb11
          have L11 : Bx (w.heap.size + 1) [.int .i64 a, .int .i64 b, .int .i64 c, .int .i64 d, .int .i64 x, .int .i64 y] w11 := Bx.call L10 hb11
          have Y11 : Bx (bx2) [.int .i64 pf2, .int .i64 pa2, .int .i64 pb2, .int .i64 pc2, .slice ao2 m2 cap2] w11 := Bx.call Y10 hb11
          have G11 : Bx (bx5) [.int .i64 pf2, .int .i64 pa2, .int .i64 pb2, .int .i64 pc2, .slice ao5 m2 cap5] w11 := Bx.call G10 hb11
          have B11 : Below w.heap.size w w11 := bstep B10 hb11
          have A11 := Lib.hid (HA.out.call B11)
          have z11 : w10.heap.size ≤ w11.heap.size := hb11.size
          have y11 := Lib.hid (SRow.call y10.out hb11)
          have g11 := Lib.hid (SRow.call g10.out hb11)
          clear K10 L10 Y10 G10 B10 A10 y10 g10 G10c0 G10c1 G10c2 G10c3 G10c4 G10l hb11
          have K11c0 := K11.c0
          have K11c1 := K11.c1
          have K11c2 := K11.c2
          have K11c3 := K11.c3
          have K11c4 := K11.c4
          have K11l := K11.lt
          have L11c0 := L11.c0
          have L11c1 := L11.c1
          have L11c2 := L11.c2
          have L11c3 := L11.c3
          have L11c4 := L11.c4
          have L11c5 := L11.c5
          have L11l := L11.lt
          go_upto_region 1 with fail
          go_cut [14, 15] (fun s6 s7 wx => McP (mvA f A B C n F a b c d x y) w11 s6 s7 wx)
          case first =>
            have k9 : Bx (w.heap.size) [.int .i64 f, .int .i64 A, .int .i64 B, .int .i64 C, .slice ao n cap] w11 := K11
            have k8 : Bx (w.heap.size + 1) [.int .i64 a, .int .i64 b, .int .i64 c, .int .i64 d, .int .i64 x, .int .i64 y] w11 := L11
            go_region_held3 (fun W9 => (W9.cell? ⟨w.heap.size, 0, none⟩ = some (.int .i64 f) ∧ W9.cell? ⟨w.heap.size, 1, none⟩ = some (.int .i64 A) ∧ W9.cell? ⟨w.heap.size, 2, none⟩ = some (.int .i64 B) ∧ W9.cell? ⟨w.heap.size, 3, none⟩ = some (.int .i64 C) ∧ W9.cell? ⟨w.heap.size, 4, none⟩ = some (.slice ao n cap)) ∧ (W9.cell? ⟨w.heap.size + 1, 0, none⟩ = some (.int .i64 a) ∧ W9.cell? ⟨w.heap.size + 1, 1, none⟩ = some (.int .i64 b) ∧ W9.cell? ⟨w.heap.size + 1, 2, none⟩ = some (.int .i64 c) ∧ W9.cell? ⟨w.heap.size + 1, 3, none⟩ = some (.int .i64 d) ∧ W9.cell? ⟨w.heap.size + 1, 4, none⟩ = some (.int .i64 x) ∧ W9.cell? ⟨w.heap.size + 1, 5, none⟩ = some (.int .i64 y))) ((refine And.intro (Bx.cells5 ?_) (Bx.cells6 ?_)) <;> (repeat (first | with_reducible assumption | (with_reducible exact BX.at _ (by first | with_reducible rfl | (simp; done))) | (with_reducible exact Bx.at _ (by first | with_reducible rfl | (simp; done))) | with_reducible refine Bx.drew ?_ | with_reducible refine Bx.alloc ?_ _ | with_reducible refine Bx.call ?_ (by with_reducible assumption) | with_reducible refine BX.drew ?_ | with_reducible refine BX.alloc ?_ _ | with_reducible refine BX.call ?_ (by with_reducible assumption) | with_reducible refine Bx.far (by first | omega | (dsimp only; omega)) ?_ | with_reducible refine Bx.st5 ?_)))
              (first
                | (go_at_call 10; with_reducible refine (toPat_any f A B C (A11.out.call (by repeat (first | with_reducible assumption | with_reducible exact Below.refl _ _ | with_reducible refine Below.drew ?_ | with_reducible refine Below.alloc ?_ (by first | omega | (simp <;> omega)) _ | with_reducible refine Below.setCell ?_ (by first | omega | (dsimp only; omega)) _ | with_reducible refine bstep ?_ (by with_reducible assumption)))) HN.out).mono ?_; rintro e w11fr ⟨v11fr, rfl, r11fr, hb11fr⟩; obtain ⟨ao11fr, cap11fr, rfl⟩ := r11fr.slice; (try ((refine useIt (P := BX w11.heap.size [.int .i64 0, .int .i64 0, .int .i64 0, .int .i64 0, .slice none 0 0] w11fr) ?_ ?_); (repeat (first | with_reducible assumption | (with_reducible exact BX.at _ (by first | with_reducible rfl | (simp; done))) | (with_reducible exact Bx.at _ (by first | with_reducible rfl | (simp; done))) | with_reducible refine Bx.drew ?_ | with_reducible refine Bx.alloc ?_ _ | with_reducible refine Bx.call ?_ (by with_reducible assumption) | with_reducible refine BX.drew ?_ | with_reducible refine BX.alloc ?_ _ | with_reducible refine BX.call ?_ (by with_reducible assumption) | with_reducible refine Bx.far (by first | omega | (dsimp only; omega)) ?_ | with_reducible refine Bx.st5 ?_)); intro d11fr_11; have d11fr_11c0 := d11fr_11.c0; have d11fr_11c1 := d11fr_11.c1; have d11fr_11c2 := d11fr_11.c2; have d11fr_11c3 := d11fr_11.c3; have d11fr_11c4 := d11fr_11.c4; have d11fr_11f0 := d11fr_11.f0; have d11fr_11f1 := d11fr_11.f1; have d11fr_11f2 := d11fr_11.f2; have d11fr_11f3 := d11fr_11.f3; have d11fr_11f4 := d11fr_11.f4; have d11fr_11l := d11fr_11.lt)); (try ((refine useIt (P := BX w11mo.heap.size [.int .i64 0, .int .i64 0, .int .i64 0, .int .i64 0, .slice none 0 0] w11fr) ?_ ?_); (repeat (first | with_reducible assumption | (with_reducible exact BX.at _ (by first | with_reducible rfl | (simp; done))) | (with_reducible exact Bx.at _ (by first | with_reducible rfl | (simp; done))) | with_reducible refine Bx.drew ?_ | with_reducible refine Bx.alloc ?_ _ | with_reducible refine Bx.call ?_ (by with_reducible assumption) | with_reducible refine BX.drew ?_ | with_reducible refine BX.alloc ?_ _ | with_reducible refine BX.call ?_ (by with_reducible assumption) | with_reducible refine Bx.far (by first | omega | (dsimp only; omega)) ?_ | with_reducible refine Bx.st5 ?_)); intro d11fr_11mo; have d11fr_11moc0 := d11fr_11mo.c0; have d11fr_11moc1 := d11fr_11mo.c1; have d11fr_11moc2 := d11fr_11mo.c2; have d11fr_11moc3 := d11fr_11mo.c3; have d11fr_11moc4 := d11fr_11mo.c4; have d11fr_11mof0 := d11fr_11mo.f0; have d11fr_11mof1 := d11fr_11mo.f1; have d11fr_11mof2 := d11fr_11mo.f2; have d11fr_11mof3 := d11fr_11mo.f3; have d11fr_11mof4 := d11fr_11mo.f4; have d11fr_11mol := d11fr_11mo.lt)); have c11fr : Below w11.heap.size w11 w11fr := (by repeat (first | with_reducible assumption | with_reducible exact Below.refl _ _ | with_reducible refine Below.drew ?_ | with_reducible refine Below.alloc ?_ (by first | omega | (simp <;> omega)) _ | with_reducible refine Below.setCell ?_ (by first | omega | (dsimp only; omega)) _ | with_reducible refine bstep ?_ (by with_reducible assumption))); have y11fr := c11fr.size; have l11fr := Bx.call k9 c11fr; have ll11fr := l11fr.lt; have n11fr := Bx.call k8 c11fr; have nl11fr := n11fr.lt)
                | (go_at_call 26; with_reducible refine (toMo_any a b c d x y _).mono ?_; rintro e w11mo ⟨rfl, hb11mo⟩; (try ((refine useIt (P := BX w11.heap.size [.int .i64 0, .int .i64 0, .int .i64 0, .int .i64 0, .slice none 0 0] w11mo) ?_ ?_); (repeat (first | with_reducible assumption | (with_reducible exact BX.at _ (by first | with_reducible rfl | (simp; done))) | (with_reducible exact Bx.at _ (by first | with_reducible rfl | (simp; done))) | with_reducible refine Bx.drew ?_ | with_reducible refine Bx.alloc ?_ _ | with_reducible refine Bx.call ?_ (by with_reducible assumption) | with_reducible refine BX.drew ?_ | with_reducible refine BX.alloc ?_ _ | with_reducible refine BX.call ?_ (by with_reducible assumption) | with_reducible refine Bx.far (by first | omega | (dsimp only; omega)) ?_ | with_reducible refine Bx.st5 ?_)); intro d11mo_11; have d11mo_11c0 := d11mo_11.c0; have d11mo_11c1 := d11mo_11.c1; have d11mo_11c2 := d11mo_11.c2; have d11mo_11c3 := d11mo_11.c3; have d11mo_11c4 := d11mo_11.c4; have d11mo_11f0 := d11mo_11.f0; have d11mo_11f1 := d11mo_11.f1; have d11mo_11f2 := d11mo_11.f2; have d11mo_11f3 := d11mo_11.f3; have d11mo_11f4 := d11mo_11.f4; have d11mo_11l := d11mo_11.lt)); (try ((refine useIt (P := BX w11fr.heap.size [.int .i64 0, .int .i64 0, .int .i64 0, .int .i64 0, .slice none 0 0] w11mo) ?_ ?_); (repeat (first | with_reducible assumption | (with_reducible exact BX.at _ (by first | with_reducible rfl | (simp; done))) | (with_reducible exact Bx.at _ (by first | with_reducible rfl | (simp; done))) | with_reducible refine Bx.drew ?_ | with_reducible refine Bx.alloc ?_ _ | with_reducible refine Bx.call ?_ (by with_reducible assumption) | with_reducible refine BX.drew ?_ | with_reducible refine BX.alloc ?_ _ | with_reducible refine BX.call ?_ (by with_reducible assumption) | with_reducible refine Bx.far (by first | omega | (dsimp only; omega)) ?_ | with_reducible refine Bx.st5 ?_)); intro d11mo_11fr; have d11mo_11frc0 := d11mo_11fr.c0; have d11mo_11frc1 := d11mo_11fr.c1; have d11mo_11frc2 := d11mo_11fr.c2; have d11mo_11frc3 := d11mo_11fr.c3; have d11mo_11frc4 := d11mo_11fr.c4; have d11mo_11frf0 := d11mo_11fr.f0; have d11mo_11frf1 := d11mo_11fr.f1; have d11mo_11frf2 := d11mo_11fr.f2; have d11mo_11frf3 := d11mo_11fr.f3; have d11mo_11frf4 := d11mo_11fr.f4; have d11mo_11frl := d11mo_11fr.lt)); (try ((refine useIt (P := Below w11fr.heap.size w11fr w11mo) ?_ ?_); (with_reducible exact bstep (by repeat (first | with_reducible assumption | with_reducible exact Below.refl _ _ | with_reducible refine Below.drew ?_ | with_reducible refine Below.alloc ?_ (by first | omega | (simp <;> omega)) _ | with_reducible refine Below.setCell ?_ (by first | omega | (dsimp only; omega)) _ | with_reducible refine bstep ?_ (by with_reducible assumption))) hb11mo); intro e11mo; have ye11mo := e11mo.size)); have c11mo : Below w11.heap.size w11 w11mo := (by repeat (first | with_reducible assumption | with_reducible exact Below.refl _ _ | with_reducible refine Below.drew ?_ | with_reducible refine Below.alloc ?_ (by first | omega | (simp <;> omega)) _ | with_reducible refine Below.setCell ?_ (by first | omega | (dsimp only; omega)) _ | with_reducible refine bstep ?_ (by with_reducible assumption))); have y11mo := c11mo.size; have l11mo := Bx.call k9 c11mo; have ll11mo := l11mo.lt; have n11mo := Bx.call k8 c11mo; have nl11mo := n11mo.lt)
                | (go_at_call 27; with_reducible refine (implMv_any f A B C a b c d x y (SRow.call r11fr (by repeat (first | with_reducible assumption | with_reducible exact Below.refl _ _ | with_reducible refine Below.drew ?_ | with_reducible refine Below.alloc ?_ (by first | omega | (simp <;> omega)) _ | with_reducible refine Below.setCell ?_ (by first | omega | (dsimp only; omega)) _ | with_reducible refine bstep ?_ (by with_reducible assumption))))).mono ?_; rintro e w11mv hh; unfold PAns at hh; obtain ⟨pf12, pa12, pb12, pc12, m12, G12, c12, v12, hr12, rfl, rq12, hb11mv⟩ := hh; obtain ⟨ao12, cap12, rfl⟩ := rq12.slice; (try ((refine useIt (P := BX w11.heap.size [.int .i64 0, .int .i64 0, .int .i64 0, .int .i64 0, .slice none 0 0] w11mv) ?_ ?_); (repeat (first | with_reducible assumption | (with_reducible exact BX.at _ (by first | with_reducible rfl | (simp; done))) | (with_reducible exact Bx.at _ (by first | with_reducible rfl | (simp; done))) | with_reducible refine Bx.drew ?_ | with_reducible refine Bx.alloc ?_ _ | with_reducible refine Bx.call ?_ (by with_reducible assumption) | with_reducible refine BX.drew ?_ | with_reducible refine BX.alloc ?_ _ | with_reducible refine BX.call ?_ (by with_reducible assumption) | with_reducible refine Bx.far (by first | omega | (dsimp only; omega)) ?_ | with_reducible refine Bx.st5 ?_)); intro d11mv_11; have d11mv_11c0 := d11mv_11.c0; have d11mv_11c1 := d11mv_11.c1; have d11mv_11c2 := d11mv_11.c2; have d11mv_11c3 := d11mv_11.c3; have d11mv_11c4 := d11mv_11.c4; have d11mv_11f0 := d11mv_11.f0; have d11mv_11f1 := d11mv_11.f1; have d11mv_11f2 := d11mv_11.f2; have d11mv_11f3 := d11mv_11.f3; have d11mv_11f4 := d11mv_11.f4; have d11mv_11l := d11mv_11.lt)); (try ((refine useIt (P := BX w11mo.heap.size [.int .i64 0, .int .i64 0, .int .i64 0, .int .i64 0, .slice none 0 0] w11mv) ?_ ?_); (repeat (first | with_reducible assumption | (with_reducible exact BX.at _ (by first | with_reducible rfl | (simp; done))) | (with_reducible exact Bx.at _ (by first | with_reducible rfl | (simp; done))) | with_reducible refine Bx.drew ?_ | with_reducible refine Bx.alloc ?_ _ | with_reducible refine Bx.call ?_ (by with_reducible assumption) | with_reducible refine BX.drew ?_ | with_reducible refine BX.alloc ?_ _ | with_reducible refine BX.call ?_ (by with_reducible assumption) | with_reducible refine Bx.far (by first | omega | (dsimp only; omega)) ?_ | with_reducible refine Bx.st5 ?_)); intro d11mv_11mo; have d11mv_11moc0 := d11mv_11mo.c0; have d11mv_11moc1 := d11mv_11mo.c1; have d11mv_11moc2 := d11mv_11mo.c2; have d11mv_11moc3 := d11mv_11mo.c3; have d11mv_11moc4 := d11mv_11mo.c4; have d11mv_11mof0 := d11mv_11mo.f0; have d11mv_11mof1 := d11mv_11mo.f1; have d11mv_11mof2 := d11mv_11mo.f2; have d11mv_11mof3 := d11mv_11mo.f3; have d11mv_11mof4 := d11mv_11mo.f4; have d11mv_11mol := d11mv_11mo.lt)); (try ((refine useIt (P := BX w11fr.heap.size [.int .i64 0, .int .i64 0, .int .i64 0, .int .i64 0, .slice none 0 0] w11mv) ?_ ?_); (repeat (first | with_reducible assumption | (with_reducible exact BX.at _ (by first | with_reducible rfl | (simp; done))) | (with_reducible exact Bx.at _ (by first | with_reducible rfl | (simp; done))) | with_reducible refine Bx.drew ?_ | with_reducible refine Bx.alloc ?_ _ | with_reducible refine Bx.call ?_ (by with_reducible assumption) | with_reducible refine BX.drew ?_ | with_reducible refine BX.alloc ?_ _ | with_reducible refine BX.call ?_ (by with_reducible assumption) | with_reducible refine Bx.far (by first | omega | (dsimp only; omega)) ?_ | with_reducible refine Bx.st5 ?_)); intro d11mv_11fr; have d11mv_11frc0 := d11mv_11fr.c0; have d11mv_11frc1 := d11mv_11fr.c1; have d11mv_11frc2 := d11mv_11fr.c2; have d11mv_11frc3 := d11mv_11fr.c3; have d11mv_11frc4 := d11mv_11fr.c4; have d11mv_11frf0 := d11mv_11fr.f0; have d11mv_11frf1 := d11mv_11fr.f1; have d11mv_11frf2 := d11mv_11fr.f2; have d11mv_11frf3 := d11mv_11fr.f3; have d11mv_11frf4 := d11mv_11fr.f4; have d11mv_11frl := d11mv_11fr.lt)); have c11mv : Below w11.heap.size w11 w11mv := (by repeat (first | with_reducible assumption | with_reducible exact Below.refl _ _ | with_reducible refine Below.drew ?_ | with_reducible refine Below.alloc ?_ (by first | omega | (simp <;> omega)) _ | with_reducible refine Below.setCell ?_ (by first | omega | (dsimp only; omega)) _ | with_reducible refine bstep ?_ (by with_reducible assumption))); have y11mv := c11mv.size; have l11mv := Bx.call k9 c11mv; have ll11mv := l11mv.lt; have n11mv := Bx.call k8 c11mv; have nl11mv := n11mv.lt; have rr12 : SRow w11.heap.size w11mv.heap.size 1 (.slice ao12 m12 cap12) m12 G12 w11mv := SRow.low rq12 (by first | omega | (simp <;> omega))))
            all_goals
              go_wp2_with fail
              go_meet
              exact ⟨_, _, _, _, _, _, _, _, _, _, hr12, rfl, rfl, (by repeat (first | with_reducible assumption | (with_reducible exact BX.at _ (by first | with_reducible rfl | (simp; done))) | (with_reducible exact Bx.at _ (by first | with_reducible rfl | (simp; done))) | with_reducible refine Bx.drew ?_ | with_reducible refine Bx.alloc ?_ _ | with_reducible refine Bx.call ?_ (by with_reducible assumption) | with_reducible refine BX.drew ?_ | with_reducible refine BX.alloc ?_ _ | with_reducible refine BX.call ?_ (by with_reducible assumption) | with_reducible refine Bx.far (by first | omega | (dsimp only; omega)) ?_ | with_reducible refine Bx.st5 ?_)), (by refine SRow.up (hi := w11mv.heap.size) ?_; repeat (first | with_reducible exact rr12 | with_reducible refine SRow.alloc9 ?_ _ | with_reducible refine SRow.drew9 ?_ | (with_reducible refine SRow.putO9 (rq12.off (by dsimp only; first | omega | exact Or.inl (lt_al9 _ _) | (have := d11mo_11.lt; first | omega | (simp <;> omega)) | (have := d11mo_11mo.lt; first | omega | (simp <;> omega)) | (have := d11mo_11fr.lt; first | omega | (simp <;> omega)) | (have := d11mv_11.lt; first | omega | (simp <;> omega)) | (have := d11mv_11mo.lt; first | omega | (simp <;> omega)) | (have := d11mv_11fr.lt; first | omega | (simp <;> omega)) | (have := d11fr_11.lt; first | omega | (simp <;> omega)) | (have := d11fr_11mo.lt; first | omega | (simp <;> omega)) | (have := d11fr_11fr.lt; first | omega | (simp <;> omega)))) _ ?_))), (by first | omega | (simp <;> omega)), rq12.off (by first | omega | exact Or.inl (lt_al9 _ _) | (simp <;> omega) | (have := d11mo_11.lt; first | omega | (simp <;> omega)) | (have := d11mo_11mo.lt; first | omega | (simp <;> omega)) | (have := d11mo_11fr.lt; first | omega | (simp <;> omega)) | (have := d11mv_11.lt; first | omega | (simp <;> omega)) | (have := d11mv_11mo.lt; first | omega | (simp <;> omega)) | (have := d11mv_11fr.lt; first | omega | (simp <;> omega)) | (have := d11fr_11.lt; first | omega | (simp <;> omega)) | (have := d11fr_11mo.lt; first | omega | (simp <;> omega)) | (have := d11fr_11fr.lt; first | omega | (simp <;> omega))), (by repeat (first | with_reducible assumption | with_reducible exact Below.refl _ _ | with_reducible refine Below.drew ?_ | with_reducible refine Below.alloc ?_ (by first | omega | (simp <;> omega)) _ | with_reducible refine Below.setCell ?_ (by first | omega | (dsimp only; omega)) _ | with_reducible refine bstep ?_ (by with_reducible assumption)))⟩
          case rest =>
            obtain ⟨bx12, pf12, pa12, pb12, pc12, m12, G12, c12, ao12, cap12, hr12, rfl, rfl, KD12, rq12, hl12, ho12, hb12⟩ := hcut
            obtain ⟨w12, hw12⟩ : ∃ z, z = wc := ⟨_, rfl⟩
            subst hw12
            obtain ⟨rfl, rfl, rfl, rfl, rfl, rfl, rfl⟩ : pf2 = pf12 ∧ pa2 = pa12 ∧ pb2 = pb12 ∧ pc2 = pc12 ∧ m2 = m12 ∧ G2 = G12 ∧ c2 = c12 := by have h9 := HP.out.symm.trans hr12; simpa using h9
            clear hr12
            have K12 : Bx (w.heap.size) [.int .i64 f, .int .i64 A, .int .i64 B, .int .i64 C, .slice ao n cap] w12 := Bx.call K11 hb12
            have L12 : Bx (w.heap.size + 1) [.int .i64 a, .int .i64 b, .int .i64 c, .int .i64 d, .int .i64 x, .int .i64 y] w12 := Bx.call L11 hb12
            have Y12 : Bx (bx2) [.int .i64 pf2, .int .i64 pa2, .int .i64 pb2, .int .i64 pc2, .slice ao2 m2 cap2] w12 := Bx.call Y11 hb12
            have G12 : Bx (bx5) [.int .i64 pf2, .int .i64 pa2, .int .i64 pb2, .int .i64 pc2, .slice ao5 m2 cap5] w12 := Bx.call G11 hb12
            have B12 : Below w.heap.size w w12 := bstep B11 hb12
            have A12 := Lib.hid (HA.out.call B12)
            have z12 : w11.heap.size ≤ w12.heap.size := hb12.size
            have y12 := Lib.hid (SRow.call y11.out hb12)
            have g12 := Lib.hid (SRow.call g11.out hb12)
            clear K11 L11 Y11 G11 B11 A11 y11 g11 K11c0 K11c1 K11c2 K11c3 K11c4 K11l L11c0 L11c1 L11c2 L11c3 L11c4 L11c5 L11l hb12
            have h12 := Lib.hid rq12
            clear rq12
            have H12 := KD12
            have bl12 := KD12.lt
            clear KD12
            have HO12 := Lib.hid ho12
            clear ho12
            have H12c0 := H12.c0
            have H12c1 := H12.c1
            have H12c2 := H12.c2
            have H12c3 := H12.c3
            have H12c4 := H12.c4
            have H12l := H12.lt
            have Y12c0 := Y12.c0
            have Y12c1 := Y12.c1
            have Y12c2 := Y12.c2
            have Y12c3 := Y12.c3
            have Y12c4 := Y12.c4
            have Y12l := Y12.lt
            go_wp2_with fail
            with_reducible refine (eqPat_any pf2 pa2 pb2 pc2 h12.out y12.out).mono ?_
            rintro e w13 ⟨rfl, hb13⟩
            have K13 : Bx (w.heap.size) [.int .i64 f, .int .i64 A, .int .i64 B, .int .i64 C, .slice ao n cap] w13 := Bx.call K12 hb13
            have L13 : Bx (w.heap.size + 1) [.int .i64 a, .int .i64 b, .int .i64 c, .int .i64 d, .int .i64 x, .int .i64 y] w13 := Bx.call L12 hb13
            have Y13 : Bx (bx2) [.int .i64 pf2, .int .i64 pa2, .int .i64 pb2, .int .i64 pc2, .slice ao2 m2 cap2] w13 := Bx.call Y12 hb13
            have G13 : Bx (bx5) [.int .i64 pf2, .int .i64 pa2, .int .i64 pb2, .int .i64 pc2, .slice ao5 m2 cap5] w13 := Bx.call G12 hb13
            have H13 : Bx (bx12) [.int .i64 pf2, .int .i64 pa2, .int .i64 pb2, .int .i64 pc2, .slice ao12 m2 cap12] w13 := Bx.call H12 hb13
            have B13 : Below w.heap.size w w13 := bstep B12 hb13
            have A13 := Lib.hid (HA.out.call B13)
            have z13 : w12.heap.size ≤ w13.heap.size := hb13.size
            have y13 := Lib.hid (SRow.call y12.out hb13)
            have g13 := Lib.hid (SRow.call g12.out hb13)
            have h13 := Lib.hid (SRow.call h12.out hb13)
            clear K12 L12 Y12 G12 H12 B12 A12 y12 g12 h12 H12c0 H12c1 H12c2 H12c3 H12c4 H12l Y12c0 Y12c1 Y12c2 Y12c3 Y12c4 Y12l hb13
            clear h13
            clear y13
            clear H13
            clear Y13
            have G13c0 := G13.c0
            have G13c1 := G13.c1
            have G13c2 := G13.c2
            have G13c3 := G13.c3
            have G13c4 := G13.c4
            have G13l := G13.lt
            go_wp2_with fail
            with_reducible refine (heldPat_any pf2 pa2 pb2 pc2 g13.out).mono ?_
            rintro e w14 ⟨rfl, hb14⟩
            have K14 : Bx (w.heap.size) [.int .i64 f, .int .i64 A, .int .i64 B, .int .i64 C, .slice ao n cap] w14 := Bx.call K13 hb14
            have L14 : Bx (w.heap.size + 1) [.int .i64 a, .int .i64 b, .int .i64 c, .int .i64 d, .int .i64 x, .int .i64 y] w14 := Bx.call L13 hb14
            have G14 : Bx (bx5) [.int .i64 pf2, .int .i64 pa2, .int .i64 pb2, .int .i64 pc2, .slice ao5 m2 cap5] w14 := Bx.call G13 hb14
            have B14 : Below w.heap.size w w14 := bstep B13 hb14
            have A14 := Lib.hid (HA.out.call B14)
            have z14 : w13.heap.size ≤ w14.heap.size := hb14.size
            have g14 := Lib.hid (SRow.call g13.out hb14)
            clear K13 L13 G13 B13 A13 g13 G13c0 G13c1 G13c2 G13c3 G13c4 G13l hb14
            go_wp2
            go_ret
            exact ⟨rfl, B14⟩
  · have hz : (if (n : Int) ≤ 1048576 then 1048576 - (n : Int) else -1) = -1 := if_neg (by omega)
    go_enter Try.func7, Try.ntmps7
    go_wp2_with fail
    refine (szPat_any f A B C ao n cap 1048576 _ hm (by omega)).mono ?_
    rintro e w1 ⟨rfl, hb1⟩
    rw [hz]
    go_wp2
    go_ret
    exact ⟨rfl, bstep (by repeat (first | with_reducible assumption | with_reducible exact Below.refl _ _ | with_reducible refine Below.drew ?_ | with_reducible refine Below.alloc ?_ (by first | omega | (simp <;> omega)) _ | with_reducible refine Below.setCell ?_ (by first | omega | (dsimp only; omega)) _ | with_reducible refine bstep ?_ (by with_reducible assumption))) hb1⟩
end Go.Proofs.Ytpejihckepaojaa
