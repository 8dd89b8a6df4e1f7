/-
 The walk of the exact law of SeedPattern: the law returns true and writes nothing that was there. Conditions: the list's length is one that a slice can have; the program's variable unitMatrix holds the unit.
-/
import Derived.Test.YtdgophfembpniaaGreatDoorSe
import Derived.Test.YtdgophfembpniaaGreatDoorPtW9
import Derived.Test.YtdgophfembpniaaGreatDoorGq
import Derived.Test.YtdgophfembpniaaGreatDoorRcK
namespace Go.Proofs.YtdgophfembpniaaGreatDoor
open Go.RowKit
set_option linter.unusedSimpArgs false
set_option linter.unusedVariables false

set_option maxRecDepth 100000 in
set_option maxHeartbeats 16000000 in
theorem walkSe (f A B C : Int) (v9 : Value) (xs : List M6) (x y : Int) (w : World) (hA2 : ARow v9 xs w) (hm2 : xs.length ≤ 9223372036854775807) (hU : UnitOK w) :
  Calls Tryz.prog 6 #[.int .i64 f, .agg #[.int .i64 A, .int .i64 B, .int .i64 C], v9, .agg #[.int .i64 x, .int .i64 y]] w fun e w' => e = .returned (.bool true) ∧ Below w.heap.size w w' := by
 have HU := Lib.hid hU
 have HA2 := Lib.hid hA2
 clear hU
 obtain ⟨ao9, cap9, rfl, _⟩ := hA2
 by_cases hb2 : (xs.length : Int) ≤ 1048576
 ·have hbig2 := Lib.hid hb2
  have HN2 := Lib.hid (show xs.length ≤ 1048576 from by omega)
  have hn2 : ¬ (1048576 - (xs.length : Int) < 0) := by omega
  clear hb2
  go_enter Tryz.func6, Tryz.ntmps6
  go_wp2_with fail
  with_reducible refine (szMo_any ao9 xs.length cap9 1048576 _ hm2 (by omega)).mono ?_
  rintro e w1 ⟨rfl, hb1⟩
  rw [if_pos hbig2.out]
  have K1 : Bx (w.heap.size) [.int .i64 A, .int .i64 B, .int .i64 C] w1 := Bx.call ((Bx.at _ rfl).alloc _) hb1
  have L1 : Bx (w.heap.size + 1) [.int .i64 x, .int .i64 y] w1 := Bx.call ((Bx.at _ (by simp))) hb1
  have B1 : Below w.heap.size w w1 := bstep (by repeat (first | with_reducible assumption | with_reducible exact Below.refl _ _ | with_reducible refine Below.drew ?_ | with_reducible refine Below.alloc ?_ (by first | omega | (simp <;> omega)) _ | with_reducible refine Below.setCell ?_ (by first | omega | (dsimp only; omega)) _ | with_reducible refine bstep ?_ (by with_reducible assumption))) hb1
  have z1 : w.heap.size + 1 < w1.heap.size := by have := hb1.size; simp at this; omega
  clear hb1
  have K1c0 := K1.c0
  have K1c1 := K1.c1
  have K1c2 := K1.c2
  have K1l := K1.lt
  have L1c0 := L1.c0
  have L1c1 := L1.c1
  have L1l := L1.lt
  go_upto_region 1 with fail
  go_cut [10, 11] (fun s6 s7 wx => McK (seR f A B C xs x y) w1 s6 s7 wx)
  case first =>
   have k9 : Bx (w.heap.size) [.int .i64 A, .int .i64 B, .int .i64 C] w1 := K1
   have k8 : Bx (w.heap.size + 1) [.int .i64 x, .int .i64 y] w1 := L1
   go_region_held3 (fun W9 => (W9.cell? ⟨w.heap.size, 0, none⟩ = some (.int .i64 A) ∧ W9.cell? ⟨w.heap.size, 1, none⟩ = some (.int .i64 B) ∧ W9.cell? ⟨w.heap.size, 2, none⟩ = some (.int .i64 C)) ∧ (W9.cell? ⟨w.heap.size + 1, 0, none⟩ = some (.int .i64 x) ∧ W9.cell? ⟨w.heap.size + 1, 1, none⟩ = some (.int .i64 y))) ((refine And.intro (Bx.cells3 ?_) (Bx.cells2 ?_)) <;> (repeat (first | with_reducible assumption | (with_reducible exact BX.at _ (by first | with_reducible rfl | (simp; done))) | (with_reducible exact Bx.at _ (by first | with_reducible rfl | (simp; done))) | with_reducible refine Bx.drew ?_ | with_reducible refine Bx.alloc ?_ _ | with_reducible refine Bx.call ?_ (by with_reducible assumption) | with_reducible refine BX.drew ?_ | with_reducible refine BX.alloc ?_ _ | with_reducible refine BX.call ?_ (by with_reducible assumption) | with_reducible refine Bx.far (by first | omega | (dsimp only; omega)) ?_ | with_reducible refine Bx.st5 ?_)))
    (first
     | (go_at_call 26; with_reducible refine (toLat_any _ _ _ _).mono ?_; rintro e w1lt ⟨rfl, hb1lt⟩; (try ((refine useIt (P := BX w1.heap.size [.int .i64 0, .int .i64 0, .int .i64 0, .int .i64 0, .slice none 0 0] w1lt) ?_ ?_); (repeat (first | with_reducible assumption | (with_reducible exact BX.at _ (by first | with_reducible rfl | (simp; done))) | (with_reducible exact Bx.at _ (by first | with_reducible rfl | (simp; done))) | with_reducible refine Bx.drew ?_ | with_reducible refine Bx.alloc ?_ _ | with_reducible refine Bx.call ?_ (by with_reducible assumption) | with_reducible refine BX.drew ?_ | with_reducible refine BX.alloc ?_ _ | with_reducible refine BX.call ?_ (by with_reducible assumption) | with_reducible refine Bx.far (by first | omega | (dsimp only; omega)) ?_ | with_reducible refine Bx.st5 ?_)); intro d1lt_1; have d1lt_1c0 := d1lt_1.c0; have d1lt_1c1 := d1lt_1.c1; have d1lt_1c2 := d1lt_1.c2; have d1lt_1c3 := d1lt_1.c3; have d1lt_1c4 := d1lt_1.c4; have d1lt_1f0 := d1lt_1.f0; have d1lt_1f1 := d1lt_1.f1; have d1lt_1f2 := d1lt_1.f2; have d1lt_1f3 := d1lt_1.f3; have d1lt_1f4 := d1lt_1.f4; have d1lt_1l := d1lt_1.lt)); have c1lt : Below w1.heap.size w1 w1lt := (by repeat (first | with_reducible assumption | with_reducible exact Below.refl _ _ | with_reducible refine Below.drew ?_ | with_reducible refine Below.alloc ?_ (by first | omega | (simp <;> omega)) _ | with_reducible refine Below.setCell ?_ (by first | omega | (dsimp only; omega)) _ | with_reducible refine bstep ?_ (by with_reducible assumption))); have y1lt := c1lt.size; have l1lt := Bx.call k9 c1lt; have ll1lt := l1lt.lt; have n1lt := Bx.call k8 c1lt; have nl1lt := n1lt.lt)
     | (go_at_call 14; with_reducible refine (toMotionS_any (HA2.out.call (by repeat (first | with_reducible assumption | with_reducible exact Below.refl _ _ | with_reducible refine Below.drew ?_ | with_reducible refine Below.alloc ?_ (by first | omega | (simp <;> omega)) _ | with_reducible refine Below.setCell ?_ (by first | omega | (dsimp only; omega)) _ | with_reducible refine bstep ?_ (by with_reducible assumption)))) HN2.out).mono ?_; rintro e w1mo ⟨v1mo, rfl, r1mo, hb1mo⟩; obtain ⟨ao1mo, cap1mo, rfl⟩ := r1mo.slice; (try ((refine useIt (P := BX w1.heap.size [.int .i64 0, .int .i64 0, .int .i64 0, .int .i64 0, .slice none 0 0] w1mo) ?_ ?_); (repeat (first | with_reducible assumption | (with_reducible exact BX.at _ (by first | with_reducible rfl | (simp; done))) | (with_reducible exact Bx.at _ (by first | with_reducible rfl | (simp; done))) | with_reducible refine Bx.drew ?_ | with_reducible refine Bx.alloc ?_ _ | with_reducible refine Bx.call ?_ (by with_reducible assumption) | with_reducible refine BX.drew ?_ | with_reducible refine BX.alloc ?_ _ | with_reducible refine BX.call ?_ (by with_reducible assumption) | with_reducible refine Bx.far (by first | omega | (dsimp only; omega)) ?_ | with_reducible refine Bx.st5 ?_)); intro d1mo_1; have d1mo_1c0 := d1mo_1.c0; have d1mo_1c1 := d1mo_1.c1; have d1mo_1c2 := d1mo_1.c2; have d1mo_1c3 := d1mo_1.c3; have d1mo_1c4 := d1mo_1.c4; have d1mo_1f0 := d1mo_1.f0; have d1mo_1f1 := d1mo_1.f1; have d1mo_1f2 := d1mo_1.f2; have d1mo_1f3 := d1mo_1.f3; have d1mo_1f4 := d1mo_1.f4; have d1mo_1l := d1mo_1.lt)); (try ((refine useIt (P := BX w1lt.heap.size [.int .i64 0, .int .i64 0, .int .i64 0, .int .i64 0, .slice none 0 0] w1mo) ?_ ?_); (repeat (first | with_reducible assumption | (with_reducible exact BX.at _ (by first | with_reducible rfl | (simp; done))) | (with_reducible exact Bx.at _ (by first | with_reducible rfl | (simp; done))) | with_reducible refine Bx.drew ?_ | with_reducible refine Bx.alloc ?_ _ | with_reducible refine Bx.call ?_ (by with_reducible assumption) | with_reducible refine BX.drew ?_ | with_reducible refine BX.alloc ?_ _ | with_reducible refine BX.call ?_ (by with_reducible assumption) | with_reducible refine Bx.far (by first | omega | (dsimp only; omega)) ?_ | with_reducible refine Bx.st5 ?_)); intro d1mo_1lt; have d1mo_1ltc0 := d1mo_1lt.c0; have d1mo_1ltc1 := d1mo_1lt.c1; have d1mo_1ltc2 := d1mo_1lt.c2; have d1mo_1ltc3 := d1mo_1lt.c3; have d1mo_1ltc4 := d1mo_1lt.c4; have d1mo_1ltf0 := d1mo_1lt.f0; have d1mo_1ltf1 := d1mo_1lt.f1; have d1mo_1ltf2 := d1mo_1lt.f2; have d1mo_1ltf3 := d1mo_1lt.f3; have d1mo_1ltf4 := d1mo_1lt.f4; have d1mo_1ltl := d1mo_1lt.lt)); have c1mo : Below w1.heap.size w1 w1mo := (by repeat (first | with_reducible assumption | with_reducible exact Below.refl _ _ | with_reducible refine Below.drew ?_ | with_reducible refine Below.alloc ?_ (by first | omega | (simp <;> omega)) _ | with_reducible refine Below.setCell ?_ (by first | omega | (dsimp only; omega)) _ | with_reducible refine bstep ?_ (by with_reducible assumption))); have y1mo := c1mo.size; have l1mo := Bx.call k9 c1mo; have ll1mo := l1mo.lt; have n1mo := Bx.call k8 c1mo; have nl1mo := n1mo.lt)
     | (go_at_call 31; with_reducible refine (toVec_any _ _ _).mono ?_; rintro e w1ve ⟨rfl, hb1ve⟩; (try ((refine useIt (P := BX w1.heap.size [.int .i64 0, .int .i64 0, .int .i64 0, .int .i64 0, .slice none 0 0] w1ve) ?_ ?_); (repeat (first | with_reducible assumption | (with_reducible exact BX.at _ (by first | with_reducible rfl | (simp; done))) | (with_reducible exact Bx.at _ (by first | with_reducible rfl | (simp; done))) | with_reducible refine Bx.drew ?_ | with_reducible refine Bx.alloc ?_ _ | with_reducible refine Bx.call ?_ (by with_reducible assumption) | with_reducible refine BX.drew ?_ | with_reducible refine BX.alloc ?_ _ | with_reducible refine BX.call ?_ (by with_reducible assumption) | with_reducible refine Bx.far (by first | omega | (dsimp only; omega)) ?_ | with_reducible refine Bx.st5 ?_)); intro d1ve_1; have d1ve_1c0 := d1ve_1.c0; have d1ve_1c1 := d1ve_1.c1; have d1ve_1c2 := d1ve_1.c2; have d1ve_1c3 := d1ve_1.c3; have d1ve_1c4 := d1ve_1.c4; have d1ve_1f0 := d1ve_1.f0; have d1ve_1f1 := d1ve_1.f1; have d1ve_1f2 := d1ve_1.f2; have d1ve_1f3 := d1ve_1.f3; have d1ve_1f4 := d1ve_1.f4; have d1ve_1l := d1ve_1.lt)); (try ((refine useIt (P := BX w1lt.heap.size [.int .i64 0, .int .i64 0, .int .i64 0, .int .i64 0, .slice none 0 0] w1ve) ?_ ?_); (repeat (first | with_reducible assumption | (with_reducible exact BX.at _ (by first | with_reducible rfl | (simp; done))) | (with_reducible exact Bx.at _ (by first | with_reducible rfl | (simp; done))) | with_reducible refine Bx.drew ?_ | with_reducible refine Bx.alloc ?_ _ | with_reducible refine Bx.call ?_ (by with_reducible assumption) | with_reducible refine BX.drew ?_ | with_reducible refine BX.alloc ?_ _ | with_reducible refine BX.call ?_ (by with_reducible assumption) | with_reducible refine Bx.far (by first | omega | (dsimp only; omega)) ?_ | with_reducible refine Bx.st5 ?_)); intro d1ve_1lt; have d1ve_1ltc0 := d1ve_1lt.c0; have d1ve_1ltc1 := d1ve_1lt.c1; have d1ve_1ltc2 := d1ve_1lt.c2; have d1ve_1ltc3 := d1ve_1lt.c3; have d1ve_1ltc4 := d1ve_1lt.c4; have d1ve_1ltf0 := d1ve_1lt.f0; have d1ve_1ltf1 := d1ve_1lt.f1; have d1ve_1ltf2 := d1ve_1lt.f2; have d1ve_1ltf3 := d1ve_1lt.f3; have d1ve_1ltf4 := d1ve_1lt.f4; have d1ve_1ltl := d1ve_1lt.lt)); (try ((refine useIt (P := BX w1mo.heap.size [.int .i64 0, .int .i64 0, .int .i64 0, .int .i64 0, .slice none 0 0] w1ve) ?_ ?_); (repeat (first | with_reducible assumption | (with_reducible exact BX.at _ (by first | with_reducible rfl | (simp; done))) | (with_reducible exact Bx.at _ (by first | with_reducible rfl | (simp; done))) | with_reducible refine Bx.drew ?_ | with_reducible refine Bx.alloc ?_ _ | with_reducible refine Bx.call ?_ (by with_reducible assumption) | with_reducible refine BX.drew ?_ | with_reducible refine BX.alloc ?_ _ | with_reducible refine BX.call ?_ (by with_reducible assumption) | with_reducible refine Bx.far (by first | omega | (dsimp only; omega)) ?_ | with_reducible refine Bx.st5 ?_)); intro d1ve_1mo; have d1ve_1moc0 := d1ve_1mo.c0; have d1ve_1moc1 := d1ve_1mo.c1; have d1ve_1moc2 := d1ve_1mo.c2; have d1ve_1moc3 := d1ve_1mo.c3; have d1ve_1moc4 := d1ve_1mo.c4; have d1ve_1mof0 := d1ve_1mo.f0; have d1ve_1mof1 := d1ve_1mo.f1; have d1ve_1mof2 := d1ve_1mo.f2; have d1ve_1mof3 := d1ve_1mo.f3; have d1ve_1mof4 := d1ve_1mo.f4; have d1ve_1mol := d1ve_1mo.lt)); (try ((refine useIt (P := Below w1mo.heap.size w1mo w1ve) ?_ ?_); (with_reducible exact bstep (by repeat (first | with_reducible assumption | with_reducible exact Below.refl _ _ | with_reducible refine Below.drew ?_ | with_reducible refine Below.alloc ?_ (by first | omega | (simp <;> omega)) _ | with_reducible refine Below.setCell ?_ (by first | omega | (dsimp only; omega)) _ | with_reducible refine bstep ?_ (by with_reducible assumption))) hb1ve); intro e1ve; have ye1ve := e1ve.size)); have c1ve : Below w1.heap.size w1 w1ve := (by repeat (first | with_reducible assumption | with_reducible exact Below.refl _ _ | with_reducible refine Below.drew ?_ | with_reducible refine Below.alloc ?_ (by first | omega | (simp <;> omega)) _ | with_reducible refine Below.setCell ?_ (by first | omega | (dsimp only; omega)) _ | with_reducible refine bstep ?_ (by with_reducible assumption))); have y1ve := c1ve.size; have l1ve := Bx.call k9 c1ve; have ll1ve := l1ve.lt; have n1ve := Bx.call k8 c1ve; have nl1ve := n1ve.lt)
     | (go_at_call 30; with_reducible refine (specSe_any f A B C x y (SRow.call r1mo (by repeat (first | with_reducible assumption | with_reducible exact Below.refl _ _ | with_reducible refine Below.drew ?_ | with_reducible refine Below.alloc ?_ (by first | omega | (simp <;> omega)) _ | with_reducible refine Below.setCell ?_ (by first | omega | (dsimp only; omega)) _ | with_reducible refine bstep ?_ (by with_reducible assumption)))) HN2.out).mono ?_; rintro e w1mv hh; unfold PAnK at hh; obtain ⟨pf2, pa2, pb2, pc2, m2, G2, c2, v2, hr2, rfl, rq2, hb1mv⟩ := hh; obtain ⟨ao2, cap2, rfl⟩ := rq2.slice; (try ((refine useIt (P := BX w1.heap.size [.int .i64 0, .int .i64 0, .int .i64 0, .int .i64 0, .slice none 0 0] w1mv) ?_ ?_); (repeat (first | with_reducible assumption | (with_reducible exact BX.at _ (by first | with_reducible rfl | (simp; done))) | (with_reducible exact Bx.at _ (by first | with_reducible rfl | (simp; done))) | with_reducible refine Bx.drew ?_ | with_reducible refine Bx.alloc ?_ _ | with_reducible refine Bx.call ?_ (by with_reducible assumption) | with_reducible refine BX.drew ?_ | with_reducible refine BX.alloc ?_ _ | with_reducible refine BX.call ?_ (by with_reducible assumption) | with_reducible refine Bx.far (by first | omega | (dsimp only; omega)) ?_ | with_reducible refine Bx.st5 ?_)); intro d1mv_1; have d1mv_1c0 := d1mv_1.c0; have d1mv_1c1 := d1mv_1.c1; have d1mv_1c2 := d1mv_1.c2; have d1mv_1c3 := d1mv_1.c3; have d1mv_1c4 := d1mv_1.c4; have d1mv_1f0 := d1mv_1.f0; have d1mv_1f1 := d1mv_1.f1; have d1mv_1f2 := d1mv_1.f2; have d1mv_1f3 := d1mv_1.f3; have d1mv_1f4 := d1mv_1.f4; have d1mv_1l := d1mv_1.lt)); (try ((refine useIt (P := BX w1lt.heap.size [.int .i64 0, .int .i64 0, .int .i64 0, .int .i64 0, .slice none 0 0] w1mv) ?_ ?_); (repeat (first | with_reducible assumption | (with_reducible exact BX.at _ (by first | with_reducible rfl | (simp; done))) | (with_reducible exact Bx.at _ (by first | with_reducible rfl | (simp; done))) | with_reducible refine Bx.drew ?_ | with_reducible refine Bx.alloc ?_ _ | with_reducible refine Bx.call ?_ (by with_reducible assumption) | with_reducible refine BX.drew ?_ | with_reducible refine BX.alloc ?_ _ | with_reducible refine BX.call ?_ (by with_reducible assumption) | with_reducible refine Bx.far (by first | omega | (dsimp only; omega)) ?_ | with_reducible refine Bx.st5 ?_)); intro d1mv_1lt; have d1mv_1ltc0 := d1mv_1lt.c0; have d1mv_1ltc1 := d1mv_1lt.c1; have d1mv_1ltc2 := d1mv_1lt.c2; have d1mv_1ltc3 := d1mv_1lt.c3; have d1mv_1ltc4 := d1mv_1lt.c4; have d1mv_1ltf0 := d1mv_1lt.f0; have d1mv_1ltf1 := d1mv_1lt.f1; have d1mv_1ltf2 := d1mv_1lt.f2; have d1mv_1ltf3 := d1mv_1lt.f3; have d1mv_1ltf4 := d1mv_1lt.f4; have d1mv_1ltl := d1mv_1lt.lt)); (try ((refine useIt (P := BX w1mo.heap.size [.int .i64 0, .int .i64 0, .int .i64 0, .int .i64 0, .slice none 0 0] w1mv) ?_ ?_); (repeat (first | with_reducible assumption | (with_reducible exact BX.at _ (by first | with_reducible rfl | (simp; done))) | (with_reducible exact Bx.at _ (by first | with_reducible rfl | (simp; done))) | with_reducible refine Bx.drew ?_ | with_reducible refine Bx.alloc ?_ _ | with_reducible refine Bx.call ?_ (by with_reducible assumption) | with_reducible refine BX.drew ?_ | with_reducible refine BX.alloc ?_ _ | with_reducible refine BX.call ?_ (by with_reducible assumption) | with_reducible refine Bx.far (by first | omega | (dsimp only; omega)) ?_ | with_reducible refine Bx.st5 ?_)); intro d1mv_1mo; have d1mv_1moc0 := d1mv_1mo.c0; have d1mv_1moc1 := d1mv_1mo.c1; have d1mv_1moc2 := d1mv_1mo.c2; have d1mv_1moc3 := d1mv_1mo.c3; have d1mv_1moc4 := d1mv_1mo.c4; have d1mv_1mof0 := d1mv_1mo.f0; have d1mv_1mof1 := d1mv_1mo.f1; have d1mv_1mof2 := d1mv_1mo.f2; have d1mv_1mof3 := d1mv_1mo.f3; have d1mv_1mof4 := d1mv_1mo.f4; have d1mv_1mol := d1mv_1mo.lt)); (try ((refine useIt (P := BX w1ve.heap.size [.int .i64 0, .int .i64 0, .int .i64 0, .int .i64 0, .slice none 0 0] w1mv) ?_ ?_); (repeat (first | with_reducible assumption | (with_reducible exact BX.at _ (by first | with_reducible rfl | (simp; done))) | (with_reducible exact Bx.at _ (by first | with_reducible rfl | (simp; done))) | with_reducible refine Bx.drew ?_ | with_reducible refine Bx.alloc ?_ _ | with_reducible refine Bx.call ?_ (by with_reducible assumption) | with_reducible refine BX.drew ?_ | with_reducible refine BX.alloc ?_ _ | with_reducible refine BX.call ?_ (by with_reducible assumption) | with_reducible refine Bx.far (by first | omega | (dsimp only; omega)) ?_ | with_reducible refine Bx.st5 ?_)); intro d1mv_1ve; have d1mv_1vec0 := d1mv_1ve.c0; have d1mv_1vec1 := d1mv_1ve.c1; have d1mv_1vec2 := d1mv_1ve.c2; have d1mv_1vec3 := d1mv_1ve.c3; have d1mv_1vec4 := d1mv_1ve.c4; have d1mv_1vef0 := d1mv_1ve.f0; have d1mv_1vef1 := d1mv_1ve.f1; have d1mv_1vef2 := d1mv_1ve.f2; have d1mv_1vef3 := d1mv_1ve.f3; have d1mv_1vef4 := d1mv_1ve.f4; have d1mv_1vel := d1mv_1ve.lt)); have c1mv : Below w1.heap.size w1 w1mv := (by repeat (first | with_reducible assumption | with_reducible exact Below.refl _ _ | with_reducible refine Below.drew ?_ | with_reducible refine Below.alloc ?_ (by first | omega | (simp <;> omega)) _ | with_reducible refine Below.setCell ?_ (by first | omega | (dsimp only; omega)) _ | with_reducible refine bstep ?_ (by with_reducible assumption))); have y1mv := c1mv.size; have l1mv := Bx.call k9 c1mv; have ll1mv := l1mv.lt; have n1mv := Bx.call k8 c1mv; have nl1mv := n1mv.lt; have rr2 : SRow w1.heap.size w1mv.heap.size 1 (.slice ao2 m2 cap2) m2 G2 w1mv := SRow.low rq2 (by first | omega | (simp <;> omega))))
   all_goals
    go_wp2_with fail
    go_meet
    exact ⟨_, _, _, _, _, _, _, _, _, _, hr2, rfl, rfl, (by repeat (first | with_reducible assumption | (with_reducible exact BX.at _ (by first | with_reducible rfl | (simp; done))) | (with_reducible exact Bx.at _ (by first | with_reducible rfl | (simp; done))) | with_reducible refine Bx.drew ?_ | with_reducible refine Bx.alloc ?_ _ | with_reducible refine Bx.call ?_ (by with_reducible assumption) | with_reducible refine BX.drew ?_ | with_reducible refine BX.alloc ?_ _ | with_reducible refine BX.call ?_ (by with_reducible assumption) | with_reducible refine Bx.far (by first | omega | (dsimp only; omega)) ?_ | with_reducible refine Bx.st5 ?_)), (by refine SRow.up (hi := w1mv.heap.size) ?_; repeat (first | with_reducible exact rr2 | with_reducible refine SRow.alloc9 ?_ _ | with_reducible refine SRow.drew9 ?_ | (with_reducible refine SRow.putO9 (rq2.off (by dsimp only; first | omega | exact Or.inl (lt_al9 _ _) | (have := d1mv_1.lt; first | omega | (simp <;> omega)) | (have := d1mv_1lt.lt; first | omega | (simp <;> omega)) | (have := d1mv_1mo.lt; first | omega | (simp <;> omega)) | (have := d1mv_1ve.lt; first | omega | (simp <;> omega)) | (have := d1ve_1.lt; first | omega | (simp <;> omega)) | (have := d1ve_1lt.lt; first | omega | (simp <;> omega)) | (have := d1ve_1mo.lt; first | omega | (simp <;> omega)) | (have := d1mo_1.lt; first | omega | (simp <;> omega)) | (have := d1mo_1lt.lt; first | omega | (simp <;> omega)) | (have := d1mo_1ve.lt; first | omega | (simp <;> omega)) | (have := d1lt_1.lt; first | omega | (simp <;> omega)) | (have := d1lt_1mo.lt; first | omega | (simp <;> omega)) | (have := d1lt_1ve.lt; first | omega | (simp <;> omega)))) _ ?_))), (by first | omega | (simp <;> omega)), rq2.off (by first | omega | exact Or.inl (lt_al9 _ _) | (simp <;> omega) | (have := d1mv_1.lt; first | omega | (simp <;> omega)) | (have := d1mv_1lt.lt; first | omega | (simp <;> omega)) | (have := d1mv_1mo.lt; first | omega | (simp <;> omega)) | (have := d1mv_1ve.lt; first | omega | (simp <;> omega)) | (have := d1ve_1.lt; first | omega | (simp <;> omega)) | (have := d1ve_1lt.lt; first | omega | (simp <;> omega)) | (have := d1ve_1mo.lt; first | omega | (simp <;> omega)) | (have := d1mo_1.lt; first | omega | (simp <;> omega)) | (have := d1mo_1lt.lt; first | omega | (simp <;> omega)) | (have := d1mo_1ve.lt; first | omega | (simp <;> omega)) | (have := d1lt_1.lt; first | omega | (simp <;> omega)) | (have := d1lt_1mo.lt; first | omega | (simp <;> omega)) | (have := d1lt_1ve.lt; first | omega | (simp <;> omega))), (by repeat (first | with_reducible assumption | with_reducible exact Below.refl _ _ | with_reducible refine Below.drew ?_ | with_reducible refine Below.alloc ?_ (by first | omega | (simp <;> omega)) _ | with_reducible refine Below.setCell ?_ (by first | omega | (dsimp only; omega)) _ | with_reducible refine bstep ?_ (by with_reducible assumption)))⟩
  case rest =>
   obtain ⟨bx2, pf2, pa2, pb2, pc2, m2, G2, c2, ao2, cap2, hr2, rfl, rfl, KD2, rq2, hl2, ho2, hb2⟩ := hcut
   obtain ⟨w2, hw2⟩ : ∃ z, z = wc := ⟨_, rfl⟩
   subst hw2
   have HP := Lib.hid hr2
   clear hr2
   have K2 : Bx (w.heap.size) [.int .i64 A, .int .i64 B, .int .i64 C] w2 := Bx.call K1 hb2
   have L2 : Bx (w.heap.size + 1) [.int .i64 x, .int .i64 y] w2 := Bx.call L1 hb2
   have B2 : Below w.heap.size w w2 := bstep B1 hb2
   have z2 : w1.heap.size ≤ w2.heap.size := hb2.size
   clear K1 L1 B1 K1c0 K1c1 K1c2 K1l L1c0 L1c1 L1l hb2
   have y2 := Lib.hid rq2
   clear rq2
   have Y2 := KD2
   have bl2 := KD2.lt
   clear KD2
   have HO2 := Lib.hid ho2
   clear ho2
   go_wp2_with fail
   with_reducible refine (toMotionS_any (HA2.out.grow (w2 := w2) B2) HN2.out).mono ?_
   rintro e w3 ⟨v3, rfl, r3, hb3⟩
   have K3 : Bx (w.heap.size) [.int .i64 A, .int .i64 B, .int .i64 C] w3 := Bx.call K2 hb3
   have L3 : Bx (w.heap.size + 1) [.int .i64 x, .int .i64 y] w3 := Bx.call L2 hb3
   have Y3 : Bx (bx2) [.int .i64 pf2, .int .i64 pa2, .int .i64 pb2, .int .i64 pc2, .slice ao2 m2 cap2] w3 := Bx.call Y2 hb3
   have B3 : Below w.heap.size w w3 := bstep B2 hb3
   have z3 : w2.heap.size ≤ w3.heap.size := hb3.size
   have y3 := Lib.hid (SRow.call y2.out hb3)
   clear K2 L2 Y2 B2 y2 hb3
   obtain ⟨ao3, cap3, rfl⟩ := r3.slice
   have x3 := Lib.hid r3
   clear r3
   have K3c0 := K3.c0
   have K3c1 := K3.c1
   have K3c2 := K3.c2
   have K3l := K3.lt
   have L3c0 := L3.c0
   have L3c1 := L3.c1
   have L3l := L3.lt
   go_upto_region 1 with fail
   go_cut [13, 14] (fun s6 s7 wx => McK (seR f A B C xs x y) w3 s6 s7 wx)
   case first =>
    have k9 : Bx (w.heap.size) [.int .i64 A, .int .i64 B, .int .i64 C] w3 := K3
    have k8 : Bx (w.heap.size + 1) [.int .i64 x, .int .i64 y] w3 := L3
    go_region_held3 (fun W9 => (W9.cell? ⟨w.heap.size, 0, none⟩ = some (.int .i64 A) ∧ W9.cell? ⟨w.heap.size, 1, none⟩ = some (.int .i64 B) ∧ W9.cell? ⟨w.heap.size, 2, none⟩ = some (.int .i64 C)) ∧ (W9.cell? ⟨w.heap.size + 1, 0, none⟩ = some (.int .i64 x) ∧ W9.cell? ⟨w.heap.size + 1, 1, none⟩ = some (.int .i64 y))) ((refine And.intro (Bx.cells3 ?_) (Bx.cells2 ?_)) <;> (repeat (first | with_reducible assumption | (with_reducible exact BX.at _ (by first | with_reducible rfl | (simp; done))) | (with_reducible exact Bx.at _ (by first | with_reducible rfl | (simp; done))) | with_reducible refine Bx.drew ?_ | with_reducible refine Bx.alloc ?_ _ | with_reducible refine Bx.call ?_ (by with_reducible assumption) | with_reducible refine BX.drew ?_ | with_reducible refine BX.alloc ?_ _ | with_reducible refine BX.call ?_ (by with_reducible assumption) | with_reducible refine Bx.far (by first | omega | (dsimp only; omega)) ?_ | with_reducible refine Bx.st5 ?_)))
     (first
      | (go_at_call 26; with_reducible refine (toLat_any _ _ _ _).mono ?_; rintro e w3lt ⟨rfl, hb3lt⟩; (try ((refine useIt (P := BX w3.heap.size [.int .i64 0, .int .i64 0, .int .i64 0, .int .i64 0, .slice none 0 0] w3lt) ?_ ?_); (repeat (first | with_reducible assumption | (with_reducible exact BX.at _ (by first | with_reducible rfl | (simp; done))) | (with_reducible exact Bx.at _ (by first | with_reducible rfl | (simp; done))) | with_reducible refine Bx.drew ?_ | with_reducible refine Bx.alloc ?_ _ | with_reducible refine Bx.call ?_ (by with_reducible assumption) | with_reducible refine BX.drew ?_ | with_reducible refine BX.alloc ?_ _ | with_reducible refine BX.call ?_ (by with_reducible assumption) | with_reducible refine Bx.far (by first | omega | (dsimp only; omega)) ?_ | with_reducible refine Bx.st5 ?_)); intro d3lt_3; have d3lt_3c0 := d3lt_3.c0; have d3lt_3c1 := d3lt_3.c1; have d3lt_3c2 := d3lt_3.c2; have d3lt_3c3 := d3lt_3.c3; have d3lt_3c4 := d3lt_3.c4; have d3lt_3f0 := d3lt_3.f0; have d3lt_3f1 := d3lt_3.f1; have d3lt_3f2 := d3lt_3.f2; have d3lt_3f3 := d3lt_3.f3; have d3lt_3f4 := d3lt_3.f4; have d3lt_3l := d3lt_3.lt)); have c3lt : Below w3.heap.size w3 w3lt := (by repeat (first | with_reducible assumption | with_reducible exact Below.refl _ _ | with_reducible refine Below.drew ?_ | with_reducible refine Below.alloc ?_ (by first | omega | (simp <;> omega)) _ | with_reducible refine Below.setCell ?_ (by first | omega | (dsimp only; omega)) _ | with_reducible refine bstep ?_ (by with_reducible assumption))); have y3lt := c3lt.size; have l3lt := Bx.call k9 c3lt; have ll3lt := l3lt.lt; have n3lt := Bx.call k8 c3lt; have nl3lt := n3lt.lt)
      | (go_at_call 31; with_reducible refine (toVec_any _ _ _).mono ?_; rintro e w3ve ⟨rfl, hb3ve⟩; (try ((refine useIt (P := BX w3.heap.size [.int .i64 0, .int .i64 0, .int .i64 0, .int .i64 0, .slice none 0 0] w3ve) ?_ ?_); (repeat (first | with_reducible assumption | (with_reducible exact BX.at _ (by first | with_reducible rfl | (simp; done))) | (with_reducible exact Bx.at _ (by first | with_reducible rfl | (simp; done))) | with_reducible refine Bx.drew ?_ | with_reducible refine Bx.alloc ?_ _ | with_reducible refine Bx.call ?_ (by with_reducible assumption) | with_reducible refine BX.drew ?_ | with_reducible refine BX.alloc ?_ _ | with_reducible refine BX.call ?_ (by with_reducible assumption) | with_reducible refine Bx.far (by first | omega | (dsimp only; omega)) ?_ | with_reducible refine Bx.st5 ?_)); intro d3ve_3; have d3ve_3c0 := d3ve_3.c0; have d3ve_3c1 := d3ve_3.c1; have d3ve_3c2 := d3ve_3.c2; have d3ve_3c3 := d3ve_3.c3; have d3ve_3c4 := d3ve_3.c4; have d3ve_3f0 := d3ve_3.f0; have d3ve_3f1 := d3ve_3.f1; have d3ve_3f2 := d3ve_3.f2; have d3ve_3f3 := d3ve_3.f3; have d3ve_3f4 := d3ve_3.f4; have d3ve_3l := d3ve_3.lt)); (try ((refine useIt (P := BX w3lt.heap.size [.int .i64 0, .int .i64 0, .int .i64 0, .int .i64 0, .slice none 0 0] w3ve) ?_ ?_); (repeat (first | with_reducible assumption | (with_reducible exact BX.at _ (by first | with_reducible rfl | (simp; done))) | (with_reducible exact Bx.at _ (by first | with_reducible rfl | (simp; done))) | with_reducible refine Bx.drew ?_ | with_reducible refine Bx.alloc ?_ _ | with_reducible refine Bx.call ?_ (by with_reducible assumption) | with_reducible refine BX.drew ?_ | with_reducible refine BX.alloc ?_ _ | with_reducible refine BX.call ?_ (by with_reducible assumption) | with_reducible refine Bx.far (by first | omega | (dsimp only; omega)) ?_ | with_reducible refine Bx.st5 ?_)); intro d3ve_3lt; have d3ve_3ltc0 := d3ve_3lt.c0; have d3ve_3ltc1 := d3ve_3lt.c1; have d3ve_3ltc2 := d3ve_3lt.c2; have d3ve_3ltc3 := d3ve_3lt.c3; have d3ve_3ltc4 := d3ve_3lt.c4; have d3ve_3ltf0 := d3ve_3lt.f0; have d3ve_3ltf1 := d3ve_3lt.f1; have d3ve_3ltf2 := d3ve_3lt.f2; have d3ve_3ltf3 := d3ve_3lt.f3; have d3ve_3ltf4 := d3ve_3lt.f4; have d3ve_3ltl := d3ve_3lt.lt)); have c3ve : Below w3.heap.size w3 w3ve := (by repeat (first | with_reducible assumption | with_reducible exact Below.refl _ _ | with_reducible refine Below.drew ?_ | with_reducible refine Below.alloc ?_ (by first | omega | (simp <;> omega)) _ | with_reducible refine Below.setCell ?_ (by first | omega | (dsimp only; omega)) _ | with_reducible refine bstep ?_ (by with_reducible assumption))); have y3ve := c3ve.size; have l3ve := Bx.call k9 c3ve; have ll3ve := l3ve.lt; have n3ve := Bx.call k8 c3ve; have nl3ve := n3ve.lt)
      | (go_at_call 32; with_reducible refine (implSe_any f A B C x y (SRow.call x3.out (by repeat (first | with_reducible assumption | with_reducible exact Below.refl _ _ | with_reducible refine Below.drew ?_ | with_reducible refine Below.alloc ?_ (by first | omega | (simp <;> omega)) _ | with_reducible refine Below.setCell ?_ (by first | omega | (dsimp only; omega)) _ | with_reducible refine bstep ?_ (by with_reducible assumption)))) HN2.out (HU.out.call (by repeat (first | with_reducible assumption | with_reducible exact Below.refl _ _ | with_reducible refine Below.drew ?_ | with_reducible refine Below.alloc ?_ (by first | omega | (simp <;> omega)) _ | with_reducible refine Below.setCell ?_ (by first | omega | (dsimp only; omega)) _ | with_reducible refine bstep ?_ (by with_reducible assumption))))).mono ?_; rintro e w3mv hh; unfold PAnK at hh; obtain ⟨pf4, pa4, pb4, pc4, m4, G4, c4, v4, hr4, rfl, rq4, hb3mv⟩ := hh; obtain ⟨ao4, cap4, rfl⟩ := rq4.slice; (try ((refine useIt (P := BX w3.heap.size [.int .i64 0, .int .i64 0, .int .i64 0, .int .i64 0, .slice none 0 0] w3mv) ?_ ?_); (repeat (first | with_reducible assumption | (with_reducible exact BX.at _ (by first | with_reducible rfl | (simp; done))) | (with_reducible exact Bx.at _ (by first | with_reducible rfl | (simp; done))) | with_reducible refine Bx.drew ?_ | with_reducible refine Bx.alloc ?_ _ | with_reducible refine Bx.call ?_ (by with_reducible assumption) | with_reducible refine BX.drew ?_ | with_reducible refine BX.alloc ?_ _ | with_reducible refine BX.call ?_ (by with_reducible assumption) | with_reducible refine Bx.far (by first | omega | (dsimp only; omega)) ?_ | with_reducible refine Bx.st5 ?_)); intro d3mv_3; have d3mv_3c0 := d3mv_3.c0; have d3mv_3c1 := d3mv_3.c1; have d3mv_3c2 := d3mv_3.c2; have d3mv_3c3 := d3mv_3.c3; have d3mv_3c4 := d3mv_3.c4; have d3mv_3f0 := d3mv_3.f0; have d3mv_3f1 := d3mv_3.f1; have d3mv_3f2 := d3mv_3.f2; have d3mv_3f3 := d3mv_3.f3; have d3mv_3f4 := d3mv_3.f4; have d3mv_3l := d3mv_3.lt)); (try ((refine useIt (P := BX w3lt.heap.size [.int .i64 0, .int .i64 0, .int .i64 0, .int .i64 0, .slice none 0 0] w3mv) ?_ ?_); (repeat (first | with_reducible assumption | (with_reducible exact BX.at _ (by first | with_reducible rfl | (simp; done))) | (with_reducible exact Bx.at _ (by first | with_reducible rfl | (simp; done))) | with_reducible refine Bx.drew ?_ | with_reducible refine Bx.alloc ?_ _ | with_reducible refine Bx.call ?_ (by with_reducible assumption) | with_reducible refine BX.drew ?_ | with_reducible refine BX.alloc ?_ _ | with_reducible refine BX.call ?_ (by with_reducible assumption) | with_reducible refine Bx.far (by first | omega | (dsimp only; omega)) ?_ | with_reducible refine Bx.st5 ?_)); intro d3mv_3lt; have d3mv_3ltc0 := d3mv_3lt.c0; have d3mv_3ltc1 := d3mv_3lt.c1; have d3mv_3ltc2 := d3mv_3lt.c2; have d3mv_3ltc3 := d3mv_3lt.c3; have d3mv_3ltc4 := d3mv_3lt.c4; have d3mv_3ltf0 := d3mv_3lt.f0; have d3mv_3ltf1 := d3mv_3lt.f1; have d3mv_3ltf2 := d3mv_3lt.f2; have d3mv_3ltf3 := d3mv_3lt.f3; have d3mv_3ltf4 := d3mv_3lt.f4; have d3mv_3ltl := d3mv_3lt.lt)); (try ((refine useIt (P := BX w3ve.heap.size [.int .i64 0, .int .i64 0, .int .i64 0, .int .i64 0, .slice none 0 0] w3mv) ?_ ?_); (repeat (first | with_reducible assumption | (with_reducible exact BX.at _ (by first | with_reducible rfl | (simp; done))) | (with_reducible exact Bx.at _ (by first | with_reducible rfl | (simp; done))) | with_reducible refine Bx.drew ?_ | with_reducible refine Bx.alloc ?_ _ | with_reducible refine Bx.call ?_ (by with_reducible assumption) | with_reducible refine BX.drew ?_ | with_reducible refine BX.alloc ?_ _ | with_reducible refine BX.call ?_ (by with_reducible assumption) | with_reducible refine Bx.far (by first | omega | (dsimp only; omega)) ?_ | with_reducible refine Bx.st5 ?_)); intro d3mv_3ve; have d3mv_3vec0 := d3mv_3ve.c0; have d3mv_3vec1 := d3mv_3ve.c1; have d3mv_3vec2 := d3mv_3ve.c2; have d3mv_3vec3 := d3mv_3ve.c3; have d3mv_3vec4 := d3mv_3ve.c4; have d3mv_3vef0 := d3mv_3ve.f0; have d3mv_3vef1 := d3mv_3ve.f1; have d3mv_3vef2 := d3mv_3ve.f2; have d3mv_3vef3 := d3mv_3ve.f3; have d3mv_3vef4 := d3mv_3ve.f4; have d3mv_3vel := d3mv_3ve.lt)); have c3mv : Below w3.heap.size w3 w3mv := (by repeat (first | with_reducible assumption | with_reducible exact Below.refl _ _ | with_reducible refine Below.drew ?_ | with_reducible refine Below.alloc ?_ (by first | omega | (simp <;> omega)) _ | with_reducible refine Below.setCell ?_ (by first | omega | (dsimp only; omega)) _ | with_reducible refine bstep ?_ (by with_reducible assumption))); have y3mv := c3mv.size; have l3mv := Bx.call k9 c3mv; have ll3mv := l3mv.lt; have n3mv := Bx.call k8 c3mv; have nl3mv := n3mv.lt; have rr4 : SRow w3.heap.size w3mv.heap.size 1 (.slice ao4 m4 cap4) m4 G4 w3mv := SRow.low rq4 (by first | omega | (simp <;> omega))))
    all_goals
     go_wp2_with fail
     go_meet
     exact ⟨_, _, _, _, _, _, _, _, _, _, hr4, rfl, rfl, (by repeat (first | with_reducible assumption | (with_reducible exact BX.at _ (by first | with_reducible rfl | (simp; done))) | (with_reducible exact Bx.at _ (by first | with_reducible rfl | (simp; done))) | with_reducible refine Bx.drew ?_ | with_reducible refine Bx.alloc ?_ _ | with_reducible refine Bx.call ?_ (by with_reducible assumption) | with_reducible refine BX.drew ?_ | with_reducible refine BX.alloc ?_ _ | with_reducible refine BX.call ?_ (by with_reducible assumption) | with_reducible refine Bx.far (by first | omega | (dsimp only; omega)) ?_ | with_reducible refine Bx.st5 ?_)), (by refine SRow.up (hi := w3mv.heap.size) ?_; repeat (first | with_reducible exact rr4 | with_reducible refine SRow.alloc9 ?_ _ | with_reducible refine SRow.drew9 ?_ | (with_reducible refine SRow.putO9 (rq4.off (by dsimp only; first | omega | exact Or.inl (lt_al9 _ _) | (have := d3mv_3.lt; first | omega | (simp <;> omega)) | (have := d3mv_3lt.lt; first | omega | (simp <;> omega)) | (have := d3mv_3ve.lt; first | omega | (simp <;> omega)) | (have := d3ve_3.lt; first | omega | (simp <;> omega)) | (have := d3ve_3lt.lt; first | omega | (simp <;> omega)) | (have := d3lt_3.lt; first | omega | (simp <;> omega)) | (have := d3lt_3ve.lt; first | omega | (simp <;> omega)))) _ ?_))), (by first | omega | (simp <;> omega)), rq4.off (by first | omega | exact Or.inl (lt_al9 _ _) | (simp <;> omega) | (have := d3mv_3.lt; first | omega | (simp <;> omega)) | (have := d3mv_3lt.lt; first | omega | (simp <;> omega)) | (have := d3mv_3ve.lt; first | omega | (simp <;> omega)) | (have := d3ve_3.lt; first | omega | (simp <;> omega)) | (have := d3ve_3lt.lt; first | omega | (simp <;> omega)) | (have := d3lt_3.lt; first | omega | (simp <;> omega)) | (have := d3lt_3ve.lt; first | omega | (simp <;> omega))), (by repeat (first | with_reducible assumption | with_reducible exact Below.refl _ _ | with_reducible refine Below.drew ?_ | with_reducible refine Below.alloc ?_ (by first | omega | (simp <;> omega)) _ | with_reducible refine Below.setCell ?_ (by first | omega | (dsimp only; omega)) _ | with_reducible refine bstep ?_ (by with_reducible assumption)))⟩
   case rest =>
    obtain ⟨bx4, pf4, pa4, pb4, pc4, m4, G4, c4, ao4, cap4, hr4, rfl, rfl, KD4, rq4, hl4, ho4, hb4⟩ := hcut
    obtain ⟨w4, hw4⟩ : ∃ z, z = wc := ⟨_, rfl⟩
    subst hw4
    obtain ⟨rfl, rfl, rfl, rfl, rfl, rfl, rfl⟩ : pf2 = pf4 ∧ pa2 = pa4 ∧ pb2 = pb4 ∧ pc2 = pc4 ∧ m2 = m4 ∧ G2 = G4 ∧ c2 = c4 := by have h9 := HP.out.symm.trans hr4; simpa using h9
    clear hr4
    have K4 : Bx (w.heap.size) [.int .i64 A, .int .i64 B, .int .i64 C] w4 := Bx.call K3 hb4
    have L4 : Bx (w.heap.size + 1) [.int .i64 x, .int .i64 y] w4 := Bx.call L3 hb4
    have Y4 : Bx (bx2) [.int .i64 pf2, .int .i64 pa2, .int .i64 pb2, .int .i64 pc2, .slice ao2 m2 cap2] w4 := Bx.call Y3 hb4
    have B4 : Below w.heap.size w w4 := bstep B3 hb4
    have z4 : w3.heap.size ≤ w4.heap.size := hb4.size
    have y4 := Lib.hid (SRow.call y3.out hb4)
    have x4 := Lib.hid (SRow.call x3.out hb4)
    clear K3 L3 Y3 B3 y3 x3 K3c0 K3c1 K3c2 K3l L3c0 L3c1 L3l hb4
    have g4 := Lib.hid rq4
    clear rq4
    have G4 := KD4
    have bl4 := KD4.lt
    clear KD4
    have HO4 := Lib.hid ho4
    clear ho4
    have G4c0 := G4.c0
    have G4c1 := G4.c1
    have G4c2 := G4.c2
    have G4c3 := G4.c3
    have G4c4 := G4.c4
    have G4l := G4.lt
    have Y4c0 := Y4.c0
    have Y4c1 := Y4.c1
    have Y4c2 := Y4.c2
    have Y4c3 := Y4.c3
    have Y4c4 := Y4.c4
    have Y4l := Y4.lt
    go_wp2_with fail
    with_reducible refine (eqPat_any pf2 pa2 pb2 pc2 g4.out y4.out).mono ?_
    rintro e w5 ⟨rfl, hb5⟩
    have K5 : Bx (w.heap.size) [.int .i64 A, .int .i64 B, .int .i64 C] w5 := Bx.call K4 hb5
    have L5 : Bx (w.heap.size + 1) [.int .i64 x, .int .i64 y] w5 := Bx.call L4 hb5
    have Y5 : Bx (bx2) [.int .i64 pf2, .int .i64 pa2, .int .i64 pb2, .int .i64 pc2, .slice ao2 m2 cap2] w5 := Bx.call Y4 hb5
    have G5 : Bx (bx4) [.int .i64 pf2, .int .i64 pa2, .int .i64 pb2, .int .i64 pc2, .slice ao4 m2 cap4] w5 := Bx.call G4 hb5
    have B5 : Below w.heap.size w w5 := bstep B4 hb5
    have z5 : w4.heap.size ≤ w5.heap.size := hb5.size
    have y5 := Lib.hid (SRow.call y4.out hb5)
    have x5 := Lib.hid (SRow.call x4.out hb5)
    have g5 := Lib.hid (SRow.call g4.out hb5)
    clear K4 L4 Y4 G4 B4 y4 x4 g4 G4c0 G4c1 G4c2 G4c3 G4c4 G4l Y4c0 Y4c1 Y4c2 Y4c3 Y4c4 Y4l hb5
    go_wp2_with fail
    with_reducible refine (toMotionS_any (HA2.out.grow (w2 := w5) B5) HN2.out).mono ?_
    rintro e w6 ⟨v6, rfl, r6, hb6⟩
    have K6 : Bx (w.heap.size) [.int .i64 A, .int .i64 B, .int .i64 C] w6 := Bx.call K5 hb6
    have L6 : Bx (w.heap.size + 1) [.int .i64 x, .int .i64 y] w6 := Bx.call L5 hb6
    have Y6 : Bx (bx2) [.int .i64 pf2, .int .i64 pa2, .int .i64 pb2, .int .i64 pc2, .slice ao2 m2 cap2] w6 := Bx.call Y5 hb6
    have G6 : Bx (bx4) [.int .i64 pf2, .int .i64 pa2, .int .i64 pb2, .int .i64 pc2, .slice ao4 m2 cap4] w6 := Bx.call G5 hb6
    have B6 : Below w.heap.size w w6 := bstep B5 hb6
    have z6 : w5.heap.size ≤ w6.heap.size := hb6.size
    have y6 := Lib.hid (SRow.call y5.out hb6)
    have x6 := Lib.hid (SRow.call x5.out hb6)
    have g6 := Lib.hid (SRow.call g5.out hb6)
    clear K5 L5 Y5 G5 B5 y5 x5 g5 hb6
    obtain ⟨ao6, cap6, rfl⟩ := r6.slice
    have q6 := Lib.hid r6
    clear r6
    go_wp2_with fail
    with_reducible refine (eqMotionS_any x6.out q6.out).mono ?_
    rintro e w7 ⟨rfl, hb7⟩
    have K7 : Bx (w.heap.size) [.int .i64 A, .int .i64 B, .int .i64 C] w7 := Bx.call K6 hb7
    have L7 : Bx (w.heap.size + 1) [.int .i64 x, .int .i64 y] w7 := Bx.call L6 hb7
    have Y7 : Bx (bx2) [.int .i64 pf2, .int .i64 pa2, .int .i64 pb2, .int .i64 pc2, .slice ao2 m2 cap2] w7 := Bx.call Y6 hb7
    have G7 : Bx (bx4) [.int .i64 pf2, .int .i64 pa2, .int .i64 pb2, .int .i64 pc2, .slice ao4 m2 cap4] w7 := Bx.call G6 hb7
    have B7 : Below w.heap.size w w7 := bstep B6 hb7
    have z7 : w6.heap.size ≤ w7.heap.size := hb7.size
    have y7 := Lib.hid (SRow.call y6.out hb7)
    have x7 := Lib.hid (SRow.call x6.out hb7)
    have g7 := Lib.hid (SRow.call g6.out hb7)
    have q7 := Lib.hid (SRow.call q6.out hb7)
    clear K6 L6 Y6 G6 B6 y6 x6 g6 q6 hb7
    clear q7
    have hn6 : (xs.length : Int) ≤ 1048576 := by have := HN2.out; omega
    have hk7 : ¬ ((xs.length : Int) * 6 + 1 < 0) := by omega
    go_wp2_with fail
    with_reducible refine (markMotionS_off 1 (by omega) (by omega) x7.out).mono ?_
    rintro e w8 ⟨rfl, rm8, hb8, hk8⟩
    have z8 : w7.heap.size ≤ w8.heap.size := hb8.size
    have K8 : Bx (w.heap.size) [.int .i64 A, .int .i64 B, .int .i64 C] w8 := K7.grow hb8 (by omega)
    have L8 : Bx (w.heap.size + 1) [.int .i64 x, .int .i64 y] w8 := L7.grow hb8 (by omega)
    have Y8 : Bx (bx2) [.int .i64 pf2, .int .i64 pa2, .int .i64 pb2, .int .i64 pc2, .slice ao2 m2 cap2] w8 := Y7.grow hb8 (by omega)
    have G8 : Bx (bx4) [.int .i64 pf2, .int .i64 pa2, .int .i64 pb2, .int .i64 pc2, .slice ao4 m2 cap4] w8 := Bx.sameK G7 z8 (hk8 _ (by omega))
    have B8 : Below w.heap.size w w8 := B7.trans (hb8.mono (by omega))
    have y8 := Lib.hid (SRow.grow y7.out hb8 (by omega))
    have g8 := Lib.hid (SRow.keepHi g7.out hk8 (by omega) hb8.size)
    have x8 := Lib.hid rm8
    clear rm8 hb8 hk8 K7 L7 Y7 G7 B7 y7 x7 g7
    clear x8
    have G8c0 := G8.c0
    have G8c1 := G8.c1
    have G8c2 := G8.c2
    have G8c3 := G8.c3
    have G8c4 := G8.c4
    have G8l := G8.lt
    have Y8c0 := Y8.c0
    have Y8c1 := Y8.c1
    have Y8c2 := Y8.c2
    have Y8c3 := Y8.c3
    have Y8c4 := Y8.c4
    have Y8l := Y8.lt
    go_wp2_with fail
    with_reducible refine (eqPat_any pf2 pa2 pb2 pc2 g8.out y8.out).mono ?_
    rintro e w9 ⟨rfl, hb9⟩
    have K9 : Bx (w.heap.size) [.int .i64 A, .int .i64 B, .int .i64 C] w9 := Bx.call K8 hb9
    have L9 : Bx (w.heap.size + 1) [.int .i64 x, .int .i64 y] w9 := Bx.call L8 hb9
    have Y9 : Bx (bx2) [.int .i64 pf2, .int .i64 pa2, .int .i64 pb2, .int .i64 pc2, .slice ao2 m2 cap2] w9 := Bx.call Y8 hb9
    have G9 : Bx (bx4) [.int .i64 pf2, .int .i64 pa2, .int .i64 pb2, .int .i64 pc2, .slice ao4 m2 cap4] w9 := Bx.call G8 hb9
    have B9 : Below w.heap.size w w9 := bstep B8 hb9
    have z9 : w8.heap.size ≤ w9.heap.size := hb9.size
    have y9 := Lib.hid (SRow.call y8.out hb9)
    have g9 := Lib.hid (SRow.call g8.out hb9)
    clear K8 L8 Y8 G8 B8 y8 g8 G8c0 G8c1 G8c2 G8c3 G8c4 G8l Y8c0 Y8c1 Y8c2 Y8c3 Y8c4 Y8l hb9
    have G9c0 := G9.c0
    have G9c1 := G9.c1
    have G9c2 := G9.c2
    have G9c3 := G9.c3
    have G9c4 := G9.c4
    have G9l := G9.lt
    go_wp2_with fail
    with_reducible refine (markPat_any pf2 pa2 pb2 pc2 g9.out (by omega)).mono ?_
    rintro e w10 ⟨rfl, rm10, hb10, hk10⟩
    have z10 : w9.heap.size ≤ w10.heap.size := hb10.size
    have K10 : Bx (w.heap.size) [.int .i64 A, .int .i64 B, .int .i64 C] w10 := Bx.keepV K9 hk10 (SRow.off g9.out (by omega)) z10
    have L10 : Bx (w.heap.size + 1) [.int .i64 x, .int .i64 y] w10 := Bx.keepV L9 hk10 (SRow.off g9.out (by omega)) z10
    have Y10 : Bx (bx2) [.int .i64 pf2, .int .i64 pa2, .int .i64 pb2, .int .i64 pc2, .slice ao2 m2 cap2] w10 := Bx.keepV Y9 hk10 (SRow.off g9.out (by omega)) z10
    have G10 : Bx (bx4) [.int .i64 pf2, .int .i64 pa2, .int .i64 pb2, .int .i64 pc2, .slice ao4 m2 cap4] w10 := Bx.keepV G9 hk10 HO4.out z10
    have B10 : Below w.heap.size w w10 := B9.trans (hb10.mono (by omega))
    have y10 := Lib.hid (SRow.keepV y9.out hk10 (fun b9 h8 h9 => SRow.off g9.out (by omega)) z10)
    have g10 := Lib.hid rm10
    clear rm10 hb10 hk10 K9 L9 Y9 G9 B9 y9 g9 G9c0 G9c1 G9c2 G9c3 G9c4 G9l
    have hk8 : ¬ ((m2 : Int) * 1 + 1 < 0) := by have := g10.out.2.1; omega
    have hq8 : (((m2 : Int) * 1 + 1) != (m2 : Int) * 1 + 1) = false := by simp
    have hm8 : (m2 : Int) ≤ 2000000 := by have := g10.out.2.1; omega
    have G10c0 := G10.c0
    have G10c1 := G10.c1
    have G10c2 := G10.c2
    have G10c3 := G10.c3
    have G10c4 := G10.c4
    have G10l := G10.lt
    go_wp2_with fail
    with_reducible refine (heldPat_any pf2 pa2 pb2 pc2 g10.out).mono ?_
    rintro e w11 ⟨rfl, hb11⟩
    have K11 : Bx (w.heap.size) [.int .i64 A, .int .i64 B, .int .i64 C] w11 := Bx.call K10 hb11
    have L11 : Bx (w.heap.size + 1) [.int .i64 x, .int .i64 y] w11 := Bx.call L10 hb11
    have Y11 : Bx (bx2) [.int .i64 pf2, .int .i64 pa2, .int .i64 pb2, .int .i64 pc2, .slice ao2 m2 cap2] w11 := Bx.call Y10 hb11
    have G11 : Bx (bx4) [.int .i64 pf2, .int .i64 pa2, .int .i64 pb2, .int .i64 pc2, .slice ao4 m2 cap4] w11 := Bx.call G10 hb11
    have B11 : Below w.heap.size w w11 := bstep B10 hb11
    have z11 : w10.heap.size ≤ w11.heap.size := hb11.size
    have y11 := Lib.hid (SRow.call y10.out hb11)
    have g11 := Lib.hid (SRow.call g10.out hb11)
    clear K10 L10 Y10 G10 B10 y10 g10 G10c0 G10c1 G10c2 G10c3 G10c4 G10l hb11
    have K11c0 := K11.c0
    have K11c1 := K11.c1
    have K11c2 := K11.c2
    have K11l := K11.lt
    have L11c0 := L11.c0
    have L11c1 := L11.c1
    have L11l := L11.lt
    go_upto_region 1 with fail
    go_cut [18, 19] (fun s6 s7 wx => McK (seR f A B C xs x y) w11 s6 s7 wx)
    case first =>
     have k9 : Bx (w.heap.size) [.int .i64 A, .int .i64 B, .int .i64 C] w11 := K11
     have k8 : Bx (w.heap.size + 1) [.int .i64 x, .int .i64 y] w11 := L11
     go_region_held3 (fun W9 => (W9.cell? ⟨w.heap.size, 0, none⟩ = some (.int .i64 A) ∧ W9.cell? ⟨w.heap.size, 1, none⟩ = some (.int .i64 B) ∧ W9.cell? ⟨w.heap.size, 2, none⟩ = some (.int .i64 C)) ∧ (W9.cell? ⟨w.heap.size + 1, 0, none⟩ = some (.int .i64 x) ∧ W9.cell? ⟨w.heap.size + 1, 1, none⟩ = some (.int .i64 y))) ((refine And.intro (Bx.cells3 ?_) (Bx.cells2 ?_)) <;> (repeat (first | with_reducible assumption | (with_reducible exact BX.at _ (by first | with_reducible rfl | (simp; done))) | (with_reducible exact Bx.at _ (by first | with_reducible rfl | (simp; done))) | with_reducible refine Bx.drew ?_ | with_reducible refine Bx.alloc ?_ _ | with_reducible refine Bx.call ?_ (by with_reducible assumption) | with_reducible refine BX.drew ?_ | with_reducible refine BX.alloc ?_ _ | with_reducible refine BX.call ?_ (by with_reducible assumption) | with_reducible refine Bx.far (by first | omega | (dsimp only; omega)) ?_ | with_reducible refine Bx.st5 ?_)))
      (first
       | (go_at_call 26; with_reducible refine (toLat_any _ _ _ _).mono ?_; rintro e w11lt ⟨rfl, hb11lt⟩; (try ((refine useIt (P := BX w11.heap.size [.int .i64 0, .int .i64 0, .int .i64 0, .int .i64 0, .slice none 0 0] w11lt) ?_ ?_); (repeat (first | with_reducible assumption | (with_reducible exact BX.at _ (by first | with_reducible rfl | (simp; done))) | (with_reducible exact Bx.at _ (by first | with_reducible rfl | (simp; done))) | with_reducible refine Bx.drew ?_ | with_reducible refine Bx.alloc ?_ _ | with_reducible refine Bx.call ?_ (by with_reducible assumption) | with_reducible refine BX.drew ?_ | with_reducible refine BX.alloc ?_ _ | with_reducible refine BX.call ?_ (by with_reducible assumption) | with_reducible refine Bx.far (by first | omega | (dsimp only; omega)) ?_ | with_reducible refine Bx.st5 ?_)); intro d11lt_11; have d11lt_11c0 := d11lt_11.c0; have d11lt_11c1 := d11lt_11.c1; have d11lt_11c2 := d11lt_11.c2; have d11lt_11c3 := d11lt_11.c3; have d11lt_11c4 := d11lt_11.c4; have d11lt_11f0 := d11lt_11.f0; have d11lt_11f1 := d11lt_11.f1; have d11lt_11f2 := d11lt_11.f2; have d11lt_11f3 := d11lt_11.f3; have d11lt_11f4 := d11lt_11.f4; have d11lt_11l := d11lt_11.lt)); have c11lt : Below w11.heap.size w11 w11lt := (by repeat (first | with_reducible assumption | with_reducible exact Below.refl _ _ | with_reducible refine Below.drew ?_ | with_reducible refine Below.alloc ?_ (by first | omega | (simp <;> omega)) _ | with_reducible refine Below.setCell ?_ (by first | omega | (dsimp only; omega)) _ | with_reducible refine bstep ?_ (by with_reducible assumption))); have y11lt := c11lt.size; have l11lt := Bx.call k9 c11lt; have ll11lt := l11lt.lt; have n11lt := Bx.call k8 c11lt; have nl11lt := n11lt.lt)
       | (go_at_call 14; with_reducible refine (toMotionS_any (HA2.out.call (by repeat (first | with_reducible assumption | with_reducible exact Below.refl _ _ | with_reducible refine Below.drew ?_ | with_reducible refine Below.alloc ?_ (by first | omega | (simp <;> omega)) _ | with_reducible refine Below.setCell ?_ (by first | omega | (dsimp only; omega)) _ | with_reducible refine bstep ?_ (by with_reducible assumption)))) HN2.out).mono ?_; rintro e w11mo ⟨v11mo, rfl, r11mo, hb11mo⟩; obtain ⟨ao11mo, cap11mo, rfl⟩ := r11mo.slice; (try ((refine useIt (P := BX w11.heap.size [.int .i64 0, .int .i64 0, .int .i64 0, .int .i64 0, .slice none 0 0] w11mo) ?_ ?_); (repeat (first | with_reducible assumption | (with_reducible exact BX.at _ (by first | with_reducible rfl | (simp; done))) | (with_reducible exact Bx.at _ (by first | with_reducible rfl | (simp; done))) | with_reducible refine Bx.drew ?_ | with_reducible refine Bx.alloc ?_ _ | with_reducible refine Bx.call ?_ (by with_reducible assumption) | with_reducible refine BX.drew ?_ | with_reducible refine BX.alloc ?_ _ | with_reducible refine BX.call ?_ (by with_reducible assumption) | with_reducible refine Bx.far (by first | omega | (dsimp only; omega)) ?_ | with_reducible refine Bx.st5 ?_)); intro d11mo_11; have d11mo_11c0 := d11mo_11.c0; have d11mo_11c1 := d11mo_11.c1; have d11mo_11c2 := d11mo_11.c2; have d11mo_11c3 := d11mo_11.c3; have d11mo_11c4 := d11mo_11.c4; have d11mo_11f0 := d11mo_11.f0; have d11mo_11f1 := d11mo_11.f1; have d11mo_11f2 := d11mo_11.f2; have d11mo_11f3 := d11mo_11.f3; have d11mo_11f4 := d11mo_11.f4; have d11mo_11l := d11mo_11.lt)); (try ((refine useIt (P := BX w11lt.heap.size [.int .i64 0, .int .i64 0, .int .i64 0, .int .i64 0, .slice none 0 0] w11mo) ?_ ?_); (repeat (first | with_reducible assumption | (with_reducible exact BX.at _ (by first | with_reducible rfl | (simp; done))) | (with_reducible exact Bx.at _ (by first | with_reducible rfl | (simp; done))) | with_reducible refine Bx.drew ?_ | with_reducible refine Bx.alloc ?_ _ | with_reducible refine Bx.call ?_ (by with_reducible assumption) | with_reducible refine BX.drew ?_ | with_reducible refine BX.alloc ?_ _ | with_reducible refine BX.call ?_ (by with_reducible assumption) | with_reducible refine Bx.far (by first | omega | (dsimp only; omega)) ?_ | with_reducible refine Bx.st5 ?_)); intro d11mo_11lt; have d11mo_11ltc0 := d11mo_11lt.c0; have d11mo_11ltc1 := d11mo_11lt.c1; have d11mo_11ltc2 := d11mo_11lt.c2; have d11mo_11ltc3 := d11mo_11lt.c3; have d11mo_11ltc4 := d11mo_11lt.c4; have d11mo_11ltf0 := d11mo_11lt.f0; have d11mo_11ltf1 := d11mo_11lt.f1; have d11mo_11ltf2 := d11mo_11lt.f2; have d11mo_11ltf3 := d11mo_11lt.f3; have d11mo_11ltf4 := d11mo_11lt.f4; have d11mo_11ltl := d11mo_11lt.lt)); have c11mo : Below w11.heap.size w11 w11mo := (by repeat (first | with_reducible assumption | with_reducible exact Below.refl _ _ | with_reducible refine Below.drew ?_ | with_reducible refine Below.alloc ?_ (by first | omega | (simp <;> omega)) _ | with_reducible refine Below.setCell ?_ (by first | omega | (dsimp only; omega)) _ | with_reducible refine bstep ?_ (by with_reducible assumption))); have y11mo := c11mo.size; have l11mo := Bx.call k9 c11mo; have ll11mo := l11mo.lt; have n11mo := Bx.call k8 c11mo; have nl11mo := n11mo.lt)
       | (go_at_call 31; with_reducible refine (toVec_any _ _ _).mono ?_; rintro e w11ve ⟨rfl, hb11ve⟩; (try ((refine useIt (P := BX w11.heap.size [.int .i64 0, .int .i64 0, .int .i64 0, .int .i64 0, .slice none 0 0] w11ve) ?_ ?_); (repeat (first | with_reducible assumption | (with_reducible exact BX.at _ (by first | with_reducible rfl | (simp; done))) | (with_reducible exact Bx.at _ (by first | with_reducible rfl | (simp; done))) | with_reducible refine Bx.drew ?_ | with_reducible refine Bx.alloc ?_ _ | with_reducible refine Bx.call ?_ (by with_reducible assumption) | with_reducible refine BX.drew ?_ | with_reducible refine BX.alloc ?_ _ | with_reducible refine BX.call ?_ (by with_reducible assumption) | with_reducible refine Bx.far (by first | omega | (dsimp only; omega)) ?_ | with_reducible refine Bx.st5 ?_)); intro d11ve_11; have d11ve_11c0 := d11ve_11.c0; have d11ve_11c1 := d11ve_11.c1; have d11ve_11c2 := d11ve_11.c2; have d11ve_11c3 := d11ve_11.c3; have d11ve_11c4 := d11ve_11.c4; have d11ve_11f0 := d11ve_11.f0; have d11ve_11f1 := d11ve_11.f1; have d11ve_11f2 := d11ve_11.f2; have d11ve_11f3 := d11ve_11.f3; have d11ve_11f4 := d11ve_11.f4; have d11ve_11l := d11ve_11.lt)); (try ((refine useIt (P := BX w11lt.heap.size [.int .i64 0, .int .i64 0, .int .i64 0, .int .i64 0, .slice none 0 0] w11ve) ?_ ?_); (repeat (first | with_reducible assumption | (with_reducible exact BX.at _ (by first | with_reducible rfl | (simp; done))) | (with_reducible exact Bx.at _ (by first | with_reducible rfl | (simp; done))) | with_reducible refine Bx.drew ?_ | with_reducible refine Bx.alloc ?_ _ | with_reducible refine Bx.call ?_ (by with_reducible assumption) | with_reducible refine BX.drew ?_ | with_reducible refine BX.alloc ?_ _ | with_reducible refine BX.call ?_ (by with_reducible assumption) | with_reducible refine Bx.far (by first | omega | (dsimp only; omega)) ?_ | with_reducible refine Bx.st5 ?_)); intro d11ve_11lt; have d11ve_11ltc0 := d11ve_11lt.c0; have d11ve_11ltc1 := d11ve_11lt.c1; have d11ve_11ltc2 := d11ve_11lt.c2; have d11ve_11ltc3 := d11ve_11lt.c3; have d11ve_11ltc4 := d11ve_11lt.c4; have d11ve_11ltf0 := d11ve_11lt.f0; have d11ve_11ltf1 := d11ve_11lt.f1; have d11ve_11ltf2 := d11ve_11lt.f2; have d11ve_11ltf3 := d11ve_11lt.f3; have d11ve_11ltf4 := d11ve_11lt.f4; have d11ve_11ltl := d11ve_11lt.lt)); (try ((refine useIt (P := BX w11mo.heap.size [.int .i64 0, .int .i64 0, .int .i64 0, .int .i64 0, .slice none 0 0] w11ve) ?_ ?_); (repeat (first | with_reducible assumption | (with_reducible exact BX.at _ (by first | with_reducible rfl | (simp; done))) | (with_reducible exact Bx.at _ (by first | with_reducible rfl | (simp; done))) | with_reducible refine Bx.drew ?_ | with_reducible refine Bx.alloc ?_ _ | with_reducible refine Bx.call ?_ (by with_reducible assumption) | with_reducible refine BX.drew ?_ | with_reducible refine BX.alloc ?_ _ | with_reducible refine BX.call ?_ (by with_reducible assumption) | with_reducible refine Bx.far (by first | omega | (dsimp only; omega)) ?_ | with_reducible refine Bx.st5 ?_)); intro d11ve_11mo; have d11ve_11moc0 := d11ve_11mo.c0; have d11ve_11moc1 := d11ve_11mo.c1; have d11ve_11moc2 := d11ve_11mo.c2; have d11ve_11moc3 := d11ve_11mo.c3; have d11ve_11moc4 := d11ve_11mo.c4; have d11ve_11mof0 := d11ve_11mo.f0; have d11ve_11mof1 := d11ve_11mo.f1; have d11ve_11mof2 := d11ve_11mo.f2; have d11ve_11mof3 := d11ve_11mo.f3; have d11ve_11mof4 := d11ve_11mo.f4; have d11ve_11mol := d11ve_11mo.lt)); (try ((refine useIt (P := Below w11mo.heap.size w11mo w11ve) ?_ ?_); (with_reducible exact bstep (by repeat (first | with_reducible assumption | with_reducible exact Below.refl _ _ | with_reducible refine Below.drew ?_ | with_reducible refine Below.alloc ?_ (by first | omega | (simp <;> omega)) _ | with_reducible refine Below.setCell ?_ (by first | omega | (dsimp only; omega)) _ | with_reducible refine bstep ?_ (by with_reducible assumption))) hb11ve); intro e11ve; have ye11ve := e11ve.size)); have c11ve : Below w11.heap.size w11 w11ve := (by repeat (first | with_reducible assumption | with_reducible exact Below.refl _ _ | with_reducible refine Below.drew ?_ | with_reducible refine Below.alloc ?_ (by first | omega | (simp <;> omega)) _ | with_reducible refine Below.setCell ?_ (by first | omega | (dsimp only; omega)) _ | with_reducible refine bstep ?_ (by with_reducible assumption))); have y11ve := c11ve.size; have l11ve := Bx.call k9 c11ve; have ll11ve := l11ve.lt; have n11ve := Bx.call k8 c11ve; have nl11ve := n11ve.lt)
       | (go_at_call 32; with_reducible refine (implSe_any f A B C x y (SRow.call r11mo (by repeat (first | with_reducible assumption | with_reducible exact Below.refl _ _ | with_reducible refine Below.drew ?_ | with_reducible refine Below.alloc ?_ (by first | omega | (simp <;> omega)) _ | with_reducible refine Below.setCell ?_ (by first | omega | (dsimp only; omega)) _ | with_reducible refine bstep ?_ (by with_reducible assumption)))) HN2.out (HU.out.call (by repeat (first | with_reducible assumption | with_reducible exact Below.refl _ _ | with_reducible refine Below.drew ?_ | with_reducible refine Below.alloc ?_ (by first | omega | (simp <;> omega)) _ | with_reducible refine Below.setCell ?_ (by first | omega | (dsimp only; omega)) _ | with_reducible refine bstep ?_ (by with_reducible assumption))))).mono ?_; rintro e w11mv hh; unfold PAnK at hh; obtain ⟨pf12, pa12, pb12, pc12, m12, G12, c12, v12, hr12, rfl, rq12, hb11mv⟩ := hh; obtain ⟨ao12, cap12, rfl⟩ := rq12.slice; (try ((refine useIt (P := BX w11.heap.size [.int .i64 0, .int .i64 0, .int .i64 0, .int .i64 0, .slice none 0 0] w11mv) ?_ ?_); (repeat (first | with_reducible assumption | (with_reducible exact BX.at _ (by first | with_reducible rfl | (simp; done))) | (with_reducible exact Bx.at _ (by first | with_reducible rfl | (simp; done))) | with_reducible refine Bx.drew ?_ | with_reducible refine Bx.alloc ?_ _ | with_reducible refine Bx.call ?_ (by with_reducible assumption) | with_reducible refine BX.drew ?_ | with_reducible refine BX.alloc ?_ _ | with_reducible refine BX.call ?_ (by with_reducible assumption) | with_reducible refine Bx.far (by first | omega | (dsimp only; omega)) ?_ | with_reducible refine Bx.st5 ?_)); intro d11mv_11; have d11mv_11c0 := d11mv_11.c0; have d11mv_11c1 := d11mv_11.c1; have d11mv_11c2 := d11mv_11.c2; have d11mv_11c3 := d11mv_11.c3; have d11mv_11c4 := d11mv_11.c4; have d11mv_11f0 := d11mv_11.f0; have d11mv_11f1 := d11mv_11.f1; have d11mv_11f2 := d11mv_11.f2; have d11mv_11f3 := d11mv_11.f3; have d11mv_11f4 := d11mv_11.f4; have d11mv_11l := d11mv_11.lt)); (try ((refine useIt (P := BX w11lt.heap.size [.int .i64 0, .int .i64 0, .int .i64 0, .int .i64 0, .slice none 0 0] w11mv) ?_ ?_); (repeat (first | with_reducible assumption | (with_reducible exact BX.at _ (by first | with_reducible rfl | (simp; done))) | (with_reducible exact Bx.at _ (by first | with_reducible rfl | (simp; done))) | with_reducible refine Bx.drew ?_ | with_reducible refine Bx.alloc ?_ _ | with_reducible refine Bx.call ?_ (by with_reducible assumption) | with_reducible refine BX.drew ?_ | with_reducible refine BX.alloc ?_ _ | with_reducible refine BX.call ?_ (by with_reducible assumption) | with_reducible refine Bx.far (by first | omega | (dsimp only; omega)) ?_ | with_reducible refine Bx.st5 ?_)); intro d11mv_11lt; have d11mv_11ltc0 := d11mv_11lt.c0; have d11mv_11ltc1 := d11mv_11lt.c1; have d11mv_11ltc2 := d11mv_11lt.c2; have d11mv_11ltc3 := d11mv_11lt.c3; have d11mv_11ltc4 := d11mv_11lt.c4; have d11mv_11ltf0 := d11mv_11lt.f0; have d11mv_11ltf1 := d11mv_11lt.f1; have d11mv_11ltf2 := d11mv_11lt.f2; have d11mv_11ltf3 := d11mv_11lt.f3; have d11mv_11ltf4 := d11mv_11lt.f4; have d11mv_11ltl := d11mv_11lt.lt)); (try ((refine useIt (P := BX w11mo.heap.size [.int .i64 0, .int .i64 0, .int .i64 0, .int .i64 0, .slice none 0 0] w11mv) ?_ ?_); (repeat (first | with_reducible assumption | (with_reducible exact BX.at _ (by first | with_reducible rfl | (simp; done))) | (with_reducible exact Bx.at _ (by first | with_reducible rfl | (simp; done))) | with_reducible refine Bx.drew ?_ | with_reducible refine Bx.alloc ?_ _ | with_reducible refine Bx.call ?_ (by with_reducible assumption) | with_reducible refine BX.drew ?_ | with_reducible refine BX.alloc ?_ _ | with_reducible refine BX.call ?_ (by with_reducible assumption) | with_reducible refine Bx.far (by first | omega | (dsimp only; omega)) ?_ | with_reducible refine Bx.st5 ?_)); intro d11mv_11mo; have d11mv_11moc0 := d11mv_11mo.c0; have d11mv_11moc1 := d11mv_11mo.c1; have d11mv_11moc2 := d11mv_11mo.c2; have d11mv_11moc3 := d11mv_11mo.c3; have d11mv_11moc4 := d11mv_11mo.c4; have d11mv_11mof0 := d11mv_11mo.f0; have d11mv_11mof1 := d11mv_11mo.f1; have d11mv_11mof2 := d11mv_11mo.f2; have d11mv_11mof3 := d11mv_11mo.f3; have d11mv_11mof4 := d11mv_11mo.f4; have d11mv_11mol := d11mv_11mo.lt)); (try ((refine useIt (P := BX w11ve.heap.size [.int .i64 0, .int .i64 0, .int .i64 0, .int .i64 0, .slice none 0 0] w11mv) ?_ ?_); (repeat (first | with_reducible assumption | (with_reducible exact BX.at _ (by first | with_reducible rfl | (simp; done))) | (with_reducible exact Bx.at _ (by first | with_reducible rfl | (simp; done))) | with_reducible refine Bx.drew ?_ | with_reducible refine Bx.alloc ?_ _ | with_reducible refine Bx.call ?_ (by with_reducible assumption) | with_reducible refine BX.drew ?_ | with_reducible refine BX.alloc ?_ _ | with_reducible refine BX.call ?_ (by with_reducible assumption) | with_reducible refine Bx.far (by first | omega | (dsimp only; omega)) ?_ | with_reducible refine Bx.st5 ?_)); intro d11mv_11ve; have d11mv_11vec0 := d11mv_11ve.c0; have d11mv_11vec1 := d11mv_11ve.c1; have d11mv_11vec2 := d11mv_11ve.c2; have d11mv_11vec3 := d11mv_11ve.c3; have d11mv_11vec4 := d11mv_11ve.c4; have d11mv_11vef0 := d11mv_11ve.f0; have d11mv_11vef1 := d11mv_11ve.f1; have d11mv_11vef2 := d11mv_11ve.f2; have d11mv_11vef3 := d11mv_11ve.f3; have d11mv_11vef4 := d11mv_11ve.f4; have d11mv_11vel := d11mv_11ve.lt)); have c11mv : Below w11.heap.size w11 w11mv := (by repeat (first | with_reducible assumption | with_reducible exact Below.refl _ _ | with_reducible refine Below.drew ?_ | with_reducible refine Below.alloc ?_ (by first | omega | (simp <;> omega)) _ | with_reducible refine Below.setCell ?_ (by first | omega | (dsimp only; omega)) _ | with_reducible refine bstep ?_ (by with_reducible assumption))); have y11mv := c11mv.size; have l11mv := Bx.call k9 c11mv; have ll11mv := l11mv.lt; have n11mv := Bx.call k8 c11mv; have nl11mv := n11mv.lt; have rr12 : SRow w11.heap.size w11mv.heap.size 1 (.slice ao12 m12 cap12) m12 G12 w11mv := SRow.low rq12 (by first | omega | (simp <;> omega))))
     all_goals
      go_wp2_with fail
      go_meet
      exact ⟨_, _, _, _, _, _, _, _, _, _, hr12, rfl, rfl, (by repeat (first | with_reducible assumption | (with_reducible exact BX.at _ (by first | with_reducible rfl | (simp; done))) | (with_reducible exact Bx.at _ (by first | with_reducible rfl | (simp; done))) | with_reducible refine Bx.drew ?_ | with_reducible refine Bx.alloc ?_ _ | with_reducible refine Bx.call ?_ (by with_reducible assumption) | with_reducible refine BX.drew ?_ | with_reducible refine BX.alloc ?_ _ | with_reducible refine BX.call ?_ (by with_reducible assumption) | with_reducible refine Bx.far (by first | omega | (dsimp only; omega)) ?_ | with_reducible refine Bx.st5 ?_)), (by refine SRow.up (hi := w11mv.heap.size) ?_; repeat (first | with_reducible exact rr12 | with_reducible refine SRow.alloc9 ?_ _ | with_reducible refine SRow.drew9 ?_ | (with_reducible refine SRow.putO9 (rq12.off (by dsimp only; first | omega | exact Or.inl (lt_al9 _ _) | (have := d11mv_11.lt; first | omega | (simp <;> omega)) | (have := d11mv_11lt.lt; first | omega | (simp <;> omega)) | (have := d11mv_11mo.lt; first | omega | (simp <;> omega)) | (have := d11mv_11ve.lt; first | omega | (simp <;> omega)) | (have := d11ve_11.lt; first | omega | (simp <;> omega)) | (have := d11ve_11lt.lt; first | omega | (simp <;> omega)) | (have := d11ve_11mo.lt; first | omega | (simp <;> omega)) | (have := d11mo_11.lt; first | omega | (simp <;> omega)) | (have := d11mo_11lt.lt; first | omega | (simp <;> omega)) | (have := d11mo_11ve.lt; first | omega | (simp <;> omega)) | (have := d11lt_11.lt; first | omega | (simp <;> omega)) | (have := d11lt_11mo.lt; first | omega | (simp <;> omega)) | (have := d11lt_11ve.lt; first | omega | (simp <;> omega)))) _ ?_))), (by first | omega | (simp <;> omega)), rq12.off (by first | omega | exact Or.inl (lt_al9 _ _) | (simp <;> omega) | (have := d11mv_11.lt; first | omega | (simp <;> omega)) | (have := d11mv_11lt.lt; first | omega | (simp <;> omega)) | (have := d11mv_11mo.lt; first | omega | (simp <;> omega)) | (have := d11mv_11ve.lt; first | omega | (simp <;> omega)) | (have := d11ve_11.lt; first | omega | (simp <;> omega)) | (have := d11ve_11lt.lt; first | omega | (simp <;> omega)) | (have := d11ve_11mo.lt; first | omega | (simp <;> omega)) | (have := d11mo_11.lt; first | omega | (simp <;> omega)) | (have := d11mo_11lt.lt; first | omega | (simp <;> omega)) | (have := d11mo_11ve.lt; first | omega | (simp <;> omega)) | (have := d11lt_11.lt; first | omega | (simp <;> omega)) | (have := d11lt_11mo.lt; first | omega | (simp <;> omega)) | (have := d11lt_11ve.lt; first | omega | (simp <;> omega))), (by repeat (first | with_reducible assumption | with_reducible exact Below.refl _ _ | with_reducible refine Below.drew ?_ | with_reducible refine Below.alloc ?_ (by first | omega | (simp <;> omega)) _ | with_reducible refine Below.setCell ?_ (by first | omega | (dsimp only; omega)) _ | with_reducible refine bstep ?_ (by with_reducible assumption)))⟩
    case rest =>
     obtain ⟨bx12, pf12, pa12, pb12, pc12, m12, G12, c12, ao12, cap12, hr12, rfl, rfl, KD12, rq12, hl12, ho12, hb12⟩ := hcut
     obtain ⟨w12, hw12⟩ : ∃ z, z = wc := ⟨_, rfl⟩
     subst hw12
     obtain ⟨rfl, rfl, rfl, rfl, rfl, rfl, rfl⟩ : pf2 = pf12 ∧ pa2 = pa12 ∧ pb2 = pb12 ∧ pc2 = pc12 ∧ m2 = m12 ∧ G2 = G12 ∧ c2 = c12 := by have h9 := HP.out.symm.trans hr12; simpa using h9
     clear hr12
     have K12 : Bx (w.heap.size) [.int .i64 A, .int .i64 B, .int .i64 C] w12 := Bx.call K11 hb12
     have L12 : Bx (w.heap.size + 1) [.int .i64 x, .int .i64 y] w12 := Bx.call L11 hb12
     have Y12 : Bx (bx2) [.int .i64 pf2, .int .i64 pa2, .int .i64 pb2, .int .i64 pc2, .slice ao2 m2 cap2] w12 := Bx.call Y11 hb12
     have G12 : Bx (bx4) [.int .i64 pf2, .int .i64 pa2, .int .i64 pb2, .int .i64 pc2, .slice ao4 m2 cap4] w12 := Bx.call G11 hb12
     have B12 : Below w.heap.size w w12 := bstep B11 hb12
     have z12 : w11.heap.size ≤ w12.heap.size := hb12.size
     have y12 := Lib.hid (SRow.call y11.out hb12)
     have g12 := Lib.hid (SRow.call g11.out hb12)
     clear K11 L11 Y11 G11 B11 y11 g11 K11c0 K11c1 K11c2 K11l L11c0 L11c1 L11l hb12
     have h12 := Lib.hid rq12
     clear rq12
     have H12 := KD12
     have bl12 := KD12.lt
     clear KD12
     have HO12 := Lib.hid ho12
     clear ho12
     have H12c0 := H12.c0
     have H12c1 := H12.c1
     have H12c2 := H12.c2
     have H12c3 := H12.c3
     have H12c4 := H12.c4
     have H12l := H12.lt
     have Y12c0 := Y12.c0
     have Y12c1 := Y12.c1
     have Y12c2 := Y12.c2
     have Y12c3 := Y12.c3
     have Y12c4 := Y12.c4
     have Y12l := Y12.lt
     go_wp2_with fail
     with_reducible refine (eqPat_any pf2 pa2 pb2 pc2 h12.out y12.out).mono ?_
     rintro e w13 ⟨rfl, hb13⟩
     have K13 : Bx (w.heap.size) [.int .i64 A, .int .i64 B, .int .i64 C] w13 := Bx.call K12 hb13
     have L13 : Bx (w.heap.size + 1) [.int .i64 x, .int .i64 y] w13 := Bx.call L12 hb13
     have Y13 : Bx (bx2) [.int .i64 pf2, .int .i64 pa2, .int .i64 pb2, .int .i64 pc2, .slice ao2 m2 cap2] w13 := Bx.call Y12 hb13
     have G13 : Bx (bx4) [.int .i64 pf2, .int .i64 pa2, .int .i64 pb2, .int .i64 pc2, .slice ao4 m2 cap4] w13 := Bx.call G12 hb13
     have H13 : Bx (bx12) [.int .i64 pf2, .int .i64 pa2, .int .i64 pb2, .int .i64 pc2, .slice ao12 m2 cap12] w13 := Bx.call H12 hb13
     have B13 : Below w.heap.size w w13 := bstep B12 hb13
     have z13 : w12.heap.size ≤ w13.heap.size := hb13.size
     have y13 := Lib.hid (SRow.call y12.out hb13)
     have g13 := Lib.hid (SRow.call g12.out hb13)
     have h13 := Lib.hid (SRow.call h12.out hb13)
     clear K12 L12 Y12 G12 H12 B12 y12 g12 h12 H12c0 H12c1 H12c2 H12c3 H12c4 H12l Y12c0 Y12c1 Y12c2 Y12c3 Y12c4 Y12l hb13
     clear h13
     clear y13
     clear H13
     clear Y13
     have G13c0 := G13.c0
     have G13c1 := G13.c1
     have G13c2 := G13.c2
     have G13c3 := G13.c3
     have G13c4 := G13.c4
     have G13l := G13.lt
     go_wp2_with fail
     with_reducible refine (heldPat_any pf2 pa2 pb2 pc2 g13.out).mono ?_
     rintro e w14 ⟨rfl, hb14⟩
     have K14 : Bx (w.heap.size) [.int .i64 A, .int .i64 B, .int .i64 C] w14 := Bx.call K13 hb14
     have L14 : Bx (w.heap.size + 1) [.int .i64 x, .int .i64 y] w14 := Bx.call L13 hb14
     have G14 : Bx (bx4) [.int .i64 pf2, .int .i64 pa2, .int .i64 pb2, .int .i64 pc2, .slice ao4 m2 cap4] w14 := Bx.call G13 hb14
     have B14 : Below w.heap.size w w14 := bstep B13 hb14
     have z14 : w13.heap.size ≤ w14.heap.size := hb14.size
     have g14 := Lib.hid (SRow.call g13.out hb14)
     clear K13 L13 G13 B13 g13 G13c0 G13c1 G13c2 G13c3 G13c4 G13l hb14
     go_wp2
     go_ret
     exact ⟨rfl, B14⟩
 ·have hbig3 := Lib.hid hb2
  clear hb2
  go_enter Tryz.func6, Tryz.ntmps6
  go_wp2_with fail
  with_reducible refine (szMo_any ao9 xs.length cap9 1048576 _ hm2 (by omega)).mono ?_
  rintro e w1 ⟨rfl, hb1⟩
  rw [if_neg (by have := hbig3.out; omega)]
  go_wp2
  go_ret
  exact ⟨rfl, bstep (by repeat (first | with_reducible assumption | with_reducible exact Below.refl _ _ | with_reducible refine Below.drew ?_ | with_reducible refine Below.alloc ?_ (by first | omega | (simp <;> omega)) _ | with_reducible refine Below.setCell ?_ (by first | omega | (dsimp only; omega)) _ | with_reducible refine bstep ?_ (by with_reducible assumption))) hb1⟩
end Go.Proofs.YtdgophfembpniaaGreatDoor
