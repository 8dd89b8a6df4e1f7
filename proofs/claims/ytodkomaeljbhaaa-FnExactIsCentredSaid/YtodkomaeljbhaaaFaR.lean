/-
  MayReflect in the program. No condition.
-/
import Derived.Test.YtodkomaeljbhaaaFaQ
import Derived.Test.YtodkomaeljbhaaaRd6
import Derived.Deep.RegionHeld3
import Derived.IntWalk
namespace Go.Proofs.Ytodkomaeljbhaaa
open Go.RowKit
set_option linter.unusedSimpArgs false
set_option linter.unusedVariables false

def mrVP (f A B C a b c d x y : Int) : Value := .tuple #[.bool (mrR f A B C (a, b, c, d, x, y)).1, .int .i64 (mrR f A B C (a, b, c, d, x, y)).2]
theorem ok_red {f A B C a b c d x y : Int} (h : okM f A B C (a, b, c, d, x, y) = true) : okM f A B C (a, b, c, d, redX A B C x y, redY C y) = true := by
  have hl := (suit_parts h).1
  obtain ⟨h1, h2, _⟩ := okM_iff.1 h
  exact okM_iff.2 ⟨h1, h2, red_vec hl (redM_redM hl (a, b, c, d, x, y))⟩
set_option maxRecDepth 100000 in
set_option maxHeartbeats 8000000 in
theorem implMay_any (f A B C a b c d x y : Int) (w : World) :
    Calls Try.prog 15 #[.int .i64 f, .agg #[.int .i64 A, .int .i64 B, .int .i64 C], .agg #[.int .i64 a, .int .i64 b, .int .i64 c, .int .i64 d, .int .i64 x, .int .i64 y]] w fun e w' => e = .returned (mrVP f A B C a b c d x y) ∧ Below w.heap.size w w' := by
  rcases hs : okM f A B C (a, b, c, d, x, y) with _ | _
  · rcases hF : flB f A B C with _ | _
    · have EA := Lib.hid (ret_val (show .tuple #[.bool false, .int .i64 1] = mrVP f A B C a b c d x y by simp [mrVP, mrR, hs, hF]))
      have L0 : Kt (w.heap.size) A B C ((w.alloc (.cells #[.int .i64 A, .int .i64 B, .int .i64 C] 28)).alloc (.cells #[.int .i64 a, .int .i64 b, .int .i64 c, .int .i64 d, .int .i64 x, .int .i64 y] 43)) := ((Kt.at (w.heap.size) rfl).alloc _)
      have M0 : Km (w.heap.size + 1) a b c d x y ((w.alloc (.cells #[.int .i64 A, .int .i64 B, .int .i64 C] 28)).alloc (.cells #[.int .i64 a, .int .i64 b, .int .i64 c, .int .i64 d, .int .i64 x, .int .i64 y] 43)) := (Km.at (w.heap.size + 1) (by simp))
      have B0 : Below w.heap.size w ((w.alloc (.cells #[.int .i64 A, .int .i64 B, .int .i64 C] 28)).alloc (.cells #[.int .i64 a, .int .i64 b, .int .i64 c, .int .i64 d, .int .i64 x, .int .i64 y] 43)) := (Below.alloc (Below.alloc (Below.refl _ _) (by first | with_reducible exact Nat.le_refl _ | (simp <;> omega)) _) (by first | with_reducible exact Nat.le_refl _ | (simp <;> omega)) _)
      go_enter Try.func15, Try.ntmps15
      have L0c0 := L0.c0
      have L0c1 := L0.c1
      have L0c2 := L0.c2
      have L0l := L0.1
      have M0c0 := M0.c0
      have M0c1 := M0.c1
      have M0c2 := M0.c2
      have M0c3 := M0.c3
      have M0c4 := M0.c4
      have M0c5 := M0.c5
      have M0l := M0.1
      go_wp2_with fail
      refine (redMs_any (xs := [(a, b, c, d, x, y)]) f A B C (SRow.one6 (by simp)) (by simp)).mono ?_
      rintro e w1 ⟨v, he, hno, hro, hb1⟩
      rw [allOk_one] at he hno hro
      rw [hs] at he hno hro
      have L1 : Kt (w.heap.size) A B C w1 := Kt.call (L0.alloc _) hb1
      have M1 : Km (w.heap.size + 1) a b c d x y w1 := Km.call (M0.alloc _) hb1
      have S1 : KM (w.heap.size + 1 + 1) a b c d x y w1 := (KM.at (w.heap.size + 1 + 1) (by first | rfl | simp) : KM (w.heap.size + 1 + 1) a b c d x y _).call hb1
      have B1 : Below w.heap.size w w1 := bstep (Below.alloc B0 (by have := B0.size; first | omega | (simp <;> omega)) _) hb1
      clear hb1 B0 L0 M0
      rw [show cod6 f A B C false = 1 by simp [cod6, hF]] at he
      obtain rfl : v = .slice none 0 0 := by simpa using hno
      subst he
      clear hno hro
      go_wp2
      go_ret2
      refine ⟨EA.out, ?_⟩
      repeat (first | with_reducible assumption | with_reducible exact Below.refl _ _ | with_reducible refine Below.setCell ?_ (by first | omega | (simp <;> omega)) _ | with_reducible refine Below.alloc ?_ (by first | omega | (simp <;> omega)) _ | with_reducible refine bstep ?_ (by with_reducible assumption) | with_reducible refine Below.drew ?_)
    · have EA := Lib.hid (ret_val (show .tuple #[.bool false, .int .i64 2] = mrVP f A B C a b c d x y by simp [mrVP, mrR, hs, hF]))
      have L0 : Kt (w.heap.size) A B C ((w.alloc (.cells #[.int .i64 A, .int .i64 B, .int .i64 C] 28)).alloc (.cells #[.int .i64 a, .int .i64 b, .int .i64 c, .int .i64 d, .int .i64 x, .int .i64 y] 43)) := ((Kt.at (w.heap.size) rfl).alloc _)
      have M0 : Km (w.heap.size + 1) a b c d x y ((w.alloc (.cells #[.int .i64 A, .int .i64 B, .int .i64 C] 28)).alloc (.cells #[.int .i64 a, .int .i64 b, .int .i64 c, .int .i64 d, .int .i64 x, .int .i64 y] 43)) := (Km.at (w.heap.size + 1) (by simp))
      have B0 : Below w.heap.size w ((w.alloc (.cells #[.int .i64 A, .int .i64 B, .int .i64 C] 28)).alloc (.cells #[.int .i64 a, .int .i64 b, .int .i64 c, .int .i64 d, .int .i64 x, .int .i64 y] 43)) := (Below.alloc (Below.alloc (Below.refl _ _) (by first | with_reducible exact Nat.le_refl _ | (simp <;> omega)) _) (by first | with_reducible exact Nat.le_refl _ | (simp <;> omega)) _)
      go_enter Try.func15, Try.ntmps15
      have L0c0 := L0.c0
      have L0c1 := L0.c1
      have L0c2 := L0.c2
      have L0l := L0.1
      have M0c0 := M0.c0
      have M0c1 := M0.c1
      have M0c2 := M0.c2
      have M0c3 := M0.c3
      have M0c4 := M0.c4
      have M0c5 := M0.c5
      have M0l := M0.1
      go_wp2_with fail
      refine (redMs_any (xs := [(a, b, c, d, x, y)]) f A B C (SRow.one6 (by simp)) (by simp)).mono ?_
      rintro e w1 ⟨v, he, hno, hro, hb1⟩
      rw [allOk_one] at he hno hro
      rw [hs] at he hno hro
      have L1 : Kt (w.heap.size) A B C w1 := Kt.call (L0.alloc _) hb1
      have M1 : Km (w.heap.size + 1) a b c d x y w1 := Km.call (M0.alloc _) hb1
      have S1 : KM (w.heap.size + 1 + 1) a b c d x y w1 := (KM.at (w.heap.size + 1 + 1) (by first | rfl | simp) : KM (w.heap.size + 1 + 1) a b c d x y _).call hb1
      have B1 : Below w.heap.size w w1 := bstep (Below.alloc B0 (by have := B0.size; first | omega | (simp <;> omega)) _) hb1
      clear hb1 B0 L0 M0
      rw [show cod6 f A B C false = 2 by simp [cod6, hF]] at he
      obtain rfl : v = .slice none 0 0 := by simpa using hno
      subst he
      clear hno hro
      go_wp2
      go_ret2
      refine ⟨EA.out, ?_⟩
      repeat (first | with_reducible assumption | with_reducible exact Below.refl _ _ | with_reducible refine Below.setCell ?_ (by first | omega | (simp <;> omega)) _ | with_reducible refine Below.alloc ?_ (by first | omega | (simp <;> omega)) _ | with_reducible refine bstep ?_ (by with_reducible assumption) | with_reducible refine Below.drew ?_)
  · have EA := Lib.hid (ret_val (show .tuple #[.bool (mayB A B C (a, b, c, d, x, y)), .int .i64 0] = mrVP f A B C a b c d x y by simp [mrVP, mrR, hs, ok_fl hs]))
    have HM := Lib.hid (fun W => mayRef_any f A B C a b c d (redX A B C x y) (redY C y) W (ok_red hs))
    rw [show mayB A B C (a, b, c, d, redX A B C x y, redY C y) = mayB A B C (a, b, c, d, x, y) from may_red (suit_parts hs).1 (a, b, c, d, x, y)] at HM
    have L0 : Kt (w.heap.size) A B C ((w.alloc (.cells #[.int .i64 A, .int .i64 B, .int .i64 C] 28)).alloc (.cells #[.int .i64 a, .int .i64 b, .int .i64 c, .int .i64 d, .int .i64 x, .int .i64 y] 43)) := ((Kt.at (w.heap.size) rfl).alloc _)
    have M0 : Km (w.heap.size + 1) a b c d x y ((w.alloc (.cells #[.int .i64 A, .int .i64 B, .int .i64 C] 28)).alloc (.cells #[.int .i64 a, .int .i64 b, .int .i64 c, .int .i64 d, .int .i64 x, .int .i64 y] 43)) := (Km.at (w.heap.size + 1) (by simp))
    have B0 : Below w.heap.size w ((w.alloc (.cells #[.int .i64 A, .int .i64 B, .int .i64 C] 28)).alloc (.cells #[.int .i64 a, .int .i64 b, .int .i64 c, .int .i64 d, .int .i64 x, .int .i64 y] 43)) := (Below.alloc (Below.alloc (Below.refl _ _) (by first | with_reducible exact Nat.le_refl _ | (simp <;> omega)) _) (by first | with_reducible exact Nat.le_refl _ | (simp <;> omega)) _)
    go_enter Try.func15, Try.ntmps15
    have L0c0 := L0.c0
    have L0c1 := L0.c1
    have L0c2 := L0.c2
    have L0l := L0.1
    have M0c0 := M0.c0
    have M0c1 := M0.c1
    have M0c2 := M0.c2
    have M0c3 := M0.c3
    have M0c4 := M0.c4
    have M0c5 := M0.c5
    have M0l := M0.1
    go_wp2_with fail
    refine (redMs_any (xs := [(a, b, c, d, x, y)]) f A B C (SRow.one6 (by simp)) (by simp)).mono ?_
    rintro e w1 ⟨v, he, hno, hro, hb1⟩
    rw [allOk_one] at he hno hro
    rw [hs] at he hno hro
    have L1 : Kt (w.heap.size) A B C w1 := Kt.call (L0.alloc _) hb1
    have M1 : Km (w.heap.size + 1) a b c d x y w1 := Km.call (M0.alloc _) hb1
    have S1 : KM (w.heap.size + 1 + 1) a b c d x y w1 := (KM.at (w.heap.size + 1 + 1) (by first | rfl | simp) : KM (w.heap.size + 1 + 1) a b c d x y _).call hb1
    have B1 : Below w.heap.size w w1 := bstep (Below.alloc B0 (by have := B0.size; first | omega | (simp <;> omega)) _) hb1
    clear hb1 B0 L0 M0
    rw [show cod6 f A B C true = 0 by simp [cod6, ok_fl hs]] at he
    subst he
    obtain ⟨g, cap, rfl, hg, hG⟩ := row_one (m := redM A B C (a, b, c, d, x, y)) (hro (ok_fl hs) rfl)
    have G1 : Km g a b c d (redX A B C x y) (redY C y) w1 := hG
    clear hno hro hG hs
    generalize redX A B C x y = p at G1 HM
    generalize redY C y = q at G1 HM
    generalize mayB A B C (a, b, c, d, x, y) = mb at HM EA
    have L1c0 := L1.c0
    have L1c1 := L1.c1
    have L1c2 := L1.c2
    have L1l := L1.1
    have L1n : ¬ w.heap.size = w1.heap.size := by omega
    have G1c0 := G1.c0
    have G1c1 := G1.c1
    have G1c2 := G1.c2
    have G1c3 := G1.c3
    have G1c4 := G1.c4
    have G1c5 := G1.c5
    have G1l := G1.1
    have G1n : ¬ g = w1.heap.size := by omega
    have L1lt := L1.1
    have M1lt := M1.1
    have S1lt := S1.lt
    have G1lt := G1.1
    go_wp2_with fail
    go_region_held3 (fun W => (W.cell? ⟨w.heap.size, 0, none⟩ = some (.int .i64 A) ∧ W.cell? ⟨w.heap.size, 1, none⟩ = some (.int .i64 B) ∧ W.cell? ⟨w.heap.size, 2, none⟩ = some (.int .i64 C)) ∧ (W.cell? ⟨g, 0, none⟩ = some (.int .i64 a) ∧ W.cell? ⟨g, 1, none⟩ = some (.int .i64 b) ∧ W.cell? ⟨g, 2, none⟩ = some (.int .i64 c) ∧ W.cell? ⟨g, 3, none⟩ = some (.int .i64 d) ∧ W.cell? ⟨g, 4, none⟩ = some (.int .i64 p) ∧ W.cell? ⟨g, 5, none⟩ = some (.int .i64 q))) ((refine ⟨Kt.cells ?_, Km.cells ?_⟩ <;> repeat (first | with_reducible assumption | with_reducible refine KM.drew ?_ | with_reducible refine KM.alloc ?_ _ | with_reducible refine KM.call ?_ (by with_reducible assumption) | with_reducible refine Km.drew ?_ | with_reducible refine Km.alloc ?_ _ | with_reducible refine Km.call ?_ (by with_reducible assumption) | with_reducible refine Kt.drew ?_ | with_reducible refine Kt.alloc ?_ _ | with_reducible refine Kt.call ?_ (by with_reducible assumption) | ((with_reducible refine KM.put ?_ ?_); (first | omega | (dsimp only; omega))) | ((with_reducible refine Km.put ?_ ?_); (first | omega | (dsimp only; omega))) | ((with_reducible refine Kt.put ?_ ?_); (first | omega | (dsimp only; omega))) | ((with_reducible refine KM.far ?_ ?_); (first | omega | (dsimp only; omega))) | ((with_reducible refine Km.far ?_ ?_); (first | omega | (dsimp only; omega))))))
      (first
        | (go_at_call 28; ((with_reducible refine (HM.out _).mono ?_); rintro e w2 ⟨rfl, hb2⟩; have L2 : Kt (w.heap.size) A B C w2 := (by repeat (first | with_reducible assumption | with_reducible refine KM.drew ?_ | with_reducible refine KM.alloc ?_ _ | with_reducible refine KM.call ?_ (by with_reducible assumption) | with_reducible refine Km.drew ?_ | with_reducible refine Km.alloc ?_ _ | with_reducible refine Km.call ?_ (by with_reducible assumption) | with_reducible refine Kt.drew ?_ | with_reducible refine Kt.alloc ?_ _ | with_reducible refine Kt.call ?_ (by with_reducible assumption))); have M2 : Km (w.heap.size + 1) a b c d x y w2 := (by repeat (first | with_reducible assumption | with_reducible refine KM.drew ?_ | with_reducible refine KM.alloc ?_ _ | with_reducible refine KM.call ?_ (by with_reducible assumption) | with_reducible refine Km.drew ?_ | with_reducible refine Km.alloc ?_ _ | with_reducible refine Km.call ?_ (by with_reducible assumption) | with_reducible refine Kt.drew ?_ | with_reducible refine Kt.alloc ?_ _ | with_reducible refine Kt.call ?_ (by with_reducible assumption))); have S2 : KM (w.heap.size + 1 + 1) a b c d x y w2 := (by repeat (first | with_reducible assumption | with_reducible refine KM.drew ?_ | with_reducible refine KM.alloc ?_ _ | with_reducible refine KM.call ?_ (by with_reducible assumption) | with_reducible refine Km.drew ?_ | with_reducible refine Km.alloc ?_ _ | with_reducible refine Km.call ?_ (by with_reducible assumption) | with_reducible refine Kt.drew ?_ | with_reducible refine Kt.alloc ?_ _ | with_reducible refine Kt.call ?_ (by with_reducible assumption))); have G2 : Km (g) a b c d p q w2 := (by repeat (first | with_reducible assumption | with_reducible refine KM.drew ?_ | with_reducible refine KM.alloc ?_ _ | with_reducible refine KM.call ?_ (by with_reducible assumption) | with_reducible refine Km.drew ?_ | with_reducible refine Km.alloc ?_ _ | with_reducible refine Km.call ?_ (by with_reducible assumption) | with_reducible refine Kt.drew ?_ | with_reducible refine Kt.alloc ?_ _ | with_reducible refine Kt.call ?_ (by with_reducible assumption))); have L2l := L2.1; have M2l := M2.1; have S2c0 := S2.c0; have S2f0 := S2.f0; have S2c1 := S2.c1; have S2f1 := S2.f1; have S2c2 := S2.c2; have S2f2 := S2.f2; have S2c3 := S2.c3; have S2f3 := S2.f3; have S2c4 := S2.c4; have S2f4 := S2.f4; have S2c5 := S2.c5; have S2f5 := S2.f5; have S2l := S2.lt; have G2l := G2.1; have B2 : Below w.heap.size w w2 := (by repeat (first | with_reducible assumption | with_reducible refine Below.drew ?_ | with_reducible refine Below.alloc ?_ (by first | omega | (have := B1.size; simp <;> omega)) _ | with_reducible refine bstep ?_ (by with_reducible assumption))))))
    all_goals
      go_wp2
      go_ret2
      refine ⟨EA.out, ?_⟩
      repeat (first | with_reducible assumption | with_reducible exact Below.refl _ _ | with_reducible refine Below.setCell ?_ (by first | omega | (simp <;> omega)) _ | with_reducible refine Below.alloc ?_ (by first | omega | (simp <;> omega)) _ | with_reducible refine bstep ?_ (by with_reducible assumption) | with_reducible refine Below.drew ?_)
end Go.Proofs.Ytodkomaeljbhaaa
