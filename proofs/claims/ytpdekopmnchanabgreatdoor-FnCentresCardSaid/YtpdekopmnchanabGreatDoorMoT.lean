/-
  Contracts of chapter 5's MotionText: the program's function and the model's give the same text, and the walk of its exact law. Conditions: the table of powers of ten and the program's variable unitMatrix are as the text lays them.
-/
import Derived.Test.YtpdekopmnchanabGreatDoorMo3
import Derived.Test.YtpdekopmnchanabGreatDoorMatT2
import Derived.Test.YtpdekopmnchanabGreatDoorText2
namespace Go.Proofs.YtpdekopmnchanabGreatDoor
open Go.RowKit
set_option linter.unusedSimpArgs false
set_option linter.unusedVariables false

def motS (a b c d x y : Int) : ByteArray := matS a b c d ++ ⟨#[59]⟩ ++ vecS x y
def mottS (a b c d x y : Int) : ByteArray := bif motB a b c d x y then motS a b c d x y else ⟨#[]⟩
theorem mot_sizes {a b c d x y : Int} (hl : limB a b c d = true) (hv : vecB x y = true) : (matS a b c d).size ≤ 88 ∧ (vecS x y).size ≤ 44 := by
  obtain ⟨⟨⟨ha, ha'⟩, hb, hb'⟩, ⟨hc, hc'⟩, hd, hd'⟩ := limB_bd hl
  obtain ⟨⟨h0, h1⟩, h2, h3⟩ := vecB_bd hv
  constructor
  · rw [matS_nums]
    exact numsS_size [a, b, c, d] (by intro n hn; simp at hn; omega)
  · rw [vecS_nums]
    exact numsS_size [x, y] (by intro n hn; simp at hn; omega)
theorem mot_add {a b c d x y : Int} (hl : limB a b c d = true) (hv : vecB x y = true) : (∀ W, (Op.stringOp .add (matS a b c d) ⟨#[59]⟩).run Tryz.prog W = .ok (.string (matS a b c d ++ ⟨#[59]⟩)) W) ∧
    (∀ W, (Op.stringOp .add (matS a b c d ++ ⟨#[59]⟩) (vecS x y)).run Tryz.prog W = .ok (.string (motS a b c d x y)) W) := by
  obtain ⟨h1, h2⟩ := mot_sizes hl hv
  have e : (⟨#[59]⟩ : ByteArray).size = 1 := rfl
  refine ⟨fun W => addS2 _ _ (by omega) W, fun W => addS2 _ _ (by rw [ByteArray.size_append]; omega) W⟩
set_option maxRecDepth 100000 in
set_option maxHeartbeats 4000000 in
theorem motext_any (a b c d x y : Int) (w : World) (hT : TabOK w) (hl : limB a b c d = true) (hv : vecB x y = true) :
    Calls Tryz.prog 24 #[.agg #[.int .i64 a, .int .i64 b, .int .i64 c, .int .i64 d, .int .i64 x, .int .i64 y]] w fun e w' => e = .returned (.string (motS a b c d x y)) ∧ Below w.heap.size w w' := by
  obtain ⟨s1, s2⟩ := mot_add hl hv
  obtain ⟨⟨v0, v1⟩, v2, v3⟩ := vecB_bd hv
  have M0 : Km (w.heap.size) a b c d x y (w.alloc (.cells #[.int .i64 a, .int .i64 b, .int .i64 c, .int .i64 d, .int .i64 x, .int .i64 y] 44)) := (Km.at (w.heap.size) rfl)
  have B0 : Below w.heap.size w (w.alloc (.cells #[.int .i64 a, .int .i64 b, .int .i64 c, .int .i64 d, .int .i64 x, .int .i64 y] 44)) := (Below.alloc (Below.refl _ _) (by first | with_reducible exact Nat.le_refl _ | (simp <;> omega)) _)
  go_enter Tryz.func24, Tryz.ntmps24
  have M0lt := M0.1
  go_wp2_with fail
  go_region_held3 (fun W => (W.cell? ⟨w.heap.size, 0, none⟩ = some (.int .i64 a) ∧ W.cell? ⟨w.heap.size, 1, none⟩ = some (.int .i64 b) ∧ W.cell? ⟨w.heap.size, 2, none⟩ = some (.int .i64 c) ∧ W.cell? ⟨w.heap.size, 3, none⟩ = some (.int .i64 d) ∧ W.cell? ⟨w.heap.size, 4, none⟩ = some (.int .i64 x) ∧ W.cell? ⟨w.heap.size, 5, none⟩ = some (.int .i64 y))) ((refine Km.cells ?_ <;> repeat (first | with_reducible assumption | with_reducible refine Km.drew ?_ | with_reducible refine Km.alloc ?_ _ | with_reducible refine Km.call ?_ (by with_reducible assumption) | ((with_reducible refine Km.put ?_ ?_); (first | omega | (dsimp only; omega))) | ((with_reducible refine Km.far ?_ ?_); (first | omega | (dsimp only; omega))))))
    (first
      | (go_at_call 55; ((with_reducible refine (mtext_any _ _ _ _ _ (hT.on (by repeat (first | with_reducible assumption | with_reducible exact Below.refl _ _ | with_reducible refine Below.setCell ?_ (by first | omega | (simp <;> omega)) _ | with_reducible refine Below.alloc ?_ (by first | omega | (simp <;> omega)) _ | with_reducible refine bstep ?_ (by with_reducible assumption) | with_reducible refine Below.drew ?_))) hl).mono ?_); rintro e w1 ⟨rfl, hb1⟩; have M1 : Km (w.heap.size) a b c d x y w1 := (by repeat (first | with_reducible assumption | with_reducible refine Km.drew ?_ | with_reducible refine Km.alloc ?_ _ | with_reducible refine Km.call ?_ (by with_reducible assumption))); have M1l := M1.1; have B1 : Below w.heap.size w w1 := (by repeat (first | with_reducible assumption | with_reducible refine Below.drew ?_ | with_reducible refine Below.alloc ?_ (by first | omega | (have := B0.size; simp <;> omega)) _ | with_reducible refine bstep ?_ (by with_reducible assumption)))))
      | (go_at_call 56; ((with_reducible refine (vtext_any _ _ _ (hT.on (by repeat (first | with_reducible assumption | with_reducible exact Below.refl _ _ | with_reducible refine Below.setCell ?_ (by first | omega | (simp <;> omega)) _ | with_reducible refine Below.alloc ?_ (by first | omega | (simp <;> omega)) _ | with_reducible refine bstep ?_ (by with_reducible assumption) | with_reducible refine Below.drew ?_))) (by omega) (by omega) (by omega) (by omega)).mono ?_); rintro e w2 ⟨rfl, hb2⟩; have M2 : Km (w.heap.size) a b c d x y w2 := (by repeat (first | with_reducible assumption | with_reducible refine Km.drew ?_ | with_reducible refine Km.alloc ?_ _ | with_reducible refine Km.call ?_ (by with_reducible assumption))); have M2l := M2.1; have B2 : Below w.heap.size w w2 := (by repeat (first | with_reducible assumption | with_reducible refine Below.drew ?_ | with_reducible refine Below.alloc ?_ (by first | omega | (have := B0.size; simp <;> omega)) _ | with_reducible refine bstep ?_ (by with_reducible assumption))))))
  all_goals
    go_wp2
    go_ret
    refine ⟨rfl, ?_⟩
    repeat (first | with_reducible assumption | with_reducible exact Below.refl _ _ | with_reducible refine Below.setCell ?_ (by first | omega | (simp <;> omega)) _ | with_reducible refine Below.alloc ?_ (by first | omega | (simp <;> omega)) _ | with_reducible refine bstep ?_ (by with_reducible assumption) | with_reducible refine Below.drew ?_)

set_option maxRecDepth 100000 in
set_option maxHeartbeats 4000000 in
theorem implMoT_any (a b c d x y : Int) (w : World) (hT : TabOK w) (hU : UnitOK w) :
    Calls Tryz.prog 8 #[.agg #[.int .i64 a, .int .i64 b, .int .i64 c, .int .i64 d, .int .i64 x, .int .i64 y]] w fun e w' => e = .returned (.string (mottS a b c d x y)) ∧ Below w.heap.size w w' := by
  rcases hm : motB a b c d x y with _ | _
  · have EA := Lib.hid (show mottS a b c d x y = ⟨#[]⟩ by simp [mottS, hm])
    have M0 : Km (w.heap.size) a b c d x y (w.alloc (.cells #[.int .i64 a, .int .i64 b, .int .i64 c, .int .i64 d, .int .i64 x, .int .i64 y] 29)) := (Km.at (w.heap.size) rfl)
    have U0 : Kq (0) 1 0 0 1 (w.alloc (.cells #[.int .i64 a, .int .i64 b, .int .i64 c, .int .i64 d, .int .i64 x, .int .i64 y] 29)) := (hU.alloc _)
    have B0 : Below w.heap.size w (w.alloc (.cells #[.int .i64 a, .int .i64 b, .int .i64 c, .int .i64 d, .int .i64 x, .int .i64 y] 29)) := (Below.alloc (Below.refl _ _) (by first | with_reducible exact Nat.le_refl _ | (simp <;> omega)) _)
    go_enter Tryz.func8, Tryz.ntmps8
    have M0c0 := M0.c0
    have M0c1 := M0.c1
    have M0c2 := M0.c2
    have M0c3 := M0.c3
    have M0c4 := M0.c4
    have M0c5 := M0.c5
    have M0l := M0.1
    have U0c0 := U0.c0
    have U0c1 := U0.c1
    have U0c2 := U0.c2
    have U0c3 := U0.c3
    have U0l := U0.1
    go_wp2_with fail
    refine (implIsMo_any _ _ _ _ _ _ _ U0).mono ?_
    rintro e w1 ⟨rfl, hb1⟩
    have M1 : Km (w.heap.size) a b c d x y w1 := Km.call M0 hb1
    have U1 : Kq (0) 1 0 0 1 w1 := Kq.call U0 hb1
    have B1 : Below w.heap.size w w1 := bstep B0 hb1
    clear hb1 B0 M0 U0
    have M1c0 := M1.c0
    have M1c1 := M1.c1
    have M1c2 := M1.c2
    have M1c3 := M1.c3
    have M1c4 := M1.c4
    have M1c5 := M1.c5
    have M1l := M1.1
    have M1n : ¬ w.heap.size = w1.heap.size := by omega
    have U1c0 := U1.c0
    have U1c1 := U1.c1
    have U1c2 := U1.c2
    have U1c3 := U1.c3
    have U1l := U1.1
    have U1n : ¬ 0 = w1.heap.size := by omega
    go_wp2
    go_ret
    refine ⟨ret_str EA.out.symm, ?_⟩
    repeat (first | with_reducible assumption | with_reducible exact Below.refl _ _ | with_reducible refine Below.setCell ?_ (by first | omega | (simp <;> omega)) _ | with_reducible refine Below.alloc ?_ (by first | omega | (simp <;> omega)) _ | with_reducible refine bstep ?_ (by with_reducible assumption) | with_reducible refine Below.drew ?_)
  · have EA := Lib.hid (show mottS a b c d x y = motS a b c d x y by simp [mottS, hm])
    have M0 : Km (w.heap.size) a b c d x y (w.alloc (.cells #[.int .i64 a, .int .i64 b, .int .i64 c, .int .i64 d, .int .i64 x, .int .i64 y] 29)) := (Km.at (w.heap.size) rfl)
    have U0 : Kq (0) 1 0 0 1 (w.alloc (.cells #[.int .i64 a, .int .i64 b, .int .i64 c, .int .i64 d, .int .i64 x, .int .i64 y] 29)) := (hU.alloc _)
    have B0 : Below w.heap.size w (w.alloc (.cells #[.int .i64 a, .int .i64 b, .int .i64 c, .int .i64 d, .int .i64 x, .int .i64 y] 29)) := (Below.alloc (Below.refl _ _) (by first | with_reducible exact Nat.le_refl _ | (simp <;> omega)) _)
    go_enter Tryz.func8, Tryz.ntmps8
    have M0c0 := M0.c0
    have M0c1 := M0.c1
    have M0c2 := M0.c2
    have M0c3 := M0.c3
    have M0c4 := M0.c4
    have M0c5 := M0.c5
    have M0l := M0.1
    have U0c0 := U0.c0
    have U0c1 := U0.c1
    have U0c2 := U0.c2
    have U0c3 := U0.c3
    have U0l := U0.1
    go_wp2_with fail
    refine (implIsMo_any _ _ _ _ _ _ _ U0).mono ?_
    rintro e w1 ⟨rfl, hb1⟩
    have M1 : Km (w.heap.size) a b c d x y w1 := Km.call M0 hb1
    have U1 : Kq (0) 1 0 0 1 w1 := Kq.call U0 hb1
    have B1 : Below w.heap.size w w1 := bstep B0 hb1
    clear hb1 B0 M0 U0
    have M1c0 := M1.c0
    have M1c1 := M1.c1
    have M1c2 := M1.c2
    have M1c3 := M1.c3
    have M1c4 := M1.c4
    have M1c5 := M1.c5
    have M1l := M1.1
    have M1n : ¬ w.heap.size = w1.heap.size := by omega
    have U1c0 := U1.c0
    have U1c1 := U1.c1
    have U1c2 := U1.c2
    have U1c3 := U1.c3
    have U1l := U1.1
    have U1n : ¬ 0 = w1.heap.size := by omega
    go_wp2_with fail
    refine (motionOf_any _ _ _ _ _ _ _).mono ?_
    rintro e w2 ⟨rfl, hb2⟩
    have M2 : Km (w.heap.size) a b c d x y w2 := Km.call M1 hb2
    have U2 : Kq (0) 1 0 0 1 w2 := Kq.call U1 hb2
    have B2 : Below w.heap.size w w2 := bstep B1 hb2
    clear hb2 B1 M1 U1
    have M2c0 := M2.c0
    have M2c1 := M2.c1
    have M2c2 := M2.c2
    have M2c3 := M2.c3
    have M2c4 := M2.c4
    have M2c5 := M2.c5
    have M2l := M2.1
    have M2n : ¬ w.heap.size = w2.heap.size := by omega
    have U2c0 := U2.c0
    have U2c1 := U2.c1
    have U2c2 := U2.c2
    have U2c3 := U2.c3
    have U2l := U2.1
    have U2n : ¬ 0 = w2.heap.size := by omega
    go_wp2_with fail
    refine (motext_any _ _ _ _ _ _ _ (hT.on B2) (motB_lim hm) (motB_vec hm)).mono ?_
    rintro e w3 ⟨rfl, hb3⟩
    have M3 : Km (w.heap.size) a b c d x y w3 := Km.call M2 hb3
    have U3 : Kq (0) 1 0 0 1 w3 := Kq.call U2 hb3
    have B3 : Below w.heap.size w w3 := bstep B2 hb3
    clear hb3 B2 M2 U2
    have M3c0 := M3.c0
    have M3c1 := M3.c1
    have M3c2 := M3.c2
    have M3c3 := M3.c3
    have M3c4 := M3.c4
    have M3c5 := M3.c5
    have M3l := M3.1
    have M3n : ¬ w.heap.size = w3.heap.size := by omega
    have U3c0 := U3.c0
    have U3c1 := U3.c1
    have U3c2 := U3.c2
    have U3c3 := U3.c3
    have U3l := U3.1
    have U3n : ¬ 0 = w3.heap.size := by omega
    go_wp2
    go_ret
    refine ⟨ret_str EA.out.symm, ?_⟩
    repeat (first | with_reducible assumption | with_reducible exact Below.refl _ _ | with_reducible refine Below.setCell ?_ (by first | omega | (simp <;> omega)) _ | with_reducible refine Below.alloc ?_ (by first | omega | (simp <;> omega)) _ | with_reducible refine bstep ?_ (by with_reducible assumption) | with_reducible refine Below.drew ?_)

set_option maxRecDepth 100000 in
set_option maxHeartbeats 4000000 in
theorem specMoT_any (a b c d x y : Int) (w : World) :
    Calls Tryz.prog 12 #[.agg #[.int .i64 a, .int .i64 b, .int .i64 c, .int .i64 d, .int .i64 x, .int .i64 y]] w fun e w' => e = .returned (.string (mottS a b c d x y)) ∧ Below w.heap.size w w' := by
  rcases hm : motB a b c d x y with _ | _
  · have EA := Lib.hid (show mottS a b c d x y = ⟨#[]⟩ by simp [mottS, hm])
    have M0 : Km (w.heap.size) a b c d x y (w.alloc (.cells #[.int .i64 a, .int .i64 b, .int .i64 c, .int .i64 d, .int .i64 x, .int .i64 y] 29)) := (Km.at (w.heap.size) rfl)
    have B0 : Below w.heap.size w (w.alloc (.cells #[.int .i64 a, .int .i64 b, .int .i64 c, .int .i64 d, .int .i64 x, .int .i64 y] 29)) := (Below.alloc (Below.refl _ _) (by first | with_reducible exact Nat.le_refl _ | (simp <;> omega)) _)
    go_enter Tryz.func12, Tryz.ntmps12
    have M0c0 := M0.c0
    have M0c1 := M0.c1
    have M0c2 := M0.c2
    have M0c3 := M0.c3
    have M0c4 := M0.c4
    have M0c5 := M0.c5
    have M0l := M0.1
    go_wp2_with fail
    refine (specIsMo_any _ _ _ _ _ _ _).mono ?_
    rintro e w1 ⟨rfl, hb1⟩
    have M1 : Km (w.heap.size) a b c d x y w1 := Km.call M0 hb1
    have B1 : Below w.heap.size w w1 := bstep B0 hb1
    clear hb1 B0 M0
    have M1c0 := M1.c0
    have M1c1 := M1.c1
    have M1c2 := M1.c2
    have M1c3 := M1.c3
    have M1c4 := M1.c4
    have M1c5 := M1.c5
    have M1l := M1.1
    have M1n : ¬ w.heap.size = w1.heap.size := by omega
    go_wp2
    go_ret
    refine ⟨ret_str EA.out.symm, ?_⟩
    repeat (first | with_reducible assumption | with_reducible exact Below.refl _ _ | with_reducible refine Below.setCell ?_ (by first | omega | (simp <;> omega)) _ | with_reducible refine Below.alloc ?_ (by first | omega | (simp <;> omega)) _ | with_reducible refine bstep ?_ (by with_reducible assumption) | with_reducible refine Below.drew ?_)
  · have EA := Lib.hid (show mottS a b c d x y = motS a b c d x y by simp [mottS, hm])
    obtain ⟨s1, s2⟩ := mot_add (motB_lim hm) (motB_vec hm)
    have e1 : mtextS a b c d = matS a b c d := by simp [mtextS, motB_mat hm]
    have e2 : textS x y = vecS x y := by simp [textS, motB_vec hm]
    have M0 : Km (w.heap.size) a b c d x y (w.alloc (.cells #[.int .i64 a, .int .i64 b, .int .i64 c, .int .i64 d, .int .i64 x, .int .i64 y] 29)) := (Km.at (w.heap.size) rfl)
    have B0 : Below w.heap.size w (w.alloc (.cells #[.int .i64 a, .int .i64 b, .int .i64 c, .int .i64 d, .int .i64 x, .int .i64 y] 29)) := (Below.alloc (Below.refl _ _) (by first | with_reducible exact Nat.le_refl _ | (simp <;> omega)) _)
    go_enter Tryz.func12, Tryz.ntmps12
    have M0c0 := M0.c0
    have M0c1 := M0.c1
    have M0c2 := M0.c2
    have M0c3 := M0.c3
    have M0c4 := M0.c4
    have M0c5 := M0.c5
    have M0l := M0.1
    go_wp2_with fail
    refine (specIsMo_any _ _ _ _ _ _ _).mono ?_
    rintro e w1 ⟨rfl, hb1⟩
    have M1 : Km (w.heap.size) a b c d x y w1 := Km.call M0 hb1
    have B1 : Below w.heap.size w w1 := bstep B0 hb1
    clear hb1 B0 M0
    have M1lt := M1.1
    go_wp2_with fail
    go_region_held3 (fun W => (W.cell? ⟨w.heap.size, 0, none⟩ = some (.int .i64 a) ∧ W.cell? ⟨w.heap.size, 1, none⟩ = some (.int .i64 b) ∧ W.cell? ⟨w.heap.size, 2, none⟩ = some (.int .i64 c) ∧ W.cell? ⟨w.heap.size, 3, none⟩ = some (.int .i64 d) ∧ W.cell? ⟨w.heap.size, 4, none⟩ = some (.int .i64 x) ∧ W.cell? ⟨w.heap.size, 5, none⟩ = some (.int .i64 y))) ((refine Km.cells ?_ <;> repeat (first | with_reducible assumption | with_reducible refine Km.drew ?_ | with_reducible refine Km.alloc ?_ _ | with_reducible refine Km.call ?_ (by with_reducible assumption) | ((with_reducible refine Km.put ?_ ?_); (first | omega | (dsimp only; omega))) | ((with_reducible refine Km.far ?_ ?_); (first | omega | (dsimp only; omega))))))
      (first
        | (go_at_call 33; ((with_reducible refine (specMText_any _ _ _ _ _).mono ?_); rintro e w2 ⟨he, hb2⟩; rw [e1] at he; subst he; have M2 : Km (w.heap.size) a b c d x y w2 := (by repeat (first | with_reducible assumption | with_reducible refine Km.drew ?_ | with_reducible refine Km.alloc ?_ _ | with_reducible refine Km.call ?_ (by with_reducible assumption))); have M2l := M2.1; have B2 : Below w.heap.size w w2 := (by repeat (first | with_reducible assumption | with_reducible refine Below.drew ?_ | with_reducible refine Below.alloc ?_ (by first | omega | (have := B1.size; simp <;> omega)) _ | with_reducible refine bstep ?_ (by with_reducible assumption)))))
        | (go_at_call 34; ((with_reducible refine (specText_any _ _ _).mono ?_); rintro e w3 ⟨he, hb3⟩; rw [e2] at he; subst he; have M3 : Km (w.heap.size) a b c d x y w3 := (by repeat (first | with_reducible assumption | with_reducible refine Km.drew ?_ | with_reducible refine Km.alloc ?_ _ | with_reducible refine Km.call ?_ (by with_reducible assumption))); have M3l := M3.1; have B3 : Below w.heap.size w w3 := (by repeat (first | with_reducible assumption | with_reducible refine Below.drew ?_ | with_reducible refine Below.alloc ?_ (by first | omega | (have := B1.size; simp <;> omega)) _ | with_reducible refine bstep ?_ (by with_reducible assumption))))))
    all_goals
      go_wp2
      go_ret
      refine ⟨ret_str EA.out.symm, ?_⟩
      repeat (first | with_reducible assumption | with_reducible exact Below.refl _ _ | with_reducible refine Below.setCell ?_ (by first | omega | (simp <;> omega)) _ | with_reducible refine Below.alloc ?_ (by first | omega | (simp <;> omega)) _ | with_reducible refine bstep ?_ (by with_reducible assumption) | with_reducible refine Below.drew ?_)

end Go.Proofs.YtpdekopmnchanabGreatDoor
