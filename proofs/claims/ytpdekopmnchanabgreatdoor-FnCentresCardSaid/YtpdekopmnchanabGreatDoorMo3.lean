/-
  Contracts of the model's small functions on motions (chapter 5). Conditions: those stated.
-/
import Derived.Test.YtpdekopmnchanabGreatDoorMo1
namespace Go.Proofs.YtpdekopmnchanabGreatDoor
open Go.RowKit
set_option linter.unusedSimpArgs false
set_option linter.unusedVariables false

set_option maxRecDepth 100000 in
set_option maxHeartbeats 1000000 in
theorem specIsMo_any (a b c d x y : Int) (w : World) :
    Calls Tryz.prog 20 #[.agg #[.int .i64 a, .int .i64 b, .int .i64 c, .int .i64 d, .int .i64 x, .int .i64 y]] w fun e w' => e = .returned (.bool (motB a b c d x y)) ∧ Below w.heap.size w w' := by
  rcases hm : matB a b c d with _ | _
  · have EA := Lib.hid (show motB a b c d x y = false by simp [motB, hm])
    have M0 : Km (w.heap.size) a b c d x y (w.alloc (.cells #[.int .i64 a, .int .i64 b, .int .i64 c, .int .i64 d, .int .i64 x, .int .i64 y] 29)) := (Km.at (w.heap.size) rfl)
    have B0 : Below w.heap.size w (w.alloc (.cells #[.int .i64 a, .int .i64 b, .int .i64 c, .int .i64 d, .int .i64 x, .int .i64 y] 29)) := (Below.alloc (Below.refl _ _) (by first | with_reducible exact Nat.le_refl _ | (simp <;> omega)) _)
    go_enter Tryz.func20, Tryz.ntmps20
    have M0c0 := M0.c0
    have M0c1 := M0.c1
    have M0c2 := M0.c2
    have M0c3 := M0.c3
    have M0c4 := M0.c4
    have M0c5 := M0.c5
    have M0l := M0.1
    go_wp2_with fail
    refine (specIsMat_any _ _ _ _ _).mono ?_
    rintro e w1 ⟨rfl, hb1⟩
    have M1 : Km (w.heap.size) a b c d x y w1 := Km.call M0 hb1
    have B1 : Below w.heap.size w w1 := bstep B0 hb1
    clear hb1 B0 M0
    have M1c0 := M1.c0
    have M1c1 := M1.c1
    have M1c2 := M1.c2
    have M1c3 := M1.c3
    have M1c4 := M1.c4
    have M1c5 := M1.c5
    have M1l := M1.1
    have M1n : ¬ w.heap.size = w1.heap.size := by omega
    go_wp2
    go_ret
    refine ⟨ret_bool EA.out.symm, ?_⟩
    repeat (first | with_reducible assumption | with_reducible exact Below.refl _ _ | with_reducible refine Below.setCell ?_ (by first | omega | (simp <;> omega)) _ | with_reducible refine Below.alloc ?_ (by first | omega | (simp <;> omega)) _ | with_reducible refine bstep ?_ (by with_reducible assumption) | with_reducible refine Below.drew ?_)
  rcases ho : (kindI a b c d != 0) with _ | _
  · have EA := Lib.hid (show motB a b c d x y = false by simp [motB, hm, ho])
    have M0 : Km (w.heap.size) a b c d x y (w.alloc (.cells #[.int .i64 a, .int .i64 b, .int .i64 c, .int .i64 d, .int .i64 x, .int .i64 y] 29)) := (Km.at (w.heap.size) rfl)
    have B0 : Below w.heap.size w (w.alloc (.cells #[.int .i64 a, .int .i64 b, .int .i64 c, .int .i64 d, .int .i64 x, .int .i64 y] 29)) := (Below.alloc (Below.refl _ _) (by first | with_reducible exact Nat.le_refl _ | (simp <;> omega)) _)
    go_enter Tryz.func20, Tryz.ntmps20
    have M0c0 := M0.c0
    have M0c1 := M0.c1
    have M0c2 := M0.c2
    have M0c3 := M0.c3
    have M0c4 := M0.c4
    have M0c5 := M0.c5
    have M0l := M0.1
    go_wp2_with fail
    refine (specIsMat_any _ _ _ _ _).mono ?_
    rintro e w1 ⟨rfl, hb1⟩
    have M1 : Km (w.heap.size) a b c d x y w1 := Km.call M0 hb1
    have B1 : Below w.heap.size w w1 := bstep B0 hb1
    clear hb1 B0 M0
    have M1c0 := M1.c0
    have M1c1 := M1.c1
    have M1c2 := M1.c2
    have M1c3 := M1.c3
    have M1c4 := M1.c4
    have M1c5 := M1.c5
    have M1l := M1.1
    have M1n : ¬ w.heap.size = w1.heap.size := by omega
    go_wp2_with fail
    refine (l02Kind_any _ _ _ _ _ (matB_lim hm)).mono ?_
    rintro e w2 ⟨rfl, hb2⟩
    have M2 : Km (w.heap.size) a b c d x y w2 := Km.call M1 hb2
    have B2 : Below w.heap.size w w2 := bstep B1 hb2
    clear hb2 B1 M1
    have M2c0 := M2.c0
    have M2c1 := M2.c1
    have M2c2 := M2.c2
    have M2c3 := M2.c3
    have M2c4 := M2.c4
    have M2c5 := M2.c5
    have M2l := M2.1
    have M2n : ¬ w.heap.size = w2.heap.size := by omega
    go_wp2
    go_ret
    refine ⟨ret_bool EA.out.symm, ?_⟩
    repeat (first | with_reducible assumption | with_reducible exact Below.refl _ _ | with_reducible refine Below.setCell ?_ (by first | omega | (simp <;> omega)) _ | with_reducible refine Below.alloc ?_ (by first | omega | (simp <;> omega)) _ | with_reducible refine bstep ?_ (by with_reducible assumption) | with_reducible refine Below.drew ?_)
  · have EA := Lib.hid (show motB a b c d x y = vecB x y by rw [motB, ho, hm]; rfl)
    have M0 : Km (w.heap.size) a b c d x y (w.alloc (.cells #[.int .i64 a, .int .i64 b, .int .i64 c, .int .i64 d, .int .i64 x, .int .i64 y] 29)) := (Km.at (w.heap.size) rfl)
    have B0 : Below w.heap.size w (w.alloc (.cells #[.int .i64 a, .int .i64 b, .int .i64 c, .int .i64 d, .int .i64 x, .int .i64 y] 29)) := (Below.alloc (Below.refl _ _) (by first | with_reducible exact Nat.le_refl _ | (simp <;> omega)) _)
    go_enter Tryz.func20, Tryz.ntmps20
    have M0c0 := M0.c0
    have M0c1 := M0.c1
    have M0c2 := M0.c2
    have M0c3 := M0.c3
    have M0c4 := M0.c4
    have M0c5 := M0.c5
    have M0l := M0.1
    go_wp2_with fail
    refine (specIsMat_any _ _ _ _ _).mono ?_
    rintro e w1 ⟨rfl, hb1⟩
    have M1 : Km (w.heap.size) a b c d x y w1 := Km.call M0 hb1
    have B1 : Below w.heap.size w w1 := bstep B0 hb1
    clear hb1 B0 M0
    have M1c0 := M1.c0
    have M1c1 := M1.c1
    have M1c2 := M1.c2
    have M1c3 := M1.c3
    have M1c4 := M1.c4
    have M1c5 := M1.c5
    have M1l := M1.1
    have M1n : ¬ w.heap.size = w1.heap.size := by omega
    go_wp2_with fail
    refine (l02Kind_any _ _ _ _ _ (matB_lim hm)).mono ?_
    rintro e w2 ⟨rfl, hb2⟩
    have M2 : Km (w.heap.size) a b c d x y w2 := Km.call M1 hb2
    have B2 : Below w.heap.size w w2 := bstep B1 hb2
    clear hb2 B1 M1
    have M2c0 := M2.c0
    have M2c1 := M2.c1
    have M2c2 := M2.c2
    have M2c3 := M2.c3
    have M2c4 := M2.c4
    have M2c5 := M2.c5
    have M2l := M2.1
    have M2n : ¬ w.heap.size = w2.heap.size := by omega
    go_wp2_with fail
    refine (specIsVec_any _ _ _).mono ?_
    rintro e w3 ⟨rfl, hb3⟩
    have M3 : Km (w.heap.size) a b c d x y w3 := Km.call M2 hb3
    have B3 : Below w.heap.size w w3 := bstep B2 hb3
    clear hb3 B2 M2
    have M3c0 := M3.c0
    have M3c1 := M3.c1
    have M3c2 := M3.c2
    have M3c3 := M3.c3
    have M3c4 := M3.c4
    have M3c5 := M3.c5
    have M3l := M3.1
    have M3n : ¬ w.heap.size = w3.heap.size := by omega
    go_wp2
    go_ret
    refine ⟨ret_bool EA.out.symm, ?_⟩
    repeat (first | with_reducible assumption | with_reducible exact Below.refl _ _ | with_reducible refine Below.setCell ?_ (by first | omega | (simp <;> omega)) _ | with_reducible refine Below.alloc ?_ (by first | omega | (simp <;> omega)) _ | with_reducible refine bstep ?_ (by with_reducible assumption) | with_reducible refine Below.drew ?_)

set_option maxRecDepth 100000 in
set_option maxHeartbeats 1000000 in
theorem l05Twice_any (a b c d x y : Int) (w : World) (hl : limB a b c d = true) (hv : vecB x y = true) :
    Calls Tryz.prog 52 #[.agg #[.int .i64 a, .int .i64 b, .int .i64 c, .int .i64 d, .int .i64 x, .int .i64 y]] w fun e w' => e = .returned (.agg #[.int .i64 (a * x + b * y + x), .int .i64 (c * x + d * y + y)]) ∧ Below w.heap.size w w' := by
  have S1 : -1000000000 ≤ a * x + b * y + x ∧ a * x + b * y + x ≤ 1000000000 := by
    obtain ⟨⟨ha, hb⟩, hc, hd⟩ := limB_bd hl
    obtain ⟨hx, hy⟩ := vecB_bd hv
    have e1 := mul1000 ha hx
    have e2 := mul1000 hb hy
    omega
  have S2 : -1000000000 ≤ c * x + d * y + y ∧ c * x + d * y + y ≤ 1000000000 := by
    obtain ⟨⟨ha, hb⟩, hc, hd⟩ := limB_bd hl
    obtain ⟨hx, hy⟩ := vecB_bd hv
    have e1 := mul1000 hc hx
    have e2 := mul1000 hd hy
    omega
  have M0 : Km (w.heap.size) a b c d x y ((w.alloc (.cells #[.int .i64 a, .int .i64 b, .int .i64 c, .int .i64 d, .int .i64 x, .int .i64 y] 29)).alloc (.cells #[.int .i64 0, .int .i64 0] 27)) := ((Km.at (w.heap.size) rfl).alloc _)
  have R0 : KV (w.heap.size + 1) 0 0 ((w.alloc (.cells #[.int .i64 a, .int .i64 b, .int .i64 c, .int .i64 d, .int .i64 x, .int .i64 y] 29)).alloc (.cells #[.int .i64 0, .int .i64 0] 27)) := (KV.at (w.heap.size + 1) (by simp))
  have B0 : Below w.heap.size w ((w.alloc (.cells #[.int .i64 a, .int .i64 b, .int .i64 c, .int .i64 d, .int .i64 x, .int .i64 y] 29)).alloc (.cells #[.int .i64 0, .int .i64 0] 27)) := (Below.alloc (Below.alloc (Below.refl _ _) (by first | with_reducible exact Nat.le_refl _ | (simp <;> omega)) _) (by first | with_reducible exact Nat.le_refl _ | (simp <;> omega)) _)
  go_enter Tryz.func52, Tryz.ntmps52
  have M0lt := M0.1
  have R0lt := R0.lt
  go_wp2_with fail
  go_region_held3 (fun W => (W.cell? ⟨w.heap.size, 0, none⟩ = some (.int .i64 a) ∧ W.cell? ⟨w.heap.size, 1, none⟩ = some (.int .i64 b) ∧ W.cell? ⟨w.heap.size, 2, none⟩ = some (.int .i64 c) ∧ W.cell? ⟨w.heap.size, 3, none⟩ = some (.int .i64 d) ∧ W.cell? ⟨w.heap.size, 4, none⟩ = some (.int .i64 x) ∧ W.cell? ⟨w.heap.size, 5, none⟩ = some (.int .i64 y))) ((refine Km.cells ?_ <;> repeat (first | with_reducible assumption | with_reducible refine KV.drew ?_ | with_reducible refine KV.alloc ?_ _ | with_reducible refine KV.call ?_ (by with_reducible assumption) | with_reducible refine Km.drew ?_ | with_reducible refine Km.alloc ?_ _ | with_reducible refine Km.call ?_ (by with_reducible assumption) | ((with_reducible refine KV.put ?_ ?_); (first | omega | (dsimp only; omega))) | ((with_reducible refine Km.put ?_ ?_); (first | omega | (dsimp only; omega))) | ((with_reducible refine KV.far5 ?_ ?_); (first | omega | (dsimp only; omega))) | ((with_reducible refine Km.far ?_ ?_); (first | omega | (dsimp only; omega))))))
    (first
      | (go_at_call 80; ((with_reducible refine (l02Apply_any _ _ _ _ _ _ _ hl hv).mono ?_); rintro e w1 ⟨rfl, hb1⟩; have M1 : Km (w.heap.size) a b c d x y w1 := (by repeat (first | with_reducible assumption | with_reducible refine KV.drew ?_ | with_reducible refine KV.alloc ?_ _ | with_reducible refine KV.call ?_ (by with_reducible assumption) | with_reducible refine Km.drew ?_ | with_reducible refine Km.alloc ?_ _ | with_reducible refine Km.call ?_ (by with_reducible assumption))); have R1 : KV (w.heap.size + 1) 0 0 w1 := (by repeat (first | with_reducible assumption | with_reducible refine KV.drew ?_ | with_reducible refine KV.alloc ?_ _ | with_reducible refine KV.call ?_ (by with_reducible assumption) | with_reducible refine Km.drew ?_ | with_reducible refine Km.alloc ?_ _ | with_reducible refine Km.call ?_ (by with_reducible assumption))); have M1l := M1.1; have R1c0 := R1.c0; have R1f0 := R1.f0; have R1c1 := R1.c1; have R1f1 := R1.f1; have R1l := R1.lt; have B1 : Below w.heap.size w w1 := (by repeat (first | with_reducible assumption | with_reducible refine Below.drew ?_ | with_reducible refine Below.alloc ?_ (by first | omega | (have := B0.size; simp <;> omega)) _ | with_reducible refine bstep ?_ (by with_reducible assumption)))))
      | (go_at_call 79; ((with_reducible refine (add5_any _ _ _ _ _ S1 S2).mono ?_); rintro e w2 ⟨rfl, hb2⟩; have M2 : Km (w.heap.size) a b c d x y w2 := (by repeat (first | with_reducible assumption | with_reducible refine KV.drew ?_ | with_reducible refine KV.alloc ?_ _ | with_reducible refine KV.call ?_ (by with_reducible assumption) | with_reducible refine Km.drew ?_ | with_reducible refine Km.alloc ?_ _ | with_reducible refine Km.call ?_ (by with_reducible assumption))); have R2 : KV (w.heap.size + 1) 0 0 w2 := (by repeat (first | with_reducible assumption | with_reducible refine KV.drew ?_ | with_reducible refine KV.alloc ?_ _ | with_reducible refine KV.call ?_ (by with_reducible assumption) | with_reducible refine Km.drew ?_ | with_reducible refine Km.alloc ?_ _ | with_reducible refine Km.call ?_ (by with_reducible assumption))); have M2l := M2.1; have R2c0 := R2.c0; have R2f0 := R2.f0; have R2c1 := R2.c1; have R2f1 := R2.f1; have R2l := R2.lt; have B2 : Below w.heap.size w w2 := (by repeat (first | with_reducible assumption | with_reducible refine Below.drew ?_ | with_reducible refine Below.alloc ?_ (by first | omega | (have := B0.size; simp <;> omega)) _ | with_reducible refine bstep ?_ (by with_reducible assumption))))))
  all_goals
    go_wp2
    refine bodyPost_ret (v := .agg #[.int .i64 (a * x + b * y + x), .int .i64 (c * x + d * y + y)]) (by simp [results, Tryz.results52, go_sem, *]) rfl ⟨rfl, ?_⟩
    repeat (first | with_reducible assumption | with_reducible exact Below.refl _ _ | with_reducible refine Below.setCell ?_ (by first | omega | (simp <;> omega)) _ | with_reducible refine Below.alloc ?_ (by first | omega | (simp <;> omega)) _ | with_reducible refine bstep ?_ (by with_reducible assumption) | with_reducible refine Below.drew ?_)

set_option maxRecDepth 100000 in
set_option maxHeartbeats 1000000 in
theorem l05Kind_any (a b c d x y : Int) (w : World) (h : motB a b c d x y = true) :
    Calls Tryz.prog 21 #[.agg #[.int .i64 a, .int .i64 b, .int .i64 c, .int .i64 d, .int .i64 x, .int .i64 y]] w fun e w' => e = .returned (.int .i64 (knd a b c d x y)) ∧ Below w.heap.size w w' := by
  have hl := motB_lim h
  have hv := motB_vec h
  rcases hd : (a * d - b * c == -1) with _ | _
  · have hr : reflB a b c d = false := by rw [← mot_refl h]; exact hd
    clear h
    by_cases hu : a = 1 ∧ b = 0 ∧ c = 0 ∧ d = 1
    · obtain ⟨rfl, rfl, rfl, rfl⟩ := hu
      by_cases hx : x = 0
      · subst hx
        by_cases hy : y = 0
        · subst hy
          have EA := Lib.hid (show knd 1 0 0 1 0 0 = 0 by rfl)
          clear hr
          have M0 : Km (w.heap.size) 1 0 0 1 0 0 (w.alloc (.cells #[.int .i64 1, .int .i64 0, .int .i64 0, .int .i64 1, .int .i64 0, .int .i64 0] 29)) := (Km.at (w.heap.size) rfl)
          have B0 : Below w.heap.size w (w.alloc (.cells #[.int .i64 1, .int .i64 0, .int .i64 0, .int .i64 1, .int .i64 0, .int .i64 0] 29)) := (Below.alloc (Below.refl _ _) (by first | with_reducible exact Nat.le_refl _ | (simp <;> omega)) _)
          go_enter Tryz.func21, Tryz.ntmps21
          have M0c0 := M0.c0
          have M0c1 := M0.c1
          have M0c2 := M0.c2
          have M0c3 := M0.c3
          have M0c4 := M0.c4
          have M0c5 := M0.c5
          have M0l := M0.1
          go_wp2_with fail
          refine (l02Det_any _ _ _ _ _ hl).mono ?_
          rintro e w1 ⟨rfl, hb1⟩
          have M1 : Km (w.heap.size) 1 0 0 1 0 0 w1 := Km.call M0 hb1
          have B1 : Below w.heap.size w w1 := bstep B0 hb1
          clear hb1 B0 M0
          have M1c0 := M1.c0
          have M1c1 := M1.c1
          have M1c2 := M1.c2
          have M1c3 := M1.c3
          have M1c4 := M1.c4
          have M1c5 := M1.c5
          have M1l := M1.1
          have M1n : ¬ w.heap.size = w1.heap.size := by omega
          go_wp2_with fail
          refine (l02Det_any _ _ _ _ _ hl).mono ?_
          rintro e w2 ⟨rfl, hb2⟩
          have M2 : Km (w.heap.size) 1 0 0 1 0 0 w2 := Km.call M1 hb2
          have B2 : Below w.heap.size w w2 := bstep B1 hb2
          clear hb2 B1 M1
          have M2c0 := M2.c0
          have M2c1 := M2.c1
          have M2c2 := M2.c2
          have M2c3 := M2.c3
          have M2c4 := M2.c4
          have M2c5 := M2.c5
          have M2l := M2.1
          have M2n : ¬ w.heap.size = w2.heap.size := by omega
          clear M2c0 M2c1 M2c2 M2c3 M2c4 M2c5 M2l M2n
          have M2lt := M2.1
          go_wp2_with fail
          go_region_held3 (fun W => (W.cell? ⟨w.heap.size, 0, none⟩ = some (.int .i64 1) ∧ W.cell? ⟨w.heap.size, 1, none⟩ = some (.int .i64 0) ∧ W.cell? ⟨w.heap.size, 2, none⟩ = some (.int .i64 0) ∧ W.cell? ⟨w.heap.size, 3, none⟩ = some (.int .i64 1) ∧ W.cell? ⟨w.heap.size, 4, none⟩ = some (.int .i64 0) ∧ W.cell? ⟨w.heap.size, 5, none⟩ = some (.int .i64 0))) ((refine Km.cells ?_ <;> repeat (first | with_reducible assumption | with_reducible refine Km.drew ?_ | with_reducible refine Km.alloc ?_ _ | with_reducible refine Km.call ?_ (by with_reducible assumption) | ((with_reducible refine Km.put ?_ ?_); (first | omega | (dsimp only; omega))) | ((with_reducible refine Km.far ?_ ?_); (first | omega | (dsimp only; omega))))))
            (first
              | (go_at_call 37; ((with_reducible refine (l02Unit_any _).mono ?_); rintro e w3 ⟨rfl, hb3⟩; have M3 : Km (w.heap.size) 1 0 0 1 0 0 w3 := (by repeat (first | with_reducible assumption | with_reducible refine Km.drew ?_ | with_reducible refine Km.alloc ?_ _ | with_reducible refine Km.call ?_ (by with_reducible assumption))); have M3l := M3.1; have B3 : Below w.heap.size w w3 := (by repeat (first | with_reducible assumption | with_reducible refine Below.drew ?_ | with_reducible refine Below.alloc ?_ (by first | omega | (have := B2.size; simp <;> omega)) _ | with_reducible refine bstep ?_ (by with_reducible assumption))))))
          all_goals
            have ML := M3.1
            have MC0 := M3.c0
            have MC1 := M3.c1
            have MC2 := M3.c2
            have MC3 := M3.c3
            have MC4 := M3.c4
            have MC5 := M3.c5
            go_wp2
            go_ret
            refine ⟨ret_int EA.out.symm, ?_⟩
            repeat (first | with_reducible assumption | with_reducible exact Below.refl _ _ | with_reducible refine Below.setCell ?_ (by first | omega | (simp <;> omega)) _ | with_reducible refine Below.alloc ?_ (by first | omega | (simp <;> omega)) _ | with_reducible refine bstep ?_ (by with_reducible assumption) | with_reducible refine Below.drew ?_)
        · have hy1 : (y == 0) = false := by simpa using hy
          have EA := Lib.hid (show knd 1 0 0 1 0 y = 1 by simp [knd, hr, hy1, unitB])
          clear hr
          have M0 : Km (w.heap.size) 1 0 0 1 0 y (w.alloc (.cells #[.int .i64 1, .int .i64 0, .int .i64 0, .int .i64 1, .int .i64 0, .int .i64 y] 29)) := (Km.at (w.heap.size) rfl)
          have B0 : Below w.heap.size w (w.alloc (.cells #[.int .i64 1, .int .i64 0, .int .i64 0, .int .i64 1, .int .i64 0, .int .i64 y] 29)) := (Below.alloc (Below.refl _ _) (by first | with_reducible exact Nat.le_refl _ | (simp <;> omega)) _)
          go_enter Tryz.func21, Tryz.ntmps21
          have M0c0 := M0.c0
          have M0c1 := M0.c1
          have M0c2 := M0.c2
          have M0c3 := M0.c3
          have M0c4 := M0.c4
          have M0c5 := M0.c5
          have M0l := M0.1
          go_wp2_with fail
          refine (l02Det_any _ _ _ _ _ hl).mono ?_
          rintro e w1 ⟨rfl, hb1⟩
          have M1 : Km (w.heap.size) 1 0 0 1 0 y w1 := Km.call M0 hb1
          have B1 : Below w.heap.size w w1 := bstep B0 hb1
          clear hb1 B0 M0
          have M1c0 := M1.c0
          have M1c1 := M1.c1
          have M1c2 := M1.c2
          have M1c3 := M1.c3
          have M1c4 := M1.c4
          have M1c5 := M1.c5
          have M1l := M1.1
          have M1n : ¬ w.heap.size = w1.heap.size := by omega
          go_wp2_with fail
          refine (l02Det_any _ _ _ _ _ hl).mono ?_
          rintro e w2 ⟨rfl, hb2⟩
          have M2 : Km (w.heap.size) 1 0 0 1 0 y w2 := Km.call M1 hb2
          have B2 : Below w.heap.size w w2 := bstep B1 hb2
          clear hb2 B1 M1
          have M2c0 := M2.c0
          have M2c1 := M2.c1
          have M2c2 := M2.c2
          have M2c3 := M2.c3
          have M2c4 := M2.c4
          have M2c5 := M2.c5
          have M2l := M2.1
          have M2n : ¬ w.heap.size = w2.heap.size := by omega
          clear M2c0 M2c1 M2c2 M2c3 M2c4 M2c5 M2l M2n
          have M2lt := M2.1
          go_wp2_with fail
          go_region_held3 (fun W => (W.cell? ⟨w.heap.size, 0, none⟩ = some (.int .i64 1) ∧ W.cell? ⟨w.heap.size, 1, none⟩ = some (.int .i64 0) ∧ W.cell? ⟨w.heap.size, 2, none⟩ = some (.int .i64 0) ∧ W.cell? ⟨w.heap.size, 3, none⟩ = some (.int .i64 1) ∧ W.cell? ⟨w.heap.size, 4, none⟩ = some (.int .i64 0) ∧ W.cell? ⟨w.heap.size, 5, none⟩ = some (.int .i64 y))) ((refine Km.cells ?_ <;> repeat (first | with_reducible assumption | with_reducible refine Km.drew ?_ | with_reducible refine Km.alloc ?_ _ | with_reducible refine Km.call ?_ (by with_reducible assumption) | ((with_reducible refine Km.put ?_ ?_); (first | omega | (dsimp only; omega))) | ((with_reducible refine Km.far ?_ ?_); (first | omega | (dsimp only; omega))))))
            (first
              | (go_at_call 37; ((with_reducible refine (l02Unit_any _).mono ?_); rintro e w3 ⟨rfl, hb3⟩; have M3 : Km (w.heap.size) 1 0 0 1 0 y w3 := (by repeat (first | with_reducible assumption | with_reducible refine Km.drew ?_ | with_reducible refine Km.alloc ?_ _ | with_reducible refine Km.call ?_ (by with_reducible assumption))); have M3l := M3.1; have B3 : Below w.heap.size w w3 := (by repeat (first | with_reducible assumption | with_reducible refine Below.drew ?_ | with_reducible refine Below.alloc ?_ (by first | omega | (have := B2.size; simp <;> omega)) _ | with_reducible refine bstep ?_ (by with_reducible assumption))))))
          all_goals
            have ML := M3.1
            have MC0 := M3.c0
            have MC1 := M3.c1
            have MC2 := M3.c2
            have MC3 := M3.c3
            have MC4 := M3.c4
            have MC5 := M3.c5
            go_wp2
            go_ret
            refine ⟨ret_int EA.out.symm, ?_⟩
            repeat (first | with_reducible assumption | with_reducible exact Below.refl _ _ | with_reducible refine Below.setCell ?_ (by first | omega | (simp <;> omega)) _ | with_reducible refine Below.alloc ?_ (by first | omega | (simp <;> omega)) _ | with_reducible refine bstep ?_ (by with_reducible assumption) | with_reducible refine Below.drew ?_)
      · have hx1 : (x == 0) = false := by simpa using hx
        have EA := Lib.hid (show knd 1 0 0 1 x y = 1 by simp [knd, hr, hx1, unitB])
        clear hr
        have M0 : Km (w.heap.size) 1 0 0 1 x y (w.alloc (.cells #[.int .i64 1, .int .i64 0, .int .i64 0, .int .i64 1, .int .i64 x, .int .i64 y] 29)) := (Km.at (w.heap.size) rfl)
        have B0 : Below w.heap.size w (w.alloc (.cells #[.int .i64 1, .int .i64 0, .int .i64 0, .int .i64 1, .int .i64 x, .int .i64 y] 29)) := (Below.alloc (Below.refl _ _) (by first | with_reducible exact Nat.le_refl _ | (simp <;> omega)) _)
        go_enter Tryz.func21, Tryz.ntmps21
        have M0c0 := M0.c0
        have M0c1 := M0.c1
        have M0c2 := M0.c2
        have M0c3 := M0.c3
        have M0c4 := M0.c4
        have M0c5 := M0.c5
        have M0l := M0.1
        go_wp2_with fail
        refine (l02Det_any _ _ _ _ _ hl).mono ?_
        rintro e w1 ⟨rfl, hb1⟩
        have M1 : Km (w.heap.size) 1 0 0 1 x y w1 := Km.call M0 hb1
        have B1 : Below w.heap.size w w1 := bstep B0 hb1
        clear hb1 B0 M0
        have M1c0 := M1.c0
        have M1c1 := M1.c1
        have M1c2 := M1.c2
        have M1c3 := M1.c3
        have M1c4 := M1.c4
        have M1c5 := M1.c5
        have M1l := M1.1
        have M1n : ¬ w.heap.size = w1.heap.size := by omega
        go_wp2_with fail
        refine (l02Det_any _ _ _ _ _ hl).mono ?_
        rintro e w2 ⟨rfl, hb2⟩
        have M2 : Km (w.heap.size) 1 0 0 1 x y w2 := Km.call M1 hb2
        have B2 : Below w.heap.size w w2 := bstep B1 hb2
        clear hb2 B1 M1
        have M2c0 := M2.c0
        have M2c1 := M2.c1
        have M2c2 := M2.c2
        have M2c3 := M2.c3
        have M2c4 := M2.c4
        have M2c5 := M2.c5
        have M2l := M2.1
        have M2n : ¬ w.heap.size = w2.heap.size := by omega
        clear M2c0 M2c1 M2c2 M2c3 M2c4 M2c5 M2l M2n
        have M2lt := M2.1
        go_wp2_with fail
        go_region_held3 (fun W => (W.cell? ⟨w.heap.size, 0, none⟩ = some (.int .i64 1) ∧ W.cell? ⟨w.heap.size, 1, none⟩ = some (.int .i64 0) ∧ W.cell? ⟨w.heap.size, 2, none⟩ = some (.int .i64 0) ∧ W.cell? ⟨w.heap.size, 3, none⟩ = some (.int .i64 1) ∧ W.cell? ⟨w.heap.size, 4, none⟩ = some (.int .i64 x) ∧ W.cell? ⟨w.heap.size, 5, none⟩ = some (.int .i64 y))) ((refine Km.cells ?_ <;> repeat (first | with_reducible assumption | with_reducible refine Km.drew ?_ | with_reducible refine Km.alloc ?_ _ | with_reducible refine Km.call ?_ (by with_reducible assumption) | ((with_reducible refine Km.put ?_ ?_); (first | omega | (dsimp only; omega))) | ((with_reducible refine Km.far ?_ ?_); (first | omega | (dsimp only; omega))))))
          (first
            | (go_at_call 37; ((with_reducible refine (l02Unit_any _).mono ?_); rintro e w3 ⟨rfl, hb3⟩; have M3 : Km (w.heap.size) 1 0 0 1 x y w3 := (by repeat (first | with_reducible assumption | with_reducible refine Km.drew ?_ | with_reducible refine Km.alloc ?_ _ | with_reducible refine Km.call ?_ (by with_reducible assumption))); have M3l := M3.1; have B3 : Below w.heap.size w w3 := (by repeat (first | with_reducible assumption | with_reducible refine Below.drew ?_ | with_reducible refine Below.alloc ?_ (by first | omega | (have := B2.size; simp <;> omega)) _ | with_reducible refine bstep ?_ (by with_reducible assumption))))))
        all_goals
          have ML := M3.1
          have MC0 := M3.c0
          have MC1 := M3.c1
          have MC2 := M3.c2
          have MC3 := M3.c3
          have MC4 := M3.c4
          have MC5 := M3.c5
          go_wp2
          go_ret
          refine ⟨ret_int EA.out.symm, ?_⟩
          repeat (first | with_reducible assumption | with_reducible exact Below.refl _ _ | with_reducible refine Below.setCell ?_ (by first | omega | (simp <;> omega)) _ | with_reducible refine Below.alloc ?_ (by first | omega | (simp <;> omega)) _ | with_reducible refine bstep ?_ (by with_reducible assumption) | with_reducible refine Below.drew ?_)
    · have hun : unitB a b c d = false := by
        rcases hq : unitB a b c d with _ | _
        · rfl
        · exfalso; apply hu; simp [unitB] at hq; omega
      have EA := Lib.hid (show knd a b c d x y = 2 by simp [knd, hr, hun])
      clear hr hun
      by_cases e0 : a = 1
      · subst e0
        by_cases e1 : b = 0
        · subst e1
          by_cases e2 : c = 0
          · subst e2
            by_cases e3 : d = 1
            · exact absurd ⟨rfl, rfl, rfl, e3⟩ hu
            · have n3 : (d == 1) = false := by simpa using e3
              have hd' := hd
              simp at hd'
              have M0 : Km (w.heap.size) 1 0 0 d x y (w.alloc (.cells #[.int .i64 1, .int .i64 0, .int .i64 0, .int .i64 d, .int .i64 x, .int .i64 y] 29)) := (Km.at (w.heap.size) rfl)
              have B0 : Below w.heap.size w (w.alloc (.cells #[.int .i64 1, .int .i64 0, .int .i64 0, .int .i64 d, .int .i64 x, .int .i64 y] 29)) := (Below.alloc (Below.refl _ _) (by first | with_reducible exact Nat.le_refl _ | (simp <;> omega)) _)
              go_enter Tryz.func21, Tryz.ntmps21
              have M0c0 := M0.c0
              have M0c1 := M0.c1
              have M0c2 := M0.c2
              have M0c3 := M0.c3
              have M0c4 := M0.c4
              have M0c5 := M0.c5
              have M0l := M0.1
              go_wp2_with fail
              refine (l02Det_any _ _ _ _ _ hl).mono ?_
              rintro e w1 ⟨rfl, hb1⟩
              have M1 : Km (w.heap.size) 1 0 0 d x y w1 := Km.call M0 hb1
              have B1 : Below w.heap.size w w1 := bstep B0 hb1
              clear hb1 B0 M0
              have M1c0 := M1.c0
              have M1c1 := M1.c1
              have M1c2 := M1.c2
              have M1c3 := M1.c3
              have M1c4 := M1.c4
              have M1c5 := M1.c5
              have M1l := M1.1
              have M1n : ¬ w.heap.size = w1.heap.size := by omega
              go_wp2_with fail
              refine (l02Det_any _ _ _ _ _ hl).mono ?_
              rintro e w2 ⟨rfl, hb2⟩
              have M2 : Km (w.heap.size) 1 0 0 d x y w2 := Km.call M1 hb2
              have B2 : Below w.heap.size w w2 := bstep B1 hb2
              clear hb2 B1 M1
              have M2c0 := M2.c0
              have M2c1 := M2.c1
              have M2c2 := M2.c2
              have M2c3 := M2.c3
              have M2c4 := M2.c4
              have M2c5 := M2.c5
              have M2l := M2.1
              have M2n : ¬ w.heap.size = w2.heap.size := by omega
              clear M2c0 M2c1 M2c2 M2c3 M2c4 M2c5 M2l M2n
              have M2lt := M2.1
              go_wp2_with fail
              go_region_held3 (fun W => (W.cell? ⟨w.heap.size, 0, none⟩ = some (.int .i64 1) ∧ W.cell? ⟨w.heap.size, 1, none⟩ = some (.int .i64 0) ∧ W.cell? ⟨w.heap.size, 2, none⟩ = some (.int .i64 0) ∧ W.cell? ⟨w.heap.size, 3, none⟩ = some (.int .i64 d) ∧ W.cell? ⟨w.heap.size, 4, none⟩ = some (.int .i64 x) ∧ W.cell? ⟨w.heap.size, 5, none⟩ = some (.int .i64 y))) ((refine Km.cells ?_ <;> repeat (first | with_reducible assumption | with_reducible refine Km.drew ?_ | with_reducible refine Km.alloc ?_ _ | with_reducible refine Km.call ?_ (by with_reducible assumption) | ((with_reducible refine Km.put ?_ ?_); (first | omega | (dsimp only; omega))) | ((with_reducible refine Km.far ?_ ?_); (first | omega | (dsimp only; omega))))))
                (first
                  | (go_at_call 37; ((with_reducible refine (l02Unit_any _).mono ?_); rintro e w3 ⟨rfl, hb3⟩; have M3 : Km (w.heap.size) 1 0 0 d x y w3 := (by repeat (first | with_reducible assumption | with_reducible refine Km.drew ?_ | with_reducible refine Km.alloc ?_ _ | with_reducible refine Km.call ?_ (by with_reducible assumption))); have M3l := M3.1; have B3 : Below w.heap.size w w3 := (by repeat (first | with_reducible assumption | with_reducible refine Below.drew ?_ | with_reducible refine Below.alloc ?_ (by first | omega | (have := B2.size; simp <;> omega)) _ | with_reducible refine bstep ?_ (by with_reducible assumption))))))
              all_goals
                have ML := M3.1
                have MC0 := M3.c0
                have MC1 := M3.c1
                have MC2 := M3.c2
                have MC3 := M3.c3
                have MC4 := M3.c4
                have MC5 := M3.c5
                go_wp2
                go_ret
                refine ⟨ret_int EA.out.symm, ?_⟩
                repeat (first | with_reducible assumption | with_reducible exact Below.refl _ _ | with_reducible refine Below.setCell ?_ (by first | omega | (simp <;> omega)) _ | with_reducible refine Below.alloc ?_ (by first | omega | (simp <;> omega)) _ | with_reducible refine bstep ?_ (by with_reducible assumption) | with_reducible refine Below.drew ?_)
          · have n2 : (c == 0) = false := by simpa using e2
            have hd' := hd
            simp at hd'
            have M0 : Km (w.heap.size) 1 0 c d x y (w.alloc (.cells #[.int .i64 1, .int .i64 0, .int .i64 c, .int .i64 d, .int .i64 x, .int .i64 y] 29)) := (Km.at (w.heap.size) rfl)
            have B0 : Below w.heap.size w (w.alloc (.cells #[.int .i64 1, .int .i64 0, .int .i64 c, .int .i64 d, .int .i64 x, .int .i64 y] 29)) := (Below.alloc (Below.refl _ _) (by first | with_reducible exact Nat.le_refl _ | (simp <;> omega)) _)
            go_enter Tryz.func21, Tryz.ntmps21
            have M0c0 := M0.c0
            have M0c1 := M0.c1
            have M0c2 := M0.c2
            have M0c3 := M0.c3
            have M0c4 := M0.c4
            have M0c5 := M0.c5
            have M0l := M0.1
            go_wp2_with fail
            refine (l02Det_any _ _ _ _ _ hl).mono ?_
            rintro e w1 ⟨rfl, hb1⟩
            have M1 : Km (w.heap.size) 1 0 c d x y w1 := Km.call M0 hb1
            have B1 : Below w.heap.size w w1 := bstep B0 hb1
            clear hb1 B0 M0
            have M1c0 := M1.c0
            have M1c1 := M1.c1
            have M1c2 := M1.c2
            have M1c3 := M1.c3
            have M1c4 := M1.c4
            have M1c5 := M1.c5
            have M1l := M1.1
            have M1n : ¬ w.heap.size = w1.heap.size := by omega
            go_wp2_with fail
            refine (l02Det_any _ _ _ _ _ hl).mono ?_
            rintro e w2 ⟨rfl, hb2⟩
            have M2 : Km (w.heap.size) 1 0 c d x y w2 := Km.call M1 hb2
            have B2 : Below w.heap.size w w2 := bstep B1 hb2
            clear hb2 B1 M1
            have M2c0 := M2.c0
            have M2c1 := M2.c1
            have M2c2 := M2.c2
            have M2c3 := M2.c3
            have M2c4 := M2.c4
            have M2c5 := M2.c5
            have M2l := M2.1
            have M2n : ¬ w.heap.size = w2.heap.size := by omega
            clear M2c0 M2c1 M2c2 M2c3 M2c4 M2c5 M2l M2n
            have M2lt := M2.1
            go_wp2_with fail
            go_region_held3 (fun W => (W.cell? ⟨w.heap.size, 0, none⟩ = some (.int .i64 1) ∧ W.cell? ⟨w.heap.size, 1, none⟩ = some (.int .i64 0) ∧ W.cell? ⟨w.heap.size, 2, none⟩ = some (.int .i64 c) ∧ W.cell? ⟨w.heap.size, 3, none⟩ = some (.int .i64 d) ∧ W.cell? ⟨w.heap.size, 4, none⟩ = some (.int .i64 x) ∧ W.cell? ⟨w.heap.size, 5, none⟩ = some (.int .i64 y))) ((refine Km.cells ?_ <;> repeat (first | with_reducible assumption | with_reducible refine Km.drew ?_ | with_reducible refine Km.alloc ?_ _ | with_reducible refine Km.call ?_ (by with_reducible assumption) | ((with_reducible refine Km.put ?_ ?_); (first | omega | (dsimp only; omega))) | ((with_reducible refine Km.far ?_ ?_); (first | omega | (dsimp only; omega))))))
              (first
                | (go_at_call 37; ((with_reducible refine (l02Unit_any _).mono ?_); rintro e w3 ⟨rfl, hb3⟩; have M3 : Km (w.heap.size) 1 0 c d x y w3 := (by repeat (first | with_reducible assumption | with_reducible refine Km.drew ?_ | with_reducible refine Km.alloc ?_ _ | with_reducible refine Km.call ?_ (by with_reducible assumption))); have M3l := M3.1; have B3 : Below w.heap.size w w3 := (by repeat (first | with_reducible assumption | with_reducible refine Below.drew ?_ | with_reducible refine Below.alloc ?_ (by first | omega | (have := B2.size; simp <;> omega)) _ | with_reducible refine bstep ?_ (by with_reducible assumption))))))
            all_goals
              have ML := M3.1
              have MC0 := M3.c0
              have MC1 := M3.c1
              have MC2 := M3.c2
              have MC3 := M3.c3
              have MC4 := M3.c4
              have MC5 := M3.c5
              go_wp2
              go_ret
              refine ⟨ret_int EA.out.symm, ?_⟩
              repeat (first | with_reducible assumption | with_reducible exact Below.refl _ _ | with_reducible refine Below.setCell ?_ (by first | omega | (simp <;> omega)) _ | with_reducible refine Below.alloc ?_ (by first | omega | (simp <;> omega)) _ | with_reducible refine bstep ?_ (by with_reducible assumption) | with_reducible refine Below.drew ?_)
        · have n1 : (b == 0) = false := by simpa using e1
          have hd' := hd
          simp at hd'
          have M0 : Km (w.heap.size) 1 b c d x y (w.alloc (.cells #[.int .i64 1, .int .i64 b, .int .i64 c, .int .i64 d, .int .i64 x, .int .i64 y] 29)) := (Km.at (w.heap.size) rfl)
          have B0 : Below w.heap.size w (w.alloc (.cells #[.int .i64 1, .int .i64 b, .int .i64 c, .int .i64 d, .int .i64 x, .int .i64 y] 29)) := (Below.alloc (Below.refl _ _) (by first | with_reducible exact Nat.le_refl _ | (simp <;> omega)) _)
          go_enter Tryz.func21, Tryz.ntmps21
          have M0c0 := M0.c0
          have M0c1 := M0.c1
          have M0c2 := M0.c2
          have M0c3 := M0.c3
          have M0c4 := M0.c4
          have M0c5 := M0.c5
          have M0l := M0.1
          go_wp2_with fail
          refine (l02Det_any _ _ _ _ _ hl).mono ?_
          rintro e w1 ⟨rfl, hb1⟩
          have M1 : Km (w.heap.size) 1 b c d x y w1 := Km.call M0 hb1
          have B1 : Below w.heap.size w w1 := bstep B0 hb1
          clear hb1 B0 M0
          have M1c0 := M1.c0
          have M1c1 := M1.c1
          have M1c2 := M1.c2
          have M1c3 := M1.c3
          have M1c4 := M1.c4
          have M1c5 := M1.c5
          have M1l := M1.1
          have M1n : ¬ w.heap.size = w1.heap.size := by omega
          go_wp2_with fail
          refine (l02Det_any _ _ _ _ _ hl).mono ?_
          rintro e w2 ⟨rfl, hb2⟩
          have M2 : Km (w.heap.size) 1 b c d x y w2 := Km.call M1 hb2
          have B2 : Below w.heap.size w w2 := bstep B1 hb2
          clear hb2 B1 M1
          have M2c0 := M2.c0
          have M2c1 := M2.c1
          have M2c2 := M2.c2
          have M2c3 := M2.c3
          have M2c4 := M2.c4
          have M2c5 := M2.c5
          have M2l := M2.1
          have M2n : ¬ w.heap.size = w2.heap.size := by omega
          clear M2c0 M2c1 M2c2 M2c3 M2c4 M2c5 M2l M2n
          have M2lt := M2.1
          go_wp2_with fail
          go_region_held3 (fun W => (W.cell? ⟨w.heap.size, 0, none⟩ = some (.int .i64 1) ∧ W.cell? ⟨w.heap.size, 1, none⟩ = some (.int .i64 b) ∧ W.cell? ⟨w.heap.size, 2, none⟩ = some (.int .i64 c) ∧ W.cell? ⟨w.heap.size, 3, none⟩ = some (.int .i64 d) ∧ W.cell? ⟨w.heap.size, 4, none⟩ = some (.int .i64 x) ∧ W.cell? ⟨w.heap.size, 5, none⟩ = some (.int .i64 y))) ((refine Km.cells ?_ <;> repeat (first | with_reducible assumption | with_reducible refine Km.drew ?_ | with_reducible refine Km.alloc ?_ _ | with_reducible refine Km.call ?_ (by with_reducible assumption) | ((with_reducible refine Km.put ?_ ?_); (first | omega | (dsimp only; omega))) | ((with_reducible refine Km.far ?_ ?_); (first | omega | (dsimp only; omega))))))
            (first
              | (go_at_call 37; ((with_reducible refine (l02Unit_any _).mono ?_); rintro e w3 ⟨rfl, hb3⟩; have M3 : Km (w.heap.size) 1 b c d x y w3 := (by repeat (first | with_reducible assumption | with_reducible refine Km.drew ?_ | with_reducible refine Km.alloc ?_ _ | with_reducible refine Km.call ?_ (by with_reducible assumption))); have M3l := M3.1; have B3 : Below w.heap.size w w3 := (by repeat (first | with_reducible assumption | with_reducible refine Below.drew ?_ | with_reducible refine Below.alloc ?_ (by first | omega | (have := B2.size; simp <;> omega)) _ | with_reducible refine bstep ?_ (by with_reducible assumption))))))
          all_goals
            have ML := M3.1
            have MC0 := M3.c0
            have MC1 := M3.c1
            have MC2 := M3.c2
            have MC3 := M3.c3
            have MC4 := M3.c4
            have MC5 := M3.c5
            go_wp2
            go_ret
            refine ⟨ret_int EA.out.symm, ?_⟩
            repeat (first | with_reducible assumption | with_reducible exact Below.refl _ _ | with_reducible refine Below.setCell ?_ (by first | omega | (simp <;> omega)) _ | with_reducible refine Below.alloc ?_ (by first | omega | (simp <;> omega)) _ | with_reducible refine bstep ?_ (by with_reducible assumption) | with_reducible refine Below.drew ?_)
      · have n0 : (a == 1) = false := by simpa using e0
        have hd' := hd
        simp at hd'
        have M0 : Km (w.heap.size) a b c d x y (w.alloc (.cells #[.int .i64 a, .int .i64 b, .int .i64 c, .int .i64 d, .int .i64 x, .int .i64 y] 29)) := (Km.at (w.heap.size) rfl)
        have B0 : Below w.heap.size w (w.alloc (.cells #[.int .i64 a, .int .i64 b, .int .i64 c, .int .i64 d, .int .i64 x, .int .i64 y] 29)) := (Below.alloc (Below.refl _ _) (by first | with_reducible exact Nat.le_refl _ | (simp <;> omega)) _)
        go_enter Tryz.func21, Tryz.ntmps21
        have M0c0 := M0.c0
        have M0c1 := M0.c1
        have M0c2 := M0.c2
        have M0c3 := M0.c3
        have M0c4 := M0.c4
        have M0c5 := M0.c5
        have M0l := M0.1
        go_wp2_with fail
        refine (l02Det_any _ _ _ _ _ hl).mono ?_
        rintro e w1 ⟨rfl, hb1⟩
        have M1 : Km (w.heap.size) a b c d x y w1 := Km.call M0 hb1
        have B1 : Below w.heap.size w w1 := bstep B0 hb1
        clear hb1 B0 M0
        have M1c0 := M1.c0
        have M1c1 := M1.c1
        have M1c2 := M1.c2
        have M1c3 := M1.c3
        have M1c4 := M1.c4
        have M1c5 := M1.c5
        have M1l := M1.1
        have M1n : ¬ w.heap.size = w1.heap.size := by omega
        go_wp2_with fail
        refine (l02Det_any _ _ _ _ _ hl).mono ?_
        rintro e w2 ⟨rfl, hb2⟩
        have M2 : Km (w.heap.size) a b c d x y w2 := Km.call M1 hb2
        have B2 : Below w.heap.size w w2 := bstep B1 hb2
        clear hb2 B1 M1
        have M2c0 := M2.c0
        have M2c1 := M2.c1
        have M2c2 := M2.c2
        have M2c3 := M2.c3
        have M2c4 := M2.c4
        have M2c5 := M2.c5
        have M2l := M2.1
        have M2n : ¬ w.heap.size = w2.heap.size := by omega
        clear M2c0 M2c1 M2c2 M2c3 M2c4 M2c5 M2l M2n
        have M2lt := M2.1
        go_wp2_with fail
        go_region_held3 (fun W => (W.cell? ⟨w.heap.size, 0, none⟩ = some (.int .i64 a) ∧ W.cell? ⟨w.heap.size, 1, none⟩ = some (.int .i64 b) ∧ W.cell? ⟨w.heap.size, 2, none⟩ = some (.int .i64 c) ∧ W.cell? ⟨w.heap.size, 3, none⟩ = some (.int .i64 d) ∧ W.cell? ⟨w.heap.size, 4, none⟩ = some (.int .i64 x) ∧ W.cell? ⟨w.heap.size, 5, none⟩ = some (.int .i64 y))) ((refine Km.cells ?_ <;> repeat (first | with_reducible assumption | with_reducible refine Km.drew ?_ | with_reducible refine Km.alloc ?_ _ | with_reducible refine Km.call ?_ (by with_reducible assumption) | ((with_reducible refine Km.put ?_ ?_); (first | omega | (dsimp only; omega))) | ((with_reducible refine Km.far ?_ ?_); (first | omega | (dsimp only; omega))))))
          (first
            | (go_at_call 37; ((with_reducible refine (l02Unit_any _).mono ?_); rintro e w3 ⟨rfl, hb3⟩; have M3 : Km (w.heap.size) a b c d x y w3 := (by repeat (first | with_reducible assumption | with_reducible refine Km.drew ?_ | with_reducible refine Km.alloc ?_ _ | with_reducible refine Km.call ?_ (by with_reducible assumption))); have M3l := M3.1; have B3 : Below w.heap.size w w3 := (by repeat (first | with_reducible assumption | with_reducible refine Below.drew ?_ | with_reducible refine Below.alloc ?_ (by first | omega | (have := B2.size; simp <;> omega)) _ | with_reducible refine bstep ?_ (by with_reducible assumption))))))
        all_goals
          have ML := M3.1
          have MC0 := M3.c0
          have MC1 := M3.c1
          have MC2 := M3.c2
          have MC3 := M3.c3
          have MC4 := M3.c4
          have MC5 := M3.c5
          go_wp2
          go_ret
          refine ⟨ret_int EA.out.symm, ?_⟩
          repeat (first | with_reducible assumption | with_reducible exact Below.refl _ _ | with_reducible refine Below.setCell ?_ (by first | omega | (simp <;> omega)) _ | with_reducible refine Below.alloc ?_ (by first | omega | (simp <;> omega)) _ | with_reducible refine bstep ?_ (by with_reducible assumption) | with_reducible refine Below.drew ?_)
  · have hr : reflB a b c d = true := by rw [← mot_refl h]; exact hd
    clear h
    rcases hx : a * x + b * y + x == 0 with _ | _
    · have EA := Lib.hid (show knd a b c d x y = 4 by simp [knd, hr, hx])
      have M0 : Km (w.heap.size) a b c d x y (w.alloc (.cells #[.int .i64 a, .int .i64 b, .int .i64 c, .int .i64 d, .int .i64 x, .int .i64 y] 29)) := (Km.at (w.heap.size) rfl)
      have B0 : Below w.heap.size w (w.alloc (.cells #[.int .i64 a, .int .i64 b, .int .i64 c, .int .i64 d, .int .i64 x, .int .i64 y] 29)) := (Below.alloc (Below.refl _ _) (by first | with_reducible exact Nat.le_refl _ | (simp <;> omega)) _)
      go_enter Tryz.func21, Tryz.ntmps21
      have M0c0 := M0.c0
      have M0c1 := M0.c1
      have M0c2 := M0.c2
      have M0c3 := M0.c3
      have M0c4 := M0.c4
      have M0c5 := M0.c5
      have M0l := M0.1
      go_wp2_with fail
      refine (l02Det_any _ _ _ _ _ hl).mono ?_
      rintro e w1 ⟨rfl, hb1⟩
      have M1 : Km (w.heap.size) a b c d x y w1 := Km.call M0 hb1
      have B1 : Below w.heap.size w w1 := bstep B0 hb1
      clear hb1 B0 M0
      have M1c0 := M1.c0
      have M1c1 := M1.c1
      have M1c2 := M1.c2
      have M1c3 := M1.c3
      have M1c4 := M1.c4
      have M1c5 := M1.c5
      have M1l := M1.1
      have M1n : ¬ w.heap.size = w1.heap.size := by omega
      go_wp2_with fail
      refine (l05Twice_any _ _ _ _ _ _ _ hl hv).mono ?_
      rintro e w2 ⟨rfl, hb2⟩
      have M2 : Km (w.heap.size) a b c d x y w2 := Km.call M1 hb2
      have B2 : Below w.heap.size w w2 := bstep B1 hb2
      clear hb2 B1 M1
      have M2c0 := M2.c0
      have M2c1 := M2.c1
      have M2c2 := M2.c2
      have M2c3 := M2.c3
      have M2c4 := M2.c4
      have M2c5 := M2.c5
      have M2l := M2.1
      have M2n : ¬ w.heap.size = w2.heap.size := by omega
      go_wp2_with fail
      refine (l02Det_any _ _ _ _ _ hl).mono ?_
      rintro e w3 ⟨rfl, hb3⟩
      have M3 : Km (w.heap.size) a b c d x y w3 := Km.call M2 hb3
      have B3 : Below w.heap.size w w3 := bstep B2 hb3
      clear hb3 B2 M2
      have M3c0 := M3.c0
      have M3c1 := M3.c1
      have M3c2 := M3.c2
      have M3c3 := M3.c3
      have M3c4 := M3.c4
      have M3c5 := M3.c5
      have M3l := M3.1
      have M3n : ¬ w.heap.size = w3.heap.size := by omega
      go_wp2
      go_ret
      refine ⟨ret_int EA.out.symm, ?_⟩
      repeat (first | with_reducible assumption | with_reducible exact Below.refl _ _ | with_reducible refine Below.setCell ?_ (by first | omega | (simp <;> omega)) _ | with_reducible refine Below.alloc ?_ (by first | omega | (simp <;> omega)) _ | with_reducible refine bstep ?_ (by with_reducible assumption) | with_reducible refine Below.drew ?_)
    rcases hy : c * x + d * y + y == 0 with _ | _
    · have EA := Lib.hid (show knd a b c d x y = 4 by simp [knd, hr, hy])
      have M0 : Km (w.heap.size) a b c d x y (w.alloc (.cells #[.int .i64 a, .int .i64 b, .int .i64 c, .int .i64 d, .int .i64 x, .int .i64 y] 29)) := (Km.at (w.heap.size) rfl)
      have B0 : Below w.heap.size w (w.alloc (.cells #[.int .i64 a, .int .i64 b, .int .i64 c, .int .i64 d, .int .i64 x, .int .i64 y] 29)) := (Below.alloc (Below.refl _ _) (by first | with_reducible exact Nat.le_refl _ | (simp <;> omega)) _)
      go_enter Tryz.func21, Tryz.ntmps21
      have M0c0 := M0.c0
      have M0c1 := M0.c1
      have M0c2 := M0.c2
      have M0c3 := M0.c3
      have M0c4 := M0.c4
      have M0c5 := M0.c5
      have M0l := M0.1
      go_wp2_with fail
      refine (l02Det_any _ _ _ _ _ hl).mono ?_
      rintro e w1 ⟨rfl, hb1⟩
      have M1 : Km (w.heap.size) a b c d x y w1 := Km.call M0 hb1
      have B1 : Below w.heap.size w w1 := bstep B0 hb1
      clear hb1 B0 M0
      have M1c0 := M1.c0
      have M1c1 := M1.c1
      have M1c2 := M1.c2
      have M1c3 := M1.c3
      have M1c4 := M1.c4
      have M1c5 := M1.c5
      have M1l := M1.1
      have M1n : ¬ w.heap.size = w1.heap.size := by omega
      go_wp2_with fail
      refine (l05Twice_any _ _ _ _ _ _ _ hl hv).mono ?_
      rintro e w2 ⟨rfl, hb2⟩
      have M2 : Km (w.heap.size) a b c d x y w2 := Km.call M1 hb2
      have B2 : Below w.heap.size w w2 := bstep B1 hb2
      clear hb2 B1 M1
      have M2c0 := M2.c0
      have M2c1 := M2.c1
      have M2c2 := M2.c2
      have M2c3 := M2.c3
      have M2c4 := M2.c4
      have M2c5 := M2.c5
      have M2l := M2.1
      have M2n : ¬ w.heap.size = w2.heap.size := by omega
      go_wp2_with fail
      refine (l02Det_any _ _ _ _ _ hl).mono ?_
      rintro e w3 ⟨rfl, hb3⟩
      have M3 : Km (w.heap.size) a b c d x y w3 := Km.call M2 hb3
      have B3 : Below w.heap.size w w3 := bstep B2 hb3
      clear hb3 B2 M2
      have M3c0 := M3.c0
      have M3c1 := M3.c1
      have M3c2 := M3.c2
      have M3c3 := M3.c3
      have M3c4 := M3.c4
      have M3c5 := M3.c5
      have M3l := M3.1
      have M3n : ¬ w.heap.size = w3.heap.size := by omega
      go_wp2
      go_ret
      refine ⟨ret_int EA.out.symm, ?_⟩
      repeat (first | with_reducible assumption | with_reducible exact Below.refl _ _ | with_reducible refine Below.setCell ?_ (by first | omega | (simp <;> omega)) _ | with_reducible refine Below.alloc ?_ (by first | omega | (simp <;> omega)) _ | with_reducible refine bstep ?_ (by with_reducible assumption) | with_reducible refine Below.drew ?_)
    · have EA := Lib.hid (show knd a b c d x y = 3 by simp [knd, hr, hx, hy])
      have M0 : Km (w.heap.size) a b c d x y (w.alloc (.cells #[.int .i64 a, .int .i64 b, .int .i64 c, .int .i64 d, .int .i64 x, .int .i64 y] 29)) := (Km.at (w.heap.size) rfl)
      have B0 : Below w.heap.size w (w.alloc (.cells #[.int .i64 a, .int .i64 b, .int .i64 c, .int .i64 d, .int .i64 x, .int .i64 y] 29)) := (Below.alloc (Below.refl _ _) (by first | with_reducible exact Nat.le_refl _ | (simp <;> omega)) _)
      go_enter Tryz.func21, Tryz.ntmps21
      have M0c0 := M0.c0
      have M0c1 := M0.c1
      have M0c2 := M0.c2
      have M0c3 := M0.c3
      have M0c4 := M0.c4
      have M0c5 := M0.c5
      have M0l := M0.1
      go_wp2_with fail
      refine (l02Det_any _ _ _ _ _ hl).mono ?_
      rintro e w1 ⟨rfl, hb1⟩
      have M1 : Km (w.heap.size) a b c d x y w1 := Km.call M0 hb1
      have B1 : Below w.heap.size w w1 := bstep B0 hb1
      clear hb1 B0 M0
      have M1c0 := M1.c0
      have M1c1 := M1.c1
      have M1c2 := M1.c2
      have M1c3 := M1.c3
      have M1c4 := M1.c4
      have M1c5 := M1.c5
      have M1l := M1.1
      have M1n : ¬ w.heap.size = w1.heap.size := by omega
      go_wp2_with fail
      refine (l05Twice_any _ _ _ _ _ _ _ hl hv).mono ?_
      rintro e w2 ⟨rfl, hb2⟩
      have M2 : Km (w.heap.size) a b c d x y w2 := Km.call M1 hb2
      have B2 : Below w.heap.size w w2 := bstep B1 hb2
      clear hb2 B1 M1
      have M2c0 := M2.c0
      have M2c1 := M2.c1
      have M2c2 := M2.c2
      have M2c3 := M2.c3
      have M2c4 := M2.c4
      have M2c5 := M2.c5
      have M2l := M2.1
      have M2n : ¬ w.heap.size = w2.heap.size := by omega
      go_wp2
      go_ret
      refine ⟨ret_int EA.out.symm, ?_⟩
      repeat (first | with_reducible assumption | with_reducible exact Below.refl _ _ | with_reducible refine Below.setCell ?_ (by first | omega | (simp <;> omega)) _ | with_reducible refine Below.alloc ?_ (by first | omega | (simp <;> omega)) _ | with_reducible refine bstep ?_ (by with_reducible assumption) | with_reducible refine Below.drew ?_)

end Go.Proofs.YtpdekopmnchanabGreatDoor
