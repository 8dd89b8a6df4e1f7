/-
  Several of my texts in one: MapR, MoI, MvF, PtR.
-/
import Derived.Test.YtpejihckepaojaaMapL
import Derived.Test.YtpejihckepaojaaLat3
import Derived.Test.YtpejihckepaojaaMoP
import Derived.Deep.RegionHeld3
import Derived.IntWalk
import Derived.Test.YtpejihckepaojaaPtB
import Derived.Test.YtpejihckepaojaaPtJ
import Derived.Test.YtpejihckepaojaaVb
namespace Go.Proofs.Ytpejihckepaojaa
section
open Go.RowKit
set_option linter.unusedSimpArgs false
set_option linter.unusedVariables false

def flB (f A B C : Int) : Bool := frB f && latB A B C
def flC (f A B C : Int) : Int := bif flB f A B C then 0 else 1
set_option maxHeartbeats 4000000 in
theorem l04Code_any (f A B C : Int) (w : World) :
    Calls Try.prog 30 #[.int .i64 f, .agg #[.int .i64 A, .int .i64 B, .int .i64 C]] w fun e w' => e = .returned (.int .i64 (flC f A B C)) ∧ Below w.heap.size w w' := by
  rcases h : frB f with _ | _
  · have E := Lib.hid (show flC f A B C = 1 by simp [flC, flB, h])
    go_enter Try.func30, Try.ntmps30
    go_wp2_with fail
    refine (specIsFrame_any _ _).mono ?_
    rintro e w1 ⟨rfl, rfl⟩
    rw [h]
    go_wp2
    go_ret
    exact ⟨ret_int E.out.symm, (Below.refl _ _).alloc (Nat.le_refl _) _⟩
  rcases hl : latB A B C with _ | _
  all_goals
    have E := Lib.hid (show flC f A B C = _ by simp only [flC, flB, h, hl, Bool.true_and]; rfl)
    go_enter Try.func30, Try.ntmps30
    go_wp2_with fail
    refine (specIsFrame_any _ _).mono ?_
    rintro e w1 ⟨rfl, rfl⟩
    rw [h]
    go_wp2_with fail
    refine (specIsLattice_any _ _ _ _).mono ?_
    rintro e w2 ⟨rfl, hb2⟩
    rw [hl]
    go_wp2
    go_ret
    exact ⟨ret_int E.out.symm, bstep ((Below.refl _ _).alloc (Nat.le_refl _) _) hb2⟩
def mapR (f a b c d A B C : Int) : Int × Int × Int × Int := bif flB f A B C then (bif pmB f a b c d then ((mapI A B C a b c d).1, (mapI A B C a b c d).2.1, (mapI A B C a b c d).2.2, 0) else (0, 0, 0, 2)) else (0, 0, 0, 1)
def mapT (f a b c d A B C : Int) : Value := latT (mapR f a b c d A B C)
theorem pm_keep {f a b c d : Int} (h : pmB f a b c d = true) : frB f = true ∧ matB a b c d = true ∧ keepB f a b c d = true := by
  simpa [pmB, and_assoc] using h
end
end Go.Proofs.Ytpejihckepaojaa

namespace Go.Proofs.Ytpejihckepaojaa
section
open Go.RowKit
set_option linter.unusedSimpArgs false
set_option linter.unusedVariables false

set_option maxRecDepth 100000 in
set_option maxHeartbeats 8000000 in
theorem inverseMo_any (a b c d x y : Int) (w : World) (hm : matB a b c d = true) (hv : vecB x y = true) :
    Calls Try.prog 79 #[.agg #[.int .i64 a, .int .i64 b, .int .i64 c, .int .i64 d, .int .i64 x, .int .i64 y]] w fun e w' => e = .returned (.agg #[.int .i64 (d * (a * d - b * c)), .int .i64 (-b * (a * d - b * c)), .int .i64 (-c * (a * d - b * c)), .int .i64 (a * (a * d - b * c)), .int .i64 (bkX a b c d x y), .int .i64 (bkY a b c d x y)]) ∧ Below w.heap.size w w' := by
  have hli := inv_lim hm
  unfold bkX bkY
  have M0 : Km (w.heap.size) a b c d x y ((w.alloc (.cells #[.int .i64 a, .int .i64 b, .int .i64 c, .int .i64 d, .int .i64 x, .int .i64 y] 78)).alloc (.cells #[.int .i64 0, .int .i64 0, .int .i64 0, .int .i64 0, .int .i64 0, .int .i64 0] 78)) := ((Km.at (w.heap.size) rfl).alloc _)
  have R0 : KM (w.heap.size + 1) 0 0 0 0 0 0 ((w.alloc (.cells #[.int .i64 a, .int .i64 b, .int .i64 c, .int .i64 d, .int .i64 x, .int .i64 y] 78)).alloc (.cells #[.int .i64 0, .int .i64 0, .int .i64 0, .int .i64 0, .int .i64 0, .int .i64 0] 78)) := (KM.at (w.heap.size + 1) (by simp))
  have B0 : Below w.heap.size w ((w.alloc (.cells #[.int .i64 a, .int .i64 b, .int .i64 c, .int .i64 d, .int .i64 x, .int .i64 y] 78)).alloc (.cells #[.int .i64 0, .int .i64 0, .int .i64 0, .int .i64 0, .int .i64 0, .int .i64 0] 78)) := (Below.alloc (Below.alloc (Below.refl _ _) (by first | with_reducible exact Nat.le_refl _ | (simp <;> omega)) _) (by first | with_reducible exact Nat.le_refl _ | (simp <;> omega)) _)
  go_enter Try.func79, Try.ntmps79
  have M0c0 := M0.c0
  have M0c1 := M0.c1
  have M0c2 := M0.c2
  have M0c3 := M0.c3
  have M0c4 := M0.c4
  have M0c5 := M0.c5
  have M0l := M0.1
  go_wp2_with fail
  refine (inverse_any _ _ _ _ _ hm).mono ?_
  rintro e w1 ⟨rfl, hb1⟩
  have M1 : Km (w.heap.size) a b c d x y w1 := Km.call M0 hb1
  have R1 : KM (w.heap.size + 1) 0 0 0 0 0 0 w1 := KM.call R0 hb1
  have B1 : Below w.heap.size w w1 := bstep B0 hb1
  clear hb1 B0 M0 R0
  clear hm
  generalize hE1 : d * (a * d - b * c) = p at *
  generalize hE2 : -b * (a * d - b * c) = q at *
  generalize hE3 : -c * (a * d - b * c) = r at *
  generalize hE4 : a * (a * d - b * c) = t at *
  have S1 : -1000000000 ≤ p * x + q * y ∧ p * x + q * y ≤ 1000000000 := by
    obtain ⟨⟨ha, hb⟩, hc, hd⟩ := limB_bd hli
    obtain ⟨hx, hy⟩ := vecB_bd hv
    have e1 := mul1000 ha hx
    have e2 := mul1000 hb hy
    omega
  have S2 : -1000000000 ≤ r * x + t * y ∧ r * x + t * y ≤ 1000000000 := by
    obtain ⟨⟨ha, hb⟩, hc, hd⟩ := limB_bd hli
    obtain ⟨hx, hy⟩ := vecB_bd hv
    have e1 := mul1000 hc hx
    have e2 := mul1000 hd hy
    omega
  have K1 : Kq (w1.heap.size) p q r t (w1.alloc (.cells #[.int .i64 p, .int .i64 q, .int .i64 r, .int .i64 t] 76)) := Kq.at _ rfl
  have M1lt := M1.1
  have R1lt := R1.lt
  have K1lt := K1.1
  go_wp2_with fail
  go_region_held3 (fun W => (W.cell? ⟨w.heap.size, 0, none⟩ = some (.int .i64 a) ∧ W.cell? ⟨w.heap.size, 1, none⟩ = some (.int .i64 b) ∧ W.cell? ⟨w.heap.size, 2, none⟩ = some (.int .i64 c) ∧ W.cell? ⟨w.heap.size, 3, none⟩ = some (.int .i64 d) ∧ W.cell? ⟨w.heap.size, 4, none⟩ = some (.int .i64 x) ∧ W.cell? ⟨w.heap.size, 5, none⟩ = some (.int .i64 y)) ∧ (W.cell? ⟨w1.heap.size, 0, none⟩ = some (.int .i64 p) ∧ W.cell? ⟨w1.heap.size, 1, none⟩ = some (.int .i64 q) ∧ W.cell? ⟨w1.heap.size, 2, none⟩ = some (.int .i64 r) ∧ W.cell? ⟨w1.heap.size, 3, none⟩ = some (.int .i64 t))) ((refine ⟨Km.cells ?_, Kq.cells ?_⟩ <;> repeat (first | with_reducible assumption | with_reducible refine KM.drew ?_ | with_reducible refine KM.alloc ?_ _ | with_reducible refine KM.call ?_ (by with_reducible assumption) | with_reducible refine Km.drew ?_ | with_reducible refine Km.alloc ?_ _ | with_reducible refine Km.call ?_ (by with_reducible assumption) | with_reducible refine Kq.drew ?_ | with_reducible refine Kq.alloc ?_ _ | with_reducible refine Kq.call ?_ (by with_reducible assumption) | ((with_reducible refine KM.put ?_ ?_); (first | omega | (dsimp only; omega))) | ((with_reducible refine Km.put ?_ ?_); (first | omega | (dsimp only; omega))) | ((with_reducible refine Kq.put ?_ ?_); (first | omega | (dsimp only; omega))) | ((with_reducible refine KM.far ?_ ?_); (first | omega | (dsimp only; omega))) | ((with_reducible refine Km.far ?_ ?_); (first | omega | (dsimp only; omega))) | ((with_reducible refine Kq.far ?_ ?_); (first | omega | (dsimp only; omega))))))
    (first
      | (go_at_call 96; ((with_reducible refine (apply_any _ _ _ _ _ _ _ hli hv).mono ?_); rintro e w2 ⟨rfl, hb2⟩; have M2 : Km (w.heap.size) a b c d x y w2 := (by repeat (first | with_reducible assumption | with_reducible refine KM.drew ?_ | with_reducible refine KM.alloc ?_ _ | with_reducible refine KM.call ?_ (by with_reducible assumption) | with_reducible refine Km.drew ?_ | with_reducible refine Km.alloc ?_ _ | with_reducible refine Km.call ?_ (by with_reducible assumption) | with_reducible refine Kq.drew ?_ | with_reducible refine Kq.alloc ?_ _ | with_reducible refine Kq.call ?_ (by with_reducible assumption))); have R2 : KM (w.heap.size + 1) 0 0 0 0 0 0 w2 := (by repeat (first | with_reducible assumption | with_reducible refine KM.drew ?_ | with_reducible refine KM.alloc ?_ _ | with_reducible refine KM.call ?_ (by with_reducible assumption) | with_reducible refine Km.drew ?_ | with_reducible refine Km.alloc ?_ _ | with_reducible refine Km.call ?_ (by with_reducible assumption) | with_reducible refine Kq.drew ?_ | with_reducible refine Kq.alloc ?_ _ | with_reducible refine Kq.call ?_ (by with_reducible assumption))); have K2 : Kq (w1.heap.size) p q r t w2 := (by repeat (first | with_reducible assumption | with_reducible refine KM.drew ?_ | with_reducible refine KM.alloc ?_ _ | with_reducible refine KM.call ?_ (by with_reducible assumption) | with_reducible refine Km.drew ?_ | with_reducible refine Km.alloc ?_ _ | with_reducible refine Km.call ?_ (by with_reducible assumption) | with_reducible refine Kq.drew ?_ | with_reducible refine Kq.alloc ?_ _ | with_reducible refine Kq.call ?_ (by with_reducible assumption))); have M2l := M2.1; have R2c0 := R2.c0; have R2f0 := R2.f0; have R2c1 := R2.c1; have R2f1 := R2.f1; have R2c2 := R2.c2; have R2f2 := R2.f2; have R2c3 := R2.c3; have R2f3 := R2.f3; have R2c4 := R2.c4; have R2f4 := R2.f4; have R2c5 := R2.c5; have R2f5 := R2.f5; have R2l := R2.lt; have K2l := K2.1; have B2 : Below w.heap.size w w2 := (by repeat (first | with_reducible assumption | with_reducible refine Below.drew ?_ | with_reducible refine Below.alloc ?_ (by first | omega | (have := B1.size; simp <;> omega)) _ | with_reducible refine bstep ?_ (by with_reducible assumption)))))
      | (go_at_call 88; ((with_reducible refine (times5_any _ _ _ S1 S2).mono ?_); rintro e w3 ⟨rfl, hb3⟩; have M3 : Km (w.heap.size) a b c d x y w3 := (by repeat (first | with_reducible assumption | with_reducible refine KM.drew ?_ | with_reducible refine KM.alloc ?_ _ | with_reducible refine KM.call ?_ (by with_reducible assumption) | with_reducible refine Km.drew ?_ | with_reducible refine Km.alloc ?_ _ | with_reducible refine Km.call ?_ (by with_reducible assumption) | with_reducible refine Kq.drew ?_ | with_reducible refine Kq.alloc ?_ _ | with_reducible refine Kq.call ?_ (by with_reducible assumption))); have R3 : KM (w.heap.size + 1) 0 0 0 0 0 0 w3 := (by repeat (first | with_reducible assumption | with_reducible refine KM.drew ?_ | with_reducible refine KM.alloc ?_ _ | with_reducible refine KM.call ?_ (by with_reducible assumption) | with_reducible refine Km.drew ?_ | with_reducible refine Km.alloc ?_ _ | with_reducible refine Km.call ?_ (by with_reducible assumption) | with_reducible refine Kq.drew ?_ | with_reducible refine Kq.alloc ?_ _ | with_reducible refine Kq.call ?_ (by with_reducible assumption))); have K3 : Kq (w1.heap.size) p q r t w3 := (by repeat (first | with_reducible assumption | with_reducible refine KM.drew ?_ | with_reducible refine KM.alloc ?_ _ | with_reducible refine KM.call ?_ (by with_reducible assumption) | with_reducible refine Km.drew ?_ | with_reducible refine Km.alloc ?_ _ | with_reducible refine Km.call ?_ (by with_reducible assumption) | with_reducible refine Kq.drew ?_ | with_reducible refine Kq.alloc ?_ _ | with_reducible refine Kq.call ?_ (by with_reducible assumption))); have M3l := M3.1; have R3c0 := R3.c0; have R3f0 := R3.f0; have R3c1 := R3.c1; have R3f1 := R3.f1; have R3c2 := R3.c2; have R3f2 := R3.f2; have R3c3 := R3.c3; have R3f3 := R3.f3; have R3c4 := R3.c4; have R3f4 := R3.f4; have R3c5 := R3.c5; have R3f5 := R3.f5; have R3l := R3.lt; have K3l := K3.1; have B3 : Below w.heap.size w w3 := (by repeat (first | with_reducible assumption | with_reducible refine Below.drew ?_ | with_reducible refine Below.alloc ?_ (by first | omega | (have := B1.size; simp <;> omega)) _ | with_reducible refine bstep ?_ (by with_reducible assumption))))))
  all_goals
    go_wp2
    refine bodyPost_ret (v := .agg #[.int .i64 p, .int .i64 q, .int .i64 r, .int .i64 t, .int .i64 ((p * x + q * y) * -1), .int .i64 ((r * x + t * y) * -1)]) (by simp [results, Try.results79, go_sem, *]) rfl ⟨by rw [hE1, hE2, hE3, hE4], ?_⟩
    repeat (first | with_reducible assumption | with_reducible exact Below.refl _ _ | with_reducible refine Below.setCell ?_ (by first | omega | (simp <;> omega)) _ | with_reducible refine Below.alloc ?_ (by first | omega | (simp <;> omega)) _ | with_reducible refine bstep ?_ (by with_reducible assumption) | with_reducible refine Below.drew ?_)

set_option maxRecDepth 100000 in
set_option maxHeartbeats 4000000 in
theorem toMo_any (a b c d x y : Int) (w : World) :
    Calls Try.prog 26 #[.agg #[.int .i64 a, .int .i64 b, .int .i64 c, .int .i64 d, .int .i64 x, .int .i64 y]] w fun e w' => e = .returned (.agg #[.int .i64 a, .int .i64 b, .int .i64 c, .int .i64 d, .int .i64 x, .int .i64 y]) ∧ Below w.heap.size w w' := by
  have M0 : Km (w.heap.size) a b c d x y (((w.alloc (.cells #[.int .i64 a, .int .i64 b, .int .i64 c, .int .i64 d, .int .i64 x, .int .i64 y] 53)).alloc (.cells #[.int .i64 0, .int .i64 0, .int .i64 0, .int .i64 0, .int .i64 0, .int .i64 0] 58)).alloc (.cells #[.int .i64 0, .int .i64 0, .int .i64 0, .int .i64 0, .int .i64 0, .int .i64 0] 58)) := (((Km.at (w.heap.size) rfl).alloc _).alloc _)
  have R0 : KM (w.heap.size + 1) 0 0 0 0 0 0 (((w.alloc (.cells #[.int .i64 a, .int .i64 b, .int .i64 c, .int .i64 d, .int .i64 x, .int .i64 y] 53)).alloc (.cells #[.int .i64 0, .int .i64 0, .int .i64 0, .int .i64 0, .int .i64 0, .int .i64 0] 58)).alloc (.cells #[.int .i64 0, .int .i64 0, .int .i64 0, .int .i64 0, .int .i64 0, .int .i64 0] 58)) := ((KM.at (w.heap.size + 1) (by simp)).alloc _)
  have O0 : KM (w.heap.size + 1 + 1) 0 0 0 0 0 0 (((w.alloc (.cells #[.int .i64 a, .int .i64 b, .int .i64 c, .int .i64 d, .int .i64 x, .int .i64 y] 53)).alloc (.cells #[.int .i64 0, .int .i64 0, .int .i64 0, .int .i64 0, .int .i64 0, .int .i64 0] 58)).alloc (.cells #[.int .i64 0, .int .i64 0, .int .i64 0, .int .i64 0, .int .i64 0, .int .i64 0] 58)) := (KM.at (w.heap.size + 1 + 1) (by simp))
  have B0 : Below w.heap.size w (((w.alloc (.cells #[.int .i64 a, .int .i64 b, .int .i64 c, .int .i64 d, .int .i64 x, .int .i64 y] 53)).alloc (.cells #[.int .i64 0, .int .i64 0, .int .i64 0, .int .i64 0, .int .i64 0, .int .i64 0] 58)).alloc (.cells #[.int .i64 0, .int .i64 0, .int .i64 0, .int .i64 0, .int .i64 0, .int .i64 0] 58)) := (Below.alloc (Below.alloc (Below.alloc (Below.refl _ _) (by first | with_reducible exact Nat.le_refl _ | (simp <;> omega)) _) (by first | with_reducible exact Nat.le_refl _ | (simp <;> omega)) _) (by first | with_reducible exact Nat.le_refl _ | (simp <;> omega)) _)
  go_enter Try.func26, Try.ntmps26
  have M0c0 := M0.c0
  have M0c1 := M0.c1
  have M0c2 := M0.c2
  have M0c3 := M0.c3
  have M0c4 := M0.c4
  have M0c5 := M0.c5
  have M0l := M0.1
  have R0c0 := R0.c0
  have R0c1 := R0.c1
  have R0c2 := R0.c2
  have R0c3 := R0.c3
  have R0c4 := R0.c4
  have R0c5 := R0.c5
  have R0f0 := R0.f0
  have R0f1 := R0.f1
  have R0f2 := R0.f2
  have R0f3 := R0.f3
  have R0f4 := R0.f4
  have R0f5 := R0.f5
  have R0l := R0.lt
  have O0c0 := O0.c0
  have O0c1 := O0.c1
  have O0c2 := O0.c2
  have O0c3 := O0.c3
  have O0c4 := O0.c4
  have O0c5 := O0.c5
  have O0f0 := O0.f0
  have O0f1 := O0.f1
  have O0f2 := O0.f2
  have O0f3 := O0.f3
  have O0f4 := O0.f4
  have O0f5 := O0.f5
  have O0l := O0.lt
  go_wp2_with fail
  refine (toMat_any _ _ _ _ _).mono ?_
  rintro e w1 ⟨rfl, hb1⟩
  have M1 : Km (w.heap.size) a b c d x y w1 := Km.call M0 hb1
  have R1 : KM (w.heap.size + 1) 0 0 0 0 0 0 w1 := KM.call R0 hb1
  have O1 : KM (w.heap.size + 1 + 1) 0 0 0 0 0 0 w1 := KM.call O0 hb1
  have B1 : Below w.heap.size w w1 := bstep B0 hb1
  clear hb1 B0 M0 R0 O0
  have M1c0 := M1.c0
  have M1c1 := M1.c1
  have M1c2 := M1.c2
  have M1c3 := M1.c3
  have M1c4 := M1.c4
  have M1c5 := M1.c5
  have M1l := M1.1
  have M1n : ¬ w.heap.size = w1.heap.size := by omega
  have R1c0 := R1.c0
  have R1c1 := R1.c1
  have R1c2 := R1.c2
  have R1c3 := R1.c3
  have R1c4 := R1.c4
  have R1c5 := R1.c5
  have R1f0 := R1.f0
  have R1f1 := R1.f1
  have R1f2 := R1.f2
  have R1f3 := R1.f3
  have R1f4 := R1.f4
  have R1f5 := R1.f5
  have R1l := R1.lt
  have R1n : ¬ w.heap.size + 1 = w1.heap.size := by omega
  have O1c0 := O1.c0
  have O1c1 := O1.c1
  have O1c2 := O1.c2
  have O1c3 := O1.c3
  have O1c4 := O1.c4
  have O1c5 := O1.c5
  have O1f0 := O1.f0
  have O1f1 := O1.f1
  have O1f2 := O1.f2
  have O1f3 := O1.f3
  have O1f4 := O1.f4
  have O1f5 := O1.f5
  have O1l := O1.lt
  have O1n : ¬ w.heap.size + 1 + 1 = w1.heap.size := by omega
  go_wp2_with fail
  refine (toVec_any _ _ _).mono ?_
  rintro e w2 ⟨rfl, hb2⟩
  have M2 : Km (w.heap.size) a b c d x y w2 := Km.call (show Km (w.heap.size) a b c d x y _ from by repeat (first | with_reducible assumption | with_reducible refine KM.drew ?_ | with_reducible refine KM.alloc ?_ _ | with_reducible refine KM.call ?_ (by with_reducible assumption) | with_reducible refine Km.drew ?_ | with_reducible refine Km.alloc ?_ _ | with_reducible refine Km.call ?_ (by with_reducible assumption) | ((with_reducible refine KM.put ?_ ?_); (first | omega | (dsimp only; omega))) | ((with_reducible refine Km.put ?_ ?_); (first | omega | (dsimp only; omega))) | ((with_reducible refine KM.far ?_ ?_); (first | omega | (dsimp only; omega))) | ((with_reducible refine Km.far ?_ ?_); (first | omega | (dsimp only; omega))))) hb2
  have R2 : KM (w.heap.size + 1) 0 0 0 0 0 0 w2 := KM.call (show KM (w.heap.size + 1) 0 0 0 0 0 0 _ from by repeat (first | with_reducible assumption | with_reducible refine KM.drew ?_ | with_reducible refine KM.alloc ?_ _ | with_reducible refine KM.call ?_ (by with_reducible assumption) | with_reducible refine Km.drew ?_ | with_reducible refine Km.alloc ?_ _ | with_reducible refine Km.call ?_ (by with_reducible assumption) | ((with_reducible refine KM.put ?_ ?_); (first | omega | (dsimp only; omega))) | ((with_reducible refine Km.put ?_ ?_); (first | omega | (dsimp only; omega))) | ((with_reducible refine KM.far ?_ ?_); (first | omega | (dsimp only; omega))) | ((with_reducible refine Km.far ?_ ?_); (first | omega | (dsimp only; omega))))) hb2
  have O2 : KM (w.heap.size + 1 + 1) a b c d 0 0 w2 := KM.call (KM.storeM O1 _ _ _ _) hb2
  have B2 : Below w.heap.size w w2 := bstep (by repeat (first | with_reducible assumption | with_reducible exact Below.refl _ _ | with_reducible refine Below.setCell ?_ (by first | omega | (simp <;> omega)) _ | with_reducible refine Below.alloc ?_ (by first | omega | (simp <;> omega)) _ | with_reducible refine bstep ?_ (by with_reducible assumption) | with_reducible refine Below.drew ?_)) hb2
  clear hb2 B1 M1 R1 O1
  have M2c0 := M2.c0
  have M2c1 := M2.c1
  have M2c2 := M2.c2
  have M2c3 := M2.c3
  have M2c4 := M2.c4
  have M2c5 := M2.c5
  have M2l := M2.1
  have M2n : ¬ w.heap.size = w2.heap.size := by omega
  have R2c0 := R2.c0
  have R2c1 := R2.c1
  have R2c2 := R2.c2
  have R2c3 := R2.c3
  have R2c4 := R2.c4
  have R2c5 := R2.c5
  have R2f0 := R2.f0
  have R2f1 := R2.f1
  have R2f2 := R2.f2
  have R2f3 := R2.f3
  have R2f4 := R2.f4
  have R2f5 := R2.f5
  have R2l := R2.lt
  have R2n : ¬ w.heap.size + 1 = w2.heap.size := by omega
  have O2c0 := O2.c0
  have O2c1 := O2.c1
  have O2c2 := O2.c2
  have O2c3 := O2.c3
  have O2c4 := O2.c4
  have O2c5 := O2.c5
  have O2f0 := O2.f0
  have O2f1 := O2.f1
  have O2f2 := O2.f2
  have O2f3 := O2.f3
  have O2f4 := O2.f4
  have O2f5 := O2.f5
  have O2l := O2.lt
  have O2n : ¬ w.heap.size + 1 + 1 = w2.heap.size := by omega
  go_wp2
  refine bodyPost_ret (v := .agg #[.int .i64 a, .int .i64 b, .int .i64 c, .int .i64 d, .int .i64 x, .int .i64 y]) (by simp [results, Try.results26, go_sem, *]) rfl ⟨rfl, ?_⟩
  repeat (first | with_reducible assumption | with_reducible exact Below.refl _ _ | with_reducible refine Below.setCell ?_ (by first | omega | (simp <;> omega)) _ | with_reducible refine Below.alloc ?_ (by first | omega | (simp <;> omega)) _ | with_reducible refine bstep ?_ (by with_reducible assumption) | with_reducible refine Below.drew ?_)
end
end Go.Proofs.Ytpejihckepaojaa

namespace Go.Proofs.Ytpejihckepaojaa
section
open Go.RowKit
set_option linter.unusedSimpArgs false
set_option linter.unusedVariables false

theorem has_iff9 {A B C : Int} (h : latI A B C) (x y : Int) : hasI A B C x y ↔ ∃ m n, x = m * A + n * B ∧ y = n * C := by
  have hC : C ≠ 0 := by have := h.2.1; omega
  constructor
  · rintro ⟨⟨n, rfl⟩, ⟨m, hm⟩⟩
    rw [Int.mul_ediv_cancel_left _ hC] at hm
    exact ⟨m, n, by rw [Int.mul_comm m A]; omega, Int.mul_comm _ _⟩
  · rintro ⟨m, n, rfl, rfl⟩
    refine ⟨⟨n, Int.mul_comm _ _⟩, ?_⟩
    rw [Int.mul_ediv_cancel _ hC]
    exact ⟨m, by rw [Int.mul_comm A m]; omega⟩
theorem has_sub9 {A B C x y x' y' : Int} (h : latI A B C) (h1 : hasI A B C x y) (h2 : hasI A B C x' y') : hasI A B C (x - x') (y - y') := by
  obtain ⟨m, n, rfl, rfl⟩ := (has_iff9 h _ _).1 h1
  obtain ⟨m', n', rfl, rfl⟩ := (has_iff9 h _ _).1 h2
  exact (has_iff9 h _ _).2 ⟨m - m', n - n', by grind, by grind⟩
theorem Spn_none (x y : Int) : Spn (0, 0, 0) x y ↔ x = 0 ∧ y = 0 := by
  constructor
  · rintro ⟨k, h1, h2⟩
    simp at h1 h2
    exact ⟨h2, h1⟩
  · rintro ⟨rfl, rfl⟩
    exact ⟨0, by simp, by simp⟩
theorem img_iff9 {A B C a b c d : Int} (hl : latI (mapI A B C a b c d).1 (mapI A B C a b c d).2.1 (mapI A B C a b c d).2.2) (x y : Int) :
    hasI (mapI A B C a b c d).1 (mapI A B C a b c d).2.1 (mapI A B C a b c d).2.2 x y ↔ ∃ m n, x = a * (m * A + n * B) + b * (n * C) ∧ y = c * (m * A + n * B) + d * (n * C) := by
  have hC : (mapI A B C a b c d).2.2 = ((spFold (mapL A B C a b c d)).2.1.natAbs : Int) := nrm_C _ _ _
  have h0 : (spFold (mapL A B C a b c d)).2.1 ≠ 0 := by have := hl.2.1; rw [hC] at this; omega
  have h1 : hasI (mapI A B C a b c d).1 (mapI A B C a b c d).2.1 (mapI A B C a b c d).2.2 x y ↔ Spn (spFold (mapL A B C a b c d)) x y := nrm_has h0
  rw [h1]
  have e : spFold (mapL A B C a b c d) = spStep (spStep (0, 0, 0) (a * A + b * 0, c * A + d * 0)) (a * B + b * C, c * B + d * C) := rfl
  rw [e, Spn_step]
  constructor
  · rintro ⟨n, h2⟩
    obtain ⟨m, h3⟩ := (Spn_step _ _ _ _).1 h2
    obtain ⟨h4, h5⟩ := (Spn_none _ _).1 h3
    exact ⟨m, n, by grind, by grind⟩
  · rintro ⟨m, n, rfl, rfl⟩
    exact ⟨n, (Spn_step _ _ _ _).2 ⟨m, (Spn_none _ _).2 ⟨by grind, by grind⟩⟩⟩
theorem img_fwd9 {A B C a b c d : Int} (h : latI A B C) (hl : latI (mapI A B C a b c d).1 (mapI A B C a b c d).2.1 (mapI A B C a b c d).2.2) {s t : Int} (hs : hasI A B C s t) :
    hasI (mapI A B C a b c d).1 (mapI A B C a b c d).2.1 (mapI A B C a b c d).2.2 (a * s + b * t) (c * s + d * t) := by
  obtain ⟨m, n, rfl, rfl⟩ := (has_iff9 h _ _).1 hs
  exact (img_iff9 hl _ _).2 ⟨m, n, rfl, rfl⟩
theorem img_bwd9 {A B C a b c d : Int} (h : latI A B C) (hd : a * d - b * c = 1 ∨ a * d - b * c = -1) (hl : latI (mapI A B C a b c d).1 (mapI A B C a b c d).2.1 (mapI A B C a b c d).2.2) {s t : Int}
    (hs : hasI (mapI A B C a b c d).1 (mapI A B C a b c d).2.1 (mapI A B C a b c d).2.2 (a * s + b * t) (c * s + d * t)) : hasI A B C s t := by
  obtain ⟨m, n, e1, e2⟩ := (img_iff9 hl _ _).1 hs
  obtain ⟨s0, hs0⟩ : ∃ s0, s0 = m * A + n * B := ⟨_, rfl⟩
  obtain ⟨t0, ht0⟩ : ∃ t0, t0 = n * C := ⟨_, rfl⟩
  rw [← hs0, ← ht0] at e1 e2
  have k1 : (a * d - b * c) * s = (a * d - b * c) * s0 := by grind
  have k2 : (a * d - b * c) * t = (a * d - b * c) * t0 := by grind
  refine (has_iff9 h _ _).2 ⟨m, n, ?_, ?_⟩
  · rcases hd with hd | hd <;> rw [hd] at k1 <;> omega
  · rcases hd with hd | hd <;> rw [hd] at k2 <;> omega
theorem num_cong9 {A B C x y x' y' : Int} (h : latI A B C) (hs : hasI A B C (x - x') (y - y')) : numP A B C x y = numP A B C x' y' := by
  have hC : C ≠ 0 := by have := h.2.1; omega
  obtain ⟨⟨n, hn⟩, hA⟩ := hs
  have e1 : y % C = y' % C := emod9 ⟨n, hn⟩
  have m1 := Int.emod_add_mul_ediv y C
  have m2 := Int.emod_add_mul_ediv y' C
  have e2 : C * (y / C - y' / C) = C * n := by rw [Int.mul_sub]; omega
  have e3 : y / C - y' / C = n := Int.eq_of_mul_eq_mul_left hC e2
  have e4 : (y - y') / C = n := by rw [hn]; exact Int.mul_ediv_cancel_left _ hC
  rw [e4] at hA
  have e5 : redX A B C x y = redX A B C x' y' := by
    unfold redX
    refine emod9 ?_
    have : x - y / C * B - (x' - y' / C * B) = x - x' - n * B := by rw [← e3]; grind
    rw [this]
    exact hA
  unfold numP redY
  rw [e5, e1]
theorem num_inj9 {A B C x y x' y' : Int} (h : latI A B C) (hn : numP A B C x y = numP A B C x' y') : hasI A B C (x - x') (y - y') := by
  have i1 := numP_int (x := x) (y := y) h
  have i2 := numP_int (x := x') (y := y') h
  have b1 := redY_bd (y := y) h
  have b2 := redY_bd (y := y') h
  have b3 := redX_bd (x := x) (y := y) h
  have b4 := redX_bd (x := x') (y := y') h
  rw [hn, i2] at i1
  have hq : redX A B C x y = redX A B C x' y' ∧ redY C y = redY C y' := by
    generalize redX A B C x y = X at *
    generalize redX A B C x' y' = X' at *
    generalize redY C y = Y at *
    generalize redY C y' = Y' at *
    have k1 := congrArg (· % C) i1
    have k2 := congrArg (· / C) i1
    simp only [Int.mul_add_emod_self_right, Int.add_emod, Int.mul_emod_left, Int.zero_add, Int.emod_emod_of_dvd] at k1
    have r1 : Y' = Y := by
      rw [Int.add_comm (X' * C), Int.add_comm (X * C)] at i1
      have q := congrArg (· % C) i1
      simp only [Int.add_mul_emod_self_right] at q
      rwa [Int.emod_eq_of_lt b2.1 b2.2, Int.emod_eq_of_lt b1.1 b1.2] at q
    subst r1
    have r2 : X' * C = X * C := by omega
    exact ⟨(Int.eq_of_mul_eq_mul_right (by omega) r2).symm, rfl⟩
  have k1 := (hasB_iff _ _ _ _ _).1 (red_has (x := x) (y := y) h)
  have k2 := (hasB_iff _ _ _ _ _).1 (red_has (x := x') (y := y') h)
  have k3 := has_sub9 h k1 k2
  rw [hq.1, hq.2] at k3
  have e1 : x - redX A B C x' y' - (x' - redX A B C x' y') = x - x' := by omega
  have e2 : y - redY C y' - (y' - redY C y') = y - y' := by omega
  rwa [e1, e2] at k3
theorem cellP_get9 (q : Nat) : ∀ (p k : Nat) (h : k < (cellP q p).length), (cellP q p)[k] = (((k / q : Nat) : Int), ((k % q : Nat) : Int))
  | 0, k, h => by rw [cellP_len] at h; omega
  | p + 1, k, h => by
    have hl := cellP_len q (p + 1)
    rw [hl, Nat.succ_mul] at h
    simp only [cellP_succ]
    by_cases hk : k < (cellP q p).length
    · rw [List.getElem_append_left hk]
      exact cellP_get9 q p k hk
    · rw [List.getElem_append_right (by omega)]
      rw [cellP_len] at hk
      have hq : 0 < q := by omega
      have e1 : k / q = p := Nat.div_eq_of_lt_le (by omega) (by rw [Nat.succ_mul]; omega)
      have e2 : k % q = k - p * q := by
        have := Nat.div_add_mod k q
        rw [e1, Nat.mul_comm q p] at this
        omega
      rw [e1, e2]
      simp [cellR, cellP_len]
theorem num_cell9 {p q : Nat} {B : Int} (hl : latI (p : Int) B (q : Int)) {k : Nat} (h : k < (cellP q p).length) : numP (p : Int) B (q : Int) (cellP q p)[k].1 (cellP q p)[k].2 = k := by
  have hm := cellP_mem9 (List.getElem_mem h)
  obtain ⟨e1, e2⟩ := red_cell (A := (p : Int)) (B := B) hm.1.1 hm.1.2 hm.2.1 hm.2.2
  unfold numP
  rw [e1, e2, cellP_get9 q p k h]
  dsimp only
  have := Nat.div_add_mod k q
  rw [Nat.mul_comm] at this
  have e3 : (((k / q : Nat) : Int) * (q : Int) + ((k % q : Nat) : Int)) = ((k / q * q + k % q : Nat) : Int) := by simp
  rw [e3, this]
  simp
/- the number of the image of cell k -/
def idx9 (A' B' C' a b c d x y : Int) (p q : Nat) (k : Nat) : Nat := numP A' B' C' (a * ((cellP q p).getD k (0, 0)).1 + b * ((cellP q p).getD k (0, 0)).2 + x) (c * ((cellP q p).getD k (0, 0)).1 + d * ((cellP q p).getD k (0, 0)).2 + y)
def mvS (ix : Nat → Nat) (F : Nat → Int) : Nat → Nat → Int
  | 0 => fun _ => 0
  | k + 1 => fun t => if t = ix k then F k else mvS ix F k t
theorem mvS_at {ix : Nat → Nat} {F : Nat → Int} {n i j : Nat} (hu : ∀ k, k < n → ix k = j → k = i) (hi : ix i = j) : ∀ K, i < K → K ≤ n → mvS ix F K j = F i
  | 0, h, _ => by omega
  | K + 1, h, hn => by
    simp only [mvS]
    by_cases e : K = i
    · subst e
      rw [if_pos hi.symm]
    · rw [if_neg (fun h9 => e (hu K (by omega) h9.symm))]
      exact mvS_at hu hi K (by omega) (by omega)
theorem intAt_ints (zs : List Int) (j : Nat) (h : j < zs.length) : intAt (intsV zs) j = zs[j] := by
  unfold intAt intsV
  rw [List.getElem?_map, List.getElem?_eq_getElem h]
  rfl
theorem moved_eq9 {p q : Nat} {B a b c d x y : Int} {F : Nat → Int} {p' q' : Nat} {B' : Int} (h : latI (p : Int) B (q : Int)) (hm : mapI (p : Int) B (q : Int) a b c d = ((p' : Int), B', (q' : Int))) (hl : latI (p' : Int) B' (q' : Int)) (hi : (p' : Int) * (q' : Int) = (p : Int) * (q : Int)) (hd : a * d - b * c = 1 ∨ a * d - b * c = -1) :
    ∀ j, j < p' * q' → mvS (idx9 (p' : Int) B' (q' : Int) a b c d x y p q) F (p * q) j = cpyG (p : Int) B (q : Int) F (d * (a * d - b * c)) (-b * (a * d - b * c)) (-c * (a * d - b * c)) (a * (a * d - b * c)) (bkX a b c d x y) (bkY a b c d x y) p' q' j := by
  have hl9 : latI (mapI (p : Int) B (q : Int) a b c d).1 (mapI (p : Int) B (q : Int) a b c d).2.1 (mapI (p : Int) B (q : Int) a b c d).2.2 := by rw [hm]; exact hl
  have hin : p' * q' = p * q := by exact_mod_cast hi
  have fwd : ∀ s t, hasI (p : Int) B (q : Int) s t → hasI (p' : Int) B' (q' : Int) (a * s + b * t) (c * s + d * t) := fun s t h9 => by have := img_fwd9 h hl9 h9; rwa [hm] at this
  have bwd : ∀ s t, hasI (p' : Int) B' (q' : Int) (a * s + b * t) (c * s + d * t) → hasI (p : Int) B (q : Int) s t := fun s t h9 => img_bwd9 h hd hl9 (by rw [hm]; exact h9)
  intro j hj
  have hj' : j < (cellP q' p').length := by rw [cellP_len]; exact hj
  obtain ⟨⟨u, v⟩, huv⟩ : ∃ w, w = (cellP q' p')[j] := ⟨_, rfl⟩
  have hnj := num_cell9 hl hj'
  rw [← huv] at hnj
  dsimp only at hnj
  obtain ⟨s, hs⟩ : ∃ s, s = d * (a * d - b * c) * u + -b * (a * d - b * c) * v + bkX a b c d x y := ⟨_, rfl⟩
  obtain ⟨t, ht⟩ : ∃ t, t = -c * (a * d - b * c) * u + a * (a * d - b * c) * v + bkY a b c d x y := ⟨_, rfl⟩
  have hst : a * s + b * t + x = u ∧ c * s + d * t + y = v := by
    rw [hs, ht]
    unfold bkX bkY
    have hD : (a * d - b * c) * (a * d - b * c) = 1 := by rcases hd with h9 | h9 <;> rw [h9] <;> rfl
    constructor <;> grind
  have hR : cpyG (p : Int) B (q : Int) F (d * (a * d - b * c)) (-b * (a * d - b * c)) (-c * (a * d - b * c)) (a * (a * d - b * c)) (bkX a b c d x y) (bkY a b c d x y) p' q' j = F (numP (p : Int) B (q : Int) s t) := by
    unfold cpyG
    rw [intAt_ints _ _ (by rw [cpyL, List.length_map]; exact hj')]
    unfold cpyL
    rw [List.getElem_map, ← huv]
    unfold cpy
    rw [← hs, ← ht]
  rw [hR]
  have hib : numP (p : Int) B (q : Int) s t < (cellP q p).length := by
    rw [cellP_len]
    have b1 := redX_bd (x := s) (y := t) h
    have b2 := redY_bd (y := t) h
    have b3 := latI_bd h
    have b4 := (num_bd b1 b2 b3.1 b3.2).2
    have b5 := numP_int (x := s) (y := t) h
    have b6 : ((numP (p : Int) B (q : Int) s t : Nat) : Int) < ((p * q : Nat) : Int) := by rw [b5]; simpa using b4
    exact_mod_cast b6
  obtain ⟨i, hi9⟩ : ∃ i, i = numP (p : Int) B (q : Int) s t := ⟨_, rfl⟩
  rw [← hi9] at hib ⊢
  have gd : ∀ k (hk : k < (cellP q p).length), (cellP q p).getD k (0, 0) = (cellP q p)[k] := fun k hk => by simp [List.getD, List.getElem?_eq_getElem hk]
  have key : ∀ k (hk : k < (cellP q p).length), idx9 (p' : Int) B' (q' : Int) a b c d x y p q k = j ↔ k = i := by
    intro k hk
    unfold idx9
    rw [gd k hk]
    obtain ⟨⟨k0, k1⟩, hk0⟩ : ∃ w, w = (cellP q p)[k] := ⟨_, rfl⟩
    have hnk := num_cell9 h hk
    rw [← hk0] at hnk ⊢
    dsimp only at hnk ⊢
    have e1 : a * k0 + b * k1 + x - u = a * (k0 - s) + b * (k1 - t) := by have := hst.1; grind
    have e2 : c * k0 + d * k1 + y - v = c * (k0 - s) + d * (k1 - t) := by have := hst.2; grind
    constructor
    · intro h9
      have h8 := num_inj9 hl (h9.trans hnj.symm)
      rw [e1, e2] at h8
      rw [← hnk, hi9]
      exact num_cong9 h (bwd _ _ h8)
    · intro h9
      rw [← hnj]
      refine num_cong9 hl ?_
      rw [e1, e2]
      exact fwd _ _ (num_inj9 h (by rw [hnk, h9, hi9]))
  rw [cellP_len] at hib
  exact mvS_at (n := p * q) (fun k hk h9 => (key k (by rw [cellP_len]; exact hk)).1 h9) ((key i (by rw [cellP_len]; exact hib)).2 rfl) (p * q) hib (Nat.le_refl _)
end
end Go.Proofs.Ytpejihckepaojaa

namespace Go.Proofs.Ytpejihckepaojaa
section
open Go.RowKit
set_option linter.unusedSimpArgs false
set_option linter.unusedVariables false

theorem SRow.putO9 {lo hi K n : Nat} {F : Nat → Int} {v : Value} {W : World} {q : Addr} (hq : offB v q.block) (u : Value) (h : SRow lo hi K v n F W) : SRow lo hi K v n F (W.setCell q u) := by
  obtain ⟨e1, e2, e3⟩ := h
  refine ⟨by simpa [World.setCell] using e1, e2, ?_⟩
  rcases e3 with e3 | ⟨g, cap, rfl, hg, hg2, r⟩
  · exact .inl e3
  · by_cases hn : n = 0
    · subst hn; exact .inl ⟨rfl, _, _, rfl⟩
    · exact .inr ⟨g, cap, rfl, hg, hg2, r.far (fun e => hn (hq n cap (by rw [e])))⟩
theorem lt_al9 (W : World) (o : Obj) : W.heap.size < (W.alloc o).heap.size := by simp
theorem SRow.alloc9 {lo hi K n : Nat} {F : Nat → Int} {v : Value} {W : World} (h : SRow lo hi K v n F W) (o : Obj) : SRow lo hi K v n F (W.alloc o) := h.call ((Below.refl _ _).alloc (Nat.le_refl _) _)
theorem SRow.drew9 {lo hi K n : Nat} {F : Nat → Int} {v : Value} {W : World} (h : SRow lo hi K v n F W) : SRow lo hi K v n F W.drew := h.call (Below.refl _ _).drew
theorem Bx.st5 {g : Nat} {u0 u1 u2 u3 u4 : Value} {W : World} (h : BX g [.int .i64 0, .int .i64 0, .int .i64 0, .int .i64 0, .slice none 0 0] W) : Bx g [u0, u1, u2, u3, u4] (((((W.setCell ⟨g, 0, none⟩ u0).setCell ⟨g, 1, none⟩ u1).setCell ⟨g, 2, none⟩ u2).setCell ⟨g, 3, none⟩ u3).setCell ⟨g, 4, none⟩ u4) := (((((h.store 0 (by simp) u0).store 1 (by simp) u1).store 2 (by simp) u2).store 3 (by simp) u3).store 4 (by simp) u4).bx
/- what a drawn region leaves that sets a new variable from a call's answer: a pattern, and a code -/
def McP (r : PR) (W : World) (s6 s7 : Value) (wx : World) : Prop :=
  ∃ (bx : Nat) (f A B C : Int) (m : Nat) (G : Nat → Int) (c : Int) (ao : Option Addr) (cap : Nat), r = (f, A, B, C, m, G, c) ∧ s6 = .pointer (some ⟨bx, 0, none⟩) ∧ s7 = .int .i64 c ∧
    Bx bx [.int .i64 f, .int .i64 A, .int .i64 B, .int .i64 C, .slice ao m cap] wx ∧ SRow W.heap.size wx.heap.size 1 (.slice ao m cap) m G wx ∧ W.heap.size ≤ bx ∧ offB (.slice ao m cap) bx ∧ Below W.heap.size W wx
end
end Go.Proofs.Ytpejihckepaojaa

