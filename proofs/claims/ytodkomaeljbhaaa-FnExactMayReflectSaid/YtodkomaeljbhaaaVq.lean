/-
  Several of my texts in one: FaQ, FaR.
-/
import Derived.Test.YtodkomaeljbhaaaFaP
import Derived.Test.YtodkomaeljbhaaaSu
import Derived.Deep.RegionHeld3
import Derived.IntWalk
import Derived.Test.YtodkomaeljbhaaaRd6
namespace Go.Proofs.Ytodkomaeljbhaaa
section
open Go.RowKit
set_option linter.unusedSimpArgs false
set_option linter.unusedVariables false

attribute [local go_sem ↓] eqVeF
set_option maxRecDepth 100000 in
set_option maxHeartbeats 8000000 in
theorem isCen_any (f A B C a b c d x y : Int) (w : World) (hok : okM f A B C (a, b, c, d, x, y) = true) (hr : reflB a b c d = true) :
    Calls Try.prog 20 #[.agg #[.int .i64 A, .int .i64 B, .int .i64 C], .agg #[.int .i64 a, .int .i64 b, .int .i64 c, .int .i64 d]] w fun e w' => e = .returned (.bool (cenB A B C a b c d)) ∧ Below w.heap.size w w' := by
    obtain ⟨hl, hf, hkk, hst, hm, hs⟩ := suit_parts hok
    obtain ⟨p, q, hax⟩ : ∃ p q, axP a b c d = (p, q) := ⟨_, _, rfl⟩
    have HPB := Lib.hid (show (-2 ≤ p ∧ p ≤ 2) ∧ (-2 ≤ q ∧ q ≤ 2) from by have := axP_bd hr hs; rw [hax] at this; exact this)
    have hG := step_pos hok hr
    rw [hax] at hG
    dsimp only at hG
    obtain ⟨g, hg⟩ : ∃ g, g = stepG A B C a b c d p q := ⟨_, rfl⟩
    have HAX := Lib.hid (fun W => axisF_any a b c d p q W hm hr hax)
    have HSL := Lib.hid (fun x' y' (hv : vecB x' y' = true) W => slide_any a b c d p q x' y' W hm hr hax hs hv)
    have HST := Lib.hid (fun W => step_any A B C a b c d p q W hl hm hr hax hs)
    have HIV := Lib.hid (fun W => invar_any A B C a b c d p q W hl hm hr hax hs)
    have HTM := Lib.hid (fun W => times_any p q g W (by have := HPB.out; simp [vecB]; omega) (by rw [hg]; simp [inB]; omega))
    have hC := cen_prog (A := A) (B := B) (C := C) hr
    rw [hax, ← hg] at hC
    dsimp only at hC
    obtain ⟨X, hX⟩ : ∃ X, X = ivX A B C a b c d := ⟨_, rfl⟩
    obtain ⟨Y, hY⟩ : ∃ Y, Y = ivY A B C a b c d := ⟨_, rfl⟩
    have EA := Lib.hid (show eqV2F (p * g) (q * g) X Y = cenB A B C a b c d from by rw [hX, hY]; exact hC)
    have HX := Lib.hid (show (invK A B C p q : Int) * p = X ∧ (invK A B C p q : Int) * q = Y from by rw [hX, hY]; unfold ivX ivY; rw [hax]; exact ⟨rfl, rfl⟩)
    have HG := Lib.hid hg.symm
    clear hC hX hY hax hG hg hl hf hkk hst hm hs hok hr HPB HSL
    have L0 : Kt (w.heap.size) A B C ((w.alloc (.cells #[.int .i64 A, .int .i64 B, .int .i64 C] 28)).alloc (.cells #[.int .i64 a, .int .i64 b, .int .i64 c, .int .i64 d] 50)) := ((Kt.at (w.heap.size) rfl).alloc _)
    have M0 : Kq (w.heap.size + 1) a b c d ((w.alloc (.cells #[.int .i64 A, .int .i64 B, .int .i64 C] 28)).alloc (.cells #[.int .i64 a, .int .i64 b, .int .i64 c, .int .i64 d] 50)) := (Kq.at (w.heap.size + 1) (by simp))
    have B0 : Below w.heap.size w ((w.alloc (.cells #[.int .i64 A, .int .i64 B, .int .i64 C] 28)).alloc (.cells #[.int .i64 a, .int .i64 b, .int .i64 c, .int .i64 d] 50)) := (Below.alloc (Below.alloc (Below.refl _ _) (by first | with_reducible exact Nat.le_refl _ | (simp <;> omega)) _) (by first | with_reducible exact Nat.le_refl _ | (simp <;> omega)) _)
    go_enter Try.func20, Try.ntmps20
    have L0c0 := L0.c0
    have L0c1 := L0.c1
    have L0c2 := L0.c2
    have L0l := L0.1
    have M0c0 := M0.c0
    have M0c1 := M0.c1
    have M0c2 := M0.c2
    have M0c3 := M0.c3
    have M0l := M0.1
    have L0lt := L0.1
    have M0lt := M0.1
    go_wp2_with fail
    go_region_held3 (fun W => (W.cell? ⟨w.heap.size, 0, none⟩ = some (.int .i64 A) ∧ W.cell? ⟨w.heap.size, 1, none⟩ = some (.int .i64 B) ∧ W.cell? ⟨w.heap.size, 2, none⟩ = some (.int .i64 C)) ∧ (W.cell? ⟨w.heap.size + 1, 0, none⟩ = some (.int .i64 a) ∧ W.cell? ⟨w.heap.size + 1, 1, none⟩ = some (.int .i64 b) ∧ W.cell? ⟨w.heap.size + 1, 2, none⟩ = some (.int .i64 c) ∧ W.cell? ⟨w.heap.size + 1, 3, none⟩ = some (.int .i64 d))) ((refine ⟨Kt.cells ?_, Kq.cells ?_⟩ <;> repeat (first | with_reducible assumption | with_reducible refine Kq.drew ?_ | with_reducible refine Kq.alloc ?_ _ | with_reducible refine Kq.call ?_ (by with_reducible assumption) | with_reducible refine Kt.drew ?_ | with_reducible refine Kt.alloc ?_ _ | with_reducible refine Kt.call ?_ (by with_reducible assumption) | ((with_reducible refine Kq.put ?_ ?_); (first | omega | (dsimp only; omega))) | ((with_reducible refine Kt.put ?_ ?_); (first | omega | (dsimp only; omega))) | ((with_reducible refine Kq.far ?_ ?_); (first | omega | (dsimp only; omega))))))
      (first
        | (go_at_call 36; ((with_reducible refine (HAX.out _).mono ?_); rintro e w1 ⟨rfl, hb1⟩; have L1 : Kt (w.heap.size) A B C w1 := (by repeat (first | with_reducible assumption | with_reducible refine Kq.drew ?_ | with_reducible refine Kq.alloc ?_ _ | with_reducible refine Kq.call ?_ (by with_reducible assumption) | with_reducible refine Kt.drew ?_ | with_reducible refine Kt.alloc ?_ _ | with_reducible refine Kt.call ?_ (by with_reducible assumption))); have M1 : Kq (w.heap.size + 1) a b c d w1 := (by repeat (first | with_reducible assumption | with_reducible refine Kq.drew ?_ | with_reducible refine Kq.alloc ?_ _ | with_reducible refine Kq.call ?_ (by with_reducible assumption) | with_reducible refine Kt.drew ?_ | with_reducible refine Kt.alloc ?_ _ | with_reducible refine Kt.call ?_ (by with_reducible assumption))); have L1l := L1.1; have M1l := M1.1; have B1 : Below w.heap.size w w1 := (by repeat (first | with_reducible assumption | with_reducible refine Below.drew ?_ | with_reducible refine Below.alloc ?_ (by first | omega | (have := B0.size; simp <;> omega)) _ | with_reducible refine bstep ?_ (by with_reducible assumption)))))
        | (go_at_call 38; ((with_reducible refine (HST.out _).mono ?_); rintro e w2 ⟨rfl, hb2⟩; rw [HG.out]; have L2 : Kt (w.heap.size) A B C w2 := (by repeat (first | with_reducible assumption | with_reducible refine Kq.drew ?_ | with_reducible refine Kq.alloc ?_ _ | with_reducible refine Kq.call ?_ (by with_reducible assumption) | with_reducible refine Kt.drew ?_ | with_reducible refine Kt.alloc ?_ _ | with_reducible refine Kt.call ?_ (by with_reducible assumption))); have M2 : Kq (w.heap.size + 1) a b c d w2 := (by repeat (first | with_reducible assumption | with_reducible refine Kq.drew ?_ | with_reducible refine Kq.alloc ?_ _ | with_reducible refine Kq.call ?_ (by with_reducible assumption) | with_reducible refine Kt.drew ?_ | with_reducible refine Kt.alloc ?_ _ | with_reducible refine Kt.call ?_ (by with_reducible assumption))); have L2l := L2.1; have M2l := M2.1; have B2 : Below w.heap.size w w2 := (by repeat (first | with_reducible assumption | with_reducible refine Below.drew ?_ | with_reducible refine Below.alloc ?_ (by first | omega | (have := B0.size; simp <;> omega)) _ | with_reducible refine bstep ?_ (by with_reducible assumption)))))
        | (go_at_call 37; ((with_reducible refine (HTM.out _).mono ?_); rintro e w3 ⟨rfl, hb3⟩; have L3 : Kt (w.heap.size) A B C w3 := (by repeat (first | with_reducible assumption | with_reducible refine Kq.drew ?_ | with_reducible refine Kq.alloc ?_ _ | with_reducible refine Kq.call ?_ (by with_reducible assumption) | with_reducible refine Kt.drew ?_ | with_reducible refine Kt.alloc ?_ _ | with_reducible refine Kt.call ?_ (by with_reducible assumption))); have M3 : Kq (w.heap.size + 1) a b c d w3 := (by repeat (first | with_reducible assumption | with_reducible refine Kq.drew ?_ | with_reducible refine Kq.alloc ?_ _ | with_reducible refine Kq.call ?_ (by with_reducible assumption) | with_reducible refine Kt.drew ?_ | with_reducible refine Kt.alloc ?_ _ | with_reducible refine Kt.call ?_ (by with_reducible assumption))); have L3l := L3.1; have M3l := M3.1; have B3 : Below w.heap.size w w3 := (by repeat (first | with_reducible assumption | with_reducible refine Below.drew ?_ | with_reducible refine Below.alloc ?_ (by first | omega | (have := B0.size; simp <;> omega)) _ | with_reducible refine bstep ?_ (by with_reducible assumption)))))
        | (go_at_call 22; ((with_reducible refine (HIV.out _).mono ?_); rintro e w4 ⟨rfl, hb4⟩; rw [HX.out.1, HX.out.2]; have L4 : Kt (w.heap.size) A B C w4 := (by repeat (first | with_reducible assumption | with_reducible refine Kq.drew ?_ | with_reducible refine Kq.alloc ?_ _ | with_reducible refine Kq.call ?_ (by with_reducible assumption) | with_reducible refine Kt.drew ?_ | with_reducible refine Kt.alloc ?_ _ | with_reducible refine Kt.call ?_ (by with_reducible assumption))); have M4 : Kq (w.heap.size + 1) a b c d w4 := (by repeat (first | with_reducible assumption | with_reducible refine Kq.drew ?_ | with_reducible refine Kq.alloc ?_ _ | with_reducible refine Kq.call ?_ (by with_reducible assumption) | with_reducible refine Kt.drew ?_ | with_reducible refine Kt.alloc ?_ _ | with_reducible refine Kt.call ?_ (by with_reducible assumption))); have L4l := L4.1; have M4l := M4.1; have B4 : Below w.heap.size w w4 := (by repeat (first | with_reducible assumption | with_reducible refine Below.drew ?_ | with_reducible refine Below.alloc ?_ (by first | omega | (have := B0.size; simp <;> omega)) _ | with_reducible refine bstep ?_ (by with_reducible assumption))))))
    all_goals
      go_wp2
      go_ret
      refine ⟨ret_bool EA.out, ?_⟩
      repeat (first | with_reducible assumption | with_reducible exact Below.refl _ _ | with_reducible refine Below.setCell ?_ (by first | omega | (simp <;> omega)) _ | with_reducible refine Below.alloc ?_ (by first | omega | (simp <;> omega)) _ | with_reducible refine bstep ?_ (by with_reducible assumption) | with_reducible refine Below.drew ?_)
set_option maxRecDepth 100000 in
set_option maxHeartbeats 8000000 in
theorem mayRef_any (f A B C a b c d x y : Int) (w : World) (hok : okM f A B C (a, b, c, d, x, y) = true) :
    Calls Try.prog 28 #[.agg #[.int .i64 A, .int .i64 B, .int .i64 C], .agg #[.int .i64 a, .int .i64 b, .int .i64 c, .int .i64 d, .int .i64 x, .int .i64 y]] w fun e w' => e = .returned (.bool (mayB A B C (a, b, c, d, x, y))) ∧ Below w.heap.size w w' := by
    have HLI := Lib.hid (matB_lim (suit_parts hok).2.2.2.2.1)
    rcases hr : reflB a b c d with _ | _
    · have EA := Lib.hid (show false = mayB A B C (a, b, c, d, x, y) from by unfold mayB; dsimp only; rw [hr]; rfl)
      have RFC := Lib.hid (fun W => isReflection_any a b c d W HLI.out)
      rw [hr] at RFC
      clear hr hok
      have L0 : Kt (w.heap.size) A B C ((w.alloc (.cells #[.int .i64 A, .int .i64 B, .int .i64 C] 28)).alloc (.cells #[.int .i64 a, .int .i64 b, .int .i64 c, .int .i64 d, .int .i64 x, .int .i64 y] 66)) := ((Kt.at (w.heap.size) rfl).alloc _)
      have M0 : Km (w.heap.size + 1) a b c d x y ((w.alloc (.cells #[.int .i64 A, .int .i64 B, .int .i64 C] 28)).alloc (.cells #[.int .i64 a, .int .i64 b, .int .i64 c, .int .i64 d, .int .i64 x, .int .i64 y] 66)) := (Km.at (w.heap.size + 1) (by simp))
      have B0 : Below w.heap.size w ((w.alloc (.cells #[.int .i64 A, .int .i64 B, .int .i64 C] 28)).alloc (.cells #[.int .i64 a, .int .i64 b, .int .i64 c, .int .i64 d, .int .i64 x, .int .i64 y] 66)) := (Below.alloc (Below.alloc (Below.refl _ _) (by first | with_reducible exact Nat.le_refl _ | (simp <;> omega)) _) (by first | with_reducible exact Nat.le_refl _ | (simp <;> omega)) _)
      go_enter Try.func28, Try.ntmps28
      have L0c0 := L0.c0
      have L0c1 := L0.c1
      have L0c2 := L0.c2
      have L0l := L0.1
      have M0c0 := M0.c0
      have M0c1 := M0.c1
      have M0c2 := M0.c2
      have M0c3 := M0.c3
      have M0c4 := M0.c4
      have M0c5 := M0.c5
      have M0l := M0.1
      go_wp2_with fail
      refine wp_region_held_drew (S := (fun W => (W.cell? ⟨w.heap.size, 0, none⟩ = some (.int .i64 A) ∧ W.cell? ⟨w.heap.size, 1, none⟩ = some (.int .i64 B) ∧ W.cell? ⟨w.heap.size, 2, none⟩ = some (.int .i64 C)) ∧ (W.cell? ⟨w.heap.size + 1, 0, none⟩ = some (.int .i64 a) ∧ W.cell? ⟨w.heap.size + 1, 1, none⟩ = some (.int .i64 b) ∧ W.cell? ⟨w.heap.size + 1, 2, none⟩ = some (.int .i64 c) ∧ W.cell? ⟨w.heap.size + 1, 3, none⟩ = some (.int .i64 d) ∧ W.cell? ⟨w.heap.size + 1, 4, none⟩ = some (.int .i64 x) ∧ W.cell? ⟨w.heap.size + 1, 5, none⟩ = some (.int .i64 y)))) (by kernel_rfl) ?_ (fun hHeld => ?_)
      · exact ⟨L0.cells, M0.cells⟩
      refine wpAnyH_take (i := 0) (v := ?_) (by (simp only [List.getElem?_toArray, List.getElem?_cons_succ, List.getElem?_cons_zero]); rfl) (by kernel_rfl) (by kernel_rfl) (by kernel_rfl) (by exact fun _ _ _ h => h) (Or.inl ⟨by rfl, ?_⟩) (by assumption) ?_
      rotate_left 1
      · (intro w hSw; (try dsimp only at hSw); go_simp) <;> with_reducible rfl
      (try simp only [Act.put, List.setIfInBounds_toArray, List.set_cons_zero, List.set_cons_succ])
      refine wpAnyH_take (i := 1) (v := ?_) (by (simp only [List.getElem?_toArray, List.getElem?_cons_succ, List.getElem?_cons_zero]); rfl) (by kernel_rfl) (by kernel_rfl) (by kernel_rfl) (by exact fun _ _ _ h => h) (Or.inl ⟨by rfl, ?_⟩) (by assumption) ?_
      rotate_left 1
      · (intro w hSw; (try dsimp only at hSw); go_simp) <;> with_reducible rfl
      (try simp only [Act.put, List.setIfInBounds_toArray, List.set_cons_zero, List.set_cons_succ])
      refine wpAnyH_ready (rs := [2]) (by kernel_rfl) (by simp) ?_
      refine AllReadyH.cons (o := _) (by (simp only [List.getElem?_toArray, List.getElem?_cons_succ, List.getElem?_cons_zero]); rfl) (fun K hK => ?_) AllReadyH.nil
      go_simp
      go_at_call 35
      refine (RFC.out _).mono ?_
      rintro e u1 ⟨rfl, hb1⟩
      have L1 : Kt (w.heap.size) A B C u1 := (by repeat (first | with_reducible assumption | with_reducible refine Km.drew ?_ | with_reducible refine Km.alloc ?_ _ | with_reducible refine Km.call ?_ (by with_reducible assumption) | with_reducible refine Kt.drew ?_ | with_reducible refine Kt.alloc ?_ _ | with_reducible refine Kt.call ?_ (by with_reducible assumption)))
      have M1 : Km (w.heap.size + 1) a b c d x y u1 := (by repeat (first | with_reducible assumption | with_reducible refine Km.drew ?_ | with_reducible refine Km.alloc ?_ _ | with_reducible refine Km.call ?_ (by with_reducible assumption) | with_reducible refine Kt.drew ?_ | with_reducible refine Kt.alloc ?_ _ | with_reducible refine Kt.call ?_ (by with_reducible assumption)))
      have B1 : Below w.heap.size w u1 := (by repeat (first | with_reducible assumption | with_reducible refine Below.drew ?_ | with_reducible refine bstep ?_ (by with_reducible assumption)))
      clear hb1
      go_wp2_with fail
      refine hK.out _ _ ?_ (fun hHeld => ?_)
      · (try dsimp only)
        exact ⟨L1.cells, M1.cells⟩
      clear hK K
      (try simp only [Act.put, List.setIfInBounds_toArray, List.set_cons_zero, List.set_cons_succ])
      refine wpAnyH_take (i := 3) (v := ?_) (by (simp only [List.getElem?_toArray, List.getElem?_cons_succ, List.getElem?_cons_zero]); rfl) (by kernel_rfl) (by kernel_rfl) (by kernel_rfl) (by exact fun _ _ _ h => h) (Or.inl ⟨by rfl, ?_⟩) (by assumption) ?_
      rotate_left 1
      · (intro w hSw; (try dsimp only at hSw); go_simp) <;> with_reducible rfl
      (try simp only [Act.put, List.setIfInBounds_toArray, List.set_cons_zero, List.set_cons_succ])
      refine wpAnyH_take (i := 4) (v := undef) (by (simp only [List.getElem?_toArray, List.getElem?_cons_succ, List.getElem?_cons_zero]); rfl) (by kernel_rfl) (by kernel_rfl) (by kernel_rfl) (by exact fun _ _ _ h => h) (Or.inr ⟨by rfl, rfl⟩) (by assumption) ?_
      (try simp only [Act.put, List.setIfInBounds_toArray, List.set_cons_zero, List.set_cons_succ])
      refine wpAnyH_take (i := 5) (v := undef) (by (simp only [List.getElem?_toArray, List.getElem?_cons_succ, List.getElem?_cons_zero]); rfl) (by kernel_rfl) (by kernel_rfl) (by kernel_rfl) (by exact fun _ _ _ h => h) (Or.inr ⟨by rfl, rfl⟩) (by assumption) ?_
      (try simp only [Act.put, List.setIfInBounds_toArray, List.set_cons_zero, List.set_cons_succ])
      refine wpAnyH_take (i := 6) (v := undef) (by (simp only [List.getElem?_toArray, List.getElem?_cons_succ, List.getElem?_cons_zero]); rfl) (by kernel_rfl) (by kernel_rfl) (by kernel_rfl) (by exact fun _ _ _ h => h) (Or.inr ⟨by rfl, rfl⟩) (by assumption) ?_
      (try simp only [Act.put, List.setIfInBounds_toArray, List.set_cons_zero, List.set_cons_succ])
      refine wpAnyH_take (i := 7) (v := undef) (by (simp only [List.getElem?_toArray, List.getElem?_cons_succ, List.getElem?_cons_zero]); rfl) (by kernel_rfl) (by kernel_rfl) (by kernel_rfl) (by exact fun _ _ _ h => h) (Or.inr ⟨by rfl, rfl⟩) (by assumption) ?_
      (try simp only [Act.put, List.setIfInBounds_toArray, List.set_cons_zero, List.set_cons_succ])
      refine wpAnyH_take (i := 8) (v := undef) (by (simp only [List.getElem?_toArray, List.getElem?_cons_succ, List.getElem?_cons_zero]); rfl) (by kernel_rfl) (by kernel_rfl) (by kernel_rfl) (by exact fun _ _ _ h => h) (Or.inr ⟨by rfl, rfl⟩) (by assumption) ?_
      (try simp only [Act.put, List.setIfInBounds_toArray, List.set_cons_zero, List.set_cons_succ])
      refine wpAnyH_take (i := 9) (v := undef) (by (simp only [List.getElem?_toArray, List.getElem?_cons_succ, List.getElem?_cons_zero]); rfl) (by kernel_rfl) (by kernel_rfl) (by kernel_rfl) (by exact fun _ _ _ h => h) (Or.inr ⟨by rfl, rfl⟩) (by assumption) ?_
      (try simp only [Act.put, List.setIfInBounds_toArray, List.set_cons_zero, List.set_cons_succ])
      refine wpAnyH_take (i := 10) (v := undef) (by (simp only [List.getElem?_toArray, List.getElem?_cons_succ, List.getElem?_cons_zero]); rfl) (by kernel_rfl) (by kernel_rfl) (by kernel_rfl) (by exact fun _ _ _ h => h) (Or.inr ⟨by rfl, rfl⟩) (by assumption) ?_
      (try simp only [Act.put, List.setIfInBounds_toArray, List.set_cons_zero, List.set_cons_succ])
      refine wpAnyH_take (i := 11) (v := undef) (by (simp only [List.getElem?_toArray, List.getElem?_cons_succ, List.getElem?_cons_zero]); rfl) (by kernel_rfl) (by kernel_rfl) (by kernel_rfl) (by exact fun _ _ _ h => h) (Or.inr ⟨by rfl, rfl⟩) (by assumption) ?_
      (try simp only [Act.put, List.setIfInBounds_toArray, List.set_cons_zero, List.set_cons_succ])
      refine wpAnyH_take (i := 12) (v := undef) (by (simp only [List.getElem?_toArray, List.getElem?_cons_succ, List.getElem?_cons_zero]); rfl) (by kernel_rfl) (by kernel_rfl) (by kernel_rfl) (by exact fun _ _ _ h => h) (Or.inr ⟨by rfl, rfl⟩) (by assumption) ?_
      (try simp only [Act.put, List.setIfInBounds_toArray, List.set_cons_zero, List.set_cons_succ])
      refine wpAnyH_take (i := 13) (v := undef) (by (simp only [List.getElem?_toArray, List.getElem?_cons_succ, List.getElem?_cons_zero]); rfl) (by kernel_rfl) (by kernel_rfl) (by kernel_rfl) (by exact fun _ _ _ h => h) (Or.inr ⟨by rfl, rfl⟩) (by assumption) ?_
      (try simp only [Act.put, List.setIfInBounds_toArray, List.set_cons_zero, List.set_cons_succ])
      refine wpAnyH_take (i := 14) (v := undef) (by (simp only [List.getElem?_toArray, List.getElem?_cons_succ, List.getElem?_cons_zero]); rfl) (by kernel_rfl) (by kernel_rfl) (by kernel_rfl) (by exact fun _ _ _ h => h) (Or.inr ⟨by rfl, rfl⟩) (by assumption) ?_
      (try simp only [Act.put, List.setIfInBounds_toArray, List.set_cons_zero, List.set_cons_succ])
      refine wpAnyH_take (i := 15) (v := ?_) (by (simp only [List.getElem?_toArray, List.getElem?_cons_succ, List.getElem?_cons_zero]); rfl) (by kernel_rfl) (by kernel_rfl) (by kernel_rfl) (by exact fun _ _ _ h => h) (Or.inl ⟨by rfl, ?_⟩) (by assumption) ?_
      rotate_left 1
      · (intro w hSw; (try dsimp only at hSw); go_simp) <;> with_reducible rfl
      (try simp only [Act.put, List.setIfInBounds_toArray, List.set_cons_zero, List.set_cons_succ])
      refine wpAnyH_take (i := 16) (v := ?_) (by (simp only [List.getElem?_toArray, List.getElem?_cons_succ, List.getElem?_cons_zero]); rfl) (by kernel_rfl) (by kernel_rfl) (by kernel_rfl) (by exact fun _ _ _ h => h) (Or.inl ⟨by rfl, ?_⟩) (by assumption) ?_
      rotate_left 1
      · (intro w hSw; (try dsimp only at hSw); go_simp) <;> with_reducible rfl
      (try simp only [Act.put, List.setIfInBounds_toArray, List.set_cons_zero, List.set_cons_succ])
      refine wpAnyH_done (by kernel_rfl) ?_ _
      go_wp2
      go_ret
      refine ⟨ret_bool EA.out, ?_⟩
      repeat (first | with_reducible assumption | with_reducible exact Below.refl _ _ | with_reducible refine Below.setCell ?_ (by first | omega | (simp <;> omega)) _ | with_reducible refine Below.alloc ?_ (by first | omega | (simp <;> omega)) _ | with_reducible refine bstep ?_ (by with_reducible assumption) | with_reducible refine Below.drew ?_)
    · skip
      obtain ⟨hl, hf, hkk, hst, hm, hs⟩ := suit_parts hok
      obtain ⟨p, q, hax⟩ : ∃ p q, axP a b c d = (p, q) := ⟨_, _, rfl⟩
      have HPB := Lib.hid (show (-2 ≤ p ∧ p ≤ 2) ∧ (-2 ≤ q ∧ q ≤ 2) from by have := axP_bd hr hs; rw [hax] at this; exact this)
      have hG := step_pos hok hr
      rw [hax] at hG
      dsimp only at hG
      obtain ⟨g, hg⟩ : ∃ g, g = stepG A B C a b c d p q := ⟨_, rfl⟩
      have HAX := Lib.hid (fun W => axisF_any a b c d p q W hm hr hax)
      have HSL := Lib.hid (fun x' y' (hv : vecB x' y' = true) W => slide_any a b c d p q x' y' W hm hr hax hs hv)
      have HST := Lib.hid (fun W => step_any A B C a b c d p q W hl hm hr hax hs)
      have HIV := Lib.hid (fun W => invar_any A B C a b c d p q W hl hm hr hax hs)
      have HTM := Lib.hid (fun W => times_any p q g W (by have := HPB.out; simp [vecB]; omega) (by rw [hg]; simp [inB]; omega))
      have hvv : vecB x y = true := (okM_iff.1 hok).2.2
      obtain ⟨s, hs9⟩ : ∃ s, s = sld a b c d p q x y := ⟨_, rfl⟩
      have hsb := sld_bd (p := p) (q := q) (x := x) (y := y) (M := 1000) hs (by have := vecB_bd hvv; omega) (by have := vecB_bd hvv; omega)
      rw [← hs9] at hsb
      have HSL := Lib.hid (HSL.out x y hvv)
      rw [← hg] at hG
      have hg1 : 1 ≤ g := by omega
      have hg2 : g ≤ 128 := by omega
      have hgz : ¬ g = 0 := by omega
      have hb1 : (s.tmod g).natAbs ≤ s.natAbs := by rw [Int.natAbs_tmod]; exact Nat.mod_le _ _
      have hwm : IntKind.i64.wrap (s.tmod g) = s.tmod g := IntWalk.i64_in _ (by omega)
      have EA := Lib.hid (show (s.tmod g == 0) = mayB A B C (a, b, c, d, x, y) from by
        unfold mayB
        dsimp only
        rw [hr, hax]
        dsimp only
        rw [← hg, ← hs9, Bool.true_and, Bool.eq_iff_iff]
        simp only [beq_iff_eq, decide_eq_true_eq]
        exact ⟨Int.dvd_of_tmod_eq_zero, Int.tmod_eq_zero_of_dvd⟩)
      have HG := Lib.hid hg.symm
      have HS := Lib.hid hs9.symm
      have HR := Lib.hid hr
      clear hvv hs9 hsb hb1 hG hg hax hl hf hkk hst hm hs hok hr HPB HTM HIV HAX hg1 hg2
      have L0 : Kt (w.heap.size) A B C ((w.alloc (.cells #[.int .i64 A, .int .i64 B, .int .i64 C] 28)).alloc (.cells #[.int .i64 a, .int .i64 b, .int .i64 c, .int .i64 d, .int .i64 x, .int .i64 y] 66)) := ((Kt.at (w.heap.size) rfl).alloc _)
      have M0 : Km (w.heap.size + 1) a b c d x y ((w.alloc (.cells #[.int .i64 A, .int .i64 B, .int .i64 C] 28)).alloc (.cells #[.int .i64 a, .int .i64 b, .int .i64 c, .int .i64 d, .int .i64 x, .int .i64 y] 66)) := (Km.at (w.heap.size + 1) (by simp))
      have B0 : Below w.heap.size w ((w.alloc (.cells #[.int .i64 A, .int .i64 B, .int .i64 C] 28)).alloc (.cells #[.int .i64 a, .int .i64 b, .int .i64 c, .int .i64 d, .int .i64 x, .int .i64 y] 66)) := (Below.alloc (Below.alloc (Below.refl _ _) (by first | with_reducible exact Nat.le_refl _ | (simp <;> omega)) _) (by first | with_reducible exact Nat.le_refl _ | (simp <;> omega)) _)
      go_enter Try.func28, Try.ntmps28
      have L0c0 := L0.c0
      have L0c1 := L0.c1
      have L0c2 := L0.c2
      have L0l := L0.1
      have M0c0 := M0.c0
      have M0c1 := M0.c1
      have M0c2 := M0.c2
      have M0c3 := M0.c3
      have M0c4 := M0.c4
      have M0c5 := M0.c5
      have M0l := M0.1
      have L0lt := L0.1
      have M0lt := M0.1
      go_wp2_with fail
      go_region_held3 (fun W => (W.cell? ⟨w.heap.size, 0, none⟩ = some (.int .i64 A) ∧ W.cell? ⟨w.heap.size, 1, none⟩ = some (.int .i64 B) ∧ W.cell? ⟨w.heap.size, 2, none⟩ = some (.int .i64 C)) ∧ (W.cell? ⟨w.heap.size + 1, 0, none⟩ = some (.int .i64 a) ∧ W.cell? ⟨w.heap.size + 1, 1, none⟩ = some (.int .i64 b) ∧ W.cell? ⟨w.heap.size + 1, 2, none⟩ = some (.int .i64 c) ∧ W.cell? ⟨w.heap.size + 1, 3, none⟩ = some (.int .i64 d) ∧ W.cell? ⟨w.heap.size + 1, 4, none⟩ = some (.int .i64 x) ∧ W.cell? ⟨w.heap.size + 1, 5, none⟩ = some (.int .i64 y))) ((refine ⟨Kt.cells ?_, Km.cells ?_⟩ <;> repeat (first | with_reducible assumption | with_reducible refine Km.drew ?_ | with_reducible refine Km.alloc ?_ _ | with_reducible refine Km.call ?_ (by with_reducible assumption) | with_reducible refine Kt.drew ?_ | with_reducible refine Kt.alloc ?_ _ | with_reducible refine Kt.call ?_ (by with_reducible assumption) | ((with_reducible refine Km.put ?_ ?_); (first | omega | (dsimp only; omega))) | ((with_reducible refine Kt.put ?_ ?_); (first | omega | (dsimp only; omega))) | ((with_reducible refine Km.far ?_ ?_); (first | omega | (dsimp only; omega))))))
        (first
          | (go_at_call 35; ((with_reducible refine (isReflection_any a b c d _ HLI.out).mono ?_); rintro e w1 ⟨rfl, hb1⟩; rw [HR.out]; have L1 : Kt (w.heap.size) A B C w1 := (by repeat (first | with_reducible assumption | with_reducible refine Km.drew ?_ | with_reducible refine Km.alloc ?_ _ | with_reducible refine Km.call ?_ (by with_reducible assumption) | with_reducible refine Kt.drew ?_ | with_reducible refine Kt.alloc ?_ _ | with_reducible refine Kt.call ?_ (by with_reducible assumption))); have M1 : Km (w.heap.size + 1) a b c d x y w1 := (by repeat (first | with_reducible assumption | with_reducible refine Km.drew ?_ | with_reducible refine Km.alloc ?_ _ | with_reducible refine Km.call ?_ (by with_reducible assumption) | with_reducible refine Kt.drew ?_ | with_reducible refine Kt.alloc ?_ _ | with_reducible refine Kt.call ?_ (by with_reducible assumption))); have L1l := L1.1; have M1l := M1.1; have B1 : Below w.heap.size w w1 := (by repeat (first | with_reducible assumption | with_reducible refine Below.drew ?_ | with_reducible refine Below.alloc ?_ (by first | omega | (have := B0.size; simp <;> omega)) _ | with_reducible refine bstep ?_ (by with_reducible assumption)))))
          | (go_at_call 52; ((with_reducible refine (HSL.out _).mono ?_); rintro e w2 ⟨rfl, hb2⟩; rw [HS.out]; have L2 : Kt (w.heap.size) A B C w2 := (by repeat (first | with_reducible assumption | with_reducible refine Km.drew ?_ | with_reducible refine Km.alloc ?_ _ | with_reducible refine Km.call ?_ (by with_reducible assumption) | with_reducible refine Kt.drew ?_ | with_reducible refine Kt.alloc ?_ _ | with_reducible refine Kt.call ?_ (by with_reducible assumption))); have M2 : Km (w.heap.size + 1) a b c d x y w2 := (by repeat (first | with_reducible assumption | with_reducible refine Km.drew ?_ | with_reducible refine Km.alloc ?_ _ | with_reducible refine Km.call ?_ (by with_reducible assumption) | with_reducible refine Kt.drew ?_ | with_reducible refine Kt.alloc ?_ _ | with_reducible refine Kt.call ?_ (by with_reducible assumption))); have L2l := L2.1; have M2l := M2.1; have B2 : Below w.heap.size w w2 := (by repeat (first | with_reducible assumption | with_reducible refine Below.drew ?_ | with_reducible refine Below.alloc ?_ (by first | omega | (have := B0.size; simp <;> omega)) _ | with_reducible refine bstep ?_ (by with_reducible assumption)))))
          | (go_at_call 38; ((with_reducible refine (HST.out _).mono ?_); rintro e w3 ⟨rfl, hb3⟩; rw [HG.out]; have L3 : Kt (w.heap.size) A B C w3 := (by repeat (first | with_reducible assumption | with_reducible refine Km.drew ?_ | with_reducible refine Km.alloc ?_ _ | with_reducible refine Km.call ?_ (by with_reducible assumption) | with_reducible refine Kt.drew ?_ | with_reducible refine Kt.alloc ?_ _ | with_reducible refine Kt.call ?_ (by with_reducible assumption))); have M3 : Km (w.heap.size + 1) a b c d x y w3 := (by repeat (first | with_reducible assumption | with_reducible refine Km.drew ?_ | with_reducible refine Km.alloc ?_ _ | with_reducible refine Km.call ?_ (by with_reducible assumption) | with_reducible refine Kt.drew ?_ | with_reducible refine Kt.alloc ?_ _ | with_reducible refine Kt.call ?_ (by with_reducible assumption))); have L3l := L3.1; have M3l := M3.1; have B3 : Below w.heap.size w w3 := (by repeat (first | with_reducible assumption | with_reducible refine Below.drew ?_ | with_reducible refine Below.alloc ?_ (by first | omega | (have := B0.size; simp <;> omega)) _ | with_reducible refine bstep ?_ (by with_reducible assumption))))))
      all_goals
        go_wp2
        go_ret
        refine ⟨ret_bool EA.out, ?_⟩
        repeat (first | with_reducible assumption | with_reducible exact Below.refl _ _ | with_reducible refine Below.setCell ?_ (by first | omega | (simp <;> omega)) _ | with_reducible refine Below.alloc ?_ (by first | omega | (simp <;> omega)) _ | with_reducible refine bstep ?_ (by with_reducible assumption) | with_reducible refine Below.drew ?_)
theorem suit_okF (f A B C a b c d x y : Int) : suitB f A B C a b c d x y = okM f A B C (a, b, c, d, x, y) := rfl
def mirV (f A B C a b c d : Int) : Value := bif flB f A B C then (bif mirB f A B C a b c d then .tuple #[.agg #[.int .i64 a, .int .i64 b, .int .i64 c, .int .i64 d], .int .i64 0] else .tuple #[.agg #[.int .i64 0, .int .i64 0, .int .i64 0, .int .i64 0], .int .i64 2]) else .tuple #[.agg #[.int .i64 0, .int .i64 0, .int .i64 0, .int .i64 0], .int .i64 1]
theorem flB_no {f A B C : Int} (h : flB f A B C = false) : frB f = false ∨ frB f = true ∧ latB A B C = false := by
  unfold flB at h
  rcases hf : frB f with _ | _
  · exact .inl rfl
  · rw [hf] at h; exact .inr ⟨rfl, h⟩
theorem flB_yes {f A B C : Int} (h : flB f A B C = true) : frB f = true ∧ latB A B C = true := by
  unfold flB at h
  simpa using h
set_option maxRecDepth 100000 in
set_option maxHeartbeats 8000000 in
theorem mirror_any (f A B C a b c d : Int) (w : World) :
    Calls Try.prog 19 #[.int .i64 f, .agg #[.int .i64 A, .int .i64 B, .int .i64 C], .agg #[.int .i64 a, .int .i64 b, .int .i64 c, .int .i64 d]] w fun e w' => e = .returned (mirV f A B C a b c d) ∧ Below w.heap.size w w' := by
  rcases hfl : flB f A B C with _ | _
  · have EA := Lib.hid (show .tuple #[.agg #[.int .i64 0, .int .i64 0, .int .i64 0, .int .i64 0], .int .i64 1] = mirV f A B C a b c d from by unfold mirV; rw [hfl]; rfl)
    rcases flB_no hfl with hf | ⟨hf, hv⟩
    · have HF := Lib.hid hf
      clear hfl hf
      have L0 : Kt (w.heap.size) A B C (((w.alloc (.cells #[.int .i64 A, .int .i64 B, .int .i64 C] 28)).alloc (.cells #[.int .i64 a, .int .i64 b, .int .i64 c, .int .i64 d] 30)).alloc (.cells #[.int .i64 0, .int .i64 0, .int .i64 0, .int .i64 0] 50)) := (((Kt.at (w.heap.size) rfl).alloc _).alloc _)
      have M0 : Kq (w.heap.size + 1) a b c d (((w.alloc (.cells #[.int .i64 A, .int .i64 B, .int .i64 C] 28)).alloc (.cells #[.int .i64 a, .int .i64 b, .int .i64 c, .int .i64 d] 30)).alloc (.cells #[.int .i64 0, .int .i64 0, .int .i64 0, .int .i64 0] 50)) := ((Kq.at (w.heap.size + 1) (by simp)).alloc _)
      have R0 : KR (w.heap.size + 1 + 1) 0 0 0 0 (((w.alloc (.cells #[.int .i64 A, .int .i64 B, .int .i64 C] 28)).alloc (.cells #[.int .i64 a, .int .i64 b, .int .i64 c, .int .i64 d] 30)).alloc (.cells #[.int .i64 0, .int .i64 0, .int .i64 0, .int .i64 0] 50)) := (KR.at (w.heap.size + 1 + 1) (by simp))
      have B0 : Below w.heap.size w (((w.alloc (.cells #[.int .i64 A, .int .i64 B, .int .i64 C] 28)).alloc (.cells #[.int .i64 a, .int .i64 b, .int .i64 c, .int .i64 d] 30)).alloc (.cells #[.int .i64 0, .int .i64 0, .int .i64 0, .int .i64 0] 50)) := (Below.alloc (Below.alloc (Below.alloc (Below.refl _ _) (by first | with_reducible exact Nat.le_refl _ | (simp <;> omega)) _) (by first | with_reducible exact Nat.le_refl _ | (simp <;> omega)) _) (by first | with_reducible exact Nat.le_refl _ | (simp <;> omega)) _)
      go_enter Try.func19, Try.ntmps19
      have L0c0 := L0.c0
      have L0c1 := L0.c1
      have L0c2 := L0.c2
      have L0l := L0.1
      have M0c0 := M0.c0
      have M0c1 := M0.c1
      have M0c2 := M0.c2
      have M0c3 := M0.c3
      have M0l := M0.1
      have R0c0 := R0.c0
      have R0c1 := R0.c1
      have R0c2 := R0.c2
      have R0c3 := R0.c3
      have R0f0 := R0.f0
      have R0f1 := R0.f1
      have R0f2 := R0.f2
      have R0f3 := R0.f3
      have R0l := R0.lt
      go_wp2_with fail
      refine (implIsFrame_any f _).mono ?_
      rintro e w1 ⟨rfl, hb1⟩
      rw [HF.out]
      have L1 : Kt (w.heap.size) A B C w1 := Kt.call L0 hb1
      have M1 : Kq (w.heap.size + 1) a b c d w1 := Kq.call M0 hb1
      have R1 : KR (w.heap.size + 1 + 1) 0 0 0 0 w1 := KR.call R0 hb1
      have B1 : Below w.heap.size w w1 := bstep B0 hb1
      clear hb1 B0 L0 M0 R0
      have L1c0 := L1.c0
      have L1c1 := L1.c1
      have L1c2 := L1.c2
      have L1l := L1.1
      have L1n : ¬ w.heap.size = w1.heap.size := by omega
      have M1c0 := M1.c0
      have M1c1 := M1.c1
      have M1c2 := M1.c2
      have M1c3 := M1.c3
      have M1l := M1.1
      have M1n : ¬ w.heap.size + 1 = w1.heap.size := by omega
      have R1c0 := R1.c0
      have R1c1 := R1.c1
      have R1c2 := R1.c2
      have R1c3 := R1.c3
      have R1f0 := R1.f0
      have R1f1 := R1.f1
      have R1f2 := R1.f2
      have R1f3 := R1.f3
      have R1l := R1.lt
      have R1n : ¬ w.heap.size + 1 + 1 = w1.heap.size := by omega
      go_wp2
      refine bodyPost_ret (v := .tuple #[.agg #[.int .i64 0, .int .i64 0, .int .i64 0, .int .i64 0], .int .i64 1]) (by simp [results, Try.results19, go_sem, *]) rfl ⟨ret_val EA.out, ?_⟩
      repeat (first | with_reducible assumption | with_reducible exact Below.refl _ _ | with_reducible refine Below.setCell ?_ (by first | omega | (simp <;> omega)) _ | with_reducible refine Below.alloc ?_ (by first | omega | (simp <;> omega)) _ | with_reducible refine bstep ?_ (by with_reducible assumption) | with_reducible refine Below.drew ?_)
    · have HF := Lib.hid hf
      have HV := Lib.hid hv
      clear hfl hf hv
      have L0 : Kt (w.heap.size) A B C (((w.alloc (.cells #[.int .i64 A, .int .i64 B, .int .i64 C] 28)).alloc (.cells #[.int .i64 a, .int .i64 b, .int .i64 c, .int .i64 d] 30)).alloc (.cells #[.int .i64 0, .int .i64 0, .int .i64 0, .int .i64 0] 50)) := (((Kt.at (w.heap.size) rfl).alloc _).alloc _)
      have M0 : Kq (w.heap.size + 1) a b c d (((w.alloc (.cells #[.int .i64 A, .int .i64 B, .int .i64 C] 28)).alloc (.cells #[.int .i64 a, .int .i64 b, .int .i64 c, .int .i64 d] 30)).alloc (.cells #[.int .i64 0, .int .i64 0, .int .i64 0, .int .i64 0] 50)) := ((Kq.at (w.heap.size + 1) (by simp)).alloc _)
      have R0 : KR (w.heap.size + 1 + 1) 0 0 0 0 (((w.alloc (.cells #[.int .i64 A, .int .i64 B, .int .i64 C] 28)).alloc (.cells #[.int .i64 a, .int .i64 b, .int .i64 c, .int .i64 d] 30)).alloc (.cells #[.int .i64 0, .int .i64 0, .int .i64 0, .int .i64 0] 50)) := (KR.at (w.heap.size + 1 + 1) (by simp))
      have B0 : Below w.heap.size w (((w.alloc (.cells #[.int .i64 A, .int .i64 B, .int .i64 C] 28)).alloc (.cells #[.int .i64 a, .int .i64 b, .int .i64 c, .int .i64 d] 30)).alloc (.cells #[.int .i64 0, .int .i64 0, .int .i64 0, .int .i64 0] 50)) := (Below.alloc (Below.alloc (Below.alloc (Below.refl _ _) (by first | with_reducible exact Nat.le_refl _ | (simp <;> omega)) _) (by first | with_reducible exact Nat.le_refl _ | (simp <;> omega)) _) (by first | with_reducible exact Nat.le_refl _ | (simp <;> omega)) _)
      go_enter Try.func19, Try.ntmps19
      have L0c0 := L0.c0
      have L0c1 := L0.c1
      have L0c2 := L0.c2
      have L0l := L0.1
      have M0c0 := M0.c0
      have M0c1 := M0.c1
      have M0c2 := M0.c2
      have M0c3 := M0.c3
      have M0l := M0.1
      have R0c0 := R0.c0
      have R0c1 := R0.c1
      have R0c2 := R0.c2
      have R0c3 := R0.c3
      have R0f0 := R0.f0
      have R0f1 := R0.f1
      have R0f2 := R0.f2
      have R0f3 := R0.f3
      have R0l := R0.lt
      go_wp2_with fail
      refine (implIsFrame_any f _).mono ?_
      rintro e w1 ⟨rfl, hb1⟩
      rw [HF.out]
      have L1 : Kt (w.heap.size) A B C w1 := Kt.call L0 hb1
      have M1 : Kq (w.heap.size + 1) a b c d w1 := Kq.call M0 hb1
      have R1 : KR (w.heap.size + 1 + 1) 0 0 0 0 w1 := KR.call R0 hb1
      have B1 : Below w.heap.size w w1 := bstep B0 hb1
      clear hb1 B0 L0 M0 R0
      have L1c0 := L1.c0
      have L1c1 := L1.c1
      have L1c2 := L1.c2
      have L1l := L1.1
      have L1n : ¬ w.heap.size = w1.heap.size := by omega
      have M1c0 := M1.c0
      have M1c1 := M1.c1
      have M1c2 := M1.c2
      have M1c3 := M1.c3
      have M1l := M1.1
      have M1n : ¬ w.heap.size + 1 = w1.heap.size := by omega
      have R1c0 := R1.c0
      have R1c1 := R1.c1
      have R1c2 := R1.c2
      have R1c3 := R1.c3
      have R1f0 := R1.f0
      have R1f1 := R1.f1
      have R1f2 := R1.f2
      have R1f3 := R1.f3
      have R1l := R1.lt
      have R1n : ¬ w.heap.size + 1 + 1 = w1.heap.size := by omega
      go_wp2_with fail
      refine (isValidL_any A B C _).mono ?_
      rintro e w2 ⟨rfl, hb2⟩
      rw [HV.out]
      have L2 : Kt (w.heap.size) A B C w2 := Kt.call L1 hb2
      have M2 : Kq (w.heap.size + 1) a b c d w2 := Kq.call M1 hb2
      have R2 : KR (w.heap.size + 1 + 1) 0 0 0 0 w2 := KR.call R1 hb2
      have B2 : Below w.heap.size w w2 := bstep B1 hb2
      clear hb2 B1 L1 M1 R1
      have L2c0 := L2.c0
      have L2c1 := L2.c1
      have L2c2 := L2.c2
      have L2l := L2.1
      have L2n : ¬ w.heap.size = w2.heap.size := by omega
      have M2c0 := M2.c0
      have M2c1 := M2.c1
      have M2c2 := M2.c2
      have M2c3 := M2.c3
      have M2l := M2.1
      have M2n : ¬ w.heap.size + 1 = w2.heap.size := by omega
      have R2c0 := R2.c0
      have R2c1 := R2.c1
      have R2c2 := R2.c2
      have R2c3 := R2.c3
      have R2f0 := R2.f0
      have R2f1 := R2.f1
      have R2f2 := R2.f2
      have R2f3 := R2.f3
      have R2l := R2.lt
      have R2n : ¬ w.heap.size + 1 + 1 = w2.heap.size := by omega
      go_wp2
      refine bodyPost_ret (v := .tuple #[.agg #[.int .i64 0, .int .i64 0, .int .i64 0, .int .i64 0], .int .i64 1]) (by simp [results, Try.results19, go_sem, *]) rfl ⟨ret_val EA.out, ?_⟩
      repeat (first | with_reducible assumption | with_reducible exact Below.refl _ _ | with_reducible refine Below.setCell ?_ (by first | omega | (simp <;> omega)) _ | with_reducible refine Below.alloc ?_ (by first | omega | (simp <;> omega)) _ | with_reducible refine bstep ?_ (by with_reducible assumption) | with_reducible refine Below.drew ?_)
  obtain ⟨hf, hv⟩ := flB_yes hfl
  have HF := Lib.hid hf
  have HV := Lib.hid hv
  rcases hs : suitB f A B C a b c d 0 0 with _ | _
  · have EA := Lib.hid (show .tuple #[.agg #[.int .i64 0, .int .i64 0, .int .i64 0, .int .i64 0], .int .i64 2] = mirV f A B C a b c d from by unfold mirV mirB; rw [hfl, ← suit_okF, hs]; rfl)
    have HS := Lib.hid hs
    clear hfl hf hv hs
    have L0 : Kt (w.heap.size) A B C (((w.alloc (.cells #[.int .i64 A, .int .i64 B, .int .i64 C] 28)).alloc (.cells #[.int .i64 a, .int .i64 b, .int .i64 c, .int .i64 d] 30)).alloc (.cells #[.int .i64 0, .int .i64 0, .int .i64 0, .int .i64 0] 50)) := (((Kt.at (w.heap.size) rfl).alloc _).alloc _)
    have M0 : Kq (w.heap.size + 1) a b c d (((w.alloc (.cells #[.int .i64 A, .int .i64 B, .int .i64 C] 28)).alloc (.cells #[.int .i64 a, .int .i64 b, .int .i64 c, .int .i64 d] 30)).alloc (.cells #[.int .i64 0, .int .i64 0, .int .i64 0, .int .i64 0] 50)) := ((Kq.at (w.heap.size + 1) (by simp)).alloc _)
    have R0 : KR (w.heap.size + 1 + 1) 0 0 0 0 (((w.alloc (.cells #[.int .i64 A, .int .i64 B, .int .i64 C] 28)).alloc (.cells #[.int .i64 a, .int .i64 b, .int .i64 c, .int .i64 d] 30)).alloc (.cells #[.int .i64 0, .int .i64 0, .int .i64 0, .int .i64 0] 50)) := (KR.at (w.heap.size + 1 + 1) (by simp))
    have B0 : Below w.heap.size w (((w.alloc (.cells #[.int .i64 A, .int .i64 B, .int .i64 C] 28)).alloc (.cells #[.int .i64 a, .int .i64 b, .int .i64 c, .int .i64 d] 30)).alloc (.cells #[.int .i64 0, .int .i64 0, .int .i64 0, .int .i64 0] 50)) := (Below.alloc (Below.alloc (Below.alloc (Below.refl _ _) (by first | with_reducible exact Nat.le_refl _ | (simp <;> omega)) _) (by first | with_reducible exact Nat.le_refl _ | (simp <;> omega)) _) (by first | with_reducible exact Nat.le_refl _ | (simp <;> omega)) _)
    go_enter Try.func19, Try.ntmps19
    have L0c0 := L0.c0
    have L0c1 := L0.c1
    have L0c2 := L0.c2
    have L0l := L0.1
    have M0c0 := M0.c0
    have M0c1 := M0.c1
    have M0c2 := M0.c2
    have M0c3 := M0.c3
    have M0l := M0.1
    have R0c0 := R0.c0
    have R0c1 := R0.c1
    have R0c2 := R0.c2
    have R0c3 := R0.c3
    have R0f0 := R0.f0
    have R0f1 := R0.f1
    have R0f2 := R0.f2
    have R0f3 := R0.f3
    have R0l := R0.lt
    go_wp2_with fail
    refine (implIsFrame_any f _).mono ?_
    rintro e w1 ⟨rfl, hb1⟩
    rw [HF.out]
    have L1 : Kt (w.heap.size) A B C w1 := Kt.call L0 hb1
    have M1 : Kq (w.heap.size + 1) a b c d w1 := Kq.call M0 hb1
    have R1 : KR (w.heap.size + 1 + 1) 0 0 0 0 w1 := KR.call R0 hb1
    have B1 : Below w.heap.size w w1 := bstep B0 hb1
    clear hb1 B0 L0 M0 R0
    have L1c0 := L1.c0
    have L1c1 := L1.c1
    have L1c2 := L1.c2
    have L1l := L1.1
    have L1n : ¬ w.heap.size = w1.heap.size := by omega
    have M1c0 := M1.c0
    have M1c1 := M1.c1
    have M1c2 := M1.c2
    have M1c3 := M1.c3
    have M1l := M1.1
    have M1n : ¬ w.heap.size + 1 = w1.heap.size := by omega
    have R1c0 := R1.c0
    have R1c1 := R1.c1
    have R1c2 := R1.c2
    have R1c3 := R1.c3
    have R1f0 := R1.f0
    have R1f1 := R1.f1
    have R1f2 := R1.f2
    have R1f3 := R1.f3
    have R1l := R1.lt
    have R1n : ¬ w.heap.size + 1 + 1 = w1.heap.size := by omega
    go_wp2_with fail
    refine (isValidL_any A B C _).mono ?_
    rintro e w2 ⟨rfl, hb2⟩
    rw [HV.out]
    have L2 : Kt (w.heap.size) A B C w2 := Kt.call L1 hb2
    have M2 : Kq (w.heap.size + 1) a b c d w2 := Kq.call M1 hb2
    have R2 : KR (w.heap.size + 1 + 1) 0 0 0 0 w2 := KR.call R1 hb2
    have B2 : Below w.heap.size w w2 := bstep B1 hb2
    clear hb2 B1 L1 M1 R1
    have L2c0 := L2.c0
    have L2c1 := L2.c1
    have L2c2 := L2.c2
    have L2l := L2.1
    have L2n : ¬ w.heap.size = w2.heap.size := by omega
    have M2c0 := M2.c0
    have M2c1 := M2.c1
    have M2c2 := M2.c2
    have M2c3 := M2.c3
    have M2l := M2.1
    have M2n : ¬ w.heap.size + 1 = w2.heap.size := by omega
    have R2c0 := R2.c0
    have R2c1 := R2.c1
    have R2c2 := R2.c2
    have R2c3 := R2.c3
    have R2f0 := R2.f0
    have R2f1 := R2.f1
    have R2f2 := R2.f2
    have R2f3 := R2.f3
    have R2l := R2.lt
    have R2n : ¬ w.heap.size + 1 + 1 = w2.heap.size := by omega
    go_wp2_with fail
    refine (implSuit_any f A B C a b c d 0 0 _).mono ?_
    rintro e w3 ⟨rfl, hb3⟩
    rw [HS.out]
    have L3 : Kt (w.heap.size) A B C w3 := Kt.call L2 hb3
    have M3 : Kq (w.heap.size + 1) a b c d w3 := Kq.call M2 hb3
    have R3 : KR (w.heap.size + 1 + 1) 0 0 0 0 w3 := KR.call R2 hb3
    have B3 : Below w.heap.size w w3 := bstep B2 hb3
    clear hb3 B2 L2 M2 R2
    have L3c0 := L3.c0
    have L3c1 := L3.c1
    have L3c2 := L3.c2
    have L3l := L3.1
    have L3n : ¬ w.heap.size = w3.heap.size := by omega
    have M3c0 := M3.c0
    have M3c1 := M3.c1
    have M3c2 := M3.c2
    have M3c3 := M3.c3
    have M3l := M3.1
    have M3n : ¬ w.heap.size + 1 = w3.heap.size := by omega
    have R3c0 := R3.c0
    have R3c1 := R3.c1
    have R3c2 := R3.c2
    have R3c3 := R3.c3
    have R3f0 := R3.f0
    have R3f1 := R3.f1
    have R3f2 := R3.f2
    have R3f3 := R3.f3
    have R3l := R3.lt
    have R3n : ¬ w.heap.size + 1 + 1 = w3.heap.size := by omega
    go_wp2
    refine bodyPost_ret (v := .tuple #[.agg #[.int .i64 0, .int .i64 0, .int .i64 0, .int .i64 0], .int .i64 2]) (by simp [results, Try.results19, go_sem, *]) rfl ⟨ret_val EA.out, ?_⟩
    repeat (first | with_reducible assumption | with_reducible exact Below.refl _ _ | with_reducible refine Below.setCell ?_ (by first | omega | (simp <;> omega)) _ | with_reducible refine Below.alloc ?_ (by first | omega | (simp <;> omega)) _ | with_reducible refine bstep ?_ (by with_reducible assumption) | with_reducible refine Below.drew ?_)
  have HS := Lib.hid hs
  have HLI := Lib.hid (matB_lim (suit_parts (show okM f A B C (a, b, c, d, 0, 0) = true from by rw [← suit_okF]; exact hs)).2.2.2.2.1)
  rcases hr : reflB a b c d with _ | _
  · have EA := Lib.hid (show .tuple #[.agg #[.int .i64 0, .int .i64 0, .int .i64 0, .int .i64 0], .int .i64 2] = mirV f A B C a b c d from by unfold mirV mirB; rw [hfl, hr, Bool.and_false]; rfl)
    have HR := Lib.hid hr
    clear hfl hf hv hs hr
    have L0 : Kt (w.heap.size) A B C (((w.alloc (.cells #[.int .i64 A, .int .i64 B, .int .i64 C] 28)).alloc (.cells #[.int .i64 a, .int .i64 b, .int .i64 c, .int .i64 d] 30)).alloc (.cells #[.int .i64 0, .int .i64 0, .int .i64 0, .int .i64 0] 50)) := (((Kt.at (w.heap.size) rfl).alloc _).alloc _)
    have M0 : Kq (w.heap.size + 1) a b c d (((w.alloc (.cells #[.int .i64 A, .int .i64 B, .int .i64 C] 28)).alloc (.cells #[.int .i64 a, .int .i64 b, .int .i64 c, .int .i64 d] 30)).alloc (.cells #[.int .i64 0, .int .i64 0, .int .i64 0, .int .i64 0] 50)) := ((Kq.at (w.heap.size + 1) (by simp)).alloc _)
    have R0 : KR (w.heap.size + 1 + 1) 0 0 0 0 (((w.alloc (.cells #[.int .i64 A, .int .i64 B, .int .i64 C] 28)).alloc (.cells #[.int .i64 a, .int .i64 b, .int .i64 c, .int .i64 d] 30)).alloc (.cells #[.int .i64 0, .int .i64 0, .int .i64 0, .int .i64 0] 50)) := (KR.at (w.heap.size + 1 + 1) (by simp))
    have B0 : Below w.heap.size w (((w.alloc (.cells #[.int .i64 A, .int .i64 B, .int .i64 C] 28)).alloc (.cells #[.int .i64 a, .int .i64 b, .int .i64 c, .int .i64 d] 30)).alloc (.cells #[.int .i64 0, .int .i64 0, .int .i64 0, .int .i64 0] 50)) := (Below.alloc (Below.alloc (Below.alloc (Below.refl _ _) (by first | with_reducible exact Nat.le_refl _ | (simp <;> omega)) _) (by first | with_reducible exact Nat.le_refl _ | (simp <;> omega)) _) (by first | with_reducible exact Nat.le_refl _ | (simp <;> omega)) _)
    go_enter Try.func19, Try.ntmps19
    have L0c0 := L0.c0
    have L0c1 := L0.c1
    have L0c2 := L0.c2
    have L0l := L0.1
    have M0c0 := M0.c0
    have M0c1 := M0.c1
    have M0c2 := M0.c2
    have M0c3 := M0.c3
    have M0l := M0.1
    have R0c0 := R0.c0
    have R0c1 := R0.c1
    have R0c2 := R0.c2
    have R0c3 := R0.c3
    have R0f0 := R0.f0
    have R0f1 := R0.f1
    have R0f2 := R0.f2
    have R0f3 := R0.f3
    have R0l := R0.lt
    go_wp2_with fail
    refine (implIsFrame_any f _).mono ?_
    rintro e w1 ⟨rfl, hb1⟩
    rw [HF.out]
    have L1 : Kt (w.heap.size) A B C w1 := Kt.call L0 hb1
    have M1 : Kq (w.heap.size + 1) a b c d w1 := Kq.call M0 hb1
    have R1 : KR (w.heap.size + 1 + 1) 0 0 0 0 w1 := KR.call R0 hb1
    have B1 : Below w.heap.size w w1 := bstep B0 hb1
    clear hb1 B0 L0 M0 R0
    have L1c0 := L1.c0
    have L1c1 := L1.c1
    have L1c2 := L1.c2
    have L1l := L1.1
    have L1n : ¬ w.heap.size = w1.heap.size := by omega
    have M1c0 := M1.c0
    have M1c1 := M1.c1
    have M1c2 := M1.c2
    have M1c3 := M1.c3
    have M1l := M1.1
    have M1n : ¬ w.heap.size + 1 = w1.heap.size := by omega
    have R1c0 := R1.c0
    have R1c1 := R1.c1
    have R1c2 := R1.c2
    have R1c3 := R1.c3
    have R1f0 := R1.f0
    have R1f1 := R1.f1
    have R1f2 := R1.f2
    have R1f3 := R1.f3
    have R1l := R1.lt
    have R1n : ¬ w.heap.size + 1 + 1 = w1.heap.size := by omega
    go_wp2_with fail
    refine (isValidL_any A B C _).mono ?_
    rintro e w2 ⟨rfl, hb2⟩
    rw [HV.out]
    have L2 : Kt (w.heap.size) A B C w2 := Kt.call L1 hb2
    have M2 : Kq (w.heap.size + 1) a b c d w2 := Kq.call M1 hb2
    have R2 : KR (w.heap.size + 1 + 1) 0 0 0 0 w2 := KR.call R1 hb2
    have B2 : Below w.heap.size w w2 := bstep B1 hb2
    clear hb2 B1 L1 M1 R1
    have L2c0 := L2.c0
    have L2c1 := L2.c1
    have L2c2 := L2.c2
    have L2l := L2.1
    have L2n : ¬ w.heap.size = w2.heap.size := by omega
    have M2c0 := M2.c0
    have M2c1 := M2.c1
    have M2c2 := M2.c2
    have M2c3 := M2.c3
    have M2l := M2.1
    have M2n : ¬ w.heap.size + 1 = w2.heap.size := by omega
    have R2c0 := R2.c0
    have R2c1 := R2.c1
    have R2c2 := R2.c2
    have R2c3 := R2.c3
    have R2f0 := R2.f0
    have R2f1 := R2.f1
    have R2f2 := R2.f2
    have R2f3 := R2.f3
    have R2l := R2.lt
    have R2n : ¬ w.heap.size + 1 + 1 = w2.heap.size := by omega
    go_wp2_with fail
    refine (implSuit_any f A B C a b c d 0 0 _).mono ?_
    rintro e w3 ⟨rfl, hb3⟩
    rw [HS.out]
    have L3 : Kt (w.heap.size) A B C w3 := Kt.call L2 hb3
    have M3 : Kq (w.heap.size + 1) a b c d w3 := Kq.call M2 hb3
    have R3 : KR (w.heap.size + 1 + 1) 0 0 0 0 w3 := KR.call R2 hb3
    have B3 : Below w.heap.size w w3 := bstep B2 hb3
    clear hb3 B2 L2 M2 R2
    have L3c0 := L3.c0
    have L3c1 := L3.c1
    have L3c2 := L3.c2
    have L3l := L3.1
    have L3n : ¬ w.heap.size = w3.heap.size := by omega
    have M3c0 := M3.c0
    have M3c1 := M3.c1
    have M3c2 := M3.c2
    have M3c3 := M3.c3
    have M3l := M3.1
    have M3n : ¬ w.heap.size + 1 = w3.heap.size := by omega
    have R3c0 := R3.c0
    have R3c1 := R3.c1
    have R3c2 := R3.c2
    have R3c3 := R3.c3
    have R3f0 := R3.f0
    have R3f1 := R3.f1
    have R3f2 := R3.f2
    have R3f3 := R3.f3
    have R3l := R3.lt
    have R3n : ¬ w.heap.size + 1 + 1 = w3.heap.size := by omega
    go_wp2_with fail
    refine (matrixOf_any a b c d _).mono ?_
    rintro e w4 ⟨rfl, hb4⟩
    have L4 : Kt (w.heap.size) A B C w4 := Kt.call L3 hb4
    have M4 : Kq (w.heap.size + 1) a b c d w4 := Kq.call M3 hb4
    have R4 : KR (w.heap.size + 1 + 1) 0 0 0 0 w4 := KR.call R3 hb4
    have B4 : Below w.heap.size w w4 := bstep B3 hb4
    clear hb4 B3 L3 M3 R3
    have L4c0 := L4.c0
    have L4c1 := L4.c1
    have L4c2 := L4.c2
    have L4l := L4.1
    have L4n : ¬ w.heap.size = w4.heap.size := by omega
    have M4c0 := M4.c0
    have M4c1 := M4.c1
    have M4c2 := M4.c2
    have M4c3 := M4.c3
    have M4l := M4.1
    have M4n : ¬ w.heap.size + 1 = w4.heap.size := by omega
    have R4c0 := R4.c0
    have R4c1 := R4.c1
    have R4c2 := R4.c2
    have R4c3 := R4.c3
    have R4f0 := R4.f0
    have R4f1 := R4.f1
    have R4f2 := R4.f2
    have R4f3 := R4.f3
    have R4l := R4.lt
    have R4n : ¬ w.heap.size + 1 + 1 = w4.heap.size := by omega
    go_wp2_with fail
    refine (isReflection_any a b c d _ HLI.out).mono ?_
    rintro e w5 ⟨rfl, hb5⟩
    rw [HR.out]
    have L5 : Kt (w.heap.size) A B C w5 := Kt.call L4 hb5
    have M5 : Kq (w.heap.size + 1) a b c d w5 := Kq.call M4 hb5
    have R5 : KR (w.heap.size + 1 + 1) 0 0 0 0 w5 := KR.call R4 hb5
    have B5 : Below w.heap.size w w5 := bstep B4 hb5
    clear hb5 B4 L4 M4 R4
    have L5c0 := L5.c0
    have L5c1 := L5.c1
    have L5c2 := L5.c2
    have L5l := L5.1
    have L5n : ¬ w.heap.size = w5.heap.size := by omega
    have M5c0 := M5.c0
    have M5c1 := M5.c1
    have M5c2 := M5.c2
    have M5c3 := M5.c3
    have M5l := M5.1
    have M5n : ¬ w.heap.size + 1 = w5.heap.size := by omega
    have R5c0 := R5.c0
    have R5c1 := R5.c1
    have R5c2 := R5.c2
    have R5c3 := R5.c3
    have R5f0 := R5.f0
    have R5f1 := R5.f1
    have R5f2 := R5.f2
    have R5f3 := R5.f3
    have R5l := R5.lt
    have R5n : ¬ w.heap.size + 1 + 1 = w5.heap.size := by omega
    go_wp2
    refine bodyPost_ret (v := .tuple #[.agg #[.int .i64 0, .int .i64 0, .int .i64 0, .int .i64 0], .int .i64 2]) (by simp [results, Try.results19, go_sem, *]) rfl ⟨ret_val EA.out, ?_⟩
    repeat (first | with_reducible assumption | with_reducible exact Below.refl _ _ | with_reducible refine Below.setCell ?_ (by first | omega | (simp <;> omega)) _ | with_reducible refine Below.alloc ?_ (by first | omega | (simp <;> omega)) _ | with_reducible refine bstep ?_ (by with_reducible assumption) | with_reducible refine Below.drew ?_)
  · have EA := Lib.hid (show .tuple #[.agg #[.int .i64 a, .int .i64 b, .int .i64 c, .int .i64 d], .int .i64 0] = mirV f A B C a b c d from by unfold mirV mirB; rw [hfl, hr, ← suit_okF, hs]; rfl)
    have HR := Lib.hid hr
    clear hfl hf hv hs hr
    have L0 : Kt (w.heap.size) A B C (((w.alloc (.cells #[.int .i64 A, .int .i64 B, .int .i64 C] 28)).alloc (.cells #[.int .i64 a, .int .i64 b, .int .i64 c, .int .i64 d] 30)).alloc (.cells #[.int .i64 0, .int .i64 0, .int .i64 0, .int .i64 0] 50)) := (((Kt.at (w.heap.size) rfl).alloc _).alloc _)
    have M0 : Kq (w.heap.size + 1) a b c d (((w.alloc (.cells #[.int .i64 A, .int .i64 B, .int .i64 C] 28)).alloc (.cells #[.int .i64 a, .int .i64 b, .int .i64 c, .int .i64 d] 30)).alloc (.cells #[.int .i64 0, .int .i64 0, .int .i64 0, .int .i64 0] 50)) := ((Kq.at (w.heap.size + 1) (by simp)).alloc _)
    have R0 : KR (w.heap.size + 1 + 1) 0 0 0 0 (((w.alloc (.cells #[.int .i64 A, .int .i64 B, .int .i64 C] 28)).alloc (.cells #[.int .i64 a, .int .i64 b, .int .i64 c, .int .i64 d] 30)).alloc (.cells #[.int .i64 0, .int .i64 0, .int .i64 0, .int .i64 0] 50)) := (KR.at (w.heap.size + 1 + 1) (by simp))
    have B0 : Below w.heap.size w (((w.alloc (.cells #[.int .i64 A, .int .i64 B, .int .i64 C] 28)).alloc (.cells #[.int .i64 a, .int .i64 b, .int .i64 c, .int .i64 d] 30)).alloc (.cells #[.int .i64 0, .int .i64 0, .int .i64 0, .int .i64 0] 50)) := (Below.alloc (Below.alloc (Below.alloc (Below.refl _ _) (by first | with_reducible exact Nat.le_refl _ | (simp <;> omega)) _) (by first | with_reducible exact Nat.le_refl _ | (simp <;> omega)) _) (by first | with_reducible exact Nat.le_refl _ | (simp <;> omega)) _)
    go_enter Try.func19, Try.ntmps19
    have L0c0 := L0.c0
    have L0c1 := L0.c1
    have L0c2 := L0.c2
    have L0l := L0.1
    have M0c0 := M0.c0
    have M0c1 := M0.c1
    have M0c2 := M0.c2
    have M0c3 := M0.c3
    have M0l := M0.1
    have R0c0 := R0.c0
    have R0c1 := R0.c1
    have R0c2 := R0.c2
    have R0c3 := R0.c3
    have R0f0 := R0.f0
    have R0f1 := R0.f1
    have R0f2 := R0.f2
    have R0f3 := R0.f3
    have R0l := R0.lt
    go_wp2_with fail
    refine (implIsFrame_any f _).mono ?_
    rintro e w1 ⟨rfl, hb1⟩
    rw [HF.out]
    have L1 : Kt (w.heap.size) A B C w1 := Kt.call L0 hb1
    have M1 : Kq (w.heap.size + 1) a b c d w1 := Kq.call M0 hb1
    have R1 : KR (w.heap.size + 1 + 1) 0 0 0 0 w1 := KR.call R0 hb1
    have B1 : Below w.heap.size w w1 := bstep B0 hb1
    clear hb1 B0 L0 M0 R0
    have L1c0 := L1.c0
    have L1c1 := L1.c1
    have L1c2 := L1.c2
    have L1l := L1.1
    have L1n : ¬ w.heap.size = w1.heap.size := by omega
    have M1c0 := M1.c0
    have M1c1 := M1.c1
    have M1c2 := M1.c2
    have M1c3 := M1.c3
    have M1l := M1.1
    have M1n : ¬ w.heap.size + 1 = w1.heap.size := by omega
    have R1c0 := R1.c0
    have R1c1 := R1.c1
    have R1c2 := R1.c2
    have R1c3 := R1.c3
    have R1f0 := R1.f0
    have R1f1 := R1.f1
    have R1f2 := R1.f2
    have R1f3 := R1.f3
    have R1l := R1.lt
    have R1n : ¬ w.heap.size + 1 + 1 = w1.heap.size := by omega
    go_wp2_with fail
    refine (isValidL_any A B C _).mono ?_
    rintro e w2 ⟨rfl, hb2⟩
    rw [HV.out]
    have L2 : Kt (w.heap.size) A B C w2 := Kt.call L1 hb2
    have M2 : Kq (w.heap.size + 1) a b c d w2 := Kq.call M1 hb2
    have R2 : KR (w.heap.size + 1 + 1) 0 0 0 0 w2 := KR.call R1 hb2
    have B2 : Below w.heap.size w w2 := bstep B1 hb2
    clear hb2 B1 L1 M1 R1
    have L2c0 := L2.c0
    have L2c1 := L2.c1
    have L2c2 := L2.c2
    have L2l := L2.1
    have L2n : ¬ w.heap.size = w2.heap.size := by omega
    have M2c0 := M2.c0
    have M2c1 := M2.c1
    have M2c2 := M2.c2
    have M2c3 := M2.c3
    have M2l := M2.1
    have M2n : ¬ w.heap.size + 1 = w2.heap.size := by omega
    have R2c0 := R2.c0
    have R2c1 := R2.c1
    have R2c2 := R2.c2
    have R2c3 := R2.c3
    have R2f0 := R2.f0
    have R2f1 := R2.f1
    have R2f2 := R2.f2
    have R2f3 := R2.f3
    have R2l := R2.lt
    have R2n : ¬ w.heap.size + 1 + 1 = w2.heap.size := by omega
    go_wp2_with fail
    refine (implSuit_any f A B C a b c d 0 0 _).mono ?_
    rintro e w3 ⟨rfl, hb3⟩
    rw [HS.out]
    have L3 : Kt (w.heap.size) A B C w3 := Kt.call L2 hb3
    have M3 : Kq (w.heap.size + 1) a b c d w3 := Kq.call M2 hb3
    have R3 : KR (w.heap.size + 1 + 1) 0 0 0 0 w3 := KR.call R2 hb3
    have B3 : Below w.heap.size w w3 := bstep B2 hb3
    clear hb3 B2 L2 M2 R2
    have L3c0 := L3.c0
    have L3c1 := L3.c1
    have L3c2 := L3.c2
    have L3l := L3.1
    have L3n : ¬ w.heap.size = w3.heap.size := by omega
    have M3c0 := M3.c0
    have M3c1 := M3.c1
    have M3c2 := M3.c2
    have M3c3 := M3.c3
    have M3l := M3.1
    have M3n : ¬ w.heap.size + 1 = w3.heap.size := by omega
    have R3c0 := R3.c0
    have R3c1 := R3.c1
    have R3c2 := R3.c2
    have R3c3 := R3.c3
    have R3f0 := R3.f0
    have R3f1 := R3.f1
    have R3f2 := R3.f2
    have R3f3 := R3.f3
    have R3l := R3.lt
    have R3n : ¬ w.heap.size + 1 + 1 = w3.heap.size := by omega
    go_wp2_with fail
    refine (matrixOf_any a b c d _).mono ?_
    rintro e w4 ⟨rfl, hb4⟩
    have L4 : Kt (w.heap.size) A B C w4 := Kt.call L3 hb4
    have M4 : Kq (w.heap.size + 1) a b c d w4 := Kq.call M3 hb4
    have R4 : KR (w.heap.size + 1 + 1) 0 0 0 0 w4 := KR.call R3 hb4
    have B4 : Below w.heap.size w w4 := bstep B3 hb4
    clear hb4 B3 L3 M3 R3
    have L4c0 := L4.c0
    have L4c1 := L4.c1
    have L4c2 := L4.c2
    have L4l := L4.1
    have L4n : ¬ w.heap.size = w4.heap.size := by omega
    have M4c0 := M4.c0
    have M4c1 := M4.c1
    have M4c2 := M4.c2
    have M4c3 := M4.c3
    have M4l := M4.1
    have M4n : ¬ w.heap.size + 1 = w4.heap.size := by omega
    have R4c0 := R4.c0
    have R4c1 := R4.c1
    have R4c2 := R4.c2
    have R4c3 := R4.c3
    have R4f0 := R4.f0
    have R4f1 := R4.f1
    have R4f2 := R4.f2
    have R4f3 := R4.f3
    have R4l := R4.lt
    have R4n : ¬ w.heap.size + 1 + 1 = w4.heap.size := by omega
    go_wp2_with fail
    refine (isReflection_any a b c d _ HLI.out).mono ?_
    rintro e w5 ⟨rfl, hb5⟩
    rw [HR.out]
    have L5 : Kt (w.heap.size) A B C w5 := Kt.call L4 hb5
    have M5 : Kq (w.heap.size + 1) a b c d w5 := Kq.call M4 hb5
    have R5 : KR (w.heap.size + 1 + 1) 0 0 0 0 w5 := KR.call R4 hb5
    have B5 : Below w.heap.size w w5 := bstep B4 hb5
    clear hb5 B4 L4 M4 R4
    have L5c0 := L5.c0
    have L5c1 := L5.c1
    have L5c2 := L5.c2
    have L5l := L5.1
    have L5n : ¬ w.heap.size = w5.heap.size := by omega
    have M5c0 := M5.c0
    have M5c1 := M5.c1
    have M5c2 := M5.c2
    have M5c3 := M5.c3
    have M5l := M5.1
    have M5n : ¬ w.heap.size + 1 = w5.heap.size := by omega
    have R5c0 := R5.c0
    have R5c1 := R5.c1
    have R5c2 := R5.c2
    have R5c3 := R5.c3
    have R5f0 := R5.f0
    have R5f1 := R5.f1
    have R5f2 := R5.f2
    have R5f3 := R5.f3
    have R5l := R5.lt
    have R5n : ¬ w.heap.size + 1 + 1 = w5.heap.size := by omega
    go_wp2_with fail
    refine (matrixOf_any a b c d _).mono ?_
    rintro e w6 ⟨rfl, hb6⟩
    have L6 : Kt (w.heap.size) A B C w6 := Kt.call L5 hb6
    have M6 : Kq (w.heap.size + 1) a b c d w6 := Kq.call M5 hb6
    have R6 : KR (w.heap.size + 1 + 1) 0 0 0 0 w6 := KR.call R5 hb6
    have B6 : Below w.heap.size w w6 := bstep B5 hb6
    clear hb6 B5 L5 M5 R5
    have L6c0 := L6.c0
    have L6c1 := L6.c1
    have L6c2 := L6.c2
    have L6l := L6.1
    have L6n : ¬ w.heap.size = w6.heap.size := by omega
    have M6c0 := M6.c0
    have M6c1 := M6.c1
    have M6c2 := M6.c2
    have M6c3 := M6.c3
    have M6l := M6.1
    have M6n : ¬ w.heap.size + 1 = w6.heap.size := by omega
    have R6c0 := R6.c0
    have R6c1 := R6.c1
    have R6c2 := R6.c2
    have R6c3 := R6.c3
    have R6f0 := R6.f0
    have R6f1 := R6.f1
    have R6f2 := R6.f2
    have R6f3 := R6.f3
    have R6l := R6.lt
    have R6n : ¬ w.heap.size + 1 + 1 = w6.heap.size := by omega
    go_wp2
    refine bodyPost_ret (v := .tuple #[.agg #[.int .i64 a, .int .i64 b, .int .i64 c, .int .i64 d], .int .i64 0]) (by simp [results, Try.results19, go_sem, *]) rfl ⟨ret_val EA.out, ?_⟩
    repeat (first | with_reducible assumption | with_reducible exact Below.refl _ _ | with_reducible refine Below.setCell ?_ (by first | omega | (simp <;> omega)) _ | with_reducible refine Below.alloc ?_ (by first | omega | (simp <;> omega)) _ | with_reducible refine bstep ?_ (by with_reducible assumption) | with_reducible refine Below.drew ?_)
def icV (f A B C a b c d : Int) : Value := .tuple #[.bool (icR f A B C a b c d).1, .int .i64 (icR f A B C a b c d).2]
def ivV (f A B C a b c d : Int) : Value := .tuple #[.agg #[.int .i64 ((ivR f A B C a b c d).1), .int .i64 ((ivR f A B C a b c d).2.1)], .int .i64 (ivR f A B C a b c d).2.2]
set_option maxRecDepth 100000 in
set_option maxHeartbeats 8000000 in
theorem implIsCen_any (f A B C a b c d : Int) (w : World) :
    Calls Try.prog 9 #[.int .i64 f, .agg #[.int .i64 A, .int .i64 B, .int .i64 C], .agg #[.int .i64 a, .int .i64 b, .int .i64 c, .int .i64 d]] w fun e w' => e = .returned (icV f A B C a b c d) ∧ Below w.heap.size w w' := by
  rcases hfl : flB f A B C with _ | _
  · have EM := Lib.hid (show .tuple #[.agg #[.int .i64 0, .int .i64 0, .int .i64 0, .int .i64 0], .int .i64 1] = mirV f A B C a b c d from by unfold mirV; rw [hfl]; rfl)
    have EA := Lib.hid (show .tuple #[.bool false, .int .i64 1] = icV f A B C a b c d from by unfold icV icR; rw [hfl]; rfl)
    clear hfl
    have L0 : Kt (w.heap.size) A B C ((w.alloc (.cells #[.int .i64 A, .int .i64 B, .int .i64 C] 28)).alloc (.cells #[.int .i64 a, .int .i64 b, .int .i64 c, .int .i64 d] 30)) := ((Kt.at (w.heap.size) rfl).alloc _)
    have M0 : Kq (w.heap.size + 1) a b c d ((w.alloc (.cells #[.int .i64 A, .int .i64 B, .int .i64 C] 28)).alloc (.cells #[.int .i64 a, .int .i64 b, .int .i64 c, .int .i64 d] 30)) := (Kq.at (w.heap.size + 1) (by simp))
    have B0 : Below w.heap.size w ((w.alloc (.cells #[.int .i64 A, .int .i64 B, .int .i64 C] 28)).alloc (.cells #[.int .i64 a, .int .i64 b, .int .i64 c, .int .i64 d] 30)) := (Below.alloc (Below.alloc (Below.refl _ _) (by first | with_reducible exact Nat.le_refl _ | (simp <;> omega)) _) (by first | with_reducible exact Nat.le_refl _ | (simp <;> omega)) _)
    go_enter Try.func9, Try.ntmps9
    have L0c0 := L0.c0
    have L0c1 := L0.c1
    have L0c2 := L0.c2
    have L0l := L0.1
    have M0c0 := M0.c0
    have M0c1 := M0.c1
    have M0c2 := M0.c2
    have M0c3 := M0.c3
    have M0l := M0.1
    go_wp2_with fail
    refine (mirror_any f A B C a b c d _).mono ?_
    rintro e w1 ⟨he, hb1⟩
    rw [← EM.out] at he
    subst he
    have L1 : Kt (w.heap.size) A B C w1 := Kt.call L0 hb1
    have M1 : Kq (w.heap.size + 1) a b c d w1 := Kq.call M0 hb1
    have B1 : Below w.heap.size w w1 := bstep B0 hb1
    clear hb1 B0 L0 M0
    have L1c0 := L1.c0
    have L1c1 := L1.c1
    have L1c2 := L1.c2
    have L1l := L1.1
    have L1n : ¬ w.heap.size = w1.heap.size := by omega
    go_wp2
    go_ret2
    refine ⟨ret_val EA.out, ?_⟩
    repeat (first | with_reducible assumption | with_reducible exact Below.refl _ _ | with_reducible refine Below.setCell ?_ (by first | omega | (simp <;> omega)) _ | with_reducible refine Below.alloc ?_ (by first | omega | (simp <;> omega)) _ | with_reducible refine bstep ?_ (by with_reducible assumption) | with_reducible refine Below.drew ?_)
  rcases hm : mirB f A B C a b c d with _ | _
  · have EM := Lib.hid (show .tuple #[.agg #[.int .i64 0, .int .i64 0, .int .i64 0, .int .i64 0], .int .i64 2] = mirV f A B C a b c d from by unfold mirV; rw [hfl, hm]; rfl)
    have EA := Lib.hid (show .tuple #[.bool false, .int .i64 2] = icV f A B C a b c d from by unfold icV icR; rw [hfl, hm]; rfl)
    clear hfl hm
    have L0 : Kt (w.heap.size) A B C ((w.alloc (.cells #[.int .i64 A, .int .i64 B, .int .i64 C] 28)).alloc (.cells #[.int .i64 a, .int .i64 b, .int .i64 c, .int .i64 d] 30)) := ((Kt.at (w.heap.size) rfl).alloc _)
    have M0 : Kq (w.heap.size + 1) a b c d ((w.alloc (.cells #[.int .i64 A, .int .i64 B, .int .i64 C] 28)).alloc (.cells #[.int .i64 a, .int .i64 b, .int .i64 c, .int .i64 d] 30)) := (Kq.at (w.heap.size + 1) (by simp))
    have B0 : Below w.heap.size w ((w.alloc (.cells #[.int .i64 A, .int .i64 B, .int .i64 C] 28)).alloc (.cells #[.int .i64 a, .int .i64 b, .int .i64 c, .int .i64 d] 30)) := (Below.alloc (Below.alloc (Below.refl _ _) (by first | with_reducible exact Nat.le_refl _ | (simp <;> omega)) _) (by first | with_reducible exact Nat.le_refl _ | (simp <;> omega)) _)
    go_enter Try.func9, Try.ntmps9
    have L0c0 := L0.c0
    have L0c1 := L0.c1
    have L0c2 := L0.c2
    have L0l := L0.1
    have M0c0 := M0.c0
    have M0c1 := M0.c1
    have M0c2 := M0.c2
    have M0c3 := M0.c3
    have M0l := M0.1
    go_wp2_with fail
    refine (mirror_any f A B C a b c d _).mono ?_
    rintro e w1 ⟨he, hb1⟩
    rw [← EM.out] at he
    subst he
    have L1 : Kt (w.heap.size) A B C w1 := Kt.call L0 hb1
    have M1 : Kq (w.heap.size + 1) a b c d w1 := Kq.call M0 hb1
    have B1 : Below w.heap.size w w1 := bstep B0 hb1
    clear hb1 B0 L0 M0
    have L1c0 := L1.c0
    have L1c1 := L1.c1
    have L1c2 := L1.c2
    have L1l := L1.1
    have L1n : ¬ w.heap.size = w1.heap.size := by omega
    go_wp2
    go_ret2
    refine ⟨ret_val EA.out, ?_⟩
    repeat (first | with_reducible assumption | with_reducible exact Below.refl _ _ | with_reducible refine Below.setCell ?_ (by first | omega | (simp <;> omega)) _ | with_reducible refine Below.alloc ?_ (by first | omega | (simp <;> omega)) _ | with_reducible refine bstep ?_ (by with_reducible assumption) | with_reducible refine Below.drew ?_)
  · have EM := Lib.hid (show .tuple #[.agg #[.int .i64 a, .int .i64 b, .int .i64 c, .int .i64 d], .int .i64 0] = mirV f A B C a b c d from by unfold mirV; rw [hfl, hm]; rfl)
    have hm9 := hm
    unfold mirB at hm9
    rw [Bool.and_eq_true] at hm9
    obtain ⟨hok, hr⟩ := hm9
    obtain ⟨hl, hf, hkk, hst, hmm, hs⟩ := suit_parts hok
    obtain ⟨p, q, hax⟩ : ∃ p q, axP a b c d = (p, q) := ⟨_, _, rfl⟩
    have EA := Lib.hid (show .tuple #[.bool (cenB A B C a b c d), .int .i64 0] = icV f A B C a b c d from by unfold icV icR; rw [hfl, hm]; rfl)
    have HC := Lib.hid (fun W => isCen_any f A B C a b c d 0 0 W hok hr)
    clear hfl hm hok hr hl hf hkk hst hmm hs hax
    have L0 : Kt (w.heap.size) A B C ((w.alloc (.cells #[.int .i64 A, .int .i64 B, .int .i64 C] 28)).alloc (.cells #[.int .i64 a, .int .i64 b, .int .i64 c, .int .i64 d] 30)) := ((Kt.at (w.heap.size) rfl).alloc _)
    have M0 : Kq (w.heap.size + 1) a b c d ((w.alloc (.cells #[.int .i64 A, .int .i64 B, .int .i64 C] 28)).alloc (.cells #[.int .i64 a, .int .i64 b, .int .i64 c, .int .i64 d] 30)) := (Kq.at (w.heap.size + 1) (by simp))
    have B0 : Below w.heap.size w ((w.alloc (.cells #[.int .i64 A, .int .i64 B, .int .i64 C] 28)).alloc (.cells #[.int .i64 a, .int .i64 b, .int .i64 c, .int .i64 d] 30)) := (Below.alloc (Below.alloc (Below.refl _ _) (by first | with_reducible exact Nat.le_refl _ | (simp <;> omega)) _) (by first | with_reducible exact Nat.le_refl _ | (simp <;> omega)) _)
    go_enter Try.func9, Try.ntmps9
    have L0c0 := L0.c0
    have L0c1 := L0.c1
    have L0c2 := L0.c2
    have L0l := L0.1
    have M0c0 := M0.c0
    have M0c1 := M0.c1
    have M0c2 := M0.c2
    have M0c3 := M0.c3
    have M0l := M0.1
    go_wp2_with fail
    refine (mirror_any f A B C a b c d _).mono ?_
    rintro e w1 ⟨he, hb1⟩
    rw [← EM.out] at he
    subst he
    have L1 : Kt (w.heap.size) A B C w1 := Kt.call L0 hb1
    have M1 : Kq (w.heap.size + 1) a b c d w1 := Kq.call M0 hb1
    have B1 : Below w.heap.size w w1 := bstep B0 hb1
    clear hb1 B0 L0 M0
    have L1c0 := L1.c0
    have L1c1 := L1.c1
    have L1c2 := L1.c2
    have L1l := L1.1
    have L1n : ¬ w.heap.size = w1.heap.size := by omega
    go_wp2_with fail
    refine (HC.out _).mono ?_
    rintro e w2 ⟨rfl, hb2⟩
    have L2 : Kt (w.heap.size) A B C w2 := Kt.call (L1.alloc _) hb2
    have M2 : Kq (w.heap.size + 1) a b c d w2 := Kq.call (M1.alloc _) hb2
    have N2 : Kq (w1.heap.size) a b c d w2 := (Kq.at (w1.heap.size) (by first | rfl | simp) : Kq (w1.heap.size) a b c d _).call hb2
    have B2 : Below w.heap.size w w2 := bstep (Below.alloc B1 (by have := B1.size; first | omega | (simp <;> omega)) _) hb2
    clear hb2 B1 L1 M1
    go_wp2
    go_ret2
    refine ⟨ret_val EA.out, ?_⟩
    repeat (first | with_reducible assumption | with_reducible exact Below.refl _ _ | with_reducible refine Below.setCell ?_ (by first | omega | (simp <;> omega)) _ | with_reducible refine Below.alloc ?_ (by first | omega | (simp <;> omega)) _ | with_reducible refine bstep ?_ (by with_reducible assumption) | with_reducible refine Below.drew ?_)
set_option maxRecDepth 100000 in
set_option maxHeartbeats 8000000 in
theorem implInv_any (f A B C a b c d : Int) (w : World) :
    Calls Try.prog 11 #[.int .i64 f, .agg #[.int .i64 A, .int .i64 B, .int .i64 C], .agg #[.int .i64 a, .int .i64 b, .int .i64 c, .int .i64 d]] w fun e w' => e = .returned (ivV f A B C a b c d) ∧ Below w.heap.size w w' := by
  rcases hfl : flB f A B C with _ | _
  · have EM := Lib.hid (show .tuple #[.agg #[.int .i64 0, .int .i64 0, .int .i64 0, .int .i64 0], .int .i64 1] = mirV f A B C a b c d from by unfold mirV; rw [hfl]; rfl)
    have EA := Lib.hid (show .tuple #[.agg #[.int .i64 0, .int .i64 0], .int .i64 1] = ivV f A B C a b c d from by unfold ivV ivR; rw [hfl]; rfl)
    clear hfl
    have L0 : Kt (w.heap.size) A B C (((w.alloc (.cells #[.int .i64 A, .int .i64 B, .int .i64 C] 28)).alloc (.cells #[.int .i64 a, .int .i64 b, .int .i64 c, .int .i64 d] 30)).alloc (.cells #[.int .i64 0, .int .i64 0] 34)) := (((Kt.at (w.heap.size) rfl).alloc _).alloc _)
    have M0 : Kq (w.heap.size + 1) a b c d (((w.alloc (.cells #[.int .i64 A, .int .i64 B, .int .i64 C] 28)).alloc (.cells #[.int .i64 a, .int .i64 b, .int .i64 c, .int .i64 d] 30)).alloc (.cells #[.int .i64 0, .int .i64 0] 34)) := ((Kq.at (w.heap.size + 1) (by simp)).alloc _)
    have R0 : KV (w.heap.size + 1 + 1) 0 0 (((w.alloc (.cells #[.int .i64 A, .int .i64 B, .int .i64 C] 28)).alloc (.cells #[.int .i64 a, .int .i64 b, .int .i64 c, .int .i64 d] 30)).alloc (.cells #[.int .i64 0, .int .i64 0] 34)) := (KV.at (w.heap.size + 1 + 1) (by simp))
    have B0 : Below w.heap.size w (((w.alloc (.cells #[.int .i64 A, .int .i64 B, .int .i64 C] 28)).alloc (.cells #[.int .i64 a, .int .i64 b, .int .i64 c, .int .i64 d] 30)).alloc (.cells #[.int .i64 0, .int .i64 0] 34)) := (Below.alloc (Below.alloc (Below.alloc (Below.refl _ _) (by first | with_reducible exact Nat.le_refl _ | (simp <;> omega)) _) (by first | with_reducible exact Nat.le_refl _ | (simp <;> omega)) _) (by first | with_reducible exact Nat.le_refl _ | (simp <;> omega)) _)
    go_enter Try.func11, Try.ntmps11
    have L0c0 := L0.c0
    have L0c1 := L0.c1
    have L0c2 := L0.c2
    have L0l := L0.1
    have M0c0 := M0.c0
    have M0c1 := M0.c1
    have M0c2 := M0.c2
    have M0c3 := M0.c3
    have M0l := M0.1
    have R0c0 := R0.c0
    have R0c1 := R0.c1
    have R0f0 := R0.f0
    have R0f1 := R0.f1
    have R0l := R0.lt
    go_wp2_with fail
    refine (mirror_any f A B C a b c d _).mono ?_
    rintro e w1 ⟨he, hb1⟩
    rw [← EM.out] at he
    subst he
    have L1 : Kt (w.heap.size) A B C w1 := Kt.call L0 hb1
    have M1 : Kq (w.heap.size + 1) a b c d w1 := Kq.call M0 hb1
    have R1 : KV (w.heap.size + 1 + 1) 0 0 w1 := KV.call R0 hb1
    have B1 : Below w.heap.size w w1 := bstep B0 hb1
    clear hb1 B0 L0 M0 R0
    have L1c0 := L1.c0
    have L1c1 := L1.c1
    have L1c2 := L1.c2
    have L1l := L1.1
    have L1n : ¬ w.heap.size = w1.heap.size := by omega
    have R1c0 := R1.c0
    have R1c1 := R1.c1
    have R1f0 := R1.f0
    have R1f1 := R1.f1
    have R1l := R1.lt
    have R1n : ¬ w.heap.size + 1 + 1 = w1.heap.size := by omega
    go_wp2
    refine bodyPost_ret (v := .tuple #[.agg #[.int .i64 0, .int .i64 0], .int .i64 1]) (by simp [results, Try.results11, go_sem, *]) rfl ⟨ret_val EA.out, ?_⟩
    repeat (first | with_reducible assumption | with_reducible exact Below.refl _ _ | with_reducible refine Below.setCell ?_ (by first | omega | (simp <;> omega)) _ | with_reducible refine Below.alloc ?_ (by first | omega | (simp <;> omega)) _ | with_reducible refine bstep ?_ (by with_reducible assumption) | with_reducible refine Below.drew ?_)
  rcases hm : mirB f A B C a b c d with _ | _
  · have EM := Lib.hid (show .tuple #[.agg #[.int .i64 0, .int .i64 0, .int .i64 0, .int .i64 0], .int .i64 2] = mirV f A B C a b c d from by unfold mirV; rw [hfl, hm]; rfl)
    have EA := Lib.hid (show .tuple #[.agg #[.int .i64 0, .int .i64 0], .int .i64 2] = ivV f A B C a b c d from by unfold ivV ivR; rw [hfl, hm]; rfl)
    clear hfl hm
    have L0 : Kt (w.heap.size) A B C (((w.alloc (.cells #[.int .i64 A, .int .i64 B, .int .i64 C] 28)).alloc (.cells #[.int .i64 a, .int .i64 b, .int .i64 c, .int .i64 d] 30)).alloc (.cells #[.int .i64 0, .int .i64 0] 34)) := (((Kt.at (w.heap.size) rfl).alloc _).alloc _)
    have M0 : Kq (w.heap.size + 1) a b c d (((w.alloc (.cells #[.int .i64 A, .int .i64 B, .int .i64 C] 28)).alloc (.cells #[.int .i64 a, .int .i64 b, .int .i64 c, .int .i64 d] 30)).alloc (.cells #[.int .i64 0, .int .i64 0] 34)) := ((Kq.at (w.heap.size + 1) (by simp)).alloc _)
    have R0 : KV (w.heap.size + 1 + 1) 0 0 (((w.alloc (.cells #[.int .i64 A, .int .i64 B, .int .i64 C] 28)).alloc (.cells #[.int .i64 a, .int .i64 b, .int .i64 c, .int .i64 d] 30)).alloc (.cells #[.int .i64 0, .int .i64 0] 34)) := (KV.at (w.heap.size + 1 + 1) (by simp))
    have B0 : Below w.heap.size w (((w.alloc (.cells #[.int .i64 A, .int .i64 B, .int .i64 C] 28)).alloc (.cells #[.int .i64 a, .int .i64 b, .int .i64 c, .int .i64 d] 30)).alloc (.cells #[.int .i64 0, .int .i64 0] 34)) := (Below.alloc (Below.alloc (Below.alloc (Below.refl _ _) (by first | with_reducible exact Nat.le_refl _ | (simp <;> omega)) _) (by first | with_reducible exact Nat.le_refl _ | (simp <;> omega)) _) (by first | with_reducible exact Nat.le_refl _ | (simp <;> omega)) _)
    go_enter Try.func11, Try.ntmps11
    have L0c0 := L0.c0
    have L0c1 := L0.c1
    have L0c2 := L0.c2
    have L0l := L0.1
    have M0c0 := M0.c0
    have M0c1 := M0.c1
    have M0c2 := M0.c2
    have M0c3 := M0.c3
    have M0l := M0.1
    have R0c0 := R0.c0
    have R0c1 := R0.c1
    have R0f0 := R0.f0
    have R0f1 := R0.f1
    have R0l := R0.lt
    go_wp2_with fail
    refine (mirror_any f A B C a b c d _).mono ?_
    rintro e w1 ⟨he, hb1⟩
    rw [← EM.out] at he
    subst he
    have L1 : Kt (w.heap.size) A B C w1 := Kt.call L0 hb1
    have M1 : Kq (w.heap.size + 1) a b c d w1 := Kq.call M0 hb1
    have R1 : KV (w.heap.size + 1 + 1) 0 0 w1 := KV.call R0 hb1
    have B1 : Below w.heap.size w w1 := bstep B0 hb1
    clear hb1 B0 L0 M0 R0
    have L1c0 := L1.c0
    have L1c1 := L1.c1
    have L1c2 := L1.c2
    have L1l := L1.1
    have L1n : ¬ w.heap.size = w1.heap.size := by omega
    have R1c0 := R1.c0
    have R1c1 := R1.c1
    have R1f0 := R1.f0
    have R1f1 := R1.f1
    have R1l := R1.lt
    have R1n : ¬ w.heap.size + 1 + 1 = w1.heap.size := by omega
    go_wp2
    refine bodyPost_ret (v := .tuple #[.agg #[.int .i64 0, .int .i64 0], .int .i64 2]) (by simp [results, Try.results11, go_sem, *]) rfl ⟨ret_val EA.out, ?_⟩
    repeat (first | with_reducible assumption | with_reducible exact Below.refl _ _ | with_reducible refine Below.setCell ?_ (by first | omega | (simp <;> omega)) _ | with_reducible refine Below.alloc ?_ (by first | omega | (simp <;> omega)) _ | with_reducible refine bstep ?_ (by with_reducible assumption) | with_reducible refine Below.drew ?_)
  · have EM := Lib.hid (show .tuple #[.agg #[.int .i64 a, .int .i64 b, .int .i64 c, .int .i64 d], .int .i64 0] = mirV f A B C a b c d from by unfold mirV; rw [hfl, hm]; rfl)
    have hm9 := hm
    unfold mirB at hm9
    rw [Bool.and_eq_true] at hm9
    obtain ⟨hok, hr⟩ := hm9
    obtain ⟨hl, hf, hkk, hst, hmm, hs⟩ := suit_parts hok
    obtain ⟨p, q, hax⟩ : ∃ p q, axP a b c d = (p, q) := ⟨_, _, rfl⟩
    obtain ⟨X, hX⟩ : ∃ X, X = ivX A B C a b c d := ⟨_, rfl⟩
    obtain ⟨Y, hY⟩ : ∃ Y, Y = ivY A B C a b c d := ⟨_, rfl⟩
    have HX := Lib.hid (show (invK A B C p q : Int) * p = X ∧ (invK A B C p q : Int) * q = Y from by rw [hX, hY]; unfold ivX ivY; rw [hax]; exact ⟨rfl, rfl⟩)
    have EA := Lib.hid (show .tuple #[.agg #[.int .i64 X, .int .i64 Y], .int .i64 0] = ivV f A B C a b c d from by rw [hX, hY]; unfold ivV ivR; rw [hfl, hm]; rfl)
    have HC := Lib.hid (fun W => invar_any A B C a b c d p q W hl hmm hr hax hs)
    clear hfl hm hok hr hl hf hkk hst hmm hs hax hX hY
    have L0 : Kt (w.heap.size) A B C (((w.alloc (.cells #[.int .i64 A, .int .i64 B, .int .i64 C] 28)).alloc (.cells #[.int .i64 a, .int .i64 b, .int .i64 c, .int .i64 d] 30)).alloc (.cells #[.int .i64 0, .int .i64 0] 34)) := (((Kt.at (w.heap.size) rfl).alloc _).alloc _)
    have M0 : Kq (w.heap.size + 1) a b c d (((w.alloc (.cells #[.int .i64 A, .int .i64 B, .int .i64 C] 28)).alloc (.cells #[.int .i64 a, .int .i64 b, .int .i64 c, .int .i64 d] 30)).alloc (.cells #[.int .i64 0, .int .i64 0] 34)) := ((Kq.at (w.heap.size + 1) (by simp)).alloc _)
    have R0 : KV (w.heap.size + 1 + 1) 0 0 (((w.alloc (.cells #[.int .i64 A, .int .i64 B, .int .i64 C] 28)).alloc (.cells #[.int .i64 a, .int .i64 b, .int .i64 c, .int .i64 d] 30)).alloc (.cells #[.int .i64 0, .int .i64 0] 34)) := (KV.at (w.heap.size + 1 + 1) (by simp))
    have B0 : Below w.heap.size w (((w.alloc (.cells #[.int .i64 A, .int .i64 B, .int .i64 C] 28)).alloc (.cells #[.int .i64 a, .int .i64 b, .int .i64 c, .int .i64 d] 30)).alloc (.cells #[.int .i64 0, .int .i64 0] 34)) := (Below.alloc (Below.alloc (Below.alloc (Below.refl _ _) (by first | with_reducible exact Nat.le_refl _ | (simp <;> omega)) _) (by first | with_reducible exact Nat.le_refl _ | (simp <;> omega)) _) (by first | with_reducible exact Nat.le_refl _ | (simp <;> omega)) _)
    go_enter Try.func11, Try.ntmps11
    have L0c0 := L0.c0
    have L0c1 := L0.c1
    have L0c2 := L0.c2
    have L0l := L0.1
    have M0c0 := M0.c0
    have M0c1 := M0.c1
    have M0c2 := M0.c2
    have M0c3 := M0.c3
    have M0l := M0.1
    have R0c0 := R0.c0
    have R0c1 := R0.c1
    have R0f0 := R0.f0
    have R0f1 := R0.f1
    have R0l := R0.lt
    go_wp2_with fail
    refine (mirror_any f A B C a b c d _).mono ?_
    rintro e w1 ⟨he, hb1⟩
    rw [← EM.out] at he
    subst he
    have L1 : Kt (w.heap.size) A B C w1 := Kt.call L0 hb1
    have M1 : Kq (w.heap.size + 1) a b c d w1 := Kq.call M0 hb1
    have R1 : KV (w.heap.size + 1 + 1) 0 0 w1 := KV.call R0 hb1
    have B1 : Below w.heap.size w w1 := bstep B0 hb1
    clear hb1 B0 L0 M0 R0
    have L1c0 := L1.c0
    have L1c1 := L1.c1
    have L1c2 := L1.c2
    have L1l := L1.1
    have L1n : ¬ w.heap.size = w1.heap.size := by omega
    have R1c0 := R1.c0
    have R1c1 := R1.c1
    have R1f0 := R1.f0
    have R1f1 := R1.f1
    have R1l := R1.lt
    have R1n : ¬ w.heap.size + 1 + 1 = w1.heap.size := by omega
    go_wp2_with fail
    refine (HC.out _).mono ?_
    rintro e w2 ⟨rfl, hb2⟩
    rw [HX.out.1, HX.out.2]
    have L2 : Kt (w.heap.size) A B C w2 := Kt.call (L1.alloc _) hb2
    have M2 : Kq (w.heap.size + 1) a b c d w2 := Kq.call (M1.alloc _) hb2
    have R2 : KV (w.heap.size + 1 + 1) 0 0 w2 := KV.call (R1.alloc _) hb2
    have N2 : Kq (w1.heap.size) a b c d w2 := (Kq.at (w1.heap.size) (by first | rfl | simp) : Kq (w1.heap.size) a b c d _).call hb2
    have B2 : Below w.heap.size w w2 := bstep (Below.alloc B1 (by have := B1.size; first | omega | (simp <;> omega)) _) hb2
    clear hb2 B1 L1 M1 R1
    have R2c0 := R2.c0
    have R2c1 := R2.c1
    have R2f0 := R2.f0
    have R2f1 := R2.f1
    have R2l := R2.lt
    have R2n : ¬ w.heap.size + 1 + 1 = w2.heap.size := by omega
    go_wp2
    refine bodyPost_ret (v := .tuple #[.agg #[.int .i64 X, .int .i64 Y], .int .i64 0]) (by simp [results, Try.results11, go_sem, *]) rfl ⟨ret_val EA.out, ?_⟩
    repeat (first | with_reducible assumption | with_reducible exact Below.refl _ _ | with_reducible refine Below.setCell ?_ (by first | omega | (simp <;> omega)) _ | with_reducible refine Below.alloc ?_ (by first | omega | (simp <;> omega)) _ | with_reducible refine bstep ?_ (by with_reducible assumption) | with_reducible refine Below.drew ?_)
end
end Go.Proofs.Ytodkomaeljbhaaa

namespace Go.Proofs.Ytodkomaeljbhaaa
section
open Go.RowKit
set_option linter.unusedSimpArgs false
set_option linter.unusedVariables false

def mrVP (f A B C a b c d x y : Int) : Value := .tuple #[.bool (mrR f A B C (a, b, c, d, x, y)).1, .int .i64 (mrR f A B C (a, b, c, d, x, y)).2]
theorem ok_red {f A B C a b c d x y : Int} (h : okM f A B C (a, b, c, d, x, y) = true) : okM f A B C (a, b, c, d, redX A B C x y, redY C y) = true := by
  have hl := (suit_parts h).1
  obtain ⟨h1, h2, _⟩ := okM_iff.1 h
  exact okM_iff.2 ⟨h1, h2, red_vec hl (redM_redM hl (a, b, c, d, x, y))⟩
set_option maxRecDepth 100000 in
set_option maxHeartbeats 8000000 in
theorem implMay_any (f A B C a b c d x y : Int) (w : World) :
    Calls Try.prog 15 #[.int .i64 f, .agg #[.int .i64 A, .int .i64 B, .int .i64 C], .agg #[.int .i64 a, .int .i64 b, .int .i64 c, .int .i64 d, .int .i64 x, .int .i64 y]] w fun e w' => e = .returned (mrVP f A B C a b c d x y) ∧ Below w.heap.size w w' := by
  rcases hs : okM f A B C (a, b, c, d, x, y) with _ | _
  · rcases hF : flB f A B C with _ | _
    · have EA := Lib.hid (ret_val (show .tuple #[.bool false, .int .i64 1] = mrVP f A B C a b c d x y by simp [mrVP, mrR, hs, hF]))
      have L0 : Kt (w.heap.size) A B C ((w.alloc (.cells #[.int .i64 A, .int .i64 B, .int .i64 C] 28)).alloc (.cells #[.int .i64 a, .int .i64 b, .int .i64 c, .int .i64 d, .int .i64 x, .int .i64 y] 43)) := ((Kt.at (w.heap.size) rfl).alloc _)
      have M0 : Km (w.heap.size + 1) a b c d x y ((w.alloc (.cells #[.int .i64 A, .int .i64 B, .int .i64 C] 28)).alloc (.cells #[.int .i64 a, .int .i64 b, .int .i64 c, .int .i64 d, .int .i64 x, .int .i64 y] 43)) := (Km.at (w.heap.size + 1) (by simp))
      have B0 : Below w.heap.size w ((w.alloc (.cells #[.int .i64 A, .int .i64 B, .int .i64 C] 28)).alloc (.cells #[.int .i64 a, .int .i64 b, .int .i64 c, .int .i64 d, .int .i64 x, .int .i64 y] 43)) := (Below.alloc (Below.alloc (Below.refl _ _) (by first | with_reducible exact Nat.le_refl _ | (simp <;> omega)) _) (by first | with_reducible exact Nat.le_refl _ | (simp <;> omega)) _)
      go_enter Try.func15, Try.ntmps15
      have L0c0 := L0.c0
      have L0c1 := L0.c1
      have L0c2 := L0.c2
      have L0l := L0.1
      have M0c0 := M0.c0
      have M0c1 := M0.c1
      have M0c2 := M0.c2
      have M0c3 := M0.c3
      have M0c4 := M0.c4
      have M0c5 := M0.c5
      have M0l := M0.1
      go_wp2_with fail
      refine (redMs_any (xs := [(a, b, c, d, x, y)]) f A B C (SRow.one6 (by simp)) (by simp)).mono ?_
      rintro e w1 ⟨v, he, hno, hro, hb1⟩
      rw [allOk_one] at he hno hro
      rw [hs] at he hno hro
      have L1 : Kt (w.heap.size) A B C w1 := Kt.call (L0.alloc _) hb1
      have M1 : Km (w.heap.size + 1) a b c d x y w1 := Km.call (M0.alloc _) hb1
      have S1 : KM (w.heap.size + 1 + 1) a b c d x y w1 := (KM.at (w.heap.size + 1 + 1) (by first | rfl | simp) : KM (w.heap.size + 1 + 1) a b c d x y _).call hb1
      have B1 : Below w.heap.size w w1 := bstep (Below.alloc B0 (by have := B0.size; first | omega | (simp <;> omega)) _) hb1
      clear hb1 B0 L0 M0
      rw [show cod6 f A B C false = 1 by simp [cod6, hF]] at he
      obtain rfl : v = .slice none 0 0 := by simpa using hno
      subst he
      clear hno hro
      go_wp2
      go_ret2
      refine ⟨EA.out, ?_⟩
      repeat (first | with_reducible assumption | with_reducible exact Below.refl _ _ | with_reducible refine Below.setCell ?_ (by first | omega | (simp <;> omega)) _ | with_reducible refine Below.alloc ?_ (by first | omega | (simp <;> omega)) _ | with_reducible refine bstep ?_ (by with_reducible assumption) | with_reducible refine Below.drew ?_)
    · have EA := Lib.hid (ret_val (show .tuple #[.bool false, .int .i64 2] = mrVP f A B C a b c d x y by simp [mrVP, mrR, hs, hF]))
      have L0 : Kt (w.heap.size) A B C ((w.alloc (.cells #[.int .i64 A, .int .i64 B, .int .i64 C] 28)).alloc (.cells #[.int .i64 a, .int .i64 b, .int .i64 c, .int .i64 d, .int .i64 x, .int .i64 y] 43)) := ((Kt.at (w.heap.size) rfl).alloc _)
      have M0 : Km (w.heap.size + 1) a b c d x y ((w.alloc (.cells #[.int .i64 A, .int .i64 B, .int .i64 C] 28)).alloc (.cells #[.int .i64 a, .int .i64 b, .int .i64 c, .int .i64 d, .int .i64 x, .int .i64 y] 43)) := (Km.at (w.heap.size + 1) (by simp))
      have B0 : Below w.heap.size w ((w.alloc (.cells #[.int .i64 A, .int .i64 B, .int .i64 C] 28)).alloc (.cells #[.int .i64 a, .int .i64 b, .int .i64 c, .int .i64 d, .int .i64 x, .int .i64 y] 43)) := (Below.alloc (Below.alloc (Below.refl _ _) (by first | with_reducible exact Nat.le_refl _ | (simp <;> omega)) _) (by first | with_reducible exact Nat.le_refl _ | (simp <;> omega)) _)
      go_enter Try.func15, Try.ntmps15
      have L0c0 := L0.c0
      have L0c1 := L0.c1
      have L0c2 := L0.c2
      have L0l := L0.1
      have M0c0 := M0.c0
      have M0c1 := M0.c1
      have M0c2 := M0.c2
      have M0c3 := M0.c3
      have M0c4 := M0.c4
      have M0c5 := M0.c5
      have M0l := M0.1
      go_wp2_with fail
      refine (redMs_any (xs := [(a, b, c, d, x, y)]) f A B C (SRow.one6 (by simp)) (by simp)).mono ?_
      rintro e w1 ⟨v, he, hno, hro, hb1⟩
      rw [allOk_one] at he hno hro
      rw [hs] at he hno hro
      have L1 : Kt (w.heap.size) A B C w1 := Kt.call (L0.alloc _) hb1
      have M1 : Km (w.heap.size + 1) a b c d x y w1 := Km.call (M0.alloc _) hb1
      have S1 : KM (w.heap.size + 1 + 1) a b c d x y w1 := (KM.at (w.heap.size + 1 + 1) (by first | rfl | simp) : KM (w.heap.size + 1 + 1) a b c d x y _).call hb1
      have B1 : Below w.heap.size w w1 := bstep (Below.alloc B0 (by have := B0.size; first | omega | (simp <;> omega)) _) hb1
      clear hb1 B0 L0 M0
      rw [show cod6 f A B C false = 2 by simp [cod6, hF]] at he
      obtain rfl : v = .slice none 0 0 := by simpa using hno
      subst he
      clear hno hro
      go_wp2
      go_ret2
      refine ⟨EA.out, ?_⟩
      repeat (first | with_reducible assumption | with_reducible exact Below.refl _ _ | with_reducible refine Below.setCell ?_ (by first | omega | (simp <;> omega)) _ | with_reducible refine Below.alloc ?_ (by first | omega | (simp <;> omega)) _ | with_reducible refine bstep ?_ (by with_reducible assumption) | with_reducible refine Below.drew ?_)
  · have EA := Lib.hid (ret_val (show .tuple #[.bool (mayB A B C (a, b, c, d, x, y)), .int .i64 0] = mrVP f A B C a b c d x y by simp [mrVP, mrR, hs, ok_fl hs]))
    have HM := Lib.hid (fun W => mayRef_any f A B C a b c d (redX A B C x y) (redY C y) W (ok_red hs))
    rw [show mayB A B C (a, b, c, d, redX A B C x y, redY C y) = mayB A B C (a, b, c, d, x, y) from may_red (suit_parts hs).1 (a, b, c, d, x, y)] at HM
    have L0 : Kt (w.heap.size) A B C ((w.alloc (.cells #[.int .i64 A, .int .i64 B, .int .i64 C] 28)).alloc (.cells #[.int .i64 a, .int .i64 b, .int .i64 c, .int .i64 d, .int .i64 x, .int .i64 y] 43)) := ((Kt.at (w.heap.size) rfl).alloc _)
    have M0 : Km (w.heap.size + 1) a b c d x y ((w.alloc (.cells #[.int .i64 A, .int .i64 B, .int .i64 C] 28)).alloc (.cells #[.int .i64 a, .int .i64 b, .int .i64 c, .int .i64 d, .int .i64 x, .int .i64 y] 43)) := (Km.at (w.heap.size + 1) (by simp))
    have B0 : Below w.heap.size w ((w.alloc (.cells #[.int .i64 A, .int .i64 B, .int .i64 C] 28)).alloc (.cells #[.int .i64 a, .int .i64 b, .int .i64 c, .int .i64 d, .int .i64 x, .int .i64 y] 43)) := (Below.alloc (Below.alloc (Below.refl _ _) (by first | with_reducible exact Nat.le_refl _ | (simp <;> omega)) _) (by first | with_reducible exact Nat.le_refl _ | (simp <;> omega)) _)
    go_enter Try.func15, Try.ntmps15
    have L0c0 := L0.c0
    have L0c1 := L0.c1
    have L0c2 := L0.c2
    have L0l := L0.1
    have M0c0 := M0.c0
    have M0c1 := M0.c1
    have M0c2 := M0.c2
    have M0c3 := M0.c3
    have M0c4 := M0.c4
    have M0c5 := M0.c5
    have M0l := M0.1
    go_wp2_with fail
    refine (redMs_any (xs := [(a, b, c, d, x, y)]) f A B C (SRow.one6 (by simp)) (by simp)).mono ?_
    rintro e w1 ⟨v, he, hno, hro, hb1⟩
    rw [allOk_one] at he hno hro
    rw [hs] at he hno hro
    have L1 : Kt (w.heap.size) A B C w1 := Kt.call (L0.alloc _) hb1
    have M1 : Km (w.heap.size + 1) a b c d x y w1 := Km.call (M0.alloc _) hb1
    have S1 : KM (w.heap.size + 1 + 1) a b c d x y w1 := (KM.at (w.heap.size + 1 + 1) (by first | rfl | simp) : KM (w.heap.size + 1 + 1) a b c d x y _).call hb1
    have B1 : Below w.heap.size w w1 := bstep (Below.alloc B0 (by have := B0.size; first | omega | (simp <;> omega)) _) hb1
    clear hb1 B0 L0 M0
    rw [show cod6 f A B C true = 0 by simp [cod6, ok_fl hs]] at he
    subst he
    obtain ⟨g, cap, rfl, hg, hG⟩ := row_one (m := redM A B C (a, b, c, d, x, y)) (hro (ok_fl hs) rfl)
    have G1 : Km g a b c d (redX A B C x y) (redY C y) w1 := hG
    clear hno hro hG hs
    generalize redX A B C x y = p at G1 HM
    generalize redY C y = q at G1 HM
    generalize mayB A B C (a, b, c, d, x, y) = mb at HM EA
    have L1c0 := L1.c0
    have L1c1 := L1.c1
    have L1c2 := L1.c2
    have L1l := L1.1
    have L1n : ¬ w.heap.size = w1.heap.size := by omega
    have G1c0 := G1.c0
    have G1c1 := G1.c1
    have G1c2 := G1.c2
    have G1c3 := G1.c3
    have G1c4 := G1.c4
    have G1c5 := G1.c5
    have G1l := G1.1
    have G1n : ¬ g = w1.heap.size := by omega
    have L1lt := L1.1
    have M1lt := M1.1
    have S1lt := S1.lt
    have G1lt := G1.1
    go_wp2_with fail
    go_region_held3 (fun W => (W.cell? ⟨w.heap.size, 0, none⟩ = some (.int .i64 A) ∧ W.cell? ⟨w.heap.size, 1, none⟩ = some (.int .i64 B) ∧ W.cell? ⟨w.heap.size, 2, none⟩ = some (.int .i64 C)) ∧ (W.cell? ⟨g, 0, none⟩ = some (.int .i64 a) ∧ W.cell? ⟨g, 1, none⟩ = some (.int .i64 b) ∧ W.cell? ⟨g, 2, none⟩ = some (.int .i64 c) ∧ W.cell? ⟨g, 3, none⟩ = some (.int .i64 d) ∧ W.cell? ⟨g, 4, none⟩ = some (.int .i64 p) ∧ W.cell? ⟨g, 5, none⟩ = some (.int .i64 q))) ((refine ⟨Kt.cells ?_, Km.cells ?_⟩ <;> repeat (first | with_reducible assumption | with_reducible refine KM.drew ?_ | with_reducible refine KM.alloc ?_ _ | with_reducible refine KM.call ?_ (by with_reducible assumption) | with_reducible refine Km.drew ?_ | with_reducible refine Km.alloc ?_ _ | with_reducible refine Km.call ?_ (by with_reducible assumption) | with_reducible refine Kt.drew ?_ | with_reducible refine Kt.alloc ?_ _ | with_reducible refine Kt.call ?_ (by with_reducible assumption) | ((with_reducible refine KM.put ?_ ?_); (first | omega | (dsimp only; omega))) | ((with_reducible refine Km.put ?_ ?_); (first | omega | (dsimp only; omega))) | ((with_reducible refine Kt.put ?_ ?_); (first | omega | (dsimp only; omega))) | ((with_reducible refine KM.far ?_ ?_); (first | omega | (dsimp only; omega))) | ((with_reducible refine Km.far ?_ ?_); (first | omega | (dsimp only; omega))))))
      (first
        | (go_at_call 28; ((with_reducible refine (HM.out _).mono ?_); rintro e w2 ⟨rfl, hb2⟩; have L2 : Kt (w.heap.size) A B C w2 := (by repeat (first | with_reducible assumption | with_reducible refine KM.drew ?_ | with_reducible refine KM.alloc ?_ _ | with_reducible refine KM.call ?_ (by with_reducible assumption) | with_reducible refine Km.drew ?_ | with_reducible refine Km.alloc ?_ _ | with_reducible refine Km.call ?_ (by with_reducible assumption) | with_reducible refine Kt.drew ?_ | with_reducible refine Kt.alloc ?_ _ | with_reducible refine Kt.call ?_ (by with_reducible assumption))); have M2 : Km (w.heap.size + 1) a b c d x y w2 := (by repeat (first | with_reducible assumption | with_reducible refine KM.drew ?_ | with_reducible refine KM.alloc ?_ _ | with_reducible refine KM.call ?_ (by with_reducible assumption) | with_reducible refine Km.drew ?_ | with_reducible refine Km.alloc ?_ _ | with_reducible refine Km.call ?_ (by with_reducible assumption) | with_reducible refine Kt.drew ?_ | with_reducible refine Kt.alloc ?_ _ | with_reducible refine Kt.call ?_ (by with_reducible assumption))); have S2 : KM (w.heap.size + 1 + 1) a b c d x y w2 := (by repeat (first | with_reducible assumption | with_reducible refine KM.drew ?_ | with_reducible refine KM.alloc ?_ _ | with_reducible refine KM.call ?_ (by with_reducible assumption) | with_reducible refine Km.drew ?_ | with_reducible refine Km.alloc ?_ _ | with_reducible refine Km.call ?_ (by with_reducible assumption) | with_reducible refine Kt.drew ?_ | with_reducible refine Kt.alloc ?_ _ | with_reducible refine Kt.call ?_ (by with_reducible assumption))); have G2 : Km (g) a b c d p q w2 := (by repeat (first | with_reducible assumption | with_reducible refine KM.drew ?_ | with_reducible refine KM.alloc ?_ _ | with_reducible refine KM.call ?_ (by with_reducible assumption) | with_reducible refine Km.drew ?_ | with_reducible refine Km.alloc ?_ _ | with_reducible refine Km.call ?_ (by with_reducible assumption) | with_reducible refine Kt.drew ?_ | with_reducible refine Kt.alloc ?_ _ | with_reducible refine Kt.call ?_ (by with_reducible assumption))); have L2l := L2.1; have M2l := M2.1; have S2c0 := S2.c0; have S2f0 := S2.f0; have S2c1 := S2.c1; have S2f1 := S2.f1; have S2c2 := S2.c2; have S2f2 := S2.f2; have S2c3 := S2.c3; have S2f3 := S2.f3; have S2c4 := S2.c4; have S2f4 := S2.f4; have S2c5 := S2.c5; have S2f5 := S2.f5; have S2l := S2.lt; have G2l := G2.1; have B2 : Below w.heap.size w w2 := (by repeat (first | with_reducible assumption | with_reducible refine Below.drew ?_ | with_reducible refine Below.alloc ?_ (by first | omega | (have := B1.size; simp <;> omega)) _ | with_reducible refine bstep ?_ (by with_reducible assumption))))))
    all_goals
      go_wp2
      go_ret2
      refine ⟨EA.out, ?_⟩
      repeat (first | with_reducible assumption | with_reducible exact Below.refl _ _ | with_reducible refine Below.setCell ?_ (by first | omega | (simp <;> omega)) _ | with_reducible refine Below.alloc ?_ (by first | omega | (simp <;> omega)) _ | with_reducible refine bstep ?_ (by with_reducible assumption) | with_reducible refine Below.drew ?_)
end
end Go.Proofs.Ytodkomaeljbhaaa

