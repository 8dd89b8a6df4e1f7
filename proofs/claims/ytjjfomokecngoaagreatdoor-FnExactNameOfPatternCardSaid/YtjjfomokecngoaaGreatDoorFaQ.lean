/-
 Contracts of chapter 11 in the program: centred lattices, what may reflect, IsCentred, InvariantVec. Conditions: those stated.
-/
import Derived.Test.YtjjfomokecngoaaGreatDoorFaP
import Derived.Test.YtjjfomokecngoaaGreatDoorHg
import Derived.Deep.RegionHeld3
import Derived.IntWalk
namespace Go.Proofs.YtjjfomokecngoaaGreatDoor
open Go.RowKit
set_option linter.unusedSimpArgs false
set_option linter.unusedVariables false
theorem pkFaQ2 {P : Prop} (h : P := by repeat (first | with_reducible assumption | with_reducible exact Below.refl _ _ | with_reducible refine Below.setCell ?_ (by first | omega | (simp <;> omega)) _ | with_reducible refine Below.alloc ?_ (by first | omega | (simp <;> omega)) _ | with_reducible refine bstep ?_ (by with_reducible assumption) | with_reducible refine Below.drew ?_)) : P := h
theorem pkFaQ3 {P : Prop} (h : P := by repeat (first | assumption | refine Kq.drew ?_ | refine Kq.alloc ?_ _ | refine Kq.call ?_ (by assumption) | refine Kt.drew ?_ | refine Kt.alloc ?_ _ | refine Kt.call ?_ (by assumption))) : P := h
theorem pkFaQ4 {P : Prop} (h : P := by repeat (first | assumption | refine Km.drew ?_ | refine Km.alloc ?_ _ | refine Km.call ?_ (by assumption) | refine Kt.drew ?_ | refine Kt.alloc ?_ _ | refine Kt.call ?_ (by assumption))) : P := h
theorem tkFaQ {md P ops Q S} {i : Nat} {oi : Oper} {v : Value} {fuel : Nat} {listed : Array Bool} {a : Act} {w : World} (hi : ops[i]? = some oi := by (simp only [List.getElem?_toArray, List.getElem?_cons_succ, List.getElem?_cons_zero]); rfl) (hs : Region.noSelect ops = true := by kernel_rfl) (hf : Region.free md ops listed i = true := by kernel_rfl) (hr : (Region.ready md ops listed).contains i = true := by kernel_rfl) (hQ : ∀ c a w, Q (.panic c) (a.put oi.dst v) w → Q (.panic c) a w := by exact fun _ _ _ h => h) (hy : YieldsIf P ops S oi v a) (hS : S w := by assumption) (h : wpAnyH P md ops Q S fuel (listed.setIfInBounds i true) (a.put oi.dst v) w) : wpAnyH P md ops Q S (fuel + 1) listed a w := wpAnyH_take hi hs hf hr hQ hy hS h

attribute [local go_sem ↓] eqVeF
set_option maxRecDepth 100000 in
set_option maxHeartbeats 8000000 in
theorem isCen_any (f A B C a b c d x y : Int) (w : World) (hok : okM f A B C (a, b, c, d, x, y) = true) (hr : reflB a b c d = true) :
  Calls Tryz.prog 89 #[.agg #[.int .i64 A, .int .i64 B, .int .i64 C], .agg #[.int .i64 a, .int .i64 b, .int .i64 c, .int .i64 d]] w fun e w' => e = .returned (.bool (cenB A B C a b c d)) ∧ Below w.heap.size w w' := by
  obtain ⟨hl, hf, hkk, hst, hm, hs⟩ := suit_parts hok
  obtain ⟨p, q, hax⟩ : ∃ p q, axP a b c d = (p, q) := ⟨_, _, rfl⟩
  have HPB := Lib.hid (show (-2 ≤ p ∧ p ≤ 2) ∧ (-2 ≤ q ∧ q ≤ 2) from by have := axP_bd hr hs; rw [hax] at this; exact this)
  have hG := step_pos hok hr
  rw [hax] at hG
  dsimp only at hG
  obtain ⟨g, hg⟩ : ∃ g, g = stepG A B C a b c d p q := ⟨_, rfl⟩
  have HAX := Lib.hid (fun W => axisF_any a b c d p q W hm hr hax)
  have HSL := Lib.hid (fun x' y' (hv : vecB x' y' = true) W => slide_any a b c d p q x' y' W hm hr hax hs hv)
  have HST := Lib.hid (fun W => step_any A B C a b c d p q W hl hm hr hax hs)
  have HIV := Lib.hid (fun W => invar_any A B C a b c d p q W hl hm hr hax hs)
  have HTM := Lib.hid (fun W => times_any p q g W (by have := HPB.out; simp [vecB]; omega) (by rw [hg]; simp [inB]; omega))
  have hC := cen_prog (A := A) (B := B) (C := C) hr
  rw [hax, ← hg] at hC
  dsimp only at hC
  obtain ⟨X, hX⟩ : ∃ X, X = ivX A B C a b c d := ⟨_, rfl⟩
  obtain ⟨Y, hY⟩ : ∃ Y, Y = ivY A B C a b c d := ⟨_, rfl⟩
  have EA := Lib.hid (show eqV2F (p * g) (q * g) X Y = cenB A B C a b c d from by rw [hX, hY]; exact hC)
  have HX := Lib.hid (show (invK A B C p q : Int) * p = X ∧ (invK A B C p q : Int) * q = Y from by rw [hX, hY]; unfold ivX ivY; rw [hax]; exact ⟨rfl, rfl⟩)
  have HG := Lib.hid hg.symm
  clear hC hX hY hax hG hg hl hf hkk hst hm hs hok hr HPB HSL
  have L0 : Kt (w.heap.size) A B C ((w.alloc (.cells #[.int .i64 A, .int .i64 B, .int .i64 C] 28)).alloc (.cells #[.int .i64 a, .int .i64 b, .int .i64 c, .int .i64 d] 133)) := ((Kt.at (w.heap.size) rfl).alloc _)
  have M0 : Kq (w.heap.size + 1) a b c d ((w.alloc (.cells #[.int .i64 A, .int .i64 B, .int .i64 C] 28)).alloc (.cells #[.int .i64 a, .int .i64 b, .int .i64 c, .int .i64 d] 133)) := (Kq.at (w.heap.size + 1) (by simp))
  have B0 : Below w.heap.size w ((w.alloc (.cells #[.int .i64 A, .int .i64 B, .int .i64 C] 28)).alloc (.cells #[.int .i64 a, .int .i64 b, .int .i64 c, .int .i64 d] 133)) := (Below.alloc (Below.alloc (Below.refl _ _) (by first | with_reducible exact Nat.le_refl _ | (simp <;> omega)) _) (by first | with_reducible exact Nat.le_refl _ | (simp <;> omega)) _)
  go_enter Tryz.func89, Tryz.ntmps89
  have L0c0 := L0.c0
  have L0c1 := L0.c1
  have L0c2 := L0.c2
  have L0l := L0.1
  have M0c0 := M0.c0
  have M0c1 := M0.c1
  have M0c2 := M0.c2
  have M0c3 := M0.c3
  have M0l := M0.1
  have L0lt := L0.1
  have M0lt := M0.1
  go_wp2_with fail
  go_region_held3 (fun W => (W.cell? ⟨w.heap.size, 0, none⟩ = some (.int .i64 A) ∧ W.cell? ⟨w.heap.size, 1, none⟩ = some (.int .i64 B) ∧ W.cell? ⟨w.heap.size, 2, none⟩ = some (.int .i64 C)) ∧ (W.cell? ⟨w.heap.size + 1, 0, none⟩ = some (.int .i64 a) ∧ W.cell? ⟨w.heap.size + 1, 1, none⟩ = some (.int .i64 b) ∧ W.cell? ⟨w.heap.size + 1, 2, none⟩ = some (.int .i64 c) ∧ W.cell? ⟨w.heap.size + 1, 3, none⟩ = some (.int .i64 d))) ((refine ⟨Kt.cells ?_, Kq.cells ?_⟩ <;> repeat (first | with_reducible assumption | with_reducible refine Kq.drew ?_ | with_reducible refine Kq.alloc ?_ _ | with_reducible refine Kq.call ?_ (by with_reducible assumption) | with_reducible refine Kt.drew ?_ | with_reducible refine Kt.alloc ?_ _ | with_reducible refine Kt.call ?_ (by with_reducible assumption) | ((with_reducible refine Kq.put ?_ ?_); (first | omega | (dsimp only; omega))) | ((with_reducible refine Kt.put ?_ ?_); (first | omega | (dsimp only; omega))) | ((with_reducible refine Kq.far ?_ ?_); (first | omega | (dsimp only; omega))))))
   (first
    | (go_at_call 153; ((with_reducible refine (HAX.out _).mono ?_); rintro e w1 ⟨rfl, hb1⟩; have L1 : Kt (w.heap.size) A B C w1 := (by with_reducible exact pkFaQ3); have M1 : Kq (w.heap.size + 1) a b c d w1 := (by with_reducible exact pkFaQ3); have L1l := L1.1; have M1l := M1.1; have B1 : Below w.heap.size w w1 := (by repeat (first | with_reducible assumption | with_reducible refine Below.drew ?_ | with_reducible refine Below.alloc ?_ (by first | omega | (have := B0.size; simp <;> omega)) _ | with_reducible refine bstep ?_ (by with_reducible assumption)))))
    | (go_at_call 159; ((with_reducible refine (HST.out _).mono ?_); rintro e w2 ⟨rfl, hb2⟩; rw [HG.out]; have L2 : Kt (w.heap.size) A B C w2 := (by with_reducible exact pkFaQ3); have M2 : Kq (w.heap.size + 1) a b c d w2 := (by with_reducible exact pkFaQ3); have L2l := L2.1; have M2l := M2.1; have B2 : Below w.heap.size w w2 := (by repeat (first | with_reducible assumption | with_reducible refine Below.drew ?_ | with_reducible refine Below.alloc ?_ (by first | omega | (have := B0.size; simp <;> omega)) _ | with_reducible refine bstep ?_ (by with_reducible assumption)))))
    | (go_at_call 158; ((with_reducible refine (HTM.out _).mono ?_); rintro e w3 ⟨rfl, hb3⟩; have L3 : Kt (w.heap.size) A B C w3 := (by with_reducible exact pkFaQ3); have M3 : Kq (w.heap.size + 1) a b c d w3 := (by with_reducible exact pkFaQ3); have L3l := L3.1; have M3l := M3.1; have B3 : Below w.heap.size w w3 := (by repeat (first | with_reducible assumption | with_reducible refine Below.drew ?_ | with_reducible refine Below.alloc ?_ (by first | omega | (have := B0.size; simp <;> omega)) _ | with_reducible refine bstep ?_ (by with_reducible assumption)))))
    | (go_at_call 85; ((with_reducible refine (HIV.out _).mono ?_); rintro e w4 ⟨rfl, hb4⟩; rw [HX.out.1, HX.out.2]; have L4 : Kt (w.heap.size) A B C w4 := (by with_reducible exact pkFaQ3); have M4 : Kq (w.heap.size + 1) a b c d w4 := (by with_reducible exact pkFaQ3); have L4l := L4.1; have M4l := M4.1; have B4 : Below w.heap.size w w4 := (by repeat (first | with_reducible assumption | with_reducible refine Below.drew ?_ | with_reducible refine Below.alloc ?_ (by first | omega | (have := B0.size; simp <;> omega)) _ | with_reducible refine bstep ?_ (by with_reducible assumption))))))
  all_goals
   go_wp2
   go_ret
   refine ⟨ret_bool EA.out, ?_⟩
   exact pkFaQ2
set_option maxRecDepth 100000 in
set_option maxHeartbeats 8000000 in
theorem mayRef_any (f A B C a b c d x y : Int) (w : World) (hok : okM f A B C (a, b, c, d, x, y) = true) :
  Calls Tryz.prog 93 #[.agg #[.int .i64 A, .int .i64 B, .int .i64 C], .agg #[.int .i64 a, .int .i64 b, .int .i64 c, .int .i64 d, .int .i64 x, .int .i64 y]] w fun e w' => e = .returned (.bool (mayB A B C (a, b, c, d, x, y))) ∧ Below w.heap.size w w' := by
  have HLI := Lib.hid (matB_lim (suit_parts hok).2.2.2.2.1)
  rcases hr : reflB a b c d with _ | _
  ·have EA := Lib.hid (show false = mayB A B C (a, b, c, d, x, y) from by unfold mayB; dsimp only; rw [hr]; rfl)
   have RFC := Lib.hid (fun W => isReflection_any a b c d W HLI.out)
   rw [hr] at RFC
   clear hr hok
   have L0 : Kt (w.heap.size) A B C ((w.alloc (.cells #[.int .i64 A, .int .i64 B, .int .i64 C] 28)).alloc (.cells #[.int .i64 a, .int .i64 b, .int .i64 c, .int .i64 d, .int .i64 x, .int .i64 y] 145)) := ((Kt.at (w.heap.size) rfl).alloc _)
   have M0 : Km (w.heap.size + 1) a b c d x y ((w.alloc (.cells #[.int .i64 A, .int .i64 B, .int .i64 C] 28)).alloc (.cells #[.int .i64 a, .int .i64 b, .int .i64 c, .int .i64 d, .int .i64 x, .int .i64 y] 145)) := (Km.at (w.heap.size + 1) (by simp))
   have B0 : Below w.heap.size w ((w.alloc (.cells #[.int .i64 A, .int .i64 B, .int .i64 C] 28)).alloc (.cells #[.int .i64 a, .int .i64 b, .int .i64 c, .int .i64 d, .int .i64 x, .int .i64 y] 145)) := (Below.alloc (Below.alloc (Below.refl _ _) (by first | with_reducible exact Nat.le_refl _ | (simp <;> omega)) _) (by first | with_reducible exact Nat.le_refl _ | (simp <;> omega)) _)
   go_enter Tryz.func93, Tryz.ntmps93
   have L0c0 := L0.c0
   have L0c1 := L0.c1
   have L0c2 := L0.c2
   have L0l := L0.1
   have M0c0 := M0.c0
   have M0c1 := M0.c1
   have M0c2 := M0.c2
   have M0c3 := M0.c3
   have M0c4 := M0.c4
   have M0c5 := M0.c5
   have M0l := M0.1
   go_wp2_with fail
   refine wp_region_held_drew (S := (fun W => (W.cell? ⟨w.heap.size, 0, none⟩ = some (.int .i64 A) ∧ W.cell? ⟨w.heap.size, 1, none⟩ = some (.int .i64 B) ∧ W.cell? ⟨w.heap.size, 2, none⟩ = some (.int .i64 C)) ∧ (W.cell? ⟨w.heap.size + 1, 0, none⟩ = some (.int .i64 a) ∧ W.cell? ⟨w.heap.size + 1, 1, none⟩ = some (.int .i64 b) ∧ W.cell? ⟨w.heap.size + 1, 2, none⟩ = some (.int .i64 c) ∧ W.cell? ⟨w.heap.size + 1, 3, none⟩ = some (.int .i64 d) ∧ W.cell? ⟨w.heap.size + 1, 4, none⟩ = some (.int .i64 x) ∧ W.cell? ⟨w.heap.size + 1, 5, none⟩ = some (.int .i64 y)))) (by kernel_rfl) ?_ (fun hHeld => ?_)
   ·exact ⟨L0.cells, M0.cells⟩
   refine tkFaQ (i := 0) (v := ?_) (hy := Or.inl ⟨by rfl, ?_⟩) (h := ?_)
   rotate_left 1
   ·(intro w hSw; (try dsimp only at hSw); go_simp) <;> with_reducible rfl
   (try simp only [Act.put, List.setIfInBounds_toArray, List.set_cons_zero, List.set_cons_succ])
   refine tkFaQ (i := 1) (v := ?_) (hy := Or.inl ⟨by rfl, ?_⟩) (h := ?_)
   rotate_left 1
   ·(intro w hSw; (try dsimp only at hSw); go_simp) <;> with_reducible rfl
   (try simp only [Act.put, List.setIfInBounds_toArray, List.set_cons_zero, List.set_cons_succ])
   refine wpAnyH_ready (rs := [2]) (by kernel_rfl) (by simp) ?_
   refine AllReadyH.cons (o := _) (by (simp only [List.getElem?_toArray, List.getElem?_cons_succ, List.getElem?_cons_zero]); rfl) (fun K hK => ?_) AllReadyH.nil
   go_simp
   go_at_call 110
   refine (RFC.out _).mono ?_
   rintro e u1 ⟨rfl, hb1⟩
   have L1 : Kt (w.heap.size) A B C u1 := (by with_reducible exact pkFaQ4)
   have M1 : Km (w.heap.size + 1) a b c d x y u1 := (by with_reducible exact pkFaQ4)
   have B1 : Below w.heap.size w u1 := (by with_reducible repeat (first | assumption | refine Below.drew ?_ | refine bstep ?_ (by assumption)))
   clear hb1
   go_wp2_with fail
   refine hK.out _ _ ?_ (fun hHeld => ?_)
   ·(try dsimp only)
    exact ⟨L1.cells, M1.cells⟩
   clear hK K
   (try simp only [Act.put, List.setIfInBounds_toArray, List.set_cons_zero, List.set_cons_succ])
   refine tkFaQ (i := 3) (v := ?_) (hy := Or.inl ⟨by rfl, ?_⟩) (h := ?_)
   rotate_left 1
   ·(intro w hSw; (try dsimp only at hSw); go_simp) <;> with_reducible rfl
   (try simp only [Act.put, List.setIfInBounds_toArray, List.set_cons_zero, List.set_cons_succ])
   refine tkFaQ (i := 4) (v := undef) (hy := Or.inr ⟨by rfl, rfl⟩) (h := ?_)
   (try simp only [Act.put, List.setIfInBounds_toArray, List.set_cons_zero, List.set_cons_succ])
   refine tkFaQ (i := 5) (v := undef) (hy := Or.inr ⟨by rfl, rfl⟩) (h := ?_)
   (try simp only [Act.put, List.setIfInBounds_toArray, List.set_cons_zero, List.set_cons_succ])
   refine tkFaQ (i := 6) (v := undef) (hy := Or.inr ⟨by rfl, rfl⟩) (h := ?_)
   (try simp only [Act.put, List.setIfInBounds_toArray, List.set_cons_zero, List.set_cons_succ])
   refine tkFaQ (i := 7) (v := undef) (hy := Or.inr ⟨by rfl, rfl⟩) (h := ?_)
   (try simp only [Act.put, List.setIfInBounds_toArray, List.set_cons_zero, List.set_cons_succ])
   refine tkFaQ (i := 8) (v := undef) (hy := Or.inr ⟨by rfl, rfl⟩) (h := ?_)
   (try simp only [Act.put, List.setIfInBounds_toArray, List.set_cons_zero, List.set_cons_succ])
   refine tkFaQ (i := 9) (v := undef) (hy := Or.inr ⟨by rfl, rfl⟩) (h := ?_)
   (try simp only [Act.put, List.setIfInBounds_toArray, List.set_cons_zero, List.set_cons_succ])
   refine tkFaQ (i := 10) (v := undef) (hy := Or.inr ⟨by rfl, rfl⟩) (h := ?_)
   (try simp only [Act.put, List.setIfInBounds_toArray, List.set_cons_zero, List.set_cons_succ])
   refine tkFaQ (i := 11) (v := undef) (hy := Or.inr ⟨by rfl, rfl⟩) (h := ?_)
   (try simp only [Act.put, List.setIfInBounds_toArray, List.set_cons_zero, List.set_cons_succ])
   refine tkFaQ (i := 12) (v := undef) (hy := Or.inr ⟨by rfl, rfl⟩) (h := ?_)
   (try simp only [Act.put, List.setIfInBounds_toArray, List.set_cons_zero, List.set_cons_succ])
   refine tkFaQ (i := 13) (v := undef) (hy := Or.inr ⟨by rfl, rfl⟩) (h := ?_)
   (try simp only [Act.put, List.setIfInBounds_toArray, List.set_cons_zero, List.set_cons_succ])
   refine tkFaQ (i := 14) (v := undef) (hy := Or.inr ⟨by rfl, rfl⟩) (h := ?_)
   (try simp only [Act.put, List.setIfInBounds_toArray, List.set_cons_zero, List.set_cons_succ])
   refine tkFaQ (i := 15) (v := ?_) (hy := Or.inl ⟨by rfl, ?_⟩) (h := ?_)
   rotate_left 1
   ·(intro w hSw; (try dsimp only at hSw); go_simp) <;> with_reducible rfl
   (try simp only [Act.put, List.setIfInBounds_toArray, List.set_cons_zero, List.set_cons_succ])
   refine tkFaQ (i := 16) (v := ?_) (hy := Or.inl ⟨by rfl, ?_⟩) (h := ?_)
   rotate_left 1
   ·(intro w hSw; (try dsimp only at hSw); go_simp) <;> with_reducible rfl
   (try simp only [Act.put, List.setIfInBounds_toArray, List.set_cons_zero, List.set_cons_succ])
   refine wpAnyH_done (by kernel_rfl) ?_ _
   go_wp2
   go_ret
   refine ⟨ret_bool EA.out, ?_⟩
   exact pkFaQ2
  ·skip
   obtain ⟨hl, hf, hkk, hst, hm, hs⟩ := suit_parts hok
   obtain ⟨p, q, hax⟩ : ∃ p q, axP a b c d = (p, q) := ⟨_, _, rfl⟩
   have HPB := Lib.hid (show (-2 ≤ p ∧ p ≤ 2) ∧ (-2 ≤ q ∧ q ≤ 2) from by have := axP_bd hr hs; rw [hax] at this; exact this)
   have hG := step_pos hok hr
   rw [hax] at hG
   dsimp only at hG
   obtain ⟨g, hg⟩ : ∃ g, g = stepG A B C a b c d p q := ⟨_, rfl⟩
   have HAX := Lib.hid (fun W => axisF_any a b c d p q W hm hr hax)
   have HSL := Lib.hid (fun x' y' (hv : vecB x' y' = true) W => slide_any a b c d p q x' y' W hm hr hax hs hv)
   have HST := Lib.hid (fun W => step_any A B C a b c d p q W hl hm hr hax hs)
   have HIV := Lib.hid (fun W => invar_any A B C a b c d p q W hl hm hr hax hs)
   have HTM := Lib.hid (fun W => times_any p q g W (by have := HPB.out; simp [vecB]; omega) (by rw [hg]; simp [inB]; omega))
   have hvv : vecB x y = true := (okM_iff.1 hok).2.2
   obtain ⟨s, hs9⟩ : ∃ s, s = sld a b c d p q x y := ⟨_, rfl⟩
   have hsb := sld_bd (p := p) (q := q) (x := x) (y := y) (M := 1000) hs (by have := vecB_bd hvv; omega) (by have := vecB_bd hvv; omega)
   rw [← hs9] at hsb
   have HSL := Lib.hid (HSL.out x y hvv)
   rw [← hg] at hG
   have hg1 : 1 ≤ g := by omega
   have hg2 : g ≤ 128 := by omega
   have hgz : ¬ g = 0 := by omega
   have hb1 : (s.tmod g).natAbs ≤ s.natAbs := by rw [Int.natAbs_tmod]; exact Nat.mod_le _ _
   have hwm : IntKind.i64.wrap (s.tmod g) = s.tmod g := IntWalk.i64_in _ (by omega)
   have EA := Lib.hid (show (s.tmod g == 0) = mayB A B C (a, b, c, d, x, y) from by
    unfold mayB
    dsimp only
    rw [hr, hax]
    dsimp only
    rw [← hg, ← hs9, Bool.true_and, Bool.eq_iff_iff]
    simp only [beq_iff_eq, decide_eq_true_eq]
    exact ⟨Int.dvd_of_tmod_eq_zero, Int.tmod_eq_zero_of_dvd⟩)
   have HG := Lib.hid hg.symm
   have HS := Lib.hid hs9.symm
   have HR := Lib.hid hr
   clear hvv hs9 hsb hb1 hG hg hax hl hf hkk hst hm hs hok hr HPB HTM HIV HAX hg1 hg2
   have L0 : Kt (w.heap.size) A B C ((w.alloc (.cells #[.int .i64 A, .int .i64 B, .int .i64 C] 28)).alloc (.cells #[.int .i64 a, .int .i64 b, .int .i64 c, .int .i64 d, .int .i64 x, .int .i64 y] 145)) := ((Kt.at (w.heap.size) rfl).alloc _)
   have M0 : Km (w.heap.size + 1) a b c d x y ((w.alloc (.cells #[.int .i64 A, .int .i64 B, .int .i64 C] 28)).alloc (.cells #[.int .i64 a, .int .i64 b, .int .i64 c, .int .i64 d, .int .i64 x, .int .i64 y] 145)) := (Km.at (w.heap.size + 1) (by simp))
   have B0 : Below w.heap.size w ((w.alloc (.cells #[.int .i64 A, .int .i64 B, .int .i64 C] 28)).alloc (.cells #[.int .i64 a, .int .i64 b, .int .i64 c, .int .i64 d, .int .i64 x, .int .i64 y] 145)) := (Below.alloc (Below.alloc (Below.refl _ _) (by first | with_reducible exact Nat.le_refl _ | (simp <;> omega)) _) (by first | with_reducible exact Nat.le_refl _ | (simp <;> omega)) _)
   go_enter Tryz.func93, Tryz.ntmps93
   have L0c0 := L0.c0
   have L0c1 := L0.c1
   have L0c2 := L0.c2
   have L0l := L0.1
   have M0c0 := M0.c0
   have M0c1 := M0.c1
   have M0c2 := M0.c2
   have M0c3 := M0.c3
   have M0c4 := M0.c4
   have M0c5 := M0.c5
   have M0l := M0.1
   have L0lt := L0.1
   have M0lt := M0.1
   go_wp2_with fail
   go_region_held3 (fun W => (W.cell? ⟨w.heap.size, 0, none⟩ = some (.int .i64 A) ∧ W.cell? ⟨w.heap.size, 1, none⟩ = some (.int .i64 B) ∧ W.cell? ⟨w.heap.size, 2, none⟩ = some (.int .i64 C)) ∧ (W.cell? ⟨w.heap.size + 1, 0, none⟩ = some (.int .i64 a) ∧ W.cell? ⟨w.heap.size + 1, 1, none⟩ = some (.int .i64 b) ∧ W.cell? ⟨w.heap.size + 1, 2, none⟩ = some (.int .i64 c) ∧ W.cell? ⟨w.heap.size + 1, 3, none⟩ = some (.int .i64 d) ∧ W.cell? ⟨w.heap.size + 1, 4, none⟩ = some (.int .i64 x) ∧ W.cell? ⟨w.heap.size + 1, 5, none⟩ = some (.int .i64 y))) ((refine ⟨Kt.cells ?_, Km.cells ?_⟩ <;> repeat (first | with_reducible assumption | with_reducible refine Km.drew ?_ | with_reducible refine Km.alloc ?_ _ | with_reducible refine Km.call ?_ (by with_reducible assumption) | with_reducible refine Kt.drew ?_ | with_reducible refine Kt.alloc ?_ _ | with_reducible refine Kt.call ?_ (by with_reducible assumption) | ((with_reducible refine Km.put ?_ ?_); (first | omega | (dsimp only; omega))) | ((with_reducible refine Kt.put ?_ ?_); (first | omega | (dsimp only; omega))) | ((with_reducible refine Km.far ?_ ?_); (first | omega | (dsimp only; omega))))))
    (first
     | (go_at_call 110; ((with_reducible refine (isReflection_any a b c d _ HLI.out).mono ?_); rintro e w1 ⟨rfl, hb1⟩; rw [HR.out]; have L1 : Kt (w.heap.size) A B C w1 := (by with_reducible exact pkFaQ4); have M1 : Km (w.heap.size + 1) a b c d x y w1 := (by with_reducible exact pkFaQ4); have L1l := L1.1; have M1l := M1.1; have B1 : Below w.heap.size w w1 := (by repeat (first | with_reducible assumption | with_reducible refine Below.drew ?_ | with_reducible refine Below.alloc ?_ (by first | omega | (have := B0.size; simp <;> omega)) _ | with_reducible refine bstep ?_ (by with_reducible assumption)))))
     | (go_at_call 162; ((with_reducible refine (HSL.out _).mono ?_); rintro e w2 ⟨rfl, hb2⟩; rw [HS.out]; have L2 : Kt (w.heap.size) A B C w2 := (by with_reducible exact pkFaQ4); have M2 : Km (w.heap.size + 1) a b c d x y w2 := (by with_reducible exact pkFaQ4); have L2l := L2.1; have M2l := M2.1; have B2 : Below w.heap.size w w2 := (by repeat (first | with_reducible assumption | with_reducible refine Below.drew ?_ | with_reducible refine Below.alloc ?_ (by first | omega | (have := B0.size; simp <;> omega)) _ | with_reducible refine bstep ?_ (by with_reducible assumption)))))
     | (go_at_call 159; ((with_reducible refine (HST.out _).mono ?_); rintro e w3 ⟨rfl, hb3⟩; rw [HG.out]; have L3 : Kt (w.heap.size) A B C w3 := (by with_reducible exact pkFaQ4); have M3 : Km (w.heap.size + 1) a b c d x y w3 := (by with_reducible exact pkFaQ4); have L3l := L3.1; have M3l := M3.1; have B3 : Below w.heap.size w w3 := (by repeat (first | with_reducible assumption | with_reducible refine Below.drew ?_ | with_reducible refine Below.alloc ?_ (by first | omega | (have := B0.size; simp <;> omega)) _ | with_reducible refine bstep ?_ (by with_reducible assumption))))))
   all_goals
    go_wp2
    go_ret
    refine ⟨ret_bool EA.out, ?_⟩
    exact pkFaQ2
end Go.Proofs.YtjjfomokecngoaaGreatDoor
