/-
 Contracts of chapter 11 in the model: the invariant vector, centred lattices, what may reflect, and the exported functions. Conditions: those stated.
-/
import Derived.Test.YtjjfomokecngoaaGreatDoorFaF
import Derived.Test.YtjjfomokecngoaaGreatDoorGc
import Derived.Test.YtjjfomokecngoaaGreatDoorHg
import Derived.Test.YtjjfomokecngoaaGreatDoorGb
import Derived.Test.YtjjfomokecngoaaGreatDoorGf
import Derived.Deep.RegionHeld3
import Derived.IntWalk
import Derived.LoopTactic
namespace Go.Proofs.YtjjfomokecngoaaGreatDoor
open Go.RowKit
set_option linter.unusedSimpArgs false
set_option linter.unusedVariables false

theorem pkFaM0 {P : Prop} (h : P := by repeat (first | with_reducible assumption | with_reducible refine KV.drew ?_ | with_reducible refine KV.alloc ?_ _ | with_reducible refine KV.call ?_ (by with_reducible assumption) | with_reducible refine Km.drew ?_ | with_reducible refine Km.alloc ?_ _ | with_reducible refine Km.call ?_ (by with_reducible assumption) | with_reducible refine Kt.drew ?_ | with_reducible refine Kt.alloc ?_ _ | with_reducible refine Kt.call ?_ (by with_reducible assumption) | ((with_reducible refine KV.put ?_ ?_); (first | omega | (dsimp only; omega))) | ((with_reducible refine Km.put ?_ ?_); (first | omega | (dsimp only; omega))) | ((with_reducible refine Kt.put ?_ ?_); (first | omega | (dsimp only; omega))) | ((with_reducible refine KV.far5 ?_ ?_); (first | omega | (dsimp only; omega))) | ((with_reducible refine Km.far ?_ ?_); (first | omega | (dsimp only; omega))))) : P := h
theorem pkFaM2 {P : Prop} (h : P := by repeat (first | with_reducible assumption | with_reducible exact Below.refl _ _ | with_reducible refine Below.setCell ?_ (by first | omega | (simp <;> omega)) _ | with_reducible refine Below.alloc ?_ (by first | omega | (simp <;> omega)) _ | with_reducible refine bstep ?_ (by with_reducible assumption) | with_reducible refine Below.drew ?_)) : P := h
theorem pkFaM3 {P : Prop} (h : P := by repeat (first | assumption | refine Kq.drew ?_ | refine Kq.alloc ?_ _ | refine Kq.call ?_ (by assumption) | refine Kt.drew ?_ | refine Kt.alloc ?_ _ | refine Kt.call ?_ (by assumption))) : P := h
theorem l02AxisF_any (a b c d p q : Int) (w : World) (h : matB a b c d = true) (hr : reflB a b c d = true) (ha : axP a b c d = (p, q)) :
  Calls Tryz.prog 155 #[.agg #[.int .i64 a, .int .i64 b, .int .i64 c, .int .i64 d]] w fun e w' => e = .returned (.agg #[.int .i64 p, .int .i64 q]) ∧ Below w.heap.size w w' := by
 have := l02Axis_any a b c d w h hr
 unfold axVal at this
 rw [ha] at this
 exact this
theorem bd_mulM {k : Nat} {p : Int} (hk : k ≤ 64) (hp : -2 ≤ p ∧ p ≤ 2) : -128 ≤ p * (k : Int) ∧ p * (k : Int) ≤ 128 := by
 have : p = -2 ∨ p = -1 ∨ p = 0 ∨ p = 1 ∨ p = 2 := by omega
 rcases this with rfl | rfl | rfl | rfl | rfl <;> omega
set_option maxRecDepth 100000 in
set_option maxHeartbeats 8000000 in
theorem l11Inv_any (A B C a b c d s a' b' c' d' p q : Int) (w : World) (hl : latI A B C) (h1 : s * a = a') (h2 : s * b = b') (h3 : s * c = c') (h4 : s * d = d') (hm : matB a' b' c' d' = true) (hr : reflB a' b' c' d' = true) (hax : axP a' b' c' d' = (p, q)) (hs : ((-1 ≤ a' ∧ a' ≤ 1) ∧ (-1 ≤ b' ∧ b' ≤ 1)) ∧ ((-1 ≤ c' ∧ c' ≤ 1) ∧ (-1 ≤ d' ∧ d' ≤ 1))) :
  Calls Tryz.prog 88 #[.agg #[.int .i64 A, .int .i64 B, .int .i64 C], .agg #[.int .i64 a, .int .i64 b, .int .i64 c, .int .i64 d], .int .i64 s] w fun e w' => e = .returned (.agg #[.int .i64 ((invK A B C p q : Int) * p), .int .i64 ((invK A B C p q : Int) * q)]) ∧ Below w.heap.size w w' := by
  have HL := Lib.hid hl
  have HK0 := invK_facts p q hl
  obtain ⟨K, hK⟩ : ∃ K, K = invK A B C p q := ⟨_, rfl⟩
  rw [← hK] at HK0 ⊢
  have HK := Lib.hid HK0
  have HPB := Lib.hid (show (-2 ≤ p ∧ p ≤ 2) ∧ (-2 ≤ q ∧ q ≤ 2) from by have := axP_bd hr hs; rw [hax] at this; exact this)
  have HAX := Lib.hid (fun W => l02AxisF_any a' b' c' d' p q W hm hr hax)
  have hw1a : IntKind.i64.wrap (s * a) = a' := by rw [h1]; exact IntWalk.i64_in _ (by omega)
  have hw1b : IntKind.i64.wrap (s * b) = b' := by rw [h2]; exact IntWalk.i64_in _ (by omega)
  have hw1c : IntKind.i64.wrap (s * c) = c' := by rw [h3]; exact IntWalk.i64_in _ (by omega)
  have hw1d : IntKind.i64.wrap (s * d) = d' := by rw [h4]; exact IntWalk.i64_in _ (by omega)
  clear hax hm hr hs hl HK0 hK h1 h2 h3 h4
  have L0 : Kt (w.heap.size) A B C (((w.alloc (.cells #[.int .i64 A, .int .i64 B, .int .i64 C] 28)).alloc (.cells #[.int .i64 a, .int .i64 b, .int .i64 c, .int .i64 d] 59)).alloc (.cells #[.int .i64 0, .int .i64 0] 63)) := (((Kt.at (w.heap.size) rfl).alloc _).alloc _)
  have M0 : Kq (w.heap.size + 1) a b c d (((w.alloc (.cells #[.int .i64 A, .int .i64 B, .int .i64 C] 28)).alloc (.cells #[.int .i64 a, .int .i64 b, .int .i64 c, .int .i64 d] 59)).alloc (.cells #[.int .i64 0, .int .i64 0] 63)) := ((Kq.at (w.heap.size + 1) (by simp)).alloc _)
  have R0 : KV (w.heap.size + 1 + 1) 0 0 (((w.alloc (.cells #[.int .i64 A, .int .i64 B, .int .i64 C] 28)).alloc (.cells #[.int .i64 a, .int .i64 b, .int .i64 c, .int .i64 d] 59)).alloc (.cells #[.int .i64 0, .int .i64 0] 63)) := (KV.at (w.heap.size + 1 + 1) (by simp))
  have B0 : Below w.heap.size w (((w.alloc (.cells #[.int .i64 A, .int .i64 B, .int .i64 C] 28)).alloc (.cells #[.int .i64 a, .int .i64 b, .int .i64 c, .int .i64 d] 59)).alloc (.cells #[.int .i64 0, .int .i64 0] 63)) := (Below.alloc (Below.alloc (Below.alloc (Below.refl _ _) (by first | with_reducible exact Nat.le_refl _ | (simp <;> omega)) _) (by first | with_reducible exact Nat.le_refl _ | (simp <;> omega)) _) (by first | with_reducible exact Nat.le_refl _ | (simp <;> omega)) _)
  go_enter Tryz.func88, Tryz.ntmps88
  have M0c0 := M0.c0
  have M0c1 := M0.c1
  have M0c2 := M0.c2
  have M0c3 := M0.c3
  have M0l := M0.1
  go_upto_region 1 with fail
  obtain ⟨w0, hw0⟩ : ∃ z, z = (((w.alloc (.cells #[.int .i64 A, .int .i64 B, .int .i64 C] 28)).alloc (.cells #[.int .i64 a, .int .i64 b, .int .i64 c, .int .i64 d] 59)).alloc (.cells #[.int .i64 0, .int .i64 0] 63)) := ⟨_, rfl⟩
  have zz0 : w0.heap.size = w.heap.size + 1 + 1 + 1 := by rw [hw0]; simp
  rw [← hw0] at L0 R0 B0 M0c0 M0c1 M0c2 M0c3 M0l ⊢
  clear hw0 M0
  go_wp2_with fail
  have N1 : Kq w0.heap.size a' b' c' d' (w0.alloc (.cells #[.int .i64 a', .int .i64 b', .int .i64 c', .int .i64 d'] 59)) := Kq.at _ rfl
  have L1 : Kt w.heap.size A B C (w0.alloc (.cells #[.int .i64 a', .int .i64 b', .int .i64 c', .int .i64 d'] 59)) := L0.alloc _
  have R1 : KV (w.heap.size + 1 + 1) 0 0 (w0.alloc (.cells #[.int .i64 a', .int .i64 b', .int .i64 c', .int .i64 d'] 59)) := R0.alloc _
  have B1 : Below w.heap.size w (w0.alloc (.cells #[.int .i64 a', .int .i64 b', .int .i64 c', .int .i64 d'] 59)) := Below.alloc B0 B0.size _
  obtain ⟨w1, hw1⟩ : ∃ z, z = w0.alloc (.cells #[.int .i64 a', .int .i64 b', .int .i64 c', .int .i64 d'] 59) := ⟨_, rfl⟩
  rw [← hw1] at N1 L1 R1 B1 ⊢
  clear hw1 L0 R0 B0 M0c0 M0c1 M0c2 M0c3 M0l hw1a hw1b hw1c hw1d
  have n1c0 := N1.c0
  have n1c1 := N1.c1
  have n1c2 := N1.c2
  have n1c3 := N1.c3
  refine (HAX.out _).mono ?_
  rintro e w2 ⟨rfl, hb2⟩
  have L2 := L1.call hb2
  have R2 := R1.call hb2
  have B2 := bstep B1 hb2
  clear N1 L1 R1 B1 hb2 n1c0 n1c1 n1c2 n1c3
  go_upto_region 1 with fail
  have X3 : Kg w2.heap.size p q (w2.alloc (.cells #[.int .i64 p, .int .i64 q] 63)) := Kg.at2 _ rfl
  have L3 : Kt w.heap.size A B C (w2.alloc (.cells #[.int .i64 p, .int .i64 q] 63)) := L2.alloc _
  have R3 : KV (w.heap.size + 1 + 1) 0 0 (w2.alloc (.cells #[.int .i64 p, .int .i64 q] 63)) := R2.alloc _
  have B3 : Below w.heap.size w (w2.alloc (.cells #[.int .i64 p, .int .i64 q] 63)) := Below.alloc B2 B2.size _
  obtain ⟨w3, hw3⟩ : ∃ z, z = w2.alloc (.cells #[.int .i64 p, .int .i64 q] 63) := ⟨_, rfl⟩
  rw [← hw3] at X3 L3 R3 B3 ⊢
  obtain ⟨g, hg⟩ : ∃ z, z = w2.heap.size := ⟨_, rfl⟩
  rw [← hg] at X3 ⊢
  clear hw3 hg L2 R2 B2
  go_wp2_with fail
  go_loopw [9] (fun s9 W => ∃ k : Nat, s9 = .int .i64 (k : Int) ∧ 1 ≤ k ∧ k ≤ K ∧ Kg g p q W ∧ Kt w.heap.size A B C W ∧ KV (w.heap.size + 1 + 1) 0 0 W ∧ Below w.heap.size w W) (fun s9 _ => K - (intOf s9).toNat)
  case atStart => exact ⟨1, rfl, by omega, HK.out.1.1, X3, L3, R3, B3⟩
  case round =>
   clear X3 L3 R3 B3
   obtain ⟨k, rfl, k1, k2, X, L, R, BB⟩ := hrel
   have hk64 : (k : Int) ≤ 64 := by have := HK.out; omega
   have hb1 := bd_mulM (k := k) (by omega) HPB.out.1
   have hb2 := bd_mulM (k := k) (by omega) HPB.out.2
   obtain ⟨p', hp'⟩ : ∃ z, z = p * (k : Int) := ⟨_, rfl⟩
   obtain ⟨q', hq'⟩ : ∃ z, z = q * (k : Int) := ⟨_, rfl⟩
   have HC := Lib.hid (fun W => l03Has_any A B C p' q' W HL.out (by unfold midI; omega) (by unfold midI; omega))
   have HSC := Lib.hid (fun W => l01Scale_any p q (k : Int) W (by have := HPB.out; simp [vecB]; omega) (by simp [inB]; omega))
   rw [← hp', ← hq'] at HSC
   rw [Int.mul_comm] at hp' hq'
   clear hb1 hb2 hk64
   by_cases hk : k = K
   ·have HH := Lib.hid (show hasB A B C p' q' = true by rw [hp', hq', hk]; exact HK.out.2.1)
    have EP := Lib.hid hp'
    have EQ := Lib.hid hq'
    have EA := Lib.hid hk
    clear hk hp' hq'
    have xc0 := X.c0
    have xc1 := X.c1
    go_wp2_with fail
    refine (HSC.out _).mono ?_
    rintro e w4 ⟨rfl, hb4⟩
    have L4 := L.call hb4
    have X4 := X.call hb4
    have R4 := R.call hb4
    have B4 := bstep BB hb4
    clear L X R BB hb4 xc0 xc1
    have lc0 := L4.c0
    have lc1 := L4.c1
    have lc2 := L4.c2
    have ll := L4.1
    go_wp2_with fail
    refine (HC.out _).mono ?_
    rintro e w6 ⟨rfl, hb6⟩
    rw [HH.out]
    have V6 : Kg w4.heap.size p' q' w6 := Kg.call (Kg.at2 (w4.heap.size) rfl) hb6
    have X6 : Kg g p q w6 := (X4.alloc _).call hb6
    have L6 : Kt w.heap.size A B C w6 := (L4.alloc _).call hb6
    have R6 : KV (w.heap.size + 1 + 1) 0 0 w6 := (R4.alloc _).call hb6
    have B6 : Below w.heap.size w w6 := bstep (Below.alloc B4 B4.size _) hb6
    have zr := R4.lt
    clear hb6 lc0 lc1 lc2 ll L4 X4 R4 B4
    have vc0 := V6.c0
    have vc1 := V6.c1
    have rc0 := R6.c0
    have rc1 := R6.c1
    have rf0 := R6.f0
    have rf1 := R6.f1
    have rl := R6.lt
    go_wp2
    refine bodyPost_ret (v := .agg #[.int .i64 p', .int .i64 q']) (by simp [results, Tryz.results88, go_sem, *]) rfl ⟨by rw [EP.out, EQ.out, EA.out], ?_⟩
    exact pkFaM2
   ·have HH := Lib.hid (show hasB A B C p' q' = false by rw [hp', hq']; exact HK.out.2.2 k k1 (by omega))
    have k3 : k < K := by omega
    clear hk hp' hq'
    have xc0 := X.c0
    have xc1 := X.c1
    go_wp2_with fail
    refine (HSC.out _).mono ?_
    rintro e w4 ⟨rfl, hb4⟩
    have L4 := L.call hb4
    have X4 := X.call hb4
    have R4 := R.call hb4
    have B4 := bstep BB hb4
    clear L X R BB hb4 xc0 xc1
    have lc0 := L4.c0
    have lc1 := L4.c1
    have lc2 := L4.c2
    have ll := L4.1
    go_wp2_with fail
    refine (HC.out _).mono ?_
    rintro e w6 ⟨rfl, hb6⟩
    rw [HH.out]
    have V6 : Kg w4.heap.size p' q' w6 := Kg.call (Kg.at2 (w4.heap.size) rfl) hb6
    have X6 : Kg g p q w6 := (X4.alloc _).call hb6
    have L6 : Kt w.heap.size A B C w6 := (L4.alloc _).call hb6
    have R6 : KV (w.heap.size + 1 + 1) 0 0 w6 := (R4.alloc _).call hb6
    have B6 : Below w.heap.size w w6 := bstep (Below.alloc B4 B4.size _) hb6
    have zr := R4.lt
    clear hb6 lc0 lc1 lc2 ll L4 X4 R4 B4
    have hwk : IntKind.i64.wrap ((k : Int) + 1) = (k : Int) + 1 := IntWalk.i64_in _ (by have := HK.out; omega)
    go_wp2
    go_roundw
    case rel => exact ⟨k + 1, by rfl, by omega, by omega, X6, L6, R6, B6⟩
    case measure => simp [intOf]; omega
theorem detF_any (ux uy x y : Int) (w : World) (h1 : midI (ux * y)) (h2 : midI (uy * x)) :
  Calls Tryz.prog 160 #[.agg #[.int .i64 ux, .int .i64 uy], .agg #[.int .i64 x, .int .i64 y]] w fun e w' => e = .returned (.int .i64 (ux * y - uy * x)) ∧ Below w.heap.size w w' := by
 unfold midI at h1 h2
 have hw1 : IntKind.i64.wrap (ux * y) = ux * y := IntWalk.i64_in _ (by omega)
 have hw2 : IntKind.i64.wrap (uy * x) = uy * x := IntWalk.i64_in _ (by omega)
 have hw3 : IntKind.i64.wrap (ux * y - uy * x) = ux * y - uy * x := IntWalk.i64_in _ (by omega)
 clear h1 h2
 go_enter Tryz.func160, Tryz.ntmps160
 go_wp2
 go_ret
 refine ⟨rfl, ?_⟩
 exact pkFaM2
theorem mul_bd11 {K : Nat} {p : Int} (hk : K ≤ 64) (hp : -2 ≤ p ∧ p ≤ 2) : -128 ≤ (K : Int) * p ∧ (K : Int) * p ≤ 128 := by
 have : p = -2 ∨ p = -1 ∨ p = 0 ∨ p = 1 ∨ p = 2 := by omega
 rcases this with rfl | rfl | rfl | rfl | rfl <;> omega
theorem mul_mid {X Y : Int} (hx : -128 ≤ X ∧ X ≤ 128) (hy : -128 ≤ Y ∧ Y ≤ 128) : -16384 ≤ X * Y ∧ X * Y ≤ 16384 := by
 have h : (X * Y).natAbs ≤ 128 * 128 := by
  rw [Int.natAbs_mul]
  exact Nat.mul_le_mul (by omega) (by omega)
 omega
set_option maxRecDepth 100000 in
set_option maxHeartbeats 8000000 in
theorem l11Cen_any (f A B C a b c d x y : Int) (w : World) (hok : okM f A B C (a, b, c, d, x, y) = true) (hr : reflB a b c d = true) :
  Calls Tryz.prog 90 #[.agg #[.int .i64 A, .int .i64 B, .int .i64 C], .agg #[.int .i64 a, .int .i64 b, .int .i64 c, .int .i64 d]] w fun e w' => e = .returned (.bool (cenB A B C a b c d)) ∧ Below w.heap.size w w' := by
  obtain ⟨hl, hf, hkk, hst, hm, hs⟩ := suit_parts hok
  obtain ⟨p, q, hax⟩ : ∃ p q, axP a b c d = (p, q) := ⟨_, _, rfl⟩
  have HIP := Lib.hid (fun W => l11Inv_any A B C a b c d 1 a b c d p q W hl (by omega) (by omega) (by omega) (by omega) hm hr hax hs)
  obtain ⟨p', q', hax'⟩ : ∃ p q, axP (-a) (-b) (-c) (-d) = (p, q) := ⟨_, _, rfl⟩
  have HIN := Lib.hid (fun W => l11Inv_any A B C a b c d (-1) (-a) (-b) (-c) (-d) p' q' W hl (by omega) (by omega) (by omega) (by omega) (neg_mat hm) (refl_neg hr) hax' (by omega))
  have hb := axP_bd hr hs
  have hb' := axP_bd (refl_neg hr) (by omega)
  rw [hax] at hb
  rw [hax'] at hb'
  dsimp only at hb hb'
  have hk := (invK_facts p q hl).1.2
  have hk' := (invK_facts p' q' hl).1.2
  have hC := cen_model hok hr
  obtain ⟨X, hX⟩ : ∃ X, X = ivX A B C a b c d := ⟨_, rfl⟩
  obtain ⟨Y, hY⟩ : ∃ Y, Y = ivY A B C a b c d := ⟨_, rfl⟩
  obtain ⟨X', hX'⟩ : ∃ X, X = ivX A B C (-a) (-b) (-c) (-d) := ⟨_, rfl⟩
  obtain ⟨Y', hY'⟩ : ∃ Y, Y = ivY A B C (-a) (-b) (-c) (-d) := ⟨_, rfl⟩
  rw [← hX, ← hY, ← hX', ← hY'] at hC
  have e1 : (invK A B C p q : Int) * p = X ∧ (invK A B C p q : Int) * q = Y := by rw [hX, hY]; unfold ivX ivY; rw [hax]; exact ⟨rfl, rfl⟩
  have e2 : (invK A B C p' q' : Int) * p' = X' ∧ (invK A B C p' q' : Int) * q' = Y' := by rw [hX', hY']; unfold ivX ivY; rw [hax']; exact ⟨rfl, rfl⟩
  have b1 := mul_bd11 hk hb.1
  have b2 := mul_bd11 hk hb.2
  have b3 := mul_bd11 hk' hb'.1
  have b4 := mul_bd11 hk' hb'.2
  rw [e1.1] at b1
  rw [e1.2] at b2
  rw [e2.1] at b3
  rw [e2.2] at b4
  have m1 := mul_mid b1 b4
  have m2 := mul_mid b2 b3
  have HDT := Lib.hid (fun W => detF_any X Y X' Y' W (by unfold midI; omega) (by unfold midI; omega))
  obtain ⟨D, hD⟩ : ∃ D, D = X * Y' - Y * X' := ⟨_, rfl⟩
  rw [← hD] at hC
  have HD := Lib.hid (show -32768 ≤ D ∧ D ≤ 32768 from by omega)
  have HAC := Lib.hid (show 0 ≤ A * C ∧ A * C ≤ 64 from ⟨by have := Int.mul_pos (show 0 < A by have := hl.1; omega) (show 0 < C by have := hl.2.1; omega); omega, hl.2.2.2.2⟩)
  have HDE := Lib.hid hD.symm
  have HX := Lib.hid e1
  have HY := Lib.hid e2
  have EA := Lib.hid hC
  clear hC hD m1 m2 b1 b2 b3 b4 e1 e2 hX hY hX' hY' hk hk' hb hb' hax hax' hl hf hkk hst hm hs hok hr
  have L0 : Kt (w.heap.size) A B C ((w.alloc (.cells #[.int .i64 A, .int .i64 B, .int .i64 C] 28)).alloc (.cells #[.int .i64 a, .int .i64 b, .int .i64 c, .int .i64 d] 59)) := ((Kt.at (w.heap.size) rfl).alloc _)
  have M0 : Kq (w.heap.size + 1) a b c d ((w.alloc (.cells #[.int .i64 A, .int .i64 B, .int .i64 C] 28)).alloc (.cells #[.int .i64 a, .int .i64 b, .int .i64 c, .int .i64 d] 59)) := (Kq.at (w.heap.size + 1) (by simp))
  have B0 : Below w.heap.size w ((w.alloc (.cells #[.int .i64 A, .int .i64 B, .int .i64 C] 28)).alloc (.cells #[.int .i64 a, .int .i64 b, .int .i64 c, .int .i64 d] 59)) := (Below.alloc (Below.alloc (Below.refl _ _) (by first | with_reducible exact Nat.le_refl _ | (simp <;> omega)) _) (by first | with_reducible exact Nat.le_refl _ | (simp <;> omega)) _)
  go_enter Tryz.func90, Tryz.ntmps90
  have L0c0 := L0.c0
  have L0c1 := L0.c1
  have L0c2 := L0.c2
  have L0l := L0.1
  have M0c0 := M0.c0
  have M0c1 := M0.c1
  have M0c2 := M0.c2
  have M0c3 := M0.c3
  have M0l := M0.1
  have L0lt := L0.1
  have M0lt := M0.1
  go_wp2_with fail
  go_region_held3 (fun W => (W.cell? ⟨w.heap.size, 0, none⟩ = some (.int .i64 A) ∧ W.cell? ⟨w.heap.size, 1, none⟩ = some (.int .i64 B) ∧ W.cell? ⟨w.heap.size, 2, none⟩ = some (.int .i64 C)) ∧ (W.cell? ⟨w.heap.size + 1, 0, none⟩ = some (.int .i64 a) ∧ W.cell? ⟨w.heap.size + 1, 1, none⟩ = some (.int .i64 b) ∧ W.cell? ⟨w.heap.size + 1, 2, none⟩ = some (.int .i64 c) ∧ W.cell? ⟨w.heap.size + 1, 3, none⟩ = some (.int .i64 d))) ((refine ⟨Kt.cells ?_, Kq.cells ?_⟩ <;> repeat (first | with_reducible assumption | with_reducible refine Kq.drew ?_ | with_reducible refine Kq.alloc ?_ _ | with_reducible refine Kq.call ?_ (by with_reducible assumption) | with_reducible refine Kt.drew ?_ | with_reducible refine Kt.alloc ?_ _ | with_reducible refine Kt.call ?_ (by with_reducible assumption) | ((with_reducible refine Kq.put ?_ ?_); (first | omega | (dsimp only; omega))) | ((with_reducible refine Kt.put ?_ ?_); (first | omega | (dsimp only; omega))) | ((with_reducible refine Kq.far ?_ ?_); (first | omega | (dsimp only; omega))))))
   (first
    | (go_at_call 88; ((with_reducible refine (HIP.out _).mono ?_); rintro e w1 ⟨rfl, hb1⟩; rw [HX.out.1, HX.out.2]; have L1 : Kt (w.heap.size) A B C w1 := (by with_reducible exact pkFaM3); have M1 : Kq (w.heap.size + 1) a b c d w1 := (by with_reducible exact pkFaM3); have L1l := L1.1; have M1l := M1.1; have B1 : Below w.heap.size w w1 := (by repeat (first | with_reducible assumption | with_reducible refine Below.drew ?_ | with_reducible refine Below.alloc ?_ (by first | omega | (have := B0.size; simp <;> omega)) _ | with_reducible refine bstep ?_ (by with_reducible assumption)))))
    | (go_at_call 88; ((with_reducible refine (HIN.out _).mono ?_); rintro e w2 ⟨rfl, hb2⟩; rw [HY.out.1, HY.out.2]; have L2 : Kt (w.heap.size) A B C w2 := (by with_reducible exact pkFaM3); have M2 : Kq (w.heap.size + 1) a b c d w2 := (by with_reducible exact pkFaM3); have L2l := L2.1; have M2l := M2.1; have B2 : Below w.heap.size w w2 := (by repeat (first | with_reducible assumption | with_reducible refine Below.drew ?_ | with_reducible refine Below.alloc ?_ (by first | omega | (have := B0.size; simp <;> omega)) _ | with_reducible refine bstep ?_ (by with_reducible assumption)))))
    | (go_at_call 160; ((with_reducible refine (HDT.out _).mono ?_); rintro e w3 ⟨rfl, hb3⟩; rw [HDE.out]; have L3 : Kt (w.heap.size) A B C w3 := (by with_reducible exact pkFaM3); have M3 : Kq (w.heap.size + 1) a b c d w3 := (by with_reducible exact pkFaM3); have L3l := L3.1; have M3l := M3.1; have B3 : Below w.heap.size w w3 := (by repeat (first | with_reducible assumption | with_reducible refine Below.drew ?_ | with_reducible refine Below.alloc ?_ (by first | omega | (have := B0.size; simp <;> omega)) _ | with_reducible refine bstep ?_ (by with_reducible assumption))))))
  all_goals
   have hwn : IntKind.i64.wrap (-D) = -D := IntWalk.i64_in _ (by have := HD.out; omega)
   have hwp : IntKind.i64.wrap (A * C) = A * C := IntWalk.i64_in _ (by have := HAC.out; omega)
   clear HD HAC
   have lc0 := L3.c0
   have lc2 := L3.c2
   go_wp2
   all_goals
    go_ret
    refine ⟨ret_bool (by rw [← EA.out] <;> first | rw [show max D (-D) = D by omega] | rw [show max D (-D) = -D by omega]), ?_⟩
    exact pkFaM2
set_option maxRecDepth 100000 in
set_option maxHeartbeats 16000000 in
theorem l11Ref_any (f A B C a b c d x y : Int) (w : World) (hok : okM f A B C (a, b, c, d, x, y) = true) (hr : reflB a b c d = true) :
  Calls Tryz.prog 96 #[.agg #[.int .i64 A, .int .i64 B, .int .i64 C], .agg #[.int .i64 a, .int .i64 b, .int .i64 c, .int .i64 d, .int .i64 x, .int .i64 y]] w fun e w' => e = .returned (.bool (mayB A B C (a, b, c, d, x, y))) ∧ Below w.heap.size w w' := by
  obtain ⟨hl, hf, hkk, hst, hm, hs⟩ := suit_parts hok
  obtain ⟨p, q, hax⟩ : ∃ p q, axP a b c d = (p, q) := ⟨_, _, rfl⟩
  have HIP := Lib.hid (fun W => l11Inv_any A B C a b c d 1 a b c d p q W hl (by omega) (by omega) (by omega) (by omega) hm hr hax hs)
  have hvv : vecB x y = true := (okM_iff.1 hok).2.2
  have HV := Lib.hid hvv
  have HLI := Lib.hid (matB_lim hm)
  have HCN := Lib.hid (fun W => l11Cen_any f A B C a b c d x y W hok hr)
  have hb := axP_bd hr hs
  rw [hax] at hb
  dsimp only at hb
  have hk := (invK_facts p q hl).1.2
  obtain ⟨X, hX⟩ : ∃ X, X = (invK A B C p q : Int) * p := ⟨_, rfl⟩
  obtain ⟨Y, hY⟩ : ∃ Y, Y = (invK A B C p q : Int) * q := ⟨_, rfl⟩
  have HX := Lib.hid (show (invK A B C p q : Int) * p = X ∧ (invK A B C p q : Int) * q = Y from ⟨hX.symm, hY.symm⟩)
  have b1 := mul_bd11 hk hb.1
  have b2 := mul_bd11 hk hb.2
  rw [← hX] at b1
  rw [← hY] at b2
  have hG := step_pos hok hr
  have hM := may_model (A := A) (B := B) (C := C) (x := x) (y := y) hr
  have hE := step_model hok hr
  have hone := (axP_rax hr (refl_neg hr)).one
  rw [hax] at hG hM hE hone
  dsimp only at hG hM hE hone
  obtain ⟨g, hg⟩ : ∃ g, g = stepG A B C a b c d p q := ⟨_, rfl⟩
  rw [← hg] at hG hM hE
  have hgg : gcdI (g * p) (g * q) = g := by rw [gcd_scale hone]; omega
  have bv := vecB_bd hvv
  have t1 := small_sum (x := x) (y := y) (z := x) (M := 1000) hs.1.1 hs.1.2 (by omega) (by omega) (by omega)
  have t2 := small_sum (x := x) (y := y) (z := y) (M := 1000) hs.2.1 hs.2.2 (by omega) (by omega) (by omega)
  obtain ⟨tx, htx⟩ : ∃ t, t = a * x + b * y + x := ⟨_, rfl⟩
  obtain ⟨ty, hty⟩ : ∃ t, t = c * x + d * y + y := ⟨_, rfl⟩
  have HTT := Lib.hid (show a * x + b * y + x = tx ∧ c * x + d * y + y = ty from ⟨htx.symm, hty.symm⟩)
  rw [← htx] at t1
  rw [← hty] at t2
  rw [← htx, ← hty, hgg] at hM
  have HTW := Lib.hid (fun W => l05Twice_any a b c d x y W HLI.out HV.out)
  rw [← htx, ← hty] at HTW
  have HD2 := Lib.hid (fun W => divisor2_any tx ty W (by omega) (by omega) (by omega) (by omega))
  have hgb : (gcdI tx ty).natAbs ≤ 3000 + 3000 := by
   by_cases h0 : tx = 0 ∧ ty = 0
   ·obtain ⟨rfl, rfl⟩ := h0; decide
   ·have hp := gcdI_pos h0
    by_cases h1 : tx = 0
    ·have := Int.le_of_dvd (show 0 < max ty (-ty) by omega) (show gcdI tx ty ∣ max ty (-ty) from by
      rcases Int.le_total 0 ty with h | h
      ·rw [show max ty (-ty) = ty by omega]; exact Int.gcd_dvd_right ..
      ·rw [show max ty (-ty) = -ty by omega]; exact Int.dvd_neg.2 (Int.gcd_dvd_right ..))
     omega
    ·have := Int.le_of_dvd (show 0 < max tx (-tx) by omega) (show gcdI tx ty ∣ max tx (-tx) from by
      rcases Int.le_total 0 tx with h | h
      ·rw [show max tx (-tx) = tx by omega]; exact Int.gcd_dvd_left ..
      ·rw [show max tx (-tx) = -tx by omega]; exact Int.dvd_neg.2 (Int.gcd_dvd_left ..))
     omega
  have HMO := Lib.hid (fun W => l01Mod_any (gcdI tx ty) g W (by unfold bigI; omega) (by omega) (by unfold bigI; omega))
  have EA := Lib.hid hM
  rcases hc : cenB A B C a b c d with _ | _
  ·have HC := Lib.hid hc
   rw [hc] at hE
   have g1 : X * 2 = g * p := by rw [hX, hE]; simp only [cond_false]; grind
   have g2 : Y * 2 = g * q := by rw [hY, hE]; simp only [cond_false]; grind
   have HD1 := Lib.hid (fun W => divisor2_any (X * 2) (Y * 2) W (by omega) (by omega) (by omega) (by omega))
   have HG1 := Lib.hid (show gcdI (X * 2) (Y * 2) = g from by rw [g1, g2]; exact hgg)
   have HSC := Lib.hid (fun W => l01Scale_any X Y 2 W (by simp [vecB]; omega) (by decide))
   clear hb hk hX hY b1 b2 hG hM hE hone hg hgg bv t1 t2 hgb hc g1 g2 hl hf hkk hst hm hs hok hr hvv hax htx hty
   have L0 : Kt (w.heap.size) A B C ((w.alloc (.cells #[.int .i64 A, .int .i64 B, .int .i64 C] 28)).alloc (.cells #[.int .i64 a, .int .i64 b, .int .i64 c, .int .i64 d, .int .i64 x, .int .i64 y] 69)) := ((Kt.at (w.heap.size) rfl).alloc _)
   have M0 : Km (w.heap.size + 1) a b c d x y ((w.alloc (.cells #[.int .i64 A, .int .i64 B, .int .i64 C] 28)).alloc (.cells #[.int .i64 a, .int .i64 b, .int .i64 c, .int .i64 d, .int .i64 x, .int .i64 y] 69)) := (Km.at (w.heap.size + 1) (by simp))
   have B0 : Below w.heap.size w ((w.alloc (.cells #[.int .i64 A, .int .i64 B, .int .i64 C] 28)).alloc (.cells #[.int .i64 a, .int .i64 b, .int .i64 c, .int .i64 d, .int .i64 x, .int .i64 y] 69)) := (Below.alloc (Below.alloc (Below.refl _ _) (by first | with_reducible exact Nat.le_refl _ | (simp <;> omega)) _) (by first | with_reducible exact Nat.le_refl _ | (simp <;> omega)) _)
   go_enter Tryz.func96, Tryz.ntmps96
   have L0c0 := L0.c0
   have L0c1 := L0.c1
   have L0c2 := L0.c2
   have L0l := L0.1
   have M0c0 := M0.c0
   have M0c1 := M0.c1
   have M0c2 := M0.c2
   have M0c3 := M0.c3
   have M0c4 := M0.c4
   have M0c5 := M0.c5
   have M0l := M0.1
   go_wp2_with fail
   refine (HIP.out _).mono ?_
   rintro e w1 ⟨rfl, hb1⟩
   rw [HX.out.1, HX.out.2]
   have L1 : Kt (w.heap.size) A B C w1 := Kt.call L0 hb1
   have M1 : Km (w.heap.size + 1) a b c d x y w1 := Km.call M0 hb1
   have B1 : Below w.heap.size w w1 := bstep B0 hb1
   clear hb1 B0 L0 M0
   have L1c0 := L1.c0
   have L1c1 := L1.c1
   have L1c2 := L1.c2
   have L1l := L1.1
   have L1n : ¬ w.heap.size = w1.heap.size := by omega
   have M1c0 := M1.c0
   have M1c1 := M1.c1
   have M1c2 := M1.c2
   have M1c3 := M1.c3
   have M1c4 := M1.c4
   have M1c5 := M1.c5
   have M1l := M1.1
   have M1n : ¬ w.heap.size + 1 = w1.heap.size := by omega
   go_wp2_with fail
   refine (HCN.out _).mono ?_
   rintro e w2 ⟨rfl, hb2⟩
   rw [HC.out]
   have L2 : Kt (w.heap.size) A B C w2 := Kt.call (L1.alloc _) hb2
   have M2 : Km (w.heap.size + 1) a b c d x y w2 := Km.call (M1.alloc _) hb2
   have S2 : KV (w1.heap.size) X Y w2 := (KV.at (w1.heap.size) (by first | rfl | simp) : KV (w1.heap.size) X Y _).call hb2
   have B2 : Below w.heap.size w w2 := bstep (Below.alloc B1 (by have := B1.size; first | omega | (simp <;> omega)) _) hb2
   clear hb2 B1 L1 M1
   have M2c0 := M2.c0
   have M2c1 := M2.c1
   have M2c2 := M2.c2
   have M2c3 := M2.c3
   have M2c4 := M2.c4
   have M2c5 := M2.c5
   have M2l := M2.1
   have M2n : ¬ w.heap.size + 1 = w2.heap.size := by omega
   have S2c0 := S2.c0
   have S2c1 := S2.c1
   have S2f0 := S2.f0
   have S2f1 := S2.f1
   have S2l := S2.lt
   have S2n : ¬ w1.heap.size = w2.heap.size := by omega
   go_wp2_with fail
   refine (HSC.out _).mono ?_
   rintro e w3 ⟨rfl, hb3⟩
   have L3 : Kt (w.heap.size) A B C w3 := Kt.call L2 hb3
   have M3 : Km (w.heap.size + 1) a b c d x y w3 := Km.call M2 hb3
   have S3 : KV (w1.heap.size) X Y w3 := KV.call S2 hb3
   have B3 : Below w.heap.size w w3 := bstep B2 hb3
   clear hb3 B2 L2 M2 S2
   have M3c0 := M3.c0
   have M3c1 := M3.c1
   have M3c2 := M3.c2
   have M3c3 := M3.c3
   have M3c4 := M3.c4
   have M3c5 := M3.c5
   have M3l := M3.1
   have M3n : ¬ w.heap.size + 1 = w3.heap.size := by omega
   have S3c0 := S3.c0
   have S3c1 := S3.c1
   have S3f0 := S3.f0
   have S3f1 := S3.f1
   have S3l := S3.lt
   have S3n : ¬ w1.heap.size = w3.heap.size := by omega
   go_wp2_with fail
   refine (HTW.out _).mono ?_
   rintro e w4 ⟨rfl, hb4⟩
   have L4 : Kt (w.heap.size) A B C w4 := Kt.call (show Kt (w.heap.size) A B C _ from by exact pkFaM0) hb4
   have M4 : Km (w.heap.size + 1) a b c d x y w4 := Km.call (show Km (w.heap.size + 1) a b c d x y _ from by exact pkFaM0) hb4
   have S4 : KV (w1.heap.size) (X * 2) (Y * 2) w4 := KV.call (KV.store5 S3 _ _) hb4
   have B4 : Below w.heap.size w w4 := bstep (by exact pkFaM2) hb4
   clear hb4 B3 L3 M3 S3
   have S4c0 := S4.c0
   have S4c1 := S4.c1
   have S4f0 := S4.f0
   have S4f1 := S4.f1
   have S4l := S4.lt
   have S4n : ¬ w1.heap.size = w4.heap.size := by omega
   go_wp2_with fail
   refine (HD1.out _).mono ?_
   rintro e w5 ⟨rfl, hb5⟩
   rw [HG1.out]
   have L5 : Kt (w.heap.size) A B C w5 := Kt.call (L4.alloc _) hb5
   have M5 : Km (w.heap.size + 1) a b c d x y w5 := Km.call (M4.alloc _) hb5
   have S5 : KV (w1.heap.size) (X * 2) (Y * 2) w5 := KV.call (S4.alloc _) hb5
   have T5 : Kg (w4.heap.size) tx ty w5 := (Kg.at2 (w4.heap.size) (by first | rfl | simp) : Kg (w4.heap.size) tx ty _).call hb5
   have B5 : Below w.heap.size w w5 := bstep (Below.alloc B4 (by have := B4.size; first | omega | (simp <;> omega)) _) hb5
   clear hb5 B4 L4 M4 S4
   have T5c0 := T5.c0
   have T5c1 := T5.c1
   have T5l := T5.1
   have T5n : ¬ w4.heap.size = w5.heap.size := by omega
   go_wp2_with fail
   refine (HD2.out _).mono ?_
   rintro e w6 ⟨rfl, hb6⟩
   have L6 : Kt (w.heap.size) A B C w6 := Kt.call L5 hb6
   have M6 : Km (w.heap.size + 1) a b c d x y w6 := Km.call M5 hb6
   have S6 : KV (w1.heap.size) (X * 2) (Y * 2) w6 := KV.call S5 hb6
   have T6 : Kg (w4.heap.size) tx ty w6 := Kg.call T5 hb6
   have B6 : Below w.heap.size w w6 := bstep B5 hb6
   clear hb6 B5 L5 M5 S5 T5
   go_wp2_with fail
   refine (HMO.out _).mono ?_
   rintro e w7 ⟨rfl, hb7⟩
   have L7 : Kt (w.heap.size) A B C w7 := Kt.call L6 hb7
   have M7 : Km (w.heap.size + 1) a b c d x y w7 := Km.call M6 hb7
   have S7 : KV (w1.heap.size) (X * 2) (Y * 2) w7 := KV.call S6 hb7
   have T7 : Kg (w4.heap.size) tx ty w7 := Kg.call T6 hb7
   have B7 : Below w.heap.size w w7 := bstep B6 hb7
   clear hb7 B6 L6 M6 S6 T6
   go_wp2
   go_ret
   refine ⟨ret_bool EA.out, ?_⟩
   exact pkFaM2
  ·have HC := Lib.hid hc
   rw [hc] at hE
   have g1 : X = g * p := by rw [hX, hE]; simp only [cond_true]; grind
   have g2 : Y = g * q := by rw [hY, hE]; simp only [cond_true]; grind
   have HD1 := Lib.hid (fun W => divisor2_any X Y W (by omega) (by omega) (by omega) (by omega))
   have HG1 := Lib.hid (show gcdI X Y = g from by rw [g1, g2]; exact hgg)
   clear hb hk hX hY b1 b2 hG hM hE hone hg hgg bv t1 t2 hgb hc g1 g2 hl hf hkk hst hm hs hok hr hvv hax htx hty
   have L0 : Kt (w.heap.size) A B C ((w.alloc (.cells #[.int .i64 A, .int .i64 B, .int .i64 C] 28)).alloc (.cells #[.int .i64 a, .int .i64 b, .int .i64 c, .int .i64 d, .int .i64 x, .int .i64 y] 69)) := ((Kt.at (w.heap.size) rfl).alloc _)
   have M0 : Km (w.heap.size + 1) a b c d x y ((w.alloc (.cells #[.int .i64 A, .int .i64 B, .int .i64 C] 28)).alloc (.cells #[.int .i64 a, .int .i64 b, .int .i64 c, .int .i64 d, .int .i64 x, .int .i64 y] 69)) := (Km.at (w.heap.size + 1) (by simp))
   have B0 : Below w.heap.size w ((w.alloc (.cells #[.int .i64 A, .int .i64 B, .int .i64 C] 28)).alloc (.cells #[.int .i64 a, .int .i64 b, .int .i64 c, .int .i64 d, .int .i64 x, .int .i64 y] 69)) := (Below.alloc (Below.alloc (Below.refl _ _) (by first | with_reducible exact Nat.le_refl _ | (simp <;> omega)) _) (by first | with_reducible exact Nat.le_refl _ | (simp <;> omega)) _)
   go_enter Tryz.func96, Tryz.ntmps96
   have L0c0 := L0.c0
   have L0c1 := L0.c1
   have L0c2 := L0.c2
   have L0l := L0.1
   have M0c0 := M0.c0
   have M0c1 := M0.c1
   have M0c2 := M0.c2
   have M0c3 := M0.c3
   have M0c4 := M0.c4
   have M0c5 := M0.c5
   have M0l := M0.1
   go_wp2_with fail
   refine (HIP.out _).mono ?_
   rintro e w1 ⟨rfl, hb1⟩
   rw [HX.out.1, HX.out.2]
   have L1 : Kt (w.heap.size) A B C w1 := Kt.call L0 hb1
   have M1 : Km (w.heap.size + 1) a b c d x y w1 := Km.call M0 hb1
   have B1 : Below w.heap.size w w1 := bstep B0 hb1
   clear hb1 B0 L0 M0
   have L1c0 := L1.c0
   have L1c1 := L1.c1
   have L1c2 := L1.c2
   have L1l := L1.1
   have L1n : ¬ w.heap.size = w1.heap.size := by omega
   have M1c0 := M1.c0
   have M1c1 := M1.c1
   have M1c2 := M1.c2
   have M1c3 := M1.c3
   have M1c4 := M1.c4
   have M1c5 := M1.c5
   have M1l := M1.1
   have M1n : ¬ w.heap.size + 1 = w1.heap.size := by omega
   go_wp2_with fail
   refine (HCN.out _).mono ?_
   rintro e w2 ⟨rfl, hb2⟩
   rw [HC.out]
   have L2 : Kt (w.heap.size) A B C w2 := Kt.call (L1.alloc _) hb2
   have M2 : Km (w.heap.size + 1) a b c d x y w2 := Km.call (M1.alloc _) hb2
   have S2 : KV (w1.heap.size) X Y w2 := (KV.at (w1.heap.size) (by first | rfl | simp) : KV (w1.heap.size) X Y _).call hb2
   have B2 : Below w.heap.size w w2 := bstep (Below.alloc B1 (by have := B1.size; first | omega | (simp <;> omega)) _) hb2
   clear hb2 B1 L1 M1
   have M2c0 := M2.c0
   have M2c1 := M2.c1
   have M2c2 := M2.c2
   have M2c3 := M2.c3
   have M2c4 := M2.c4
   have M2c5 := M2.c5
   have M2l := M2.1
   have M2n : ¬ w.heap.size + 1 = w2.heap.size := by omega
   have S2c0 := S2.c0
   have S2c1 := S2.c1
   have S2f0 := S2.f0
   have S2f1 := S2.f1
   have S2l := S2.lt
   have S2n : ¬ w1.heap.size = w2.heap.size := by omega
   go_wp2_with fail
   refine (HTW.out _).mono ?_
   rintro e w3 ⟨rfl, hb3⟩
   have L3 : Kt (w.heap.size) A B C w3 := Kt.call L2 hb3
   have M3 : Km (w.heap.size + 1) a b c d x y w3 := Km.call M2 hb3
   have S3 : KV (w1.heap.size) X Y w3 := KV.call S2 hb3
   have B3 : Below w.heap.size w w3 := bstep B2 hb3
   clear hb3 B2 L2 M2 S2
   have S3c0 := S3.c0
   have S3c1 := S3.c1
   have S3f0 := S3.f0
   have S3f1 := S3.f1
   have S3l := S3.lt
   have S3n : ¬ w1.heap.size = w3.heap.size := by omega
   go_wp2_with fail
   refine (HD1.out _).mono ?_
   rintro e w4 ⟨rfl, hb4⟩
   rw [HG1.out]
   have L4 : Kt (w.heap.size) A B C w4 := Kt.call (L3.alloc _) hb4
   have M4 : Km (w.heap.size + 1) a b c d x y w4 := Km.call (M3.alloc _) hb4
   have S4 : KV (w1.heap.size) X Y w4 := KV.call (S3.alloc _) hb4
   have T4 : Kg (w3.heap.size) tx ty w4 := (Kg.at2 (w3.heap.size) (by first | rfl | simp) : Kg (w3.heap.size) tx ty _).call hb4
   have B4 : Below w.heap.size w w4 := bstep (Below.alloc B3 (by have := B3.size; first | omega | (simp <;> omega)) _) hb4
   clear hb4 B3 L3 M3 S3
   have T4c0 := T4.c0
   have T4c1 := T4.c1
   have T4l := T4.1
   have T4n : ¬ w3.heap.size = w4.heap.size := by omega
   go_wp2_with fail
   refine (HD2.out _).mono ?_
   rintro e w5 ⟨rfl, hb5⟩
   have L5 : Kt (w.heap.size) A B C w5 := Kt.call L4 hb5
   have M5 : Km (w.heap.size + 1) a b c d x y w5 := Km.call M4 hb5
   have S5 : KV (w1.heap.size) X Y w5 := KV.call S4 hb5
   have T5 : Kg (w3.heap.size) tx ty w5 := Kg.call T4 hb5
   have B5 : Below w.heap.size w w5 := bstep B4 hb5
   clear hb5 B4 L4 M4 S4 T4
   go_wp2_with fail
   refine (HMO.out _).mono ?_
   rintro e w6 ⟨rfl, hb6⟩
   have L6 : Kt (w.heap.size) A B C w6 := Kt.call L5 hb6
   have M6 : Km (w.heap.size + 1) a b c d x y w6 := Km.call M5 hb6
   have S6 : KV (w1.heap.size) X Y w6 := KV.call S5 hb6
   have T6 : Kg (w3.heap.size) tx ty w6 := Kg.call T5 hb6
   have B6 : Below w.heap.size w w6 := bstep B5 hb6
   clear hb6 B5 L5 M5 S5 T5
   go_wp2
   go_ret
   refine ⟨ret_bool EA.out, ?_⟩
   exact pkFaM2
end Go.Proofs.YtjjfomokecngoaaGreatDoor
