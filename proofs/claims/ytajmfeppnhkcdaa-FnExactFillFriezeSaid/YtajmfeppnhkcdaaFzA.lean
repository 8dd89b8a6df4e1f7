/-
  The colour of a cell, in the program and in the model, and FriezeAt. Conditions: only the bounds that are stated.
-/
import Derived.Test.YtajmfeppnhkcdaaFzV
namespace Go.Proofs.Ytajmfeppnhkcdaa
open Go.RowKit
set_option linter.unusedSimpArgs false
set_option linter.unusedVariables false

set_option maxHeartbeats 1000000 in
theorem remainder_eq (a n : Int) (w : World) (ha : -100000 ≤ a ∧ a ≤ 100000) (hn : 1 ≤ n) (hn' : n ≤ 1000) :
    Calls Try.prog 77 #[.int .i64 a, .int .i64 n] w fun e w' => e = .returned (.int .i64 (a % n)) ∧ w = w' := by
  have HV := Lib.hid (mod_val a n hn)
  have h0 : ¬ n = 0 := by omega
  have h4 : (a.tmod n).natAbs < n.natAbs := tmod_lt a n h0
  have hw1 : IntKind.i64.wrap (a.tmod n) = a.tmod n := IntWalk.i64_in _ (by omega)
  go_enter Try.func77, Try.ntmps77
  go_wp2
  go_ret
  exact ⟨ret_int HV.out, rfl⟩
set_option maxHeartbeats 1000000 in
theorem l01Mod_eq (a n : Int) (w : World) (ha : -100000 ≤ a ∧ a ≤ 100000) (hn : 1 ≤ n) (hn' : n ≤ 1000) :
    Calls Try.prog 43 #[.int .i64 a, .int .i64 n] w fun e w' => e = .returned (.int .i64 (a % n)) ∧ w = w' := by
  have hv := mod_neg a n hn
  have h0 : ¬ n = 0 := by omega
  have h4 : (a.tmod n).natAbs < n.natAbs := tmod_lt a n h0
  have hw1 : IntKind.i64.wrap (a.tmod n) = a.tmod n := IntWalk.i64_in _ (by omega)
  have hw2 : IntKind.i64.wrap (a.tmod n + n) = a.tmod n + n := IntWalk.i64_in _ (by omega)
  by_cases hs : a.tmod n < 0
  · rw [if_pos hs] at hv
    have HV := Lib.hid hv
    clear hv
    go_enter Try.func43, Try.ntmps43
    go_wp2
    go_ret
    exact ⟨ret_int HV.out, rfl⟩
  · rw [if_neg hs] at hv
    have HV := Lib.hid hv
    clear hv
    go_enter Try.func43, Try.ntmps43
    go_wp2
    go_ret
    exact ⟨ret_int HV.out, rfl⟩
theorem IRow.drew {g N : Nat} {F : Nat → Int} {W : World} (h : IRow g N F W) : IRow g N F W.drew := h.call (Below.refl _ _).drew
theorem row_bd {y W : Int} (hy : 0 ≤ y ∧ y ≤ 6) (hw : 1 ≤ W ∧ W ≤ 24) : 0 ≤ y * W ∧ y * W ≤ 144 := by
  obtain ⟨p, rfl⟩ : ∃ p : Nat, y = (p : Int) := ⟨y.toNat, by omega⟩
  obtain ⟨q, rfl⟩ : ∃ q : Nat, W = (q : Int) := ⟨W.toNat, by omega⟩
  have h1 : p * q ≤ 6 * 24 := Nat.mul_le_mul (by omega) (by omega)
  have e : (p : Int) * (q : Int) = ((p * q : Nat) : Int) := by simp
  rw [e]; omega
theorem mod_bd {x W : Int} (hw : 1 ≤ W) : 0 ≤ x % W ∧ x % W < W := ⟨Int.emod_nonneg _ (by omega), Int.emod_lt_of_pos _ (by omega)⟩
set_option maxHeartbeats 4000000 in
theorem indexAt_any (a W : Int) (v : Value) (x y : Int) (w : World) (hx : -100000 ≤ x ∧ x ≤ 100000) (hy : 0 ≤ y ∧ y ≤ 6) (hw : 1 ≤ W ∧ W ≤ 24) :
    Calls Try.prog 55 #[.agg #[.int .i64 a, .int .i64 W, v], .int .i64 x, .int .i64 y] w fun e w' => e = .returned (.int .i64 (y * W + x % W)) ∧ Below w.heap.size w w' := by
  have hr := row_bd hy hw
  have hm := mod_bd (x := x) hw.1
  have HX := Lib.hid hx
  have HW := Lib.hid hw
  have hw1 : IntKind.i64.wrap (y * W) = y * W := IntWalk.i64_in _ (by omega)
  have hw2 : IntKind.i64.wrap (y * W + x % W) = y * W + x % W := IntWalk.i64_in _ (by omega)
  have K0 : Kf w.heap.size a W v (w.alloc (.cells #[.int .i64 a, .int .i64 W, v] 26)) := Kf.at _ rfl
  go_enter Try.func55, Try.ntmps55
  go_wp2_with fail
  go_region_held3 (fun W9 => (W9.cell? ⟨w.heap.size, 0, none⟩ = some (.int .i64 a) ∧ W9.cell? ⟨w.heap.size, 1, none⟩ = some (.int .i64 W) ∧ W9.cell? ⟨w.heap.size, 2, none⟩ = some v)) ((refine Kf.cells ?_) <;> repeat (first | with_reducible assumption | with_reducible refine Kf.drew ?_ | with_reducible refine Kf.alloc ?_ _ | with_reducible refine Kf.call ?_ (by with_reducible assumption)))
    ((go_at_call 77; with_reducible refine (remainder_eq _ _ _ HX.out HW.out.1 (by have := HW.out; omega)).mono ?_; rintro e w' ⟨rfl, rfl⟩))
  all_goals
    go_wp2
    go_ret
    exact ⟨rfl, by repeat (first | with_reducible assumption | with_reducible exact Below.refl _ _ | with_reducible refine Below.drew ?_ | with_reducible refine Below.alloc ?_ (by first | omega | (simp <;> omega)) _ | with_reducible refine bstep ?_ (by with_reducible assumption))⟩
theorem cell_bd {h w n : Nat} {F : Nat → Int} (p : FriI h w n F) {x y : Int} (hy : 0 ≤ y ∧ y < (h : Int)) : ∃ k : Nat, (k : Int) = y * (w : Int) + x % (w : Int) ∧ k < n := by
  obtain ⟨q, rfl⟩ : ∃ q : Nat, y = (q : Int) := ⟨y.toNat, by omega⟩
  have hw := p.w1
  have hm := mod_bd (x := x) (W := (w : Int)) (by omega)
  obtain ⟨r, hr⟩ : ∃ r : Nat, x % (w : Int) = (r : Int) := ⟨(x % (w : Int)).toNat, by omega⟩
  rw [hr]
  refine ⟨q * w + r, by simp, ?_⟩
  rw [p.nn]
  exact row_lt (by omega) (by omega)
/- the cell of a column and a row -/
def cel (w : Nat) (x y : Int) : Nat := (y * (w : Int) + x % (w : Int)).toNat
theorem cel_of {h w n : Nat} {F : Nat → Int} (p : FriI h w n F) {x y : Int} (hy : 0 ≤ y ∧ y < (h : Int)) : ((cel w x y : Nat) : Int) = y * (w : Int) + x % (w : Int) ∧ cel w x y < n := by
  obtain ⟨k, hk, hn⟩ := cell_bd p hy (x := x)
  unfold cel
  omega
theorem SRow.irow {lo hi K n : Nat} {v : Value} {F : Nat → Int} {W : World} (h : SRow lo hi K v n F W) (hn : 1 ≤ n) : ∃ g cap, v = .slice (some ⟨g, 0, none⟩) n cap ∧ g < hi ∧ lo ≤ g ∧ IRow g (n * K) F W := by
  obtain ⟨g, cap, e, h1, h2, r⟩ := h.2.2.resolve_left (fun h => by omega)
  exact ⟨g, cap, e, h2, h1, r⟩
set_option maxHeartbeats 4000000 in
theorem l08At_any {lo hi h w n : Nat} {v : Value} {F : Nat → Int} {W : World} (p : FriI h w n F) (hv : SRow lo hi 1 v n F W) (x y : Int) (hx : -100000 ≤ x ∧ x ≤ 100000) (hy : 0 ≤ y ∧ y < (h : Int)) :
    Calls Try.prog 57 #[.agg #[.int .i64 (h : Int), .int .i64 (w : Int), v], .int .i64 x, .int .i64 y] W fun e w' => e = .returned (.int .i64 (F (cel w x y))) ∧ Below W.heap.size W w' := by
  obtain ⟨hk, hkn⟩ := cel_of p hy (x := x)
  have h6 := p.h6
  have w1 := p.w1
  have w24 := p.w24
  have n144 := p.n144
  have hr := row_bd (y := y) (W := (w : Int)) (by omega) (by omega)
  have hm := mod_bd (x := x) (W := (w : Int)) (by omega)
  have HX := Lib.hid hx
  obtain ⟨g, cap, rfl, hg, _, r⟩ := hv.irow p.n1
  have hgs := hv.1
  have c0 := r.at (cel w x y) (by omega)
  have hw1 : IntKind.i64.wrap (y * (w : Int)) = y * (w : Int) := IntWalk.i64_in _ (by omega)
  have hw2 : IntKind.i64.wrap (y * (w : Int) + x % (w : Int)) = y * (w : Int) + x % (w : Int) := IntWalk.i64_in _ (by omega)
  have hi0 : (0 : Int) ≤ y * (w : Int) + x % (w : Int) := by omega
  have hi1 : y * (w : Int) + x % (w : Int) < (n : Int) := by omega
  unfold cel at *
  have hkn1 : (y * (w : Int) + x % (w : Int)).toNat < n * 1 := by omega
  have hg2 : g < W.heap.size := by omega
  have HW := Lib.hid (show (1 : Int) ≤ (w : Int) ∧ (w : Int) ≤ 1000 by omega)
  have K0 : Kf W.heap.size (h : Int) (w : Int) (.slice (some ⟨g, 0, none⟩) n cap) (W.alloc (.cells #[.int .i64 (h : Int), .int .i64 (w : Int), .slice (some ⟨g, 0, none⟩) n cap] 26)) := Kf.at _ rfl
  have I0 : IRow g (n * 1) F (W.alloc (.cells #[.int .i64 (h : Int), .int .i64 (w : Int), .slice (some ⟨g, 0, none⟩) n cap] 26)) := r.call ((Below.refl _ _).alloc (Nat.le_refl _) _)
  clear r hv p
  go_enter Try.func57, Try.ntmps57
  go_wp2_with fail
  go_region_held3 (fun W9 => (W9.cell? ⟨W.heap.size, 0, none⟩ = some (.int .i64 (h : Int)) ∧ W9.cell? ⟨W.heap.size, 1, none⟩ = some (.int .i64 (w : Int)) ∧ W9.cell? ⟨W.heap.size, 2, none⟩ = some (.slice (some ⟨g, 0, none⟩) n cap)) ∧ W9.cell? ⟨g, (y * (w : Int) + x % (w : Int)).toNat, none⟩ = some (.int .i64 (F (y * (w : Int) + x % (w : Int)).toNat))) ((refine And.intro (Kf.cells ?_) (IRow.at (N := n * 1) ?_ _ hkn1)) <;> (repeat (first | with_reducible assumption | with_reducible refine Kf.drew ?_ | with_reducible refine IRow.drew ?_)))
    ((go_at_call 43; with_reducible refine (l01Mod_eq _ _ _ HX.out HW.out.1 HW.out.2).mono ?_; rintro e w' ⟨rfl, rfl⟩))
  all_goals
    go_wp2
    go_ret
    exact ⟨rfl, by repeat (first | with_reducible assumption | with_reducible exact Below.refl _ _ | with_reducible refine Below.drew ?_ | with_reducible refine Below.alloc ?_ (by first | omega | (simp <;> omega)) _ | with_reducible refine bstep ?_ (by with_reducible assumption))⟩
def fatA (a b : Int) (n : Nat) (F : Nat → Int) (x y : Int) : Int × Int :=
  if friB a b n F = true then (if inB x (-1000) 1000 = true ∧ 0 ≤ y ∧ y < a then (F (cel b.toNat x y), 0) else (0, 2)) else (0, 1)
theorem fatA_no {a b : Int} {n : Nat} {F : Nat → Int} {x y : Int} (h : friB a b n F = false) : fatA a b n F x y = (0, 1) := by simp [fatA, h]
theorem fatA_out {h w n : Nat} {F : Nat → Int} {x y : Int} (p : FriI h w n F) (hn : ¬ (inB x (-1000) 1000 = true ∧ 0 ≤ y ∧ y < (h : Int))) : fatA h w n F x y = (0, 2) := by
  unfold fatA; rw [if_pos p.b, if_neg hn]
theorem fatA_in {h w n : Nat} {F : Nat → Int} {x y : Int} (p : FriI h w n F) (hn : inB x (-1000) 1000 = true ∧ 0 ≤ y ∧ y < (h : Int)) : fatA h w n F x y = (F (cel w x y), 0) := by
  unfold fatA; rw [if_pos p.b, if_pos hn]; rfl
set_option maxHeartbeats 4000000 in
theorem specFat_any_no {lo hi n : Nat} {v : Value} {F : Nat → Int} {w : World} (a b : Int) (hv : SRow lo hi 1 v n F w) (x y : Int) (h : friB a b n F = false) :
    Calls Try.prog 25 #[.agg #[.int .i64 a, .int .i64 b, v], .int .i64 x, .int .i64 y] w fun e w' => e = .returned (.tuple #[.int .i64 0, .int .i64 1]) ∧ Below w.heap.size w w' := by
  have R := Lib.hid hv
  obtain ⟨ao, cap, rfl⟩ := hv.slice
  clear hv
  go_enter Try.func25, Try.ntmps25
  go_wp2_with (go_at_call 39; with_reducible refine (specIsFri_any a b (R.out.call ((Below.refl _ _).alloc (Nat.le_refl _) _))).mono ?_; rintro e w1 ⟨rfl, hb1⟩; rw [h])
  go_ret2
  exact ⟨rfl, bstep ((Below.refl _ _).alloc (Nat.le_refl _) _) hb1⟩
set_option maxHeartbeats 4000000 in
theorem implFat_any_no {lo hi n : Nat} {v : Value} {F : Nat → Int} {w : World} (a b : Int) (hv : SRow lo hi 1 v n F w) (x y : Int) (h : friB a b n F = false) :
    Calls Try.prog 24 #[.agg #[.int .i64 a, .int .i64 b, v], .int .i64 x, .int .i64 y] w fun e w' => e = .returned (.tuple #[.int .i64 0, .int .i64 1]) ∧ Below w.heap.size w w' := by
  have R := Lib.hid hv
  obtain ⟨ao, cap, rfl⟩ := hv.slice
  clear hv
  go_enter Try.func24, Try.ntmps24
  go_wp2_with (go_at_call 45; with_reducible refine (friValid_any a b (R.out.call ((Below.refl _ _).alloc (Nat.le_refl _) _))).mono ?_; rintro e w1 ⟨rfl, hb1⟩; rw [h])
  go_ret2
  exact ⟨rfl, bstep ((Below.refl _ _).alloc (Nat.le_refl _) _) hb1⟩
set_option maxHeartbeats 4000000 in
theorem specFat_yes {lo hi h w n : Nat} {v : Value} {F : Nat → Int} {W : World} (p : FriI h w n F) (hv : SRow lo hi 1 v n F W) (x y : Int) :
    Calls Try.prog 25 #[.agg #[.int .i64 (h : Int), .int .i64 (w : Int), v], .int .i64 x, .int .i64 y] W fun e w' => e = .returned (.tuple #[.int .i64 (fatA h w n F x y).1, .int .i64 (fatA h w n F x y).2]) ∧ Below W.heap.size W w' := by
  have R := Lib.hid hv
  have P := Lib.hid p
  have hb := p.b
  have h6 := p.h6
  have h1 := p.h1
  have hnn : 1 ≤ (h : Int) ∧ (h : Int) ≤ 6 := by omega
  obtain ⟨ao, cap, rfl⟩ := hv.slice
  clear hv p h6 h1
  rcases hx : inB x (-1000) 1000 with _ | _
  · rw [fatA_out P.out (by simp [hx])]
    go_enter Try.func25, Try.ntmps25
    go_wp2_with fail
    with_reducible refine (specIsFri_any h w (R.out.call ((Below.refl _ _).alloc (Nat.le_refl _) _))).mono ?_
    rintro e w1 ⟨rfl, hb1⟩
    rw [hb]
    have k1 := bcell hb1
    have z1 := lt_alloc hb1
    go_wp2_with (go_at_call 61; with_reducible refine (l01In_any _ _ _ _).mono ?_; rintro e w' ⟨rfl, rfl⟩)
    go_ret2
    exact ⟨rfl, bstep ((Below.refl _ _).alloc (Nat.le_refl _) _) hb1⟩
  rcases hy : inB y 0 ((h : Int) - 1) with _ | _
  · rw [fatA_out P.out (by simp [inB] at hy; omega)]
    go_enter Try.func25, Try.ntmps25
    go_wp2_with fail
    with_reducible refine (specIsFri_any h w (R.out.call ((Below.refl _ _).alloc (Nat.le_refl _) _))).mono ?_
    rintro e w1 ⟨rfl, hb1⟩
    rw [hb]
    have k1 := bcell hb1
    have z1 := lt_alloc hb1
    go_wp2_with (go_at_call 61; with_reducible refine (l01In_any _ _ _ _).mono ?_; rintro e w' ⟨rfl, rfl⟩)
    go_ret2
    exact ⟨rfl, bstep ((Below.refl _ _).alloc (Nat.le_refl _) _) hb1⟩
  · have hx2 := inB_bd hx
    have hy2 := inB_bd hy
    rw [fatA_in P.out ⟨hx, by omega, by omega⟩]
    have HX := Lib.hid (show -100000 ≤ x ∧ x ≤ 100000 by omega)
    have HY := Lib.hid (show 0 ≤ y ∧ y < (h : Int) by omega)
    clear hx2 hy2
    go_enter Try.func25, Try.ntmps25
    go_wp2_with fail
    with_reducible refine (specIsFri_any h w (R.out.call ((Below.refl _ _).alloc (Nat.le_refl _) _))).mono ?_
    rintro e w1 ⟨rfl, hb1⟩
    rw [hb]
    have R1 := Lib.hid (R.out.call (show Below W.heap.size W w1 from bstep ((Below.refl _ _).alloc (Nat.le_refl _) _) hb1))
    have B1 := Lib.hid (show Below W.heap.size W w1 from bstep ((Below.refl _ _).alloc (Nat.le_refl _) _) hb1)
    have k1 := bcell hb1
    have z1 := lt_alloc hb1
    go_wp2_with (first | (go_at_call 61; with_reducible refine (l01In_any _ _ _ _).mono ?_; rintro e w' ⟨rfl, rfl⟩) | (go_at_call 57; with_reducible refine (l08At_any P.out R1.out x y HX.out HY.out).mono ?_; rintro e w2 ⟨rfl, hb2⟩))
    go_ret2
    exact ⟨rfl, bstep B1.out hb2⟩
set_option maxHeartbeats 4000000 in
theorem implFat_yes {lo hi h w n : Nat} {v : Value} {F : Nat → Int} {W : World} (p : FriI h w n F) (hv : SRow lo hi 1 v n F W) (x y : Int) :
    Calls Try.prog 24 #[.agg #[.int .i64 (h : Int), .int .i64 (w : Int), v], .int .i64 x, .int .i64 y] W fun e w' => e = .returned (.tuple #[.int .i64 (fatA h w n F x y).1, .int .i64 (fatA h w n F x y).2]) ∧ Below W.heap.size W w' := by
  have R := Lib.hid hv
  have P := Lib.hid p
  have hb := p.b
  have h6 := p.h6
  have h1 := p.h1
  have hnn : 1 ≤ (h : Int) ∧ (h : Int) ≤ 6 := by omega
  obtain ⟨g, cap, rfl, hg, _, r⟩ := hv.irow p.n1
  have hgs := hv.1
  clear hv
  rcases hx : inB x (-1000) 1000 with _ | _
  · rw [fatA_out P.out (by simp [hx])]
    go_enter Try.func24, Try.ntmps24
    go_wp2_with fail
    with_reducible refine (friValid_any h w (R.out.call ((Below.refl _ _).alloc (Nat.le_refl _) _))).mono ?_
    rintro e w1 ⟨rfl, hb1⟩
    rw [hb]
    have k1 := bcell hb1
    have z1 := lt_alloc hb1
    go_wp2_with (go_at_call 60; with_reducible refine (isWithin_any _ _ _ (by omega) (by omega)).mono ?_; rintro e w' ⟨rfl, rfl⟩)
    go_ret2
    exact ⟨rfl, bstep ((Below.refl _ _).alloc (Nat.le_refl _) _) hb1⟩
  by_cases hy : 0 ≤ y ∧ y < (h : Int)
  · rw [fatA_in P.out ⟨hx, hy.1, hy.2⟩]
    have hx2 := inB_bd hx
    have HX := Lib.hid (show -100000 ≤ x ∧ x ≤ 100000 by omega)
    have HY := Lib.hid hy
    have w1' := p.w1
    have w24 := p.w24
    have HW := Lib.hid (show 1 ≤ (w : Int) ∧ (w : Int) ≤ 24 by omega)
    have HY6 := Lib.hid (show 0 ≤ y ∧ y ≤ 6 by omega)
    obtain ⟨hk, hkn⟩ := cel_of p hy (x := x)
    have hi0 : (0 : Int) ≤ y * (w : Int) + x % (w : Int) := by omega
    have hi1 : y * (w : Int) + x % (w : Int) < (n : Int) := by omega
    have hy1 := hy.1
    have hy2 := hy.2
    unfold cel at *
    have hkn1 : (y * (w : Int) + x % (w : Int)).toNat < n * 1 := by omega
    clear hx2 w1' w24 hy p
    go_enter Try.func24, Try.ntmps24
    go_wp2_with fail
    with_reducible refine (friValid_any h w (R.out.call ((Below.refl _ _).alloc (Nat.le_refl _) _))).mono ?_
    rintro e w1 ⟨rfl, hb1⟩
    rw [hb]
    have B1 := Lib.hid (show Below W.heap.size W w1 from bstep ((Below.refl _ _).alloc (Nat.le_refl _) _) hb1)
    have I1 := r.call B1.out
    have hg2 : g < w1.heap.size := I1.1
    have K1 : Kf W.heap.size (h : Int) (w : Int) (.slice (some ⟨g, 0, none⟩) n cap) w1 := Kf.call (Kf.at _ rfl) hb1
    have k0 := K1.c0
    have k1 := K1.c1
    have k2 := K1.c2
    have hl := K1.lt
    clear hb1 r
    go_wp2_with (go_at_call 60; with_reducible refine (isWithin_any _ _ _ (by omega) (by omega)).mono ?_; rintro e w' ⟨rfl, rfl⟩)
    go_region_held3 (fun W9 => (W9.cell? ⟨W.heap.size, 0, none⟩ = some (.int .i64 (h : Int)) ∧ W9.cell? ⟨W.heap.size, 1, none⟩ = some (.int .i64 (w : Int)) ∧ W9.cell? ⟨W.heap.size, 2, none⟩ = some (.slice (some ⟨g, 0, none⟩) n cap)) ∧ W9.cell? ⟨g, (y * (w : Int) + x % (w : Int)).toNat, none⟩ = some (.int .i64 (F (y * (w : Int) + x % (w : Int)).toNat))) ((refine And.intro (Kf.cells ?_) (IRow.at (N := n * 1) ?_ _ hkn1)) <;> (repeat (first | with_reducible assumption | with_reducible refine Kf.drew ?_ | with_reducible refine IRow.drew ?_ | with_reducible refine Kf.call ?_ (by with_reducible assumption) | with_reducible refine IRow.call ?_ (by with_reducible assumption))))
      ((go_at_call 55; with_reducible refine (indexAt_any _ _ _ _ _ _ HX.out HY6.out HW.out).mono ?_; rintro e w2 ⟨rfl, hb2⟩; have c2 : Below w1.heap.size w1 w2 := bstep (by repeat (first | with_reducible exact Below.refl _ _ | with_reducible refine Below.drew ?_)) hb2))
    all_goals
      go_wp2
      go_ret2
      exact ⟨rfl, bstep B1.out c2⟩
  · rw [fatA_out P.out (by omega)]
    have hy2 : y < 0 ∨ (h : Int) ≤ y := by omega
    go_enter Try.func24, Try.ntmps24
    go_wp2_with fail
    with_reducible refine (friValid_any h w (R.out.call ((Below.refl _ _).alloc (Nat.le_refl _) _))).mono ?_
    rintro e w1 ⟨rfl, hb1⟩
    rw [hb]
    have k1 := bcell hb1
    have z1 := lt_alloc hb1
    have B1 := Lib.hid (show Below W.heap.size W w1 from bstep ((Below.refl _ _).alloc (Nat.le_refl _) _) hb1)
    rcases hy2 with hy2 | hy2
    · go_wp2_with (go_at_call 60; with_reducible refine (isWithin_any _ _ _ (by omega) (by omega)).mono ?_; rintro e w' ⟨rfl, rfl⟩)
      go_ret2
      exact ⟨rfl, B1.out⟩
    · have hy3 : ¬ y < 0 := by omega
      go_wp2_with (go_at_call 60; with_reducible refine (isWithin_any _ _ _ (by omega) (by omega)).mono ?_; rintro e w' ⟨rfl, rfl⟩)
      go_ret2
      exact ⟨rfl, B1.out⟩
theorem specFat_all {lo hi n : Nat} {v : Value} {F : Nat → Int} {w : World} (a b : Int) (hv : SRow lo hi 1 v n F w) (x y : Int) :
    Calls Try.prog 25 #[.agg #[.int .i64 a, .int .i64 b, v], .int .i64 x, .int .i64 y] w fun e w' => (∃ p q : Int, fatA a b n F x y = (p, q) ∧ e = .returned (.tuple #[.int .i64 p, .int .i64 q])) ∧ Below w.heap.size w w' := by
  rcases hf : friB a b n F with _ | _
  · refine (specFat_any_no a b hv x y hf).mono ?_
    rintro e w' ⟨rfl, hb⟩
    exact ⟨⟨0, 1, fatA_no hf, rfl⟩, hb⟩
  · obtain ⟨h, k, rfl, rfl, p⟩ := friB_of hf
    refine (specFat_yes p hv x y).mono ?_
    rintro e w' ⟨rfl, hb⟩
    exact ⟨⟨_, _, rfl, rfl⟩, hb⟩
theorem implFat_all {lo hi n : Nat} {v : Value} {F : Nat → Int} {w : World} (a b : Int) (hv : SRow lo hi 1 v n F w) (x y : Int) :
    Calls Try.prog 24 #[.agg #[.int .i64 a, .int .i64 b, v], .int .i64 x, .int .i64 y] w fun e w' => (∃ p q : Int, fatA a b n F x y = (p, q) ∧ e = .returned (.tuple #[.int .i64 p, .int .i64 q])) ∧ Below w.heap.size w w' := by
  rcases hf : friB a b n F with _ | _
  · refine (implFat_any_no a b hv x y hf).mono ?_
    rintro e w' ⟨rfl, hb⟩
    exact ⟨⟨0, 1, fatA_no hf, rfl⟩, hb⟩
  · obtain ⟨h, k, rfl, rfl, p⟩ := friB_of hf
    refine (implFat_yes p hv x y).mono ?_
    rintro e w' ⟨rfl, hb⟩
    exact ⟨⟨_, _, rfl, rfl⟩, hb⟩
end Go.Proofs.Ytajmfeppnhkcdaa
