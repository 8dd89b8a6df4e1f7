/-
  Several of my texts in one: Ls6, Lt6, Sl6.
-/
import Derived.Test.YtkfeajjpbmbmpaaGreatDoorGh
import Derived.Test.YtkfeajjpbmbmpaaGreatDoorGc
import Derived.Deep.RegionHeld3
import Derived.IntWalk
import Derived.WalkSmall
namespace Go.Proofs.YtkfeajjpbmbmpaaGreatDoor
section
open Go.RowKit
set_option linter.unusedSimpArgs false
set_option linter.unusedVariables false

def eqT4 (a b c d a' b' c' d' : Int) : Bool := a == a' && (b == b' && (c == c' && (d == d')))
def lex4 (a b c d a' b' c' d' : Int) : Bool := decide (a < a' ∨ a = a' ∧ (b < b' ∨ b = b' ∧ (c < c' ∨ c = c' ∧ d < d')))
def lex2 (x y x' y' : Int) : Bool := decide (x < x' ∨ x = x' ∧ y < y')
theorem eqT4_iff (a b c d a' b' c' d' : Int) : eqT4 a b c d a' b' c' d' = true ↔ a = a' ∧ b = b' ∧ c = c' ∧ d = d' := by simp [eqT4]
theorem lt_no {a b c d x y a' b' c' d' x' y' : Int} (h : eqT4 a b c d a' b' c' d' = false) : lex4 a b c d a' b' c' d' = ltM (a, b, c, d, x, y) (a', b', c', d', x', y') := by
  have h2 : ¬ (a = a' ∧ b = b' ∧ c = c' ∧ d = d') := fun e => by rw [(eqT4_iff ..).2 e] at h; cases h
  unfold lex4 ltM
  rw [decide_eq_decide]
  dsimp only
  omega
theorem lt_yes {a b c d x y a' b' c' d' x' y' : Int} (h : eqT4 a b c d a' b' c' d' = true) : lex2 x y x' y' = ltM (a, b, c, d, x, y) (a', b', c', d', x', y') := by
  have h2 := (eqT4_iff ..).1 h
  unfold lex2 ltM
  rw [decide_eq_decide]
  dsimp only
  omega
set_option maxHeartbeats 4000000 in
theorem eqMa6 (a b c d a' b' c' d' : Int) (w : World) : (Op.equalIn 10000 27 (.agg #[.int .i64 a, .int .i64 b, .int .i64 c, .int .i64 d]) (.agg #[.int .i64 a', .int .i64 b', .int .i64 c', .int .i64 d'])).run Tryz.prog w = .ok (eqT4 a b c d a' b' c' d') w := by
  have hu := Tryz.underlying27
  rw [show (10000 : Nat) = 9999 + 1 from rfl, run_equalIn_struct _ _ _ _ _ (by simp only [Program.fieldsOf, hu]) (by kernel_rfl)]
  simp only [Program.fieldsOf, hu]
  have u3 := Tryz.underlying2
  have a3 := Tryz.isAgg2
  have z3 := Tryz.sizeOf2
  unfold eqT4
  rcases h1 : (a == a') with _ | _ <;> rcases h2 : (b == b') with _ | _ <;> rcases h3 : (c == c') with _ | _ <;> rcases h4 : (d == d') with _ | _ <;> go_simp <;> simp_all
attribute [local go_sem ↓] eqMa6
def eqT6 (a b c d x y a' b' c' d' x' y' : Int) : Bool := a == a' && (b == b' && (c == c' && (d == d' && (x == x' && (y == y')))))
theorem eqT6_dec (m n : M6) : eqT6 m.1 m.2.1 m.2.2.1 m.2.2.2.1 m.2.2.2.2.1 m.2.2.2.2.2 n.1 n.2.1 n.2.2.1 n.2.2.2.1 n.2.2.2.2.1 n.2.2.2.2.2 = decide (m = n) := by
  obtain ⟨a, b, c, d, x, y⟩ := m
  obtain ⟨a', b', c', d', x', y'⟩ := n
  rw [Bool.eq_iff_iff]
  simp [eqT6, Prod.mk.injEq]
set_option maxHeartbeats 4000000 in
theorem eqM6 (a b c d x y a' b' c' d' x' y' : Int) (w : World) : (Op.equalIn 10000 37 (.agg #[.int .i64 a, .int .i64 b, .int .i64 c, .int .i64 d, .int .i64 x, .int .i64 y]) (.agg #[.int .i64 a', .int .i64 b', .int .i64 c', .int .i64 d', .int .i64 x', .int .i64 y'])).run Tryz.prog w = .ok (eqT6 a b c d x y a' b' c' d' x' y') w := by
  have hu := Tryz.underlying37
  have hv := Tryz.underlying31
  have hm := Tryz.underlying27
  rw [show (10000 : Nat) = 9999 + 1 from rfl, run_equalIn_struct _ _ _ _ _ (by simp only [Program.fieldsOf, hu]) (by kernel_rfl)]
  simp only [Program.fieldsOf, hu]
  have u3 := Tryz.underlying2
  have a3 := Tryz.isAgg2
  have z3 := Tryz.sizeOf2
  unfold eqT6
  rcases ha : (a == a') with _ | _
  · go_simp <;> simp_all
  rcases hb : (b == b') with _ | _
  · go_simp <;> simp_all
  rcases hc : (c == c') with _ | _
  · go_simp <;> simp_all
  rcases hd : (d == d') with _ | _
  · go_simp <;> simp_all
  rcases hx : (x == x') with _ | _
  · go_simp <;> simp_all
  rcases hy : (y == y') with _ | _
  · go_simp <;> simp_all
  go_simp <;> simp_all
set_option maxHeartbeats 1000000 in
theorem l02Num6_any (a b c d : Int) (w : World) :
    Calls Tryz.prog 306 #[.agg #[.int .i64 a, .int .i64 b, .int .i64 c, .int .i64 d]] w fun e w' => e = .returned (.slice (some ⟨w.heap.size + 1, 0, none⟩) 4 4) ∧ Kq (w.heap.size + 1) a b c d w' ∧ Below w.heap.size w w' := by
  go_enter Tryz.func306, Tryz.ntmps306
  go_wp2
  go_ret
  refine ⟨rfl, Kq.at _ (by simp), ?_⟩
  repeat (first | exact Below.refl _ _ | refine Below.alloc ?_ (by first | omega | (simp <;> omega)) _)
theorem lex4_at {a b c d a' b' c' d' : Int} : lex4 a b c d a' b' c' d' = (if a ≠ a' then decide (a < a') else if b ≠ b' then decide (b < b') else if c ≠ c' then decide (c < c') else if d ≠ d' then decide (d < d') else false) := by
  unfold lex4
  rw [Bool.eq_iff_iff]
  split
  · simp only [decide_eq_true_eq]; omega
  · split
    · simp only [decide_eq_true_eq]; omega
    · split
      · simp only [decide_eq_true_eq]; omega
      · split
        · simp only [decide_eq_true_eq]; omega
        · simp only [decide_eq_true_eq]; simp; omega
set_option maxRecDepth 100000 in
set_option maxHeartbeats 4000000 in
theorem lessList_any (g g' : Nat) (a b c d a' b' c' d' : Int) (w : World) (h : Kq g a b c d w) (h' : Kq g' a' b' c' d' w) :
    Calls Tryz.prog 305 #[.slice (some ⟨g, 0, none⟩) 4 4, .slice (some ⟨g', 0, none⟩) 4 4] w fun e w' => e = .returned (.bool (lex4 a b c d a' b' c' d')) ∧ Below w.heap.size w w' := by
  have EA := Lib.hid (lex4_at (a := a) (b := b) (c := c) (d := d) (a' := a') (b' := b') (c' := c') (d' := d'))
  generalize lex4 a b c d a' b' c' d' = r at EA ⊢
  go_enter Tryz.func305, Tryz.ntmps305
  go_wp2_with fail
  go_loopw [5] (fun s3 W => ∃ k : Int, s3 = .int .i64 k ∧ (0 ≤ k ∧ k ≤ 4) ∧ (0 < k → a = a') ∧ (1 < k → b = b') ∧ (2 < k → c = c') ∧ (3 < k → d = d') ∧ Below w.heap.size w W) (fun s3 _ => (4 - intOf s3).toNat)
  case atStart => exact ⟨0, rfl, by omega, by omega, by omega, by omega, by omega, Below.refl _ _⟩
  case round =>
    obtain ⟨k, rfl, hk, e0, e1, e2, e3, hB⟩ := hrel
    have q := h.call hB
    have q' := h'.call hB
    obtain ⟨q0, q1, q2, q3, q4⟩ := id q
    obtain ⟨p0, p1, p2, p3, p4⟩ := id q'
    have zB := hB.size
    have hkk : k = 0 ∨ k = 1 ∨ k = 2 ∨ k = 3 ∨ k = 4 := by omega
    rcases hkk with rfl | rfl | rfl | rfl | rfl
    ·
      clear e0 e1 e2 e3
      by_cases hd : a = a'
      · have HD := Lib.hid hd
        have hd2 : (a == a') = true := by simp [hd]
        clear hd
        go_wp2_with fail
        go_quiet (fail)
        go_wp2
        go_roundw
        case rel => exact ⟨1, rfl, by omega, fun _ => HD.out, by omega, by omega, by omega, (by repeat (first | with_reducible assumption | with_reducible refine Below.drew ?_ | with_reducible refine below_drewN ?_ _))⟩
        case measure => first | (simp [intOf]; done) | (simp [intOf]; omega)
      · have HV : Hid (r = decide (a < a')) := Lib.hid (by have hE := EA.out; simpa [hd] using hE)
        have hd2 : (a == a') = false := by simp [hd]
        clear hd
        by_cases hl : a < a'
        · have HR := Lib.hid (show r = true by rw [HV.out]; exact decide_eq_true hl)
          go_wp2_with fail
          go_quiet (fail)
          go_wp2_with fail
          go_quiet (fail)
          go_wp2
          go_ret
          exact ⟨ret_bool HR.out.symm, by repeat (first | with_reducible assumption | with_reducible refine Below.drew ?_ | with_reducible refine below_drewN ?_ _)⟩
        · go_wp2_with fail
          go_quiet (fail)
          go_wp2_with fail
          go_quiet (fail)
          go_wp2
          go_ret
          exact ⟨ret_bool HV.out.symm, by repeat (first | with_reducible assumption | with_reducible refine Below.drew ?_ | with_reducible refine below_drewN ?_ _)⟩
    ·
      have E0 := Lib.hid (e0 (by omega))
      clear e0 e1 e2 e3
      by_cases hd : b = b'
      · have HD := Lib.hid hd
        have hd2 : (b == b') = true := by simp [hd]
        clear hd
        go_wp2_with fail
        go_quiet (fail)
        go_wp2
        go_roundw
        case rel => exact ⟨2, rfl, by omega, fun _ => E0.out, fun _ => HD.out, by omega, by omega, (by repeat (first | with_reducible assumption | with_reducible refine Below.drew ?_ | with_reducible refine below_drewN ?_ _))⟩
        case measure => first | (simp [intOf]; done) | (simp [intOf]; omega)
      · have HV : Hid (r = decide (b < b')) := Lib.hid (by have hE := EA.out; simpa [E0.out, hd] using hE)
        have hd2 : (b == b') = false := by simp [hd]
        clear hd
        by_cases hl : b < b'
        · have HR := Lib.hid (show r = true by rw [HV.out]; exact decide_eq_true hl)
          go_wp2_with fail
          go_quiet (fail)
          go_wp2_with fail
          go_quiet (fail)
          go_wp2
          go_ret
          exact ⟨ret_bool HR.out.symm, by repeat (first | with_reducible assumption | with_reducible refine Below.drew ?_ | with_reducible refine below_drewN ?_ _)⟩
        · go_wp2_with fail
          go_quiet (fail)
          go_wp2_with fail
          go_quiet (fail)
          go_wp2
          go_ret
          exact ⟨ret_bool HV.out.symm, by repeat (first | with_reducible assumption | with_reducible refine Below.drew ?_ | with_reducible refine below_drewN ?_ _)⟩
    ·
      have E0 := Lib.hid (e0 (by omega))
      have E1 := Lib.hid (e1 (by omega))
      clear e0 e1 e2 e3
      by_cases hd : c = c'
      · have HD := Lib.hid hd
        have hd2 : (c == c') = true := by simp [hd]
        clear hd
        go_wp2_with fail
        go_quiet (fail)
        go_wp2
        go_roundw
        case rel => exact ⟨3, rfl, by omega, fun _ => E0.out, fun _ => E1.out, fun _ => HD.out, by omega, (by repeat (first | with_reducible assumption | with_reducible refine Below.drew ?_ | with_reducible refine below_drewN ?_ _))⟩
        case measure => first | (simp [intOf]; done) | (simp [intOf]; omega)
      · have HV : Hid (r = decide (c < c')) := Lib.hid (by have hE := EA.out; simpa [E0.out, E1.out, hd] using hE)
        have hd2 : (c == c') = false := by simp [hd]
        clear hd
        by_cases hl : c < c'
        · have HR := Lib.hid (show r = true by rw [HV.out]; exact decide_eq_true hl)
          go_wp2_with fail
          go_quiet (fail)
          go_wp2_with fail
          go_quiet (fail)
          go_wp2
          go_ret
          exact ⟨ret_bool HR.out.symm, by repeat (first | with_reducible assumption | with_reducible refine Below.drew ?_ | with_reducible refine below_drewN ?_ _)⟩
        · go_wp2_with fail
          go_quiet (fail)
          go_wp2_with fail
          go_quiet (fail)
          go_wp2
          go_ret
          exact ⟨ret_bool HV.out.symm, by repeat (first | with_reducible assumption | with_reducible refine Below.drew ?_ | with_reducible refine below_drewN ?_ _)⟩
    ·
      have E0 := Lib.hid (e0 (by omega))
      have E1 := Lib.hid (e1 (by omega))
      have E2 := Lib.hid (e2 (by omega))
      clear e0 e1 e2 e3
      by_cases hd : d = d'
      · have HD := Lib.hid hd
        have hd2 : (d == d') = true := by simp [hd]
        clear hd
        go_wp2_with fail
        go_quiet (fail)
        go_wp2
        go_roundw
        case rel => exact ⟨4, rfl, by omega, fun _ => E0.out, fun _ => E1.out, fun _ => E2.out, fun _ => HD.out, (by repeat (first | with_reducible assumption | with_reducible refine Below.drew ?_ | with_reducible refine below_drewN ?_ _))⟩
        case measure => first | (simp [intOf]; done) | (simp [intOf]; omega)
      · have HV : Hid (r = decide (d < d')) := Lib.hid (by have hE := EA.out; simpa [E0.out, E1.out, E2.out, hd] using hE)
        have hd2 : (d == d') = false := by simp [hd]
        clear hd
        by_cases hl : d < d'
        · have HR := Lib.hid (show r = true by rw [HV.out]; exact decide_eq_true hl)
          go_wp2_with fail
          go_quiet (fail)
          go_wp2_with fail
          go_quiet (fail)
          go_wp2
          go_ret
          exact ⟨ret_bool HR.out.symm, by repeat (first | with_reducible assumption | with_reducible refine Below.drew ?_ | with_reducible refine below_drewN ?_ _)⟩
        · go_wp2_with fail
          go_quiet (fail)
          go_wp2_with fail
          go_quiet (fail)
          go_wp2
          go_ret
          exact ⟨ret_bool HV.out.symm, by repeat (first | with_reducible assumption | with_reducible refine Below.drew ?_ | with_reducible refine below_drewN ?_ _)⟩
    · have HR := Lib.hid (show r = false by have hE := EA.out; simpa [e0 (by omega), e1 (by omega), e2 (by omega), e3 (by omega)] using hE)
      clear e0 e1 e2 e3
      go_wp2
      go_ret
      exact ⟨ret_bool HR.out.symm, by repeat (first | with_reducible assumption | with_reducible refine Below.drew ?_ | with_reducible refine below_drewN ?_ _)⟩
set_option maxHeartbeats 1000000 in
theorem lex2_any (x y x' y' : Int) (w : World) :
    Calls Tryz.prog 258 #[.agg #[.int .i64 x, .int .i64 y], .agg #[.int .i64 x', .int .i64 y']] w fun e w' => e = .returned (.bool (lex2 x y x' y')) ∧ Below w.heap.size w w' := by
  by_cases h1 : x < x'
  · have EA := Lib.hid (show lex2 x y x' y' = true by simp [lex2, h1])
    go_enter Tryz.func258, Tryz.ntmps258
    go_wp2
    go_ret
    refine ⟨ret_bool EA.out.symm, ?_⟩
    repeat (first | exact Below.refl _ _ | refine Below.alloc ?_ (by first | omega | (simp <;> omega)) _)
  by_cases h2 : x = x'
  · have h2b : (x == x') = true := by simp [h2]
    by_cases h3 : y < y'
    · have EA := Lib.hid (show lex2 x y x' y' = true by simp [lex2, h1, h2, h3])
      clear h2
      go_enter Tryz.func258, Tryz.ntmps258
      go_wp2
      go_ret
      refine ⟨ret_bool EA.out.symm, ?_⟩
      repeat (first | exact Below.refl _ _ | refine Below.alloc ?_ (by first | omega | (simp <;> omega)) _)
    · have EA := Lib.hid (show lex2 x y x' y' = false by simp [lex2, h1, h3])
      clear h2
      go_enter Tryz.func258, Tryz.ntmps258
      go_wp2
      go_ret
      refine ⟨ret_bool EA.out.symm, ?_⟩
      repeat (first | exact Below.refl _ _ | refine Below.alloc ?_ (by first | omega | (simp <;> omega)) _)
  · have h2b : (x == x') = false := by simp [h2]
    have EA := Lib.hid (show lex2 x y x' y' = false by simp [lex2, h1, h2])
    clear h2
    go_enter Tryz.func258, Tryz.ntmps258
    go_wp2
    go_ret
    refine ⟨ret_bool EA.out.symm, ?_⟩
    repeat (first | exact Below.refl _ _ | refine Below.alloc ?_ (by first | omega | (simp <;> omega)) _)
set_option maxRecDepth 100000 in
set_option maxHeartbeats 2000000 in
theorem l06Unit_any (w : World) :
    Calls Tryz.prog 154 #[] w fun e w' => e = .returned (.agg #[.int .i64 1, .int .i64 0, .int .i64 0, .int .i64 1, .int .i64 0, .int .i64 0]) ∧ Below w.heap.size w w' := by
  have R0 : KM (w.heap.size) 0 0 0 0 0 0 (w.alloc (.cells #[.int .i64 0, .int .i64 0, .int .i64 0, .int .i64 0, .int .i64 0, .int .i64 0] 37)) := (KM.at (w.heap.size) rfl)
  have B0 : Below w.heap.size w (w.alloc (.cells #[.int .i64 0, .int .i64 0, .int .i64 0, .int .i64 0, .int .i64 0, .int .i64 0] 37)) := (Below.alloc (Below.refl _ _) (by first | with_reducible exact Nat.le_refl _ | (simp <;> omega)) _)
  go_enter Tryz.func154, Tryz.ntmps154
  have R0c0 := R0.c0
  have R0c1 := R0.c1
  have R0c2 := R0.c2
  have R0c3 := R0.c3
  have R0c4 := R0.c4
  have R0c5 := R0.c5
  have R0f0 := R0.f0
  have R0f1 := R0.f1
  have R0f2 := R0.f2
  have R0f3 := R0.f3
  have R0f4 := R0.f4
  have R0f5 := R0.f5
  have R0l := R0.lt
  go_wp2_with fail
  refine (l02Unit_any _).mono ?_
  rintro e w1 ⟨rfl, hb1⟩
  have R1 : KM (w.heap.size) 0 0 0 0 0 0 w1 := KM.call R0 hb1
  have B1 : Below w.heap.size w w1 := bstep B0 hb1
  clear hb1 B0 R0
  have R1c0 := R1.c0
  have R1c1 := R1.c1
  have R1c2 := R1.c2
  have R1c3 := R1.c3
  have R1c4 := R1.c4
  have R1c5 := R1.c5
  have R1f0 := R1.f0
  have R1f1 := R1.f1
  have R1f2 := R1.f2
  have R1f3 := R1.f3
  have R1f4 := R1.f4
  have R1f5 := R1.f5
  have R1l := R1.lt
  have R1n : ¬ w.heap.size = w1.heap.size := by omega
  go_wp2
  refine bodyPost_ret (v := .agg #[.int .i64 1, .int .i64 0, .int .i64 0, .int .i64 1, .int .i64 0, .int .i64 0]) (by simp [results, Tryz.results154, go_sem, *]) rfl ⟨rfl, ?_⟩
  repeat (first | with_reducible assumption | with_reducible exact Below.refl _ _ | with_reducible refine Below.setCell ?_ (by first | omega | (simp <;> omega)) _ | with_reducible refine Below.alloc ?_ (by first | omega | (simp <;> omega)) _ | with_reducible refine bstep ?_ (by with_reducible assumption) | with_reducible refine Below.drew ?_)
end
end Go.Proofs.YtkfeajjpbmbmpaaGreatDoor

namespace Go.Proofs.YtkfeajjpbmbmpaaGreatDoor
section
open Go.RowKit
set_option linter.unusedSimpArgs false
set_option linter.unusedVariables false

attribute [local go_sem ↓] eqMa6
theorem l02NumE_any (a b c d : Int) (w : World) :
    Calls Tryz.prog 306 #[.agg #[.int .i64 a, .int .i64 b, .int .i64 c, .int .i64 d]] w fun e w' => ∃ g : Nat, e = .returned (.slice (some ⟨g, 0, none⟩) 4 4) ∧ Kq g a b c d w' ∧ Below w.heap.size w w' :=
  (l02Num6_any a b c d w).mono fun e w' h => ⟨_, h⟩
set_option maxRecDepth 100000 in
set_option maxHeartbeats 4000000 in
theorem l02Less_any (a b c d a' b' c' d' : Int) (w : World) :
    Calls Tryz.prog 257 #[.agg #[.int .i64 a, .int .i64 b, .int .i64 c, .int .i64 d], .agg #[.int .i64 a', .int .i64 b', .int .i64 c', .int .i64 d']] w fun e w' => e = .returned (.bool (lex4 a b c d a' b' c' d')) ∧ Below w.heap.size w w' := by
  have CL := Lib.hid (fun g g' W h h' => lessList_any g g' a b c d a' b' c' d' W h h')
  generalize lex4 a b c d a' b' c' d' = r at CL ⊢
  have M0 : Kq (w.heap.size) a b c d ((w.alloc (.cells #[.int .i64 a, .int .i64 b, .int .i64 c, .int .i64 d] 27)).alloc (.cells #[.int .i64 a', .int .i64 b', .int .i64 c', .int .i64 d'] 27)) := ((Kq.at (w.heap.size) rfl).alloc _)
  have N0 : Kq (w.heap.size + 1) a' b' c' d' ((w.alloc (.cells #[.int .i64 a, .int .i64 b, .int .i64 c, .int .i64 d] 27)).alloc (.cells #[.int .i64 a', .int .i64 b', .int .i64 c', .int .i64 d'] 27)) := (Kq.at (w.heap.size + 1) (by simp))
  have B0 : Below w.heap.size w ((w.alloc (.cells #[.int .i64 a, .int .i64 b, .int .i64 c, .int .i64 d] 27)).alloc (.cells #[.int .i64 a', .int .i64 b', .int .i64 c', .int .i64 d'] 27)) := (Below.alloc (Below.alloc (Below.refl _ _) (by first | with_reducible exact Nat.le_refl _ | (simp <;> omega)) _) (by first | with_reducible exact Nat.le_refl _ | (simp <;> omega)) _)
  go_enter Tryz.func257, Tryz.ntmps257
  go_wp2_with fail
  refine wp_region_held_drew (S := (fun W => (W.cell? ⟨w.heap.size, 0, none⟩ = some (.int .i64 a) ∧ W.cell? ⟨w.heap.size, 1, none⟩ = some (.int .i64 b) ∧ W.cell? ⟨w.heap.size, 2, none⟩ = some (.int .i64 c) ∧ W.cell? ⟨w.heap.size, 3, none⟩ = some (.int .i64 d)) ∧ (W.cell? ⟨w.heap.size + 1, 0, none⟩ = some (.int .i64 a') ∧ W.cell? ⟨w.heap.size + 1, 1, none⟩ = some (.int .i64 b') ∧ W.cell? ⟨w.heap.size + 1, 2, none⟩ = some (.int .i64 c') ∧ W.cell? ⟨w.heap.size + 1, 3, none⟩ = some (.int .i64 d')))) (by kernel_rfl) ?_ (fun hHeld => ?_)
  · exact ⟨M0.cells, N0.cells⟩
  refine wpAnyH_take (i := 0) (v := ?_) (by (simp only [List.getElem?_toArray, List.getElem?_cons_succ, List.getElem?_cons_zero]); rfl) (by kernel_rfl) (by kernel_rfl) (by kernel_rfl) (by exact fun _ _ _ h => h) (Or.inl ⟨by rfl, ?_⟩) (by assumption) ?_
  rotate_left 1
  · (intro w hSw; (try dsimp only at hSw); go_simp) <;> with_reducible rfl
  (try simp only [Act.put, List.setIfInBounds_toArray, List.set_cons_zero, List.set_cons_succ])
  refine wpAnyH_take (i := 2) (v := ?_) (by (simp only [List.getElem?_toArray, List.getElem?_cons_succ, List.getElem?_cons_zero]); rfl) (by kernel_rfl) (by kernel_rfl) (by kernel_rfl) (by exact fun _ _ _ h => h) (Or.inl ⟨by rfl, ?_⟩) (by assumption) ?_
  rotate_left 1
  · (intro w hSw; (try dsimp only at hSw); go_simp) <;> with_reducible rfl
  (try simp only [Act.put, List.setIfInBounds_toArray, List.set_cons_zero, List.set_cons_succ])
  refine wpAnyH_ready (rs := [1]) (by kernel_rfl) (by simp) ?_
  refine AllReadyH.cons (o := _) (by (simp only [List.getElem?_toArray, List.getElem?_cons_succ, List.getElem?_cons_zero]); rfl) (fun K hK => ?_) AllReadyH.nil
  go_simp
  go_at_call 306
  refine (l02NumE_any a b c d _).mono ?_
  rintro e u1 ⟨g1, rfl, hq1, hb1⟩
  have M1 : Kq (w.heap.size) a b c d u1 := (by repeat (first | with_reducible assumption | with_reducible refine Kq.drew ?_ | with_reducible refine Kq.alloc ?_ _ | with_reducible refine Kq.call ?_ (by with_reducible assumption)))
  have N1 : Kq (w.heap.size + 1) a' b' c' d' u1 := (by repeat (first | with_reducible assumption | with_reducible refine Kq.drew ?_ | with_reducible refine Kq.alloc ?_ _ | with_reducible refine Kq.call ?_ (by with_reducible assumption)))
  have B1 : Below w.heap.size w u1 := (by repeat (first | with_reducible assumption | with_reducible refine Below.drew ?_ | with_reducible refine bstep ?_ (by with_reducible assumption)))
  clear hb1
  go_wp2_with fail
  refine hK.out _ _ ?_ (fun hHeld => ?_)
  · (try dsimp only)
    exact ⟨M1.cells, N1.cells⟩
  clear hK K
  (try simp only [Act.put, List.setIfInBounds_toArray, List.set_cons_zero, List.set_cons_succ])
  refine wpAnyH_ready (rs := [3]) (by kernel_rfl) (by simp) ?_
  refine AllReadyH.cons (o := _) (by (simp only [List.getElem?_toArray, List.getElem?_cons_succ, List.getElem?_cons_zero]); rfl) (fun K hK => ?_) AllReadyH.nil
  go_simp
  go_at_call 306
  refine (l02NumE_any a' b' c' d' _).mono ?_
  rintro e u2 ⟨g2, rfl, hq2, hb2⟩
  have M2 : Kq (w.heap.size) a b c d u2 := (by repeat (first | with_reducible assumption | with_reducible refine Kq.drew ?_ | with_reducible refine Kq.alloc ?_ _ | with_reducible refine Kq.call ?_ (by with_reducible assumption)))
  have N2 : Kq (w.heap.size + 1) a' b' c' d' u2 := (by repeat (first | with_reducible assumption | with_reducible refine Kq.drew ?_ | with_reducible refine Kq.alloc ?_ _ | with_reducible refine Kq.call ?_ (by with_reducible assumption)))
  have B2 : Below w.heap.size w u2 := (by repeat (first | with_reducible assumption | with_reducible refine Below.drew ?_ | with_reducible refine bstep ?_ (by with_reducible assumption)))
  have hq12 := hq1.call hb2
  clear hb2
  go_wp2_with fail
  refine hK.out _ _ ?_ (fun hHeld => ?_)
  · (try dsimp only)
    exact ⟨M2.cells, N2.cells⟩
  clear hK K
  (try simp only [Act.put, List.setIfInBounds_toArray, List.set_cons_zero, List.set_cons_succ])
  refine wpAnyH_ready (rs := [4]) (by kernel_rfl) (by simp) ?_
  refine AllReadyH.cons (o := _) (by (simp only [List.getElem?_toArray, List.getElem?_cons_succ, List.getElem?_cons_zero]); rfl) (fun K hK => ?_) AllReadyH.nil
  go_simp
  go_at_call 305
  refine (CL.out _ _ _ hq12 hq2).mono ?_
  rintro e u3 ⟨rfl, hb3⟩
  have M3 : Kq (w.heap.size) a b c d u3 := (by repeat (first | with_reducible assumption | with_reducible refine Kq.drew ?_ | with_reducible refine Kq.alloc ?_ _ | with_reducible refine Kq.call ?_ (by with_reducible assumption)))
  have N3 : Kq (w.heap.size + 1) a' b' c' d' u3 := (by repeat (first | with_reducible assumption | with_reducible refine Kq.drew ?_ | with_reducible refine Kq.alloc ?_ _ | with_reducible refine Kq.call ?_ (by with_reducible assumption)))
  have B3 : Below w.heap.size w u3 := (by repeat (first | with_reducible assumption | with_reducible refine Below.drew ?_ | with_reducible refine bstep ?_ (by with_reducible assumption)))
  clear hb3
  go_wp2_with fail
  refine hK.out _ _ ?_ (fun hHeld => ?_)
  · (try dsimp only)
    exact ⟨M3.cells, N3.cells⟩
  clear hK K
  (try simp only [Act.put, List.setIfInBounds_toArray, List.set_cons_zero, List.set_cons_succ])
  refine wpAnyH_take (i := 5) (v := ?_) (by (simp only [List.getElem?_toArray, List.getElem?_cons_succ, List.getElem?_cons_zero]); rfl) (by kernel_rfl) (by kernel_rfl) (by kernel_rfl) (by exact fun _ _ _ h => h) (Or.inl ⟨by rfl, ?_⟩) (by assumption) ?_
  rotate_left 1
  · (intro w hSw; (try dsimp only at hSw); go_simp) <;> with_reducible rfl
  (try simp only [Act.put, List.setIfInBounds_toArray, List.set_cons_zero, List.set_cons_succ])
  refine wpAnyH_done (by kernel_rfl) ?_ _
  go_wp2
  go_ret
  exact ⟨rfl, by repeat (first | with_reducible assumption | with_reducible exact Below.refl _ _ | with_reducible refine Below.setCell ?_ (by first | omega | (simp <;> omega)) _ | with_reducible refine Below.alloc ?_ (by first | omega | (simp <;> omega)) _ | with_reducible refine bstep ?_ (by with_reducible assumption) | with_reducible refine Below.drew ?_)⟩
set_option maxRecDepth 100000 in
set_option maxHeartbeats 4000000 in
theorem l05Less_any (a b c d x y a' b' c' d' x' y' : Int) (w : World) :
    Calls Tryz.prog 163 #[.agg #[.int .i64 a, .int .i64 b, .int .i64 c, .int .i64 d, .int .i64 x, .int .i64 y], .agg #[.int .i64 a', .int .i64 b', .int .i64 c', .int .i64 d', .int .i64 x', .int .i64 y']] w fun e w' => e = .returned (.bool (ltM (a, b, c, d, x, y) (a', b', c', d', x', y'))) ∧ Below w.heap.size w w' := by
  rcases he : eqT4 a b c d a' b' c' d' with _ | _
  · have hx := he
    have EA := Lib.hid (lt_no (x := x) (y := y) (x' := x') (y' := y') he)
    have M0 : Km (w.heap.size) a b c d x y ((w.alloc (.cells #[.int .i64 a, .int .i64 b, .int .i64 c, .int .i64 d, .int .i64 x, .int .i64 y] 37)).alloc (.cells #[.int .i64 a', .int .i64 b', .int .i64 c', .int .i64 d', .int .i64 x', .int .i64 y'] 37)) := ((Km.at (w.heap.size) rfl).alloc _)
    have N0 : Km (w.heap.size + 1) a' b' c' d' x' y' ((w.alloc (.cells #[.int .i64 a, .int .i64 b, .int .i64 c, .int .i64 d, .int .i64 x, .int .i64 y] 37)).alloc (.cells #[.int .i64 a', .int .i64 b', .int .i64 c', .int .i64 d', .int .i64 x', .int .i64 y'] 37)) := (Km.at (w.heap.size + 1) (by simp))
    have B0 : Below w.heap.size w ((w.alloc (.cells #[.int .i64 a, .int .i64 b, .int .i64 c, .int .i64 d, .int .i64 x, .int .i64 y] 37)).alloc (.cells #[.int .i64 a', .int .i64 b', .int .i64 c', .int .i64 d', .int .i64 x', .int .i64 y'] 37)) := (Below.alloc (Below.alloc (Below.refl _ _) (by first | with_reducible exact Nat.le_refl _ | (simp <;> omega)) _) (by first | with_reducible exact Nat.le_refl _ | (simp <;> omega)) _)
    go_enter Tryz.func163, Tryz.ntmps163
    have M0c0 := M0.c0
    have M0c1 := M0.c1
    have M0c2 := M0.c2
    have M0c3 := M0.c3
    have M0c4 := M0.c4
    have M0c5 := M0.c5
    have M0l := M0.1
    have N0c0 := N0.c0
    have N0c1 := N0.c1
    have N0c2 := N0.c2
    have N0c3 := N0.c3
    have N0c4 := N0.c4
    have N0c5 := N0.c5
    have N0l := N0.1
    go_wp2_with fail
    refine (l02Less_any _ _ _ _ _ _ _ _ _).mono ?_
    rintro e w1 ⟨rfl, hb1⟩
    have M1 : Km (w.heap.size) a b c d x y w1 := Km.call M0 hb1
    have N1 : Km (w.heap.size + 1) a' b' c' d' x' y' w1 := Km.call N0 hb1
    have B1 : Below w.heap.size w w1 := bstep B0 hb1
    clear hb1 B0 M0 N0
    go_wp2
    go_ret
    refine ⟨ret_bool EA.out, ?_⟩
    repeat (first | with_reducible assumption | with_reducible exact Below.refl _ _ | with_reducible refine Below.setCell ?_ (by first | omega | (simp <;> omega)) _ | with_reducible refine Below.alloc ?_ (by first | omega | (simp <;> omega)) _ | with_reducible refine bstep ?_ (by with_reducible assumption) | with_reducible refine Below.drew ?_)
  · have hx := he
    have EA := Lib.hid (lt_yes (x := x) (y := y) (x' := x') (y' := y') he)
    have M0 : Km (w.heap.size) a b c d x y ((w.alloc (.cells #[.int .i64 a, .int .i64 b, .int .i64 c, .int .i64 d, .int .i64 x, .int .i64 y] 37)).alloc (.cells #[.int .i64 a', .int .i64 b', .int .i64 c', .int .i64 d', .int .i64 x', .int .i64 y'] 37)) := ((Km.at (w.heap.size) rfl).alloc _)
    have N0 : Km (w.heap.size + 1) a' b' c' d' x' y' ((w.alloc (.cells #[.int .i64 a, .int .i64 b, .int .i64 c, .int .i64 d, .int .i64 x, .int .i64 y] 37)).alloc (.cells #[.int .i64 a', .int .i64 b', .int .i64 c', .int .i64 d', .int .i64 x', .int .i64 y'] 37)) := (Km.at (w.heap.size + 1) (by simp))
    have B0 : Below w.heap.size w ((w.alloc (.cells #[.int .i64 a, .int .i64 b, .int .i64 c, .int .i64 d, .int .i64 x, .int .i64 y] 37)).alloc (.cells #[.int .i64 a', .int .i64 b', .int .i64 c', .int .i64 d', .int .i64 x', .int .i64 y'] 37)) := (Below.alloc (Below.alloc (Below.refl _ _) (by first | with_reducible exact Nat.le_refl _ | (simp <;> omega)) _) (by first | with_reducible exact Nat.le_refl _ | (simp <;> omega)) _)
    go_enter Tryz.func163, Tryz.ntmps163
    have M0c0 := M0.c0
    have M0c1 := M0.c1
    have M0c2 := M0.c2
    have M0c3 := M0.c3
    have M0c4 := M0.c4
    have M0c5 := M0.c5
    have M0l := M0.1
    have N0c0 := N0.c0
    have N0c1 := N0.c1
    have N0c2 := N0.c2
    have N0c3 := N0.c3
    have N0c4 := N0.c4
    have N0c5 := N0.c5
    have N0l := N0.1
    go_wp2_with fail
    refine (lex2_any _ _ _ _ _).mono ?_
    rintro e w1 ⟨rfl, hb1⟩
    have M1 : Km (w.heap.size) a b c d x y w1 := Km.call M0 hb1
    have N1 : Km (w.heap.size + 1) a' b' c' d' x' y' w1 := Km.call N0 hb1
    have B1 : Below w.heap.size w w1 := bstep B0 hb1
    clear hb1 B0 M0 N0
    go_wp2
    go_ret
    refine ⟨ret_bool EA.out, ?_⟩
    repeat (first | with_reducible assumption | with_reducible exact Below.refl _ _ | with_reducible refine Below.setCell ?_ (by first | omega | (simp <;> omega)) _ | with_reducible refine Below.alloc ?_ (by first | omega | (simp <;> omega)) _ | with_reducible refine bstep ?_ (by with_reducible assumption) | with_reducible refine Below.drew ?_)
end
end Go.Proofs.YtkfeajjpbmbmpaaGreatDoor

namespace Go.Proofs.YtkfeajjpbmbmpaaGreatDoor
section
open Go.RowKit
set_option linter.unusedSimpArgs false
set_option linter.unusedVariables false

end
end Go.Proofs.YtkfeajjpbmbmpaaGreatDoor

