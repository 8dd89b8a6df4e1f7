/-
  Contracts of chapter 4: point matrices of a frame (IsPointMat) in the program and in the model; the walks of the exact laws of NormOf and IsPointMat. No condition.
-/
import Derived.Test.YtodkomaeljbhaaaFrK
import Derived.Deep.DeepCutAuto
namespace Go.Proofs.Ytodkomaeljbhaaa
open Go.RowKit
set_option linter.unusedSimpArgs false
set_option linter.unusedVariables false

set_option maxHeartbeats 4000000 in
theorem l01AddM_any (x y x' y' : Int) (w : World) (hx : midI (x + x')) (hy : midI (y + y')) :
    Calls Try.prog 73 #[.agg #[.int .i64 x, .int .i64 y], .agg #[.int .i64 x', .int .i64 y']] w fun e w' => e = .returned (.agg #[.int .i64 (x + x'), .int .i64 (y + y')]) ∧ Below w.heap.size w w' := by
  unfold midI at hx hy
  obtain ⟨_, _⟩ := hx
  obtain ⟨_, _⟩ := hy
  go_enter Try.func73, Try.ntmps73
  go_wp2
  refine bodyPost_ret (v := .agg #[.int .i64 (x + x'), .int .i64 (y + y')]) (by simp [results, Try.results73, go_sem]) rfl ⟨rfl, ?_⟩
  repeat (first | exact Below.refl _ _ | refine Below.setCell ?_ (by simp) _ | refine Below.alloc ?_ (by simp; try omega) _)
theorem keepB_1 {f a b c d : Int} (h : (nrmI f a c == 1) = false) : keepB f a b c d = false := by simp [keepB, h]
theorem keepB_2 {f a b c d : Int} (h : (nrmI f b d == 1) = false) : keepB f a b c d = false := by simp [keepB, h]
theorem keepB_3 {f a b c d : Int} (h : (nrmI f (a + b) (c + d) == 2 + f) = false) : keepB f a b c d = false := by simp only [keepB, h, Bool.and_false]
theorem keepB_4 {f a b c d : Int} (h0 : (nrmI f a c == 1) = true) (h1 : (nrmI f b d == 1) = true) (h : (nrmI f (a + b) (c + d) == 2 + f) = true) : keepB f a b c d = true := by simp only [keepB, h0, h1, h]; rfl
def MidKeep (w : World) (a b c d : Int) (s5 s6 : Value) (wx : World) : Prop :=
  ∃ g h : Nat, s5 = .pointer (some ⟨g, 0, none⟩) ∧ s6 = .pointer (some ⟨h, 0, none⟩) ∧ Kg g a c wx ∧ Kg h b d wx ∧ Below w.heap.size w wx
set_option maxHeartbeats 4000000 in
theorem l04Keeps_any (f a b c d : Int) (w : World) (hf : frB f = true) (h : limB a b c d = true) :
    Calls Try.prog 68 #[.int .i64 f, .agg #[.int .i64 a, .int .i64 b, .int .i64 c, .int .i64 d]] w fun e w' => e = .returned (.bool (keepB f a b c d)) ∧ Below w.heap.size w w' := by
  obtain ⟨⟨ma, mb, mc, md⟩, mab, mcd⟩ := lim_mid h
  have MA := Lib.hid ma
  have MB := Lib.hid mb
  have MC := Lib.hid mc
  have MD := Lib.hid md
  have MAB := Lib.hid mab
  have MCD := Lib.hid mcd
  have hf01 : 0 ≤ f ∧ f ≤ 1 := by rcases frB_iff.1 hf with rfl | rfl <;> omega
  obtain ⟨f0, f1⟩ := hf01
  clear ma mb mc md mab mcd h
  go_enter Try.func68, Try.ntmps68
  go_upto_region 1 with fail
  go_cut [5, 6] (fun s5 s6 wx => MidKeep w a b c d s5 s6 wx)
  case first =>
    go_region_held3 (fun W => W.cell? ⟨w.heap.size, 0, none⟩ = some (.int .i64 a) ∧ W.cell? ⟨w.heap.size, 1, none⟩ = some (.int .i64 b) ∧ W.cell? ⟨w.heap.size, 2, none⟩ = some (.int .i64 c) ∧ W.cell? ⟨w.heap.size, 3, none⟩ = some (.int .i64 d)) (simp [go_sem]) (fail)
    all_goals
      go_wp2_with fail
      go_meet
      refine ⟨_, _, rfl, rfl, ⟨by simp, by simp [go_sem], by simp [go_sem]⟩, ⟨by simp, by simp [go_sem], by simp [go_sem]⟩, ?_⟩
      repeat (first | exact Below.refl _ _ | refine Below.setCell ?_ (by first | omega | (simp <;> omega)) _ | refine Below.alloc ?_ (by first | omega | (simp <;> omega)) _ | refine bstep ?_ (by assumption) | refine Below.drew ?_)
  case rest =>
    obtain ⟨g, h, rfl, rfl, KA, KB, B0⟩ := hcut
    rcases h0 : (nrmI f a c == 1) with _ | _
    · have E := Lib.hid (keepB_1 (b := b) (d := d) h0)
      obtain ⟨i0, i1, i2⟩ := id KA
      go_wp2_with fail
      refine (l04Norm_any _ _ _ _ hf MA.out MC.out).mono ?_
      rintro e w1 ⟨rfl, hb1⟩
      have B1 := bstep B0 hb1
      go_wp2
      go_ret
      exact ⟨ret_bool E.out.symm, B1⟩
    rcases h1 : (nrmI f b d == 1) with _ | _
    · have E := Lib.hid (keepB_2 (a := a) (c := c) h1)
      obtain ⟨i0, i1, i2⟩ := id KA
      go_wp2_with fail
      refine (l04Norm_any _ _ _ _ hf MA.out MC.out).mono ?_
      rintro e w1 ⟨rfl, hb1⟩
      have B1 := bstep B0 hb1
      have K2 := KB.call hb1
      obtain ⟨k0, k1, k2⟩ := id K2
      clear hb1
      go_wp2_with fail
      refine (l04Norm_any _ _ _ _ hf MB.out MD.out).mono ?_
      rintro e w2 ⟨rfl, hb2⟩
      go_wp2
      go_ret
      exact ⟨ret_bool E.out.symm, bstep B1 hb2⟩
    have HN : ∀ q : Bool, (nrmI f (a + b) (c + d) == 2 + f) = q → keepB f a b c d = q := by
      intro q hq
      cases q
      · exact keepB_3 hq
      · exact keepB_4 h0 h1 hq
    have E := Lib.hid (HN _ rfl)
    have H2 := Lib.hid (show (nrmI f (a + b) (c + d) == 2 + f) = keepB f a b c d from (HN _ rfl).symm)
    clear HN
    obtain ⟨i0, i1, i2⟩ := id KA
    go_wp2_with fail
    refine (l04Norm_any _ _ _ _ hf MA.out MC.out).mono ?_
    rintro e w1 ⟨rfl, hb1⟩
    have B1 := bstep B0 hb1
    have K1 := KA.call hb1
    have K2 := KB.call hb1
    clear hb1 i0 i1 i2 KA KB B0
    obtain ⟨i0, i1, i2⟩ := id K1
    obtain ⟨k0, k1, k2⟩ := id K2
    go_wp2_with fail
    refine (l04Norm_any _ _ _ _ hf MB.out MD.out).mono ?_
    rintro e w2 ⟨rfl, hb2⟩
    have K3 := K1.call hb2
    have K4 := K2.call hb2
    have B2 := bstep B1 hb2
    clear hb2 i0 i1 i2 k0 k1 k2 K1 K2 B1
    obtain ⟨i0, i1, i2⟩ := id K3
    obtain ⟨k0, k1, k2⟩ := id K4
    go_wp2_with fail
    refine (l01AddM_any _ _ _ _ _ MAB.out MCD.out).mono ?_
    rintro e w3 ⟨rfl, hb3⟩
    have B3 := bstep B2 hb3
    clear hb3
    go_wp2_with fail
    refine (l04Norm_any _ _ _ _ hf MAB.out MCD.out).mono ?_
    rintro e w4 ⟨rfl, hb4⟩
    have B4 := bstep B3 hb4
    clear hb4
    go_wp2
    all_goals
      go_ret
      exact ⟨ret_bool (by first | exact H2.out | (rw [E.out]; simp_all) | simp_all), B4⟩
/- point matrices -/
def pmB (f a b c d : Int) : Bool := frB f && matB a b c d && keepB f a b c d
set_option maxHeartbeats 4000000 in
theorem implIsPoint_any (f a b c d : Int) (w : World) :
    Calls Try.prog 56 #[.int .i64 f, .agg #[.int .i64 a, .int .i64 b, .int .i64 c, .int .i64 d]] w fun e w' => e = .returned (.bool (pmB f a b c d)) ∧ Below w.heap.size w w' := by
  have B0 : Below w.heap.size w (w.alloc (.cells #[.int .i64 a, .int .i64 b, .int .i64 c, .int .i64 d] 30)) := (Below.refl _ _).alloc (Nat.le_refl _) _
  have K0 : Kq w.heap.size a b c d (w.alloc (.cells #[.int .i64 a, .int .i64 b, .int .i64 c, .int .i64 d] 30)) := Kq.at _ rfl
  rcases h : frB f with _ | _
  · have E := Lib.hid (show pmB f a b c d = false by simp [pmB, h])
    go_enter Try.func56, Try.ntmps56
    go_wp2_with fail
    refine (planeOf_no _ _ h).mono ?_
    rintro e w1 ⟨rfl, hb1⟩
    go_wp2
    go_ret
    exact ⟨ret_bool E.out.symm, bstep B0 hb1⟩
  rcases hm : matB a b c d with _ | _
  · have E := Lib.hid (show pmB f a b c d = false by simp [pmB, hm])
    go_enter Try.func56, Try.ntmps56
    go_wp2_with fail
    refine (planeOf_yes _ _ h).mono ?_
    rintro e w1 ⟨rfl, hb1⟩
    have K1 := K0.call hb1
    have B1 := bstep B0 hb1
    obtain ⟨k0, k1, k2, k3, k4⟩ := id K1
    go_wp2_with fail
    refine (implIsMat_any _ _ _ _ _).mono ?_
    rintro e w2 ⟨rfl, hb2⟩
    rw [hm]
    go_wp2
    go_ret
    exact ⟨ret_bool E.out.symm, bstep B1 hb2⟩
  · have E := Lib.hid (show pmB f a b c d = keepB f a b c d by simp [pmB, h, hm])
    have hl := matB_lim hm
    go_enter Try.func56, Try.ntmps56
    go_wp2_with fail
    refine (planeOf_yes _ _ h).mono ?_
    rintro e w1 ⟨rfl, hb1⟩
    have K1 := K0.call hb1
    have B1 := bstep B0 hb1
    obtain ⟨k0, k1, k2, k3, k4⟩ := id K1
    go_wp2_with fail
    refine (implIsMat_any _ _ _ _ _).mono ?_
    rintro e w2 ⟨rfl, hb2⟩
    rw [hm]
    have K2 := K1.call hb2
    have B2 := bstep B1 hb2
    clear k0 k1 k2 k3 k4
    obtain ⟨k0, k1, k2, k3, k4⟩ := id K2
    go_wp2_with fail
    refine (matrixOf_any _ _ _ _ _).mono ?_
    rintro e w3 ⟨rfl, hb3⟩
    have B3 := bstep B2 hb3
    go_wp2_with fail
    refine (keeps_any _ _ _ _ _ _ h hl).mono ?_
    rintro e w4 ⟨rfl, hb4⟩
    have B4 := bstep B3 hb4
    generalize keepB f a b c d = q at *
    go_wp2
    all_goals
      first
      | (go_ret; exact ⟨ret_bool (by rw [E.out]; simp_all), B4⟩)
      | (go_ret; exact ⟨ret_bool (by rw [E.out]), B4⟩)
set_option maxHeartbeats 4000000 in
theorem specIsPoint_any (f a b c d : Int) (w : World) :
    Calls Try.prog 44 #[.int .i64 f, .agg #[.int .i64 a, .int .i64 b, .int .i64 c, .int .i64 d]] w fun e w' => e = .returned (.bool (pmB f a b c d)) ∧ Below w.heap.size w w' := by
  have B0 : Below w.heap.size w (w.alloc (.cells #[.int .i64 a, .int .i64 b, .int .i64 c, .int .i64 d] 30)) := (Below.refl _ _).alloc (Nat.le_refl _) _
  have K0 : Kq w.heap.size a b c d (w.alloc (.cells #[.int .i64 a, .int .i64 b, .int .i64 c, .int .i64 d] 30)) := Kq.at _ rfl
  rcases h : frB f with _ | _
  · have E := Lib.hid (show pmB f a b c d = false by simp [pmB, h])
    go_enter Try.func44, Try.ntmps44
    go_wp2_with fail
    refine (specIsFrame_any _ _).mono ?_
    rintro e w1 ⟨rfl, rfl⟩
    rw [h]
    go_wp2
    go_ret
    exact ⟨ret_bool E.out.symm, B0⟩
  rcases hm : matB a b c d with _ | _
  · have E := Lib.hid (show pmB f a b c d = false by simp [pmB, hm])
    go_enter Try.func44, Try.ntmps44
    go_wp2_with fail
    refine (specIsFrame_any _ _).mono ?_
    rintro e w1 ⟨rfl, rfl⟩
    rw [h]
    go_wp2_with fail
    refine (specIsMat_any _ _ _ _ _).mono ?_
    rintro e w2 ⟨rfl, hb2⟩
    rw [hm]
    go_wp2
    go_ret
    exact ⟨ret_bool E.out.symm, bstep B0 hb2⟩
  · have E := Lib.hid (show pmB f a b c d = keepB f a b c d by simp [pmB, h, hm])
    have hl := matB_lim hm
    go_enter Try.func44, Try.ntmps44
    go_wp2_with fail
    refine (specIsFrame_any _ _).mono ?_
    rintro e w1 ⟨rfl, rfl⟩
    rw [h]
    go_wp2_with fail
    refine (specIsMat_any _ _ _ _ _).mono ?_
    rintro e w2 ⟨rfl, hb2⟩
    rw [hm]
    have K2 := K0.call hb2
    have B2 := bstep B0 hb2
    obtain ⟨k0, k1, k2, k3, k4⟩ := id K2
    go_wp2_with fail
    refine (l04Keeps_any _ _ _ _ _ _ h hl).mono ?_
    rintro e w4 ⟨rfl, hb4⟩
    have B4 := bstep B2 hb4
    generalize keepB f a b c d = q at *
    go_wp2
    all_goals
      first
      | (go_ret; exact ⟨ret_bool (by rw [E.out]; simp_all), B4⟩)
      | (go_ret; exact ⟨ret_bool (by rw [E.out]), B4⟩)
end Go.Proofs.Ytodkomaeljbhaaa
