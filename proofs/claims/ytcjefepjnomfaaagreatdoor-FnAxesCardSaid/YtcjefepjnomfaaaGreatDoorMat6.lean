/-
  Contracts of chapter 2's AxisOf (the program's function and the model's have one and the same answer), and the walk of its exact law. No condition.
-/
import Derived.Test.YtcjefepjnomfaaaGreatDoorMat5
import Derived.Test.YtcjefepjnomfaaaGreatDoorMat3
namespace Go.Proofs.YtcjefepjnomfaaaGreatDoor
open Go.RowKit
set_option linter.unusedSimpArgs false
set_option linter.unusedVariables false

def axisR (a b c d : Int) : Int × Int × Int :=
  bif matB a b c d then (bif reflB a b c d then (bif vecB (axP a b c d).1 (axP a b c d).2 then ((axP a b c d).1, (axP a b c d).2, 0) else (0, 0, 3)) else (0, 0, 5)) else (0, 0, 1)

set_option maxHeartbeats 1000000 in
theorem specAxis_any (a b c d : Int) (w : World) :
    Calls Tryz.prog 7 #[.agg #[.int .i64 a, .int .i64 b, .int .i64 c, .int .i64 d]] w fun e w' => e = .returned (vecV (axisR a b c d)) ∧ Below w.heap.size w w' := by
  rcases hu : matB a b c d with _ | _
  · have ea : vecV (axisR a b c d) = .tuple #[.agg #[.int .i64 0, .int .i64 0], .int .i64 1] := by simp [vecV, axisR, hu]
    have EA := Lib.hid ea
    clear ea
    go_enter Tryz.func7, Tryz.ntmps7
    go_wp2_with fail
    refine (specIsMat_any _ _ _ _ _).mono ?_
    rintro e w1 ⟨rfl, hb1⟩
    obtain ⟨hc1, hf1⟩ := bcell hb1
    obtain ⟨hz1a, hz1b⟩ : w.heap.size < w1.heap.size ∧ w.heap.size + 1 < w1.heap.size := by have := hb1.size; (try simp at this); omega
    go_wp2
    refine bodyPost_ret (v := .tuple #[.agg #[.int .i64 0, .int .i64 0], .int .i64 1]) (by simp [results, Tryz.results7, go_sem, hc1, hz1a, hz1b]) rfl ⟨ret_val EA.out.symm, ?_⟩
    repeat (first | exact Below.refl _ _ | refine Below.setCell ?_ (by first | omega | (simp <;> omega)) _ | refine Below.alloc ?_ (by first | omega | (simp <;> omega)) _ | refine bstep ?_ (by assumption) | refine Below.drew ?_)
  have lu := matB_lim hu
  have hk := kind_refl hu
  rcases hr : reflB a b c d with _ | _
  · have ea : vecV (axisR a b c d) = .tuple #[.agg #[.int .i64 0, .int .i64 0], .int .i64 5] := by simp [vecV, axisR, hu, hr]
    rw [hr] at hk
    simp only [Bool.not_false] at hk
    have EA := Lib.hid ea
    clear ea
    go_enter Tryz.func7, Tryz.ntmps7
    go_wp2_with fail
    refine (specIsMat_any _ _ _ _ _).mono ?_
    rintro e w1 ⟨rfl, hb1⟩
    obtain ⟨hc1, hf1⟩ := bcell hb1
    obtain ⟨hz1a, hz1b⟩ : w.heap.size < w1.heap.size ∧ w.heap.size + 1 < w1.heap.size := by have := hb1.size; (try simp at this); omega
    go_wp2_with fail
    refine (l02Kind_any _ _ _ _ _ lu).mono ?_
    rintro e w2 ⟨rfl, hb2⟩
    obtain ⟨hc2, hf2⟩ := bcell hb2
    obtain ⟨hz2a, hz2b⟩ : w.heap.size < w2.heap.size ∧ w.heap.size + 1 < w2.heap.size := by have := hb2.size; (try simp at this); omega
    go_wp2
    refine bodyPost_ret (v := .tuple #[.agg #[.int .i64 0, .int .i64 0], .int .i64 5]) (by simp [results, Tryz.results7, go_sem, hc1, hz1a, hz1b, hc2, hz2a, hz2b]) rfl ⟨ret_val EA.out.symm, ?_⟩
    repeat (first | exact Below.refl _ _ | refine Below.setCell ?_ (by first | omega | (simp <;> omega)) _ | refine Below.alloc ?_ (by first | omega | (simp <;> omega)) _ | refine bstep ?_ (by assumption) | refine Below.drew ?_)
  rw [hr] at hk
  simp only [Bool.not_true] at hk
  rcases hs : vecB (axP a b c d).1 (axP a b c d).2 with _ | _
  · have ea : vecV (axisR a b c d) = .tuple #[.agg #[.int .i64 0, .int .i64 0], .int .i64 3] := by simp [vecV, axisR, hu, hr, hs]
    have EA := Lib.hid ea
    clear ea
    go_enter Tryz.func7, Tryz.ntmps7
    go_wp2_with fail
    refine (specIsMat_any _ _ _ _ _).mono ?_
    rintro e w1 ⟨rfl, hb1⟩
    obtain ⟨hc1, hf1⟩ := bcell hb1
    obtain ⟨hz1a, hz1b⟩ : w.heap.size < w1.heap.size ∧ w.heap.size + 1 < w1.heap.size := by have := hb1.size; (try simp at this); omega
    go_wp2_with fail
    refine (l02Kind_any _ _ _ _ _ lu).mono ?_
    rintro e w2 ⟨rfl, hb2⟩
    obtain ⟨hc2, hf2⟩ := bcell hb2
    obtain ⟨hz2a, hz2b⟩ : w.heap.size < w2.heap.size ∧ w.heap.size + 1 < w2.heap.size := by have := hb2.size; (try simp at this); omega
    go_wp2_with fail
    refine (l02Axis_any _ _ _ _ _ hu hr).mono ?_
    rintro e w3 ⟨he, hb3⟩
    unfold axVal at he
    subst he
    obtain ⟨hc3, hf3⟩ := bcell hb3
    obtain ⟨hz3a, hz3b⟩ : w.heap.size < w3.heap.size ∧ w.heap.size + 1 < w3.heap.size := by have := hb3.size; (try simp at this); omega
    go_wp2_with fail
    refine (l01Result_no _ _ _ hs).mono ?_
    rintro e w4 ⟨rfl, hb4⟩
    obtain ⟨hc4, hf4⟩ := bcell hb4
    obtain ⟨hz4a, hz4b⟩ : w.heap.size < w4.heap.size ∧ w.heap.size + 1 < w4.heap.size := by have := hb4.size; (try simp at this); omega
    go_wp2
    refine bodyPost_ret (v := .tuple #[.agg #[.int .i64 0, .int .i64 0], .int .i64 3]) (by simp [results, Tryz.results7, go_sem, hc1, hz1a, hz1b, hc2, hz2a, hz2b, hc3, hz3a, hz3b, hc4, hz4a, hz4b]) rfl ⟨ret_val EA.out.symm, ?_⟩
    repeat (first | exact Below.refl _ _ | refine Below.setCell ?_ (by first | omega | (simp <;> omega)) _ | refine Below.alloc ?_ (by first | omega | (simp <;> omega)) _ | refine bstep ?_ (by assumption) | refine Below.drew ?_)
  · have ea : vecV (axisR a b c d) = .tuple #[.agg #[.int .i64 ((axP a b c d).1), .int .i64 ((axP a b c d).2)], .int .i64 0] := by simp [vecV, axisR, hu, hr, hs]
    have EA := Lib.hid ea
    clear ea
    go_enter Tryz.func7, Tryz.ntmps7
    go_wp2_with fail
    refine (specIsMat_any _ _ _ _ _).mono ?_
    rintro e w1 ⟨rfl, hb1⟩
    obtain ⟨hc1, hf1⟩ := bcell hb1
    obtain ⟨hz1a, hz1b⟩ : w.heap.size < w1.heap.size ∧ w.heap.size + 1 < w1.heap.size := by have := hb1.size; (try simp at this); omega
    go_wp2_with fail
    refine (l02Kind_any _ _ _ _ _ lu).mono ?_
    rintro e w2 ⟨rfl, hb2⟩
    obtain ⟨hc2, hf2⟩ := bcell hb2
    obtain ⟨hz2a, hz2b⟩ : w.heap.size < w2.heap.size ∧ w.heap.size + 1 < w2.heap.size := by have := hb2.size; (try simp at this); omega
    go_wp2_with fail
    refine (l02Axis_any _ _ _ _ _ hu hr).mono ?_
    rintro e w3 ⟨he, hb3⟩
    unfold axVal at he
    subst he
    obtain ⟨hc3, hf3⟩ := bcell hb3
    obtain ⟨hz3a, hz3b⟩ : w.heap.size < w3.heap.size ∧ w.heap.size + 1 < w3.heap.size := by have := hb3.size; (try simp at this); omega
    go_wp2_with fail
    refine (l01Result_yes _ _ _ hs).mono ?_
    rintro e w4 ⟨rfl, hb4⟩
    obtain ⟨hc4, hf4⟩ := bcell hb4
    obtain ⟨hz4a, hz4b⟩ : w.heap.size < w4.heap.size ∧ w.heap.size + 1 < w4.heap.size := by have := hb4.size; (try simp at this); omega
    go_wp2
    refine bodyPost_ret (v := .tuple #[.agg #[.int .i64 ((axP a b c d).1), .int .i64 ((axP a b c d).2)], .int .i64 0]) (by simp [results, Tryz.results7, go_sem, hc1, hz1a, hz1b, hc2, hz2a, hz2b, hc3, hz3a, hz3b, hc4, hz4a, hz4b]) rfl ⟨ret_val EA.out.symm, ?_⟩
    repeat (first | exact Below.refl _ _ | refine Below.setCell ?_ (by first | omega | (simp <;> omega)) _ | refine Below.alloc ?_ (by first | omega | (simp <;> omega)) _ | refine bstep ?_ (by assumption) | refine Below.drew ?_)

set_option maxHeartbeats 1000000 in
theorem implAxis_any (a b c d : Int) (w : World) :
    Calls Tryz.prog 6 #[.agg #[.int .i64 a, .int .i64 b, .int .i64 c, .int .i64 d]] w fun e w' => e = .returned (vecV (axisR a b c d)) ∧ Below w.heap.size w w' := by
  rcases hu : matB a b c d with _ | _
  · have ea : vecV (axisR a b c d) = .tuple #[.agg #[.int .i64 0, .int .i64 0], .int .i64 1] := by simp [vecV, axisR, hu]
    have EA := Lib.hid ea
    clear ea
    go_enter Tryz.func6, Tryz.ntmps6
    go_wp2_with fail
    refine (implIsMat_any _ _ _ _ _).mono ?_
    rintro e w1 ⟨rfl, hb1⟩
    obtain ⟨hc1, hf1⟩ := bcell hb1
    obtain ⟨hz1a, hz1b⟩ : w.heap.size < w1.heap.size ∧ w.heap.size + 1 < w1.heap.size := by have := hb1.size; (try simp at this); omega
    go_wp2
    refine bodyPost_ret (v := .tuple #[.agg #[.int .i64 0, .int .i64 0], .int .i64 1]) (by simp [results, Tryz.results6, go_sem, hc1, hz1a, hz1b]) rfl ⟨ret_val EA.out.symm, ?_⟩
    repeat (first | exact Below.refl _ _ | refine Below.setCell ?_ (by first | omega | (simp <;> omega)) _ | refine Below.alloc ?_ (by first | omega | (simp <;> omega)) _ | refine bstep ?_ (by assumption) | refine Below.drew ?_)
  have lu := matB_lim hu
  have hk := kind_refl hu
  rcases hr : reflB a b c d with _ | _
  · have ea : vecV (axisR a b c d) = .tuple #[.agg #[.int .i64 0, .int .i64 0], .int .i64 5] := by simp [vecV, axisR, hu, hr]
    rw [hr] at hk
    simp only [Bool.not_false] at hk
    have EA := Lib.hid ea
    clear ea
    go_enter Tryz.func6, Tryz.ntmps6
    go_wp2_with fail
    refine (implIsMat_any _ _ _ _ _).mono ?_
    rintro e w1 ⟨rfl, hb1⟩
    obtain ⟨hc1, hf1⟩ := bcell hb1
    obtain ⟨hz1a, hz1b⟩ : w.heap.size < w1.heap.size ∧ w.heap.size + 1 < w1.heap.size := by have := hb1.size; (try simp at this); omega
    go_wp2_with fail
    refine (matrixOf_any _ _ _ _ _).mono ?_
    rintro e w2 ⟨rfl, hb2⟩
    obtain ⟨hc2, hf2⟩ := bcell hb2
    obtain ⟨hz2a, hz2b⟩ : w.heap.size < w2.heap.size ∧ w.heap.size + 1 < w2.heap.size := by have := hb2.size; (try simp at this); omega
    go_wp2_with fail
    refine (isReflection_any _ _ _ _ _ lu).mono ?_
    rintro e w3 ⟨rfl, hb3⟩
    obtain ⟨hc3, hf3⟩ := bcell hb3
    obtain ⟨hz3a, hz3b⟩ : w.heap.size < w3.heap.size ∧ w.heap.size + 1 < w3.heap.size := by have := hb3.size; (try simp at this); omega
    go_wp2
    refine bodyPost_ret (v := .tuple #[.agg #[.int .i64 0, .int .i64 0], .int .i64 5]) (by simp [results, Tryz.results6, go_sem, hc1, hz1a, hz1b, hc2, hz2a, hz2b, hc3, hz3a, hz3b]) rfl ⟨ret_val EA.out.symm, ?_⟩
    repeat (first | exact Below.refl _ _ | refine Below.setCell ?_ (by first | omega | (simp <;> omega)) _ | refine Below.alloc ?_ (by first | omega | (simp <;> omega)) _ | refine bstep ?_ (by assumption) | refine Below.drew ?_)
  rw [hr] at hk
  simp only [Bool.not_true] at hk
  rcases hs : vecB (axP a b c d).1 (axP a b c d).2 with _ | _
  · have ea : vecV (axisR a b c d) = .tuple #[.agg #[.int .i64 0, .int .i64 0], .int .i64 3] := by simp [vecV, axisR, hu, hr, hs]
    have EA := Lib.hid ea
    clear ea
    go_enter Tryz.func6, Tryz.ntmps6
    go_wp2_with fail
    refine (implIsMat_any _ _ _ _ _).mono ?_
    rintro e w1 ⟨rfl, hb1⟩
    obtain ⟨hc1, hf1⟩ := bcell hb1
    obtain ⟨hz1a, hz1b⟩ : w.heap.size < w1.heap.size ∧ w.heap.size + 1 < w1.heap.size := by have := hb1.size; (try simp at this); omega
    go_wp2_with fail
    refine (matrixOf_any _ _ _ _ _).mono ?_
    rintro e w2 ⟨rfl, hb2⟩
    obtain ⟨hc2, hf2⟩ := bcell hb2
    obtain ⟨hz2a, hz2b⟩ : w.heap.size < w2.heap.size ∧ w.heap.size + 1 < w2.heap.size := by have := hb2.size; (try simp at this); omega
    go_wp2_with fail
    refine (isReflection_any _ _ _ _ _ lu).mono ?_
    rintro e w3 ⟨rfl, hb3⟩
    obtain ⟨hc3, hf3⟩ := bcell hb3
    obtain ⟨hz3a, hz3b⟩ : w.heap.size < w3.heap.size ∧ w.heap.size + 1 < w3.heap.size := by have := hb3.size; (try simp at this); omega
    go_wp2_with fail
    refine (matrixOf_any _ _ _ _ _).mono ?_
    rintro e w4 ⟨rfl, hb4⟩
    obtain ⟨hc4, hf4⟩ := bcell hb4
    obtain ⟨hz4a, hz4b⟩ : w.heap.size < w4.heap.size ∧ w.heap.size + 1 < w4.heap.size := by have := hb4.size; (try simp at this); omega
    go_wp2_with fail
    refine (axis_any _ _ _ _ _ hu hr).mono ?_
    rintro e w5 ⟨he, hb5⟩
    unfold axVal at he
    subst he
    obtain ⟨hc5, hf5⟩ := bcell hb5
    obtain ⟨hz5a, hz5b⟩ : w.heap.size < w5.heap.size ∧ w.heap.size + 1 < w5.heap.size := by have := hb5.size; (try simp at this); omega
    go_wp2_with fail
    refine (limitedVec_no _ _ _ hs).mono ?_
    rintro e w6 ⟨rfl, hb6⟩
    obtain ⟨hc6, hf6⟩ := bcell hb6
    obtain ⟨hz6a, hz6b⟩ : w.heap.size < w6.heap.size ∧ w.heap.size + 1 < w6.heap.size := by have := hb6.size; (try simp at this); omega
    go_wp2
    refine bodyPost_ret (v := .tuple #[.agg #[.int .i64 0, .int .i64 0], .int .i64 3]) (by simp [results, Tryz.results6, go_sem, hc1, hz1a, hz1b, hc2, hz2a, hz2b, hc3, hz3a, hz3b, hc4, hz4a, hz4b, hc5, hz5a, hz5b, hc6, hz6a, hz6b]) rfl ⟨ret_val EA.out.symm, ?_⟩
    repeat (first | exact Below.refl _ _ | refine Below.setCell ?_ (by first | omega | (simp <;> omega)) _ | refine Below.alloc ?_ (by first | omega | (simp <;> omega)) _ | refine bstep ?_ (by assumption) | refine Below.drew ?_)
  · have ea : vecV (axisR a b c d) = .tuple #[.agg #[.int .i64 ((axP a b c d).1), .int .i64 ((axP a b c d).2)], .int .i64 0] := by simp [vecV, axisR, hu, hr, hs]
    have EA := Lib.hid ea
    clear ea
    go_enter Tryz.func6, Tryz.ntmps6
    go_wp2_with fail
    refine (implIsMat_any _ _ _ _ _).mono ?_
    rintro e w1 ⟨rfl, hb1⟩
    obtain ⟨hc1, hf1⟩ := bcell hb1
    obtain ⟨hz1a, hz1b⟩ : w.heap.size < w1.heap.size ∧ w.heap.size + 1 < w1.heap.size := by have := hb1.size; (try simp at this); omega
    go_wp2_with fail
    refine (matrixOf_any _ _ _ _ _).mono ?_
    rintro e w2 ⟨rfl, hb2⟩
    obtain ⟨hc2, hf2⟩ := bcell hb2
    obtain ⟨hz2a, hz2b⟩ : w.heap.size < w2.heap.size ∧ w.heap.size + 1 < w2.heap.size := by have := hb2.size; (try simp at this); omega
    go_wp2_with fail
    refine (isReflection_any _ _ _ _ _ lu).mono ?_
    rintro e w3 ⟨rfl, hb3⟩
    obtain ⟨hc3, hf3⟩ := bcell hb3
    obtain ⟨hz3a, hz3b⟩ : w.heap.size < w3.heap.size ∧ w.heap.size + 1 < w3.heap.size := by have := hb3.size; (try simp at this); omega
    go_wp2_with fail
    refine (matrixOf_any _ _ _ _ _).mono ?_
    rintro e w4 ⟨rfl, hb4⟩
    obtain ⟨hc4, hf4⟩ := bcell hb4
    obtain ⟨hz4a, hz4b⟩ : w.heap.size < w4.heap.size ∧ w.heap.size + 1 < w4.heap.size := by have := hb4.size; (try simp at this); omega
    go_wp2_with fail
    refine (axis_any _ _ _ _ _ hu hr).mono ?_
    rintro e w5 ⟨he, hb5⟩
    unfold axVal at he
    subst he
    obtain ⟨hc5, hf5⟩ := bcell hb5
    obtain ⟨hz5a, hz5b⟩ : w.heap.size < w5.heap.size ∧ w.heap.size + 1 < w5.heap.size := by have := hb5.size; (try simp at this); omega
    go_wp2_with fail
    refine (limitedVec_yes _ _ _ hs).mono ?_
    rintro e w6 ⟨rfl, hb6⟩
    obtain ⟨hc6, hf6⟩ := bcell hb6
    obtain ⟨hz6a, hz6b⟩ : w.heap.size < w6.heap.size ∧ w.heap.size + 1 < w6.heap.size := by have := hb6.size; (try simp at this); omega
    go_wp2
    refine bodyPost_ret (v := .tuple #[.agg #[.int .i64 ((axP a b c d).1), .int .i64 ((axP a b c d).2)], .int .i64 0]) (by simp [results, Tryz.results6, go_sem, hc1, hz1a, hz1b, hc2, hz2a, hz2b, hc3, hz3a, hz3b, hc4, hz4a, hz4b, hc5, hz5a, hz5b, hc6, hz6a, hz6b]) rfl ⟨ret_val EA.out.symm, ?_⟩
    repeat (first | exact Below.refl _ _ | refine Below.setCell ?_ (by first | omega | (simp <;> omega)) _ | refine Below.alloc ?_ (by first | omega | (simp <;> omega)) _ | refine bstep ?_ (by assumption) | refine Below.drew ?_)

end Go.Proofs.YtcjefepjnomfaaaGreatDoor
