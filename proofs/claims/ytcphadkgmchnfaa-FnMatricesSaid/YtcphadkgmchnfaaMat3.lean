/-
  Contracts of chapter 2's MultiplyMats, InverseMat and ApplyMat: the program's function and the model's have one and the same answer. No condition.
-/
import Derived.Test.YtcphadkgmchnfaaMat2
import Derived.IntWalk
namespace Go.Proofs.Ytcphadkgmchnfaa
open Go.RowKit
set_option linter.unusedSimpArgs false
set_option linter.unusedVariables false

set_option maxHeartbeats 1000000 in
theorem inverse_any (a b c d : Int) (w : World) (h : matB a b c d = true) :
    Calls Try.prog 34 #[.agg #[.int .i64 a, .int .i64 b, .int .i64 c, .int .i64 d]] w fun e w' => e = .returned (.agg #[.int .i64 (d * (a * d - b * c)), .int .i64 (-b * (a * d - b * c)), .int .i64 (-c * (a * d - b * c)), .int .i64 (a * (a * d - b * c))]) ∧ Below w.heap.size w w' := by
  have hl := matB_lim h
  have hl' : limB d (-b) (-c) a = true := by
    obtain ⟨⟨ha, hb⟩, hc, hd⟩ := limB_bd hl
    simp [limB, vecB]; omega
  have ht : inB (a * d - b * c) (-1000) 1000 = true := by
    have := matB_det h
    simp [inB]; omega
  have n1 : IntKind.i64.wrap (-b) = -b := IntWalk.i64_in _ (by have := limB_bd hl; omega)
  have n2 : IntKind.i64.wrap (-c) = -c := IntWalk.i64_in _ (by have := limB_bd hl; omega)
  have M0 : Kq w.heap.size a b c d ((w.alloc (.cells #[.int .i64 a, .int .i64 b, .int .i64 c, .int .i64 d] 54)).alloc (.cells #[.int .i64 0, .int .i64 0, .int .i64 0, .int .i64 0] 54)) := (Kq.at _ rfl).alloc _
  go_enter Try.func34, Try.ntmps34
  go_wp2_with fail
  go_region_held3 (fun W => W.cell? ⟨w.heap.size, 0, none⟩ = some (.int .i64 a) ∧ W.cell? ⟨w.heap.size, 1, none⟩ = some (.int .i64 b) ∧ W.cell? ⟨w.heap.size, 2, none⟩ = some (.int .i64 c) ∧ W.cell? ⟨w.heap.size, 3, none⟩ = some (.int .i64 d)) ((refine Kq.cells ?_; repeat (first | assumption | with_reducible refine Kq.alloc ?_ _ | with_reducible refine Kq.drew ?_ | ((with_reducible refine Kq.put ?_ ?_); (first | exact M0.1 | exact Nat.lt_succ_of_lt M0.1 | exact M1.1 | exact Nat.lt_succ_of_lt M1.1 | exact M2.1 | exact Nat.lt_succ_of_lt M2.1 | exact Nat.lt_succ_self _ | omega | (dsimp only; omega))) | with_reducible refine Kq.call ?_ (by assumption))))
    (first
      | (go_at_call 57; ((with_reducible refine (det_any _ _ _ _ _ hl).mono ?_); rintro e u1 ⟨rfl, hb1⟩; obtain ⟨hc1, hf1⟩ := bcell hb1; have M1 : Kq (w.heap.size) a b c d u1 := (by repeat (first | assumption | with_reducible refine Kq.alloc ?_ _ | with_reducible refine Kq.drew ?_ | with_reducible refine Kq.call ?_ (by assumption))); (try ((refine useIt (P := w.heap.size + 1 < u1.heap.size) ?_ ?_); (first | exact lt_alloc hb1 | (have := hb1.size; omega) | (have hthis := hb1.size; simp at hthis; first | done | omega)); intro hq1a))))
      | (go_at_call 56; ((with_reducible refine (timesM_any _ _ _ _ _ _ hl' ht).mono ?_); rintro e u2 ⟨rfl, hb2⟩; obtain ⟨hc2, hf2⟩ := bcell hb2; have M2 : Kq (w.heap.size) a b c d u2 := (by repeat (first | assumption | with_reducible refine Kq.alloc ?_ _ | with_reducible refine Kq.drew ?_ | with_reducible refine Kq.call ?_ (by assumption))); (try ((refine useIt (P := w.heap.size + 1 < u2.heap.size) ?_ ?_); (first | exact lt_alloc hb2 | (have := hb2.size; omega) | (have hthis := hb2.size; simp at hthis; first | done | omega)); intro hq2a)))))
  all_goals
    go_wp2
    refine bodyPost_ret (v := .agg #[.int .i64 (d * (a * d - b * c)), .int .i64 (-b * (a * d - b * c)), .int .i64 (-c * (a * d - b * c)), .int .i64 (a * (a * d - b * c))]) (by simp [results, Try.results34, go_sem, *]) rfl ⟨rfl, ?_⟩
    repeat (first | exact Below.refl _ _ | refine Below.setCell ?_ (by first | omega | (simp <;> omega)) _ | refine Below.alloc ?_ (by first | omega | (simp <;> omega)) _ | refine bstep ?_ (by assumption) | refine Below.drew ?_)

set_option maxHeartbeats 1000000 in
theorem l02Inverse_any (a b c d : Int) (w : World) (h : matB a b c d = true) :
    Calls Try.prog 35 #[.agg #[.int .i64 a, .int .i64 b, .int .i64 c, .int .i64 d]] w fun e w' => e = .returned (.agg #[.int .i64 (d * (a * d - b * c)), .int .i64 (-b * (a * d - b * c)), .int .i64 (-c * (a * d - b * c)), .int .i64 (a * (a * d - b * c))]) ∧ Below w.heap.size w w' := by
  have hl := matB_lim h
  have hD := matB_det h
  obtain ⟨⟨ha, hb⟩, hc, hd⟩ := limB_bd hl
  have ht : -1 ≤ a * d - b * c ∧ a * d - b * c ≤ 1 := by omega
  generalize htd : a * d - b * c = t at ht hD
  obtain ⟨b1, b2⟩ := mulBd ht.1 ht.2 hd.1 hd.2
  obtain ⟨b3, b4⟩ := mulBd (a := -t) (A := 1) (by omega) (by omega) hb.1 hb.2
  obtain ⟨b5, b6⟩ := mulBd (a := -t) (A := 1) (by omega) (by omega) hc.1 hc.2
  obtain ⟨b7, b8⟩ := mulBd ht.1 ht.2 ha.1 ha.2
  have HT := Lib.hid htd
  clear h hD
  go_enter Try.func35, Try.ntmps35
  go_wp2_with fail
  refine (l02Det_any _ _ _ _ _ hl).mono ?_
  rintro e w1 ⟨rfl, hb1⟩
  obtain ⟨hc1, hf1⟩ := bcell hb1
  obtain ⟨hz1a, hz1b⟩ : w.heap.size < w1.heap.size ∧ w.heap.size + 1 < w1.heap.size := by have := hb1.size; (try simp at this); omega
  rw [htd]
  clear htd
  go_wp2
  refine bodyPost_ret (v := .agg #[.int .i64 (t * d), .int .i64 (-t * b), .int .i64 (-t * c), .int .i64 (t * a)]) (by simp [results, Try.results35, go_sem, hc1, hz1a, hz1b]) rfl ⟨?_, ?_⟩
  · rw [Int.mul_comm t d, Int.mul_comm t a, Int.neg_mul, Int.mul_comm t b, ← Int.neg_mul, Int.neg_mul t c, Int.mul_comm t c, ← Int.neg_mul]
  repeat (first | exact Below.refl _ _ | refine Below.setCell ?_ (by first | omega | (simp <;> omega)) _ | refine Below.alloc ?_ (by first | omega | (simp <;> omega)) _ | refine bstep ?_ (by assumption) | refine Below.drew ?_)

set_option maxHeartbeats 1000000 in
theorem limitedMat_yes (a b c d : Int) (w : World) (h : limB a b c d = true) :
    Calls Try.prog 29 #[.agg #[.int .i64 a, .int .i64 b, .int .i64 c, .int .i64 d]] w fun e w' => e = .returned (.tuple #[.agg #[.int .i64 a, .int .i64 b, .int .i64 c, .int .i64 d], .int .i64 0]) ∧ Below w.heap.size w w' := by
  go_enter Try.func29, Try.ntmps29
  go_wp2_with fail
  refine (isLimited_any _ _ _ _ _).mono ?_
  rintro e w1 ⟨rfl, hb1⟩
  obtain ⟨hc1, hf1⟩ := bcell hb1
  obtain ⟨hz1a, hz1b⟩ : w.heap.size < w1.heap.size ∧ w.heap.size + 1 < w1.heap.size := by have := hb1.size; (try simp at this); omega
  go_wp2_with fail
  refine (mat_any _ _ _ _ _).mono ?_
  rintro e w2 ⟨rfl, hb2⟩
  obtain ⟨hc2, hf2⟩ := bcell hb2
  obtain ⟨hz2a, hz2b⟩ : w.heap.size < w2.heap.size ∧ w.heap.size + 1 < w2.heap.size := by have := hb2.size; (try simp at this); omega
  go_wp2
  refine bodyPost_ret (v := .tuple #[.agg #[.int .i64 a, .int .i64 b, .int .i64 c, .int .i64 d], .int .i64 0]) (by simp [results, Try.results29, go_sem, hc1, hz1a, hz1b, hc2, hz2a, hz2b]) rfl ⟨rfl, ?_⟩
  repeat (first | exact Below.refl _ _ | refine Below.setCell ?_ (by first | omega | (simp <;> omega)) _ | refine Below.alloc ?_ (by first | omega | (simp <;> omega)) _ | refine bstep ?_ (by assumption) | refine Below.drew ?_)

set_option maxHeartbeats 1000000 in
theorem limitedMat_no (a b c d : Int) (w : World) (h : limB a b c d = false) :
    Calls Try.prog 29 #[.agg #[.int .i64 a, .int .i64 b, .int .i64 c, .int .i64 d]] w fun e w' => e = .returned (.tuple #[.agg #[.int .i64 0, .int .i64 0, .int .i64 0, .int .i64 0], .int .i64 3]) ∧ Below w.heap.size w w' := by
  go_enter Try.func29, Try.ntmps29
  go_wp2_with fail
  refine (isLimited_any _ _ _ _ _).mono ?_
  rintro e w1 ⟨rfl, hb1⟩
  obtain ⟨hc1, hf1⟩ := bcell hb1
  obtain ⟨hz1a, hz1b⟩ : w.heap.size < w1.heap.size ∧ w.heap.size + 1 < w1.heap.size := by have := hb1.size; (try simp at this); omega
  go_wp2
  refine bodyPost_ret (v := .tuple #[.agg #[.int .i64 0, .int .i64 0, .int .i64 0, .int .i64 0], .int .i64 3]) (by simp [results, Try.results29, go_sem, hc1, hz1a, hz1b]) rfl ⟨rfl, ?_⟩
  repeat (first | exact Below.refl _ _ | refine Below.setCell ?_ (by first | omega | (simp <;> omega)) _ | refine Below.alloc ?_ (by first | omega | (simp <;> omega)) _ | refine bstep ?_ (by assumption) | refine Below.drew ?_)

set_option maxHeartbeats 1000000 in
theorem l02Result_yes (a b c d : Int) (w : World) (h : limB a b c d = true) :
    Calls Try.prog 32 #[.agg #[.int .i64 a, .int .i64 b, .int .i64 c, .int .i64 d]] w fun e w' => e = .returned (.tuple #[.agg #[.int .i64 a, .int .i64 b, .int .i64 c, .int .i64 d], .int .i64 0]) ∧ Below w.heap.size w w' := by
  go_enter Try.func32, Try.ntmps32
  go_wp2_with fail
  refine (l02Small_any _ _ _ _ _).mono ?_
  rintro e w1 ⟨rfl, hb1⟩
  obtain ⟨hc1, hf1⟩ := bcell hb1
  obtain ⟨hz1a, hz1b⟩ : w.heap.size < w1.heap.size ∧ w.heap.size + 1 < w1.heap.size := by have := hb1.size; (try simp at this); omega
  go_wp2
  refine bodyPost_ret (v := .tuple #[.agg #[.int .i64 a, .int .i64 b, .int .i64 c, .int .i64 d], .int .i64 0]) (by simp [results, Try.results32, go_sem, hc1, hz1a, hz1b]) rfl ⟨rfl, ?_⟩
  repeat (first | exact Below.refl _ _ | refine Below.setCell ?_ (by first | omega | (simp <;> omega)) _ | refine Below.alloc ?_ (by first | omega | (simp <;> omega)) _ | refine bstep ?_ (by assumption) | refine Below.drew ?_)

set_option maxHeartbeats 1000000 in
theorem l02Result_no (a b c d : Int) (w : World) (h : limB a b c d = false) :
    Calls Try.prog 32 #[.agg #[.int .i64 a, .int .i64 b, .int .i64 c, .int .i64 d]] w fun e w' => e = .returned (.tuple #[.agg #[.int .i64 0, .int .i64 0, .int .i64 0, .int .i64 0], .int .i64 3]) ∧ Below w.heap.size w w' := by
  go_enter Try.func32, Try.ntmps32
  go_wp2_with fail
  refine (l02Small_any _ _ _ _ _).mono ?_
  rintro e w1 ⟨rfl, hb1⟩
  obtain ⟨hc1, hf1⟩ := bcell hb1
  obtain ⟨hz1a, hz1b⟩ : w.heap.size < w1.heap.size ∧ w.heap.size + 1 < w1.heap.size := by have := hb1.size; (try simp at this); omega
  go_wp2
  refine bodyPost_ret (v := .tuple #[.agg #[.int .i64 0, .int .i64 0, .int .i64 0, .int .i64 0], .int .i64 3]) (by simp [results, Try.results32, go_sem, hc1, hz1a, hz1b]) rfl ⟨rfl, ?_⟩
  repeat (first | exact Below.refl _ _ | refine Below.setCell ?_ (by first | omega | (simp <;> omega)) _ | refine Below.alloc ?_ (by first | omega | (simp <;> omega)) _ | refine bstep ?_ (by assumption) | refine Below.drew ?_)

def mulR (a b c d a' b' c' d' : Int) : Int × Int × Int × Int × Int :=
  bif matB a b c d && matB a' b' c' d' then (bif limB (a * a' + b * c') (a * b' + b * d') (c * a' + d * c') (c * b' + d * d') then (a * a' + b * c', a * b' + b * d', c * a' + d * c', c * b' + d * d', 0) else (0, 0, 0, 0, 3)) else (0, 0, 0, 0, 1)
def matV (r : Int × Int × Int × Int × Int) : Value := .tuple #[.agg #[.int .i64 (r.1), .int .i64 (r.2.1), .int .i64 (r.2.2.1), .int .i64 (r.2.2.2.1)], .int .i64 r.2.2.2.2]
def vecV (r : Int × Int × Int) : Value := .tuple #[.agg #[.int .i64 (r.1), .int .i64 (r.2.1)], .int .i64 r.2.2]
def invR (a b c d : Int) : Int × Int × Int × Int × Int :=
  bif matB a b c d then (d * (a * d - b * c), -b * (a * d - b * c), -c * (a * d - b * c), a * (a * d - b * c), 0) else (0, 0, 0, 0, 1)
def appR (a b c d x y : Int) : Int × Int × Int :=
  bif matB a b c d && vecB x y then (bif vecB (a * x + b * y) (c * x + d * y) then (a * x + b * y, c * x + d * y, 0) else (0, 0, 3)) else (0, 0, 1)
theorem inv_lim {a b c d : Int} (h : matB a b c d = true) : limB (d * (a * d - b * c)) (-b * (a * d - b * c)) (-c * (a * d - b * c)) (a * (a * d - b * c)) = true := by
  obtain ⟨⟨ha, hb⟩, hc, hd⟩ := limB_bd (matB_lim h)
  rcases matB_det h with e | e <;> rw [e] <;> simp [limB, vecB] <;> omega

set_option maxHeartbeats 1000000 in
theorem specMul_any (a b c d a' b' c' d' : Int) (w : World) :
    Calls Try.prog 12 #[.agg #[.int .i64 a, .int .i64 b, .int .i64 c, .int .i64 d], .agg #[.int .i64 a', .int .i64 b', .int .i64 c', .int .i64 d']] w fun e w' => e = .returned (matV (mulR a b c d a' b' c' d')) ∧ Below w.heap.size w w' := by
  rcases hu : matB a b c d with _ | _
  · have ea : matV (mulR a b c d a' b' c' d') = .tuple #[.agg #[.int .i64 0, .int .i64 0, .int .i64 0, .int .i64 0], .int .i64 1] := by simp [matV, mulR, hu]
    have EA := Lib.hid ea
    clear ea
    go_enter Try.func12, Try.ntmps12
    go_wp2_with fail
    refine (specIsMat_any _ _ _ _ _).mono ?_
    rintro e w1 ⟨rfl, hb1⟩
    obtain ⟨hc1, hf1⟩ := bcell hb1
    obtain ⟨hz1a, hz1b, hz1c⟩ : w.heap.size < w1.heap.size ∧ w.heap.size + 1 < w1.heap.size ∧ w.heap.size + 1 + 1 < w1.heap.size := by have := hb1.size; (try simp at this); omega
    go_wp2
    refine bodyPost_ret (v := .tuple #[.agg #[.int .i64 0, .int .i64 0, .int .i64 0, .int .i64 0], .int .i64 1]) (by simp [results, Try.results12, go_sem, hc1, hz1a, hz1b, hz1c]) rfl ⟨ret_val EA.out.symm, ?_⟩
    repeat (first | exact Below.refl _ _ | refine Below.setCell ?_ (by first | omega | (simp <;> omega)) _ | refine Below.alloc ?_ (by first | omega | (simp <;> omega)) _ | refine bstep ?_ (by assumption) | refine Below.drew ?_)
  rcases hv : matB a' b' c' d' with _ | _
  · have ea : matV (mulR a b c d a' b' c' d') = .tuple #[.agg #[.int .i64 0, .int .i64 0, .int .i64 0, .int .i64 0], .int .i64 1] := by simp [matV, mulR, hv]
    have EA := Lib.hid ea
    clear ea
    go_enter Try.func12, Try.ntmps12
    go_wp2_with fail
    refine (specIsMat_any _ _ _ _ _).mono ?_
    rintro e w1 ⟨rfl, hb1⟩
    obtain ⟨hc1, hf1⟩ := bcell hb1
    obtain ⟨hz1a, hz1b, hz1c⟩ : w.heap.size < w1.heap.size ∧ w.heap.size + 1 < w1.heap.size ∧ w.heap.size + 1 + 1 < w1.heap.size := by have := hb1.size; (try simp at this); omega
    go_wp2_with fail
    refine (specIsMat_any _ _ _ _ _).mono ?_
    rintro e w2 ⟨rfl, hb2⟩
    obtain ⟨hc2, hf2⟩ := bcell hb2
    obtain ⟨hz2a, hz2b, hz2c⟩ : w.heap.size < w2.heap.size ∧ w.heap.size + 1 < w2.heap.size ∧ w.heap.size + 1 + 1 < w2.heap.size := by have := hb2.size; (try simp at this); omega
    go_wp2
    refine bodyPost_ret (v := .tuple #[.agg #[.int .i64 0, .int .i64 0, .int .i64 0, .int .i64 0], .int .i64 1]) (by simp [results, Try.results12, go_sem, hc1, hz1a, hz1b, hz1c, hc2, hz2a, hz2b, hz2c]) rfl ⟨ret_val EA.out.symm, ?_⟩
    repeat (first | exact Below.refl _ _ | refine Below.setCell ?_ (by first | omega | (simp <;> omega)) _ | refine Below.alloc ?_ (by first | omega | (simp <;> omega)) _ | refine bstep ?_ (by assumption) | refine Below.drew ?_)
  have lu := matB_lim hu
  have lv := matB_lim hv
  rcases hs : limB (a * a' + b * c') (a * b' + b * d') (c * a' + d * c') (c * b' + d * d') with _ | _
  · have ea : matV (mulR a b c d a' b' c' d') = .tuple #[.agg #[.int .i64 0, .int .i64 0, .int .i64 0, .int .i64 0], .int .i64 3] := by simp [matV, mulR, hu, hv, hs]
    have EA := Lib.hid ea
    clear ea
    go_enter Try.func12, Try.ntmps12
    go_wp2_with fail
    refine (specIsMat_any _ _ _ _ _).mono ?_
    rintro e w1 ⟨rfl, hb1⟩
    obtain ⟨hc1, hf1⟩ := bcell hb1
    obtain ⟨hz1a, hz1b, hz1c⟩ : w.heap.size < w1.heap.size ∧ w.heap.size + 1 < w1.heap.size ∧ w.heap.size + 1 + 1 < w1.heap.size := by have := hb1.size; (try simp at this); omega
    go_wp2_with fail
    refine (specIsMat_any _ _ _ _ _).mono ?_
    rintro e w2 ⟨rfl, hb2⟩
    obtain ⟨hc2, hf2⟩ := bcell hb2
    obtain ⟨hz2a, hz2b, hz2c⟩ : w.heap.size < w2.heap.size ∧ w.heap.size + 1 < w2.heap.size ∧ w.heap.size + 1 + 1 < w2.heap.size := by have := hb2.size; (try simp at this); omega
    go_wp2_with fail
    refine (l02Multiply_any _ _ _ _ _ _ _ _ _ lu lv).mono ?_
    rintro e w3 ⟨rfl, hb3⟩
    obtain ⟨hc3, hf3⟩ := bcell hb3
    obtain ⟨hz3a, hz3b, hz3c⟩ : w.heap.size < w3.heap.size ∧ w.heap.size + 1 < w3.heap.size ∧ w.heap.size + 1 + 1 < w3.heap.size := by have := hb3.size; (try simp at this); omega
    go_wp2_with fail
    refine (l02Result_no _ _ _ _ _ hs).mono ?_
    rintro e w4 ⟨rfl, hb4⟩
    obtain ⟨hc4, hf4⟩ := bcell hb4
    obtain ⟨hz4a, hz4b, hz4c⟩ : w.heap.size < w4.heap.size ∧ w.heap.size + 1 < w4.heap.size ∧ w.heap.size + 1 + 1 < w4.heap.size := by have := hb4.size; (try simp at this); omega
    go_wp2
    refine bodyPost_ret (v := .tuple #[.agg #[.int .i64 0, .int .i64 0, .int .i64 0, .int .i64 0], .int .i64 3]) (by simp [results, Try.results12, go_sem, hc1, hz1a, hz1b, hz1c, hc2, hz2a, hz2b, hz2c, hc3, hz3a, hz3b, hz3c, hc4, hz4a, hz4b, hz4c]) rfl ⟨ret_val EA.out.symm, ?_⟩
    repeat (first | exact Below.refl _ _ | refine Below.setCell ?_ (by first | omega | (simp <;> omega)) _ | refine Below.alloc ?_ (by first | omega | (simp <;> omega)) _ | refine bstep ?_ (by assumption) | refine Below.drew ?_)
  · have ea : matV (mulR a b c d a' b' c' d') = .tuple #[.agg #[.int .i64 (a * a' + b * c'), .int .i64 (a * b' + b * d'), .int .i64 (c * a' + d * c'), .int .i64 (c * b' + d * d')], .int .i64 0] := by simp [matV, mulR, hu, hv, hs]
    have EA := Lib.hid ea
    clear ea
    go_enter Try.func12, Try.ntmps12
    go_wp2_with fail
    refine (specIsMat_any _ _ _ _ _).mono ?_
    rintro e w1 ⟨rfl, hb1⟩
    obtain ⟨hc1, hf1⟩ := bcell hb1
    obtain ⟨hz1a, hz1b, hz1c⟩ : w.heap.size < w1.heap.size ∧ w.heap.size + 1 < w1.heap.size ∧ w.heap.size + 1 + 1 < w1.heap.size := by have := hb1.size; (try simp at this); omega
    go_wp2_with fail
    refine (specIsMat_any _ _ _ _ _).mono ?_
    rintro e w2 ⟨rfl, hb2⟩
    obtain ⟨hc2, hf2⟩ := bcell hb2
    obtain ⟨hz2a, hz2b, hz2c⟩ : w.heap.size < w2.heap.size ∧ w.heap.size + 1 < w2.heap.size ∧ w.heap.size + 1 + 1 < w2.heap.size := by have := hb2.size; (try simp at this); omega
    go_wp2_with fail
    refine (l02Multiply_any _ _ _ _ _ _ _ _ _ lu lv).mono ?_
    rintro e w3 ⟨rfl, hb3⟩
    obtain ⟨hc3, hf3⟩ := bcell hb3
    obtain ⟨hz3a, hz3b, hz3c⟩ : w.heap.size < w3.heap.size ∧ w.heap.size + 1 < w3.heap.size ∧ w.heap.size + 1 + 1 < w3.heap.size := by have := hb3.size; (try simp at this); omega
    go_wp2_with fail
    refine (l02Result_yes _ _ _ _ _ hs).mono ?_
    rintro e w4 ⟨rfl, hb4⟩
    obtain ⟨hc4, hf4⟩ := bcell hb4
    obtain ⟨hz4a, hz4b, hz4c⟩ : w.heap.size < w4.heap.size ∧ w.heap.size + 1 < w4.heap.size ∧ w.heap.size + 1 + 1 < w4.heap.size := by have := hb4.size; (try simp at this); omega
    go_wp2
    refine bodyPost_ret (v := .tuple #[.agg #[.int .i64 (a * a' + b * c'), .int .i64 (a * b' + b * d'), .int .i64 (c * a' + d * c'), .int .i64 (c * b' + d * d')], .int .i64 0]) (by simp [results, Try.results12, go_sem, hc1, hz1a, hz1b, hz1c, hc2, hz2a, hz2b, hz2c, hc3, hz3a, hz3b, hz3c, hc4, hz4a, hz4b, hz4c]) rfl ⟨ret_val EA.out.symm, ?_⟩
    repeat (first | exact Below.refl _ _ | refine Below.setCell ?_ (by first | omega | (simp <;> omega)) _ | refine Below.alloc ?_ (by first | omega | (simp <;> omega)) _ | refine bstep ?_ (by assumption) | refine Below.drew ?_)

set_option maxHeartbeats 2000000 in
theorem implMul_any (a b c d a' b' c' d' : Int) (w : World) :
    Calls Try.prog 11 #[.agg #[.int .i64 a, .int .i64 b, .int .i64 c, .int .i64 d], .agg #[.int .i64 a', .int .i64 b', .int .i64 c', .int .i64 d']] w fun e w' => e = .returned (matV (mulR a b c d a' b' c' d')) ∧ Below w.heap.size w w' := by
  rcases hu : matB a b c d with _ | _
  · have ea : matV (mulR a b c d a' b' c' d') = .tuple #[.agg #[.int .i64 0, .int .i64 0, .int .i64 0, .int .i64 0], .int .i64 1] := by simp [matV, mulR, hu]
    have EA := Lib.hid ea
    clear ea
    go_enter Try.func11, Try.ntmps11
    go_wp2_with fail
    refine (implIsMat_any _ _ _ _ _).mono ?_
    rintro e w1 ⟨rfl, hb1⟩
    obtain ⟨hc1, hf1⟩ := bcell hb1
    obtain ⟨hz1a, hz1b, hz1c⟩ : w.heap.size < w1.heap.size ∧ w.heap.size + 1 < w1.heap.size ∧ w.heap.size + 1 + 1 < w1.heap.size := by have := hb1.size; (try simp at this); omega
    go_wp2
    refine bodyPost_ret (v := .tuple #[.agg #[.int .i64 0, .int .i64 0, .int .i64 0, .int .i64 0], .int .i64 1]) (by simp [results, Try.results11, go_sem, hc1, hz1a, hz1b, hz1c]) rfl ⟨ret_val EA.out.symm, ?_⟩
    repeat (first | exact Below.refl _ _ | refine Below.setCell ?_ (by first | omega | (simp <;> omega)) _ | refine Below.alloc ?_ (by first | omega | (simp <;> omega)) _ | refine bstep ?_ (by assumption) | refine Below.drew ?_)
  rcases hv : matB a' b' c' d' with _ | _
  · have ea : matV (mulR a b c d a' b' c' d') = .tuple #[.agg #[.int .i64 0, .int .i64 0, .int .i64 0, .int .i64 0], .int .i64 1] := by simp [matV, mulR, hv]
    have EA := Lib.hid ea
    clear ea
    go_enter Try.func11, Try.ntmps11
    go_wp2_with fail
    refine (implIsMat_any _ _ _ _ _).mono ?_
    rintro e w1 ⟨rfl, hb1⟩
    obtain ⟨hc1, hf1⟩ := bcell hb1
    obtain ⟨hz1a, hz1b, hz1c⟩ : w.heap.size < w1.heap.size ∧ w.heap.size + 1 < w1.heap.size ∧ w.heap.size + 1 + 1 < w1.heap.size := by have := hb1.size; (try simp at this); omega
    go_wp2_with fail
    refine (implIsMat_any _ _ _ _ _).mono ?_
    rintro e w2 ⟨rfl, hb2⟩
    obtain ⟨hc2, hf2⟩ := bcell hb2
    obtain ⟨hz2a, hz2b, hz2c⟩ : w.heap.size < w2.heap.size ∧ w.heap.size + 1 < w2.heap.size ∧ w.heap.size + 1 + 1 < w2.heap.size := by have := hb2.size; (try simp at this); omega
    go_wp2
    refine bodyPost_ret (v := .tuple #[.agg #[.int .i64 0, .int .i64 0, .int .i64 0, .int .i64 0], .int .i64 1]) (by simp [results, Try.results11, go_sem, hc1, hz1a, hz1b, hz1c, hc2, hz2a, hz2b, hz2c]) rfl ⟨ret_val EA.out.symm, ?_⟩
    repeat (first | exact Below.refl _ _ | refine Below.setCell ?_ (by first | omega | (simp <;> omega)) _ | refine Below.alloc ?_ (by first | omega | (simp <;> omega)) _ | refine bstep ?_ (by assumption) | refine Below.drew ?_)
  have lu := matB_lim hu
  have lv := matB_lim hv
  rcases hs : limB (a * a' + b * c') (a * b' + b * d') (c * a' + d * c') (c * b' + d * d') with _ | _
  · have ea : matV (mulR a b c d a' b' c' d') = .tuple #[.agg #[.int .i64 0, .int .i64 0, .int .i64 0, .int .i64 0], .int .i64 3] := by simp [matV, mulR, hu, hv, hs]
    have EA := Lib.hid ea
    clear ea
    go_enter Try.func11, Try.ntmps11
    go_wp2_with fail
    refine (implIsMat_any _ _ _ _ _).mono ?_
    rintro e w1 ⟨rfl, hb1⟩
    obtain ⟨hc1, hf1⟩ := bcell hb1
    obtain ⟨hz1a, hz1b, hz1c⟩ : w.heap.size < w1.heap.size ∧ w.heap.size + 1 < w1.heap.size ∧ w.heap.size + 1 + 1 < w1.heap.size := by have := hb1.size; (try simp at this); omega
    go_wp2_with fail
    refine (implIsMat_any _ _ _ _ _).mono ?_
    rintro e w2 ⟨rfl, hb2⟩
    obtain ⟨hc2, hf2⟩ := bcell hb2
    obtain ⟨hz2a, hz2b, hz2c⟩ : w.heap.size < w2.heap.size ∧ w.heap.size + 1 < w2.heap.size ∧ w.heap.size + 1 + 1 < w2.heap.size := by have := hb2.size; (try simp at this); omega
    have M0 : Kq w.heap.size a b c d w2 := ⟨by have := hb2.size; have := hb1.size; (try simp at *); omega, by simp [*, go_sem], by simp [*, go_sem], by simp [*, go_sem], by simp [*, go_sem]⟩
    have N0 : Kq (w.heap.size + 1) a' b' c' d' w2 := ⟨hz2b, by simp [*, go_sem], by simp [*, go_sem], by simp [*, go_sem], by simp [*, go_sem]⟩
    have R0 : KR (w.heap.size + 1 + 1) 0 0 0 0 w2 := ⟨hz2c, by simp [*, go_sem], by simp [*, go_sem], by simp [*, go_sem], by simp [*, go_sem], by simp [*, go_sem], by simp [*, go_sem], by simp [*, go_sem], by simp [*, go_sem]⟩
    have B0 : Below w.heap.size w w2 := by repeat (first | exact Below.refl _ _ | refine Below.setCell ?_ (by first | omega | (simp <;> omega)) _ | refine Below.alloc ?_ (by first | omega | (simp <;> omega)) _ | refine bstep ?_ (by assumption) | refine Below.drew ?_)
    clear hc1 hf1 hc2 hf2 hb1 hb2
    go_wp2_with fail
    go_region_held3 (fun W => (W.cell? ⟨w.heap.size, 0, none⟩ = some (.int .i64 a) ∧ W.cell? ⟨w.heap.size, 1, none⟩ = some (.int .i64 b) ∧ W.cell? ⟨w.heap.size, 2, none⟩ = some (.int .i64 c) ∧ W.cell? ⟨w.heap.size, 3, none⟩ = some (.int .i64 d)) ∧ W.cell? ⟨w.heap.size + 1, 0, none⟩ = some (.int .i64 a') ∧ W.cell? ⟨w.heap.size + 1, 1, none⟩ = some (.int .i64 b') ∧ W.cell? ⟨w.heap.size + 1, 2, none⟩ = some (.int .i64 c') ∧ W.cell? ⟨w.heap.size + 1, 3, none⟩ = some (.int .i64 d')) ((refine Kq.two ?_ ?_ <;> repeat (first | assumption | with_reducible refine Kq.alloc ?_ _ | with_reducible refine Kq.drew ?_ | ((with_reducible refine Kq.put ?_ ?_); (first | exact M0.1 | exact Nat.lt_succ_of_lt M0.1 | exact M3.1 | exact Nat.lt_succ_of_lt M3.1 | exact M4.1 | exact Nat.lt_succ_of_lt M4.1 | exact M5.1 | exact Nat.lt_succ_of_lt M5.1 | exact M6.1 | exact Nat.lt_succ_of_lt M6.1 | exact N0.1 | exact Nat.lt_succ_of_lt N0.1 | exact N3.1 | exact Nat.lt_succ_of_lt N3.1 | exact N4.1 | exact Nat.lt_succ_of_lt N4.1 | exact N5.1 | exact Nat.lt_succ_of_lt N5.1 | exact N6.1 | exact Nat.lt_succ_of_lt N6.1 | exact Nat.lt_succ_self _ | omega | (dsimp only; omega))) | with_reducible refine Kq.call ?_ (by assumption))))
      (first
        | (go_at_call_of 30 (Value.agg #[Value.int IntKind.i64 a, Value.int IntKind.i64 b, Value.int IntKind.i64 c, Value.int IntKind.i64 d]); ((with_reducible refine (matrixOf_any _ _ _ _ _).mono ?_); rintro e u3 ⟨rfl, hb3⟩; have M3 : Kq (w.heap.size) a b c d u3 := (by repeat (first | assumption | with_reducible refine Kq.alloc ?_ _ | with_reducible refine Kq.drew ?_ | with_reducible refine Kq.call ?_ (by assumption))); have N3 : Kq (w.heap.size + 1) a' b' c' d' u3 := (by repeat (first | assumption | with_reducible refine Kq.alloc ?_ _ | with_reducible refine Kq.drew ?_ | with_reducible refine Kq.call ?_ (by assumption))); have R3 : KR (w.heap.size + 1 + 1) 0 0 0 0 u3 := (by repeat (first | assumption | with_reducible refine KR.alloc ?_ _ | with_reducible refine KR.drew ?_ | with_reducible refine KR.call ?_ (by assumption))); (try ((refine useIt (P := w.heap.size + 1 + 1 < u3.heap.size) ?_ ?_); (first | exact lt_alloc hb3 | (have := hb3.size; omega) | (have hthis := hb3.size; simp at hthis; first | done | omega)); intro hq3a))))
        | (go_at_call_of 30 (Value.agg #[Value.int IntKind.i64 a', Value.int IntKind.i64 b', Value.int IntKind.i64 c', Value.int IntKind.i64 d']); ((with_reducible refine (matrixOf_any _ _ _ _ _).mono ?_); rintro e u4 ⟨rfl, hb4⟩; have M4 : Kq (w.heap.size) a b c d u4 := (by repeat (first | assumption | with_reducible refine Kq.alloc ?_ _ | with_reducible refine Kq.drew ?_ | with_reducible refine Kq.call ?_ (by assumption))); have N4 : Kq (w.heap.size + 1) a' b' c' d' u4 := (by repeat (first | assumption | with_reducible refine Kq.alloc ?_ _ | with_reducible refine Kq.drew ?_ | with_reducible refine Kq.call ?_ (by assumption))); have R4 : KR (w.heap.size + 1 + 1) 0 0 0 0 u4 := (by repeat (first | assumption | with_reducible refine KR.alloc ?_ _ | with_reducible refine KR.drew ?_ | with_reducible refine KR.call ?_ (by assumption))); (try ((refine useIt (P := w.heap.size + 1 + 1 < u4.heap.size) ?_ ?_); (first | exact lt_alloc hb4 | (have := hb4.size; omega) | (have hthis := hb4.size; simp at hthis; first | done | omega)); intro hq4a))))
        | (go_at_call 31; ((with_reducible refine (after_any _ _ _ _ _ _ _ _ _ lu lv).mono ?_); rintro e u5 ⟨rfl, hb5⟩; have M5 : Kq (w.heap.size) a b c d u5 := (by repeat (first | assumption | with_reducible refine Kq.alloc ?_ _ | with_reducible refine Kq.drew ?_ | with_reducible refine Kq.call ?_ (by assumption))); have N5 : Kq (w.heap.size + 1) a' b' c' d' u5 := (by repeat (first | assumption | with_reducible refine Kq.alloc ?_ _ | with_reducible refine Kq.drew ?_ | with_reducible refine Kq.call ?_ (by assumption))); have R5 : KR (w.heap.size + 1 + 1) 0 0 0 0 u5 := (by repeat (first | assumption | with_reducible refine KR.alloc ?_ _ | with_reducible refine KR.drew ?_ | with_reducible refine KR.call ?_ (by assumption))); (try ((refine useIt (P := w.heap.size + 1 + 1 < u5.heap.size) ?_ ?_); (first | exact lt_alloc hb5 | (have := hb5.size; omega) | (have hthis := hb5.size; simp at hthis; first | done | omega)); intro hq5a))))
        | (go_at_call 29; ((with_reducible refine (limitedMat_no _ _ _ _ _ hs).mono ?_); rintro e u6 ⟨rfl, hb6⟩; have M6 : Kq (w.heap.size) a b c d u6 := (by repeat (first | assumption | with_reducible refine Kq.alloc ?_ _ | with_reducible refine Kq.drew ?_ | with_reducible refine Kq.call ?_ (by assumption))); have N6 : Kq (w.heap.size + 1) a' b' c' d' u6 := (by repeat (first | assumption | with_reducible refine Kq.alloc ?_ _ | with_reducible refine Kq.drew ?_ | with_reducible refine Kq.call ?_ (by assumption))); have R6 : KR (w.heap.size + 1 + 1) 0 0 0 0 u6 := (by repeat (first | assumption | with_reducible refine KR.alloc ?_ _ | with_reducible refine KR.drew ?_ | with_reducible refine KR.call ?_ (by assumption))); have c0 := R6.c0; have c1 := R6.c1; have c2 := R6.c2; have c3 := R6.c3; have f0 := R6.f0; have f1 := R6.f1; have f2 := R6.f2; have f3 := R6.f3; (try ((refine useIt (P := w.heap.size + 1 + 1 < u6.heap.size) ?_ ?_); (first | exact lt_alloc hb6 | (have := hb6.size; omega) | (have hthis := hb6.size; simp at hthis; first | done | omega)); intro hq6a)))))
    all_goals
      go_wp2
      refine bodyPost_ret (v := .tuple #[.agg #[.int .i64 0, .int .i64 0, .int .i64 0, .int .i64 0], .int .i64 3]) (by simp [results, Try.results11, go_sem, *]) rfl ⟨ret_val EA.out.symm, ?_⟩
      repeat (first | exact B0 | refine Below.setCell ?_ (by first | omega | (simp <;> omega)) _ | refine Below.alloc ?_ (by first | omega | (simp <;> omega)) _ | refine bstep ?_ (by assumption) | refine Below.drew ?_)
  · have ea : matV (mulR a b c d a' b' c' d') = .tuple #[.agg #[.int .i64 (a * a' + b * c'), .int .i64 (a * b' + b * d'), .int .i64 (c * a' + d * c'), .int .i64 (c * b' + d * d')], .int .i64 0] := by simp [matV, mulR, hu, hv, hs]
    have EA := Lib.hid ea
    clear ea
    go_enter Try.func11, Try.ntmps11
    go_wp2_with fail
    refine (implIsMat_any _ _ _ _ _).mono ?_
    rintro e w1 ⟨rfl, hb1⟩
    obtain ⟨hc1, hf1⟩ := bcell hb1
    obtain ⟨hz1a, hz1b, hz1c⟩ : w.heap.size < w1.heap.size ∧ w.heap.size + 1 < w1.heap.size ∧ w.heap.size + 1 + 1 < w1.heap.size := by have := hb1.size; (try simp at this); omega
    go_wp2_with fail
    refine (implIsMat_any _ _ _ _ _).mono ?_
    rintro e w2 ⟨rfl, hb2⟩
    obtain ⟨hc2, hf2⟩ := bcell hb2
    obtain ⟨hz2a, hz2b, hz2c⟩ : w.heap.size < w2.heap.size ∧ w.heap.size + 1 < w2.heap.size ∧ w.heap.size + 1 + 1 < w2.heap.size := by have := hb2.size; (try simp at this); omega
    have M0 : Kq w.heap.size a b c d w2 := ⟨by have := hb2.size; have := hb1.size; (try simp at *); omega, by simp [*, go_sem], by simp [*, go_sem], by simp [*, go_sem], by simp [*, go_sem]⟩
    have N0 : Kq (w.heap.size + 1) a' b' c' d' w2 := ⟨hz2b, by simp [*, go_sem], by simp [*, go_sem], by simp [*, go_sem], by simp [*, go_sem]⟩
    have R0 : KR (w.heap.size + 1 + 1) 0 0 0 0 w2 := ⟨hz2c, by simp [*, go_sem], by simp [*, go_sem], by simp [*, go_sem], by simp [*, go_sem], by simp [*, go_sem], by simp [*, go_sem], by simp [*, go_sem], by simp [*, go_sem]⟩
    have B0 : Below w.heap.size w w2 := by repeat (first | exact Below.refl _ _ | refine Below.setCell ?_ (by first | omega | (simp <;> omega)) _ | refine Below.alloc ?_ (by first | omega | (simp <;> omega)) _ | refine bstep ?_ (by assumption) | refine Below.drew ?_)
    clear hc1 hf1 hc2 hf2 hb1 hb2
    go_wp2_with fail
    go_region_held3 (fun W => (W.cell? ⟨w.heap.size, 0, none⟩ = some (.int .i64 a) ∧ W.cell? ⟨w.heap.size, 1, none⟩ = some (.int .i64 b) ∧ W.cell? ⟨w.heap.size, 2, none⟩ = some (.int .i64 c) ∧ W.cell? ⟨w.heap.size, 3, none⟩ = some (.int .i64 d)) ∧ W.cell? ⟨w.heap.size + 1, 0, none⟩ = some (.int .i64 a') ∧ W.cell? ⟨w.heap.size + 1, 1, none⟩ = some (.int .i64 b') ∧ W.cell? ⟨w.heap.size + 1, 2, none⟩ = some (.int .i64 c') ∧ W.cell? ⟨w.heap.size + 1, 3, none⟩ = some (.int .i64 d')) ((refine Kq.two ?_ ?_ <;> repeat (first | assumption | with_reducible refine Kq.alloc ?_ _ | with_reducible refine Kq.drew ?_ | ((with_reducible refine Kq.put ?_ ?_); (first | exact M0.1 | exact Nat.lt_succ_of_lt M0.1 | exact M3.1 | exact Nat.lt_succ_of_lt M3.1 | exact M4.1 | exact Nat.lt_succ_of_lt M4.1 | exact M5.1 | exact Nat.lt_succ_of_lt M5.1 | exact M6.1 | exact Nat.lt_succ_of_lt M6.1 | exact N0.1 | exact Nat.lt_succ_of_lt N0.1 | exact N3.1 | exact Nat.lt_succ_of_lt N3.1 | exact N4.1 | exact Nat.lt_succ_of_lt N4.1 | exact N5.1 | exact Nat.lt_succ_of_lt N5.1 | exact N6.1 | exact Nat.lt_succ_of_lt N6.1 | exact Nat.lt_succ_self _ | omega | (dsimp only; omega))) | with_reducible refine Kq.call ?_ (by assumption))))
      (first
        | (go_at_call_of 30 (Value.agg #[Value.int IntKind.i64 a, Value.int IntKind.i64 b, Value.int IntKind.i64 c, Value.int IntKind.i64 d]); ((with_reducible refine (matrixOf_any _ _ _ _ _).mono ?_); rintro e u3 ⟨rfl, hb3⟩; have M3 : Kq (w.heap.size) a b c d u3 := (by repeat (first | assumption | with_reducible refine Kq.alloc ?_ _ | with_reducible refine Kq.drew ?_ | with_reducible refine Kq.call ?_ (by assumption))); have N3 : Kq (w.heap.size + 1) a' b' c' d' u3 := (by repeat (first | assumption | with_reducible refine Kq.alloc ?_ _ | with_reducible refine Kq.drew ?_ | with_reducible refine Kq.call ?_ (by assumption))); have R3 : KR (w.heap.size + 1 + 1) 0 0 0 0 u3 := (by repeat (first | assumption | with_reducible refine KR.alloc ?_ _ | with_reducible refine KR.drew ?_ | with_reducible refine KR.call ?_ (by assumption))); (try ((refine useIt (P := w.heap.size + 1 + 1 < u3.heap.size) ?_ ?_); (first | exact lt_alloc hb3 | (have := hb3.size; omega) | (have hthis := hb3.size; simp at hthis; first | done | omega)); intro hq3a))))
        | (go_at_call_of 30 (Value.agg #[Value.int IntKind.i64 a', Value.int IntKind.i64 b', Value.int IntKind.i64 c', Value.int IntKind.i64 d']); ((with_reducible refine (matrixOf_any _ _ _ _ _).mono ?_); rintro e u4 ⟨rfl, hb4⟩; have M4 : Kq (w.heap.size) a b c d u4 := (by repeat (first | assumption | with_reducible refine Kq.alloc ?_ _ | with_reducible refine Kq.drew ?_ | with_reducible refine Kq.call ?_ (by assumption))); have N4 : Kq (w.heap.size + 1) a' b' c' d' u4 := (by repeat (first | assumption | with_reducible refine Kq.alloc ?_ _ | with_reducible refine Kq.drew ?_ | with_reducible refine Kq.call ?_ (by assumption))); have R4 : KR (w.heap.size + 1 + 1) 0 0 0 0 u4 := (by repeat (first | assumption | with_reducible refine KR.alloc ?_ _ | with_reducible refine KR.drew ?_ | with_reducible refine KR.call ?_ (by assumption))); (try ((refine useIt (P := w.heap.size + 1 + 1 < u4.heap.size) ?_ ?_); (first | exact lt_alloc hb4 | (have := hb4.size; omega) | (have hthis := hb4.size; simp at hthis; first | done | omega)); intro hq4a))))
        | (go_at_call 31; ((with_reducible refine (after_any _ _ _ _ _ _ _ _ _ lu lv).mono ?_); rintro e u5 ⟨rfl, hb5⟩; have M5 : Kq (w.heap.size) a b c d u5 := (by repeat (first | assumption | with_reducible refine Kq.alloc ?_ _ | with_reducible refine Kq.drew ?_ | with_reducible refine Kq.call ?_ (by assumption))); have N5 : Kq (w.heap.size + 1) a' b' c' d' u5 := (by repeat (first | assumption | with_reducible refine Kq.alloc ?_ _ | with_reducible refine Kq.drew ?_ | with_reducible refine Kq.call ?_ (by assumption))); have R5 : KR (w.heap.size + 1 + 1) 0 0 0 0 u5 := (by repeat (first | assumption | with_reducible refine KR.alloc ?_ _ | with_reducible refine KR.drew ?_ | with_reducible refine KR.call ?_ (by assumption))); (try ((refine useIt (P := w.heap.size + 1 + 1 < u5.heap.size) ?_ ?_); (first | exact lt_alloc hb5 | (have := hb5.size; omega) | (have hthis := hb5.size; simp at hthis; first | done | omega)); intro hq5a))))
        | (go_at_call 29; ((with_reducible refine (limitedMat_yes _ _ _ _ _ hs).mono ?_); rintro e u6 ⟨rfl, hb6⟩; have M6 : Kq (w.heap.size) a b c d u6 := (by repeat (first | assumption | with_reducible refine Kq.alloc ?_ _ | with_reducible refine Kq.drew ?_ | with_reducible refine Kq.call ?_ (by assumption))); have N6 : Kq (w.heap.size + 1) a' b' c' d' u6 := (by repeat (first | assumption | with_reducible refine Kq.alloc ?_ _ | with_reducible refine Kq.drew ?_ | with_reducible refine Kq.call ?_ (by assumption))); have R6 : KR (w.heap.size + 1 + 1) 0 0 0 0 u6 := (by repeat (first | assumption | with_reducible refine KR.alloc ?_ _ | with_reducible refine KR.drew ?_ | with_reducible refine KR.call ?_ (by assumption))); have c0 := R6.c0; have c1 := R6.c1; have c2 := R6.c2; have c3 := R6.c3; have f0 := R6.f0; have f1 := R6.f1; have f2 := R6.f2; have f3 := R6.f3; (try ((refine useIt (P := w.heap.size + 1 + 1 < u6.heap.size) ?_ ?_); (first | exact lt_alloc hb6 | (have := hb6.size; omega) | (have hthis := hb6.size; simp at hthis; first | done | omega)); intro hq6a)))))
    all_goals
      go_wp2
      refine bodyPost_ret (v := .tuple #[.agg #[.int .i64 (a * a' + b * c'), .int .i64 (a * b' + b * d'), .int .i64 (c * a' + d * c'), .int .i64 (c * b' + d * d')], .int .i64 0]) (by simp [results, Try.results11, go_sem, *]) rfl ⟨ret_val EA.out.symm, ?_⟩
      repeat (first | exact B0 | refine Below.setCell ?_ (by first | omega | (simp <;> omega)) _ | refine Below.alloc ?_ (by first | omega | (simp <;> omega)) _ | refine bstep ?_ (by assumption) | refine Below.drew ?_)

set_option maxHeartbeats 1000000 in
theorem specInv_any (a b c d : Int) (w : World) :
    Calls Try.prog 15 #[.agg #[.int .i64 a, .int .i64 b, .int .i64 c, .int .i64 d]] w fun e w' => e = .returned (matV (invR a b c d)) ∧ Below w.heap.size w w' := by
  rcases hu : matB a b c d with _ | _
  · have ea : matV (invR a b c d) = .tuple #[.agg #[.int .i64 0, .int .i64 0, .int .i64 0, .int .i64 0], .int .i64 1] := by simp [matV, invR, hu]
    have EA := Lib.hid ea
    clear ea
    go_enter Try.func15, Try.ntmps15
    go_wp2_with fail
    refine (specIsMat_any _ _ _ _ _).mono ?_
    rintro e w1 ⟨rfl, hb1⟩
    obtain ⟨hc1, hf1⟩ := bcell hb1
    obtain ⟨hz1a, hz1b⟩ : w.heap.size < w1.heap.size ∧ w.heap.size + 1 < w1.heap.size := by have := hb1.size; (try simp at this); omega
    go_wp2
    refine bodyPost_ret (v := .tuple #[.agg #[.int .i64 0, .int .i64 0, .int .i64 0, .int .i64 0], .int .i64 1]) (by simp [results, Try.results15, go_sem, hc1, hz1a, hz1b]) rfl ⟨ret_val EA.out.symm, ?_⟩
    repeat (first | exact Below.refl _ _ | refine Below.setCell ?_ (by first | omega | (simp <;> omega)) _ | refine Below.alloc ?_ (by first | omega | (simp <;> omega)) _ | refine bstep ?_ (by assumption) | refine Below.drew ?_)
  · have ea : matV (invR a b c d) = .tuple #[.agg #[.int .i64 (d * (a * d - b * c)), .int .i64 (-b * (a * d - b * c)), .int .i64 (-c * (a * d - b * c)), .int .i64 (a * (a * d - b * c))], .int .i64 0] := by simp [matV, invR, hu]
    have EA := Lib.hid ea
    clear ea
    go_enter Try.func15, Try.ntmps15
    go_wp2_with fail
    refine (specIsMat_any _ _ _ _ _).mono ?_
    rintro e w1 ⟨rfl, hb1⟩
    obtain ⟨hc1, hf1⟩ := bcell hb1
    obtain ⟨hz1a, hz1b⟩ : w.heap.size < w1.heap.size ∧ w.heap.size + 1 < w1.heap.size := by have := hb1.size; (try simp at this); omega
    go_wp2_with fail
    refine (l02Inverse_any _ _ _ _ _ hu).mono ?_
    rintro e w2 ⟨rfl, hb2⟩
    obtain ⟨hc2, hf2⟩ := bcell hb2
    obtain ⟨hz2a, hz2b⟩ : w.heap.size < w2.heap.size ∧ w.heap.size + 1 < w2.heap.size := by have := hb2.size; (try simp at this); omega
    go_wp2
    refine bodyPost_ret (v := .tuple #[.agg #[.int .i64 (d * (a * d - b * c)), .int .i64 (-b * (a * d - b * c)), .int .i64 (-c * (a * d - b * c)), .int .i64 (a * (a * d - b * c))], .int .i64 0]) (by simp [results, Try.results15, go_sem, hc1, hz1a, hz1b, hc2, hz2a, hz2b]) rfl ⟨ret_val EA.out.symm, ?_⟩
    repeat (first | exact Below.refl _ _ | refine Below.setCell ?_ (by first | omega | (simp <;> omega)) _ | refine Below.alloc ?_ (by first | omega | (simp <;> omega)) _ | refine bstep ?_ (by assumption) | refine Below.drew ?_)

set_option maxHeartbeats 1000000 in
theorem implInv_any (a b c d : Int) (w : World) :
    Calls Try.prog 14 #[.agg #[.int .i64 a, .int .i64 b, .int .i64 c, .int .i64 d]] w fun e w' => e = .returned (matV (invR a b c d)) ∧ Below w.heap.size w w' := by
  rcases hu : matB a b c d with _ | _
  · have ea : matV (invR a b c d) = .tuple #[.agg #[.int .i64 0, .int .i64 0, .int .i64 0, .int .i64 0], .int .i64 1] := by simp [matV, invR, hu]
    have EA := Lib.hid ea
    clear ea
    go_enter Try.func14, Try.ntmps14
    go_wp2_with fail
    refine (implIsMat_any _ _ _ _ _).mono ?_
    rintro e w1 ⟨rfl, hb1⟩
    obtain ⟨hc1, hf1⟩ := bcell hb1
    obtain ⟨hz1a, hz1b⟩ : w.heap.size < w1.heap.size ∧ w.heap.size + 1 < w1.heap.size := by have := hb1.size; (try simp at this); omega
    go_wp2
    refine bodyPost_ret (v := .tuple #[.agg #[.int .i64 0, .int .i64 0, .int .i64 0, .int .i64 0], .int .i64 1]) (by simp [results, Try.results14, go_sem, hc1, hz1a, hz1b]) rfl ⟨ret_val EA.out.symm, ?_⟩
    repeat (first | exact Below.refl _ _ | refine Below.setCell ?_ (by first | omega | (simp <;> omega)) _ | refine Below.alloc ?_ (by first | omega | (simp <;> omega)) _ | refine bstep ?_ (by assumption) | refine Below.drew ?_)
  · have ea : matV (invR a b c d) = .tuple #[.agg #[.int .i64 (d * (a * d - b * c)), .int .i64 (-b * (a * d - b * c)), .int .i64 (-c * (a * d - b * c)), .int .i64 (a * (a * d - b * c))], .int .i64 0] := by simp [matV, invR, hu]
    have EA := Lib.hid ea
    clear ea
    go_enter Try.func14, Try.ntmps14
    go_wp2_with fail
    refine (implIsMat_any _ _ _ _ _).mono ?_
    rintro e w1 ⟨rfl, hb1⟩
    obtain ⟨hc1, hf1⟩ := bcell hb1
    obtain ⟨hz1a, hz1b⟩ : w.heap.size < w1.heap.size ∧ w.heap.size + 1 < w1.heap.size := by have := hb1.size; (try simp at this); omega
    go_wp2_with fail
    refine (matrixOf_any _ _ _ _ _).mono ?_
    rintro e w2 ⟨rfl, hb2⟩
    obtain ⟨hc2, hf2⟩ := bcell hb2
    obtain ⟨hz2a, hz2b⟩ : w.heap.size < w2.heap.size ∧ w.heap.size + 1 < w2.heap.size := by have := hb2.size; (try simp at this); omega
    go_wp2_with fail
    refine (inverse_any _ _ _ _ _ hu).mono ?_
    rintro e w3 ⟨rfl, hb3⟩
    obtain ⟨hc3, hf3⟩ := bcell hb3
    obtain ⟨hz3a, hz3b⟩ : w.heap.size < w3.heap.size ∧ w.heap.size + 1 < w3.heap.size := by have := hb3.size; (try simp at this); omega
    go_wp2_with fail
    refine (limitedMat_yes _ _ _ _ _ (inv_lim hu)).mono ?_
    rintro e w4 ⟨rfl, hb4⟩
    obtain ⟨hc4, hf4⟩ := bcell hb4
    obtain ⟨hz4a, hz4b⟩ : w.heap.size < w4.heap.size ∧ w.heap.size + 1 < w4.heap.size := by have := hb4.size; (try simp at this); omega
    go_wp2
    refine bodyPost_ret (v := .tuple #[.agg #[.int .i64 (d * (a * d - b * c)), .int .i64 (-b * (a * d - b * c)), .int .i64 (-c * (a * d - b * c)), .int .i64 (a * (a * d - b * c))], .int .i64 0]) (by simp [results, Try.results14, go_sem, hc1, hz1a, hz1b, hc2, hz2a, hz2b, hc3, hz3a, hz3b, hc4, hz4a, hz4b]) rfl ⟨ret_val EA.out.symm, ?_⟩
    repeat (first | exact Below.refl _ _ | refine Below.setCell ?_ (by first | omega | (simp <;> omega)) _ | refine Below.alloc ?_ (by first | omega | (simp <;> omega)) _ | refine bstep ?_ (by assumption) | refine Below.drew ?_)

set_option maxHeartbeats 1000000 in
theorem specApp_any (a b c d x y : Int) (w : World) :
    Calls Try.prog 18 #[.agg #[.int .i64 a, .int .i64 b, .int .i64 c, .int .i64 d], .agg #[.int .i64 x, .int .i64 y]] w fun e w' => e = .returned (vecV (appR a b c d x y)) ∧ Below w.heap.size w w' := by
  rcases hu : matB a b c d with _ | _
  · have ea : vecV (appR a b c d x y) = .tuple #[.agg #[.int .i64 0, .int .i64 0], .int .i64 1] := by simp [vecV, appR, hu]
    have EA := Lib.hid ea
    clear ea
    go_enter Try.func18, Try.ntmps18
    go_wp2_with fail
    refine (specIsMat_any _ _ _ _ _).mono ?_
    rintro e w1 ⟨rfl, hb1⟩
    obtain ⟨hc1, hf1⟩ := bcell hb1
    obtain ⟨hz1a, hz1b, hz1c⟩ : w.heap.size < w1.heap.size ∧ w.heap.size + 1 < w1.heap.size ∧ w.heap.size + 1 + 1 < w1.heap.size := by have := hb1.size; (try simp at this); omega
    go_wp2
    refine bodyPost_ret (v := .tuple #[.agg #[.int .i64 0, .int .i64 0], .int .i64 1]) (by simp [results, Try.results18, go_sem, hc1, hz1a, hz1b, hz1c]) rfl ⟨ret_val EA.out.symm, ?_⟩
    repeat (first | exact Below.refl _ _ | refine Below.setCell ?_ (by first | omega | (simp <;> omega)) _ | refine Below.alloc ?_ (by first | omega | (simp <;> omega)) _ | refine bstep ?_ (by assumption) | refine Below.drew ?_)
  rcases hv : vecB x y with _ | _
  · have ea : vecV (appR a b c d x y) = .tuple #[.agg #[.int .i64 0, .int .i64 0], .int .i64 1] := by simp [vecV, appR, hv]
    have EA := Lib.hid ea
    clear ea
    go_enter Try.func18, Try.ntmps18
    go_wp2_with fail
    refine (specIsMat_any _ _ _ _ _).mono ?_
    rintro e w1 ⟨rfl, hb1⟩
    obtain ⟨hc1, hf1⟩ := bcell hb1
    obtain ⟨hz1a, hz1b, hz1c⟩ : w.heap.size < w1.heap.size ∧ w.heap.size + 1 < w1.heap.size ∧ w.heap.size + 1 + 1 < w1.heap.size := by have := hb1.size; (try simp at this); omega
    go_wp2_with fail
    refine (specIsVec_any _ _ _).mono ?_
    rintro e w2 ⟨rfl, hb2⟩
    obtain ⟨hc2, hf2⟩ := bcell hb2
    obtain ⟨hz2a, hz2b, hz2c⟩ : w.heap.size < w2.heap.size ∧ w.heap.size + 1 < w2.heap.size ∧ w.heap.size + 1 + 1 < w2.heap.size := by have := hb2.size; (try simp at this); omega
    go_wp2
    refine bodyPost_ret (v := .tuple #[.agg #[.int .i64 0, .int .i64 0], .int .i64 1]) (by simp [results, Try.results18, go_sem, hc1, hz1a, hz1b, hz1c, hc2, hz2a, hz2b, hz2c]) rfl ⟨ret_val EA.out.symm, ?_⟩
    repeat (first | exact Below.refl _ _ | refine Below.setCell ?_ (by first | omega | (simp <;> omega)) _ | refine Below.alloc ?_ (by first | omega | (simp <;> omega)) _ | refine bstep ?_ (by assumption) | refine Below.drew ?_)
  have lu := matB_lim hu
  rcases hs : vecB (a * x + b * y) (c * x + d * y) with _ | _
  · have ea : vecV (appR a b c d x y) = .tuple #[.agg #[.int .i64 0, .int .i64 0], .int .i64 3] := by simp [vecV, appR, hu, hv, hs]
    have EA := Lib.hid ea
    clear ea
    go_enter Try.func18, Try.ntmps18
    go_wp2_with fail
    refine (specIsMat_any _ _ _ _ _).mono ?_
    rintro e w1 ⟨rfl, hb1⟩
    obtain ⟨hc1, hf1⟩ := bcell hb1
    obtain ⟨hz1a, hz1b, hz1c⟩ : w.heap.size < w1.heap.size ∧ w.heap.size + 1 < w1.heap.size ∧ w.heap.size + 1 + 1 < w1.heap.size := by have := hb1.size; (try simp at this); omega
    go_wp2_with fail
    refine (specIsVec_any _ _ _).mono ?_
    rintro e w2 ⟨rfl, hb2⟩
    obtain ⟨hc2, hf2⟩ := bcell hb2
    obtain ⟨hz2a, hz2b, hz2c⟩ : w.heap.size < w2.heap.size ∧ w.heap.size + 1 < w2.heap.size ∧ w.heap.size + 1 + 1 < w2.heap.size := by have := hb2.size; (try simp at this); omega
    go_wp2_with fail
    refine (l02Apply_any _ _ _ _ _ _ _ lu hv).mono ?_
    rintro e w3 ⟨rfl, hb3⟩
    obtain ⟨hc3, hf3⟩ := bcell hb3
    obtain ⟨hz3a, hz3b, hz3c⟩ : w.heap.size < w3.heap.size ∧ w.heap.size + 1 < w3.heap.size ∧ w.heap.size + 1 + 1 < w3.heap.size := by have := hb3.size; (try simp at this); omega
    go_wp2_with fail
    refine (l01Result_no _ _ _ hs).mono ?_
    rintro e w4 ⟨rfl, hb4⟩
    obtain ⟨hc4, hf4⟩ := bcell hb4
    obtain ⟨hz4a, hz4b, hz4c⟩ : w.heap.size < w4.heap.size ∧ w.heap.size + 1 < w4.heap.size ∧ w.heap.size + 1 + 1 < w4.heap.size := by have := hb4.size; (try simp at this); omega
    go_wp2
    refine bodyPost_ret (v := .tuple #[.agg #[.int .i64 0, .int .i64 0], .int .i64 3]) (by simp [results, Try.results18, go_sem, hc1, hz1a, hz1b, hz1c, hc2, hz2a, hz2b, hz2c, hc3, hz3a, hz3b, hz3c, hc4, hz4a, hz4b, hz4c]) rfl ⟨ret_val EA.out.symm, ?_⟩
    repeat (first | exact Below.refl _ _ | refine Below.setCell ?_ (by first | omega | (simp <;> omega)) _ | refine Below.alloc ?_ (by first | omega | (simp <;> omega)) _ | refine bstep ?_ (by assumption) | refine Below.drew ?_)
  · have ea : vecV (appR a b c d x y) = .tuple #[.agg #[.int .i64 (a * x + b * y), .int .i64 (c * x + d * y)], .int .i64 0] := by simp [vecV, appR, hu, hv, hs]
    have EA := Lib.hid ea
    clear ea
    go_enter Try.func18, Try.ntmps18
    go_wp2_with fail
    refine (specIsMat_any _ _ _ _ _).mono ?_
    rintro e w1 ⟨rfl, hb1⟩
    obtain ⟨hc1, hf1⟩ := bcell hb1
    obtain ⟨hz1a, hz1b, hz1c⟩ : w.heap.size < w1.heap.size ∧ w.heap.size + 1 < w1.heap.size ∧ w.heap.size + 1 + 1 < w1.heap.size := by have := hb1.size; (try simp at this); omega
    go_wp2_with fail
    refine (specIsVec_any _ _ _).mono ?_
    rintro e w2 ⟨rfl, hb2⟩
    obtain ⟨hc2, hf2⟩ := bcell hb2
    obtain ⟨hz2a, hz2b, hz2c⟩ : w.heap.size < w2.heap.size ∧ w.heap.size + 1 < w2.heap.size ∧ w.heap.size + 1 + 1 < w2.heap.size := by have := hb2.size; (try simp at this); omega
    go_wp2_with fail
    refine (l02Apply_any _ _ _ _ _ _ _ lu hv).mono ?_
    rintro e w3 ⟨rfl, hb3⟩
    obtain ⟨hc3, hf3⟩ := bcell hb3
    obtain ⟨hz3a, hz3b, hz3c⟩ : w.heap.size < w3.heap.size ∧ w.heap.size + 1 < w3.heap.size ∧ w.heap.size + 1 + 1 < w3.heap.size := by have := hb3.size; (try simp at this); omega
    go_wp2_with fail
    refine (l01Result_yes _ _ _ hs).mono ?_
    rintro e w4 ⟨rfl, hb4⟩
    obtain ⟨hc4, hf4⟩ := bcell hb4
    obtain ⟨hz4a, hz4b, hz4c⟩ : w.heap.size < w4.heap.size ∧ w.heap.size + 1 < w4.heap.size ∧ w.heap.size + 1 + 1 < w4.heap.size := by have := hb4.size; (try simp at this); omega
    go_wp2
    refine bodyPost_ret (v := .tuple #[.agg #[.int .i64 (a * x + b * y), .int .i64 (c * x + d * y)], .int .i64 0]) (by simp [results, Try.results18, go_sem, hc1, hz1a, hz1b, hz1c, hc2, hz2a, hz2b, hz2c, hc3, hz3a, hz3b, hz3c, hc4, hz4a, hz4b, hz4c]) rfl ⟨ret_val EA.out.symm, ?_⟩
    repeat (first | exact Below.refl _ _ | refine Below.setCell ?_ (by first | omega | (simp <;> omega)) _ | refine Below.alloc ?_ (by first | omega | (simp <;> omega)) _ | refine bstep ?_ (by assumption) | refine Below.drew ?_)

set_option maxHeartbeats 2000000 in
theorem implApp_any (a b c d x y : Int) (w : World) :
    Calls Try.prog 17 #[.agg #[.int .i64 a, .int .i64 b, .int .i64 c, .int .i64 d], .agg #[.int .i64 x, .int .i64 y]] w fun e w' => e = .returned (vecV (appR a b c d x y)) ∧ Below w.heap.size w w' := by
  rcases hu : matB a b c d with _ | _
  · have ea : vecV (appR a b c d x y) = .tuple #[.agg #[.int .i64 0, .int .i64 0], .int .i64 1] := by simp [vecV, appR, hu]
    have EA := Lib.hid ea
    clear ea
    go_enter Try.func17, Try.ntmps17
    go_wp2_with fail
    refine (implIsMat_any _ _ _ _ _).mono ?_
    rintro e w1 ⟨rfl, hb1⟩
    obtain ⟨hc1, hf1⟩ := bcell hb1
    obtain ⟨hz1a, hz1b, hz1c⟩ : w.heap.size < w1.heap.size ∧ w.heap.size + 1 < w1.heap.size ∧ w.heap.size + 1 + 1 < w1.heap.size := by have := hb1.size; (try simp at this); omega
    go_wp2
    refine bodyPost_ret (v := .tuple #[.agg #[.int .i64 0, .int .i64 0], .int .i64 1]) (by simp [results, Try.results17, go_sem, hc1, hz1a, hz1b, hz1c]) rfl ⟨ret_val EA.out.symm, ?_⟩
    repeat (first | exact Below.refl _ _ | refine Below.setCell ?_ (by first | omega | (simp <;> omega)) _ | refine Below.alloc ?_ (by first | omega | (simp <;> omega)) _ | refine bstep ?_ (by assumption) | refine Below.drew ?_)
  rcases hv : vecB x y with _ | _
  · have ea : vecV (appR a b c d x y) = .tuple #[.agg #[.int .i64 0, .int .i64 0], .int .i64 1] := by simp [vecV, appR, hv]
    have EA := Lib.hid ea
    clear ea
    go_enter Try.func17, Try.ntmps17
    go_wp2_with fail
    refine (implIsMat_any _ _ _ _ _).mono ?_
    rintro e w1 ⟨rfl, hb1⟩
    obtain ⟨hc1, hf1⟩ := bcell hb1
    obtain ⟨hz1a, hz1b, hz1c⟩ : w.heap.size < w1.heap.size ∧ w.heap.size + 1 < w1.heap.size ∧ w.heap.size + 1 + 1 < w1.heap.size := by have := hb1.size; (try simp at this); omega
    go_wp2_with fail
    refine (isValid_any _ _ _).mono ?_
    rintro e w2 ⟨rfl, hb2⟩
    obtain ⟨hc2, hf2⟩ := bcell hb2
    obtain ⟨hz2a, hz2b, hz2c⟩ : w.heap.size < w2.heap.size ∧ w.heap.size + 1 < w2.heap.size ∧ w.heap.size + 1 + 1 < w2.heap.size := by have := hb2.size; (try simp at this); omega
    go_wp2
    refine bodyPost_ret (v := .tuple #[.agg #[.int .i64 0, .int .i64 0], .int .i64 1]) (by simp [results, Try.results17, go_sem, hc1, hz1a, hz1b, hz1c, hc2, hz2a, hz2b, hz2c]) rfl ⟨ret_val EA.out.symm, ?_⟩
    repeat (first | exact Below.refl _ _ | refine Below.setCell ?_ (by first | omega | (simp <;> omega)) _ | refine Below.alloc ?_ (by first | omega | (simp <;> omega)) _ | refine bstep ?_ (by assumption) | refine Below.drew ?_)
  have lu := matB_lim hu
  rcases hs : vecB (a * x + b * y) (c * x + d * y) with _ | _
  · have ea : vecV (appR a b c d x y) = .tuple #[.agg #[.int .i64 0, .int .i64 0], .int .i64 3] := by simp [vecV, appR, hu, hv, hs]
    have EA := Lib.hid ea
    clear ea
    go_enter Try.func17, Try.ntmps17
    go_wp2_with fail
    refine (implIsMat_any _ _ _ _ _).mono ?_
    rintro e w1 ⟨rfl, hb1⟩
    obtain ⟨hc1, hf1⟩ := bcell hb1
    obtain ⟨hz1a, hz1b, hz1c⟩ : w.heap.size < w1.heap.size ∧ w.heap.size + 1 < w1.heap.size ∧ w.heap.size + 1 + 1 < w1.heap.size := by have := hb1.size; (try simp at this); omega
    go_wp2_with fail
    refine (isValid_any _ _ _).mono ?_
    rintro e w2 ⟨rfl, hb2⟩
    obtain ⟨hc2, hf2⟩ := bcell hb2
    obtain ⟨hz2a, hz2b, hz2c⟩ : w.heap.size < w2.heap.size ∧ w.heap.size + 1 < w2.heap.size ∧ w.heap.size + 1 + 1 < w2.heap.size := by have := hb2.size; (try simp at this); omega
    have M0 : Kq w.heap.size a b c d w2 := ⟨hz2a, by simp [*, go_sem], by simp [*, go_sem], by simp [*, go_sem], by simp [*, go_sem]⟩
    have N0 : Kg (w.heap.size + 1) x y w2 := ⟨hz2b, by simp [*, go_sem], by simp [*, go_sem]⟩
    have R0 : KV (w.heap.size + 1 + 1) 0 0 w2 := ⟨hz2c, by simp [*, go_sem], by simp [*, go_sem], by simp [*, go_sem], by simp [*, go_sem]⟩
    have B0 : Below w.heap.size w w2 := by repeat (first | exact Below.refl _ _ | refine Below.setCell ?_ (by first | omega | (simp <;> omega)) _ | refine Below.alloc ?_ (by first | omega | (simp <;> omega)) _ | refine bstep ?_ (by assumption) | refine Below.drew ?_)
    clear hc1 hf1 hc2 hf2 hb1 hb2
    go_wp2_with fail
    go_region_held3 (fun W => (W.cell? ⟨w.heap.size, 0, none⟩ = some (.int .i64 a) ∧ W.cell? ⟨w.heap.size, 1, none⟩ = some (.int .i64 b) ∧ W.cell? ⟨w.heap.size, 2, none⟩ = some (.int .i64 c) ∧ W.cell? ⟨w.heap.size, 3, none⟩ = some (.int .i64 d)) ∧ W.cell? ⟨w.heap.size + 1, 0, none⟩ = some (.int .i64 x) ∧ W.cell? ⟨w.heap.size + 1, 1, none⟩ = some (.int .i64 y)) ((refine Kq.vec ?_ ?_; (repeat (first | assumption | with_reducible refine Kq.alloc ?_ _ | with_reducible refine Kq.drew ?_ | ((with_reducible refine Kq.put ?_ ?_); (first | exact M0.1 | exact Nat.lt_succ_of_lt M0.1 | exact M3.1 | exact Nat.lt_succ_of_lt M3.1 | exact M4.1 | exact Nat.lt_succ_of_lt M4.1 | exact M5.1 | exact Nat.lt_succ_of_lt M5.1 | exact Nat.lt_succ_self _ | omega | (dsimp only; omega))) | with_reducible refine Kq.call ?_ (by assumption))); (repeat (first | assumption | with_reducible refine Kg.alloc ?_ _ | with_reducible refine Kg.drew ?_ | ((with_reducible refine Kg.put ?_ ?_); (first | exact N0.1 | exact Nat.lt_succ_of_lt N0.1 | exact N3.1 | exact Nat.lt_succ_of_lt N3.1 | exact N4.1 | exact Nat.lt_succ_of_lt N4.1 | exact N5.1 | exact Nat.lt_succ_of_lt N5.1 | exact Nat.lt_succ_self _ | omega | (dsimp only; omega))) | with_reducible refine Kg.call ?_ (by assumption)))))
      (first
        | (go_at_call 30; ((with_reducible refine (matrixOf_any _ _ _ _ _).mono ?_); rintro e u3 ⟨rfl, hb3⟩; have M3 : Kq (w.heap.size) a b c d u3 := (by repeat (first | assumption | with_reducible refine Kq.alloc ?_ _ | with_reducible refine Kq.drew ?_ | with_reducible refine Kq.call ?_ (by assumption))); have N3 : Kg (w.heap.size + 1) x y u3 := (by repeat (first | assumption | with_reducible refine Kg.alloc ?_ _ | with_reducible refine Kg.drew ?_ | with_reducible refine Kg.call ?_ (by assumption))); have R3 : KV (w.heap.size + 1 + 1) 0 0 u3 := (by repeat (first | assumption | with_reducible refine KV.alloc ?_ _ | with_reducible refine KV.drew ?_ | with_reducible refine KV.call ?_ (by assumption))); (try ((refine useIt (P := w.heap.size + 1 + 1 < u3.heap.size) ?_ ?_); (first | exact lt_alloc hb3 | (have := hb3.size; omega) | (have hthis := hb3.size; simp at hthis; first | done | omega)); intro hq3a))))
        | (go_at_call 39; ((with_reducible refine (apply_any _ _ _ _ _ _ _ lu hv).mono ?_); rintro e u4 ⟨rfl, hb4⟩; have M4 : Kq (w.heap.size) a b c d u4 := (by repeat (first | assumption | with_reducible refine Kq.alloc ?_ _ | with_reducible refine Kq.drew ?_ | with_reducible refine Kq.call ?_ (by assumption))); have N4 : Kg (w.heap.size + 1) x y u4 := (by repeat (first | assumption | with_reducible refine Kg.alloc ?_ _ | with_reducible refine Kg.drew ?_ | with_reducible refine Kg.call ?_ (by assumption))); have R4 : KV (w.heap.size + 1 + 1) 0 0 u4 := (by repeat (first | assumption | with_reducible refine KV.alloc ?_ _ | with_reducible refine KV.drew ?_ | with_reducible refine KV.call ?_ (by assumption))); (try ((refine useIt (P := w.heap.size + 1 + 1 < u4.heap.size) ?_ ?_); (first | exact lt_alloc hb4 | (have := hb4.size; omega) | (have hthis := hb4.size; simp at hthis; first | done | omega)); intro hq4a))))
        | (go_at_call 38; ((with_reducible refine (limitedVec_no _ _ _ hs).mono ?_); rintro e u5 ⟨rfl, hb5⟩; have M5 : Kq (w.heap.size) a b c d u5 := (by repeat (first | assumption | with_reducible refine Kq.alloc ?_ _ | with_reducible refine Kq.drew ?_ | with_reducible refine Kq.call ?_ (by assumption))); have N5 : Kg (w.heap.size + 1) x y u5 := (by repeat (first | assumption | with_reducible refine Kg.alloc ?_ _ | with_reducible refine Kg.drew ?_ | with_reducible refine Kg.call ?_ (by assumption))); have R5 : KV (w.heap.size + 1 + 1) 0 0 u5 := (by repeat (first | assumption | with_reducible refine KV.alloc ?_ _ | with_reducible refine KV.drew ?_ | with_reducible refine KV.call ?_ (by assumption))); have c0 := R5.c0; have c1 := R5.c1; have f0 := R5.f0; have f1 := R5.f1; (try ((refine useIt (P := w.heap.size + 1 + 1 < u5.heap.size) ?_ ?_); (first | exact lt_alloc hb5 | (have := hb5.size; omega) | (have hthis := hb5.size; simp at hthis; first | done | omega)); intro hq5a)))))
    all_goals
      go_wp2
      refine bodyPost_ret (v := .tuple #[.agg #[.int .i64 0, .int .i64 0], .int .i64 3]) (by simp [results, Try.results17, go_sem, *]) rfl ⟨ret_val EA.out.symm, ?_⟩
      repeat (first | exact B0 | refine Below.setCell ?_ (by first | omega | (simp <;> omega)) _ | refine Below.alloc ?_ (by first | omega | (simp <;> omega)) _ | refine bstep ?_ (by assumption) | refine Below.drew ?_)
  · have ea : vecV (appR a b c d x y) = .tuple #[.agg #[.int .i64 (a * x + b * y), .int .i64 (c * x + d * y)], .int .i64 0] := by simp [vecV, appR, hu, hv, hs]
    have EA := Lib.hid ea
    clear ea
    go_enter Try.func17, Try.ntmps17
    go_wp2_with fail
    refine (implIsMat_any _ _ _ _ _).mono ?_
    rintro e w1 ⟨rfl, hb1⟩
    obtain ⟨hc1, hf1⟩ := bcell hb1
    obtain ⟨hz1a, hz1b, hz1c⟩ : w.heap.size < w1.heap.size ∧ w.heap.size + 1 < w1.heap.size ∧ w.heap.size + 1 + 1 < w1.heap.size := by have := hb1.size; (try simp at this); omega
    go_wp2_with fail
    refine (isValid_any _ _ _).mono ?_
    rintro e w2 ⟨rfl, hb2⟩
    obtain ⟨hc2, hf2⟩ := bcell hb2
    obtain ⟨hz2a, hz2b, hz2c⟩ : w.heap.size < w2.heap.size ∧ w.heap.size + 1 < w2.heap.size ∧ w.heap.size + 1 + 1 < w2.heap.size := by have := hb2.size; (try simp at this); omega
    have M0 : Kq w.heap.size a b c d w2 := ⟨hz2a, by simp [*, go_sem], by simp [*, go_sem], by simp [*, go_sem], by simp [*, go_sem]⟩
    have N0 : Kg (w.heap.size + 1) x y w2 := ⟨hz2b, by simp [*, go_sem], by simp [*, go_sem]⟩
    have R0 : KV (w.heap.size + 1 + 1) 0 0 w2 := ⟨hz2c, by simp [*, go_sem], by simp [*, go_sem], by simp [*, go_sem], by simp [*, go_sem]⟩
    have B0 : Below w.heap.size w w2 := by repeat (first | exact Below.refl _ _ | refine Below.setCell ?_ (by first | omega | (simp <;> omega)) _ | refine Below.alloc ?_ (by first | omega | (simp <;> omega)) _ | refine bstep ?_ (by assumption) | refine Below.drew ?_)
    clear hc1 hf1 hc2 hf2 hb1 hb2
    go_wp2_with fail
    go_region_held3 (fun W => (W.cell? ⟨w.heap.size, 0, none⟩ = some (.int .i64 a) ∧ W.cell? ⟨w.heap.size, 1, none⟩ = some (.int .i64 b) ∧ W.cell? ⟨w.heap.size, 2, none⟩ = some (.int .i64 c) ∧ W.cell? ⟨w.heap.size, 3, none⟩ = some (.int .i64 d)) ∧ W.cell? ⟨w.heap.size + 1, 0, none⟩ = some (.int .i64 x) ∧ W.cell? ⟨w.heap.size + 1, 1, none⟩ = some (.int .i64 y)) ((refine Kq.vec ?_ ?_; (repeat (first | assumption | with_reducible refine Kq.alloc ?_ _ | with_reducible refine Kq.drew ?_ | ((with_reducible refine Kq.put ?_ ?_); (first | exact M0.1 | exact Nat.lt_succ_of_lt M0.1 | exact M3.1 | exact Nat.lt_succ_of_lt M3.1 | exact M4.1 | exact Nat.lt_succ_of_lt M4.1 | exact M5.1 | exact Nat.lt_succ_of_lt M5.1 | exact Nat.lt_succ_self _ | omega | (dsimp only; omega))) | with_reducible refine Kq.call ?_ (by assumption))); (repeat (first | assumption | with_reducible refine Kg.alloc ?_ _ | with_reducible refine Kg.drew ?_ | ((with_reducible refine Kg.put ?_ ?_); (first | exact N0.1 | exact Nat.lt_succ_of_lt N0.1 | exact N3.1 | exact Nat.lt_succ_of_lt N3.1 | exact N4.1 | exact Nat.lt_succ_of_lt N4.1 | exact N5.1 | exact Nat.lt_succ_of_lt N5.1 | exact Nat.lt_succ_self _ | omega | (dsimp only; omega))) | with_reducible refine Kg.call ?_ (by assumption)))))
      (first
        | (go_at_call 30; ((with_reducible refine (matrixOf_any _ _ _ _ _).mono ?_); rintro e u3 ⟨rfl, hb3⟩; have M3 : Kq (w.heap.size) a b c d u3 := (by repeat (first | assumption | with_reducible refine Kq.alloc ?_ _ | with_reducible refine Kq.drew ?_ | with_reducible refine Kq.call ?_ (by assumption))); have N3 : Kg (w.heap.size + 1) x y u3 := (by repeat (first | assumption | with_reducible refine Kg.alloc ?_ _ | with_reducible refine Kg.drew ?_ | with_reducible refine Kg.call ?_ (by assumption))); have R3 : KV (w.heap.size + 1 + 1) 0 0 u3 := (by repeat (first | assumption | with_reducible refine KV.alloc ?_ _ | with_reducible refine KV.drew ?_ | with_reducible refine KV.call ?_ (by assumption))); (try ((refine useIt (P := w.heap.size + 1 + 1 < u3.heap.size) ?_ ?_); (first | exact lt_alloc hb3 | (have := hb3.size; omega) | (have hthis := hb3.size; simp at hthis; first | done | omega)); intro hq3a))))
        | (go_at_call 39; ((with_reducible refine (apply_any _ _ _ _ _ _ _ lu hv).mono ?_); rintro e u4 ⟨rfl, hb4⟩; have M4 : Kq (w.heap.size) a b c d u4 := (by repeat (first | assumption | with_reducible refine Kq.alloc ?_ _ | with_reducible refine Kq.drew ?_ | with_reducible refine Kq.call ?_ (by assumption))); have N4 : Kg (w.heap.size + 1) x y u4 := (by repeat (first | assumption | with_reducible refine Kg.alloc ?_ _ | with_reducible refine Kg.drew ?_ | with_reducible refine Kg.call ?_ (by assumption))); have R4 : KV (w.heap.size + 1 + 1) 0 0 u4 := (by repeat (first | assumption | with_reducible refine KV.alloc ?_ _ | with_reducible refine KV.drew ?_ | with_reducible refine KV.call ?_ (by assumption))); (try ((refine useIt (P := w.heap.size + 1 + 1 < u4.heap.size) ?_ ?_); (first | exact lt_alloc hb4 | (have := hb4.size; omega) | (have hthis := hb4.size; simp at hthis; first | done | omega)); intro hq4a))))
        | (go_at_call 38; ((with_reducible refine (limitedVec_yes _ _ _ hs).mono ?_); rintro e u5 ⟨rfl, hb5⟩; have M5 : Kq (w.heap.size) a b c d u5 := (by repeat (first | assumption | with_reducible refine Kq.alloc ?_ _ | with_reducible refine Kq.drew ?_ | with_reducible refine Kq.call ?_ (by assumption))); have N5 : Kg (w.heap.size + 1) x y u5 := (by repeat (first | assumption | with_reducible refine Kg.alloc ?_ _ | with_reducible refine Kg.drew ?_ | with_reducible refine Kg.call ?_ (by assumption))); have R5 : KV (w.heap.size + 1 + 1) 0 0 u5 := (by repeat (first | assumption | with_reducible refine KV.alloc ?_ _ | with_reducible refine KV.drew ?_ | with_reducible refine KV.call ?_ (by assumption))); have c0 := R5.c0; have c1 := R5.c1; have f0 := R5.f0; have f1 := R5.f1; (try ((refine useIt (P := w.heap.size + 1 + 1 < u5.heap.size) ?_ ?_); (first | exact lt_alloc hb5 | (have := hb5.size; omega) | (have hthis := hb5.size; simp at hthis; first | done | omega)); intro hq5a)))))
    all_goals
      go_wp2
      refine bodyPost_ret (v := .tuple #[.agg #[.int .i64 (a * x + b * y), .int .i64 (c * x + d * y)], .int .i64 0]) (by simp [results, Try.results17, go_sem, *]) rfl ⟨ret_val EA.out.symm, ?_⟩
      repeat (first | exact B0 | refine Below.setCell ?_ (by first | omega | (simp <;> omega)) _ | refine Below.alloc ?_ (by first | omega | (simp <;> omega)) _ | refine bstep ?_ (by assumption) | refine Below.drew ?_)

end Go.Proofs.Ytcphadkgmchnfaa
