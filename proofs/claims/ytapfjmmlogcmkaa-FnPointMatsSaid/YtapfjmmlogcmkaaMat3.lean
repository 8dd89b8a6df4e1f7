/-
  Contracts of chapter 2's MultiplyMats, InverseMat and ApplyMat: the program's function and the model's have one and the same answer. No condition.
-/
import Derived.Test.YtapfjmmlogcmkaaMat2
import Derived.IntWalk
namespace Go.Proofs.Ytapfjmmlogcmkaa
open Go.RowKit
set_option linter.unusedSimpArgs false
set_option linter.unusedVariables false

set_option maxHeartbeats 1000000 in
theorem l02Inverse_any (a b c d : Int) (w : World) (h : matB a b c d = true) :
    Calls Try.prog 101 #[.agg #[.int .i64 a, .int .i64 b, .int .i64 c, .int .i64 d]] w fun e w' => e = .returned (.agg #[.int .i64 (d * (a * d - b * c)), .int .i64 (-b * (a * d - b * c)), .int .i64 (-c * (a * d - b * c)), .int .i64 (a * (a * d - b * c))]) ∧ Below w.heap.size w w' := by
  have hl := matB_lim h
  have hD := matB_det h
  obtain ⟨⟨ha, hb⟩, hc, hd⟩ := limB_bd hl
  have ht : -1 ≤ a * d - b * c ∧ a * d - b * c ≤ 1 := by omega
  generalize htd : a * d - b * c = t at ht hD
  obtain ⟨b1, b2⟩ := mulBd ht.1 ht.2 hd.1 hd.2
  obtain ⟨b3, b4⟩ := mulBd (a := -t) (A := 1) (by omega) (by omega) hb.1 hb.2
  obtain ⟨b5, b6⟩ := mulBd (a := -t) (A := 1) (by omega) (by omega) hc.1 hc.2
  obtain ⟨b7, b8⟩ := mulBd ht.1 ht.2 ha.1 ha.2
  have HT := Lib.hid htd
  clear h hD
  go_enter Try.func101, Try.ntmps101
  go_wp2_with fail
  refine (l02Det_any _ _ _ _ _ hl).mono ?_
  rintro e w1 ⟨rfl, hb1⟩
  obtain ⟨hc1, hf1⟩ := bcell hb1
  obtain ⟨hz1a, hz1b⟩ : w.heap.size < w1.heap.size ∧ w.heap.size + 1 < w1.heap.size := by have := hb1.size; (try simp at this); omega
  rw [htd]
  clear htd
  go_wp2
  refine bodyPost_ret (v := .agg #[.int .i64 (t * d), .int .i64 (-t * b), .int .i64 (-t * c), .int .i64 (t * a)]) (by simp [results, Try.results101, go_sem, hc1, hz1a, hz1b]) rfl ⟨?_, ?_⟩
  · rw [Int.mul_comm t d, Int.mul_comm t a, Int.neg_mul, Int.mul_comm t b, ← Int.neg_mul, Int.neg_mul t c, Int.mul_comm t c, ← Int.neg_mul]
  repeat (first | exact Below.refl _ _ | refine Below.setCell ?_ (by first | omega | (simp <;> omega)) _ | refine Below.alloc ?_ (by first | omega | (simp <;> omega)) _ | refine bstep ?_ (by assumption) | refine Below.drew ?_)

def mulR (a b c d a' b' c' d' : Int) : Int × Int × Int × Int × Int :=
  bif matB a b c d && matB a' b' c' d' then (bif limB (a * a' + b * c') (a * b' + b * d') (c * a' + d * c') (c * b' + d * d') then (a * a' + b * c', a * b' + b * d', c * a' + d * c', c * b' + d * d', 0) else (0, 0, 0, 0, 3)) else (0, 0, 0, 0, 1)
def matV (r : Int × Int × Int × Int × Int) : Value := .tuple #[.agg #[.int .i64 (r.1), .int .i64 (r.2.1), .int .i64 (r.2.2.1), .int .i64 (r.2.2.2.1)], .int .i64 r.2.2.2.2]
def vecV (r : Int × Int × Int) : Value := .tuple #[.agg #[.int .i64 (r.1), .int .i64 (r.2.1)], .int .i64 r.2.2]
def invR (a b c d : Int) : Int × Int × Int × Int × Int :=
  bif matB a b c d then (d * (a * d - b * c), -b * (a * d - b * c), -c * (a * d - b * c), a * (a * d - b * c), 0) else (0, 0, 0, 0, 1)
def appR (a b c d x y : Int) : Int × Int × Int :=
  bif matB a b c d && vecB x y then (bif vecB (a * x + b * y) (c * x + d * y) then (a * x + b * y, c * x + d * y, 0) else (0, 0, 3)) else (0, 0, 1)
theorem inv_lim {a b c d : Int} (h : matB a b c d = true) : limB (d * (a * d - b * c)) (-b * (a * d - b * c)) (-c * (a * d - b * c)) (a * (a * d - b * c)) = true := by
  obtain ⟨⟨ha, hb⟩, hc, hd⟩ := limB_bd (matB_lim h)
  rcases matB_det h with e | e <;> rw [e] <;> simp [limB, vecB] <;> omega

set_option maxHeartbeats 2000000 in
theorem implApp_any (a b c d x y : Int) (w : World) :
    Calls Try.prog 30 #[.agg #[.int .i64 a, .int .i64 b, .int .i64 c, .int .i64 d], .agg #[.int .i64 x, .int .i64 y]] w fun e w' => e = .returned (vecV (appR a b c d x y)) ∧ Below w.heap.size w w' := by
  rcases hu : matB a b c d with _ | _
  · have ea : vecV (appR a b c d x y) = .tuple #[.agg #[.int .i64 0, .int .i64 0], .int .i64 1] := by simp [vecV, appR, hu]
    have EA := Lib.hid ea
    clear ea
    go_enter Try.func30, Try.ntmps30
    go_wp2_with fail
    refine (implIsMat_any _ _ _ _ _).mono ?_
    rintro e w1 ⟨rfl, hb1⟩
    obtain ⟨hc1, hf1⟩ := bcell hb1
    obtain ⟨hz1a, hz1b, hz1c⟩ : w.heap.size < w1.heap.size ∧ w.heap.size + 1 < w1.heap.size ∧ w.heap.size + 1 + 1 < w1.heap.size := by have := hb1.size; (try simp at this); omega
    go_wp2
    refine bodyPost_ret (v := .tuple #[.agg #[.int .i64 0, .int .i64 0], .int .i64 1]) (by simp [results, Try.results30, go_sem, hc1, hz1a, hz1b, hz1c]) rfl ⟨ret_val EA.out.symm, ?_⟩
    repeat (first | exact Below.refl _ _ | refine Below.setCell ?_ (by first | omega | (simp <;> omega)) _ | refine Below.alloc ?_ (by first | omega | (simp <;> omega)) _ | refine bstep ?_ (by assumption) | refine Below.drew ?_)
  rcases hv : vecB x y with _ | _
  · have ea : vecV (appR a b c d x y) = .tuple #[.agg #[.int .i64 0, .int .i64 0], .int .i64 1] := by simp [vecV, appR, hv]
    have EA := Lib.hid ea
    clear ea
    go_enter Try.func30, Try.ntmps30
    go_wp2_with fail
    refine (implIsMat_any _ _ _ _ _).mono ?_
    rintro e w1 ⟨rfl, hb1⟩
    obtain ⟨hc1, hf1⟩ := bcell hb1
    obtain ⟨hz1a, hz1b, hz1c⟩ : w.heap.size < w1.heap.size ∧ w.heap.size + 1 < w1.heap.size ∧ w.heap.size + 1 + 1 < w1.heap.size := by have := hb1.size; (try simp at this); omega
    go_wp2_with fail
    refine (isValid_any _ _ _).mono ?_
    rintro e w2 ⟨rfl, hb2⟩
    obtain ⟨hc2, hf2⟩ := bcell hb2
    obtain ⟨hz2a, hz2b, hz2c⟩ : w.heap.size < w2.heap.size ∧ w.heap.size + 1 < w2.heap.size ∧ w.heap.size + 1 + 1 < w2.heap.size := by have := hb2.size; (try simp at this); omega
    go_wp2
    refine bodyPost_ret (v := .tuple #[.agg #[.int .i64 0, .int .i64 0], .int .i64 1]) (by simp [results, Try.results30, go_sem, hc1, hz1a, hz1b, hz1c, hc2, hz2a, hz2b, hz2c]) rfl ⟨ret_val EA.out.symm, ?_⟩
    repeat (first | exact Below.refl _ _ | refine Below.setCell ?_ (by first | omega | (simp <;> omega)) _ | refine Below.alloc ?_ (by first | omega | (simp <;> omega)) _ | refine bstep ?_ (by assumption) | refine Below.drew ?_)
  have lu := matB_lim hu
  rcases hs : vecB (a * x + b * y) (c * x + d * y) with _ | _
  · have ea : vecV (appR a b c d x y) = .tuple #[.agg #[.int .i64 0, .int .i64 0], .int .i64 3] := by simp [vecV, appR, hu, hv, hs]
    have EA := Lib.hid ea
    clear ea
    go_enter Try.func30, Try.ntmps30
    go_wp2_with fail
    refine (implIsMat_any _ _ _ _ _).mono ?_
    rintro e w1 ⟨rfl, hb1⟩
    obtain ⟨hc1, hf1⟩ := bcell hb1
    obtain ⟨hz1a, hz1b, hz1c⟩ : w.heap.size < w1.heap.size ∧ w.heap.size + 1 < w1.heap.size ∧ w.heap.size + 1 + 1 < w1.heap.size := by have := hb1.size; (try simp at this); omega
    go_wp2_with fail
    refine (isValid_any _ _ _).mono ?_
    rintro e w2 ⟨rfl, hb2⟩
    obtain ⟨hc2, hf2⟩ := bcell hb2
    obtain ⟨hz2a, hz2b, hz2c⟩ : w.heap.size < w2.heap.size ∧ w.heap.size + 1 < w2.heap.size ∧ w.heap.size + 1 + 1 < w2.heap.size := by have := hb2.size; (try simp at this); omega
    have M0 : Kq w.heap.size a b c d w2 := ⟨hz2a, by simp [*, go_sem], by simp [*, go_sem], by simp [*, go_sem], by simp [*, go_sem]⟩
    have N0 : Kg (w.heap.size + 1) x y w2 := ⟨hz2b, by simp [*, go_sem], by simp [*, go_sem]⟩
    have R0 : KV (w.heap.size + 1 + 1) 0 0 w2 := ⟨hz2c, by simp [*, go_sem], by simp [*, go_sem], by simp [*, go_sem], by simp [*, go_sem]⟩
    have B0 : Below w.heap.size w w2 := by repeat (first | exact Below.refl _ _ | refine Below.setCell ?_ (by first | omega | (simp <;> omega)) _ | refine Below.alloc ?_ (by first | omega | (simp <;> omega)) _ | refine bstep ?_ (by assumption) | refine Below.drew ?_)
    clear hc1 hf1 hc2 hf2 hb1 hb2
    go_wp2_with fail
    go_region_held3 (fun W => (W.cell? ⟨w.heap.size, 0, none⟩ = some (.int .i64 a) ∧ W.cell? ⟨w.heap.size, 1, none⟩ = some (.int .i64 b) ∧ W.cell? ⟨w.heap.size, 2, none⟩ = some (.int .i64 c) ∧ W.cell? ⟨w.heap.size, 3, none⟩ = some (.int .i64 d)) ∧ W.cell? ⟨w.heap.size + 1, 0, none⟩ = some (.int .i64 x) ∧ W.cell? ⟨w.heap.size + 1, 1, none⟩ = some (.int .i64 y)) ((refine Kq.vec ?_ ?_; (repeat (first | assumption | with_reducible refine Kq.alloc ?_ _ | with_reducible refine Kq.drew ?_ | ((with_reducible refine Kq.put ?_ ?_); (first | exact M0.1 | exact Nat.lt_succ_of_lt M0.1 | exact M3.1 | exact Nat.lt_succ_of_lt M3.1 | exact M4.1 | exact Nat.lt_succ_of_lt M4.1 | exact M5.1 | exact Nat.lt_succ_of_lt M5.1 | exact Nat.lt_succ_self _ | omega | (dsimp only; omega))) | with_reducible refine Kq.call ?_ (by assumption))); (repeat (first | assumption | with_reducible refine Kg.alloc ?_ _ | with_reducible refine Kg.drew ?_ | ((with_reducible refine Kg.put ?_ ?_); (first | exact N0.1 | exact Nat.lt_succ_of_lt N0.1 | exact N3.1 | exact Nat.lt_succ_of_lt N3.1 | exact N4.1 | exact Nat.lt_succ_of_lt N4.1 | exact N5.1 | exact Nat.lt_succ_of_lt N5.1 | exact Nat.lt_succ_self _ | omega | (dsimp only; omega))) | with_reducible refine Kg.call ?_ (by assumption)))))
      (first
        | (go_at_call 53; ((with_reducible refine (matrixOf_any _ _ _ _ _).mono ?_); rintro e u3 ⟨rfl, hb3⟩; have M3 : Kq (w.heap.size) a b c d u3 := (by repeat (first | assumption | with_reducible refine Kq.alloc ?_ _ | with_reducible refine Kq.drew ?_ | with_reducible refine Kq.call ?_ (by assumption))); have N3 : Kg (w.heap.size + 1) x y u3 := (by repeat (first | assumption | with_reducible refine Kg.alloc ?_ _ | with_reducible refine Kg.drew ?_ | with_reducible refine Kg.call ?_ (by assumption))); have R3 : KV (w.heap.size + 1 + 1) 0 0 u3 := (by repeat (first | assumption | with_reducible refine KV.alloc ?_ _ | with_reducible refine KV.drew ?_ | with_reducible refine KV.call ?_ (by assumption))); (try ((refine useIt (P := w.heap.size + 1 + 1 < u3.heap.size) ?_ ?_); (first | exact lt_alloc hb3 | (have := hb3.size; omega) | (have hthis := hb3.size; simp at hthis; first | done | omega)); intro hq3a))))
        | (go_at_call 70; ((with_reducible refine (apply_any _ _ _ _ _ _ _ lu hv).mono ?_); rintro e u4 ⟨rfl, hb4⟩; have M4 : Kq (w.heap.size) a b c d u4 := (by repeat (first | assumption | with_reducible refine Kq.alloc ?_ _ | with_reducible refine Kq.drew ?_ | with_reducible refine Kq.call ?_ (by assumption))); have N4 : Kg (w.heap.size + 1) x y u4 := (by repeat (first | assumption | with_reducible refine Kg.alloc ?_ _ | with_reducible refine Kg.drew ?_ | with_reducible refine Kg.call ?_ (by assumption))); have R4 : KV (w.heap.size + 1 + 1) 0 0 u4 := (by repeat (first | assumption | with_reducible refine KV.alloc ?_ _ | with_reducible refine KV.drew ?_ | with_reducible refine KV.call ?_ (by assumption))); (try ((refine useIt (P := w.heap.size + 1 + 1 < u4.heap.size) ?_ ?_); (first | exact lt_alloc hb4 | (have := hb4.size; omega) | (have hthis := hb4.size; simp at hthis; first | done | omega)); intro hq4a))))
        | (go_at_call 69; ((with_reducible refine (limitedVec_no _ _ _ hs).mono ?_); rintro e u5 ⟨rfl, hb5⟩; have M5 : Kq (w.heap.size) a b c d u5 := (by repeat (first | assumption | with_reducible refine Kq.alloc ?_ _ | with_reducible refine Kq.drew ?_ | with_reducible refine Kq.call ?_ (by assumption))); have N5 : Kg (w.heap.size + 1) x y u5 := (by repeat (first | assumption | with_reducible refine Kg.alloc ?_ _ | with_reducible refine Kg.drew ?_ | with_reducible refine Kg.call ?_ (by assumption))); have R5 : KV (w.heap.size + 1 + 1) 0 0 u5 := (by repeat (first | assumption | with_reducible refine KV.alloc ?_ _ | with_reducible refine KV.drew ?_ | with_reducible refine KV.call ?_ (by assumption))); have c0 := R5.c0; have c1 := R5.c1; have f0 := R5.f0; have f1 := R5.f1; (try ((refine useIt (P := w.heap.size + 1 + 1 < u5.heap.size) ?_ ?_); (first | exact lt_alloc hb5 | (have := hb5.size; omega) | (have hthis := hb5.size; simp at hthis; first | done | omega)); intro hq5a)))))
    all_goals
      go_wp2
      refine bodyPost_ret (v := .tuple #[.agg #[.int .i64 0, .int .i64 0], .int .i64 3]) (by simp [results, Try.results30, go_sem, *]) rfl ⟨ret_val EA.out.symm, ?_⟩
      repeat (first | exact B0 | refine Below.setCell ?_ (by first | omega | (simp <;> omega)) _ | refine Below.alloc ?_ (by first | omega | (simp <;> omega)) _ | refine bstep ?_ (by assumption) | refine Below.drew ?_)
  · have ea : vecV (appR a b c d x y) = .tuple #[.agg #[.int .i64 (a * x + b * y), .int .i64 (c * x + d * y)], .int .i64 0] := by simp [vecV, appR, hu, hv, hs]
    have EA := Lib.hid ea
    clear ea
    go_enter Try.func30, Try.ntmps30
    go_wp2_with fail
    refine (implIsMat_any _ _ _ _ _).mono ?_
    rintro e w1 ⟨rfl, hb1⟩
    obtain ⟨hc1, hf1⟩ := bcell hb1
    obtain ⟨hz1a, hz1b, hz1c⟩ : w.heap.size < w1.heap.size ∧ w.heap.size + 1 < w1.heap.size ∧ w.heap.size + 1 + 1 < w1.heap.size := by have := hb1.size; (try simp at this); omega
    go_wp2_with fail
    refine (isValid_any _ _ _).mono ?_
    rintro e w2 ⟨rfl, hb2⟩
    obtain ⟨hc2, hf2⟩ := bcell hb2
    obtain ⟨hz2a, hz2b, hz2c⟩ : w.heap.size < w2.heap.size ∧ w.heap.size + 1 < w2.heap.size ∧ w.heap.size + 1 + 1 < w2.heap.size := by have := hb2.size; (try simp at this); omega
    have M0 : Kq w.heap.size a b c d w2 := ⟨hz2a, by simp [*, go_sem], by simp [*, go_sem], by simp [*, go_sem], by simp [*, go_sem]⟩
    have N0 : Kg (w.heap.size + 1) x y w2 := ⟨hz2b, by simp [*, go_sem], by simp [*, go_sem]⟩
    have R0 : KV (w.heap.size + 1 + 1) 0 0 w2 := ⟨hz2c, by simp [*, go_sem], by simp [*, go_sem], by simp [*, go_sem], by simp [*, go_sem]⟩
    have B0 : Below w.heap.size w w2 := by repeat (first | exact Below.refl _ _ | refine Below.setCell ?_ (by first | omega | (simp <;> omega)) _ | refine Below.alloc ?_ (by first | omega | (simp <;> omega)) _ | refine bstep ?_ (by assumption) | refine Below.drew ?_)
    clear hc1 hf1 hc2 hf2 hb1 hb2
    go_wp2_with fail
    go_region_held3 (fun W => (W.cell? ⟨w.heap.size, 0, none⟩ = some (.int .i64 a) ∧ W.cell? ⟨w.heap.size, 1, none⟩ = some (.int .i64 b) ∧ W.cell? ⟨w.heap.size, 2, none⟩ = some (.int .i64 c) ∧ W.cell? ⟨w.heap.size, 3, none⟩ = some (.int .i64 d)) ∧ W.cell? ⟨w.heap.size + 1, 0, none⟩ = some (.int .i64 x) ∧ W.cell? ⟨w.heap.size + 1, 1, none⟩ = some (.int .i64 y)) ((refine Kq.vec ?_ ?_; (repeat (first | assumption | with_reducible refine Kq.alloc ?_ _ | with_reducible refine Kq.drew ?_ | ((with_reducible refine Kq.put ?_ ?_); (first | exact M0.1 | exact Nat.lt_succ_of_lt M0.1 | exact M3.1 | exact Nat.lt_succ_of_lt M3.1 | exact M4.1 | exact Nat.lt_succ_of_lt M4.1 | exact M5.1 | exact Nat.lt_succ_of_lt M5.1 | exact Nat.lt_succ_self _ | omega | (dsimp only; omega))) | with_reducible refine Kq.call ?_ (by assumption))); (repeat (first | assumption | with_reducible refine Kg.alloc ?_ _ | with_reducible refine Kg.drew ?_ | ((with_reducible refine Kg.put ?_ ?_); (first | exact N0.1 | exact Nat.lt_succ_of_lt N0.1 | exact N3.1 | exact Nat.lt_succ_of_lt N3.1 | exact N4.1 | exact Nat.lt_succ_of_lt N4.1 | exact N5.1 | exact Nat.lt_succ_of_lt N5.1 | exact Nat.lt_succ_self _ | omega | (dsimp only; omega))) | with_reducible refine Kg.call ?_ (by assumption)))))
      (first
        | (go_at_call 53; ((with_reducible refine (matrixOf_any _ _ _ _ _).mono ?_); rintro e u3 ⟨rfl, hb3⟩; have M3 : Kq (w.heap.size) a b c d u3 := (by repeat (first | assumption | with_reducible refine Kq.alloc ?_ _ | with_reducible refine Kq.drew ?_ | with_reducible refine Kq.call ?_ (by assumption))); have N3 : Kg (w.heap.size + 1) x y u3 := (by repeat (first | assumption | with_reducible refine Kg.alloc ?_ _ | with_reducible refine Kg.drew ?_ | with_reducible refine Kg.call ?_ (by assumption))); have R3 : KV (w.heap.size + 1 + 1) 0 0 u3 := (by repeat (first | assumption | with_reducible refine KV.alloc ?_ _ | with_reducible refine KV.drew ?_ | with_reducible refine KV.call ?_ (by assumption))); (try ((refine useIt (P := w.heap.size + 1 + 1 < u3.heap.size) ?_ ?_); (first | exact lt_alloc hb3 | (have := hb3.size; omega) | (have hthis := hb3.size; simp at hthis; first | done | omega)); intro hq3a))))
        | (go_at_call 70; ((with_reducible refine (apply_any _ _ _ _ _ _ _ lu hv).mono ?_); rintro e u4 ⟨rfl, hb4⟩; have M4 : Kq (w.heap.size) a b c d u4 := (by repeat (first | assumption | with_reducible refine Kq.alloc ?_ _ | with_reducible refine Kq.drew ?_ | with_reducible refine Kq.call ?_ (by assumption))); have N4 : Kg (w.heap.size + 1) x y u4 := (by repeat (first | assumption | with_reducible refine Kg.alloc ?_ _ | with_reducible refine Kg.drew ?_ | with_reducible refine Kg.call ?_ (by assumption))); have R4 : KV (w.heap.size + 1 + 1) 0 0 u4 := (by repeat (first | assumption | with_reducible refine KV.alloc ?_ _ | with_reducible refine KV.drew ?_ | with_reducible refine KV.call ?_ (by assumption))); (try ((refine useIt (P := w.heap.size + 1 + 1 < u4.heap.size) ?_ ?_); (first | exact lt_alloc hb4 | (have := hb4.size; omega) | (have hthis := hb4.size; simp at hthis; first | done | omega)); intro hq4a))))
        | (go_at_call 69; ((with_reducible refine (limitedVec_yes _ _ _ hs).mono ?_); rintro e u5 ⟨rfl, hb5⟩; have M5 : Kq (w.heap.size) a b c d u5 := (by repeat (first | assumption | with_reducible refine Kq.alloc ?_ _ | with_reducible refine Kq.drew ?_ | with_reducible refine Kq.call ?_ (by assumption))); have N5 : Kg (w.heap.size + 1) x y u5 := (by repeat (first | assumption | with_reducible refine Kg.alloc ?_ _ | with_reducible refine Kg.drew ?_ | with_reducible refine Kg.call ?_ (by assumption))); have R5 : KV (w.heap.size + 1 + 1) 0 0 u5 := (by repeat (first | assumption | with_reducible refine KV.alloc ?_ _ | with_reducible refine KV.drew ?_ | with_reducible refine KV.call ?_ (by assumption))); have c0 := R5.c0; have c1 := R5.c1; have f0 := R5.f0; have f1 := R5.f1; (try ((refine useIt (P := w.heap.size + 1 + 1 < u5.heap.size) ?_ ?_); (first | exact lt_alloc hb5 | (have := hb5.size; omega) | (have hthis := hb5.size; simp at hthis; first | done | omega)); intro hq5a)))))
    all_goals
      go_wp2
      refine bodyPost_ret (v := .tuple #[.agg #[.int .i64 (a * x + b * y), .int .i64 (c * x + d * y)], .int .i64 0]) (by simp [results, Try.results30, go_sem, *]) rfl ⟨ret_val EA.out.symm, ?_⟩
      repeat (first | exact B0 | refine Below.setCell ?_ (by first | omega | (simp <;> omega)) _ | refine Below.alloc ?_ (by first | omega | (simp <;> omega)) _ | refine bstep ?_ (by assumption) | refine Below.drew ?_)

end Go.Proofs.Ytapfjmmlogcmkaa
