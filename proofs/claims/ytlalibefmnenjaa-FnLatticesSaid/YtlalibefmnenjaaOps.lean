/-
  Contracts of chapter 1's functions on multiples and determinants: the program's function and the model's have one and the same answer.
-/
import Derived.Test.YtlalibefmnenjaaChap1
namespace Go.Proofs.Ytlalibefmnenjaa
open Go.RowKit
set_option linter.unusedSimpArgs false

theorem mul_bd {a b : Int} {A B : Int} (ha : -A ≤ a) (ha' : a ≤ A) (hb : -B ≤ b) (hb' : b ≤ B) : -(A * B) ≤ a * b ∧ a * b ≤ A * B := by
  have hA : 0 ≤ A := by omega
  have hB : 0 ≤ B := by omega
  have h1 : a.natAbs ≤ A.natAbs := by omega
  have h2 : b.natAbs ≤ B.natAbs := by omega
  have h3 : (a * b).natAbs ≤ (A * B).natAbs := by
    rw [Int.natAbs_mul, Int.natAbs_mul]; exact Nat.mul_le_mul h1 h2
  have h4 : 0 ≤ A * B := Int.mul_nonneg hA hB
  omega

theorem mul_1000 {a b : Int} (ha : -1000 ≤ a) (ha' : a ≤ 1000) (hb : -1000 ≤ b) (hb' : b ≤ 1000) : -1000000 ≤ a * b ∧ a * b ≤ 1000000 := by
  have := mul_bd ha ha' hb hb'
  omega

set_option maxHeartbeats 400000 in
theorem times_any (x y n : Int) (w : World) (h : vecB x y = true) (h' : inB n (-1000) 1000 = true) :
    Calls Try.prog 70 #[.agg #[.int .i64 x, .int .i64 y], .int .i64 n] w fun e w' => e = .returned (.agg #[.int .i64 (x * n), .int .i64 (y * n)]) ∧ Below w.heap.size w w' := by
  obtain ⟨⟨a1, a2⟩, a3, a4⟩ := vecB_bd h
  obtain ⟨a5, a6⟩ := inB_bd h'
  obtain ⟨b1, b2⟩ := mul_1000 a1 a2 a5 a6
  obtain ⟨b3, b4⟩ := mul_1000 a3 a4 a5 a6
  clear h h'
  go_enter Try.func70, Try.ntmps70
  go_wp2
  refine bodyPost_ret (v := .agg #[.int .i64 (x * n), .int .i64 (y * n)]) (by simp [results, Try.results70, go_sem]) rfl ⟨rfl, ?_⟩
  repeat (first | exact Below.refl _ _ | refine Below.setCell ?_ (by first | omega | (simp <;> omega)) _ | refine Below.alloc ?_ (by first | omega | (simp <;> omega)) _ | refine bstep ?_ (by assumption) | refine Below.drew ?_)

set_option maxHeartbeats 400000 in
theorem l01Scale_any (x y n : Int) (w : World) (h : vecB x y = true) (h' : inB n (-1000) 1000 = true) :
    Calls Try.prog 84 #[.agg #[.int .i64 x, .int .i64 y], .int .i64 n] w fun e w' => e = .returned (.agg #[.int .i64 (x * n), .int .i64 (y * n)]) ∧ Below w.heap.size w w' := by
  obtain ⟨⟨a1, a2⟩, a3, a4⟩ := vecB_bd h
  obtain ⟨a5, a6⟩ := inB_bd h'
  obtain ⟨b1, b2⟩ := mul_1000 a5 a6 a1 a2
  obtain ⟨b3, b4⟩ := mul_1000 a5 a6 a3 a4
  clear h h'
  go_enter Try.func84, Try.ntmps84
  go_wp2
  refine bodyPost_ret (v := .agg #[.int .i64 (n * x), .int .i64 (n * y)]) (by simp [results, Try.results84, go_sem]) rfl ⟨by rw [Int.mul_comm n x, Int.mul_comm n y], ?_⟩
  repeat (first | exact Below.refl _ _ | refine Below.setCell ?_ (by first | omega | (simp <;> omega)) _ | refine Below.alloc ?_ (by first | omega | (simp <;> omega)) _ | refine bstep ?_ (by assumption) | refine Below.drew ?_)

def scaleR (x y n : Int) : Int × Int × Int :=
  bif vecB x y then (bif inB n (-1000) 1000 then (bif vecB (x * n) (y * n) then (x * n, y * n, 0) else (0, 0, 3)) else (0, 0, 2)) else (0, 0, 1)
def scaleV (x y n : Int) : Value := .tuple #[.agg #[.int .i64 ((scaleR x y n).1), .int .i64 ((scaleR x y n).2.1)], .int .i64 (scaleR x y n).2.2]
def detR (x y x' y' : Int) : Int × Int := bif vecB x y && vecB x' y' then (x * y' - y * x', 0) else (0, 1)
def detV (x y x' y' : Int) : Value := .tuple #[.int .i64 (detR x y x' y').1, .int .i64 (detR x y x' y').2]

set_option maxHeartbeats 1000000 in
theorem implScale_any (x y n : Int) (w : World) :
    Calls Try.prog 26 #[.agg #[.int .i64 x, .int .i64 y], .int .i64 n] w fun e w' => e = .returned (scaleV x y n) ∧ Below w.heap.size w w' := by
  rcases hu : vecB x y with _ | _
  · have ea : scaleV x y n = .tuple #[.agg #[.int .i64 0, .int .i64 0], .int .i64 1] := by simp [scaleV, scaleR, hu]
    have EA := Lib.hid ea
    clear ea
    go_enter Try.func26, Try.ntmps26
    go_wp2_with fail
    refine (isValid_any _ _ _).mono ?_
    rintro e w1 ⟨rfl, hb1⟩
    obtain ⟨hc1, hf1⟩ := bcell hb1
    obtain ⟨hz1a, hz1b⟩ : w.heap.size < w1.heap.size ∧ w.heap.size + 1 < w1.heap.size := by have := hb1.size; (try simp at this); omega
    go_wp2
    refine bodyPost_ret (v := .tuple #[.agg #[.int .i64 0, .int .i64 0], .int .i64 1]) (by simp [results, Try.results26, go_sem, hc1, hz1a, hz1b]) rfl ⟨ret_val EA.out.symm, ?_⟩
    repeat (first | exact Below.refl _ _ | refine Below.setCell ?_ (by first | omega | (simp <;> omega)) _ | refine Below.alloc ?_ (by first | omega | (simp <;> omega)) _ | refine bstep ?_ (by assumption) | refine Below.drew ?_)
  rcases hn : inB n (-1000) 1000 with _ | _
  · have ea : scaleV x y n = .tuple #[.agg #[.int .i64 0, .int .i64 0], .int .i64 2] := by simp [scaleV, scaleR, hu, hn]
    have EA := Lib.hid ea
    clear ea
    go_enter Try.func26, Try.ntmps26
    go_wp2_with fail
    refine (isValid_any _ _ _).mono ?_
    rintro e w1 ⟨rfl, hb1⟩
    obtain ⟨hc1, hf1⟩ := bcell hb1
    obtain ⟨hz1a, hz1b⟩ : w.heap.size < w1.heap.size ∧ w.heap.size + 1 < w1.heap.size := by have := hb1.size; (try simp at this); omega
    go_wp2_with fail
    refine (isWithin_any _ _ _ (by omega) (by omega)).mono ?_
    rintro e w2 ⟨rfl, rfl⟩
    go_wp2
    refine bodyPost_ret (v := .tuple #[.agg #[.int .i64 0, .int .i64 0], .int .i64 2]) (by simp [results, Try.results26, go_sem, hc1, hz1a, hz1b]) rfl ⟨ret_val EA.out.symm, ?_⟩
    repeat (first | exact Below.refl _ _ | refine Below.setCell ?_ (by first | omega | (simp <;> omega)) _ | refine Below.alloc ?_ (by first | omega | (simp <;> omega)) _ | refine bstep ?_ (by assumption) | refine Below.drew ?_)
  rcases hs : vecB (x * n) (y * n) with _ | _
  · have ea : scaleV x y n = .tuple #[.agg #[.int .i64 0, .int .i64 0], .int .i64 3] := by simp [scaleV, scaleR, hu, hn, hs]
    have EA := Lib.hid ea
    clear ea
    go_enter Try.func26, Try.ntmps26
    go_wp2_with fail
    refine (isValid_any _ _ _).mono ?_
    rintro e w1 ⟨rfl, hb1⟩
    obtain ⟨hc1, hf1⟩ := bcell hb1
    obtain ⟨hz1a, hz1b⟩ : w.heap.size < w1.heap.size ∧ w.heap.size + 1 < w1.heap.size := by have := hb1.size; (try simp at this); omega
    go_wp2_with fail
    refine (isWithin_any _ _ _ (by omega) (by omega)).mono ?_
    rintro e w2 ⟨rfl, rfl⟩
    go_wp2_with fail
    refine (times_any _ _ _ _ hu hn).mono ?_
    rintro e w3 ⟨rfl, hb3⟩
    obtain ⟨hc3, hf3⟩ := bcell hb3
    obtain ⟨hz3a, hz3b⟩ : w.heap.size < w3.heap.size ∧ w.heap.size + 1 < w3.heap.size := by have := hb3.size; (try simp at this); omega
    go_wp2_with fail
    refine (limitedVec_no _ _ _ hs).mono ?_
    rintro e w4 ⟨rfl, hb4⟩
    obtain ⟨hc4, hf4⟩ := bcell hb4
    obtain ⟨hz4a, hz4b⟩ : w.heap.size < w4.heap.size ∧ w.heap.size + 1 < w4.heap.size := by have := hb4.size; (try simp at this); omega
    go_wp2
    refine bodyPost_ret (v := .tuple #[.agg #[.int .i64 0, .int .i64 0], .int .i64 3]) (by simp [results, Try.results26, go_sem, hc1, hz1a, hz1b, hc3, hz3a, hz3b, hc4, hz4a, hz4b]) rfl ⟨ret_val EA.out.symm, ?_⟩
    repeat (first | exact Below.refl _ _ | refine Below.setCell ?_ (by first | omega | (simp <;> omega)) _ | refine Below.alloc ?_ (by first | omega | (simp <;> omega)) _ | refine bstep ?_ (by assumption) | refine Below.drew ?_)
  · have ea : scaleV x y n = .tuple #[.agg #[.int .i64 (x * n), .int .i64 (y * n)], .int .i64 0] := by simp [scaleV, scaleR, hu, hn, hs]
    have EA := Lib.hid ea
    clear ea
    go_enter Try.func26, Try.ntmps26
    go_wp2_with fail
    refine (isValid_any _ _ _).mono ?_
    rintro e w1 ⟨rfl, hb1⟩
    obtain ⟨hc1, hf1⟩ := bcell hb1
    obtain ⟨hz1a, hz1b⟩ : w.heap.size < w1.heap.size ∧ w.heap.size + 1 < w1.heap.size := by have := hb1.size; (try simp at this); omega
    go_wp2_with fail
    refine (isWithin_any _ _ _ (by omega) (by omega)).mono ?_
    rintro e w2 ⟨rfl, rfl⟩
    go_wp2_with fail
    refine (times_any _ _ _ _ hu hn).mono ?_
    rintro e w3 ⟨rfl, hb3⟩
    obtain ⟨hc3, hf3⟩ := bcell hb3
    obtain ⟨hz3a, hz3b⟩ : w.heap.size < w3.heap.size ∧ w.heap.size + 1 < w3.heap.size := by have := hb3.size; (try simp at this); omega
    go_wp2_with fail
    refine (limitedVec_yes _ _ _ hs).mono ?_
    rintro e w4 ⟨rfl, hb4⟩
    obtain ⟨hc4, hf4⟩ := bcell hb4
    obtain ⟨hz4a, hz4b⟩ : w.heap.size < w4.heap.size ∧ w.heap.size + 1 < w4.heap.size := by have := hb4.size; (try simp at this); omega
    go_wp2
    refine bodyPost_ret (v := .tuple #[.agg #[.int .i64 (x * n), .int .i64 (y * n)], .int .i64 0]) (by simp [results, Try.results26, go_sem, hc1, hz1a, hz1b, hc3, hz3a, hz3b, hc4, hz4a, hz4b]) rfl ⟨ret_val EA.out.symm, ?_⟩
    repeat (first | exact Below.refl _ _ | refine Below.setCell ?_ (by first | omega | (simp <;> omega)) _ | refine Below.alloc ?_ (by first | omega | (simp <;> omega)) _ | refine bstep ?_ (by assumption) | refine Below.drew ?_)

set_option maxHeartbeats 400000 in
theorem cross_any (x y x' y' : Int) (w : World) (h : vecB x y = true) (h' : vecB x' y' = true) :
    Calls Try.prog 60 #[.agg #[.int .i64 x, .int .i64 y], .agg #[.int .i64 x', .int .i64 y']] w fun e w' => e = .returned (.int .i64 (x * y' - y * x')) ∧ Below w.heap.size w w' := by
  obtain ⟨⟨a1, a2⟩, a3, a4⟩ := vecB_bd h
  obtain ⟨⟨a5, a6⟩, a7, a8⟩ := vecB_bd h'
  obtain ⟨b1, b2⟩ := mul_1000 a1 a2 a7 a8
  obtain ⟨b3, b4⟩ := mul_1000 a3 a4 a5 a6
  clear h h'
  go_enter Try.func60, Try.ntmps60
  go_wp2
  go_ret
  refine ⟨rfl, ?_⟩
  repeat (first | exact Below.refl _ _ | refine Below.setCell ?_ (by first | omega | (simp <;> omega)) _ | refine Below.alloc ?_ (by first | omega | (simp <;> omega)) _ | refine bstep ?_ (by assumption) | refine Below.drew ?_)

set_option maxHeartbeats 400000 in
theorem l01Det_any (x y x' y' : Int) (w : World) (h : vecB x y = true) (h' : vecB x' y' = true) :
    Calls Try.prog 64 #[.agg #[.int .i64 x, .int .i64 y], .agg #[.int .i64 x', .int .i64 y']] w fun e w' => e = .returned (.int .i64 (x * y' - y * x')) ∧ Below w.heap.size w w' := by
  obtain ⟨⟨a1, a2⟩, a3, a4⟩ := vecB_bd h
  obtain ⟨⟨a5, a6⟩, a7, a8⟩ := vecB_bd h'
  obtain ⟨b1, b2⟩ := mul_1000 a1 a2 a7 a8
  obtain ⟨b3, b4⟩ := mul_1000 a3 a4 a5 a6
  clear h h'
  go_enter Try.func64, Try.ntmps64
  go_wp2
  go_ret
  refine ⟨rfl, ?_⟩
  repeat (first | exact Below.refl _ _ | refine Below.setCell ?_ (by first | omega | (simp <;> omega)) _ | refine Below.alloc ?_ (by first | omega | (simp <;> omega)) _ | refine bstep ?_ (by assumption) | refine Below.drew ?_)

set_option maxHeartbeats 1000000 in
theorem implDet_any (x y x' y' : Int) (w : World) :
    Calls Try.prog 25 #[.agg #[.int .i64 x, .int .i64 y], .agg #[.int .i64 x', .int .i64 y']] w fun e w' => e = .returned (detV x y x' y') ∧ Below w.heap.size w w' := by
  rcases hu : vecB x y with _ | _
  · have ea : detV x y x' y' = .tuple #[.int .i64 0, .int .i64 1] := by simp [detV, detR, hu]
    have EA := Lib.hid ea
    clear ea
    go_enter Try.func25, Try.ntmps25
    go_wp2_with fail
    refine (isValid_any _ _ _).mono ?_
    rintro e w1 ⟨rfl, hb1⟩
    obtain ⟨hc1, hf1⟩ := bcell hb1
    obtain ⟨hz1a, hz1b⟩ : w.heap.size < w1.heap.size ∧ w.heap.size + 1 < w1.heap.size := by have := hb1.size; (try simp at this); omega
    go_wp2
    go_ret2
    refine ⟨ret_val EA.out.symm, ?_⟩
    repeat (first | exact Below.refl _ _ | refine Below.setCell ?_ (by first | omega | (simp <;> omega)) _ | refine Below.alloc ?_ (by first | omega | (simp <;> omega)) _ | refine bstep ?_ (by assumption) | refine Below.drew ?_)
  rcases hv : vecB x' y' with _ | _
  · have ea : detV x y x' y' = .tuple #[.int .i64 0, .int .i64 1] := by simp [detV, detR, hv]
    have EA := Lib.hid ea
    clear ea
    go_enter Try.func25, Try.ntmps25
    go_wp2_with fail
    refine (isValid_any _ _ _).mono ?_
    rintro e w1 ⟨rfl, hb1⟩
    obtain ⟨hc1, hf1⟩ := bcell hb1
    obtain ⟨hz1a, hz1b⟩ : w.heap.size < w1.heap.size ∧ w.heap.size + 1 < w1.heap.size := by have := hb1.size; (try simp at this); omega
    go_wp2_with fail
    refine (isValid_any _ _ _).mono ?_
    rintro e w2 ⟨rfl, hb2⟩
    obtain ⟨hc2, hf2⟩ := bcell hb2
    obtain ⟨hz2a, hz2b⟩ : w.heap.size < w2.heap.size ∧ w.heap.size + 1 < w2.heap.size := by have := hb2.size; (try simp at this); omega
    go_wp2
    go_ret2
    refine ⟨ret_val EA.out.symm, ?_⟩
    repeat (first | exact Below.refl _ _ | refine Below.setCell ?_ (by first | omega | (simp <;> omega)) _ | refine Below.alloc ?_ (by first | omega | (simp <;> omega)) _ | refine bstep ?_ (by assumption) | refine Below.drew ?_)
  · have ea : detV x y x' y' = .tuple #[.int .i64 (x * y' - y * x'), .int .i64 0] := by simp [detV, detR, hu, hv]
    have EA := Lib.hid ea
    clear ea
    go_enter Try.func25, Try.ntmps25
    go_wp2_with fail
    refine (isValid_any _ _ _).mono ?_
    rintro e w1 ⟨rfl, hb1⟩
    obtain ⟨hc1, hf1⟩ := bcell hb1
    obtain ⟨hz1a, hz1b⟩ : w.heap.size < w1.heap.size ∧ w.heap.size + 1 < w1.heap.size := by have := hb1.size; (try simp at this); omega
    go_wp2_with fail
    refine (isValid_any _ _ _).mono ?_
    rintro e w2 ⟨rfl, hb2⟩
    obtain ⟨hc2, hf2⟩ := bcell hb2
    obtain ⟨hz2a, hz2b⟩ : w.heap.size < w2.heap.size ∧ w.heap.size + 1 < w2.heap.size := by have := hb2.size; (try simp at this); omega
    go_wp2_with fail
    refine (cross_any _ _ _ _ _ hu hv).mono ?_
    rintro e w3 ⟨rfl, hb3⟩
    obtain ⟨hc3, hf3⟩ := bcell hb3
    obtain ⟨hz3a, hz3b⟩ : w.heap.size < w3.heap.size ∧ w.heap.size + 1 < w3.heap.size := by have := hb3.size; (try simp at this); omega
    go_wp2
    go_ret2
    refine ⟨ret_val EA.out.symm, ?_⟩
    repeat (first | exact Below.refl _ _ | refine Below.setCell ?_ (by first | omega | (simp <;> omega)) _ | refine Below.alloc ?_ (by first | omega | (simp <;> omega)) _ | refine bstep ?_ (by assumption) | refine Below.drew ?_)

end Go.Proofs.Ytlalibefmnenjaa
