/-
  Contracts of chapter 1's functions on sums, multiples and determinants: the program's function and the model's have one and the same answer. Conditions: only that the arguments are int64 where it is stated.
-/
import Derived.Test.YtlalibefmnenjaaBase
namespace Go.Proofs.Ytlalibefmnenjaa
open Go.RowKit
set_option linter.unusedSimpArgs false

set_option maxHeartbeats 400000 in
theorem limitedVec_yes (x y : Int) (w : World) (h : vecB x y = true) :
    Calls Try.prog 69 #[.agg #[.int .i64 x, .int .i64 y]] w fun e w' => e = .returned (.tuple #[.agg #[.int .i64 x, .int .i64 y], .int .i64 0]) ∧ Below w.heap.size w w' := by
  go_enter Try.func69, Try.ntmps69
  go_wp2_with fail
  refine (isValid_any _ _ _).mono ?_
  rintro e w1 ⟨rfl, hb1⟩
  obtain ⟨hc1, hf1⟩ := bcell hb1
  go_wp2
  refine bodyPost_ret (v := .tuple #[.agg #[.int .i64 x, .int .i64 y], .int .i64 0]) (by simp [results, Try.results69, go_sem, hc1]) rfl ⟨rfl, ?_⟩
  repeat (first | exact Below.refl _ _ | exact Below.trans (((Below.refl _ _).alloc (by simp) _).alloc (by simp) _) (hb1.mono (by simp; omega)) | refine Below.setCell ?_ (by simp) _)

set_option maxHeartbeats 400000 in
theorem limitedVec_no (x y : Int) (w : World) (h : vecB x y = false) :
    Calls Try.prog 69 #[.agg #[.int .i64 x, .int .i64 y]] w fun e w' => e = .returned (.tuple #[.agg #[.int .i64 0, .int .i64 0], .int .i64 3]) ∧ Below w.heap.size w w' := by
  go_enter Try.func69, Try.ntmps69
  go_wp2_with fail
  refine (isValid_any _ _ _).mono ?_
  rintro e w1 ⟨rfl, hb1⟩
  obtain ⟨hc1, hf1⟩ := bcell hb1
  go_wp2
  refine bodyPost_ret (v := .tuple #[.agg #[.int .i64 0, .int .i64 0], .int .i64 3]) (by simp [results, Try.results69, go_sem, hc1]) rfl ⟨rfl, ?_⟩
  repeat (first | exact Below.refl _ _ | exact Below.trans (((Below.refl _ _).alloc (by simp) _).alloc (by simp) _) (hb1.mono (by simp; omega)) | refine Below.setCell ?_ (by simp) _)

def addR (x y x' y' : Int) : Int × Int × Int :=
  bif vecB x y && vecB x' y' then (bif vecB (x + x') (y + y') then (x + x', y + y', 0) else (0, 0, 3)) else (0, 0, 1)
def addV (x y x' y' : Int) : Value := .tuple #[.agg #[.int .i64 ((addR x y x' y').1), .int .i64 ((addR x y x' y').2.1)], .int .i64 (addR x y x' y').2.2]

set_option maxHeartbeats 1000000 in
theorem implAdd_any (x y x' y' : Int) (w : World) :
    Calls Try.prog 27 #[.agg #[.int .i64 x, .int .i64 y], .agg #[.int .i64 x', .int .i64 y']] w fun e w' => e = .returned (addV x y x' y') ∧ Below w.heap.size w w' := by
  rcases hu : vecB x y with _ | _
  · have ea : addV x y x' y' = .tuple #[.agg #[.int .i64 0, .int .i64 0], .int .i64 1] := by simp [addV, addR, hu]
    have EA := Lib.hid ea
    clear ea
    go_enter Try.func27, Try.ntmps27
    go_wp2_with fail
    refine (isValid_any _ _ _).mono ?_
    rintro e w1 ⟨rfl, hb1⟩
    obtain ⟨hc1, hf1⟩ := bcell hb1
    obtain ⟨hz1a, hz1b, hz1c⟩ : w.heap.size < w1.heap.size ∧ w.heap.size + 1 < w1.heap.size ∧ w.heap.size + 1 + 1 < w1.heap.size := by have := hb1.size; (try simp at this); omega
    go_wp2
    refine bodyPost_ret (v := .tuple #[.agg #[.int .i64 0, .int .i64 0], .int .i64 1]) (by simp [results, Try.results27, go_sem, hc1, hz1a, hz1b, hz1c]) rfl ⟨ret_val EA.out.symm, ?_⟩
    repeat (first | exact Below.refl _ _ | refine Below.setCell ?_ (by simp <;> omega) _ | refine Below.alloc ?_ (by simp <;> omega) _ | refine bstep ?_ (by assumption))
  rcases hv : vecB x' y' with _ | _
  · have ea : addV x y x' y' = .tuple #[.agg #[.int .i64 0, .int .i64 0], .int .i64 1] := by simp [addV, addR, hv]
    have EA := Lib.hid ea
    clear ea
    go_enter Try.func27, Try.ntmps27
    go_wp2_with fail
    refine (isValid_any _ _ _).mono ?_
    rintro e w1 ⟨rfl, hb1⟩
    obtain ⟨hc1, hf1⟩ := bcell hb1
    obtain ⟨hz1a, hz1b, hz1c⟩ : w.heap.size < w1.heap.size ∧ w.heap.size + 1 < w1.heap.size ∧ w.heap.size + 1 + 1 < w1.heap.size := by have := hb1.size; (try simp at this); omega
    go_wp2_with fail
    refine (isValid_any _ _ _).mono ?_
    rintro e w2 ⟨rfl, hb2⟩
    obtain ⟨hc2, hf2⟩ := bcell hb2
    obtain ⟨hz2a, hz2b, hz2c⟩ : w.heap.size < w2.heap.size ∧ w.heap.size + 1 < w2.heap.size ∧ w.heap.size + 1 + 1 < w2.heap.size := by have := hb2.size; (try simp at this); omega
    go_wp2
    refine bodyPost_ret (v := .tuple #[.agg #[.int .i64 0, .int .i64 0], .int .i64 1]) (by simp [results, Try.results27, go_sem, hc1, hz1a, hz1b, hz1c, hc2, hz2a, hz2b, hz2c]) rfl ⟨ret_val EA.out.symm, ?_⟩
    repeat (first | exact Below.refl _ _ | refine Below.setCell ?_ (by simp <;> omega) _ | refine Below.alloc ?_ (by simp <;> omega) _ | refine bstep ?_ (by assumption))
  rcases hs : vecB (x + x') (y + y') with _ | _
  · have ea : addV x y x' y' = .tuple #[.agg #[.int .i64 0, .int .i64 0], .int .i64 3] := by simp [addV, addR, hu, hv, hs]
    have EA := Lib.hid ea
    clear ea
    go_enter Try.func27, Try.ntmps27
    go_wp2_with fail
    refine (isValid_any _ _ _).mono ?_
    rintro e w1 ⟨rfl, hb1⟩
    obtain ⟨hc1, hf1⟩ := bcell hb1
    obtain ⟨hz1a, hz1b, hz1c⟩ : w.heap.size < w1.heap.size ∧ w.heap.size + 1 < w1.heap.size ∧ w.heap.size + 1 + 1 < w1.heap.size := by have := hb1.size; (try simp at this); omega
    go_wp2_with fail
    refine (isValid_any _ _ _).mono ?_
    rintro e w2 ⟨rfl, hb2⟩
    obtain ⟨hc2, hf2⟩ := bcell hb2
    obtain ⟨hz2a, hz2b, hz2c⟩ : w.heap.size < w2.heap.size ∧ w.heap.size + 1 < w2.heap.size ∧ w.heap.size + 1 + 1 < w2.heap.size := by have := hb2.size; (try simp at this); omega
    go_wp2_with fail
    refine (plus_any _ _ _ _ _ hu hv).mono ?_
    rintro e w3 ⟨rfl, hb3⟩
    obtain ⟨hc3, hf3⟩ := bcell hb3
    obtain ⟨hz3a, hz3b, hz3c⟩ : w.heap.size < w3.heap.size ∧ w.heap.size + 1 < w3.heap.size ∧ w.heap.size + 1 + 1 < w3.heap.size := by have := hb3.size; (try simp at this); omega
    go_wp2_with fail
    refine (limitedVec_no _ _ _ hs).mono ?_
    rintro e w4 ⟨rfl, hb4⟩
    obtain ⟨hc4, hf4⟩ := bcell hb4
    obtain ⟨hz4a, hz4b, hz4c⟩ : w.heap.size < w4.heap.size ∧ w.heap.size + 1 < w4.heap.size ∧ w.heap.size + 1 + 1 < w4.heap.size := by have := hb4.size; (try simp at this); omega
    go_wp2
    refine bodyPost_ret (v := .tuple #[.agg #[.int .i64 0, .int .i64 0], .int .i64 3]) (by simp [results, Try.results27, go_sem, hc1, hz1a, hz1b, hz1c, hc2, hz2a, hz2b, hz2c, hc3, hz3a, hz3b, hz3c, hc4, hz4a, hz4b, hz4c]) rfl ⟨ret_val EA.out.symm, ?_⟩
    repeat (first | exact Below.refl _ _ | refine Below.setCell ?_ (by simp <;> omega) _ | refine Below.alloc ?_ (by simp <;> omega) _ | refine bstep ?_ (by assumption))
  · have ea : addV x y x' y' = .tuple #[.agg #[.int .i64 (x + x'), .int .i64 (y + y')], .int .i64 0] := by simp [addV, addR, hu, hv, hs]
    have EA := Lib.hid ea
    clear ea
    go_enter Try.func27, Try.ntmps27
    go_wp2_with fail
    refine (isValid_any _ _ _).mono ?_
    rintro e w1 ⟨rfl, hb1⟩
    obtain ⟨hc1, hf1⟩ := bcell hb1
    obtain ⟨hz1a, hz1b, hz1c⟩ : w.heap.size < w1.heap.size ∧ w.heap.size + 1 < w1.heap.size ∧ w.heap.size + 1 + 1 < w1.heap.size := by have := hb1.size; (try simp at this); omega
    go_wp2_with fail
    refine (isValid_any _ _ _).mono ?_
    rintro e w2 ⟨rfl, hb2⟩
    obtain ⟨hc2, hf2⟩ := bcell hb2
    obtain ⟨hz2a, hz2b, hz2c⟩ : w.heap.size < w2.heap.size ∧ w.heap.size + 1 < w2.heap.size ∧ w.heap.size + 1 + 1 < w2.heap.size := by have := hb2.size; (try simp at this); omega
    go_wp2_with fail
    refine (plus_any _ _ _ _ _ hu hv).mono ?_
    rintro e w3 ⟨rfl, hb3⟩
    obtain ⟨hc3, hf3⟩ := bcell hb3
    obtain ⟨hz3a, hz3b, hz3c⟩ : w.heap.size < w3.heap.size ∧ w.heap.size + 1 < w3.heap.size ∧ w.heap.size + 1 + 1 < w3.heap.size := by have := hb3.size; (try simp at this); omega
    go_wp2_with fail
    refine (limitedVec_yes _ _ _ hs).mono ?_
    rintro e w4 ⟨rfl, hb4⟩
    obtain ⟨hc4, hf4⟩ := bcell hb4
    obtain ⟨hz4a, hz4b, hz4c⟩ : w.heap.size < w4.heap.size ∧ w.heap.size + 1 < w4.heap.size ∧ w.heap.size + 1 + 1 < w4.heap.size := by have := hb4.size; (try simp at this); omega
    go_wp2
    refine bodyPost_ret (v := .tuple #[.agg #[.int .i64 (x + x'), .int .i64 (y + y')], .int .i64 0]) (by simp [results, Try.results27, go_sem, hc1, hz1a, hz1b, hz1c, hc2, hz2a, hz2b, hz2c, hc3, hz3a, hz3b, hz3c, hc4, hz4a, hz4b, hz4c]) rfl ⟨ret_val EA.out.symm, ?_⟩
    repeat (first | exact Below.refl _ _ | refine Below.setCell ?_ (by simp <;> omega) _ | refine Below.alloc ?_ (by simp <;> omega) _ | refine bstep ?_ (by assumption))

end Go.Proofs.Ytlalibefmnenjaa
