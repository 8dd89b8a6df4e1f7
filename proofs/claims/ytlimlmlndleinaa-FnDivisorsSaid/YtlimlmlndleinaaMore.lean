/-
  Contracts of chapter 1's comparison, divisor and primitive vector: the program's function and the model's have one and the same answer. No condition.
-/
import Derived.Test.YtlimlmlndleinaaCmp
import Derived.Test.YtlimlmlndleinaaGcd
import Derived.Deep.DeepCutAuto
namespace Go.Proofs.Ytlimlmlndleinaa
open Go.RowKit
set_option linter.unusedSimpArgs false

def cmpR (x y x' y' : Int) : Int × Int := bif vecB x y && vecB x' y' then (cmpW x y x' y', 0) else (0, 1)
def cmpV (x y x' y' : Int) : Value := .tuple #[.int .i64 (cmpR x y x' y').1, .int .i64 (cmpR x y x' y').2]
theorem cmp_less {x y x' y' : Int} (h : lessB x y x' y' = true) : cmpW x y x' y' = -1 := by
  simp [lessB] at h
  unfold cmpW orI cmpI
  split <;> (try split) <;> (try split) <;> (try split) <;> omega
theorem cmp_more {x y x' y' : Int} (h : lessB x' y' x y = true) : cmpW x y x' y' = 1 := by
  simp [lessB] at h
  unfold cmpW orI cmpI
  split <;> (try split) <;> (try split) <;> (try split) <;> omega
theorem cmp_same {x y x' y' : Int} (h : lessB x y x' y' = false) (h' : lessB x' y' x y = false) : cmpW x y x' y' = 0 := by
  simp [lessB] at h h'
  unfold cmpW orI cmpI
  split <;> (try split) <;> (try split) <;> (try split) <;> omega

def divR (a b : Int) : Int × Int := bif inB a (-1000000) 1000000 && inB b (-1000000) 1000000 then (gcdI a b, 0) else (0, 2)
def divV (a b : Int) : Value := .tuple #[.int .i64 (divR a b).1, .int .i64 (divR a b).2]

set_option maxHeartbeats 1000000 in
theorem implCmp_any (x y x' y' : Int) (w : World) :
    Calls Try.prog 22 #[.agg #[.int .i64 x, .int .i64 y], .agg #[.int .i64 x', .int .i64 y']] w fun e w' => e = .returned (cmpV x y x' y') ∧ Below w.heap.size w w' := by
  rcases hu : vecB x y with _ | _
  · have ea : cmpV x y x' y' = .tuple #[.int .i64 0, .int .i64 1] := by simp [cmpV, cmpR, hu]
    have EA := Lib.hid ea
    clear ea
    go_enter Try.func22, Try.ntmps22
    go_wp2_with fail
    refine (isValid_any _ _ _).mono ?_
    rintro e w1 ⟨rfl, hb1⟩
    obtain ⟨hc1, hf1⟩ := bcell hb1
    obtain ⟨hz1a, hz1b⟩ : w.heap.size < w1.heap.size ∧ w.heap.size + 1 < w1.heap.size := by have := hb1.size; (try simp at this); omega
    go_wp2
    go_ret2
    refine ⟨ret_val EA.out.symm, ?_⟩
    repeat (first | exact Below.refl _ _ | refine Below.setCell ?_ (by first | omega | (simp <;> omega)) _ | refine Below.alloc ?_ (by first | omega | (simp <;> omega)) _ | refine bstep ?_ (by assumption) | refine Below.drew ?_)
  rcases hv : vecB x' y' with _ | _
  · have ea : cmpV x y x' y' = .tuple #[.int .i64 0, .int .i64 1] := by simp [cmpV, cmpR, hv]
    have EA := Lib.hid ea
    clear ea
    go_enter Try.func22, Try.ntmps22
    go_wp2_with fail
    refine (isValid_any _ _ _).mono ?_
    rintro e w1 ⟨rfl, hb1⟩
    obtain ⟨hc1, hf1⟩ := bcell hb1
    obtain ⟨hz1a, hz1b⟩ : w.heap.size < w1.heap.size ∧ w.heap.size + 1 < w1.heap.size := by have := hb1.size; (try simp at this); omega
    go_wp2_with fail
    refine (isValid_any _ _ _).mono ?_
    rintro e w2 ⟨rfl, hb2⟩
    obtain ⟨hc2, hf2⟩ := bcell hb2
    obtain ⟨hz2a, hz2b⟩ : w.heap.size < w2.heap.size ∧ w.heap.size + 1 < w2.heap.size := by have := hb2.size; (try simp at this); omega
    go_wp2
    go_ret2
    refine ⟨ret_val EA.out.symm, ?_⟩
    repeat (first | exact Below.refl _ _ | refine Below.setCell ?_ (by first | omega | (simp <;> omega)) _ | refine Below.alloc ?_ (by first | omega | (simp <;> omega)) _ | refine bstep ?_ (by assumption) | refine Below.drew ?_)
  · have ea : cmpV x y x' y' = .tuple #[.int .i64 (cmpW x y x' y'), .int .i64 0] := by simp [cmpV, cmpR, hu, hv]
    have EA := Lib.hid ea
    clear ea
    go_enter Try.func22, Try.ntmps22
    go_wp2_with fail
    refine (isValid_any _ _ _).mono ?_
    rintro e w1 ⟨rfl, hb1⟩
    obtain ⟨hc1, hf1⟩ := bcell hb1
    obtain ⟨hz1a, hz1b⟩ : w.heap.size < w1.heap.size ∧ w.heap.size + 1 < w1.heap.size := by have := hb1.size; (try simp at this); omega
    go_wp2_with fail
    refine (isValid_any _ _ _).mono ?_
    rintro e w2 ⟨rfl, hb2⟩
    obtain ⟨hc2, hf2⟩ := bcell hb2
    obtain ⟨hz2a, hz2b⟩ : w.heap.size < w2.heap.size ∧ w.heap.size + 1 < w2.heap.size := by have := hb2.size; (try simp at this); omega
    go_wp2_with fail
    refine (vcompare_any _ _ _ _ _).mono ?_
    rintro e w3 ⟨rfl, hb3⟩
    obtain ⟨hc3, hf3⟩ := bcell hb3
    obtain ⟨hz3a, hz3b⟩ : w.heap.size < w3.heap.size ∧ w.heap.size + 1 < w3.heap.size := by have := hb3.size; (try simp at this); omega
    go_wp2
    go_ret2
    refine ⟨ret_val EA.out.symm, ?_⟩
    repeat (first | exact Below.refl _ _ | refine Below.setCell ?_ (by first | omega | (simp <;> omega)) _ | refine Below.alloc ?_ (by first | omega | (simp <;> omega)) _ | refine bstep ?_ (by assumption) | refine Below.drew ?_)

set_option maxHeartbeats 1000000 in
theorem specCmp_any (x y x' y' : Int) (w : World) :
    Calls Try.prog 23 #[.agg #[.int .i64 x, .int .i64 y], .agg #[.int .i64 x', .int .i64 y']] w fun e w' => e = .returned (cmpV x y x' y') ∧ Below w.heap.size w w' := by
  rcases hu : vecB x y with _ | _
  · have ea : cmpV x y x' y' = .tuple #[.int .i64 0, .int .i64 1] := by simp [cmpV, cmpR, hu]
    have EA := Lib.hid ea
    clear ea
    go_enter Try.func23, Try.ntmps23
    go_wp2_with fail
    refine (specIsVec_any _ _ _).mono ?_
    rintro e w1 ⟨rfl, hb1⟩
    obtain ⟨hc1, hf1⟩ := bcell hb1
    obtain ⟨hz1a, hz1b⟩ : w.heap.size < w1.heap.size ∧ w.heap.size + 1 < w1.heap.size := by have := hb1.size; (try simp at this); omega
    go_wp2
    go_ret2
    refine ⟨ret_val EA.out.symm, ?_⟩
    repeat (first | exact Below.refl _ _ | refine Below.setCell ?_ (by first | omega | (simp <;> omega)) _ | refine Below.alloc ?_ (by first | omega | (simp <;> omega)) _ | refine bstep ?_ (by assumption) | refine Below.drew ?_)
  rcases hv : vecB x' y' with _ | _
  · have ea : cmpV x y x' y' = .tuple #[.int .i64 0, .int .i64 1] := by simp [cmpV, cmpR, hv]
    have EA := Lib.hid ea
    clear ea
    go_enter Try.func23, Try.ntmps23
    go_wp2_with fail
    refine (specIsVec_any _ _ _).mono ?_
    rintro e w1 ⟨rfl, hb1⟩
    obtain ⟨hc1, hf1⟩ := bcell hb1
    obtain ⟨hz1a, hz1b⟩ : w.heap.size < w1.heap.size ∧ w.heap.size + 1 < w1.heap.size := by have := hb1.size; (try simp at this); omega
    go_wp2_with fail
    refine (specIsVec_any _ _ _).mono ?_
    rintro e w2 ⟨rfl, hb2⟩
    obtain ⟨hc2, hf2⟩ := bcell hb2
    obtain ⟨hz2a, hz2b⟩ : w.heap.size < w2.heap.size ∧ w.heap.size + 1 < w2.heap.size := by have := hb2.size; (try simp at this); omega
    go_wp2
    go_ret2
    refine ⟨ret_val EA.out.symm, ?_⟩
    repeat (first | exact Below.refl _ _ | refine Below.setCell ?_ (by first | omega | (simp <;> omega)) _ | refine Below.alloc ?_ (by first | omega | (simp <;> omega)) _ | refine bstep ?_ (by assumption) | refine Below.drew ?_)
  rcases hl : lessB x y x' y' with _ | _
  · rcases hm : lessB x' y' x y with _ | _
    · have ea : cmpV x y x' y' = .tuple #[.int .i64 0, .int .i64 0] := by simp [cmpV, cmpR, hu, hv, cmp_same hl hm]
      have EA := Lib.hid ea
      clear ea
      go_enter Try.func23, Try.ntmps23
      go_wp2_with fail
      refine (specIsVec_any _ _ _).mono ?_
      rintro e w1 ⟨rfl, hb1⟩
      obtain ⟨hc1, hf1⟩ := bcell hb1
      obtain ⟨hz1a, hz1b⟩ : w.heap.size < w1.heap.size ∧ w.heap.size + 1 < w1.heap.size := by have := hb1.size; (try simp at this); omega
      go_wp2_with fail
      refine (specIsVec_any _ _ _).mono ?_
      rintro e w2 ⟨rfl, hb2⟩
      obtain ⟨hc2, hf2⟩ := bcell hb2
      obtain ⟨hz2a, hz2b⟩ : w.heap.size < w2.heap.size ∧ w.heap.size + 1 < w2.heap.size := by have := hb2.size; (try simp at this); omega
      go_wp2_with fail
      refine (less_any _ _ _ _ _).mono ?_
      rintro e w3 ⟨rfl, hb3⟩
      obtain ⟨hc3, hf3⟩ := bcell hb3
      obtain ⟨hz3a, hz3b⟩ : w.heap.size < w3.heap.size ∧ w.heap.size + 1 < w3.heap.size := by have := hb3.size; (try simp at this); omega
      go_wp2_with fail
      refine (less_any _ _ _ _ _).mono ?_
      rintro e w4 ⟨rfl, hb4⟩
      obtain ⟨hc4, hf4⟩ := bcell hb4
      obtain ⟨hz4a, hz4b⟩ : w.heap.size < w4.heap.size ∧ w.heap.size + 1 < w4.heap.size := by have := hb4.size; (try simp at this); omega
      go_wp2
      go_ret2
      refine ⟨ret_val EA.out.symm, ?_⟩
      repeat (first | exact Below.refl _ _ | refine Below.setCell ?_ (by first | omega | (simp <;> omega)) _ | refine Below.alloc ?_ (by first | omega | (simp <;> omega)) _ | refine bstep ?_ (by assumption) | refine Below.drew ?_)
    · have ea : cmpV x y x' y' = .tuple #[.int .i64 1, .int .i64 0] := by simp [cmpV, cmpR, hu, hv, cmp_more hm]
      have EA := Lib.hid ea
      clear ea
      go_enter Try.func23, Try.ntmps23
      go_wp2_with fail
      refine (specIsVec_any _ _ _).mono ?_
      rintro e w1 ⟨rfl, hb1⟩
      obtain ⟨hc1, hf1⟩ := bcell hb1
      obtain ⟨hz1a, hz1b⟩ : w.heap.size < w1.heap.size ∧ w.heap.size + 1 < w1.heap.size := by have := hb1.size; (try simp at this); omega
      go_wp2_with fail
      refine (specIsVec_any _ _ _).mono ?_
      rintro e w2 ⟨rfl, hb2⟩
      obtain ⟨hc2, hf2⟩ := bcell hb2
      obtain ⟨hz2a, hz2b⟩ : w.heap.size < w2.heap.size ∧ w.heap.size + 1 < w2.heap.size := by have := hb2.size; (try simp at this); omega
      go_wp2_with fail
      refine (less_any _ _ _ _ _).mono ?_
      rintro e w3 ⟨rfl, hb3⟩
      obtain ⟨hc3, hf3⟩ := bcell hb3
      obtain ⟨hz3a, hz3b⟩ : w.heap.size < w3.heap.size ∧ w.heap.size + 1 < w3.heap.size := by have := hb3.size; (try simp at this); omega
      go_wp2_with fail
      refine (less_any _ _ _ _ _).mono ?_
      rintro e w4 ⟨rfl, hb4⟩
      obtain ⟨hc4, hf4⟩ := bcell hb4
      obtain ⟨hz4a, hz4b⟩ : w.heap.size < w4.heap.size ∧ w.heap.size + 1 < w4.heap.size := by have := hb4.size; (try simp at this); omega
      go_wp2
      go_ret2
      refine ⟨ret_val EA.out.symm, ?_⟩
      repeat (first | exact Below.refl _ _ | refine Below.setCell ?_ (by first | omega | (simp <;> omega)) _ | refine Below.alloc ?_ (by first | omega | (simp <;> omega)) _ | refine bstep ?_ (by assumption) | refine Below.drew ?_)
  · have ea : cmpV x y x' y' = .tuple #[.int .i64 (-1), .int .i64 0] := by simp [cmpV, cmpR, hu, hv, cmp_less hl]
    have EA := Lib.hid ea
    clear ea
    go_enter Try.func23, Try.ntmps23
    go_wp2_with fail
    refine (specIsVec_any _ _ _).mono ?_
    rintro e w1 ⟨rfl, hb1⟩
    obtain ⟨hc1, hf1⟩ := bcell hb1
    obtain ⟨hz1a, hz1b⟩ : w.heap.size < w1.heap.size ∧ w.heap.size + 1 < w1.heap.size := by have := hb1.size; (try simp at this); omega
    go_wp2_with fail
    refine (specIsVec_any _ _ _).mono ?_
    rintro e w2 ⟨rfl, hb2⟩
    obtain ⟨hc2, hf2⟩ := bcell hb2
    obtain ⟨hz2a, hz2b⟩ : w.heap.size < w2.heap.size ∧ w.heap.size + 1 < w2.heap.size := by have := hb2.size; (try simp at this); omega
    go_wp2_with fail
    refine (less_any _ _ _ _ _).mono ?_
    rintro e w3 ⟨rfl, hb3⟩
    obtain ⟨hc3, hf3⟩ := bcell hb3
    obtain ⟨hz3a, hz3b⟩ : w.heap.size < w3.heap.size ∧ w.heap.size + 1 < w3.heap.size := by have := hb3.size; (try simp at this); omega
    go_wp2
    go_ret2
    refine ⟨ret_val EA.out.symm, ?_⟩
    repeat (first | exact Below.refl _ _ | refine Below.setCell ?_ (by first | omega | (simp <;> omega)) _ | refine Below.alloc ?_ (by first | omega | (simp <;> omega)) _ | refine bstep ?_ (by assumption) | refine Below.drew ?_)

set_option maxHeartbeats 1000000 in
theorem implDiv_any (a b : Int) (w : World) :
    Calls Try.prog 30 #[.int .i64 a, .int .i64 b] w fun e w' => e = .returned (divV a b) ∧ Below w.heap.size w w' := by
  rcases hu : inB a (-1000000) 1000000 with _ | _
  · have ea : divV a b = .tuple #[.int .i64 0, .int .i64 2] := by simp [divV, divR, hu]
    have EA := Lib.hid ea
    clear ea
    go_enter Try.func30, Try.ntmps30
    go_wp2_with fail
    refine (isWithin_any _ _ _ (by omega) (by omega)).mono ?_
    rintro e w1 ⟨rfl, rfl⟩
    go_wp2
    go_ret2
    refine ⟨ret_val EA.out.symm, ?_⟩
    repeat (first | exact Below.refl _ _ | refine Below.setCell ?_ (by first | omega | (simp <;> omega)) _ | refine Below.alloc ?_ (by first | omega | (simp <;> omega)) _ | refine bstep ?_ (by assumption) | refine Below.drew ?_)
  rcases hv : inB b (-1000000) 1000000 with _ | _
  · have ea : divV a b = .tuple #[.int .i64 0, .int .i64 2] := by simp [divV, divR, hv]
    have EA := Lib.hid ea
    clear ea
    go_enter Try.func30, Try.ntmps30
    go_wp2_with fail
    refine (isWithin_any _ _ _ (by omega) (by omega)).mono ?_
    rintro e w1 ⟨rfl, rfl⟩
    go_wp2_with fail
    refine (isWithin_any _ _ _ (by omega) (by omega)).mono ?_
    rintro e w2 ⟨rfl, rfl⟩
    go_wp2
    go_ret2
    refine ⟨ret_val EA.out.symm, ?_⟩
    repeat (first | exact Below.refl _ _ | refine Below.setCell ?_ (by first | omega | (simp <;> omega)) _ | refine Below.alloc ?_ (by first | omega | (simp <;> omega)) _ | refine bstep ?_ (by assumption) | refine Below.drew ?_)
  · have ea : divV a b = .tuple #[.int .i64 (gcdI a b), .int .i64 0] := by simp [divV, divR, hu, hv]
    obtain ⟨a1, a2⟩ := inB_bd hu
    obtain ⟨b1, b2⟩ := inB_bd hv
    have EA := Lib.hid ea
    clear ea
    go_enter Try.func30, Try.ntmps30
    go_wp2_with fail
    refine (isWithin_any _ _ _ (by omega) (by omega)).mono ?_
    rintro e w1 ⟨rfl, rfl⟩
    go_wp2_with fail
    refine (isWithin_any _ _ _ (by omega) (by omega)).mono ?_
    rintro e w2 ⟨rfl, rfl⟩
    go_wp2_with fail
    refine (greatest_any _ _ _ a1 a2 b1 b2).mono ?_
    rintro e w3 ⟨rfl, hb3⟩
    go_wp2
    go_ret2
    refine ⟨ret_val EA.out.symm, ?_⟩
    exact hb3

set_option maxHeartbeats 1000000 in
theorem specDiv_any (a b : Int) (w : World) :
    Calls Try.prog 31 #[.int .i64 a, .int .i64 b] w fun e w' => e = .returned (divV a b) ∧ Below w.heap.size w w' := by
  rcases hu : inB a (-1000000) 1000000 with _ | _
  · have ea : divV a b = .tuple #[.int .i64 0, .int .i64 2] := by simp [divV, divR, hu]
    have EA := Lib.hid ea
    clear ea
    go_enter Try.func31, Try.ntmps31
    go_wp2_with fail
    refine (l01In_any _ _ _ _).mono ?_
    rintro e w1 ⟨rfl, rfl⟩
    go_wp2
    go_ret2
    refine ⟨ret_val EA.out.symm, ?_⟩
    repeat (first | exact Below.refl _ _ | refine Below.setCell ?_ (by first | omega | (simp <;> omega)) _ | refine Below.alloc ?_ (by first | omega | (simp <;> omega)) _ | refine bstep ?_ (by assumption) | refine Below.drew ?_)
  rcases hv : inB b (-1000000) 1000000 with _ | _
  · have ea : divV a b = .tuple #[.int .i64 0, .int .i64 2] := by simp [divV, divR, hv]
    have EA := Lib.hid ea
    clear ea
    go_enter Try.func31, Try.ntmps31
    go_wp2_with fail
    refine (l01In_any _ _ _ _).mono ?_
    rintro e w1 ⟨rfl, rfl⟩
    go_wp2_with fail
    refine (l01In_any _ _ _ _).mono ?_
    rintro e w2 ⟨rfl, rfl⟩
    go_wp2
    go_ret2
    refine ⟨ret_val EA.out.symm, ?_⟩
    repeat (first | exact Below.refl _ _ | refine Below.setCell ?_ (by first | omega | (simp <;> omega)) _ | refine Below.alloc ?_ (by first | omega | (simp <;> omega)) _ | refine bstep ?_ (by assumption) | refine Below.drew ?_)
  · have ea : divV a b = .tuple #[.int .i64 (gcdI a b), .int .i64 0] := by simp [divV, divR, hu, hv]
    obtain ⟨a1, a2⟩ := inB_bd hu
    obtain ⟨b1, b2⟩ := inB_bd hv
    have EA := Lib.hid ea
    clear ea
    go_enter Try.func31, Try.ntmps31
    go_wp2_with fail
    refine (l01In_any _ _ _ _).mono ?_
    rintro e w1 ⟨rfl, rfl⟩
    go_wp2_with fail
    refine (l01In_any _ _ _ _).mono ?_
    rintro e w2 ⟨rfl, rfl⟩
    go_wp2_with fail
    refine (divisor_any _ _ _ _ (Nat.lt_succ_self _) a1 a2 b1 b2).mono ?_
    rintro e w3 ⟨rfl, hb3⟩
    go_wp2
    go_ret2
    refine ⟨ret_val EA.out.symm, ?_⟩
    exact hb3 ▸ Below.refl _ _

end Go.Proofs.Ytlimlmlndleinaa
