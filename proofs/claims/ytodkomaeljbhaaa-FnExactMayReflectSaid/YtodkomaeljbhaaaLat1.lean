/-
  Contracts of the small functions of chapter 3 (program and model): whether a lattice is valid, its index, remainders, reduced vectors and members. Conditions: only the bounds that are stated.
-/
import Derived.Test.YtodkomaeljbhaaaKeep3
import Derived.Test.YtodkomaeljbhaaaLatF
import Derived.IntWalk
import Derived.BigQuiet
import Derived.Deep.QuietTactic
import Derived.Deep.RegionHeld3
namespace Go.Proofs.Ytodkomaeljbhaaa
open Go.RowKit
set_option linter.unusedSimpArgs false
set_option linter.unusedVariables false

def latB (A B C : Int) : Bool := decide (1 ≤ A ∧ 1 ≤ C ∧ 0 ≤ B ∧ B < A ∧ A * C ≤ 64)
theorem latB_iff {A B C : Int} : latB A B C = true ↔ latI A B C := by simp [latB, latI]
theorem latI_bd {A B C : Int} (h : latI A B C) : A ≤ 64 ∧ C ≤ 64 := by
  obtain ⟨h1, h2, h3, h4, h5⟩ := h
  have e1 := Int.mul_le_mul_of_nonneg_left h2 (show 0 ≤ A by omega)
  have e2 := Int.mul_le_mul_of_nonneg_right h1 (show 0 ≤ C by omega)
  omega
theorem le_div_iff {A C : Int} (hA : 1 ≤ A) (hC : 1 ≤ C) : C ≤ (64 : Int).tdiv A ↔ A * C ≤ 64 := by
  rw [Int.tdiv_eq_ediv_of_nonneg (by omega), Int.le_ediv_iff_mul_le (by omega), Int.mul_comm]
theorem div64 (A : Int) (hA : 1 ≤ A) : 0 ≤ (64 : Int).tdiv A ∧ (64 : Int).tdiv A ≤ 64 := by
  rw [Int.tdiv_eq_ediv_of_nonneg (by omega)]
  exact ⟨Int.ediv_nonneg (by omega) (by omega), Int.ediv_le_self _ (by omega)⟩
theorem latB_1 {A B C : Int} (h : ¬ 1 ≤ A) : latB A B C = false := by simp [latB]; omega
theorem latB_2 {A B C : Int} (h : ¬ 1 ≤ C) : latB A B C = false := by simp [latB]; omega
theorem latB_3 {A B C : Int} (h1 : 1 ≤ A) (h2 : 1 ≤ C) (h : ¬ C ≤ (64 : Int).tdiv A) : latB A B C = false := by
  rw [le_div_iff h1 h2] at h; simp [latB]; omega
theorem latB_4 {A B C : Int} (h : ¬ 0 ≤ B) : latB A B C = false := by simp [latB]; omega
theorem latB_5 {A B C : Int} (h : ¬ B < A) : latB A B C = false := by simp [latB]; omega
theorem latB_6 {A B C : Int} (h1 : 1 ≤ A) (h2 : 1 ≤ C) (h3 : C ≤ (64 : Int).tdiv A) (h4 : 0 ≤ B) (h5 : B < A) : latB A B C = true := by
  rw [le_div_iff h1 h2] at h3; simp [latB]; omega

set_option maxHeartbeats 1000000 in
theorem isValidL_any (A B C : Int) (w : World) :
    Calls Try.prog 32 #[.agg #[.int .i64 A, .int .i64 B, .int .i64 C]] w fun e w' => e = .returned (.bool (latB A B C)) ∧ Below w.heap.size w w' := by
  by_cases h1 : 1 ≤ A
  case neg =>
    have hd : decide (1 ≤ A) = false := by simpa using h1
    have HD := Lib.hid hd
    have EA := Lib.hid (latB_1 (B := B) (C := C) h1)
    clear hd h1
    go_enter Try.func32, Try.ntmps32
    go_wp2
    have hd := HD.out
    go_quiet (fail)
    go_wp2
    go_ret
    refine ⟨ret_bool (EA.out).symm, ?_⟩
    repeat (first | exact Below.refl _ _ | refine below_drewN ?_ _ | refine Below.setCell ?_ (by first | omega | (simp <;> omega)) _ | refine Below.alloc ?_ (by first | omega | (simp <;> omega)) _ | refine bstep ?_ (by assumption) | refine Below.drew ?_)
  by_cases h2 : 1 ≤ C
  case neg =>
    have hd : decide (1 ≤ C) = false := by simpa using h2
    have HD := Lib.hid hd
    have EA := Lib.hid (latB_2 (A := A) (B := B) h2)
    clear hd h2
    go_enter Try.func32, Try.ntmps32
    go_wp2
    have hd := HD.out
    go_quiet (fail)
    go_wp2
    go_ret
    refine ⟨ret_bool (EA.out).symm, ?_⟩
    repeat (first | exact Below.refl _ _ | refine below_drewN ?_ _ | refine Below.setCell ?_ (by first | omega | (simp <;> omega)) _ | refine Below.alloc ?_ (by first | omega | (simp <;> omega)) _ | refine bstep ?_ (by assumption) | refine Below.drew ?_)
  obtain ⟨q0, q1⟩ := div64 A h1
  have hA0 : ¬ A = 0 := by omega
  have hw : IntKind.i64.wrap ((64 : Int).tdiv A) = (64 : Int).tdiv A := IntWalk.i64_in _ (by omega)
  by_cases h3 : C ≤ (64 : Int).tdiv A
  case neg =>
    have hd : decide (C ≤ (64 : Int).tdiv A) = false := by simpa using h3
    have HD := Lib.hid hd
    have EA := Lib.hid (latB_3 (B := B) h1 h2 h3)
    clear hd h3
    go_enter Try.func32, Try.ntmps32
    go_wp2
    have hd := HD.out
    go_quiet (fail)
    go_wp2
    go_ret
    refine ⟨ret_bool (EA.out).symm, ?_⟩
    repeat (first | exact Below.refl _ _ | refine below_drewN ?_ _ | refine Below.setCell ?_ (by first | omega | (simp <;> omega)) _ | refine Below.alloc ?_ (by first | omega | (simp <;> omega)) _ | refine bstep ?_ (by assumption) | refine Below.drew ?_)
  by_cases h4 : 0 ≤ B
  case neg =>
    have hd : decide (0 ≤ B) = false := by simpa using h4
    have HD := Lib.hid hd
    have EA := Lib.hid (latB_4 (A := A) (C := C) h4)
    clear hd h4
    go_enter Try.func32, Try.ntmps32
    go_wp2
    have hd := HD.out
    go_quiet (fail)
    go_wp2
    go_ret
    refine ⟨ret_bool (EA.out).symm, ?_⟩
    repeat (first | exact Below.refl _ _ | refine below_drewN ?_ _ | refine Below.setCell ?_ (by first | omega | (simp <;> omega)) _ | refine Below.alloc ?_ (by first | omega | (simp <;> omega)) _ | refine bstep ?_ (by assumption) | refine Below.drew ?_)
  by_cases h5 : B < A
  case neg =>
    have hd : decide (B < A) = false := by simpa using h5
    have HD := Lib.hid hd
    have EA := Lib.hid (latB_5 (C := C) h5)
    clear hd h5
    go_enter Try.func32, Try.ntmps32
    go_wp2
    have hd := HD.out
    go_quiet (fail)
    go_wp2
    go_ret
    refine ⟨ret_bool (EA.out).symm, ?_⟩
    repeat (first | exact Below.refl _ _ | refine below_drewN ?_ _ | refine Below.setCell ?_ (by first | omega | (simp <;> omega)) _ | refine Below.alloc ?_ (by first | omega | (simp <;> omega)) _ | refine bstep ?_ (by assumption) | refine Below.drew ?_)
  case pos =>
    have EA := Lib.hid (latB_6 h1 h2 h3 h4 h5)
    go_enter Try.func32, Try.ntmps32
    go_wp2
    go_quiet (fail)
    go_wp2
    go_ret
    refine ⟨ret_bool (EA.out).symm, ?_⟩
    repeat (first | exact Below.refl _ _ | refine below_drewN ?_ _ | refine Below.setCell ?_ (by first | omega | (simp <;> omega)) _ | refine Below.alloc ?_ (by first | omega | (simp <;> omega)) _ | refine bstep ?_ (by assumption) | refine Below.drew ?_)

set_option maxHeartbeats 1000000 in
theorem specIsLattice_any (A B C : Int) (w : World) :
    Calls Try.prog 54 #[.agg #[.int .i64 A, .int .i64 B, .int .i64 C]] w fun e w' => e = .returned (.bool (latB A B C)) ∧ Below w.heap.size w w' := by
  rcases h1 : inB A 1 64 with _ | _
  · have ea : latB A B C = false := by
      have n : ¬ latB A B C = true := by intro hl; have hl' := latB_iff.1 hl; have hb := latI_bd hl'; have := hl'.1; simp [inB] at h1; omega
      simpa using n
    go_enter Try.func54, Try.ntmps54
    go_wp2_with (go_at_call 72; refine (l01In_any _ _ _ _).mono ?_; rintro e w' ⟨rfl, rfl⟩)
    go_ret
    refine ⟨ret_bool (ea.symm), ?_⟩
    repeat (first | exact Below.refl _ _ | refine Below.setCell ?_ (by first | omega | (simp <;> omega)) _ | refine Below.alloc ?_ (by first | omega | (simp <;> omega)) _ | refine bstep ?_ (by assumption) | refine Below.drew ?_)
  rcases h2 : inB C 1 64 with _ | _
  · have ea : latB A B C = false := by
      have n : ¬ latB A B C = true := by intro hl; have hl' := latB_iff.1 hl; have hb := latI_bd hl'; have := hl'.2.1; simp [inB] at h2; omega
      simpa using n
    go_enter Try.func54, Try.ntmps54
    go_wp2_with (go_at_call 72; refine (l01In_any _ _ _ _).mono ?_; rintro e w' ⟨rfl, rfl⟩)
    go_ret
    refine ⟨ret_bool (ea.symm), ?_⟩
    repeat (first | exact Below.refl _ _ | refine Below.setCell ?_ (by first | omega | (simp <;> omega)) _ | refine Below.alloc ?_ (by first | omega | (simp <;> omega)) _ | refine bstep ?_ (by assumption) | refine Below.drew ?_)
  have hA := inB_bd h1
  have hC := inB_bd h2
  have b1 := Int.mul_le_mul hA.2 hC.2 (show 0 ≤ C by omega) (show (0 : Int) ≤ 64 by omega)
  have b2 := Int.mul_nonneg (show 0 ≤ A by omega) (show 0 ≤ C by omega)
  rcases h3 : inB B 0 (A - 1) with _ | _
  · have ea : latB A B C = false := by simp [inB] at h3; simp [latB]; omega
    go_enter Try.func54, Try.ntmps54
    go_wp2_with (go_at_call 72; refine (l01In_any _ _ _ _).mono ?_; rintro e w' ⟨rfl, rfl⟩)
    go_ret
    refine ⟨ret_bool (ea.symm), ?_⟩
    repeat (first | exact Below.refl _ _ | refine Below.setCell ?_ (by first | omega | (simp <;> omega)) _ | refine Below.alloc ?_ (by first | omega | (simp <;> omega)) _ | refine bstep ?_ (by assumption) | refine Below.drew ?_)
  by_cases h4 : A * C ≤ 64
  · have ea : latB A B C = true := by simp [inB] at h3; simp [latB]; omega
    go_enter Try.func54, Try.ntmps54
    go_wp2_with (go_at_call 72; refine (l01In_any _ _ _ _).mono ?_; rintro e w' ⟨rfl, rfl⟩)
    go_ret
    refine ⟨ret_bool (by simp [ea, h4]), ?_⟩
    repeat (first | exact Below.refl _ _ | refine Below.setCell ?_ (by first | omega | (simp <;> omega)) _ | refine Below.alloc ?_ (by first | omega | (simp <;> omega)) _ | refine bstep ?_ (by assumption) | refine Below.drew ?_)
  · have ea : latB A B C = false := by simp [latB]; omega
    go_enter Try.func54, Try.ntmps54
    go_wp2_with (go_at_call 72; refine (l01In_any _ _ _ _).mono ?_; rintro e w' ⟨rfl, rfl⟩)
    go_ret
    refine ⟨ret_bool (by simp [ea, h4]), ?_⟩
    repeat (first | exact Below.refl _ _ | refine Below.setCell ?_ (by first | omega | (simp <;> omega)) _ | refine Below.alloc ?_ (by first | omega | (simp <;> omega)) _ | refine bstep ?_ (by assumption) | refine Below.drew ?_)

def bigI (a : Int) : Prop := -2000000000000000000 ≤ a ∧ a ≤ 2000000000000000000
theorem mod_val (a n : Int) (hn : 1 ≤ n) : (a.tmod n + n) % n = a % n := by
  have h3 := @Int.tmod_eq_emod a n
  rw [Int.add_emod_right, h3]
  split
  · simp
  · rw [show ((n.natAbs : Nat) : Int) = n by omega, Int.sub_emod_right, Int.emod_emod]
theorem mod_neg (a n : Int) (hn : 1 ≤ n) : (if a.tmod n < 0 then a.tmod n + n else a.tmod n) = a % n := by
  have h1 := Int.emod_nonneg a (show n ≠ 0 by omega)
  have h2 := Int.emod_lt_of_pos a (show 0 < n by omega)
  have h3 := @Int.tmod_eq_emod a n
  split at h3 <;> split <;> omega

set_option maxHeartbeats 1000000 in
theorem remainder_any (a n : Int) (w : World) (ha : bigI a) (hn : 1 ≤ n) (hn' : bigI n) :
    Calls Try.prog 81 #[.int .i64 a, .int .i64 n] w fun e w' => e = .returned (.int .i64 (a % n)) ∧ Below w.heap.size w w' := by
  have HV := Lib.hid (mod_val a n hn)
  have h0 : ¬ n = 0 := by omega
  have h4 : (a.tmod n).natAbs < n.natAbs := tmod_lt a n h0
  unfold bigI at ha hn'
  have hw1 : IntKind.i64.wrap (a.tmod n) = a.tmod n := IntWalk.i64_in _ (by omega)
  go_enter Try.func81, Try.ntmps81
  go_wp2
  go_ret
  refine ⟨ret_int HV.out, ?_⟩
  repeat (first | exact Below.refl _ _ | refine Below.setCell ?_ (by first | omega | (simp <;> omega)) _ | refine Below.alloc ?_ (by first | omega | (simp <;> omega)) _ | refine bstep ?_ (by assumption) | refine Below.drew ?_)

set_option maxHeartbeats 1000000 in
theorem l01Mod_any (a n : Int) (w : World) (ha : bigI a) (hn : 1 ≤ n) (hn' : bigI n) :
    Calls Try.prog 49 #[.int .i64 a, .int .i64 n] w fun e w' => e = .returned (.int .i64 (a % n)) ∧ Below w.heap.size w w' := by
  have hv := mod_neg a n hn
  have h0 : ¬ n = 0 := by omega
  have h4 : (a.tmod n).natAbs < n.natAbs := tmod_lt a n h0
  unfold bigI at ha hn'
  have hw1 : IntKind.i64.wrap (a.tmod n) = a.tmod n := IntWalk.i64_in _ (by omega)
  have hw2 : IntKind.i64.wrap (a.tmod n + n) = a.tmod n + n := IntWalk.i64_in _ (by omega)
  by_cases hs : a.tmod n < 0
  · rw [if_pos hs] at hv
    have HV := Lib.hid hv
    clear hv
    go_enter Try.func49, Try.ntmps49
    go_wp2
    go_ret
    refine ⟨ret_int HV.out, ?_⟩
    repeat (first | exact Below.refl _ _ | refine Below.setCell ?_ (by first | omega | (simp <;> omega)) _ | refine Below.alloc ?_ (by first | omega | (simp <;> omega)) _ | refine bstep ?_ (by assumption) | refine Below.drew ?_)
  · rw [if_neg hs] at hv
    have HV := Lib.hid hv
    clear hv
    go_enter Try.func49, Try.ntmps49
    go_wp2
    go_ret
    refine ⟨ret_int HV.out, ?_⟩
    repeat (first | exact Below.refl _ _ | refine Below.setCell ?_ (by first | omega | (simp <;> omega)) _ | refine Below.alloc ?_ (by first | omega | (simp <;> omega)) _ | refine bstep ?_ (by assumption) | refine Below.drew ?_)

end Go.Proofs.Ytodkomaeljbhaaa
