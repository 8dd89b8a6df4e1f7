/-
  Contracts of the small functions of chapter 3 (program and model): whether a lattice is valid, its index, remainders, reduced vectors and members. Conditions: only the bounds that are stated.
-/
import Derived.Test.YtpdekopmnchanabDoorKeep3
import Derived.Test.YtpdekopmnchanabDoorLatF
import Derived.IntWalk
import Derived.BigQuiet
import Derived.Deep.QuietTactic
import Derived.Deep.RegionHeld3
namespace Go.Proofs.YtpdekopmnchanabDoor
open Go.RowKit
set_option linter.unusedSimpArgs false
set_option linter.unusedVariables false

def latB (A B C : Int) : Bool := decide (1 ≤ A ∧ 1 ≤ C ∧ 0 ≤ B ∧ B < A ∧ A * C ≤ 64)
theorem latB_iff {A B C : Int} : latB A B C = true ↔ latI A B C := by simp [latB, latI]
theorem latI_bd {A B C : Int} (h : latI A B C) : A ≤ 64 ∧ C ≤ 64 := by
  obtain ⟨h1, h2, h3, h4, h5⟩ := h
  have e1 := Int.mul_le_mul_of_nonneg_left h2 (show 0 ≤ A by omega)
  have e2 := Int.mul_le_mul_of_nonneg_right h1 (show 0 ≤ C by omega)
  omega
theorem le_div_iff {A C : Int} (hA : 1 ≤ A) (hC : 1 ≤ C) : C ≤ (64 : Int).tdiv A ↔ A * C ≤ 64 := by
  rw [Int.tdiv_eq_ediv_of_nonneg (by omega), Int.le_ediv_iff_mul_le (by omega), Int.mul_comm]
theorem div64 (A : Int) (hA : 1 ≤ A) : 0 ≤ (64 : Int).tdiv A ∧ (64 : Int).tdiv A ≤ 64 := by
  rw [Int.tdiv_eq_ediv_of_nonneg (by omega)]
  exact ⟨Int.ediv_nonneg (by omega) (by omega), Int.ediv_le_self _ (by omega)⟩
theorem latB_1 {A B C : Int} (h : ¬ 1 ≤ A) : latB A B C = false := by simp [latB]; omega
theorem latB_2 {A B C : Int} (h : ¬ 1 ≤ C) : latB A B C = false := by simp [latB]; omega
theorem latB_3 {A B C : Int} (h1 : 1 ≤ A) (h2 : 1 ≤ C) (h : ¬ C ≤ (64 : Int).tdiv A) : latB A B C = false := by
  rw [le_div_iff h1 h2] at h; simp [latB]; omega
theorem latB_4 {A B C : Int} (h : ¬ 0 ≤ B) : latB A B C = false := by simp [latB]; omega
theorem latB_5 {A B C : Int} (h : ¬ B < A) : latB A B C = false := by simp [latB]; omega
theorem latB_6 {A B C : Int} (h1 : 1 ≤ A) (h2 : 1 ≤ C) (h3 : C ≤ (64 : Int).tdiv A) (h4 : 0 ≤ B) (h5 : B < A) : latB A B C = true := by
  rw [le_div_iff h1 h2] at h3; simp [latB]; omega

def bigI (a : Int) : Prop := -2000000000000000000 ≤ a ∧ a ≤ 2000000000000000000
theorem mod_val (a n : Int) (hn : 1 ≤ n) : (a.tmod n + n) % n = a % n := by
  have h3 := @Int.tmod_eq_emod a n
  rw [Int.add_emod_right, h3]
  split
  · simp
  · rw [show ((n.natAbs : Nat) : Int) = n by omega, Int.sub_emod_right, Int.emod_emod]
theorem mod_neg (a n : Int) (hn : 1 ≤ n) : (if a.tmod n < 0 then a.tmod n + n else a.tmod n) = a % n := by
  have h1 := Int.emod_nonneg a (show n ≠ 0 by omega)
  have h2 := Int.emod_lt_of_pos a (show 0 < n by omega)
  have h3 := @Int.tmod_eq_emod a n
  split at h3 <;> split <;> omega

end Go.Proofs.YtpdekopmnchanabDoor
