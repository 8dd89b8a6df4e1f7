/-
  Contracts of chapter 3's reduced vectors and members (program and model). Conditions: a valid lattice and numbers from -1000000 to 1000000.
-/
import Derived.Test.YtpdekopmnchanabDoorLat1
import Derived.Deep.RegionHeld3
import Derived.LoopTactic
namespace Go.Proofs.YtpdekopmnchanabDoor
open Go.RowKit
set_option linter.unusedSimpArgs false
set_option linter.unusedVariables false

theorem red_q (y C : Int) (hC : 1 ≤ C) : (y - y % C).tdiv C = y / C := by
  have h := Int.emod_add_mul_ediv y C
  rw [show y - y % C = C * (y / C) by omega]
  exact Int.mul_tdiv_cancel_left _ (by omega)
def midI (a : Int) : Prop := -1000000 ≤ a ∧ a ≤ 1000000
theorem red_bd {A B C x y : Int} (h : latI A B C) (hx : midI x) (hy : midI y) :
    (0 ≤ y % C ∧ y % C < C) ∧ (-1000000 ≤ y / C ∧ y / C ≤ 1000000) ∧ (-64000000 ≤ y / C * B ∧ y / C * B ≤ 64000000) ∧ (-1000064 ≤ y - y % C ∧ y - y % C ≤ 1000064) := by
  have hb := latI_bd h
  obtain ⟨h1, h2, h3, h4, h5⟩ := h
  unfold midI at hx hy
  have e1 := Int.emod_nonneg y (show C ≠ 0 by omega)
  have e2 := Int.emod_lt_of_pos y (show 0 < C by omega)
  have e3 := red_q y C h2
  have e4 : ((y - y % C).tdiv C).natAbs ≤ (y - y % C).natAbs := by rw [Int.natAbs_tdiv]; exact Nat.div_le_self _ _
  have e5 : -1000000 ≤ y / C := by
    have := Int.ediv_le_ediv (show 0 < C by omega) (show -1000000 ≤ y by omega)
    have h7 : -1000000 ≤ (-1000000) / C := by
      rw [Int.le_ediv_iff_mul_le (by omega)]
      omega
    omega
  have e6 : y / C ≤ 1000000 := by
    have : y / C * C ≤ y := Int.ediv_mul_le y (by omega)
    by_cases hn : 0 ≤ y / C
    · have := Int.mul_le_mul_of_nonneg_left h2 hn; omega
    · omega
  have e7 : (y / C * B).natAbs ≤ 1000000 * 64 := by
    rw [Int.natAbs_mul]; exact Nat.mul_le_mul (by omega) (by omega)
  refine ⟨⟨e1, e2⟩, ⟨e5, e6⟩, ⟨by omega, by omega⟩, by omega, by omega⟩
def redV (A B C x y : Int) : Value := .agg #[.int .i64 (redX A B C x y), .int .i64 (redY C y)]

end Go.Proofs.YtpdekopmnchanabDoor
