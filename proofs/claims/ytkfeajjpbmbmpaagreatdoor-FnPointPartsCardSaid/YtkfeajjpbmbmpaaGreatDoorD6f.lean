/-
  Plain facts for the draw of a motion: the unit and minus the unit keep each lattice, so each valid lattice has at least two matrices. Condition: frame and lattice are valid.
-/
import Derived.Test.YtkfeajjpbmbmpaaGreatDoorLMj
namespace Go.Proofs.YtkfeajjpbmbmpaaGreatDoor
open Go.RowKit
set_option linter.unusedVariables false

theorem pos_splitD {A C A' C' : Int} (hA : 1 ≤ A) (hC : 1 ≤ C) (hA' : 1 ≤ A') (hC' : 1 ≤ C') (h1 : A' ∣ A) (h2 : C' ∣ C) (h : A' * C' = A * C) : A' = A ∧ C' = C := by
  obtain ⟨p, rfl⟩ := h1
  obtain ⟨q, rfl⟩ := h2
  have hp : 1 ≤ p := by
    rcases Int.lt_or_le 0 p with h | h
    · omega
    · have := Int.mul_le_mul_of_nonneg_left (c := A') h (by omega)
      omega
  have hq : 1 ≤ q := by
    rcases Int.lt_or_le 0 q with h | h
    · omega
    · have := Int.mul_le_mul_of_nonneg_left (c := C') h (by omega)
      omega
  have e : A' * C' * (p * q) = A' * C' * 1 := by rw [Int.mul_one]; rw [h]; grind
  have hn : A' * C' ≠ 0 := by
    have := Int.mul_pos (a := A') (b := C') (by omega) (by omega)
    omega
  have hpq : p * q = 1 := Int.eq_of_mul_eq_mul_left hn e
  have h3 : p ≤ p * q := by
    have := Int.mul_le_mul_of_nonneg_left (c := p) hq (by omega)
    omega
  have h4 : q ≤ p * q := by
    have := Int.mul_le_mul_of_nonneg_right (c := q) hp (by omega)
    omega
  have e1 : p = 1 := by omega
  have e2 : q = 1 := by omega
  subst e1 e2
  simp
theorem six_lat {A B C s : Int} (hl : latI A B C) (hs : s = 1 ∨ s = -1) : mapI A B C s 0 0 s = (A, B, C) := by
  have h0 : A * C ≠ 0 := latI_ne hl
  have hp : 1 ≤ A * C := by
    have := Int.mul_le_mul hl.1 hl.2.1 (by omega) (by have := hl.1; omega)
    omega
  have hd : (s * A + 0 * 0) * (0 * B + s * C) - (0 * A + s * 0) * (s * B + 0 * C) = A * C := by
    rcases hs with rfl | rfl <;> simp [Int.neg_mul_neg]
  unfold mapI mapL
  obtain ⟨_, t2, t3, t4⟩ := two_facts (s * A + 0 * 0) (0 * A + s * 0) (s * B + 0 * C) (0 * B + s * C) (by rw [hd]; exact h0)
  rw [hd] at t2
  have hAC : (latL [(s * A + 0 * 0, 0 * A + s * 0), (s * B + 0 * C, 0 * B + s * C)]).1 * (latL [(s * A + 0 * 0, 0 * A + s * 0), (s * B + 0 * C, 0 * B + s * C)]).2.2 = A * C := by
    rw [t2]; omega
  have hT := two_lat (by rw [hd]; exact h0) (by rw [hAC]; exact hl.2.2.2.2)
  generalize latL [(s * A + 0 * 0, 0 * A + s * 0), (s * B + 0 * C, 0 * B + s * C)] = T at *
  obtain ⟨A', B', C'⟩ := T
  simp only at *
  have hC' : C' ≠ 0 := by have := hT.2.1; omega
  obtain ⟨a1, b1, e1, e2⟩ := (inL_iff hC' _ _).1 t3
  obtain ⟨a2, b2, e3, e4⟩ := (inL_iff hC' _ _).1 t4
  have hb1 : b1 = 0 := by
    have : b1 * C' = 0 := by rw [← e2]; simp
    rcases Int.mul_eq_zero.1 this with h | h
    · exact h
    · exact absurd h hC'
  subst hb1
  have d1 : A' ∣ A := by
    rcases hs with rfl | rfl
    · exact ⟨a1, by rw [Int.mul_comm]; simp at e1; omega⟩
    · exact ⟨-a1, by rw [Int.mul_comm, Int.neg_mul]; simp at e1; omega⟩
  have d2 : C' ∣ C := by
    rcases hs with rfl | rfl
    · exact ⟨b2, by grind⟩
    · exact ⟨-b2, by grind⟩
  obtain ⟨rfl, rfl⟩ := pos_splitD hl.1 hl.2.1 hT.1 hT.2.1 d1 d2 hAC
  have hb2 : b2 = s := by
    have h1 : (b2 - s) * C' = 0 := by grind
    rcases Int.mul_eq_zero.1 h1 with h | h
    · omega
    · exact absurd h hC'
  subst hb2
  have b1 := hl.2.2.1
  have b2 := hl.2.2.2.1
  have b3 := hT.2.2.1
  have b4 := hT.2.2.2.1
  obtain ⟨k, hk⟩ : ∃ k : Int, B = B' + k * A' := by
    rcases hs with rfl | rfl
    · exact ⟨a2, by grind⟩
    · exact ⟨-a2, by grind⟩
  have hk0 : k = 0 := by
    rcases Int.lt_trichotomy k 0 with c | c | c
    · have := Int.mul_le_mul_of_nonneg_right (c := A') (show k ≤ -1 by omega) (by omega)
      omega
    · exact c
    · have := Int.mul_le_mul_of_nonneg_right (c := A') (show 1 ≤ k by omega) (by omega)
      omega
  subst hk0
  have : B' = B := by omega
  rw [this]
theorem stab_six {f A B C s : Int} (hf : frB f = true) (hl : latI A B C) (hs : s = 1 ∨ s = -1) : (s, 0, 0, s) ∈ stabL f A B C := by
  unfold stabL
  refine List.mem_filter.2 ⟨?_, ?_⟩
  · unfold matsL matsP
    rcases frB_iff.1 hf with rfl | rfl <;> rcases hs with rfl | rfl <;> decide
  · unfold stabB
    rw [show ((s, (0 : Int), (0 : Int), s) : M4).1 = s from rfl]
    simp only [six_lat hl hs]
    simp [eqT]
theorem stab_len (f A B C : Int) : (stabL f A B C).length ≤ 81 := Nat.le_trans (List.length_filter_le _ _) (matsP_len f 81)
end Go.Proofs.YtkfeajjpbmbmpaaGreatDoor
