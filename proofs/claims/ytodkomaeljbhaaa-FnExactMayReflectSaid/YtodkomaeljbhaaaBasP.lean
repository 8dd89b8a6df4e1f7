/-
  Plain facts: two vectors of a lattice whose determinant is its index span it. Conditions: those stated.
-/
import Derived.Test.YtodkomaeljbhaaaMapL
import Derived.Test.YtodkomaeljbhaaaFrM
namespace Go.Proofs.Ytodkomaeljbhaaa
set_option linter.unusedVariables false

theorem pos_split {A C A' C' : Int} (hA : 1 ≤ A) (hC : 1 ≤ C) (hA' : 1 ≤ A') (hC' : 1 ≤ C') (h1 : A' ∣ A) (h2 : C' ∣ C) (h : A' * C' = A * C) : A' = A ∧ C' = C := by
  obtain ⟨p, rfl⟩ := h1
  obtain ⟨q, rfl⟩ := h2
  have hp : 1 ≤ p := by
    rcases Int.lt_or_le 0 p with h | h
    · omega
    · have := Int.mul_le_mul_of_nonneg_left (c := A') h (by omega)
      omega
  have hq : 1 ≤ q := by
    rcases Int.lt_or_le 0 q with h | h
    · omega
    · have := Int.mul_le_mul_of_nonneg_left (c := C') h (by omega)
      omega
  have e : A' * C' * (p * q) = A' * C' * 1 := by rw [Int.mul_one]; rw [h]; grind
  have hn : A' * C' ≠ 0 := by
    have := Int.mul_pos (a := A') (b := C') (by omega) (by omega)
    omega
  have hpq : p * q = 1 := Int.eq_of_mul_eq_mul_left hn e
  have h3 : p ≤ p * q := by
    have := Int.mul_le_mul_of_nonneg_left (c := p) hq (by omega)
    omega
  have h4 : q ≤ p * q := by
    have := Int.mul_le_mul_of_nonneg_right (c := q) hp (by omega)
    omega
  have e1 : p = 1 := by omega
  have e2 : q = 1 := by omega
  subst e1 e2
  simp
theorem bas_lat {A B C ux uy vx vy : Int} (hl : latI A B C) (h : Bas A B C ux uy vx vy) : latL [(ux, uy), (vx, vy)] = (A, B, C) := by
  have h0 := latI_ne hl
  have hd := h.det h0
  obtain ⟨_, t2, t3, t4⟩ := two_facts ux uy vx vy hd
  have hp : 1 ≤ A * C := by
    have := Int.mul_le_mul hl.1 hl.2.1 (by omega) (by have := hl.1; omega)
    omega
  have hAC : (latL [(ux, uy), (vx, vy)]).1 * (latL [(ux, uy), (vx, vy)]).2.2 = A * C := by
    rw [t2]
    rcases h.hd with e | e <;> omega
  have hT := two_lat hd (by rw [hAC]; exact hl.2.2.2.2)
  generalize latL [(ux, uy), (vx, vy)] = T at *
  obtain ⟨A', B', C'⟩ := T
  simp only at *
  have hC' : C' ≠ 0 := by have := hT.2.1; omega
  have i1 := (inL_iff hC' ux uy).1 t3
  have i2 := (inL_iff hC' vx vy).1 t4
  have all : ∀ x y, inL A B C x y → hasI A' B' C' x y := by
    intro x y hw
    obtain ⟨a, b, rfl, rfl⟩ := h.span h0 hw
    exact (inL_iff hC' _ _).2 (inL_comb i1 i2 a b)
  have k1 := all A 0 ⟨1, 0, by simp, by simp⟩
  have k2 := all B C ⟨0, 1, by simp, by simp⟩
  rw [has_zero] at k1
  obtain ⟨rfl, rfl⟩ := pos_split hl.1 hl.2.1 hT.1 hT.2.1 k1 k2.1 hAC
  have k3 := k2.2
  rw [Int.ediv_self hC', Int.one_mul] at k3
  obtain ⟨k, hk⟩ := k3
  have b1 := hl.2.2.1
  have b2 := hl.2.2.2.1
  have b3 := hT.2.2.1
  have b4 := hT.2.2.2.1
  have hk0 : k = 0 := by
    rcases Int.lt_trichotomy k 0 with c | c | c
    · have := Int.mul_le_mul_of_nonneg_left (c := A') (show k ≤ -1 by omega) (by omega)
      omega
    · exact c
    · have := Int.mul_le_mul_of_nonneg_left (c := A') (show 1 ≤ k by omega) (by omega)
      omega
  subst hk0
  have : B' = B := by omega
  rw [this]
end Go.Proofs.Ytodkomaeljbhaaa
