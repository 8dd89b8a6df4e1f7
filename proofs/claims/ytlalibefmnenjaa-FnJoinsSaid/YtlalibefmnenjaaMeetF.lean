/-
  Plain facts of chapter 3's meet: its numbers, which vectors lie in both lattices. No condition but those stated.
-/
import Derived.Test.YtlalibefmnenjaaLatF
namespace Go.Proofs.Ytlalibefmnenjaa
open Go.RowKit
set_option linter.unusedVariables false

/- ===== the meet ===== -/
theorem mod_of_dvd {a x b : Int} (h : a ∣ x - b) (h0 : 0 ≤ b) (h1 : b < a) : x % a = b := by
  have e1 : x % a = b % a := Int.emod_eq_emod_iff_emod_sub_eq_zero.2 (Int.emod_eq_zero_of_dvd h)
  rw [e1, Int.emod_eq_of_lt h0 h1]
structure MeetF (A B C A' B' C' a b c i J1 J3 : Int) : Prop where
  ha : lcmA A A' = a
  a1 : 1 ≤ a
  a2 : a ≤ 4096
  j1 : 1 ≤ J1 * J3
  j2 : J1 * J3 ≤ 4096
  hc : ((A * C * (A' * C')).tdiv (J1 * J3)).tdiv (lcmA A A') = c
  c1 : 1 ≤ c
  c2 : c ≤ 4096
  hC : C * c.tdiv C = c
  q1 : 0 ≤ c.tdiv C
  q2 : c.tdiv C ≤ 4096
  b1 : 0 ≤ b
  b2 : b < a
  hb : both A B C A' B' C' b c
  i1 : 0 ≤ i
  i2 : i < A'
  hi : both A B C A' B' C' (c.tdiv C * B + A * i) c
  dvd : ∀ x y : Int, both A B C A' B' C' x y → c ∣ y
  idx : J1 * J3 * (a * c) = A * C * (A' * C')
  p1 : 1 ≤ A * C * (A' * C')
  p2 : A * C * (A' * C') ≤ 4096
theorem dvd_eq_of {a b : Int} (h : a ∣ b) (h1 : 1 ≤ b) (h2 : b ≤ a) : b = a := by
  obtain ⟨k, rfl⟩ := h
  have ha : 1 ≤ a := by omega
  rcases Int.lt_trichotomy k 1 with hk | rfl | hk
  · have : a * k ≤ a * 0 := Int.mul_le_mul_of_nonneg_left (by omega) (by omega)
    omega
  · omega
  · have : a * 2 ≤ a * k := Int.mul_le_mul_of_nonneg_left (by omega) (by omega)
    omega
theorem meet_facts {A B C A' B' C' : Int} (hl : latI A B C) (hm : latI A' B' C') : ∃ b c i : Int, MeetF A B C A' B' C' (lcmA A A') b c i (latL (joinL A B C A' B' C')).1 (latL (joinL A B C A' B' C')).2.2 := by
  obtain ⟨f, h, g, G, p, q, X, e1, e2, J, _⟩ := join_facts hl hm
  rw [e1, e2]
  have hab := lcmA_bd hl hm
  have hcc := jm_c hl hm J
  have hcb := jm_bd hl hm J
  obtain ⟨i, i0, i1, hi⟩ := jm_ex hm J
  have hdv : ∀ x y : Int, both A B C A' B' C' x y → G * p * q * h ∣ y := fun x y hb => jm_dvd J hb
  have hix := jm_index hl J
  have hjb := jm_join_bd hl J
  have f0 := J.f0
  have h0 := J.h0
  obtain ⟨h1, h2, h3, h4, h5⟩ := id hl
  obtain ⟨k1, k2, k3, k4, k5⟩ := id hm
  have hA64 : A ≤ 64 := by have := Int.mul_le_mul_of_nonneg_left h2 (show 0 ≤ A by omega); omega
  have hC64 : C ≤ 64 := by have := Int.mul_le_mul_of_nonneg_right h1 (show 0 ≤ C by omega); omega
  generalize G * p * q * h = c at *
  have hCc : C ∣ c := hi.1.1
  obtain ⟨t, ht⟩ := hCc
  have htd : c.tdiv C = t := by rw [ht]; exact Int.mul_tdiv_cancel_left _ (by omega)
  have ht0 : 0 < t := by
    rcases Int.lt_trichotomy t 0 with hn | rfl | hn
    · have := Int.mul_neg_of_pos_of_neg (show 0 < C by omega) hn; omega
    · rw [Int.mul_zero] at ht; omega
    · exact hn
  have ht1 : t ≤ c := by have := Int.mul_le_mul_of_nonneg_right h2 (show 0 ≤ t by omega); omega
  have hb0 := Int.emod_nonneg (c.tdiv C * B + A * i) (show lcmA A A' ≠ 0 by omega)
  have hb1 := Int.emod_lt_of_pos (c.tdiv C * B + A * i) (show 0 < lcmA A A' by omega)
  have hbb : both A B C A' B' C' ((c.tdiv C * B + A * i) % lcmA A A') c := by
    have hd : lcmA A A' ∣ (c.tdiv C * B + A * i) % lcmA A A' - (c.tdiv C * B + A * i) := Int.dvd_emod_sub_self
    have hd2 := (lcmA_iff (by omega) (by omega) _).2 hd
    have := both_add hi hd2.1 hd2.2
    rwa [show c.tdiv C * B + A * i + ((c.tdiv C * B + A * i) % lcmA A A' - (c.tdiv C * B + A * i)) = (c.tdiv C * B + A * i) % lcmA A A' by omega] at this
  have j1 : 1 * 1 ≤ f * h := Int.mul_le_mul (by omega) (by omega) (by omega) (by omega)
  have j2 : f * h ≤ 64 * 64 := Int.mul_le_mul (by omega) (by omega) (by omega) (by omega)
  have p0 : 1 * 1 ≤ A * C := Int.mul_le_mul h1 h2 (by omega) (by omega)
  have p0' : 1 * 1 ≤ A' * C' := Int.mul_le_mul k1 k2 (by omega) (by omega)
  have p1 : 1 * 1 ≤ A * C * (A' * C') := Int.mul_le_mul (by omega) (by omega) (by omega) (by omega)
  have p2 : A * C * (A' * C') ≤ 64 * 64 := Int.mul_le_mul h5 k5 (by omega) (by omega)
  exact ⟨_, c, i, ⟨rfl, hab.1, hab.2, by omega, by omega, hcc, hcb.1, hcb.2, by rw [htd]; omega, by omega, by omega, hb0, hb1, hbb, i0, i1, hi, hdv, hix, by omega, by omega⟩⟩
theorem MeetF.uniq {A B C A' B' C' a b c i J1 J3 x : Int} (M : MeetF A B C A' B' C' a b c i J1 J3) (hA : 0 < A) (hA' : 0 < A') (h : both A B C A' B' C' x c) : x % a = b := by
  have h2 := both_sub h M.hb
  have h3 := (lcmA_iff hA hA' _).1 h2
  rw [M.ha] at h3
  exact mod_of_dvd h3 M.b1 M.b2
theorem MeetF.hit {A B C A' B' C' a b c i J1 J3 x y : Int} (M : MeetF A B C A' B' C' a b c i J1 J3) (hA : 0 < A) (hA' : 0 < A') (h : both A B C A' B' C' x y) (hy : 1 ≤ y) (hy' : y ≤ c) (hx : 0 ≤ x) (hx' : x < a) : x = b ∧ y = c := by
  have e1 := dvd_eq_of (M.dvd _ _ h) hy hy'
  subst e1
  have e2 := M.uniq hA hA' h
  rw [Int.emod_eq_of_lt hx hx'] at e2
  exact ⟨e2, rfl⟩
theorem MeetF.axis {A B C A' B' C' a b c i J1 J3 x : Int} (M : MeetF A B C A' B' C' a b c i J1 J3) (hA : 0 < A) (hA' : 0 < A') (hx : 1 ≤ x) (hx' : x ≤ a) : (hasB A B C x 0 && hasB A' B' C' x 0) = decide (x = a) := by
  have h1 := hasB_iff A B C x 0
  have h2 := hasB_iff A' B' C' x 0
  rw [has_zero] at h1 h2
  have h3 := lcmA_iff hA hA' x
  rw [M.ha] at h3
  by_cases hxa : x = a
  · have := h3.2 (by rw [hxa]; exact Int.dvd_refl _)
    rw [h1.2 this.1, h2.2 this.2, hxa]; simp
  · have hn : ¬ (A ∣ x ∧ A' ∣ x) := fun h => hxa (dvd_eq_of (h3.1 h) hx hx')
    have : ¬ (hasB A B C x 0 = true ∧ hasB A' B' C' x 0 = true) := fun h => hn ⟨h1.1 h.1, h2.1 h.2⟩
    simp [hxa]
    intro h; cases hh : hasB A' B' C' x 0
    · rfl
    · exact absurd ⟨h, hh⟩ this
theorem both_iff {A B C A' B' C' x y : Int} : both A B C A' B' C' x y ↔ hasB A B C x y = true ∧ hasB A' B' C' x y = true := by
  unfold both; rw [hasB_iff, hasB_iff]
theorem has_step {A B C x y : Int} (h : hasB A B C x y = true) : hasB A B C (x + A) y = true := by
  rw [hasB_iff] at *
  obtain ⟨h1, k, hk⟩ := h
  exact ⟨h1, k + 1, by grind⟩
end Go.Proofs.Ytlalibefmnenjaa
