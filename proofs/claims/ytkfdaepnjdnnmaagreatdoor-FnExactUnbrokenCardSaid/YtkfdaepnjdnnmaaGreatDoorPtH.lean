/-
  What a list of vectors spans, and its reduced form. Conditions: those that are stated.
-/
import Derived.Test.YtkfdaepnjdnnmaaGreatDoorGf
import Derived.Test.YtkfdaepnjdnnmaaGreatDoorGg
namespace Go.Proofs.YtkfdaepnjdnnmaaGreatDoor
open Go.RowKit
set_option linter.unusedSimpArgs false
set_option linter.unusedVariables false

/- the vectors that a state spans -/
def Spn (s : Int × Int × Int) (x y : Int) : Prop := ∃ k, y = k * s.2.1 ∧ s.2.2 ∣ x - k * s.1
theorem Spn_step (s : Int × Int × Int) (v : Int × Int) (x y : Int) : Spn (spStep s v) x y ↔ ∃ n, Spn s (x - n * v.1) (y - n * v.2) := by
  obtain ⟨sx, sy, f⟩ := s
  obtain ⟨vx, vy⟩ := v
  obtain ⟨a, b, c, d, e, he, hd, h1, h2, h3, h4⟩ := eu_basis sx sy vx vy
  have es : spStep (sx, sy, f) (vx, vy) = ((eu sx sy vx vy).1, (eu sx sy vx vy).2.1, gcdI f (eu sx sy vx vy).2.2) := rfl
  rw [es]
  generalize (eu sx sy vx vy).1 = P at *
  generalize (eu sx sy vx vy).2.1 = Q at *
  generalize (eu sx sy vx vy).2.2 = R at *
  unfold Spn
  dsimp only
  constructor
  · rintro ⟨k, hy, m, hm⟩
    obtain ⟨u, t, hut⟩ := bez R.natAbs f R (Nat.le_refl _)
    refine ⟨k * b + m * t * d, k * a + m * t * c, ?_, m * u, ?_⟩
    · subst h2
      rw [hy]
      have h5 : m * t * (c * sy + d * vy) = 0 := by rw [h4]; simp
      grind
    · subst h1 h3
      rw [← hut] at hm
      grind
  · rintro ⟨n, k, hy, j, hj⟩
    have he2 : e * e = 1 := by rcases he with rfl | rfl <;> simp
    obtain ⟨p1, hp1⟩ := gcdI_dvd_left f R
    obtain ⟨p2, hp2⟩ := gcdI_dvd_right f R
    refine ⟨e * (k * d - n * c), ?_, e * (n * a - k * b) * p2 + j * p1, ?_⟩
    · subst h2
      have h5 : y = n * vy + k * sy := by omega
      have h6 : e * sy = d * (a * sy + b * vy) - b * (c * sy + d * vy) := by subst hd; grind
      have h7 : e * vy = -c * (a * sy + b * vy) + a * (c * sy + d * vy) := by subst hd; grind
      rw [h4] at h6 h7
      have h8 : y = e * (e * (n * vy + k * sy)) := by rw [← Int.mul_assoc, he2, Int.one_mul, h5]
      rw [h8]
      have h9 : e * (n * vy + k * sy) = n * (e * vy) + k * (e * sy) := by grind
      rw [h9, h6, h7]
      grind
    · have h5 : x = n * vx + k * sx + f * j := by omega
      have h6 : e * sx = d * P - b * R := by subst hd h1 h3; grind
      have h7 : e * vx = -c * P + a * R := by subst hd h1 h3; grind
      have h8 : n * vx + k * sx = e * (n * (e * vx) + k * (e * sx)) := by
        have : e * (n * (e * vx) + k * (e * sx)) = (e * e) * (n * vx + k * sx) := by grind
        rw [this, he2, Int.one_mul]
      rw [h5, h8, h6, h7]
      have h9 : gcdI f R * (e * (n * a - k * b) * p2 + j * p1) = e * (n * a - k * b) * (gcdI f R * p2) + (gcdI f R * p1) * j := by grind
      rw [h9, ← hp2, ← hp1]
      grind
theorem emod9 {a b f : Int} (h : f ∣ a - b) : a % f = b % f := by
  obtain ⟨k, hk⟩ := h
  have : a = b + f * k := by omega
  rw [this, Int.add_mul_emod_self_left]
theorem Spn_zero (s : Int × Int × Int) : Spn s 0 0 := ⟨0, by simp, by simp⟩
/- states that span a lattice -/
def okS (s : Int × Int × Int) : Prop := 0 < s.2.2 ∧ s.2.1 ≠ 0
theorem Spn_self (s : Int × Int × Int) : Spn s s.1 s.2.1 := ⟨1, by simp, by simp⟩
theorem Spn_flat (s : Int × Int × Int) : Spn s s.2.2 0 := ⟨0, by simp, by simp⟩
theorem Spn_old {s : Int × Int × Int} (v : Int × Int) {x y : Int} (h : Spn s x y) : Spn (spStep s v) x y := (Spn_step s v x y).2 ⟨0, by simpa using h⟩
theorem okS_dvd {s t : Int × Int × Int} (ht : okS t) (h : ∀ x y, Spn s x y → Spn t x y) : t.2.2 ∣ s.2.2 ∧ t.2.1 ∣ s.2.1 := by
  obtain ⟨k, h1, h2⟩ := h _ _ (Spn_flat s)
  obtain ⟨j, h3, _⟩ := h _ _ (Spn_self s)
  have h0 : k = 0 := by
    rcases Int.mul_eq_zero.1 h1.symm with h | h
    · exact h
    · exact (ht.2 h).elim
  subst h0
  exact ⟨by simpa using h2, ⟨j, by rw [h3]; exact Int.mul_comm _ _⟩⟩
theorem okS_step {s : Int × Int × Int} (v : Int × Int) (hs : okS s) : okS (spStep s v) := by
  have h1 : (spStep s v).2.2 = gcdI s.2.2 (eu s.1 s.2.1 v.1 v.2).2.2 := rfl
  refine ⟨by rw [h1]; exact gcdI_pos_left _ hs.1, fun h0 => ?_⟩
  obtain ⟨k, h2, _⟩ := Spn_old v (Spn_self s)
  rw [h0] at h2
  exact hs.2 (by simpa using h2)
theorem nrm_same {s t : Int × Int × Int} (hs : okS s) (ht : okS t) (h : ∀ x y, Spn s x y ↔ Spn t x y) : nrm s.2.2 s.1 s.2.1 = nrm t.2.2 t.1 t.2.1 := by
  obtain ⟨a1, a2⟩ := okS_dvd ht (fun x y => (h x y).1)
  obtain ⟨b1, b2⟩ := okS_dvd hs (fun x y => (h x y).2)
  have hf : s.2.2 = t.2.2 := Int.dvd_antisymm (by have := hs.1; omega) (by have := ht.1; omega) b1 a1
  have hy : s.2.1.natAbs = t.2.1.natAbs := Nat.dvd_antisymm (Int.natAbs_dvd_natAbs.2 b2) (Int.natAbs_dvd_natAbs.2 a2)
  obtain ⟨k, h3, h4⟩ := (h _ _).1 (Spn_self s)
  obtain ⟨sx, sy, f⟩ := s
  obtain ⟨tx, ty, f'⟩ := t
  dsimp only at *
  subst hf
  have ht0 := ht.2
  dsimp only at ht0
  have hc : sy = ty ∨ sy = -ty := by omega
  rcases hc with rfl | rfl
  · have hk : k = 1 := by
      have : (k - 1) * sy = 0 := by grind
      rcases Int.mul_eq_zero.1 this with h | h
      · omega
      · exact (ht0 h).elim
    subst hk
    exact nrm_mod _ _ _ _ (by simpa using h4)
  · have hk : k = -1 := by
      have : (k + 1) * ty = 0 := by grind
      rcases Int.mul_eq_zero.1 this with h | h
      · omega
      · exact (ht0 h).elim
    subst hk
    have h5 : f ∣ sx + tx := by have e : sx - -1 * tx = sx + tx := by omega
                                rwa [e] at h4
    unfold nrm
    have hm : (-sx) % f = tx % f := emod9 (by rw [show -sx - tx = -(sx + tx) from by omega]; exact Int.dvd_neg.2 h5)
    by_cases hn : ty < 0
    · rw [if_neg (by omega), if_pos hn]
      have hm2 : sx % f = (-tx) % f := emod9 (by rw [show sx - -tx = sx + tx from by omega]; exact h5)
      rw [hm2]
    · rw [if_pos (by omega), if_neg hn, hm]
      simp
end Go.Proofs.YtkfdaepnjdnnmaaGreatDoor
