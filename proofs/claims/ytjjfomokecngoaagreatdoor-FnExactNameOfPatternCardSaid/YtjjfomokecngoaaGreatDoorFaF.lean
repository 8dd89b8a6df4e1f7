/-
  Plain facts of reflections of a lattice (chapter 11): how far a shift leads along the axis, the least multiple of the axis in the lattice, and which lattices are centred. Conditions: those stated.
-/
import Derived.Test.YtjjfomokecngoaaGreatDoorGh
import Derived.Test.YtjjfomokecngoaaGreatDoorGd
namespace Go.Proofs.YtjjfomokecngoaaGreatDoor
open Go.RowKit
set_option linter.unusedSimpArgs false
set_option linter.unusedVariables false

theorem gcd_primF (x y : Int) (h : gcdI x y ≠ 0) : gcdI (x.tdiv (gcdI x y)) (y.tdiv (gcdI x y)) = 1 := by
  have h3 : gcdI x y = ((Nat.gcd x.natAbs y.natAbs : Nat) : Int) := rfl
  have h2 : 0 < Nat.gcd x.natAbs y.natAbs := by omega
  have e : (gcdI x y).natAbs = Nat.gcd x.natAbs y.natAbs := by rw [h3]; exact Int.natAbs_natCast _
  show ((Nat.gcd (Int.natAbs _) (Int.natAbs _) : Nat) : Int) = 1
  rw [Int.natAbs_tdiv, Int.natAbs_tdiv, e]
  show ((Nat.gcd (x.natAbs / _) (y.natAbs / _) : Nat) : Int) = 1
  rw [Nat.gcd_div (Nat.gcd_dvd_left _ _) (Nat.gcd_dvd_right _ _), Nat.div_self h2]
  rfl
theorem gcd_negF (x y : Int) : gcdI (-x) (-y) = gcdI x y := by
  show ((Nat.gcd (Int.natAbs _) (Int.natAbs _) : Nat) : Int) = ((Nat.gcd x.natAbs y.natAbs : Nat) : Int)
  rw [Int.natAbs_neg, Int.natAbs_neg]

/- a reflection's base vector, its primitive vector with the right sign -/
theorem axB_neF {a b c d : Int} (hr : reflB a b c d = true) : ¬ ((axB a b c d).1 = 0 ∧ (axB a b c d).2 = 0) := by
  obtain ⟨h1, h2⟩ := refl_facts hr
  unfold axB
  by_cases h : a + 1 = 0 ∧ c = 0
  · have e : (a + 1 == 0 && c == 0) = true := by simp [h]
    rw [e, cond_true]
    rintro ⟨_, h4⟩
    simp only at h4
    omega
  · have e : (a + 1 == 0 && c == 0) = false := by simpa using h
    rw [e, cond_false]
    exact h
theorem axB_fixF {a b c d : Int} (hr : reflB a b c d = true) : a * (axB a b c d).1 + b * (axB a b c d).2 = (axB a b c d).1 ∧ c * (axB a b c d).1 + d * (axB a b c d).2 = (axB a b c d).2 := by
  obtain ⟨h1, h2⟩ := refl_facts hr
  obtain rfl : d = -a := by omega
  unfold axB
  cases (a + 1 == 0 && c == 0)
  · simp only [cond_false]
    constructor <;> grind
  · simp only [cond_true]
    constructor <;> grind
theorem axR_fixF {a b c d X Y : Int} (h : ¬ (X = 0 ∧ Y = 0)) (h1 : a * X + b * Y = X) (h2 : c * X + d * Y = Y) :
    a * (axR X Y).1 + b * (axR X Y).2 = (axR X Y).1 ∧ c * (axR X Y).1 + d * (axR X Y).2 = (axR X Y).2 := by
  have hg := gcdI_pos h
  obtain ⟨x, hx⟩ := (show gcdI X Y ∣ X from Int.gcd_dvd_left ..)
  obtain ⟨y, hy⟩ := (show gcdI X Y ∣ Y from Int.gcd_dvd_right ..)
  unfold axR
  generalize hG : gcdI X Y = g at hg hx hy ⊢
  have ex : X.tdiv g = x := by rw [hx]; exact Int.mul_tdiv_cancel_left _ (by omega)
  have ey : Y.tdiv g = y := by rw [hy]; exact Int.mul_tdiv_cancel_left _ (by omega)
  have f1 : a * x + b * y = x := by
    have : g * (a * x + b * y) = g * x := by rw [← hx]; rw [← h1]; subst hx hy; grind
    exact Int.eq_of_mul_eq_mul_left (by omega) this
  have f2 : c * x + d * y = y := by
    have : g * (c * x + d * y) = g * y := by rw [← hy]; rw [← h2]; subst hx hy; grind
    exact Int.eq_of_mul_eq_mul_left (by omega) this
  rw [ex, ey]
  cases lessB X Y 0 0
  · exact ⟨f1, f2⟩
  · simp only [cond_true]
    constructor <;> grind
theorem axR_gcdF {X Y : Int} (h : ¬ (X = 0 ∧ Y = 0)) : gcdI (axR X Y).1 (axR X Y).2 = 1 := by
  have hg := gcdI_pos h
  have hp := gcd_primF X Y (by omega)
  unfold axR
  cases lessB X Y 0 0
  · exact hp
  · simp only [cond_true]
    rw [gcd_negF]; exact hp
theorem inL_add {A B C x y x' y' : Int} (h : inL A B C x y) (h' : inL A B C x' y') : inL A B C (x + x') (y + y') := by
  obtain ⟨i, j, rfl, rfl⟩ := h
  obtain ⟨k, l, rfl, rfl⟩ := h'
  exact ⟨i + k, j + l, by grind, by grind⟩
theorem inL_mul {A B C x y : Int} (n : Int) (h : inL A B C x y) : inL A B C (n * x) (n * y) := by
  obtain ⟨i, j, rfl, rfl⟩ := h
  exact ⟨n * i, n * j, by grind, by grind⟩
/- a vector that runs along a primitive one is a multiple of it -/
theorem prim_mul {p q x y : Int} (hg : gcdI p q = 1) (h : x * q = y * p) : ∃ s, x = s * p ∧ y = s * q := by
  obtain ⟨u, v, e⟩ := bez _ p q (Nat.le_refl _)
  rw [hg] at e
  refine ⟨u * x + v * y, ?_, ?_⟩
  · have : (u * x + v * y) * p = x * (u * p + v * q) := by grind
    rw [this, e]; omega
  · have : (u * x + v * y) * q = y * (u * p + v * q) := by grind
    rw [this, e]; omega
/- two vectors that a reflection maps to themselves, or to their negatives, run along each other -/
theorem refl_par {a b c d e p q x y : Int} (hd : a * d - b * c = -1) (he : e * e = 1) (h1 : a * p + b * q = e * p) (h2 : c * p + d * q = e * q) (h3 : a * x + b * y = e * x) (h4 : c * x + d * y = e * y) : x * q = y * p := by
  have k : (a * d - b * c) * (p * y - q * x) = (a * p + b * q) * (c * x + d * y) - (c * p + d * q) * (a * x + b * y) := by grind
  rw [hd, h1, h2, h3, h4] at k
  have : e * p * (e * y) - e * q * (e * x) = (e * e) * (p * y - q * x) := by grind
  rw [this, he] at k
  grind
structure RAx (a b c d p q p' q' : Int) : Prop where
  det : a * d - b * c = -1
  tr : a + d = 0
  one : gcdI p q = 1
  fx : a * p + b * q = p
  fy : c * p + d * q = q
  one' : gcdI p' q' = 1
  fx' : a * p' + b * q' = -p'
  fy' : c * p' + d * q' = -q'
theorem prim_ne {p q : Int} (h : gcdI p q = 1) : ¬ (p = 0 ∧ q = 0) := by
  rintro ⟨rfl, rfl⟩
  revert h; decide
/- the slide of a vector: how far it and its image lead along the axis -/
theorem slide_ex {a b c d p q p' q' : Int} (h : RAx a b c d p q p' q') (x y : Int) : ∃ s, a * x + b * y + x = s * p ∧ c * x + d * y + y = s * q := by
  have h1 := h.det
  have h2 := h.tr
  have hd : d = -a := by omega
  refine prim_mul h.one (refl_par h1 (e := 1) (by omega) (by have := h.fx; omega) (by have := h.fy; omega) ?_ ?_)
  · subst hd
    have : a * a + b * c = 1 := by grind
    have e : a * (a * x + b * y + x) + b * (c * x + -a * y + y) = (a * a + b * c) * x + a * x + b * y := by grind
    rw [e, this]; omega
  · subst hd
    have : a * a + b * c = 1 := by grind
    have e : c * (a * x + b * y + x) + -a * (c * x + -a * y + y) = (a * a + b * c) * y + c * x - a * y := by grind
    rw [e, this]; grind
def slI (p q sx sy : Int) : Int := bif p == 0 then sy.tdiv q else sx.tdiv p
theorem slI_eq {p q s : Int} (h : ¬ (p = 0 ∧ q = 0)) : slI p q (s * p) (s * q) = s := by
  unfold slI
  by_cases hp : p = 0
  · subst hp
    simp only [BEq.rfl, cond_true]
    exact Int.mul_tdiv_cancel _ (by omega)
  · have : (p == 0) = false := by simp [hp]
    rw [this]
    exact Int.mul_tdiv_cancel _ hp
def sld (a b c d p q x y : Int) : Int := slI p q (a * x + b * y + x) (c * x + d * y + y)
theorem sld_eq {a b c d p q p' q' : Int} (h : RAx a b c d p q p' q') (x y : Int) : a * x + b * y + x = sld a b c d p q x y * p ∧ c * x + d * y + y = sld a b c d p q x y * q := by
  obtain ⟨s, h1, h2⟩ := slide_ex h x y
  unfold sld
  rw [h1, h2, slI_eq (prim_ne h.one)]
  exact ⟨rfl, rfl⟩
theorem mul_inj {p q s t : Int} (h : gcdI p q = 1) (h1 : s * p = t * p) (h2 : s * q = t * q) : s = t := by
  have := prim_ne h
  by_cases hp : p = 0
  · exact Int.eq_of_mul_eq_mul_right (by omega) h2
  · exact Int.eq_of_mul_eq_mul_right hp h1
theorem sld_lin {a b c d p q p' q' : Int} (h : RAx a b c d p q p' q') (i j x y x' y' : Int) : sld a b c d p q (i * x + j * x') (i * y + j * y') = i * sld a b c d p q x y + j * sld a b c d p q x' y' := by
  obtain ⟨h1, h2⟩ := sld_eq h x y
  obtain ⟨h3, h4⟩ := sld_eq h x' y'
  obtain ⟨h5, h6⟩ := sld_eq h (i * x + j * x') (i * y + j * y')
  refine mul_inj h.one ?_ ?_
  · rw [← h5]
    have : (i * sld a b c d p q x y + j * sld a b c d p q x' y') * p = i * (sld a b c d p q x y * p) + j * (sld a b c d p q x' y' * p) := by grind
    rw [this, ← h1, ← h3]; grind
  · rw [← h6]
    have : (i * sld a b c d p q x y + j * sld a b c d p q x' y') * q = i * (sld a b c d p q x y * q) + j * (sld a b c d p q x' y' * q) := by grind
    rw [this, ← h2, ← h4]; grind
/- the least multiple of a vector in a lattice -/
structure Lst (A B C p q : Int) (K : Nat) : Prop where
  pos : 1 ≤ K
  mem : inL A B C (K * p) (K * q)
  least : ∀ j : Nat, 1 ≤ j → j < K → ¬ inL A B C (j * p) (j * q)
theorem lst_dvd {A B C p q : Int} {K : Nat} (h : Lst A B C p q K) {t : Int} (ht : inL A B C (t * p) (t * q)) : (K : Int) ∣ t := by
  have hp := h.pos
  have hm := Int.emod_nonneg t (show (K : Int) ≠ 0 by omega)
  have hl := Int.emod_lt_of_pos t (show (0 : Int) < (K : Int) by omega)
  have hr : inL A B C (t % K * p) (t % K * q) := by
    have h1 := inL_add ht (inL_mul (-(t / K)) h.mem)
    have e := Int.emod_add_mul_ediv t K
    have e1 : t * p + -(t / K) * (K * p) = t % K * p := by grind
    have e2 : t * q + -(t / K) * (K * q) = t % K * q := by grind
    rw [e1, e2] at h1; exact h1
  rcases Int.eq_ofNat_of_zero_le hm with ⟨j, hj⟩
  by_cases h0 : j = 0
  · exact Int.dvd_of_emod_eq_zero (by omega)
  · exact absurd (by rw [hj] at hr; exact hr) (h.least j (by omega) (by omega))
def stepG (A B C a b c d p q : Int) : Int := gcdI (sld a b c d p q A 0) (sld a b c d p q B C)
theorem stepG_cases {A B C a b c d p q p' q' : Int} {K : Nat} (h : RAx a b c d p q p' q') (hs : stabQ A B C a b c d) (hK : Lst A B C p q K) :
    stepG A B C a b c d p q = K ∨ stepG A B C a b c d p q = 2 * K := by
  have d0 : (K : Int) ∣ sld a b c d p q A 0 := lst_dvd hK (by
    obtain ⟨h1, h2⟩ := sld_eq h A 0
    rw [← h1, ← h2]
    have : inL A B C A 0 := ⟨1, 0, by omega, by omega⟩
    have e := inL_add (stab_all hs this) this
    exact e)
  have d1 : (K : Int) ∣ sld a b c d p q B C := lst_dvd hK (by
    obtain ⟨h1, h2⟩ := sld_eq h B C
    rw [← h1, ← h2]
    have : inL A B C B C := ⟨0, 1, by omega, by omega⟩
    exact inL_add (stab_all hs this) this)
  have dG : (K : Int) ∣ stepG A B C a b c d p q := Int.dvd_coe_gcd d0 d1
  have dK : stepG A B C a b c d p q ∣ 2 * (K : Int) := by
    obtain ⟨i, j, e1, e2⟩ := hK.mem
    have e := sld_lin h i j A 0 B C
    rw [show i * 0 + j * C = j * C by omega, ← e1, ← e2] at e
    have e3 : sld a b c d p q (K * p) (K * q) = 2 * K := by
      obtain ⟨h1, h2⟩ := sld_eq h (K * p) (K * q)
      have f1 := h.fx
      have f2 := h.fy
      refine mul_inj h.one ?_ ?_
      · rw [← h1]
        have : a * (K * p) + b * (K * q) + K * p = K * (a * p + b * q) + K * p := by grind
        rw [this, f1]; grind
      · rw [← h2]
        have : c * (K * p) + d * (K * q) + K * q = K * (c * p + d * q) + K * q := by grind
        rw [this, f2]; grind
    rw [← e3, e]
    exact Int.dvd_add (Int.dvd_mul_of_dvd_right (Int.gcd_dvd_left _ _)) (Int.dvd_mul_of_dvd_right (Int.gcd_dvd_right _ _))
  have hp := hK.pos
  have hn : 0 ≤ stepG A B C a b c d p q := Int.natCast_nonneg _
  obtain ⟨g, hg⟩ := dG
  obtain ⟨k, hk⟩ := dK
  rw [hg] at hk hn ⊢
  have h2 : g * k = 2 := Int.eq_of_mul_eq_mul_left (show (K : Int) ≠ 0 by omega) (by grind)
  have hg0 : 0 ≤ g := by
    rcases Int.lt_or_le g 0 with e | e
    · have := Int.mul_neg_of_pos_of_neg (show (0 : Int) < K by omega) e
      omega
    · exact e
  have hg2 : g ∣ 2 := ⟨k, h2.symm⟩
  have hle := Int.le_of_dvd (by omega) hg2
  have hne : g ≠ 0 := by rintro rfl; omega
  have : g = 1 ∨ g = 2 := by omega
  rcases this with rfl | rfl
  · left; omega
  · right; omega
theorem absR {a b : Int} (h : a = b ∨ a = -b) (hb : 0 ≤ b) : max a (-a) = b := by omega
/- what the model asks: the index that both invariant vectors span -/
theorem cen_iff {A B C a b c d p q p' q' : Int} {K K' : Nat} (hl : latI A B C) (h : RAx a b c d p q p' q') (hs : stabQ A B C a b c d) (hK : Lst A B C p q K) (hK' : Lst A B C p' q' K') :
    (max (K * p * (K' * q') - K * q * (K' * p')) (-(K * p * (K' * q') - K * q * (K' * p'))) ≠ A * C) ↔ stepG A B C a b c d p q = K := by
  obtain ⟨hA, hC, _, _, _⟩ := hl
  have hAC : 0 < A * C := Int.mul_pos (by omega) (by omega)
  have hG := stepG_cases h hs hK
  have hp := hK.pos
  have hp' := hK'.pos
  generalize hGG : stepG A B C a b c d p q = G at *
  have hGp : 0 < G := by omega
  have g0 : G ∣ sld a b c d p q A 0 := by rw [← hGG]; exact Int.gcd_dvd_left _ _
  have g1 : G ∣ sld a b c d p q B C := by rw [← hGG]; exact Int.gcd_dvd_right _ _
  obtain ⟨u, v, hb⟩ := bez _ (sld a b c d p q A 0) (sld a b c d p q B C) (Nat.le_refl _)
  have hb : u * sld a b c d p q A 0 + v * sld a b c d p q B C = G := by rw [hb, ← hGG]; rfl
  obtain ⟨s0, h0⟩ := g0
  obtain ⟨s1, h1⟩ := g1
  have hb1 : u * s0 + v * s1 = 1 := Int.eq_of_mul_eq_mul_left (show G ≠ 0 by omega) (by rw [h0, h1] at hb; grind)
  obtain ⟨x0, hx0⟩ : ∃ z, z = u * A + v * B := ⟨_, rfl⟩
  obtain ⟨y0, hy0⟩ : ∃ z, z = v * C := ⟨_, rfl⟩
  obtain ⟨wx, hwx⟩ : ∃ z, z = s1 * A - s0 * B := ⟨_, rfl⟩
  obtain ⟨wy, hwy⟩ : ∃ z, z = -(s0 * C) := ⟨_, rfl⟩
  have hdet : x0 * wy - y0 * wx = -(A * C) := by
    rw [hx0, hy0, hwx, hwy]
    have : (u * A + v * B) * -(s0 * C) - v * C * (s1 * A - s0 * B) = -((u * s0 + v * s1) * (A * C)) := by grind
    rw [this, hb1]; omega
  have lin := sld_lin h
  have hw0 : sld a b c d p q wx wy = 0 := by
    have e := lin s1 (-s0) A 0 B C
    rw [show s1 * A + -s0 * B = wx by rw [hwx]; grind, show s1 * 0 + -s0 * C = wy by rw [hwy]; grind, h0, h1] at e
    rw [e]; grind
  have hv0 : sld a b c d p q x0 y0 = G := by
    have e := lin u v A 0 B C
    rw [← hx0, show u * 0 + v * C = y0 by rw [hy0]; omega] at e
    rw [e, hb]
  have hwL : inL A B C wx wy := ⟨s1, -s0, by rw [hwx]; grind, by rw [hwy]; grind⟩
  obtain ⟨w1, w2⟩ := sld_eq h wx wy
  rw [hw0] at w1 w2
  have w1 : a * wx + b * wy = -wx := by omega
  have w2 : c * wx + d * wy = -wy := by omega
  have f1 := h.fx'
  have f2 := h.fy'
  obtain ⟨n, n1, n2⟩ := prim_mul h.one' (refl_par h.det (e := -1) (by omega) (show a * p' + b * q' = -1 * p' by omega) (show c * p' + d * q' = -1 * q' by omega) (show a * wx + b * wy = -1 * wx by omega) (show c * wx + d * wy = -1 * wy by omega))
  rw [n1, n2] at hwL
  obtain ⟨m, hm⟩ := lst_dvd hK' hwL
  obtain ⟨i, j, i1, i2⟩ := hK'.mem
  have hk0 : i * s0 + j * s1 = 0 := by
    have e := lin i j A 0 B C
    rw [← i1, show i * 0 + j * C = K' * q' by rw [i2]; omega] at e
    have z : sld a b c d p q (K' * p') (K' * q') = 0 := by
      obtain ⟨z1, z2⟩ := sld_eq h (K' * p') (K' * q')
      refine mul_inj h.one ?_ ?_
      · rw [← z1]
        have : a * (K' * p') + b * (K' * q') + K' * p' = K' * (a * p' + b * q') + K' * p' := by grind
        rw [this, f1]; grind
      · rw [← z2]
        have : c * (K' * p') + d * (K' * q') + K' * q' = K' * (c * p' + d * q') + K' * q' := by grind
        rw [this, f2]; grind
    rw [z, h0, h1] at e
    have e' : G * (i * s0 + j * s1) = G * 0 := by rw [Int.mul_add, Int.mul_zero, Int.mul_left_comm G i, Int.mul_left_comm G j]; exact e.symm
    exact Int.eq_of_mul_eq_mul_left (show G ≠ 0 by omega) e'
  obtain ⟨r, hr⟩ : ∃ r, i = r * s1 ∧ j = -(r * s0) := by
    refine ⟨i * v - j * u, ?_, ?_⟩
    · have : (i * v - j * u) * s1 = i * (u * s0 + v * s1) - u * (i * s0 + j * s1) := by grind
      rw [this, hb1, hk0]; omega
    · have : -((i * v - j * u) * s0) = j * (u * s0 + v * s1) - v * (i * s0 + j * s1) := by grind
      rw [this, hb1, hk0]; omega
  obtain ⟨r1, r2⟩ := hr
  have v2x : K' * p' = r * wx := by rw [i1, r1, r2, hwx]; grind
  have v2y : K' * q' = r * wy := by rw [i2, r2, hwy]; grind
  have wmx : wx = m * (K' * p') := by rw [n1, hm]; grind
  have wmy : wy = m * (K' * q') := by rw [n2, hm]; grind
  have hrm : r * m = 1 := by
    have e1 : m * r * wx = wx := by rw [show m * r * wx = m * (r * wx) by grind, ← v2x, ← wmx]
    have e2 : m * r * wy = wy := by rw [show m * r * wy = m * (r * wy) by grind, ← v2y, ← wmy]
    by_cases hx : wx = 0
    · have hy : wy ≠ 0 := by rintro hy; rw [hx, hy] at hdet; omega
      have := Int.eq_of_mul_eq_mul_right hy (show m * r * wy = 1 * wy by omega)
      grind
    · have := Int.eq_of_mul_eq_mul_right hx (show m * r * wx = 1 * wx by omega)
      grind
  have hr1 : r = 1 ∨ r = -1 := by
    have hd : r ∣ 1 := ⟨m, hrm.symm⟩
    have := Int.natAbs_dvd_natAbs.2 hd
    have := Nat.le_of_dvd (by decide) this
    have hr0 : r ≠ 0 := by rintro rfl; omega
    simp at this
    omega
  obtain ⟨t1, t2⟩ := sld_eq h x0 y0
  rw [hv0] at t1 t2
  have hz := refl_par h.det (e := -1) (by omega) (show a * p' + b * q' = -1 * p' by omega) (show c * p' + d * q' = -1 * q' by omega)
    (x := 2 * x0 - G * p) (y := 2 * y0 - G * q)
    (by have g1 := h.fx
        have : a * (2 * x0 - G * p) + b * (2 * y0 - G * q) = 2 * (a * x0 + b * y0 + x0) - 2 * x0 - G * (a * p + b * q) := by grind
        rw [this, t1, g1]; grind)
    (by have g1 := h.fy
        have : c * (2 * x0 - G * p) + d * (2 * y0 - G * q) = 2 * (c * x0 + d * y0 + y0) - 2 * y0 - G * (c * p + d * q) := by grind
        rw [this, t2, g1]; grind)
  have hq : 2 * (x0 * (K' * q') - y0 * (K' * p')) = G * (p * (K' * q') - q * (K' * p')) := by
    have : (2 * x0 - G * p) * (K' * q') - (2 * y0 - G * q) * (K' * p') = K' * ((2 * x0 - G * p) * q' - (2 * y0 - G * q) * p') := by grind
    have e : (2 * x0 - G * p) * (K' * q') - (2 * y0 - G * q) * (K' * p') = 0 := by rw [this, hz]; grind
    grind
  have hD : x0 * (K' * q') - y0 * (K' * p') = r * -(A * C) := by rw [v2x, v2y, ← hdet]; grind
  rw [hD] at hq
  have hfin : K * p * (K' * q') - K * q * (K' * p') = K * (p * (K' * q') - q * (K' * p')) := by grind
  rw [hfin]
  generalize p * (K' * q') - q * (K' * p') = D at *
  rcases hG with hG | hG
  · subst hG
    have hX : (K : Int) * D = 2 * (A * C) ∨ (K : Int) * D = -(2 * (A * C)) := by
      rcases hr1 with rfl | rfl
      · right; omega
      · left; omega
    have := absR hX (by omega)
    rw [this]
    constructor
    · intro _; rfl
    · intro _; omega
  · have hX : (K : Int) * D = A * C ∨ (K : Int) * D = -(A * C) := by
      rw [hG] at hq
      rcases hr1 with rfl | rfl
      · right; have : 2 * ((K : Int) * D) = 2 * -(A * C) := by grind
        omega
      · left; have : 2 * ((K : Int) * D) = 2 * (A * C) := by grind
        omega
    have := absR hX (by omega)
    rw [this]
    constructor
    · intro e; exact absurd rfl e
    · intro e; omega

theorem axP_rax {a b c d : Int} (hr : reflB a b c d = true) (hr' : reflB (-a) (-b) (-c) (-d) = true) : RAx a b c d (axP a b c d).1 (axP a b c d).2 (axP (-a) (-b) (-c) (-d)).1 (axP (-a) (-b) (-c) (-d)).2 := by
  obtain ⟨hd, ht⟩ := refl_facts hr
  have n1 := axB_neF hr
  have n2 := axB_neF hr'
  obtain ⟨e1, e2⟩ := axR_fixF n1 (axB_fixF hr).1 (axB_fixF hr).2
  obtain ⟨e3, e4⟩ := axR_fixF n2 (axB_fixF hr').1 (axB_fixF hr').2
  exact ⟨hd, ht, axR_gcdF n1, e1, e2, axR_gcdF n2, by
    have e3 : -a * (axP (-a) (-b) (-c) (-d)).1 + -b * (axP (-a) (-b) (-c) (-d)).2 = (axP (-a) (-b) (-c) (-d)).1 := e3
    rw [Int.neg_mul, Int.neg_mul] at e3; omega, by
    have e4 : -c * (axP (-a) (-b) (-c) (-d)).1 + -d * (axP (-a) (-b) (-c) (-d)).2 = (axP (-a) (-b) (-c) (-d)).2 := e4
    rw [Int.neg_mul, Int.neg_mul] at e4; omega⟩
theorem refl_neg {a b c d : Int} (hr : reflB a b c d = true) : reflB (-a) (-b) (-c) (-d) = true := by
  obtain ⟨hd, ht⟩ := refl_facts hr
  have : -a * -d - -b * -c = a * d - b * c := by grind
  simp only [reflB, Bool.and_eq_true, beq_iff_eq]
  exact ⟨by rw [this, hd], by omega⟩
/- the least multiple -/
def invGo (A B C p q : Int) : Nat → Nat → Nat
  | 0, k => k
  | n + 1, k => if hasB A B C ((k : Int) * p) ((k : Int) * q) = true then k else invGo A B C p q n (k + 1)
def invK (A B C p q : Int) : Nat := invGo A B C p q 64 1
theorem invGo_spec {A B C p q : Int} : ∀ (n k : Nat), (∃ j, k ≤ j ∧ j < k + n ∧ hasB A B C ((j : Int) * p) ((j : Int) * q) = true) →
    k ≤ invGo A B C p q n k ∧ invGo A B C p q n k < k + n ∧ hasB A B C ((invGo A B C p q n k : Int) * p) ((invGo A B C p q n k : Int) * q) = true ∧ ∀ j : Nat, k ≤ j → j < invGo A B C p q n k → hasB A B C ((j : Int) * p) ((j : Int) * q) = false
  | 0, k, ⟨j, h1, h2, _⟩ => absurd h2 (by omega)
  | n + 1, k, ⟨j, h1, h2, h3⟩ => by
    unfold invGo
    split
    · rename_i h
      exact ⟨Nat.le_refl _, by omega, h, fun i h1 h2 => absurd h2 (by omega)⟩
    · rename_i h
      have hj : k + 1 ≤ j := by
        rcases Nat.lt_or_eq_of_le h1 with h4 | h4
        · exact h4
        · subst h4; exact absurd h3 h
      obtain ⟨a1, a2, a3, a4⟩ := invGo_spec n (k + 1) ⟨j, hj, by omega, h3⟩
      refine ⟨by omega, by omega, a3, fun i h4 h5 => ?_⟩
      rcases Nat.lt_or_eq_of_le h4 with h6 | h6
      · exact a4 i h6 h5
      · subst h6; simpa using h
theorem invK_facts {A B C : Int} (p q : Int) (hl : latI A B C) : (1 ≤ invK A B C p q ∧ invK A B C p q ≤ 64) ∧ hasB A B C ((invK A B C p q : Int) * p) ((invK A B C p q : Int) * q) = true ∧ ∀ j : Nat, 1 ≤ j → j < invK A B C p q → hasB A B C ((j : Int) * p) ((j : Int) * q) = false := by
  obtain ⟨hA, hC, _, _, h64⟩ := id hl
  have hAC : 0 < A * C := Int.mul_pos (by omega) (by omega)
  obtain ⟨j, hj⟩ := Int.eq_ofNat_of_zero_le (show 0 ≤ A * C by omega)
  have hh : hasB A B C ((j : Int) * p) ((j : Int) * q) = true := by
    rw [hasB_iff, inL_iff (by omega), ← hj]
    exact ⟨C * p - q * B, A * q, by grind, by grind⟩
  obtain ⟨a1, a2, a3, a4⟩ := invGo_spec 64 1 ⟨j, by omega, by omega, hh⟩
  exact ⟨⟨a1, by unfold invK; omega⟩, a3, a4⟩
theorem invK_lst {A B C : Int} (p q : Int) (hl : latI A B C) : Lst A B C p q (invK A B C p q) := by
  have hC : C ≠ 0 := by have := hl.2.1; omega
  obtain ⟨⟨h1, _⟩, h2, h3⟩ := invK_facts p q hl
  refine ⟨h1, (inL_iff hC _ _).1 ((hasB_iff _ _ _ _ _).1 h2), fun j j1 j2 hj => ?_⟩
  have h4 := h3 j j1 j2
  rw [(hasB_iff _ _ _ _ _).2 ((inL_iff hC _ _).2 hj)] at h4
  cases h4
/- suitable reflections -/
theorem suit_parts {f A B C a b c d x y : Int} (h : okM f A B C (a, b, c, d, x, y) = true) : latI A B C ∧ frB f = true ∧ keepB f a b c d = true ∧ stabQ A B C a b c d ∧ matB a b c d = true ∧ (((-1 ≤ a ∧ a ≤ 1) ∧ (-1 ≤ b ∧ b ≤ 1)) ∧ ((-1 ≤ c ∧ c ≤ 1) ∧ (-1 ≤ d ∧ d ≤ 1))) := by
  obtain ⟨h1, ⟨h2, h3⟩, _⟩ := okM_iff.1 h
  simp only [flB, Bool.and_eq_true] at h1
  exact ⟨latB_iff.1 h1.2, h1.1, h2, h3, keep_mat h1.1 h2, keep_small h1.1 h2⟩
theorem neg_mat {a b c d : Int} (h : matB a b c d = true) : matB (-a) (-b) (-c) (-d) = true := by
  have e : -a * -d - -b * -c = a * d - b * c := by grind
  unfold matB limB vecB at *
  rw [e]
  simp only [Bool.and_eq_true, decide_eq_true_eq] at h ⊢
  exact ⟨by omega, h.2⟩
/- a matrix of a frame with the determinant -1 is a reflection -/
def keepOk (f : Int) (m : M4) : Bool := !(keepB f m.1 m.2.1 m.2.2.1 m.2.2.2 && m.1 * m.2.2.2 - m.2.1 * m.2.2.1 == -1) || m.1 + m.2.2.2 == 0
theorem keep_dec : ((List.range 81).all fun j => [(0 : Int), 1].all fun f => keepOk f (decM j)) = true := by decide +kernel
theorem keep_refl {f a b c d : Int} (hf : frB f = true) (h : keepB f a b c d = true) : reflB a b c d = (a * d - b * c == -1) := by
  rcases hd : (a * d - b * c == -1) with _ | _
  · simp [reflB, hd]
  · obtain ⟨j, hj, ej⟩ := decM_of (keep_small hf h)
    have hff : f ∈ [(0 : Int), 1] := by simpa [frB] using hf
    have := keep_dec
    simp only [List.all_eq_true] at this
    have := this j (List.mem_range.2 hj) f hff
    rw [ej] at this
    have hd2 := (beq_iff_eq).1 hd
    simp [keepOk, h, hd2] at this
    simp [reflB, hd, this]
theorem axP_bd {a b c d : Int} (hr : reflB a b c d = true) (hs : ((-1 ≤ a ∧ a ≤ 1) ∧ (-1 ≤ b ∧ b ≤ 1)) ∧ ((-1 ≤ c ∧ c ≤ 1) ∧ (-1 ≤ d ∧ d ≤ 1))) : (-2 ≤ (axP a b c d).1 ∧ (axP a b c d).1 ≤ 2) ∧ (-2 ≤ (axP a b c d).2 ∧ (axP a b c d).2 ≤ 2) := by
  have hX : (-2 ≤ (axB a b c d).1 ∧ (axB a b c d).1 ≤ 2) ∧ (-2 ≤ (axB a b c d).2 ∧ (axB a b c d).2 ≤ 2) := by
    unfold axB
    cases (a + 1 == 0 && c == 0)
    · simp only [cond_false]; omega
    · simp only [cond_true]; omega
  have hl : ∀ x g : Int, (x.tdiv g).natAbs ≤ x.natAbs := fun x g => by rw [Int.natAbs_tdiv]; exact Nat.div_le_self _ _
  unfold axP axR
  have h1 := hl (axB a b c d).1 (gcdI (axB a b c d).1 (axB a b c d).2)
  have h2 := hl (axB a b c d).2 (gcdI (axB a b c d).1 (axB a b c d).2)
  cases lessB (axB a b c d).1 (axB a b c d).2 0 0
  · simp only [cond_false]; omega
  · simp only [cond_true]; omega
theorem slI_bd {p q sx sy : Int} {M : Nat} (h1 : sx.natAbs ≤ M) (h2 : sy.natAbs ≤ M) : (slI p q sx sy).natAbs ≤ M := by
  have hl : ∀ x g : Int, (x.tdiv g).natAbs ≤ x.natAbs := fun x g => by rw [Int.natAbs_tdiv]; exact Nat.div_le_self _ _
  unfold slI
  cases p == 0
  · have := hl sx p; simp only [cond_false]; omega
  · have := hl sy q; simp only [cond_true]; omega
theorem small_sum {a b x y z : Int} {M : Nat} (ha : -1 ≤ a ∧ a ≤ 1) (hb : -1 ≤ b ∧ b ≤ 1) (hx : x.natAbs ≤ M) (hy : y.natAbs ≤ M) (hz : z.natAbs ≤ M) : (a * x + b * y + z).natAbs ≤ 3 * M := by
  have h1 : a = -1 ∨ a = 0 ∨ a = 1 := by omega
  have h2 : b = -1 ∨ b = 0 ∨ b = 1 := by omega
  rcases h1 with rfl | rfl | rfl <;> rcases h2 with rfl | rfl | rfl <;> omega
theorem sld_bd {a b c d p q x y : Int} {M : Nat} (hs : ((-1 ≤ a ∧ a ≤ 1) ∧ (-1 ≤ b ∧ b ≤ 1)) ∧ ((-1 ≤ c ∧ c ≤ 1) ∧ (-1 ≤ d ∧ d ≤ 1))) (hx : x.natAbs ≤ M) (hy : y.natAbs ≤ M) : (sld a b c d p q x y).natAbs ≤ 3 * M := by
  unfold sld
  exact slI_bd (small_sum hs.1.1 hs.1.2 hx hy hx) (small_sum hs.2.1 hs.2.2 hx hy hy)
/- what both answer -/
def cenB (A B C a b c d : Int) : Bool := decide (stepG A B C a b c d (axP a b c d).1 (axP a b c d).2 = (invK A B C (axP a b c d).1 (axP a b c d).2 : Nat))
def ivX (A B C a b c d : Int) : Int := (invK A B C (axP a b c d).1 (axP a b c d).2 : Nat) * (axP a b c d).1
def ivY (A B C a b c d : Int) : Int := (invK A B C (axP a b c d).1 (axP a b c d).2 : Nat) * (axP a b c d).2
theorem cen_model {f A B C a b c d x y : Int} (h : okM f A B C (a, b, c, d, x, y) = true) (hr : reflB a b c d = true) :
    (max (ivX A B C a b c d * ivY A B C (-a) (-b) (-c) (-d) - ivY A B C a b c d * ivX A B C (-a) (-b) (-c) (-d)) (-(ivX A B C a b c d * ivY A B C (-a) (-b) (-c) (-d) - ivY A B C a b c d * ivX A B C (-a) (-b) (-c) (-d))) != A * C) = cenB A B C a b c d := by
  obtain ⟨hl, hf, hk, hs, _, _⟩ := suit_parts h
  have hR := axP_rax hr (refl_neg hr)
  have h1 := cen_iff hl hR hs (invK_lst _ _ hl) (invK_lst _ _ hl)
  rw [Bool.eq_iff_iff]
  unfold cenB ivX ivY
  simp only [bne_iff_ne, decide_eq_true_eq]
  exact h1
theorem cen_prog {A B C a b c d : Int} (hr : reflB a b c d = true) :
    ((axP a b c d).1 * stepG A B C a b c d (axP a b c d).1 (axP a b c d).2 == ivX A B C a b c d && (axP a b c d).2 * stepG A B C a b c d (axP a b c d).1 (axP a b c d).2 == ivY A B C a b c d) = cenB A B C a b c d := by
  have hR := axP_rax hr (refl_neg hr)
  unfold cenB ivX ivY
  rw [Bool.eq_iff_iff]
  simp only [Bool.and_eq_true, beq_iff_eq, decide_eq_true_eq]
  constructor
  · rintro ⟨h1, h2⟩
    exact mul_inj hR.one (by rw [Int.mul_comm]; exact h1) (by rw [Int.mul_comm]; exact h2)
  · intro e
    rw [e]
    exact ⟨Int.mul_comm _ _, Int.mul_comm _ _⟩
/- whether a shift takes the slide of a reflection back -/
def mayB (A B C : Int) (m : M6) : Bool := reflB m.1 m.2.1 m.2.2.1 m.2.2.2.1 && decide (stepG A B C m.1 m.2.1 m.2.2.1 m.2.2.2.1 (axP m.1 m.2.1 m.2.2.1 m.2.2.2.1).1 (axP m.1 m.2.1 m.2.2.1 m.2.2.2.1).2 ∣ sld m.1 m.2.1 m.2.2.1 m.2.2.2.1 (axP m.1 m.2.1 m.2.2.1 m.2.2.2.1).1 (axP m.1 m.2.1 m.2.2.1 m.2.2.2.1).2 m.2.2.2.2.1 m.2.2.2.2.2)
theorem step_dvd {A B C a b c d p q p' q' x y : Int} (h : RAx a b c d p q p' q') (hv : inL A B C x y) : stepG A B C a b c d p q ∣ sld a b c d p q x y := by
  obtain ⟨i, j, rfl, rfl⟩ := hv
  have e := sld_lin h i j A 0 B C
  rw [show i * 0 + j * C = j * C by omega] at e
  rw [e]
  exact Int.dvd_add (Int.dvd_mul_of_dvd_right (Int.gcd_dvd_left _ _)) (Int.dvd_mul_of_dvd_right (Int.gcd_dvd_right _ _))
theorem may_same {A B C a b c d x y x' y' : Int} (h : inL A B C (x - x') (y - y')) : mayB A B C (a, b, c, d, x, y) = mayB A B C (a, b, c, d, x', y') := by
  unfold mayB
  rcases hr : reflB a b c d with _ | _
  · rfl
  have hR := axP_rax hr (refl_neg hr)
  have hd := step_dvd hR h
  have e := sld_lin hR 1 (-1) x y x' y'
  rw [show 1 * x + -1 * x' = x - x' by omega, show 1 * y + -1 * y' = y - y' by omega] at e
  rw [e] at hd
  simp only [Bool.true_and]
  refine decide_eq_decide.2 ⟨fun h1 => ?_, fun h1 => ?_⟩
  · have := Int.dvd_sub h1 hd
    rwa [show ∀ s t : Int, s - (1 * s + -1 * t) = t by intros; omega] at this
  · have := Int.dvd_add h1 hd
    rwa [show ∀ s t : Int, t + (1 * s + -1 * t) = s by intros; omega] at this
/- the model's way: the divisor of the vector of the motion done twice -/
theorem gcd_scale {p q s : Int} (h : gcdI p q = 1) : gcdI (s * p) (s * q) = (s.natAbs : Int) := by
  unfold gcdI at *
  rw [Int.gcd_mul_left]
  have : Int.gcd p q = 1 := by omega
  rw [this]; simp
theorem step_pos {f A B C a b c d x y : Int} (h : okM f A B C (a, b, c, d, x, y) = true) (hr : reflB a b c d = true) : 1 ≤ stepG A B C a b c d (axP a b c d).1 (axP a b c d).2 ∧ stepG A B C a b c d (axP a b c d).1 (axP a b c d).2 ≤ 128 := by
  obtain ⟨hl, hf, hk, hs, _, _⟩ := suit_parts h
  have hR := axP_rax hr (refl_neg hr)
  have h1 := stepG_cases hR hs (invK_lst _ _ hl)
  have h2 := (invK_facts (axP a b c d).1 (axP a b c d).2 hl).1
  omega
theorem step_model {f A B C a b c d x y : Int} (h : okM f A B C (a, b, c, d, x, y) = true) (hr : reflB a b c d = true) :
    stepG A B C a b c d (axP a b c d).1 (axP a b c d).2 = (bif cenB A B C a b c d then 1 else 2) * (invK A B C (axP a b c d).1 (axP a b c d).2 : Nat) := by
  obtain ⟨hl, hf, hk, hs, _, _⟩ := suit_parts h
  have hR := axP_rax hr (refl_neg hr)
  have h1 := stepG_cases hR hs (invK_lst _ _ hl)
  have h2 := (invK_facts (axP a b c d).1 (axP a b c d).2 hl).1
  rcases hc : cenB A B C a b c d with _ | _
  · have hc2 : ¬ _ := of_decide_eq_false hc
    rcases h1 with h1 | h1
    · exact absurd h1 hc2
    · rw [h1]; rfl
  · have hc2 := of_decide_eq_true hc
    rw [hc2]; simp
theorem may_model {A B C a b c d x y : Int} (hr : reflB a b c d = true) :
    (gcdI (a * x + b * y + x) (c * x + d * y + y) % gcdI (stepG A B C a b c d (axP a b c d).1 (axP a b c d).2 * (axP a b c d).1) (stepG A B C a b c d (axP a b c d).1 (axP a b c d).2 * (axP a b c d).2) == 0) = mayB A B C (a, b, c, d, x, y) := by
  have hR := axP_rax hr (refl_neg hr)
  obtain ⟨e1, e2⟩ := sld_eq hR x y
  rw [e1, e2, gcd_scale hR.one, gcd_scale hR.one]
  unfold mayB
  rw [hr]
  rw [Bool.eq_iff_iff]
  simp only [beq_iff_eq, Bool.true_and, decide_eq_true_eq]
  constructor
  · intro h
    exact Int.natAbs_dvd_natAbs.1 (Int.natCast_dvd_natCast.1 (Int.dvd_of_emod_eq_zero h))
  · intro h
    exact Int.emod_eq_zero_of_dvd (Int.natCast_dvd_natCast.2 (Int.natAbs_dvd_natAbs.2 h))
end Go.Proofs.YtjjfomokecngoaaGreatDoor
