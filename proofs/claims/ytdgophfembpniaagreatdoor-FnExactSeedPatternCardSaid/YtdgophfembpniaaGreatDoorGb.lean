/-
  Several of my texts in one: LatF, FrF, Lat1, Lat2.
-/
import Derived.Test.YtdgophfembpniaaGreatDoorGa
import Derived.IntWalk
import Derived.BigQuiet
import Derived.Deep.QuietTactic
import Derived.Deep.RegionHeld3
import Derived.LoopTactic
namespace Go.Proofs.YtdgophfembpniaaGreatDoor
section
open Go.RowKit
set_option linter.unusedVariables false

def eu (px py vx vy : Int) : Int × Int × Int :=
  if _h : vy = 0 then (px, py, vx) else eu vx vy (px - py.tdiv vy * vx) (py.tmod vy)
termination_by vy.natAbs
decreasing_by rw [Int.natAbs_tmod]; exact Nat.mod_lt _ (by omega)
theorem eu_zero (px py vx : Int) : eu px py vx 0 = (px, py, vx) := by rw [eu]; simp
theorem eu_step {vy : Int} (px py vx : Int) (h : vy ≠ 0) : eu px py vx vy = eu vx vy (px - py.tdiv vy * vx) (py.tmod vy) := by
  rw [eu.eq_def px py vx vy]; simp [h]

/- what Euclid's algorithm does is a change of the basis -/
theorem eu_basis (px py vx vy : Int) : ∃ a b c d e : Int, (e = 1 ∨ e = -1) ∧ a * d - b * c = e ∧ (eu px py vx vy).1 = a * px + b * vx ∧ (eu px py vx vy).2.1 = a * py + b * vy ∧
    (eu px py vx vy).2.2 = c * px + d * vx ∧ c * py + d * vy = 0 := by
  induction px, py, vx, vy using eu.induct with
  | case1 px py vx => exact ⟨1, 0, 0, 1, 1, .inl rfl, by simp, by simp [eu_zero], by simp [eu_zero], by simp [eu_zero], by simp⟩
  | case2 px py vx vy h ih =>
    obtain ⟨a, b, c, d, e, he, hd, h1, h2, h3, h4⟩ := ih
    rw [eu_step px py vx h]
    have hm : py.tmod vy = py - vy * py.tdiv vy := by have := Int.tmod_add_mul_tdiv py vy; omega
    refine ⟨b, a - b * py.tdiv vy, d, c - d * py.tdiv vy, -e, by omega, by grind, ?_, ?_, ?_, ?_⟩
    · rw [h1]; grind
    · rw [h2, hm]; grind
    · rw [h3]; grind
    · rw [hm] at h4; grind

/- it keeps what is the same modulo a number -/
theorem eu_mod (m : Int) (px py vx vy : Int) : ∀ px' vx' : Int, m ∣ px - px' → m ∣ vx - vx' →
    (eu px py vx vy).2.1 = (eu px' py vx' vy).2.1 ∧ m ∣ (eu px py vx vy).1 - (eu px' py vx' vy).1 ∧ m ∣ (eu px py vx vy).2.2 - (eu px' py vx' vy).2.2 := by
  induction px, py, vx, vy using eu.induct with
  | case1 px py vx => intro px' vx' h1 h2; simp only [eu_zero]; exact ⟨trivial, h1, h2⟩
  | case2 px py vx vy h ih =>
    intro px' vx' h1 h2
    rw [eu_step px py vx h, eu_step px' py vx' h]
    refine ih _ _ h2 ?_
    obtain ⟨s, hs⟩ := h1
    obtain ⟨t, ht⟩ := h2
    exact ⟨s - py.tdiv vy * t, by grind⟩

/- bounds that its rounds keep -/
def euJ (K : Nat) (px py vx vy : Int) : Prop := px.natAbs * vy.natAbs + vx.natAbs * py.natAbs ≤ K ∧ py.natAbs ≤ 1000 ∧ vy.natAbs ≤ 1000 ∧ px.natAbs ≤ K ∧ vx.natAbs ≤ K
theorem euJ_next {K : Nat} {px py vx vy : Int} (h : euJ K px py vx vy) (h0 : vy ≠ 0) : euJ K vx vy (px - py.tdiv vy * vx) (py.tmod vy) := by
  obtain ⟨h1, h2, h3, h4, h5⟩ := h
  have hq : (py.tdiv vy).natAbs = py.natAbs / vy.natAbs := Int.natAbs_tdiv ..
  have hr : (py.tmod vy).natAbs = py.natAbs % vy.natAbs := Int.natAbs_tmod ..
  have hx : (px - py.tdiv vy * vx).natAbs ≤ px.natAbs + (py.tdiv vy).natAbs * vx.natAbs := by
    have := Int.natAbs_sub_le px (py.tdiv vy * vx)
    rw [Int.natAbs_mul] at this
    exact this
  have hv : 0 < vy.natAbs := by omega
  have hd := Nat.div_add_mod py.natAbs vy.natAbs
  have hlt := Nat.mod_lt py.natAbs hv
  rw [hq] at hx
  have hr' : (py.tmod vy).natAbs ≤ 1000 := by rw [hr]; omega
  unfold euJ
  rw [hr]
  rw [hr] at hr'
  generalize (px - py.tdiv vy * vx).natAbs = X at *
  generalize py.natAbs / vy.natAbs = Q at *
  generalize py.natAbs % vy.natAbs = r at *
  generalize px.natAbs = p at *
  generalize vx.natAbs = v at *
  generalize vy.natAbs = y at *
  have hX : X * y ≤ p * y + Q * v * y := by rw [← Nat.add_mul]; exact Nat.mul_le_mul_right y hx
  have hS : p * y + v * (y * Q + r) ≤ K := by rw [hd]; exact h1
  have hE : v * (y * Q + r) = Q * v * y + v * r := by grind
  have hXX : X ≤ X * y := Nat.le_mul_of_pos_right X hv
  refine ⟨by omega, h3, hr', h5, by omega⟩
theorem euJ_prod {K : Nat} {px py vx vy : Int} (h : euJ K px py vx vy) : (py.tdiv vy).natAbs ≤ 1000 ∧ (py.tdiv vy * vx).natAbs ≤ K := by
  obtain ⟨h1, h2, h3, h4, h5⟩ := h
  have hq : (py.tdiv vy).natAbs = py.natAbs / vy.natAbs := Int.natAbs_tdiv ..
  have hq' : (py.tdiv vy).natAbs ≤ py.natAbs := by rw [hq]; exact Nat.div_le_self _ _
  refine ⟨by omega, ?_⟩
  rw [Int.natAbs_mul]
  have h6 := Nat.mul_le_mul_right vx.natAbs hq'
  have h7 := Nat.mul_comm py.natAbs vx.natAbs
  omega
theorem euJ_end {K : Nat} (px py vx vy : Int) : euJ K px py vx vy → (eu px py vx vy).1.natAbs ≤ K ∧ (eu px py vx vy).2.1.natAbs ≤ 1000 ∧ (eu px py vx vy).2.2.natAbs ≤ K := by
  induction px, py, vx, vy using eu.induct with
  | case1 px py vx => intro h; simp only [eu_zero]; exact ⟨h.2.2.2.1, h.2.1, h.2.2.2.2⟩
  | case2 px py vx vy h ih => intro hJ; rw [eu_step px py vx h]; exact ih (euJ_next hJ h)

/- the lattice in reduced form and its members -/
def hasI (A B C x y : Int) : Prop := C ∣ y ∧ A ∣ x - y / C * B
def redX (A B C x y : Int) : Int := (x - y / C * B) % A
def redY (C y : Int) : Int := y % C
/- the lattice of a vector and a multiple of the first axis -/
def nrm (f sx sy : Int) : Int × Int × Int := if sy < 0 then (f, (-sx) % f, -sy) else (f, sx % f, sy)
theorem nrm_mod (f sx sx' sy : Int) (h : f ∣ sx - sx') : nrm f sx sy = nrm f sx' sy := by
  have h1 : sx % f = sx' % f := Int.emod_eq_emod_iff_emod_sub_eq_zero.2 (Int.emod_eq_zero_of_dvd h)
  have h2 : (-sx) % f = (-sx') % f := Int.emod_eq_emod_iff_emod_sub_eq_zero.2 (Int.emod_eq_zero_of_dvd (by obtain ⟨k, hk⟩ := h; exact ⟨-k, by grind⟩))
  unfold nrm; rw [h1, h2]
theorem nrm_has {f sx sy x y : Int} (h0 : sy ≠ 0) : hasI (nrm f sx sy).1 (nrm f sx sy).2.1 (nrm f sx sy).2.2 x y ↔ ∃ k, y = k * sy ∧ f ∣ x - k * sx := by
  unfold nrm hasI
  by_cases hs : sy < 0
  · simp only [hs, if_true]
    constructor
    · rintro ⟨⟨k, hk⟩, h2⟩
      have hy : y / -sy = k := by rw [hk]; exact Int.mul_ediv_cancel_left k (by omega)
      rw [hy] at h2
      refine ⟨-k, by grind, ?_⟩
      obtain ⟨t, ht⟩ := h2
      have := Int.emod_add_mul_ediv (-sx) f
      exact ⟨t - k * ((-sx) / f), by grind⟩
    · rintro ⟨k, hk, t, ht⟩
      have hy : y / -sy = -k := by rw [hk, show k * sy = -sy * -k by grind]; exact Int.mul_ediv_cancel_left _ (by omega)
      rw [hy]
      refine ⟨⟨-k, by grind⟩, ?_⟩
      have := Int.emod_add_mul_ediv (-sx) f
      exact ⟨t - k * ((-sx) / f), by grind⟩
  · simp only [hs, if_false]
    constructor
    · rintro ⟨⟨k, hk⟩, h2⟩
      have hy : y / sy = k := by rw [hk]; exact Int.mul_ediv_cancel_left k h0
      rw [hy] at h2
      refine ⟨k, by grind, ?_⟩
      obtain ⟨t, ht⟩ := h2
      have := Int.emod_add_mul_ediv sx f
      exact ⟨t - k * (sx / f), by grind⟩
    · rintro ⟨k, hk, t, ht⟩
      have hy : y / sy = k := by rw [hk, Int.mul_comm]; exact Int.mul_ediv_cancel_left _ h0
      rw [hy]
      refine ⟨⟨k, by grind⟩, ?_⟩
      have := Int.emod_add_mul_ediv sx f
      exact ⟨t + k * (sx / f), by grind⟩

/- the list's lattice: the program's states and the model's -/
def spStep (s : Int × Int × Int) (v : Int × Int) : Int × Int × Int :=
  ((eu s.1 s.2.1 v.1 v.2).1, (eu s.1 s.2.1 v.1 v.2).2.1, gcdI s.2.2 (eu s.1 s.2.1 v.1 v.2).2.2)
def hmStep (s : Int × Int × Int) (v : Int × Int) : Int × Int × Int :=
  (if 0 < (spStep s v).2.2 then (spStep s v).1 % (spStep s v).2.2 else (spStep s v).1, (spStep s v).2)
def spFold (L : List (Int × Int)) : Int × Int × Int := L.foldl spStep (0, 0, 0)
def hmFold (L : List (Int × Int)) : Int × Int × Int := L.foldl hmStep (0, 0, 0)
def latL (L : List (Int × Int)) : Int × Int × Int := nrm (spFold L).2.2 (spFold L).1 (spFold L).2.1
theorem gcdI_dvd_left (a b : Int) : gcdI a b ∣ a := Int.gcd_dvd_left a b
theorem gcdI_same {a b b' : Int} (h : a ∣ b - b') : gcdI a b = gcdI a b' := by
  obtain ⟨k, hk⟩ := h
  have : b = b' + a * k := by omega
  subst this
  unfold gcdI
  rw [Int.gcd_add_mul_left_right]
def sameS (s t : Int × Int × Int) : Prop := s.2 = t.2 ∧ s.2.2 ∣ s.1 - t.1
theorem sameS_step {s t : Int × Int × Int} (v : Int × Int) (h : sameS s t) : sameS (spStep s v) (hmStep t v) := by
  obtain ⟨sx, sy, f⟩ := s
  obtain ⟨tx, ty, f'⟩ := t
  obtain ⟨h1, h2⟩ := h
  simp only [Prod.mk.injEq] at h1
  obtain ⟨rfl, rfl⟩ := h1
  obtain ⟨h3, h4, h5⟩ := eu_mod f sx sy v.1 v.2 tx v.1 h2 (by simp)
  have h6 := gcdI_same h5
  have h7 := gcdI_dvd_left f (eu tx sy v.1 v.2).2.2
  unfold sameS hmStep spStep
  simp only
  refine ⟨by rw [h3, h6], ?_⟩
  rw [h6]
  generalize gcdI f (eu tx sy v.1 v.2).2.2 = g at *
  have h8 : g ∣ (eu sx sy v.1 v.2).1 - (eu tx sy v.1 v.2).1 := Int.dvd_trans h7 h4
  split
  · obtain ⟨k, hk⟩ := h8
    have := Int.emod_add_mul_ediv (eu tx sy v.1 v.2).1 g
    exact ⟨k + (eu tx sy v.1 v.2).1 / g, by grind⟩
  · exact h8
theorem sameS_fold (L : List (Int × Int)) : ∀ s t, sameS s t → sameS (L.foldl spStep s) (L.foldl hmStep t) := by
  induction L with
  | nil => intro s t h; exact h
  | cons v L ih => intro s t h; exact ih _ _ (sameS_step v h)
theorem latL_eq (L : List (Int × Int)) : latL L = nrm (hmFold L).2.2 (hmFold L).1 (hmFold L).2.1 := by
  obtain ⟨h1, h2⟩ := sameS_fold L (0, 0, 0) (0, 0, 0) ⟨rfl, by simp⟩
  unfold latL hmFold spFold
  rw [← h1]
  exact nrm_mod _ _ _ _ h2

/- bounds of the states -/
def bdL (i : Nat) : Nat := 1000000 * 1001 ^ i
def stB (M : Nat) (s : Int × Int × Int) : Prop := s.1.natAbs ≤ M ∧ s.2.1.natAbs ≤ 1000 ∧ 0 ≤ s.2.2 ∧ s.2.2.natAbs ≤ M
theorem stB_J {M : Nat} {s : Int × Int × Int} {v : Int × Int} (hM : 1000000 ≤ M) (h : stB M s) (hx : v.1.natAbs ≤ 1000) (hy : v.2.natAbs ≤ 1000) : euJ (1001 * M) s.1 s.2.1 v.1 v.2 := by
  obtain ⟨h1, h2, h3, h4⟩ := h
  have h5 : s.1.natAbs * v.2.natAbs ≤ M * 1000 := Nat.mul_le_mul h1 hy
  have h6 : v.1.natAbs * s.2.1.natAbs ≤ 1000 * 1000 := Nat.mul_le_mul hx h2
  exact ⟨by omega, h2, hy, by omega, by omega⟩
theorem gcdI_nn (a b : Int) : 0 ≤ gcdI a b := Int.natCast_nonneg _
theorem gcdI_bd {a b : Int} {M : Nat} (ha : a.natAbs ≤ M) (hb : b.natAbs ≤ M) : (gcdI a b).natAbs ≤ M := by
  unfold gcdI
  rw [Int.natAbs_natCast]
  by_cases h0 : a = 0
  · subst h0; rw [Int.gcd_zero_left]; exact hb
  · exact Nat.le_trans (Int.gcd_le_natAbs_left b h0) ha
theorem stB_sp {M : Nat} {s : Int × Int × Int} {v : Int × Int} (hM : 1000000 ≤ M) (h : stB M s) (hx : v.1.natAbs ≤ 1000) (hy : v.2.natAbs ≤ 1000) : stB (1001 * M) (spStep s v) := by
  have h1 := euJ_end _ _ _ _ (stB_J hM h hx hy)
  refine ⟨h1.1, h1.2.1, gcdI_nn _ _, gcdI_bd ?_ h1.2.2⟩
  have := h.2.2.2
  omega
theorem stB_hm {M : Nat} {s : Int × Int × Int} {v : Int × Int} (hM : 1000000 ≤ M) (h : stB M s) (hx : v.1.natAbs ≤ 1000) (hy : v.2.natAbs ≤ 1000) : stB (1001 * M) (hmStep s v) := by
  obtain ⟨h1, h2, h3, h4⟩ := stB_sp hM h hx hy
  refine ⟨?_, h2, h3, h4⟩
  unfold hmStep
  simp only
  split
  · rename_i h0
    have h5 := Int.emod_lt_of_pos (spStep s v).1 h0
    have h6 := Int.emod_nonneg (spStep s v).1 (show (spStep s v).2.2 ≠ 0 by omega)
    omega
  · exact h1
theorem stB_zero (M : Nat) : stB M (0, 0, 0) := by simp [stB]
def vecsB (L : List (Int × Int)) : Prop := ∀ v ∈ L, v.1.natAbs ≤ 1000 ∧ v.2.natAbs ≤ 1000
theorem bdL_le {i : Nat} (h : i ≤ 4) : bdL i ≤ 1005000000000000000 ∧ 1000000 ≤ bdL i := by
  have : i = 0 ∨ i = 1 ∨ i = 2 ∨ i = 3 ∨ i = 4 := by omega
  rcases this with rfl | rfl | rfl | rfl | rfl <;> decide
theorem bdL_succ (i : Nat) : bdL (i + 1) = 1001 * bdL i := by unfold bdL; rw [Nat.pow_succ]; grind
theorem fold_take (step : Int × Int × Int → Int × Int → Int × Int × Int) (L : List (Int × Int)) (i : Nat) (h : i < L.length) (s : Int × Int × Int) :
    (L.take (i + 1)).foldl step s = step ((L.take i).foldl step s) L[i] := by
  rw [List.take_succ_eq_append_getElem h, List.foldl_append]; rfl

/- two vectors -/
theorem spFold_one (x y : Int) : spFold [(x, y)] = if y = 0 then (0, 0, gcdI 0 x) else (x, y, 0) := by
  unfold spFold spStep
  simp only [List.foldl]
  by_cases h : y = 0
  · subst h; simp [eu_zero]
  · rw [eu_step 0 0 x h]
    simp [h, eu_zero, gcdI]
theorem gcdI_z (x : Int) : gcdI 0 x = x.natAbs := by simp [gcdI]
theorem nrm_A (f sx sy : Int) : (nrm f sx sy).1 = f := by unfold nrm; split <;> rfl
theorem nrm_C (f sx sy : Int) : (nrm f sx sy).2.2 = sy.natAbs := by unfold nrm; split <;> (simp only; omega)
theorem nrm_B (f sx sy : Int) (h : 0 < f) : 0 ≤ (nrm f sx sy).2.1 ∧ (nrm f sx sy).2.1 < f := by
  unfold nrm; split <;> exact ⟨Int.emod_nonneg _ (by omega), Int.emod_lt_of_pos _ h⟩
theorem two_facts (ux uy vx vy : Int) (h : ux * vy - uy * vx ≠ 0) :
    0 < (spFold [(ux, uy), (vx, vy)]).2.2 ∧ (latL [(ux, uy), (vx, vy)]).1 * (latL [(ux, uy), (vx, vy)]).2.2 = ((ux * vy - uy * vx).natAbs : Int) ∧
    hasI (latL [(ux, uy), (vx, vy)]).1 (latL [(ux, uy), (vx, vy)]).2.1 (latL [(ux, uy), (vx, vy)]).2.2 ux uy ∧ hasI (latL [(ux, uy), (vx, vy)]).1 (latL [(ux, uy), (vx, vy)]).2.1 (latL [(ux, uy), (vx, vy)]).2.2 vx vy := by
  have e2 : spFold [(ux, uy), (vx, vy)] = spStep (spFold [(ux, uy)]) (vx, vy) := rfl
  unfold latL
  rw [e2, spFold_one]
  by_cases hu : uy = 0
  · subst hu
    have hvy : vy ≠ 0 := by rintro rfl; simp at h
    have hux : ux ≠ 0 := by rintro rfl; simp at h
    have e3 : spStep (0, 0, gcdI 0 ux) (vx, vy) = (vx, vy, gcdI 0 ux) := by
      unfold spStep
      simp only
      rw [eu_step 0 0 vx hvy]
      simp [eu_zero, gcdI]
    simp only [if_true, e3]
    rw [nrm_has hvy, nrm_has hvy, nrm_A, nrm_C, gcdI_z]
    refine ⟨by omega, ?_, ⟨0, by simp, by rw [Int.zero_mul, Int.sub_zero]; exact Int.natAbs_dvd.2 (Int.dvd_refl _)⟩, ⟨1, by simp, by simp⟩⟩
    simp [Int.natAbs_mul]
  · simp only [hu, if_false]
    obtain ⟨a, b, c, d, e, he, hd, h1, h2, h3, h4⟩ := eu_basis ux uy vx vy
    unfold spStep
    simp only
    generalize (eu ux uy vx vy).1 = sx at *
    generalize (eu ux uy vx vy).2.1 = sy at *
    generalize (eu ux uy vx vy).2.2 = X at *
    have hX : X * sy = -e * (ux * vy - uy * vx) := by
      subst h1 h2 h3 hd; grind
    have hsy : sy ≠ 0 := by
      rintro rfl
      rw [Int.mul_zero] at hX
      rcases he with rfl | rfl <;> omega
    have hX0 : X ≠ 0 := by
      rintro rfl
      rw [Int.zero_mul] at hX
      rcases he with rfl | rfl <;> omega
    rw [nrm_has hsy, nrm_has hsy, nrm_A, nrm_C, gcdI_z]
    have hee : e * e = 1 := by rcases he with rfl | rfl <;> rfl
    refine ⟨by omega, ?_, ⟨e * d, ?_, ?_⟩, ⟨-e * c, ?_, ?_⟩⟩
    · rw [← Int.natCast_mul, ← Int.natAbs_mul]
      congr 1
      rw [hX]
      rcases he with rfl | rfl <;> omega
    · subst h2 hd; grind
    · refine Int.natAbs_dvd.2 ⟨-e * b, ?_⟩
      subst h1 h3; grind
    · subst h2; grind
    · refine Int.natAbs_dvd.2 ⟨e * a, ?_⟩
      subst h1 h3; grind

/- two lattices: the join -/
def latI (A B C : Int) : Prop := 1 ≤ A ∧ 1 ≤ C ∧ 0 ≤ B ∧ B < A ∧ A * C ≤ 64
/- what join and meet have in common: f and h are the join's numbers, G the rest of the divisor of the two A, p and q those of the two C -/
/- two congruences -/
theorem has_zero (A B C x : Int) : hasI A B C x 0 ↔ A ∣ x := by simp [hasI]
def both (A B C A' B' C' x y : Int) : Prop := hasI A B C x y ∧ hasI A' B' C' x y
section
variable {A B C A' B' C' f h g G p q X : Int}
end

/- ===== results ===== -/
theorem redX_bd {A B C x y : Int} (h : latI A B C) : 0 ≤ redX A B C x y ∧ redX A B C x y < A :=
  ⟨Int.emod_nonneg _ (by have := h.1; omega), Int.emod_lt_of_pos _ (by have := h.1; omega)⟩
theorem redY_bd {A B C y : Int} (h : latI A B C) : 0 ≤ redY C y ∧ redY C y < C :=
  ⟨Int.emod_nonneg _ (by have := h.2.1; omega), Int.emod_lt_of_pos _ (by have := h.2.1; omega)⟩
theorem red_cell {A B C x y : Int} (hx : 0 ≤ x) (hx' : x < A) (hy : 0 ≤ y) (hy' : y < C) : redX A B C x y = x ∧ redY C y = y := by
  have e1 : y / C = 0 := Int.ediv_eq_zero_of_lt hy hy'
  unfold redX redY
  rw [e1, Int.zero_mul, Int.sub_zero, Int.emod_eq_of_lt hx hx', Int.emod_eq_of_lt hy hy']
  exact ⟨rfl, rfl⟩
/- the lattice of two vectors that span the plane, where it is not too great -/
theorem two_lat {ux uy vx vy : Int} (h : ux * vy - uy * vx ≠ 0) (h64 : (latL [(ux, uy), (vx, vy)]).1 * (latL [(ux, uy), (vx, vy)]).2.2 ≤ 64) :
    latI (latL [(ux, uy), (vx, vy)]).1 (latL [(ux, uy), (vx, vy)]).2.1 (latL [(ux, uy), (vx, vy)]).2.2 := by
  obtain ⟨h0, h1, _, _⟩ := two_facts ux uy vx vy h
  have hb := nrm_B (spFold [(ux, uy), (vx, vy)]).2.2 (spFold [(ux, uy), (vx, vy)]).1 (spFold [(ux, uy), (vx, vy)]).2.1 h0
  have hA : (latL [(ux, uy), (vx, vy)]).1 = (spFold [(ux, uy), (vx, vy)]).2.2 := nrm_A _ _ _
  have hC : (latL [(ux, uy), (vx, vy)]).2.2 = ((spFold [(ux, uy), (vx, vy)]).2.1.natAbs : Int) := nrm_C _ _ _
  have hC1 : 1 ≤ (latL [(ux, uy), (vx, vy)]).2.2 := by
    by_cases hp : 1 ≤ (latL [(ux, uy), (vx, vy)]).2.2
    · exact hp
    · have : (latL [(ux, uy), (vx, vy)]).2.2 = 0 := by omega
      rw [this, Int.mul_zero] at h1
      omega
  exact ⟨by omega, hC1, hb.1, by rw [hA]; exact hb.2, h64⟩
end
end Go.Proofs.YtdgophfembpniaaGreatDoor

namespace Go.Proofs.YtdgophfembpniaaGreatDoor
section
open Go.RowKit
set_option linter.unusedVariables false
set_option linter.unusedSimpArgs false

def nrmI (f x y : Int) : Int := x * x + y * y + f * (x * y)
def frB (f : Int) : Bool := f == 0 || f == 1
theorem frB_iff {f : Int} : frB f = true ↔ f = 0 ∨ f = 1 := by simp [frB]
theorem frB_not {f : Int} : frB f = false ↔ ¬ f = 0 ∧ ¬ f = 1 := by simp [frB]
theorem sq_nn (a : Int) : 0 ≤ a * a := by
  rcases Int.le_total 0 a with h | h
  · exact Int.mul_nonneg h h
  · exact Int.mul_nonneg_of_nonpos_of_nonpos h h
theorem sq_ge {a : Int} {k : Int} (hk : 0 ≤ k) (h : k ≤ a ∨ a ≤ -k) : k * k ≤ a * a := by
  rcases h with h | h
  · exact Int.mul_le_mul h h hk (by omega)
  · have := Int.mul_le_mul (show k ≤ -a by omega) (show k ≤ -a by omega) hk (by omega)
    rwa [Int.neg_mul_neg] at this
theorem sq_lt {a k : Int} (hk : 0 ≤ k) (h : a * a < (k + 1) * (k + 1)) : -k ≤ a ∧ a ≤ k := by
  by_cases h1 : -k ≤ a ∧ a ≤ k
  · exact h1
  · have := sq_ge (a := a) (k := k + 1) (by omega) (by omega)
    omega
theorem nrm_coord {f x y : Int} (hf : frB f = true) : 3 * (x * x) ≤ 4 * nrmI f x y ∧ 3 * (y * y) ≤ 4 * nrmI f x y := by
  rcases frB_iff.1 hf with rfl | rfl
  · have h1 := sq_nn x
    have h2 := sq_nn y
    have e : nrmI 0 x y = x * x + y * y := by simp [nrmI]
    rw [e]; omega
  · have h1 := sq_nn (x + 2 * y)
    have h2 := sq_nn (2 * x + y)
    have e1 : 4 * nrmI 1 x y = 3 * (x * x) + (x + 2 * y) * (x + 2 * y) := by unfold nrmI; grind
    have e2 : 4 * nrmI 1 x y = 3 * (y * y) + (2 * x + y) * (2 * x + y) := by unfold nrmI; grind
    omega
theorem nrm_zero {f x y : Int} (hf : frB f = true) (h : nrmI f x y ≤ 0) : x = 0 ∧ y = 0 := by
  obtain ⟨h1, h2⟩ := nrm_coord (x := x) (y := y) hf
  have hx := sq_lt (a := x) (k := 0) (by omega) (by omega)
  have hy := sq_lt (a := y) (k := 0) (by omega) (by omega)
  omega
theorem nrm_pos {f x y : Int} (hf : frB f = true) (h : ¬ (x = 0 ∧ y = 0)) : 0 < nrmI f x y := by
  by_cases h1 : 0 < nrmI f x y
  · exact h1
  · exact absurd (nrm_zero hf (by omega)) h
theorem nrm_box {f x y n k : Int} (hf : frB f = true) (hk : 0 ≤ k) (h : nrmI f x y ≤ n) (h1 : 4 * n < 3 * ((k + 1) * (k + 1))) : (-k ≤ x ∧ x ≤ k) ∧ (-k ≤ y ∧ y ≤ k) := by
  obtain ⟨a1, a2⟩ := nrm_coord (x := x) (y := y) hf
  exact ⟨sq_lt hk (by omega), sq_lt hk (by omega)⟩
def tI (f ux uy vx vy : Int) : Int := 2 * (ux * vx + uy * vy) + f * (ux * vy + uy * vx)
theorem nrm_comb (f ux uy vx vy a b : Int) : nrmI f (a * ux + b * vx) (a * uy + b * vy) = a * a * nrmI f ux uy + a * b * tI f ux uy vx vy + b * b * nrmI f vx vy := by
  unfold nrmI tI; grind
theorem nrm_sum (f ux uy vx vy : Int) : nrmI f (ux + vx) (uy + vy) = nrmI f ux uy + tI f ux uy vx vy + nrmI f vx vy := by
  unfold nrmI tI; grind
theorem disc (f ux uy vx vy : Int) : 4 * (nrmI f ux uy * nrmI f vx vy) - tI f ux uy vx vy * tI f ux uy vx vy = (4 - f * f) * ((ux * vy - uy * vx) * (ux * vy - uy * vx)) := by
  unfold nrmI tI; grind

/- the lattice as sums of multiples -/
def inL (A B C x y : Int) : Prop := ∃ a b : Int, x = a * A + b * B ∧ y = b * C
theorem inL_iff {A B C : Int} (hC : C ≠ 0) (x y : Int) : hasI A B C x y ↔ inL A B C x y := by
  constructor
  · rintro ⟨⟨k, rfl⟩, j, hj⟩
    rw [Int.mul_ediv_cancel_left _ hC] at hj
    exact ⟨j, k, by rw [Int.mul_comm j A]; omega, Int.mul_comm _ _⟩
  · rintro ⟨a, b, rfl, rfl⟩
    refine ⟨⟨b, Int.mul_comm _ _⟩, a, ?_⟩
    rw [Int.mul_ediv_cancel _ hC]
    grind
theorem inL_comb {A B C x y x' y' : Int} (h : inL A B C x y) (h' : inL A B C x' y') (m n : Int) : inL A B C (m * x + n * x') (m * y + n * y') := by
  obtain ⟨a, b, rfl, rfl⟩ := h
  obtain ⟨a', b', rfl, rfl⟩ := h'
  exact ⟨m * a + n * a', m * b + n * b', by grind, by grind⟩
structure Bas (A B C ux uy vx vy : Int) : Prop where
  hu : inL A B C ux uy
  hv : inL A B C vx vy
  hd : ux * vy - uy * vx = A * C ∨ ux * vy - uy * vx = -(A * C)
theorem Bas.start {A B C : Int} : Bas A B C A 0 B C := ⟨⟨1, 0, by simp, by simp⟩, ⟨0, 1, by simp, by simp⟩, .inl (by simp)⟩
theorem Bas.swap {A B C ux uy vx vy : Int} (h : Bas A B C ux uy vx vy) : Bas A B C vx vy ux uy :=
  ⟨h.hv, h.hu, by rcases h.hd with e | e; · right; grind
                  · left; grind⟩
theorem Bas.add {A B C ux uy vx vy : Int} (h : Bas A B C ux uy vx vy) (k : Int) : Bas A B C ux uy (vx + ux * k) (vy + uy * k) := by
  refine ⟨h.hu, ?_, ?_⟩
  · have := inL_comb h.hv h.hu 1 k
    rwa [show 1 * vx + k * ux = vx + ux * k by grind, show 1 * vy + k * uy = vy + uy * k by grind] at this
  · rcases h.hd with e | e
    · left; grind
    · right; grind
theorem Bas.span {A B C ux uy vx vy x y : Int} (h0 : A * C ≠ 0) (h : Bas A B C ux uy vx vy) (hw : inL A B C x y) : ∃ a b : Int, x = a * ux + b * vx ∧ y = a * uy + b * vy := by
  obtain ⟨a1, b1, rfl, rfl⟩ := hw
  obtain ⟨⟨p1, q1, rfl, rfl⟩, ⟨p2, q2, rfl, rfl⟩, hd⟩ := h
  have hs : p1 * q2 - p2 * q1 = 1 ∨ p1 * q2 - p2 * q1 = -1 := by
    rcases hd with e | e
    · left; exact Int.eq_of_mul_eq_mul_left h0 (by grind)
    · right; exact Int.eq_of_mul_eq_mul_left h0 (by grind)
  rcases hs with e | e
  · refine ⟨a1 * q2 - p2 * b1, p1 * b1 - a1 * q1, ?_, ?_⟩ <;> grind
  · refine ⟨-(a1 * q2 - p2 * b1), -(p1 * b1 - a1 * q1), ?_, ?_⟩ <;> grind

/- which sums of multiples of a reduced basis are short -/
theorem small1 {p q a b : Int} (hp : 0 < p) (hpq : p ≤ q) (hb : b ≠ 0) (h : a * a * p - a * b * p + b * b * q ≤ q) : (-1 ≤ a ∧ a ≤ 1) ∧ (-1 ≤ b ∧ b ≤ 1) := by
  have e1 : 0 ≤ p * ((2 * a - b) * (2 * a - b)) := Int.mul_nonneg (by omega) (sq_nn _)
  have e2 : p * (b * b) ≤ q * (b * b) := Int.mul_le_mul_of_nonneg_right hpq (sq_nn b)
  have e3 : p * ((2 * a - b) * (2 * a - b)) = 4 * (a * a * p - a * b * p + b * b * q) + p * (b * b) - 4 * (q * (b * b)) := by grind
  have e4 : 3 * (q * (b * b)) ≤ 4 * q := by omega
  have hb1 : -1 ≤ b ∧ b ≤ 1 := by
    by_cases h1 : -1 ≤ b ∧ b ≤ 1
    · exact h1
    · have h2 := sq_ge (a := b) (k := 2) (by omega) (by omega)
      have h3 := Int.mul_le_mul_of_nonneg_left h2 (show 0 ≤ q by omega)
      omega
  refine ⟨?_, hb1⟩
  by_cases ha : -1 ≤ a ∧ a ≤ 1
  · exact ha
  · have hbb : b = 1 ∨ b = -1 := by omega
    have hk : 1 ≤ a * (a - b) := by
      rcases Int.le_total 0 a with h0 | h0
      · have := Int.mul_le_mul (show 2 ≤ a by omega) (show 1 ≤ a - b by omega) (by omega) (by omega)
        omega
      · have := Int.mul_le_mul (show 2 ≤ -a by omega) (show 1 ≤ -(a - b) by omega) (by omega) (by omega)
        rw [Int.neg_mul_neg] at this
        omega
    have h4 := Int.mul_le_mul_of_nonneg_left hk (show 0 ≤ p by omega)
    have h5 : b * b * q = q := by rcases hbb with rfl | rfl <;> omega
    have h6 : p * (a * (a - b)) = a * a * p - a * b * p := by grind
    omega
theorem small_comb {p q t a b : Int} (hp : 0 < p) (hpq : p ≤ q) (h1 : -p ≤ t) (h2 : t ≤ p) (h : a * a * p + a * b * t + b * b * q ≤ q) : b = 0 ∨ ((-1 ≤ a ∧ a ≤ 1) ∧ (-1 ≤ b ∧ b ≤ 1)) := by
  by_cases hb : b = 0
  · exact .inl hb
  · right
    rcases Int.le_total 0 (a * b) with h0 | h0
    · have e := Int.mul_le_mul_of_nonneg_left h1 h0
      exact small1 hp hpq hb (by have e1 : a * b * -p = -(a * b * p) := by grind
                                 omega)
    · have e := Int.mul_le_mul_of_nonneg_left h2 (show 0 ≤ -(a * b) by omega)
      have := small1 (a := -a) hp hpq hb (by have e1 : -(a * b) * t = -(a * b * t) := by grind
                                             have e2 : -(a * b) * p = -(a * b * p) := by grind
                                             have e3 : -a * -a * p = a * a * p := by grind
                                             have e4 : -a * b * p = -(a * b * p) := by grind
                                             omega)
      omega
structure Red (f ux uy vx vy : Int) : Prop where
  hpq : nrmI f ux uy ≤ nrmI f vx vy
  lo : -(nrmI f ux uy) ≤ tI f ux uy vx vy
  hi : tI f ux uy vx vy ≤ nrmI f ux uy

/- one round of Gauss's reduction -/
theorem round_t {p t k : Int} (hp : 0 < p) (hk : k = (p + t) / (2 * p)) : -p ≤ t - 2 * (k * p) ∧ t - 2 * (k * p) < p ∧ k * k * p - k * t ≤ 0 := by
  have e1 := Int.emod_add_mul_ediv (p + t) (2 * p)
  have e2 := Int.emod_nonneg (p + t) (show 2 * p ≠ 0 by omega)
  have e3 := Int.emod_lt_of_pos (p + t) (show 0 < 2 * p by omega)
  rw [← hk] at e1
  generalize (p + t) % (2 * p) = r at *
  have e4 : 2 * p * k = 2 * (k * p) := by grind
  have h1 : -p ≤ t - 2 * (k * p) := by omega
  have h2 : t - 2 * (k * p) < p := by omega
  refine ⟨h1, h2, ?_⟩
  have e5 : k * k * p - k * t = k * (k * p - t) := by grind
  rw [e5]
  rcases Int.lt_trichotomy k 0 with h | h | h
  · have h3 : k * p ≤ -1 * p := Int.mul_le_mul_of_nonneg_right (by omega) (by omega)
    exact Int.mul_nonpos_of_nonpos_of_nonneg (by omega) (by omega)
  · subst h; omega
  · have h3 : 1 * p ≤ k * p := Int.mul_le_mul_of_nonneg_right (by omega) (by omega)
    exact Int.mul_nonpos_of_nonneg_of_nonpos (by omega) (by omega)
theorem nrm_shift (f ux uy vx vy k : Int) : nrmI f (vx + ux * -k) (vy + uy * -k) = nrmI f vx vy + (k * k * nrmI f ux uy - k * tI f ux uy vx vy) ∧ tI f ux uy (vx + ux * -k) (vy + uy * -k) = tI f ux uy vx vy - 2 * (k * nrmI f ux uy) := by
  unfold nrmI tI; constructor <;> grind

/- order of vectors -/
def lexlt (a b : Int × Int) : Prop := a.1 < b.1 ∨ a.1 = b.1 ∧ a.2 < b.2
instance (a b : Int × Int) : Decidable (lexlt a b) := by unfold lexlt; exact inferInstance
/- near vectors -/
/- the near vectors do not depend on the bound of their numbers, once it is great enough -/
end
end Go.Proofs.YtdgophfembpniaaGreatDoor

namespace Go.Proofs.YtdgophfembpniaaGreatDoor
section
open Go.RowKit
set_option linter.unusedSimpArgs false
set_option linter.unusedVariables false

def latB (A B C : Int) : Bool := decide (1 ≤ A ∧ 1 ≤ C ∧ 0 ≤ B ∧ B < A ∧ A * C ≤ 64)
theorem latB_iff {A B C : Int} : latB A B C = true ↔ latI A B C := by simp [latB, latI]
theorem latI_bd {A B C : Int} (h : latI A B C) : A ≤ 64 ∧ C ≤ 64 := by
  obtain ⟨h1, h2, h3, h4, h5⟩ := h
  have e1 := Int.mul_le_mul_of_nonneg_left h2 (show 0 ≤ A by omega)
  have e2 := Int.mul_le_mul_of_nonneg_right h1 (show 0 ≤ C by omega)
  omega
theorem le_div_iff {A C : Int} (hA : 1 ≤ A) (hC : 1 ≤ C) : C ≤ (64 : Int).tdiv A ↔ A * C ≤ 64 := by
  rw [Int.tdiv_eq_ediv_of_nonneg (by omega), Int.le_ediv_iff_mul_le (by omega), Int.mul_comm]
theorem div64 (A : Int) (hA : 1 ≤ A) : 0 ≤ (64 : Int).tdiv A ∧ (64 : Int).tdiv A ≤ 64 := by
  rw [Int.tdiv_eq_ediv_of_nonneg (by omega)]
  exact ⟨Int.ediv_nonneg (by omega) (by omega), Int.ediv_le_self _ (by omega)⟩
theorem latB_1 {A B C : Int} (h : ¬ 1 ≤ A) : latB A B C = false := by simp [latB]; omega
theorem latB_2 {A B C : Int} (h : ¬ 1 ≤ C) : latB A B C = false := by simp [latB]; omega
theorem latB_3 {A B C : Int} (h1 : 1 ≤ A) (h2 : 1 ≤ C) (h : ¬ C ≤ (64 : Int).tdiv A) : latB A B C = false := by
  rw [le_div_iff h1 h2] at h; simp [latB]; omega
theorem latB_4 {A B C : Int} (h : ¬ 0 ≤ B) : latB A B C = false := by simp [latB]; omega
theorem latB_5 {A B C : Int} (h : ¬ B < A) : latB A B C = false := by simp [latB]; omega
theorem latB_6 {A B C : Int} (h1 : 1 ≤ A) (h2 : 1 ≤ C) (h3 : C ≤ (64 : Int).tdiv A) (h4 : 0 ≤ B) (h5 : B < A) : latB A B C = true := by
  rw [le_div_iff h1 h2] at h3; simp [latB]; omega

set_option maxHeartbeats 1000000 in
theorem isValidL_any (A B C : Int) (w : World) :
    Calls Tryz.prog 114 #[.agg #[.int .i64 A, .int .i64 B, .int .i64 C]] w fun e w' => e = .returned (.bool (latB A B C)) ∧ Below w.heap.size w w' := by
  by_cases h1 : 1 ≤ A
  case neg =>
    have hd : decide (1 ≤ A) = false := by simpa using h1
    have HD := Lib.hid hd
    have EA := Lib.hid (latB_1 (B := B) (C := C) h1)
    clear hd h1
    go_enter Tryz.func114, Tryz.ntmps114
    go_wp2
    have hd := HD.out
    go_quiet (fail)
    go_wp2
    go_ret
    refine ⟨ret_bool (EA.out).symm, ?_⟩
    repeat (first | exact Below.refl _ _ | refine below_drewN ?_ _ | refine Below.setCell ?_ (by first | omega | (simp <;> omega)) _ | refine Below.alloc ?_ (by first | omega | (simp <;> omega)) _ | refine bstep ?_ (by assumption) | refine Below.drew ?_)
  by_cases h2 : 1 ≤ C
  case neg =>
    have hd : decide (1 ≤ C) = false := by simpa using h2
    have HD := Lib.hid hd
    have EA := Lib.hid (latB_2 (A := A) (B := B) h2)
    clear hd h2
    go_enter Tryz.func114, Tryz.ntmps114
    go_wp2
    have hd := HD.out
    go_quiet (fail)
    go_wp2
    go_ret
    refine ⟨ret_bool (EA.out).symm, ?_⟩
    repeat (first | exact Below.refl _ _ | refine below_drewN ?_ _ | refine Below.setCell ?_ (by first | omega | (simp <;> omega)) _ | refine Below.alloc ?_ (by first | omega | (simp <;> omega)) _ | refine bstep ?_ (by assumption) | refine Below.drew ?_)
  obtain ⟨q0, q1⟩ := div64 A h1
  have hA0 : ¬ A = 0 := by omega
  have hw : IntKind.i64.wrap ((64 : Int).tdiv A) = (64 : Int).tdiv A := IntWalk.i64_in _ (by omega)
  by_cases h3 : C ≤ (64 : Int).tdiv A
  case neg =>
    have hd : decide (C ≤ (64 : Int).tdiv A) = false := by simpa using h3
    have HD := Lib.hid hd
    have EA := Lib.hid (latB_3 (B := B) h1 h2 h3)
    clear hd h3
    go_enter Tryz.func114, Tryz.ntmps114
    go_wp2
    have hd := HD.out
    go_quiet (fail)
    go_wp2
    go_ret
    refine ⟨ret_bool (EA.out).symm, ?_⟩
    repeat (first | exact Below.refl _ _ | refine below_drewN ?_ _ | refine Below.setCell ?_ (by first | omega | (simp <;> omega)) _ | refine Below.alloc ?_ (by first | omega | (simp <;> omega)) _ | refine bstep ?_ (by assumption) | refine Below.drew ?_)
  by_cases h4 : 0 ≤ B
  case neg =>
    have hd : decide (0 ≤ B) = false := by simpa using h4
    have HD := Lib.hid hd
    have EA := Lib.hid (latB_4 (A := A) (C := C) h4)
    clear hd h4
    go_enter Tryz.func114, Tryz.ntmps114
    go_wp2
    have hd := HD.out
    go_quiet (fail)
    go_wp2
    go_ret
    refine ⟨ret_bool (EA.out).symm, ?_⟩
    repeat (first | exact Below.refl _ _ | refine below_drewN ?_ _ | refine Below.setCell ?_ (by first | omega | (simp <;> omega)) _ | refine Below.alloc ?_ (by first | omega | (simp <;> omega)) _ | refine bstep ?_ (by assumption) | refine Below.drew ?_)
  by_cases h5 : B < A
  case neg =>
    have hd : decide (B < A) = false := by simpa using h5
    have HD := Lib.hid hd
    have EA := Lib.hid (latB_5 (C := C) h5)
    clear hd h5
    go_enter Tryz.func114, Tryz.ntmps114
    go_wp2
    have hd := HD.out
    go_quiet (fail)
    go_wp2
    go_ret
    refine ⟨ret_bool (EA.out).symm, ?_⟩
    repeat (first | exact Below.refl _ _ | refine below_drewN ?_ _ | refine Below.setCell ?_ (by first | omega | (simp <;> omega)) _ | refine Below.alloc ?_ (by first | omega | (simp <;> omega)) _ | refine bstep ?_ (by assumption) | refine Below.drew ?_)
  case pos =>
    have EA := Lib.hid (latB_6 h1 h2 h3 h4 h5)
    go_enter Tryz.func114, Tryz.ntmps114
    go_wp2
    go_quiet (fail)
    go_wp2
    go_ret
    refine ⟨ret_bool (EA.out).symm, ?_⟩
    repeat (first | exact Below.refl _ _ | refine below_drewN ?_ _ | refine Below.setCell ?_ (by first | omega | (simp <;> omega)) _ | refine Below.alloc ?_ (by first | omega | (simp <;> omega)) _ | refine bstep ?_ (by assumption) | refine Below.drew ?_)

set_option maxHeartbeats 1000000 in
theorem specIsLattice_any (A B C : Int) (w : World) :
    Calls Tryz.prog 131 #[.agg #[.int .i64 A, .int .i64 B, .int .i64 C]] w fun e w' => e = .returned (.bool (latB A B C)) ∧ Below w.heap.size w w' := by
  rcases h1 : inB A 1 64 with _ | _
  · have ea : latB A B C = false := by
      have n : ¬ latB A B C = true := by intro hl; have hl' := latB_iff.1 hl; have hb := latI_bd hl'; have := hl'.1; simp [inB] at h1; omega
      simpa using n
    go_enter Tryz.func131, Tryz.ntmps131
    go_wp2_with (go_at_call 67; refine (l01In_any _ _ _ _).mono ?_; rintro e w' ⟨rfl, rfl⟩)
    go_ret
    refine ⟨ret_bool (ea.symm), ?_⟩
    repeat (first | exact Below.refl _ _ | refine Below.setCell ?_ (by first | omega | (simp <;> omega)) _ | refine Below.alloc ?_ (by first | omega | (simp <;> omega)) _ | refine bstep ?_ (by assumption) | refine Below.drew ?_)
  rcases h2 : inB C 1 64 with _ | _
  · have ea : latB A B C = false := by
      have n : ¬ latB A B C = true := by intro hl; have hl' := latB_iff.1 hl; have hb := latI_bd hl'; have := hl'.2.1; simp [inB] at h2; omega
      simpa using n
    go_enter Tryz.func131, Tryz.ntmps131
    go_wp2_with (go_at_call 67; refine (l01In_any _ _ _ _).mono ?_; rintro e w' ⟨rfl, rfl⟩)
    go_ret
    refine ⟨ret_bool (ea.symm), ?_⟩
    repeat (first | exact Below.refl _ _ | refine Below.setCell ?_ (by first | omega | (simp <;> omega)) _ | refine Below.alloc ?_ (by first | omega | (simp <;> omega)) _ | refine bstep ?_ (by assumption) | refine Below.drew ?_)
  have hA := inB_bd h1
  have hC := inB_bd h2
  have b1 := Int.mul_le_mul hA.2 hC.2 (show 0 ≤ C by omega) (show (0 : Int) ≤ 64 by omega)
  have b2 := Int.mul_nonneg (show 0 ≤ A by omega) (show 0 ≤ C by omega)
  rcases h3 : inB B 0 (A - 1) with _ | _
  · have ea : latB A B C = false := by simp [inB] at h3; simp [latB]; omega
    go_enter Tryz.func131, Tryz.ntmps131
    go_wp2_with (go_at_call 67; refine (l01In_any _ _ _ _).mono ?_; rintro e w' ⟨rfl, rfl⟩)
    go_ret
    refine ⟨ret_bool (ea.symm), ?_⟩
    repeat (first | exact Below.refl _ _ | refine Below.setCell ?_ (by first | omega | (simp <;> omega)) _ | refine Below.alloc ?_ (by first | omega | (simp <;> omega)) _ | refine bstep ?_ (by assumption) | refine Below.drew ?_)
  by_cases h4 : A * C ≤ 64
  · have ea : latB A B C = true := by simp [inB] at h3; simp [latB]; omega
    go_enter Tryz.func131, Tryz.ntmps131
    go_wp2_with (go_at_call 67; refine (l01In_any _ _ _ _).mono ?_; rintro e w' ⟨rfl, rfl⟩)
    go_ret
    refine ⟨ret_bool (by simp [ea, h4]), ?_⟩
    repeat (first | exact Below.refl _ _ | refine Below.setCell ?_ (by first | omega | (simp <;> omega)) _ | refine Below.alloc ?_ (by first | omega | (simp <;> omega)) _ | refine bstep ?_ (by assumption) | refine Below.drew ?_)
  · have ea : latB A B C = false := by simp [latB]; omega
    go_enter Tryz.func131, Tryz.ntmps131
    go_wp2_with (go_at_call 67; refine (l01In_any _ _ _ _).mono ?_; rintro e w' ⟨rfl, rfl⟩)
    go_ret
    refine ⟨ret_bool (by simp [ea, h4]), ?_⟩
    repeat (first | exact Below.refl _ _ | refine Below.setCell ?_ (by first | omega | (simp <;> omega)) _ | refine Below.alloc ?_ (by first | omega | (simp <;> omega)) _ | refine bstep ?_ (by assumption) | refine Below.drew ?_)

def bigI (a : Int) : Prop := -2000000000000000000 ≤ a ∧ a ≤ 2000000000000000000
theorem mod_val (a n : Int) (hn : 1 ≤ n) : (a.tmod n + n) % n = a % n := by
  have h3 := @Int.tmod_eq_emod a n
  rw [Int.add_emod_right, h3]
  split
  · simp
  · rw [show ((n.natAbs : Nat) : Int) = n by omega, Int.sub_emod_right, Int.emod_emod]
theorem mod_neg (a n : Int) (hn : 1 ≤ n) : (if a.tmod n < 0 then a.tmod n + n else a.tmod n) = a % n := by
  have h1 := Int.emod_nonneg a (show n ≠ 0 by omega)
  have h2 := Int.emod_lt_of_pos a (show 0 < n by omega)
  have h3 := @Int.tmod_eq_emod a n
  split at h3 <;> split <;> omega

set_option maxHeartbeats 1000000 in
theorem remainder_any (a n : Int) (w : World) (ha : bigI a) (hn : 1 ≤ n) (hn' : bigI n) :
    Calls Tryz.prog 155 #[.int .i64 a, .int .i64 n] w fun e w' => e = .returned (.int .i64 (a % n)) ∧ Below w.heap.size w w' := by
  have HV := Lib.hid (mod_val a n hn)
  have h0 : ¬ n = 0 := by omega
  have h4 : (a.tmod n).natAbs < n.natAbs := tmod_lt a n h0
  unfold bigI at ha hn'
  have hw1 : IntKind.i64.wrap (a.tmod n) = a.tmod n := IntWalk.i64_in _ (by omega)
  go_enter Tryz.func155, Tryz.ntmps155
  go_wp2
  go_ret
  refine ⟨ret_int HV.out, ?_⟩
  repeat (first | exact Below.refl _ _ | refine Below.setCell ?_ (by first | omega | (simp <;> omega)) _ | refine Below.alloc ?_ (by first | omega | (simp <;> omega)) _ | refine bstep ?_ (by assumption) | refine Below.drew ?_)

set_option maxHeartbeats 1000000 in
theorem l01Mod_any (a n : Int) (w : World) (ha : bigI a) (hn : 1 ≤ n) (hn' : bigI n) :
    Calls Tryz.prog 127 #[.int .i64 a, .int .i64 n] w fun e w' => e = .returned (.int .i64 (a % n)) ∧ Below w.heap.size w w' := by
  have hv := mod_neg a n hn
  have h0 : ¬ n = 0 := by omega
  have h4 : (a.tmod n).natAbs < n.natAbs := tmod_lt a n h0
  unfold bigI at ha hn'
  have hw1 : IntKind.i64.wrap (a.tmod n) = a.tmod n := IntWalk.i64_in _ (by omega)
  have hw2 : IntKind.i64.wrap (a.tmod n + n) = a.tmod n + n := IntWalk.i64_in _ (by omega)
  by_cases hs : a.tmod n < 0
  · rw [if_pos hs] at hv
    have HV := Lib.hid hv
    clear hv
    go_enter Tryz.func127, Tryz.ntmps127
    go_wp2
    go_ret
    refine ⟨ret_int HV.out, ?_⟩
    repeat (first | exact Below.refl _ _ | refine Below.setCell ?_ (by first | omega | (simp <;> omega)) _ | refine Below.alloc ?_ (by first | omega | (simp <;> omega)) _ | refine bstep ?_ (by assumption) | refine Below.drew ?_)
  · rw [if_neg hs] at hv
    have HV := Lib.hid hv
    clear hv
    go_enter Tryz.func127, Tryz.ntmps127
    go_wp2
    go_ret
    refine ⟨ret_int HV.out, ?_⟩
    repeat (first | exact Below.refl _ _ | refine Below.setCell ?_ (by first | omega | (simp <;> omega)) _ | refine Below.alloc ?_ (by first | omega | (simp <;> omega)) _ | refine bstep ?_ (by assumption) | refine Below.drew ?_)
end
end Go.Proofs.YtdgophfembpniaaGreatDoor

namespace Go.Proofs.YtdgophfembpniaaGreatDoor
section
open Go.RowKit
set_option linter.unusedSimpArgs false
set_option linter.unusedVariables false

theorem red_q (y C : Int) (hC : 1 ≤ C) : (y - y % C).tdiv C = y / C := by
  have h := Int.emod_add_mul_ediv y C
  rw [show y - y % C = C * (y / C) by omega]
  exact Int.mul_tdiv_cancel_left _ (by omega)
def midI (a : Int) : Prop := -1000000 ≤ a ∧ a ≤ 1000000
theorem red_bd {A B C x y : Int} (h : latI A B C) (hx : midI x) (hy : midI y) :
    (0 ≤ y % C ∧ y % C < C) ∧ (-1000000 ≤ y / C ∧ y / C ≤ 1000000) ∧ (-64000000 ≤ y / C * B ∧ y / C * B ≤ 64000000) ∧ (-1000064 ≤ y - y % C ∧ y - y % C ≤ 1000064) := by
  have hb := latI_bd h
  obtain ⟨h1, h2, h3, h4, h5⟩ := h
  unfold midI at hx hy
  have e1 := Int.emod_nonneg y (show C ≠ 0 by omega)
  have e2 := Int.emod_lt_of_pos y (show 0 < C by omega)
  have e3 := red_q y C h2
  have e4 : ((y - y % C).tdiv C).natAbs ≤ (y - y % C).natAbs := by rw [Int.natAbs_tdiv]; exact Nat.div_le_self _ _
  have e5 : -1000000 ≤ y / C := by
    have := Int.ediv_le_ediv (show 0 < C by omega) (show -1000000 ≤ y by omega)
    have h7 : -1000000 ≤ (-1000000) / C := by
      rw [Int.le_ediv_iff_mul_le (by omega)]
      omega
    omega
  have e6 : y / C ≤ 1000000 := by
    have : y / C * C ≤ y := Int.ediv_mul_le y (by omega)
    by_cases hn : 0 ≤ y / C
    · have := Int.mul_le_mul_of_nonneg_left h2 hn; omega
    · omega
  have e7 : (y / C * B).natAbs ≤ 1000000 * 64 := by
    rw [Int.natAbs_mul]; exact Nat.mul_le_mul (by omega) (by omega)
  refine ⟨⟨e1, e2⟩, ⟨e5, e6⟩, ⟨by omega, by omega⟩, by omega, by omega⟩
def redV (A B C x y : Int) : Value := .agg #[.int .i64 (redX A B C x y), .int .i64 (redY C y)]

set_option maxHeartbeats 2000000 in
theorem reduce_any (A B C x y : Int) (w : World) (h : latI A B C) (hx : midI x) (hy : midI y) :
    Calls Tryz.prog 123 #[.agg #[.int .i64 A, .int .i64 B, .int .i64 C], .agg #[.int .i64 x, .int .i64 y]] w fun e w' => e = .returned (redV A B C x y) ∧ Below w.heap.size w w' := by
  have hb := red_bd h hx hy
  have hA := latI_bd h
  have hq := red_q y C h.2.1
  obtain ⟨⟨d1, d2⟩, ⟨d3, d4⟩, ⟨d5, d6⟩, d7, d8⟩ := hb
  obtain ⟨h1, h2, h3, h4, h5⟩ := h
  obtain ⟨x1, x2⟩ := hx
  obtain ⟨y1, y2⟩ := hy
  have hC0 : ¬ C = 0 := by omega
  have hw1 : IntKind.i64.wrap ((y - y % C).tdiv C) = (y - y % C).tdiv C := by rw [hq]; exact IntWalk.i64_in _ (by omega)
  have ea : redV A B C x y = .agg #[.int .i64 ((x - (y - y % C).tdiv C * B) % A), .int .i64 (y % C)] := by rw [hq]; rfl
  rw [ea]
  rw [← hq] at d3 d4 d5 d6
  clear ea hq
  go_enter Tryz.func123, Tryz.ntmps123
  go_wp2_with fail
  refine (remainder_any _ _ _ (by unfold bigI; omega) (by omega) (by unfold bigI; omega)).mono ?_
  rintro e w1 ⟨rfl, hb1⟩
  obtain ⟨hc1, hf1⟩ := bcell hb1
  obtain ⟨hz1a, hz1b⟩ : w.heap.size < w1.heap.size ∧ w.heap.size + 1 < w1.heap.size := by have := hb1.size; (try simp at this); omega
  have G1 : Kt w.heap.size A B C w1 := Kt.call (Kt.alloc (Kt.alloc (Kt.at _ rfl) _) _) hb1
  have H1 : Kg (w.heap.size + 1) x y w1 := Kg.call (Kg.alloc (Kg.at3 _ (by simp)) _) hb1
  have B1 : Below w.heap.size w w1 := bstep (Below.alloc (Below.alloc (Below.alloc (Below.refl _ _) (by simp) _) (by simp) _) (by simp; omega) _) hb1
  have F1 : KW (w.heap.size + 1 + 1) 0 0 w1 := KW.call (KW.at _ (by simp)) hb1
  clear hb1 hc1 hf1
  obtain ⟨g0, g1, g2, g3⟩ := id G1
  obtain ⟨k0, k1, k2⟩ := id H1
  go_wp2_with fail
  go_region_held3 (fun W => (W.cell? ⟨w.heap.size, 0, none⟩ = some (.int .i64 A) ∧ W.cell? ⟨w.heap.size, 1, none⟩ = some (.int .i64 B) ∧ W.cell? ⟨w.heap.size, 2, none⟩ = some (.int .i64 C)) ∧ (W.cell? ⟨w.heap.size + 1, 0, none⟩ = some (.int .i64 x) ∧ W.cell? ⟨w.heap.size + 1, 1, none⟩ = some (.int .i64 y))) ((refine ⟨Kt.cells ?_, Kg.cells ?_⟩ <;> repeat (first | assumption | with_reducible refine Kt.drew ?_ | with_reducible refine Kg.drew ?_ | with_reducible refine Kt.alloc ?_ _ | with_reducible refine Kg.alloc ?_ _ | with_reducible refine Kt.call ?_ (by assumption) | with_reducible refine Kg.call ?_ (by assumption)))) (fail)
  go_wp2_with fail
  refine (remainder_any _ _ _ (by unfold bigI; omega) (by omega) (by unfold bigI; omega)).mono ?_
  rintro e w2 ⟨rfl, hb2⟩
  have F2 : KW (w.heap.size + 1 + 1) 0 0 w2 := KW.call (F1.drew) hb2
  have B2 : Below w.heap.size w w2 := bstep (Below.drew B1) hb2
  obtain ⟨f0, f1, f2, f3, f4⟩ := id F2
  go_wp2
  refine bodyPost_ret (v := .agg #[.int .i64 ((x - (y - y % C).tdiv C * B) % A), .int .i64 (y % C)]) (by simp [results, Tryz.results123, go_sem, f0, f1, f2, f3, f4]) rfl ⟨rfl, ?_⟩
  repeat (first | assumption | refine Below.setCell ?_ (by first | omega | (simp <;> omega)) _ | refine Below.alloc ?_ (by first | omega | (simp <;> omega)) _ | refine Below.drew ?_)

set_option maxHeartbeats 2000000 in
theorem l03Reduce_any (A B C x y : Int) (w : World) (h : latI A B C) (hx : midI x) (hy : midI y) :
    Calls Tryz.prog 98 #[.agg #[.int .i64 A, .int .i64 B, .int .i64 C], .agg #[.int .i64 x, .int .i64 y]] w fun e w' => e = .returned (redV A B C x y) ∧ Below w.heap.size w w' := by
  have hb := red_bd h hx hy
  have hA := latI_bd h
  have hq := red_q y C h.2.1
  obtain ⟨⟨d1, d2⟩, ⟨d3, d4⟩, ⟨d5, d6⟩, d7, d8⟩ := hb
  obtain ⟨h1, h2, h3, h4, h5⟩ := h
  obtain ⟨x1, x2⟩ := hx
  obtain ⟨y1, y2⟩ := hy
  have hC0 : ¬ C = 0 := by omega
  have hw1 : IntKind.i64.wrap ((y - y % C).tdiv C) = (y - y % C).tdiv C := by rw [hq]; exact IntWalk.i64_in _ (by omega)
  have ea : redV A B C x y = .agg #[.int .i64 ((x - (y - y % C).tdiv C * B) % A), .int .i64 (y % C)] := by rw [hq]; rfl
  rw [ea]
  rw [← hq] at d3 d4 d5 d6
  clear ea hq
  go_enter Tryz.func98, Tryz.ntmps98
  go_wp2_with fail
  refine (l01Mod_any _ _ _ (by unfold bigI; omega) (by omega) (by unfold bigI; omega)).mono ?_
  rintro e w1 ⟨rfl, hb1⟩
  obtain ⟨hc1, hf1⟩ := bcell hb1
  obtain ⟨hz1a, hz1b⟩ : w.heap.size < w1.heap.size ∧ w.heap.size + 1 < w1.heap.size := by have := hb1.size; (try simp at this); omega
  have G1 : Kt w.heap.size A B C w1 := Kt.call (Kt.alloc (Kt.alloc (Kt.at _ rfl) _) _) hb1
  have H1 : Kg (w.heap.size + 1) x y w1 := Kg.call (Kg.alloc (Kg.at3 _ (by simp)) _) hb1
  have B1 : Below w.heap.size w w1 := bstep (Below.alloc (Below.alloc (Below.alloc (Below.refl _ _) (by simp) _) (by simp) _) (by simp; omega) _) hb1
  have F1 : KW (w.heap.size + 1 + 1) 0 0 w1 := KW.call (KW.at _ (by simp)) hb1
  clear hb1 hc1 hf1
  obtain ⟨g0, g1, g2, g3⟩ := id G1
  obtain ⟨k0, k1, k2⟩ := id H1
  go_wp2_with fail
  refine (l01Mod_any _ _ _ (by unfold bigI; omega) (by omega) (by unfold bigI; omega)).mono ?_
  rintro e w2 ⟨rfl, hb2⟩
  have F2 : KW (w.heap.size + 1 + 1) 0 0 w2 := KW.call (F1) hb2
  have B2 : Below w.heap.size w w2 := bstep (B1) hb2
  obtain ⟨f0, f1, f2, f3, f4⟩ := id F2
  go_wp2
  refine bodyPost_ret (v := .agg #[.int .i64 ((x - (y - y % C).tdiv C * B) % A), .int .i64 (y % C)]) (by simp [results, Tryz.results98, go_sem, f0, f1, f2, f3, f4]) rfl ⟨rfl, ?_⟩
  repeat (first | assumption | refine Below.setCell ?_ (by first | omega | (simp <;> omega)) _ | refine Below.alloc ?_ (by first | omega | (simp <;> omega)) _ | refine Below.drew ?_)
end
end Go.Proofs.YtdgophfembpniaaGreatDoor

