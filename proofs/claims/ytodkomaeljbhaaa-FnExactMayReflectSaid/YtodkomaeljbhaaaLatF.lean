/-
  Plain facts of chapter 3: Euclid's algorithm on vectors is a change of the basis; the program's lattice of a list of vectors is the model's; members of a lattice; join and meet of two lattices. No condition but those stated.
-/
import Derived.Test.YtodkomaeljbhaaaGcd
namespace Go.Proofs.Ytodkomaeljbhaaa
open Go.RowKit
set_option linter.unusedVariables false

def eu (px py vx vy : Int) : Int × Int × Int :=
  if _h : vy = 0 then (px, py, vx) else eu vx vy (px - py.tdiv vy * vx) (py.tmod vy)
termination_by vy.natAbs
decreasing_by rw [Int.natAbs_tmod]; exact Nat.mod_lt _ (by omega)
theorem eu_zero (px py vx : Int) : eu px py vx 0 = (px, py, vx) := by rw [eu]; simp
theorem eu_step {vy : Int} (px py vx : Int) (h : vy ≠ 0) : eu px py vx vy = eu vx vy (px - py.tdiv vy * vx) (py.tmod vy) := by
  rw [eu.eq_def px py vx vy]; simp [h]

/- what Euclid's algorithm does is a change of the basis -/
theorem eu_basis (px py vx vy : Int) : ∃ a b c d e : Int, (e = 1 ∨ e = -1) ∧ a * d - b * c = e ∧ (eu px py vx vy).1 = a * px + b * vx ∧ (eu px py vx vy).2.1 = a * py + b * vy ∧
    (eu px py vx vy).2.2 = c * px + d * vx ∧ c * py + d * vy = 0 := by
  induction px, py, vx, vy using eu.induct with
  | case1 px py vx => exact ⟨1, 0, 0, 1, 1, .inl rfl, by simp, by simp [eu_zero], by simp [eu_zero], by simp [eu_zero], by simp⟩
  | case2 px py vx vy h ih =>
    obtain ⟨a, b, c, d, e, he, hd, h1, h2, h3, h4⟩ := ih
    rw [eu_step px py vx h]
    have hm : py.tmod vy = py - vy * py.tdiv vy := by have := Int.tmod_add_mul_tdiv py vy; omega
    refine ⟨b, a - b * py.tdiv vy, d, c - d * py.tdiv vy, -e, by omega, by grind, ?_, ?_, ?_, ?_⟩
    · rw [h1]; grind
    · rw [h2, hm]; grind
    · rw [h3]; grind
    · rw [hm] at h4; grind

/- it keeps what is the same modulo a number -/
theorem eu_mod (m : Int) (px py vx vy : Int) : ∀ px' vx' : Int, m ∣ px - px' → m ∣ vx - vx' →
    (eu px py vx vy).2.1 = (eu px' py vx' vy).2.1 ∧ m ∣ (eu px py vx vy).1 - (eu px' py vx' vy).1 ∧ m ∣ (eu px py vx vy).2.2 - (eu px' py vx' vy).2.2 := by
  induction px, py, vx, vy using eu.induct with
  | case1 px py vx => intro px' vx' h1 h2; simp only [eu_zero]; exact ⟨trivial, h1, h2⟩
  | case2 px py vx vy h ih =>
    intro px' vx' h1 h2
    rw [eu_step px py vx h, eu_step px' py vx' h]
    refine ih _ _ h2 ?_
    obtain ⟨s, hs⟩ := h1
    obtain ⟨t, ht⟩ := h2
    exact ⟨s - py.tdiv vy * t, by grind⟩

/- bounds that its rounds keep -/
def euJ (K : Nat) (px py vx vy : Int) : Prop := px.natAbs * vy.natAbs + vx.natAbs * py.natAbs ≤ K ∧ py.natAbs ≤ 1000 ∧ vy.natAbs ≤ 1000 ∧ px.natAbs ≤ K ∧ vx.natAbs ≤ K
theorem euJ_next {K : Nat} {px py vx vy : Int} (h : euJ K px py vx vy) (h0 : vy ≠ 0) : euJ K vx vy (px - py.tdiv vy * vx) (py.tmod vy) := by
  obtain ⟨h1, h2, h3, h4, h5⟩ := h
  have hq : (py.tdiv vy).natAbs = py.natAbs / vy.natAbs := Int.natAbs_tdiv ..
  have hr : (py.tmod vy).natAbs = py.natAbs % vy.natAbs := Int.natAbs_tmod ..
  have hx : (px - py.tdiv vy * vx).natAbs ≤ px.natAbs + (py.tdiv vy).natAbs * vx.natAbs := by
    have := Int.natAbs_sub_le px (py.tdiv vy * vx)
    rw [Int.natAbs_mul] at this
    exact this
  have hv : 0 < vy.natAbs := by omega
  have hd := Nat.div_add_mod py.natAbs vy.natAbs
  have hlt := Nat.mod_lt py.natAbs hv
  rw [hq] at hx
  have hr' : (py.tmod vy).natAbs ≤ 1000 := by rw [hr]; omega
  unfold euJ
  rw [hr]
  rw [hr] at hr'
  generalize (px - py.tdiv vy * vx).natAbs = X at *
  generalize py.natAbs / vy.natAbs = Q at *
  generalize py.natAbs % vy.natAbs = r at *
  generalize px.natAbs = p at *
  generalize vx.natAbs = v at *
  generalize vy.natAbs = y at *
  have hX : X * y ≤ p * y + Q * v * y := by rw [← Nat.add_mul]; exact Nat.mul_le_mul_right y hx
  have hS : p * y + v * (y * Q + r) ≤ K := by rw [hd]; exact h1
  have hE : v * (y * Q + r) = Q * v * y + v * r := by grind
  have hXX : X ≤ X * y := Nat.le_mul_of_pos_right X hv
  refine ⟨by omega, h3, hr', h5, by omega⟩
theorem euJ_prod {K : Nat} {px py vx vy : Int} (h : euJ K px py vx vy) : (py.tdiv vy).natAbs ≤ 1000 ∧ (py.tdiv vy * vx).natAbs ≤ K := by
  obtain ⟨h1, h2, h3, h4, h5⟩ := h
  have hq : (py.tdiv vy).natAbs = py.natAbs / vy.natAbs := Int.natAbs_tdiv ..
  have hq' : (py.tdiv vy).natAbs ≤ py.natAbs := by rw [hq]; exact Nat.div_le_self _ _
  refine ⟨by omega, ?_⟩
  rw [Int.natAbs_mul]
  have h6 := Nat.mul_le_mul_right vx.natAbs hq'
  have h7 := Nat.mul_comm py.natAbs vx.natAbs
  omega
theorem euJ_end {K : Nat} (px py vx vy : Int) : euJ K px py vx vy → (eu px py vx vy).1.natAbs ≤ K ∧ (eu px py vx vy).2.1.natAbs ≤ 1000 ∧ (eu px py vx vy).2.2.natAbs ≤ K := by
  induction px, py, vx, vy using eu.induct with
  | case1 px py vx => intro h; simp only [eu_zero]; exact ⟨h.2.2.2.1, h.2.1, h.2.2.2.2⟩
  | case2 px py vx vy h ih => intro hJ; rw [eu_step px py vx h]; exact ih (euJ_next hJ h)

/- the lattice in reduced form and its members -/
def hasI (A B C x y : Int) : Prop := C ∣ y ∧ A ∣ x - y / C * B
def redX (A B C x y : Int) : Int := (x - y / C * B) % A
def redY (C y : Int) : Int := y % C
def hasB (A B C x y : Int) : Bool := redX A B C x y == 0 && redY C y == 0
theorem hasB_iff (A B C x y : Int) : hasB A B C x y = true ↔ hasI A B C x y := by
  simp only [hasB, hasI, redX, redY, Bool.and_eq_true, beq_iff_eq, Int.dvd_iff_emod_eq_zero]
  exact And.comm

/- the lattice of a vector and a multiple of the first axis -/
def nrm (f sx sy : Int) : Int × Int × Int := if sy < 0 then (f, (-sx) % f, -sy) else (f, sx % f, sy)
theorem nrm_mod (f sx sx' sy : Int) (h : f ∣ sx - sx') : nrm f sx sy = nrm f sx' sy := by
  have h1 : sx % f = sx' % f := Int.emod_eq_emod_iff_emod_sub_eq_zero.2 (Int.emod_eq_zero_of_dvd h)
  have h2 : (-sx) % f = (-sx') % f := Int.emod_eq_emod_iff_emod_sub_eq_zero.2 (Int.emod_eq_zero_of_dvd (by obtain ⟨k, hk⟩ := h; exact ⟨-k, by grind⟩))
  unfold nrm; rw [h1, h2]
theorem nrm_has {f sx sy x y : Int} (h0 : sy ≠ 0) : hasI (nrm f sx sy).1 (nrm f sx sy).2.1 (nrm f sx sy).2.2 x y ↔ ∃ k, y = k * sy ∧ f ∣ x - k * sx := by
  unfold nrm hasI
  by_cases hs : sy < 0
  · simp only [hs, if_true]
    constructor
    · rintro ⟨⟨k, hk⟩, h2⟩
      have hy : y / -sy = k := by rw [hk]; exact Int.mul_ediv_cancel_left k (by omega)
      rw [hy] at h2
      refine ⟨-k, by grind, ?_⟩
      obtain ⟨t, ht⟩ := h2
      have := Int.emod_add_mul_ediv (-sx) f
      exact ⟨t - k * ((-sx) / f), by grind⟩
    · rintro ⟨k, hk, t, ht⟩
      have hy : y / -sy = -k := by rw [hk, show k * sy = -sy * -k by grind]; exact Int.mul_ediv_cancel_left _ (by omega)
      rw [hy]
      refine ⟨⟨-k, by grind⟩, ?_⟩
      have := Int.emod_add_mul_ediv (-sx) f
      exact ⟨t - k * ((-sx) / f), by grind⟩
  · simp only [hs, if_false]
    constructor
    · rintro ⟨⟨k, hk⟩, h2⟩
      have hy : y / sy = k := by rw [hk]; exact Int.mul_ediv_cancel_left k h0
      rw [hy] at h2
      refine ⟨k, by grind, ?_⟩
      obtain ⟨t, ht⟩ := h2
      have := Int.emod_add_mul_ediv sx f
      exact ⟨t - k * (sx / f), by grind⟩
    · rintro ⟨k, hk, t, ht⟩
      have hy : y / sy = k := by rw [hk, Int.mul_comm]; exact Int.mul_ediv_cancel_left _ h0
      rw [hy]
      refine ⟨⟨k, by grind⟩, ?_⟩
      have := Int.emod_add_mul_ediv sx f
      exact ⟨t + k * (sx / f), by grind⟩

/- the list's lattice: the program's states and the model's -/
def spStep (s : Int × Int × Int) (v : Int × Int) : Int × Int × Int :=
  ((eu s.1 s.2.1 v.1 v.2).1, (eu s.1 s.2.1 v.1 v.2).2.1, gcdI s.2.2 (eu s.1 s.2.1 v.1 v.2).2.2)
def hmStep (s : Int × Int × Int) (v : Int × Int) : Int × Int × Int :=
  (if 0 < (spStep s v).2.2 then (spStep s v).1 % (spStep s v).2.2 else (spStep s v).1, (spStep s v).2)
def spFold (L : List (Int × Int)) : Int × Int × Int := L.foldl spStep (0, 0, 0)
def hmFold (L : List (Int × Int)) : Int × Int × Int := L.foldl hmStep (0, 0, 0)
def latL (L : List (Int × Int)) : Int × Int × Int := nrm (spFold L).2.2 (spFold L).1 (spFold L).2.1
theorem gcdI_dvd_left (a b : Int) : gcdI a b ∣ a := Int.gcd_dvd_left a b
theorem gcdI_dvd_right (a b : Int) : gcdI a b ∣ b := Int.gcd_dvd_right a b
theorem gcdI_same {a b b' : Int} (h : a ∣ b - b') : gcdI a b = gcdI a b' := by
  obtain ⟨k, hk⟩ := h
  have : b = b' + a * k := by omega
  subst this
  unfold gcdI
  rw [Int.gcd_add_mul_left_right]
def sameS (s t : Int × Int × Int) : Prop := s.2 = t.2 ∧ s.2.2 ∣ s.1 - t.1
theorem sameS_step {s t : Int × Int × Int} (v : Int × Int) (h : sameS s t) : sameS (spStep s v) (hmStep t v) := by
  obtain ⟨sx, sy, f⟩ := s
  obtain ⟨tx, ty, f'⟩ := t
  obtain ⟨h1, h2⟩ := h
  simp only [Prod.mk.injEq] at h1
  obtain ⟨rfl, rfl⟩ := h1
  obtain ⟨h3, h4, h5⟩ := eu_mod f sx sy v.1 v.2 tx v.1 h2 (by simp)
  have h6 := gcdI_same h5
  have h7 := gcdI_dvd_left f (eu tx sy v.1 v.2).2.2
  unfold sameS hmStep spStep
  simp only
  refine ⟨by rw [h3, h6], ?_⟩
  rw [h6]
  generalize gcdI f (eu tx sy v.1 v.2).2.2 = g at *
  have h8 : g ∣ (eu sx sy v.1 v.2).1 - (eu tx sy v.1 v.2).1 := Int.dvd_trans h7 h4
  split
  · obtain ⟨k, hk⟩ := h8
    have := Int.emod_add_mul_ediv (eu tx sy v.1 v.2).1 g
    exact ⟨k + (eu tx sy v.1 v.2).1 / g, by grind⟩
  · exact h8
theorem sameS_fold (L : List (Int × Int)) : ∀ s t, sameS s t → sameS (L.foldl spStep s) (L.foldl hmStep t) := by
  induction L with
  | nil => intro s t h; exact h
  | cons v L ih => intro s t h; exact ih _ _ (sameS_step v h)
theorem latL_eq (L : List (Int × Int)) : latL L = nrm (hmFold L).2.2 (hmFold L).1 (hmFold L).2.1 := by
  obtain ⟨h1, h2⟩ := sameS_fold L (0, 0, 0) (0, 0, 0) ⟨rfl, by simp⟩
  unfold latL hmFold spFold
  rw [← h1]
  exact nrm_mod _ _ _ _ h2

/- bounds of the states -/
def bdL (i : Nat) : Nat := 1000000 * 1001 ^ i
def stB (M : Nat) (s : Int × Int × Int) : Prop := s.1.natAbs ≤ M ∧ s.2.1.natAbs ≤ 1000 ∧ 0 ≤ s.2.2 ∧ s.2.2.natAbs ≤ M
theorem stB_J {M : Nat} {s : Int × Int × Int} {v : Int × Int} (hM : 1000000 ≤ M) (h : stB M s) (hx : v.1.natAbs ≤ 1000) (hy : v.2.natAbs ≤ 1000) : euJ (1001 * M) s.1 s.2.1 v.1 v.2 := by
  obtain ⟨h1, h2, h3, h4⟩ := h
  have h5 : s.1.natAbs * v.2.natAbs ≤ M * 1000 := Nat.mul_le_mul h1 hy
  have h6 : v.1.natAbs * s.2.1.natAbs ≤ 1000 * 1000 := Nat.mul_le_mul hx h2
  exact ⟨by omega, h2, hy, by omega, by omega⟩
theorem gcdI_nn (a b : Int) : 0 ≤ gcdI a b := Int.natCast_nonneg _
theorem gcdI_bd {a b : Int} {M : Nat} (ha : a.natAbs ≤ M) (hb : b.natAbs ≤ M) : (gcdI a b).natAbs ≤ M := by
  unfold gcdI
  rw [Int.natAbs_natCast]
  by_cases h0 : a = 0
  · subst h0; rw [Int.gcd_zero_left]; exact hb
  · exact Nat.le_trans (Int.gcd_le_natAbs_left b h0) ha
theorem stB_sp {M : Nat} {s : Int × Int × Int} {v : Int × Int} (hM : 1000000 ≤ M) (h : stB M s) (hx : v.1.natAbs ≤ 1000) (hy : v.2.natAbs ≤ 1000) : stB (1001 * M) (spStep s v) := by
  have h1 := euJ_end _ _ _ _ (stB_J hM h hx hy)
  refine ⟨h1.1, h1.2.1, gcdI_nn _ _, gcdI_bd ?_ h1.2.2⟩
  have := h.2.2.2
  omega
theorem stB_hm {M : Nat} {s : Int × Int × Int} {v : Int × Int} (hM : 1000000 ≤ M) (h : stB M s) (hx : v.1.natAbs ≤ 1000) (hy : v.2.natAbs ≤ 1000) : stB (1001 * M) (hmStep s v) := by
  obtain ⟨h1, h2, h3, h4⟩ := stB_sp hM h hx hy
  refine ⟨?_, h2, h3, h4⟩
  unfold hmStep
  simp only
  split
  · rename_i h0
    have h5 := Int.emod_lt_of_pos (spStep s v).1 h0
    have h6 := Int.emod_nonneg (spStep s v).1 (show (spStep s v).2.2 ≠ 0 by omega)
    omega
  · exact h1
theorem stB_zero (M : Nat) : stB M (0, 0, 0) := by simp [stB]
def vecsB (L : List (Int × Int)) : Prop := ∀ v ∈ L, v.1.natAbs ≤ 1000 ∧ v.2.natAbs ≤ 1000
theorem stB_foldl (step : Int × Int × Int → Int × Int → Int × Int × Int) (hs : ∀ M s v, 1000000 ≤ M → stB M s → v.1.natAbs ≤ 1000 → v.2.natAbs ≤ 1000 → stB (1001 * M) (step s v)) :
    ∀ (L : List (Int × Int)) (M : Nat) (s : Int × Int × Int), 1000000 ≤ M → vecsB L → stB M s → stB (M * 1001 ^ L.length) (L.foldl step s) := by
  intro L
  induction L with
  | nil => intro M s _ _ h; simpa using h
  | cons v L ih =>
    intro M s hM hL h
    have h1 := hs M s v hM h (hL v (by simp)).1 (hL v (by simp)).2
    have h2 := ih (1001 * M) _ (by omega) (fun u hu => hL u (by simp [hu])) h1
    rw [List.length_cons, Nat.pow_succ, show M * (1001 ^ L.length * 1001) = 1001 * M * 1001 ^ L.length by grind]
    exact h2
theorem bdL_le {i : Nat} (h : i ≤ 4) : bdL i ≤ 1005000000000000000 ∧ 1000000 ≤ bdL i := by
  have : i = 0 ∨ i = 1 ∨ i = 2 ∨ i = 3 ∨ i = 4 := by omega
  rcases this with rfl | rfl | rfl | rfl | rfl <;> decide
theorem bdL_succ (i : Nat) : bdL (i + 1) = 1001 * bdL i := by unfold bdL; rw [Nat.pow_succ]; grind
theorem stB_spFold {L : List (Int × Int)} (hL : vecsB L) : stB (bdL L.length) (spFold L) :=
  stB_foldl spStep (fun _ _ _ h1 h2 h3 h4 => stB_sp h1 h2 h3 h4) L 1000000 (0, 0, 0) (Nat.le_refl _) hL (stB_zero _)
theorem stB_hmFold {L : List (Int × Int)} (hL : vecsB L) : stB (bdL L.length) (hmFold L) :=
  stB_foldl hmStep (fun _ _ _ h1 h2 h3 h4 => stB_hm h1 h2 h3 h4) L 1000000 (0, 0, 0) (Nat.le_refl _) hL (stB_zero _)
theorem fold_take (step : Int × Int × Int → Int × Int → Int × Int × Int) (L : List (Int × Int)) (i : Nat) (h : i < L.length) (s : Int × Int × Int) :
    (L.take (i + 1)).foldl step s = step ((L.take i).foldl step s) L[i] := by
  rw [List.take_succ_eq_append_getElem h, List.foldl_append]; rfl

/- two vectors -/
theorem spFold_one (x y : Int) : spFold [(x, y)] = if y = 0 then (0, 0, gcdI 0 x) else (x, y, 0) := by
  unfold spFold spStep
  simp only [List.foldl]
  by_cases h : y = 0
  · subst h; simp [eu_zero]
  · rw [eu_step 0 0 x h]
    simp [h, eu_zero, gcdI]
theorem gcdI_z (x : Int) : gcdI 0 x = x.natAbs := by simp [gcdI]
theorem nrm_A (f sx sy : Int) : (nrm f sx sy).1 = f := by unfold nrm; split <;> rfl
theorem nrm_C (f sx sy : Int) : (nrm f sx sy).2.2 = sy.natAbs := by unfold nrm; split <;> (simp only; omega)
theorem nrm_B (f sx sy : Int) (h : 0 < f) : 0 ≤ (nrm f sx sy).2.1 ∧ (nrm f sx sy).2.1 < f := by
  unfold nrm; split <;> exact ⟨Int.emod_nonneg _ (by omega), Int.emod_lt_of_pos _ h⟩
theorem natAbs_eq_cases {a b : Int} (h : a = b ∨ a = -b) : a.natAbs = b.natAbs := by omega
theorem two_facts (ux uy vx vy : Int) (h : ux * vy - uy * vx ≠ 0) :
    0 < (spFold [(ux, uy), (vx, vy)]).2.2 ∧ (latL [(ux, uy), (vx, vy)]).1 * (latL [(ux, uy), (vx, vy)]).2.2 = ((ux * vy - uy * vx).natAbs : Int) ∧
    hasI (latL [(ux, uy), (vx, vy)]).1 (latL [(ux, uy), (vx, vy)]).2.1 (latL [(ux, uy), (vx, vy)]).2.2 ux uy ∧ hasI (latL [(ux, uy), (vx, vy)]).1 (latL [(ux, uy), (vx, vy)]).2.1 (latL [(ux, uy), (vx, vy)]).2.2 vx vy := by
  have e2 : spFold [(ux, uy), (vx, vy)] = spStep (spFold [(ux, uy)]) (vx, vy) := rfl
  unfold latL
  rw [e2, spFold_one]
  by_cases hu : uy = 0
  · subst hu
    have hvy : vy ≠ 0 := by rintro rfl; simp at h
    have hux : ux ≠ 0 := by rintro rfl; simp at h
    have e3 : spStep (0, 0, gcdI 0 ux) (vx, vy) = (vx, vy, gcdI 0 ux) := by
      unfold spStep
      simp only
      rw [eu_step 0 0 vx hvy]
      simp [eu_zero, gcdI]
    simp only [if_true, e3]
    rw [nrm_has hvy, nrm_has hvy, nrm_A, nrm_C, gcdI_z]
    refine ⟨by omega, ?_, ⟨0, by simp, by rw [Int.zero_mul, Int.sub_zero]; exact Int.natAbs_dvd.2 (Int.dvd_refl _)⟩, ⟨1, by simp, by simp⟩⟩
    simp [Int.natAbs_mul]
  · simp only [hu, if_false]
    obtain ⟨a, b, c, d, e, he, hd, h1, h2, h3, h4⟩ := eu_basis ux uy vx vy
    unfold spStep
    simp only
    generalize (eu ux uy vx vy).1 = sx at *
    generalize (eu ux uy vx vy).2.1 = sy at *
    generalize (eu ux uy vx vy).2.2 = X at *
    have hX : X * sy = -e * (ux * vy - uy * vx) := by
      subst h1 h2 h3 hd; grind
    have hsy : sy ≠ 0 := by
      rintro rfl
      rw [Int.mul_zero] at hX
      rcases he with rfl | rfl <;> omega
    have hX0 : X ≠ 0 := by
      rintro rfl
      rw [Int.zero_mul] at hX
      rcases he with rfl | rfl <;> omega
    rw [nrm_has hsy, nrm_has hsy, nrm_A, nrm_C, gcdI_z]
    have hee : e * e = 1 := by rcases he with rfl | rfl <;> rfl
    refine ⟨by omega, ?_, ⟨e * d, ?_, ?_⟩, ⟨-e * c, ?_, ?_⟩⟩
    · rw [← Int.natCast_mul, ← Int.natAbs_mul]
      congr 1
      rw [hX]
      rcases he with rfl | rfl <;> omega
    · subst h2 hd; grind
    · refine Int.natAbs_dvd.2 ⟨-e * b, ?_⟩
      subst h1 h3; grind
    · subst h2; grind
    · refine Int.natAbs_dvd.2 ⟨e * a, ?_⟩
      subst h1 h3; grind

/- two lattices: the join -/
def latI (A B C : Int) : Prop := 1 ≤ A ∧ 1 ≤ C ∧ 0 ≤ B ∧ B < A ∧ A * C ≤ 64
def joinL (A B C A' B' C' : Int) : List (Int × Int) := [(A, 0), (B, C), (A', 0), (B', C')]
theorem gcdI_pos_left {a : Int} (b : Int) (h : 0 < a) : 0 < gcdI a b := by
  have := Int.gcd_pos_of_ne_zero_left b (show a ≠ 0 by omega)
  unfold gcdI; omega
theorem joinL_fold {A B C A' B' C' : Int} (h : latI A B C) : spFold (joinL A B C A' B' C') = spStep (B, C, gcdI A A') (B', C') := by
  obtain ⟨h1, h2, h3, h4, h5⟩ := h
  have e0 : spFold (joinL A B C A' B' C') = spStep (spStep (spStep (spStep (0, 0, 0) (A, 0)) (B, C)) (A', 0)) (B', C') := rfl
  have e1 : spStep (0, 0, 0) (A, 0) = (0, 0, A) := by unfold spStep; simp only [eu_zero]; rw [gcdI_z]; congr 2; omega
  have e2 : spStep (0, 0, A) (B, C) = (B, C, A) := by
    unfold spStep; simp only; rw [eu_step 0 0 B (show C ≠ 0 by omega)]; simp [eu_zero, gcdI]; omega
  have e3 : spStep (B, C, A) (A', 0) = (B, C, gcdI A A') := by unfold spStep; simp only [eu_zero]
  rw [e0, e1, e2, e3]

/- what join and meet have in common: f and h are the join's numbers, G the rest of the divisor of the two A, p and q those of the two C -/
structure JM (A B C A' B' C' f h g G p q X : Int) : Prop where
  hg : gcdI A A' = g
  hf : gcdI g X = f
  hG : g = f * G
  hp : C = h * p
  hq : C' = h * q
  f0 : 0 < f
  h0 : 0 < h
  G0 : 0 < G
  p0 : 0 < p
  q0 : 0 < q
  g0 : 0 < g
  cop : ∃ s t : Int, s * p + t * q = 1
  hX : X = q * B - p * B' ∨ X = -(q * B - p * B')
theorem join_facts {A B C A' B' C' : Int} (hl : latI A B C) (hm : latI A' B' C') :
    ∃ f h g G p q X : Int, (latL (joinL A B C A' B' C')).1 = f ∧ (latL (joinL A B C A' B' C')).2.2 = h ∧ JM A B C A' B' C' f h g G p q X ∧ 0 < (spFold (joinL A B C A' B' C')).2.2 := by
  unfold latL
  rw [joinL_fold hl, nrm_A, nrm_C]
  obtain ⟨h1, h2, h3, h4, h5⟩ := hl
  obtain ⟨k1, k2, k3, k4, k5⟩ := hm
  obtain ⟨a, b, c, d, e, he, hd, e1, e2, e3, e4⟩ := eu_basis B C B' C'
  unfold spStep
  simp only
  generalize (eu B C B' C').1 = sx at *
  generalize (eu B C B' C').2.1 = sy at *
  generalize (eu B C B' C').2.2 = X at *
  have hee : e * e = 1 := by rcases he with rfl | rfl <;> rfl
  have hC : C = e * d * sy := by subst e2 hd; grind
  have hC' : C' = -e * c * sy := by subst e2; grind
  have hsy : sy ≠ 0 := by rintro rfl; rw [Int.mul_zero] at hC; omega
  have hg0 : 0 < gcdI A A' := gcdI_pos_left _ (by omega)
  have hf0 : 0 < gcdI (gcdI A A') X := gcdI_pos_left _ hg0
  obtain ⟨G, hG⟩ := gcdI_dvd_left (gcdI A A') X
  have hG0 : 0 < G := by
    rcases Int.lt_trichotomy G 0 with hn | rfl | hn
    · have := Int.mul_neg_of_pos_of_neg hf0 hn; omega
    · rw [Int.mul_zero] at hG; omega
    · exact hn
  have hne : ∀ z y : Int, 1 ≤ z → z = (sy.natAbs : Int) * y → 0 < y := by
    intro z y hz hzy
    rcases Int.lt_trichotomy y 0 with hn | rfl | hn
    · have := Int.mul_neg_of_pos_of_neg (show (0 : Int) < sy.natAbs by omega) hn; omega
    · rw [Int.mul_zero] at hzy; omega
    · exact hn
  rcases Int.lt_or_gt_of_ne hsy with hs | hs
  · have hn : (sy.natAbs : Int) = -sy := by omega
    have hp : C = (sy.natAbs : Int) * (-e * d) := by rw [hn]; grind
    have hq : C' = (sy.natAbs : Int) * (e * c) := by rw [hn]; grind
    refine ⟨_, _, _, G, -e * d, e * c, X, rfl, rfl, ⟨rfl, rfl, hG, hp, hq, hf0, by omega, hG0, hne _ _ h2 hp, hne _ _ k2 hq, hg0, ⟨-a, -b, by grind⟩, ?_⟩, hf0⟩
    rcases he with rfl | rfl
    · left; grind
    · right; grind
  · have hn : (sy.natAbs : Int) = sy := by omega
    have hp : C = (sy.natAbs : Int) * (e * d) := by rw [hn]; grind
    have hq : C' = (sy.natAbs : Int) * (-e * c) := by rw [hn]; grind
    refine ⟨_, _, _, G, e * d, -e * c, X, rfl, rfl, ⟨rfl, rfl, hG, hp, hq, hf0, by omega, hG0, hne _ _ h2 hp, hne _ _ k2 hq, hg0, ⟨a, b, by grind⟩, ?_⟩, hf0⟩
    rcases he with rfl | rfl
    · right; grind
    · left; grind

theorem bez : ∀ (n : Nat) (a b : Int), b.natAbs ≤ n → ∃ s t : Int, s * a + t * b = gcdI a b := by
  intro n
  induction n with
  | zero =>
    intro a b h
    have : b = 0 := by omega
    subst this
    rcases Int.le_total 0 a with h0 | h0
    · exact ⟨1, 0, by simp [gcdI]; omega⟩
    · exact ⟨-1, 0, by simp [gcdI]; omega⟩
  | succ n ih =>
    intro a b h
    by_cases h0 : b = 0
    · subst h0; exact ih a 0 (by simp)
    · have hlt : (a % b).natAbs ≤ n := by
        have h1 := Int.emod_nonneg a h0
        have h2 := Int.emod_lt a h0
        omega
      obtain ⟨s, t, hst⟩ := ih b (a % b) hlt
      have e1 := Int.emod_add_mul_ediv a b
      refine ⟨t, s - t * (a / b), ?_⟩
      have e2 : gcdI b (a % b) = gcdI a b := by
        unfold gcdI
        have e3 : a % b = a - b * (a / b) := by omega
        rw [e3, Int.gcd_sub_mul_left_right, Int.gcd_comm]
      rw [← e2, ← hst]; grind
/- two congruences -/
theorem crt {A A' s t : Int} (hA' : 0 < A') (h : gcdI A A' ∣ s - t) : ∃ i : Int, 0 ≤ i ∧ i < A' ∧ A' ∣ s + A * i - t := by
  obtain ⟨u, v, huv⟩ := bez _ A A' (Nat.le_refl _)
  obtain ⟨k, hk⟩ := h
  refine ⟨(-(u * k)) % A', Int.emod_nonneg _ (by omega), Int.emod_lt_of_pos _ hA', ?_⟩
  have e1 := Int.emod_add_mul_ediv (-(u * k)) A'
  generalize (-(u * k)) / A' = z at *
  generalize (-(u * k)) % A' = y at *
  refine ⟨v * k - A * z, ?_⟩
  grind

theorem has_zero (A B C x : Int) : hasI A B C x 0 ↔ A ∣ x := by simp [hasI]
def both (A B C A' B' C' x y : Int) : Prop := hasI A B C x y ∧ hasI A' B' C' x y
theorem both_sub {A B C A' B' C' x x' y : Int} (h : both A B C A' B' C' x y) (h' : both A B C A' B' C' x' y) : A ∣ x - x' ∧ A' ∣ x - x' := by
  obtain ⟨⟨_, h1⟩, _, h2⟩ := h
  obtain ⟨⟨_, h3⟩, _, h4⟩ := h'
  constructor
  · have := Int.dvd_sub h1 h3; rwa [show x - y / C * B - (x' - y / C * B) = x - x' by omega] at this
  · have := Int.dvd_sub h2 h4; rwa [show x - y / C' * B' - (x' - y / C' * B') = x - x' by omega] at this
theorem both_add {A B C A' B' C' x z y : Int} (h : both A B C A' B' C' x y) (h1 : A ∣ z) (h2 : A' ∣ z) : both A B C A' B' C' (x + z) y := by
  obtain ⟨⟨a1, a2⟩, b1, b2⟩ := h
  refine ⟨⟨a1, ?_⟩, b1, ?_⟩
  · have := Int.dvd_add a2 h1; rwa [show x - y / C * B + z = x + z - y / C * B by omega] at this
  · have := Int.dvd_add b2 h2; rwa [show x - y / C' * B' + z = x + z - y / C' * B' by omega] at this

section
variable {A B C A' B' C' f h g G p q X : Int}
def lcmA (A A' : Int) : Int := A.tdiv (gcdI A A') * A'
theorem lcmA_iff (hA : 0 < A) (hA' : 0 < A') (x : Int) : (A ∣ x ∧ A' ∣ x) ↔ lcmA A A' ∣ x := by
  have hg0 := gcdI_pos_left A' hA
  obtain ⟨α, hα⟩ := gcdI_dvd_left A A'
  obtain ⟨β, hβ⟩ := gcdI_dvd_right A A'
  obtain ⟨u, v, huv⟩ := bez _ A A' (Nat.le_refl _)
  have hd : A.tdiv (gcdI A A') = α := by
    conv => lhs; rw [hα]
    rw [show gcdI (gcdI A A' * α) A' = gcdI A A' by rw [← hα]]
    exact Int.mul_tdiv_cancel_left _ (by omega)
  unfold lcmA
  rw [hd]
  generalize gcdI A A' = g at *
  constructor
  · rintro ⟨⟨k, hk⟩, k', hk'⟩
    refine ⟨u * k' + v * k, ?_⟩
    refine Int.eq_of_mul_eq_mul_left (show g ≠ 0 by omega) ?_
    grind
  · rintro ⟨k, rfl⟩
    refine ⟨⟨β * k, ?_⟩, ⟨α * k, by grind⟩⟩
    grind
theorem lcmA_bd (hl : latI A B C) (hm : latI A' B' C') : 1 ≤ lcmA A A' ∧ lcmA A A' ≤ 4096 := by
  obtain ⟨h1, h2, h3, h4, h5⟩ := hl
  obtain ⟨k1, k2, k3, k4, k5⟩ := hm
  have hg0 := gcdI_pos_left A' (show 0 < A by omega)
  obtain ⟨α, hα⟩ := gcdI_dvd_left A A'
  have hd : A.tdiv (gcdI A A') = α := by
    conv => lhs; rw [hα]
    rw [show gcdI (gcdI A A' * α) A' = gcdI A A' by rw [← hα]]
    exact Int.mul_tdiv_cancel_left _ (by omega)
  unfold lcmA
  rw [hd]
  generalize gcdI A A' = g at *
  have ha0 : 0 < α := by
    rcases Int.lt_trichotomy α 0 with hn | rfl | hn
    · have := Int.mul_neg_of_pos_of_neg hg0 hn; omega
    · rw [Int.mul_zero] at hα; omega
    · exact hn
  have hA64 : A ≤ 64 := by have := Int.mul_le_mul_of_nonneg_left h2 (show 0 ≤ A by omega); omega
  have hA64' : A' ≤ 64 := by have := Int.mul_le_mul_of_nonneg_left k2 (show 0 ≤ A' by omega); omega
  have ha1 : α ≤ A := by have := Int.mul_le_mul_of_nonneg_right (show 1 ≤ g by omega) (show 0 ≤ α by omega); omega
  have e1 : 1 * 1 ≤ α * A' := Int.mul_le_mul (by omega) k1 (by omega) (by omega)
  have e2 : α * A' ≤ 64 * 64 := Int.mul_le_mul (by omega) hA64' (by omega) (by omega)
  omega
theorem jm_c (hl : latI A B C) (hm : latI A' B' C') (J : JM A B C A' B' C' f h g G p q X) : ((A * C * (A' * C')).tdiv (f * h)).tdiv (lcmA A A') = G * p * q * h := by
  have hb := lcmA_bd hl hm
  obtain ⟨h1, h2, h3, h4, h5⟩ := hl
  have J1 := J.hg
  obtain ⟨α, hα⟩ := gcdI_dvd_left A A'
  have hd : lcmA A A' = α * A' := by
    unfold lcmA
    congr 1
    conv => lhs; rw [hα]
    rw [show gcdI (gcdI A A' * α) A' = gcdI A A' by rw [← hα]]
    exact Int.mul_tdiv_cancel_left _ (by have := J.g0; omega)
  rw [hd] at hb ⊢
  rw [J1] at hα
  have hG := J.hG
  have hp := J.hp
  have hq := J.hq
  have f0 := J.f0
  have h0 := J.h0
  have e1 : A * C * (A' * C') = f * h * (α * A' * (G * p * q * h)) := by grind
  rw [e1, Int.mul_tdiv_cancel_left _ (by have := Int.mul_pos f0 h0; omega), Int.mul_tdiv_cancel_left _ (by omega)]
theorem jm_dvd (J : JM A B C A' B' C' f h g G p q X) {x y : Int} (hb : both A B C A' B' C' x y) : G * p * q * h ∣ y := by
  obtain ⟨⟨⟨j, hj⟩, h2⟩, ⟨j', hj'⟩, h4⟩ := hb
  have h0 := J.h0
  have p0 := J.p0
  have q0 := J.q0
  have hp := J.hp
  have hq := J.hq
  have f0 := J.f0
  have hC : C ≠ 0 := by have := Int.mul_pos h0 p0; omega
  have hC' : C' ≠ 0 := by have := Int.mul_pos h0 q0; omega
  have e1 : y / C = j := by rw [hj]; exact Int.mul_ediv_cancel_left _ hC
  have e2 : y / C' = j' := by rw [hj']; exact Int.mul_ediv_cancel_left _ hC'
  rw [e1] at h2
  rw [e2] at h4
  have e3 : p * j = q * j' := Int.eq_of_mul_eq_mul_left (show h ≠ 0 by omega) (by grind)
  obtain ⟨s, t, hst⟩ := J.cop
  have e4 : j = q * (s * j' + t * j) := by grind
  generalize s * j' + t * j = z at e4
  have e5 : j' = p * z := Int.eq_of_mul_eq_mul_left (show q ≠ 0 by omega) (by grind)
  have hg := J.hg
  have d1 : g ∣ A := hg ▸ gcdI_dvd_left A A'
  have d2 : g ∣ A' := hg ▸ gcdI_dvd_right A A'
  have d3 : g ∣ z * X := by
    have d4 := Int.dvd_sub (Int.dvd_trans d1 h2) (Int.dvd_trans d2 h4)
    obtain ⟨k, hk⟩ := d4
    rcases J.hX with hX | hX
    · exact ⟨-k, by subst e4 e5; grind⟩
    · exact ⟨k, by subst e4 e5; grind⟩
  obtain ⟨u, v, huv⟩ := bez _ g X (Nat.le_refl _)
  rw [J.hf] at huv
  have hG := J.hG
  obtain ⟨k, hk⟩ := d3
  have d5 : z = G * (u * z + v * k) := Int.eq_of_mul_eq_mul_left (show f ≠ 0 by omega) (by grind)
  exact ⟨u * z + v * k, by grind⟩
theorem jm_ex (hm : latI A' B' C') (J : JM A B C A' B' C' f h g G p q X) : ∃ i : Int, 0 ≤ i ∧ i < A' ∧ both A B C A' B' C' ((G * p * q * h).tdiv C * B + A * i) (G * p * q * h) := by
  have h0 := J.h0
  have p0 := J.p0
  have q0 := J.q0
  have hp := J.hp
  have hq := J.hq
  have f0 := J.f0
  have hG := J.hG
  have hC : C ≠ 0 := by have := Int.mul_pos h0 p0; omega
  have hC' : C' ≠ 0 := by have := Int.mul_pos h0 q0; omega
  have e0 : G * p * q * h = C * (q * G) := by grind
  have e0' : G * p * q * h = C' * (p * G) := by grind
  have e1 : (G * p * q * h).tdiv C = q * G := by rw [e0]; exact Int.mul_tdiv_cancel_left _ hC
  have e2 : (G * p * q * h) / C = q * G := by rw [e0]; exact Int.mul_ediv_cancel_left _ hC
  have e3 : (G * p * q * h) / C' = p * G := by rw [e0']; exact Int.mul_ediv_cancel_left _ hC'
  have d1 : gcdI A A' ∣ q * G * B - p * G * B' := by
    rw [J.hg]
    obtain ⟨k, hk⟩ : f ∣ X := J.hf ▸ gcdI_dvd_right g X
    rcases J.hX with hX | hX
    · exact ⟨k, by grind⟩
    · exact ⟨-k, by grind⟩
  obtain ⟨i, i0, i1, hi⟩ := crt (A := A) (show 0 < A' by have := hm.1; omega) d1
  refine ⟨i, i0, i1, ?_⟩
  rw [e1]
  refine ⟨⟨⟨q * G, e0⟩, ?_⟩, ⟨p * G, e0'⟩, ?_⟩
  · rw [e2]; exact ⟨i, by grind⟩
  · rw [e3]; exact hi
theorem jm_bd (hl : latI A B C) (hm : latI A' B' C') (J : JM A B C A' B' C' f h g G p q X) : 1 ≤ G * p * q * h ∧ G * p * q * h ≤ 4096 := by
  have hA := hl.1
  have hA' := hm.1
  obtain ⟨h1, h2, h3, h4, h5⟩ := hl
  obtain ⟨k1, k2, k3, k4, k5⟩ := hm
  have G0 := J.G0
  have p0 := J.p0
  have q0 := J.q0
  have h0 := J.h0
  have hp := J.hp
  have hq := J.hq
  have hG := J.hG
  have f0 := J.f0
  have hGA : G ≤ A := by
    have e1 : g ≤ A := J.hg ▸ Int.gcd_le_left A' (by omega)
    have e2 := Int.mul_le_mul_of_nonneg_right (show 1 ≤ f by omega) (show 0 ≤ G by omega)
    omega
  have e1 : G * C ≤ A * C := Int.mul_le_mul_of_nonneg_right hGA (by omega)
  have hC64 : C' ≤ 64 := by have := Int.mul_le_mul_of_nonneg_right k1 (show 0 ≤ C' by omega); omega
  have hqC : q ≤ C' := by have := Int.mul_le_mul_of_nonneg_right (show 1 ≤ h by omega) (show 0 ≤ q by omega); omega
  have e2 : G * p * q * h = G * C * q := by grind
  have e3 : 1 * 1 ≤ G * C := Int.mul_le_mul (by omega) h2 (by omega) (by omega)
  have e4 : 1 * 1 ≤ G * C * q := Int.mul_le_mul (by omega) (by omega) (by omega) (by omega)
  have e5 : G * C * q ≤ 64 * 64 := Int.mul_le_mul (by omega) (by omega) (by omega) (by omega)
  omega
theorem jm_index (hl : latI A B C) (J : JM A B C A' B' C' f h g G p q X) : f * h * (lcmA A A' * (G * p * q * h)) = A * C * (A' * C') := by
  have J1 := J.hg
  obtain ⟨α, hα⟩ := gcdI_dvd_left A A'
  have hd : lcmA A A' = α * A' := by
    unfold lcmA
    congr 1
    conv => lhs; rw [hα]
    rw [show gcdI (gcdI A A' * α) A' = gcdI A A' by rw [← hα]]
    exact Int.mul_tdiv_cancel_left _ (by have := J.g0; omega)
  rw [hd]
  rw [J1] at hα
  have hG := J.hG
  have hp := J.hp
  have hq := J.hq
  grind
theorem jm_join_bd (hl : latI A B C) (J : JM A B C A' B' C' f h g G p q X) : f ≤ A ∧ h ≤ C := by
  obtain ⟨h1, h2, h3, h4, h5⟩ := hl
  have G0 := J.G0
  have p0 := J.p0
  have h0 := J.h0
  have hp := J.hp
  have hG := J.hG
  have f0 := J.f0
  have e1 : g ≤ A := J.hg ▸ Int.gcd_le_left A' (by omega)
  have e2 := Int.mul_le_mul_of_nonneg_left (show 1 ≤ G by omega) (show 0 ≤ f by omega)
  have e3 := Int.mul_le_mul_of_nonneg_left (show 1 ≤ p by omega) (show 0 ≤ h by omega)
  omega
end

/- ===== results ===== -/
theorem redX_bd {A B C x y : Int} (h : latI A B C) : 0 ≤ redX A B C x y ∧ redX A B C x y < A :=
  ⟨Int.emod_nonneg _ (by have := h.1; omega), Int.emod_lt_of_pos _ (by have := h.1; omega)⟩
theorem redY_bd {A B C y : Int} (h : latI A B C) : 0 ≤ redY C y ∧ redY C y < C :=
  ⟨Int.emod_nonneg _ (by have := h.2.1; omega), Int.emod_lt_of_pos _ (by have := h.2.1; omega)⟩
theorem red_has {A B C x y : Int} (h : latI A B C) : hasB A B C (x - redX A B C x y) (y - redY C y) = true := by
  rw [hasB_iff]
  have hC : C ≠ 0 := by have := h.2.1; omega
  have e1 := Int.emod_add_mul_ediv y C
  have e2 : y - redY C y = C * (y / C) := by unfold redY; omega
  refine ⟨⟨y / C, e2⟩, ?_⟩
  rw [e2, Int.mul_ediv_cancel_left _ hC]
  have e3 := Int.emod_add_mul_ediv (x - y / C * B) A
  exact ⟨(x - y / C * B) / A, by unfold redX; omega⟩
theorem red_cell {A B C x y : Int} (hx : 0 ≤ x) (hx' : x < A) (hy : 0 ≤ y) (hy' : y < C) : redX A B C x y = x ∧ redY C y = y := by
  have e1 : y / C = 0 := Int.ediv_eq_zero_of_lt hy hy'
  unfold redX redY
  rw [e1, Int.zero_mul, Int.sub_zero, Int.emod_eq_of_lt hx hx', Int.emod_eq_of_lt hy hy']
  exact ⟨rfl, rfl⟩
/- the lattice of two vectors that span the plane, where it is not too great -/
theorem two_lat {ux uy vx vy : Int} (h : ux * vy - uy * vx ≠ 0) (h64 : (latL [(ux, uy), (vx, vy)]).1 * (latL [(ux, uy), (vx, vy)]).2.2 ≤ 64) :
    latI (latL [(ux, uy), (vx, vy)]).1 (latL [(ux, uy), (vx, vy)]).2.1 (latL [(ux, uy), (vx, vy)]).2.2 := by
  obtain ⟨h0, h1, _, _⟩ := two_facts ux uy vx vy h
  have hb := nrm_B (spFold [(ux, uy), (vx, vy)]).2.2 (spFold [(ux, uy), (vx, vy)]).1 (spFold [(ux, uy), (vx, vy)]).2.1 h0
  have hA : (latL [(ux, uy), (vx, vy)]).1 = (spFold [(ux, uy), (vx, vy)]).2.2 := nrm_A _ _ _
  have hC : (latL [(ux, uy), (vx, vy)]).2.2 = ((spFold [(ux, uy), (vx, vy)]).2.1.natAbs : Int) := nrm_C _ _ _
  have hC1 : 1 ≤ (latL [(ux, uy), (vx, vy)]).2.2 := by
    by_cases hp : 1 ≤ (latL [(ux, uy), (vx, vy)]).2.2
    · exact hp
    · have : (latL [(ux, uy), (vx, vy)]).2.2 = 0 := by omega
      rw [this, Int.mul_zero] at h1
      omega
  exact ⟨by omega, hC1, hb.1, by rw [hA]; exact hb.2, h64⟩
end Go.Proofs.Ytodkomaeljbhaaa
