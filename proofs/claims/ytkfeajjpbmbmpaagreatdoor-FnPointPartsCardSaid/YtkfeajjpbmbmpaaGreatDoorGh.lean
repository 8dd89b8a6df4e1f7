/-
  Several of my texts in one: BasP, GrF, GrL, GrC, MdF.
-/
import Derived.Test.YtkfeajjpbmbmpaaGreatDoorGi
import Derived.Test.YtkfeajjpbmbmpaaGreatDoorGg
import Derived.Test.YtkfeajjpbmbmpaaGreatDoorGc
namespace Go.Proofs.YtkfeajjpbmbmpaaGreatDoor
section
set_option linter.unusedVariables false

theorem pos_split {A C A' C' : Int} (hA : 1 ≤ A) (hC : 1 ≤ C) (hA' : 1 ≤ A') (hC' : 1 ≤ C') (h1 : A' ∣ A) (h2 : C' ∣ C) (h : A' * C' = A * C) : A' = A ∧ C' = C := by
  obtain ⟨p, rfl⟩ := h1
  obtain ⟨q, rfl⟩ := h2
  have hp : 1 ≤ p := by
    rcases Int.lt_or_le 0 p with h | h
    · omega
    · have := Int.mul_le_mul_of_nonneg_left (c := A') h (by omega)
      omega
  have hq : 1 ≤ q := by
    rcases Int.lt_or_le 0 q with h | h
    · omega
    · have := Int.mul_le_mul_of_nonneg_left (c := C') h (by omega)
      omega
  have e : A' * C' * (p * q) = A' * C' * 1 := by rw [Int.mul_one]; rw [h]; grind
  have hn : A' * C' ≠ 0 := by
    have := Int.mul_pos (a := A') (b := C') (by omega) (by omega)
    omega
  have hpq : p * q = 1 := Int.eq_of_mul_eq_mul_left hn e
  have h3 : p ≤ p * q := by
    have := Int.mul_le_mul_of_nonneg_left (c := p) hq (by omega)
    omega
  have h4 : q ≤ p * q := by
    have := Int.mul_le_mul_of_nonneg_right (c := q) hp (by omega)
    omega
  have e1 : p = 1 := by omega
  have e2 : q = 1 := by omega
  subst e1 e2
  simp
theorem bas_lat {A B C ux uy vx vy : Int} (hl : latI A B C) (h : Bas A B C ux uy vx vy) : latL [(ux, uy), (vx, vy)] = (A, B, C) := by
  have h0 := latI_ne hl
  have hd := h.det h0
  obtain ⟨_, t2, t3, t4⟩ := two_facts ux uy vx vy hd
  have hp : 1 ≤ A * C := by
    have := Int.mul_le_mul hl.1 hl.2.1 (by omega) (by have := hl.1; omega)
    omega
  have hAC : (latL [(ux, uy), (vx, vy)]).1 * (latL [(ux, uy), (vx, vy)]).2.2 = A * C := by
    rw [t2]
    rcases h.hd with e | e <;> omega
  have hT := two_lat hd (by rw [hAC]; exact hl.2.2.2.2)
  generalize latL [(ux, uy), (vx, vy)] = T at *
  obtain ⟨A', B', C'⟩ := T
  simp only at *
  have hC' : C' ≠ 0 := by have := hT.2.1; omega
  have i1 := (inL_iff hC' ux uy).1 t3
  have i2 := (inL_iff hC' vx vy).1 t4
  have all : ∀ x y, inL A B C x y → hasI A' B' C' x y := by
    intro x y hw
    obtain ⟨a, b, rfl, rfl⟩ := h.span h0 hw
    exact (inL_iff hC' _ _).2 (inL_comb i1 i2 a b)
  have k1 := all A 0 ⟨1, 0, by simp, by simp⟩
  have k2 := all B C ⟨0, 1, by simp, by simp⟩
  rw [has_zero] at k1
  obtain ⟨rfl, rfl⟩ := pos_split hl.1 hl.2.1 hT.1 hT.2.1 k1 k2.1 hAC
  have k3 := k2.2
  rw [Int.ediv_self hC', Int.one_mul] at k3
  obtain ⟨k, hk⟩ := k3
  have b1 := hl.2.2.1
  have b2 := hl.2.2.2.1
  have b3 := hT.2.2.1
  have b4 := hT.2.2.2.1
  have hk0 : k = 0 := by
    rcases Int.lt_trichotomy k 0 with c | c | c
    · have := Int.mul_le_mul_of_nonneg_left (c := A') (show k ≤ -1 by omega) (by omega)
      omega
    · exact c
    · have := Int.mul_le_mul_of_nonneg_left (c := A') (show 1 ≤ k by omega) (by omega)
      omega
  subst hk0
  have : B' = B := by omega
  rw [this]
end
end Go.Proofs.YtkfeajjpbmbmpaaGreatDoor

namespace Go.Proofs.YtkfeajjpbmbmpaaGreatDoor
section
set_option linter.unusedVariables false
set_option linter.unusedSimpArgs false


def redM (A B C : Int) (m : M6) : M6 := (m.1, m.2.1, m.2.2.1, m.2.2.2.1, redX A B C m.2.2.2.2.1 m.2.2.2.2.2, redY C m.2.2.2.2.2)
def cmpM (m n : M6) : M6 := cmpI m.1 m.2.1 m.2.2.1 m.2.2.2.1 m.2.2.2.2.1 m.2.2.2.2.2 n.1 n.2.1 n.2.2.1 n.2.2.2.1 n.2.2.2.2.1 n.2.2.2.2.2
def mulM (A B C : Int) (m n : M6) : M6 := redM A B C (cmpM m n)
def oneM : M6 := (1, 0, 0, 1, 0, 0)
/- the matrix keeps norms and takes the lattice into itself -/
def stabQ (A B C a b c d : Int) : Prop := inL A B C (a * A) (c * A) ∧ inL A B C (a * B + b * C) (c * B + d * C)
def suiQ (f A B C : Int) (m : M6) : Prop := keepB f m.1 m.2.1 m.2.2.1 m.2.2.2.1 = true ∧ stabQ A B C m.1 m.2.1 m.2.2.1 m.2.2.2.1
def okM (f A B C : Int) (m : M6) : Bool := flB f A B C && (pmB f m.1 m.2.1 m.2.2.1 m.2.2.2.1 && (eqT (mapI A B C m.1 m.2.1 m.2.2.1 m.2.2.2.1).1 (mapI A B C m.1 m.2.1 m.2.2.1 m.2.2.2.1).2.1 (mapI A B C m.1 m.2.1 m.2.2.1 m.2.2.2.1).2.2 A B C && vecB m.2.2.2.2.1 m.2.2.2.2.2))
theorem stab_all {A B C a b c d x y : Int} (h : stabQ A B C a b c d) (hv : inL A B C x y) : inL A B C (a * x + b * y) (c * x + d * y) := by
  obtain ⟨p, q, rfl, rfl⟩ := hv
  have := inL_comb h.1 h.2 p q
  have e1 : a * (p * A + q * B) + b * (q * C) = p * (a * A) + q * (a * B + b * C) := by grind
  have e2 : c * (p * A + q * B) + d * (q * C) = p * (c * A) + q * (c * B + d * C) := by grind
  rw [e1, e2]; exact this
theorem inL_base (A B C : Int) : inL A B C A 0 ∧ inL A B C B C := ⟨⟨1, 0, by omega, by omega⟩, ⟨0, 1, by omega, by omega⟩⟩
theorem stab_mul {A B C a b c d a' b' c' d' : Int} (h : stabQ A B C a b c d) (h' : stabQ A B C a' b' c' d') : stabQ A B C (a * a' + b * c') (a * b' + b * d') (c * a' + d * c') (c * b' + d * d') := by
  have h1 := stab_all h h'.1
  have h2 := stab_all h h'.2
  have e1 : (a * a' + b * c') * A = a * (a' * A) + b * (c' * A) := by grind
  have e2 : (c * a' + d * c') * A = c * (a' * A) + d * (c' * A) := by grind
  have e3 : (a * a' + b * c') * B + (a * b' + b * d') * C = a * (a' * B + b' * C) + b * (c' * B + d' * C) := by grind
  have e4 : (c * a' + d * c') * B + (c * b' + d * d') * C = c * (a' * B + b' * C) + d * (c' * B + d' * C) := by grind
  exact ⟨by rw [e1, e2]; exact h1, by rw [e3, e4]; exact h2⟩
theorem stab_oneQ (A B C : Int) : stabQ A B C 1 0 0 1 := by
  obtain ⟨h1, h2⟩ := inL_base A B C
  exact ⟨by simpa using h1, by simpa using h2⟩
/- keeping norms -/
theorem keep_all {f a b c d : Int} (h : keepB f a b c d = true) (x y : Int) : nrmI f (a * x + b * y) (c * x + d * y) = nrmI f x y := by
  obtain ⟨h1, h2, h3⟩ := keep_parts h
  have ht : tI f a c b d = f := by have := nrm_sum f a c b d; omega
  have e := nrm_comb f a c b d x y
  rw [h1, h2, ht] at e
  have e1 : x * a + y * b = a * x + b * y := by grind
  have e2 : x * c + y * d = c * x + d * y := by grind
  rw [e1, e2] at e
  rw [e]; unfold nrmI; grind
theorem keep_of {f a b c d : Int} (h : ∀ x y, nrmI f (a * x + b * y) (c * x + d * y) = nrmI f x y) : keepB f a b c d = true := by
  have h1 := h 1 0
  have h2 := h 0 1
  have h3 := h 1 1
  simp only [Int.mul_one, Int.mul_zero, Int.add_zero, Int.zero_add, nrm_10, nrm_01, nrm_11] at h1 h2 h3
  exact keepB_4 (by simpa using h1) (by simpa using h2) (by simpa using h3)
theorem keep_mul {f a b c d a' b' c' d' : Int} (h : keepB f a b c d = true) (h' : keepB f a' b' c' d' = true) : keepB f (a * a' + b * c') (a * b' + b * d') (c * a' + d * c') (c * b' + d * d') = true := by
  refine keep_of fun x y => ?_
  have e1 := keep_all h (a' * x + b' * y) (c' * x + d' * y)
  rw [keep_all h' x y] at e1
  rw [← e1]
  congr 1 <;> grind
theorem keep_one (f : Int) : keepB f 1 0 0 1 = true := keep_of fun x y => by simp
theorem keep_mat {f a b c d : Int} (hf : frB f = true) (h : keepB f a b c d = true) : matB a b c d = true := by
  have := keep_det hf h
  simp only [matB, keep_lim hf h, Bool.true_and, Bool.or_eq_true, beq_iff_eq]
  exact this
theorem keep_pm {f a b c d : Int} (hf : frB f = true) (h : keepB f a b c d = true) : pmB f a b c d = true := by simp [pmB, hf, keep_mat hf h, h]
/- the image of the lattice is the lattice just if the lattice is taken into itself -/
theorem map_stab {f A B C a b c d : Int} (hf : frB f = true) (hl : latI A B C) (hk : keepB f a b c d = true) :
    eqT (mapI A B C a b c d).1 (mapI A B C a b c d).2.1 (mapI A B C a b c d).2.2 A B C = true ↔ stabQ A B C a b c d := by
  have h0 := latI_ne hl
  have hd := mapL_det (B := B) hl (keep_det hf hk)
  have hne : (a * A + b * 0) * (c * B + d * C) - (c * A + d * 0) * (a * B + b * C) ≠ 0 := by omega
  have hC : C ≠ 0 := by have := hl.2.1; omega
  have z1 : a * A + b * 0 = a * A := by omega
  have z2 : c * A + d * 0 = c * A := by omega
  constructor
  · intro h
    simp only [eqT, Bool.and_eq_true, beq_iff_eq] at h
    obtain ⟨_, _, t3, t4⟩ := two_facts _ _ _ _ hne
    have e : latL [(a * A + b * 0, c * A + d * 0), (a * B + b * C, c * B + d * C)] = (A, B, C) := by
      have : mapI A B C a b c d = latL [(a * A + b * 0, c * A + d * 0), (a * B + b * C, c * B + d * C)] := rfl
      rw [← this]
      exact Prod.ext h.1 (Prod.ext h.2.1 h.2.2)
    rw [e] at t3 t4
    simp only [z1, z2] at t3
    exact ⟨(inL_iff hC _ _).1 t3, (inL_iff hC _ _).1 t4⟩
  · intro h
    have hB : Bas A B C (a * A + b * 0) (c * A + d * 0) (a * B + b * C) (c * B + d * C) := ⟨by rw [z1, z2]; exact h.1, h.2, hd⟩
    have e := bas_lat hl hB
    have e' : mapI A B C a b c d = (A, B, C) := e
    rw [e']
    simp [eqT]
theorem okM_iff {f A B C : Int} {m : M6} : okM f A B C m = true ↔ flB f A B C = true ∧ suiQ f A B C m ∧ vecB m.2.2.2.2.1 m.2.2.2.2.2 = true := by
  unfold okM
  constructor
  · intro h
    simp only [Bool.and_eq_true] at h
    obtain ⟨h1, h2, h3, h4⟩ := h
    have h5 := h1
    simp only [flB, Bool.and_eq_true] at h5
    have hk := (pm_keep h2).2.2
    exact ⟨h1, ⟨hk, (map_stab h5.1 (latB_iff.1 h5.2) hk).1 h3⟩, h4⟩
  · rintro ⟨h1, ⟨h2, h3⟩, h4⟩
    have h5 := h1
    simp only [flB, Bool.and_eq_true] at h5
    rw [h1, keep_pm h5.1 h2, (map_stab h5.1 (latB_iff.1 h5.2) h2).2 h3, h4]
    rfl
/- reduced shifts -/
theorem red_same {A B C x y x' y' : Int} (hl : latI A B C) : (redX A B C x y = redX A B C x' y' ∧ redY C y = redY C y') ↔ inL A B C (x - x') (y - y') := by
  have hA : 1 ≤ A := hl.1
  have hC : 1 ≤ C := hl.2.1
  have hC0 : C ≠ 0 := by omega
  unfold redX redY
  constructor
  · rintro ⟨h1, h2⟩
    have d1 : C ∣ y - y' := Int.dvd_of_emod_eq_zero (Int.emod_eq_emod_iff_emod_sub_eq_zero.1 h2)
    have d2 : A ∣ (x - y / C * B) - (x' - y' / C * B) := Int.dvd_of_emod_eq_zero (Int.emod_eq_emod_iff_emod_sub_eq_zero.1 h1)
    obtain ⟨k, hk⟩ := d2
    have e1 := Int.mul_ediv_add_emod y C
    have e2 := Int.mul_ediv_add_emod y' C
    refine ⟨k, y / C - y' / C, ?_, ?_⟩
    · have : k * A = A * k := Int.mul_comm _ _
      rw [this, ← hk]; grind
    · have : (y / C - y' / C) * C = C * (y / C) - C * (y' / C) := by grind
      rw [this]; omega
  · rintro ⟨p, q, h1, h2⟩
    have hy : y = y' + q * C := by omega
    have hq : y / C = y' / C + q := by rw [hy, Int.add_mul_ediv_right _ _ hC0]
    constructor
    · refine Int.emod_eq_emod_iff_emod_sub_eq_zero.2 (Int.emod_eq_zero_of_dvd ⟨p, ?_⟩)
      rw [hq]
      have : x = x' + (p * A + q * B) := by omega
      rw [this]; grind
    · rw [hy, Int.add_mul_emod_self_right]
theorem red_off {A B C : Int} (hl : latI A B C) (x y : Int) : inL A B C (redX A B C x y - x) (redY C y - y) := by
  have h := (red_same (x := redX A B C x y) (y := redY C y) (x' := x) (y' := y) hl).1
  apply h
  have hb := redX_bd (x := x) (y := y) hl
  have hc := redY_bd (y := y) hl
  exact red_cell hb.1 hb.2 hc.1 hc.2
theorem redM_eq {A B C : Int} (hl : latI A B C) {a b c d x y x' y' : Int} (h : inL A B C (x - x') (y - y')) : redM A B C (a, b, c, d, x, y) = redM A B C (a, b, c, d, x', y') := by
  obtain ⟨h1, h2⟩ := (red_same hl).2 h
  simp only [redM, h1, h2]
theorem redM_redM {A B C : Int} (hl : latI A B C) (m : M6) : redM A B C (redM A B C m) = redM A B C m := by
  obtain ⟨a, b, c, d, x, y⟩ := m
  exact redM_eq hl (red_off hl x y)
theorem redM_bd {A B C : Int} (hl : latI A B C) (m : M6) : (0 ≤ (redM A B C m).2.2.2.2.1 ∧ (redM A B C m).2.2.2.2.1 < A) ∧ (0 ≤ (redM A B C m).2.2.2.2.2 ∧ (redM A B C m).2.2.2.2.2 < C) := ⟨redX_bd hl, redY_bd hl⟩
theorem red_vec {A B C : Int} (hl : latI A B C) {m : M6} (h : redM A B C m = m) : vecB m.2.2.2.2.1 m.2.2.2.2.2 = true := by
  have := redM_bd hl m
  rw [h] at this
  obtain ⟨b1, b2⟩ := latI_bd hl
  exact decide_eq_true (by omega)
theorem oneM_red {A B C : Int} (hl : latI A B C) : redM A B C oneM = oneM := by
  have h1 := hl.1
  have h2 := hl.2.1
  obtain ⟨e1, e2⟩ := red_cell (A := A) (B := B) (C := C) (x := 0) (y := 0) (by omega) (by omega) (by omega) (by omega)
  simp [redM, oneM, e1, e2]
theorem oneM_sui (f A B C : Int) : suiQ f A B C oneM := ⟨keep_one f, stab_oneQ A B C⟩
theorem mul_sui {f A B C : Int} {m n : M6} (h : suiQ f A B C m) (h' : suiQ f A B C n) : suiQ f A B C (mulM A B C m n) := ⟨keep_mul h.1 h'.1, stab_mul h.2 h'.2⟩
theorem mul_red {A B C : Int} (hl : latI A B C) (m n : M6) : redM A B C (mulM A B C m n) = mulM A B C m n := redM_redM hl _
theorem one_mul {A B C : Int} {n : M6} (h : redM A B C n = n) : mulM A B C oneM n = n := by
  obtain ⟨a, b, c, d, x, y⟩ := n
  have : cmpM oneM (a, b, c, d, x, y) = (a, b, c, d, x, y) := by simp [cmpM, cmpI, oneM]
  rw [mulM, this, h]
theorem mul_one {A B C : Int} {n : M6} (h : redM A B C n = n) : mulM A B C n oneM = n := by
  obtain ⟨a, b, c, d, x, y⟩ := n
  have : cmpM (a, b, c, d, x, y) oneM = (a, b, c, d, x, y) := by simp [cmpM, cmpI, oneM]
  rw [mulM, this, h]
theorem mul_assoc6 {f A B C : Int} (hl : latI A B C) {m n k : M6} (hm : suiQ f A B C m) : mulM A B C (mulM A B C m n) k = mulM A B C m (mulM A B C n k) := by
  obtain ⟨a, b, c, d, x, y⟩ := m
  obtain ⟨a', b', c', d', x', y'⟩ := n
  obtain ⟨a2, b2, c2, d2, x2, y2⟩ := k
  have h1 := red_off hl (a * x' + b * y' + x) (c * x' + d * y' + y)
  have h2 := stab_all hm.2 (red_off hl (a' * x2 + b' * y2 + x') (c' * x2 + d' * y2 + y'))
  simp only [mulM, cmpM, cmpI, redM]
  have g1 : (a * a' + b * c') * a2 + (a * b' + b * d') * c2 = a * (a' * a2 + b' * c2) + b * (c' * a2 + d' * c2) := by grind
  have g2 : (a * a' + b * c') * b2 + (a * b' + b * d') * d2 = a * (a' * b2 + b' * d2) + b * (c' * b2 + d' * d2) := by grind
  have g3 : (c * a' + d * c') * a2 + (c * b' + d * d') * c2 = c * (a' * a2 + b' * c2) + d * (c' * a2 + d' * c2) := by grind
  have g4 : (c * a' + d * c') * b2 + (c * b' + d * d') * d2 = c * (a' * b2 + b' * d2) + d * (c' * b2 + d' * d2) := by grind
  rw [g1, g2, g3, g4]
  obtain ⟨e1, e2⟩ := (red_same (A := A) (B := B) (C := C) (x := (a * a' + b * c') * x2 + (a * b' + b * d') * y2 + redX A B C (a * x' + b * y' + x) (c * x' + d * y' + y)) (y := (c * a' + d * c') * x2 + (c * b' + d * d') * y2 + redY C (c * x' + d * y' + y)) (x' := a * redX A B C (a' * x2 + b' * y2 + x') (c' * x2 + d' * y2 + y') + b * redY C (c' * x2 + d' * y2 + y') + x) (y' := c * redX A B C (a' * x2 + b' * y2 + x') (c' * x2 + d' * y2 + y') + d * redY C (c' * x2 + d' * y2 + y') + y) hl).2 (by
    have h3 := inL_comb h1 h2 1 (-1)
    generalize redX A B C (a * x' + b * y' + x) (c * x' + d * y' + y) = p at *
    generalize redY C (c * x' + d * y' + y) = q at *
    generalize redX A B C (a' * x2 + b' * y2 + x') (c' * x2 + d' * y2 + y') = r at *
    generalize redY C (c' * x2 + d' * y2 + y') = t at *
    have u1 : (a * a' + b * c') * x2 + (a * b' + b * d') * y2 + p - (a * r + b * t + x) = 1 * (p - (a * x' + b * y' + x)) + -1 * (a * (r - (a' * x2 + b' * y2 + x')) + b * (t - (c' * x2 + d' * y2 + y'))) := by grind
    have u2 : (c * a' + d * c') * x2 + (c * b' + d * d') * y2 + q - (c * r + d * t + y) = 1 * (q - (c * x' + d * y' + y)) + -1 * (c * (r - (a' * x2 + b' * y2 + x')) + d * (t - (c' * x2 + d' * y2 + y'))) := by grind
    rw [u1, u2]
    exact h3)
  rw [e1, e2]
/- the order of motions -/
def ltM (m n : M6) : Bool := decide (m.1 < n.1 ∨ m.1 = n.1 ∧ (m.2.1 < n.2.1 ∨ m.2.1 = n.2.1 ∧ (m.2.2.1 < n.2.2.1 ∨ m.2.2.1 = n.2.2.1 ∧ (m.2.2.2.1 < n.2.2.2.1 ∨ m.2.2.2.1 = n.2.2.2.1 ∧ (m.2.2.2.2.1 < n.2.2.2.2.1 ∨ m.2.2.2.2.1 = n.2.2.2.2.1 ∧ m.2.2.2.2.2 < n.2.2.2.2.2)))))
theorem ltM_irrefl (m : M6) : ltM m m = false := by simp [ltM]
theorem ltM_trans {m n k : M6} (h : ltM m n = true) (h' : ltM n k = true) : ltM m k = true := by
  simp only [ltM, decide_eq_true_eq] at *; omega
theorem ltM_total {m n : M6} (h : ltM m n = false) (h' : ltM n m = false) : m = n := by
  obtain ⟨a, b, c, d, x, y⟩ := m
  obtain ⟨a', b', c', d', x', y'⟩ := n
  simp only [ltM, decide_eq_false_iff_not] at h h'
  have : a = a' ∧ b = b' ∧ c = c' ∧ d = d' ∧ x = x' ∧ y = y' := by omega
  obtain ⟨rfl, rfl, rfl, rfl, rfl, rfl⟩ := this
  rfl
theorem ltM_asymm {m n : M6} (h : ltM m n = true) : ltM n m = false := by
  rcases h' : ltM n m with _ | _
  · rfl
  · have := ltM_trans h h'
    rw [ltM_irrefl] at this; cases this
abbrev Up (L : List M6) : Prop := L.Pairwise fun m n => ltM m n = true
theorem Up.nodup {L : List M6} (h : Up L) : L.Nodup := h.imp fun {a b} hab e => by subst e; rw [ltM_irrefl] at hab; cases hab
theorem up_unique {L L' : List M6} (h : Up L) (h' : Up L') (hm : ∀ m, m ∈ L ↔ m ∈ L') : L = L' :=
  List.Perm.eq_of_pairwise (le := fun m n => ltM m n = true) (fun a b _ _ h1 h2 => by rw [ltM_asymm h1] at h2; cases h2) h h' ((List.perm_ext_iff_of_nodup h.nodup h'.nodup).2 hm)
/- what a list of motions reaches -/
def Reach (A B C : Int) (R : List M6) (m : M6) : Prop := ∀ S : M6 → Prop, S oneM → (∀ r ∈ R, ∀ n, S n → S (mulM A B C r n)) → S m
theorem reach_one (A B C : Int) (R : List M6) : Reach A B C R oneM := fun S h _ => h
theorem reach_step {A B C : Int} {R : List M6} {r n : M6} (hr : r ∈ R) (h : Reach A B C R n) : Reach A B C R (mulM A B C r n) := fun S h1 h2 => h2 r hr n (h S h1 h2)
def GoodR (f A B C : Int) (R : List M6) : Prop := ∀ r ∈ R, suiQ f A B C r ∧ redM A B C r = r
theorem reach_good {f A B C : Int} (hl : latI A B C) {R : List M6} (hR : GoodR f A B C R) {m : M6} (h : Reach A B C R m) : suiQ f A B C m ∧ redM A B C m = m :=
  h (fun m => suiQ f A B C m ∧ redM A B C m = m) ⟨oneM_sui f A B C, oneM_red hl⟩ fun r hr n hn => ⟨mul_sui (hR r hr).1 hn.1, mul_red hl r n⟩
theorem reach_mul {f A B C : Int} (hl : latI A B C) {R : List M6} (hR : GoodR f A B C R) {m n : M6} (hm : Reach A B C R m) (hn : Reach A B C R n) : Reach A B C R (mulM A B C m n) := by
  have h := hm (fun m => Reach A B C R m ∧ Reach A B C R (mulM A B C m n)) ⟨reach_one A B C R, by rw [one_mul (reach_good hl hR hn).2]; exact hn⟩ fun r hr k hk => ⟨reach_step hr hk.1, by rw [mul_assoc6 hl (hR r hr).1]; exact reach_step hr hk.2⟩
  exact h.2
theorem reach_mem {f A B C : Int} (hl : latI A B C) {R : List M6} (hR : GoodR f A B C R) {r : M6} (hr : r ∈ R) : Reach A B C R r := by
  have := reach_step hr (reach_one A B C R)
  rwa [mul_one (hR r hr).2] at this
theorem reach_sub {f A B C : Int} (hl : latI A B C) {R R' : List M6} (hR : GoodR f A B C R) (h : ∀ r ∈ R', Reach A B C R r) {m : M6} (hm : Reach A B C R' m) : Reach A B C R m :=
  hm _ (reach_one A B C R) fun r hr n hn => reach_mul hl hR (h r hr) hn
/- the closure of a list -/
def IsClos (A B C : Int) (R L : List M6) : Prop := Up L ∧ ∀ m, m ∈ L ↔ Reach A B C R m
theorem clos_unique {A B C : Int} {R L L' : List M6} (h : IsClos A B C R L) (h' : IsClos A B C R L') : L = L' := up_unique h.1 h'.1 fun m => (h.2 m).trans (h'.2 m).symm
/- a list that is closed under the makers has all that they reach -/
theorem reach_closed {A B C : Int} {R Q : List M6} (h1 : oneM ∈ Q) (h2 : ∀ r ∈ R, ∀ n ∈ Q, mulM A B C r n ∈ Q) {m : M6} (h : Reach A B C R m) : m ∈ Q := h (· ∈ Q) h1 h2
/- how many there are -/
theorem nodup_len {α : Type} [DecidableEq α] : ∀ (L L' : List α), L.Nodup → (∀ x ∈ L, x ∈ L') → L.length ≤ L'.length
  | [], L', _, _ => by simp
  | a :: L, L', hn, hs => by
    have ha : a ∈ L' := hs a (by simp)
    have h1 := List.nodup_cons.1 hn
    have h2 := nodup_len L (L'.erase a) h1.2 fun x hx => (List.mem_erase_of_ne (fun e => h1.1 (by rw [← e]; exact hx))).2 (hs x (by simp [hx]))
    have h3 := List.length_erase_of_mem ha
    have h4 : 0 < L'.length := List.length_pos_of_mem ha
    simp only [List.length_cons]
    omega
theorem decM_of {a b c d : Int} (hs : ((-1 ≤ a ∧ a ≤ 1) ∧ (-1 ≤ b ∧ b ≤ 1)) ∧ ((-1 ≤ c ∧ c ≤ 1) ∧ (-1 ≤ d ∧ d ≤ 1))) : ∃ k, k < 81 ∧ decM k = (a, b, c, d) := by
  refine ⟨(27 * (a + 1) + 9 * (b + 1) + 3 * (c + 1) + (d + 1)).toNat, by omega, ?_⟩
  unfold decM
  have e : (((27 * (a + 1) + 9 * (b + 1) + 3 * (c + 1) + (d + 1)).toNat : Nat) : Int) = 27 * (a + 1) + 9 * (b + 1) + 3 * (c + 1) + (d + 1) := by omega
  rw [e]
  have h1 : (27 * (a + 1) + 9 * (b + 1) + 3 * (c + 1) + (d + 1)) / 27 - 1 = a := by omega
  have h2 : (27 * (a + 1) + 9 * (b + 1) + 3 * (c + 1) + (d + 1)) / 9 % 3 - 1 = b := by omega
  have h3 : (27 * (a + 1) + 9 * (b + 1) + 3 * (c + 1) + (d + 1)) / 3 % 3 - 1 = c := by omega
  have h4 : (27 * (a + 1) + 9 * (b + 1) + 3 * (c + 1) + (d + 1)) % 3 - 1 = d := by omega
  rw [h1, h2, h3, h4]
theorem matsL_mem {f a b c d : Int} (hf : frB f = true) (h : keepB f a b c d = true) : (a, b, c, d) ∈ matsL f := by
  obtain ⟨k, hk, e⟩ := decM_of (keep_small hf h)
  unfold matsL matsP
  exact List.mem_filter.2 ⟨List.mem_map.2 ⟨k, List.mem_range.2 hk, e⟩, h⟩
theorem matsL_len {f : Int} (hf : frB f = true) : (matsL f).length ≤ 12 := by
  rcases frB_iff.1 hf with rfl | rfl <;> decide
def allQ (f A C : Int) : List M6 := (matsL f).flatMap fun m => (List.range A.toNat).flatMap fun (x : Nat) => (List.range C.toNat).map fun (y : Nat) => (m.1, m.2.1, m.2.2.1, m.2.2.2, (x : Int), (y : Int))
theorem flatMap_len {α β : Type} (g : α → List β) (n : Nat) : ∀ l : List α, (∀ x ∈ l, (g x).length = n) → (l.flatMap g).length = l.length * n
  | [], _ => by simp
  | a :: l, h => by
    rw [List.flatMap_cons, List.length_append, h a (by simp), flatMap_len g n l fun x hx => h x (by simp [hx]), List.length_cons, Nat.succ_mul, Nat.add_comm]
theorem allQ_len {f A B C : Int} (hf : frB f = true) (hl : latI A B C) : (allQ f A C).length ≤ 768 := by
  unfold allQ
  rw [flatMap_len _ (A.toNat * C.toNat) _ fun m _ => by rw [flatMap_len _ C.toNat _ fun x _ => by simp]; simp]
  have h1 := matsL_len hf
  have h2 : A.toNat * C.toNat ≤ 64 := by
    have e : ((A.toNat * C.toNat : Nat) : Int) = A * C := by
      rw [Int.natCast_mul, Int.toNat_of_nonneg (by have := hl.1; omega), Int.toNat_of_nonneg (by have := hl.2.1; omega)]
    have := hl.2.2.2.2
    omega
  exact Nat.mul_le_mul h1 h2
theorem good_len {f A B C : Int} (hf : frB f = true) (hl : latI A B C) {L : List M6} (hn : L.Nodup) (h : GoodR f A B C L) : L.length ≤ 768 := by
  refine Nat.le_trans (nodup_len L (allQ f A C) hn fun m hm => ?_) (allQ_len hf hl)
  obtain ⟨⟨hk, _⟩, hr⟩ := h m hm
  have hb := redM_bd hl m
  rw [hr] at hb
  obtain ⟨a, b, c, d, x, y⟩ := m
  simp only at hb hk
  unfold allQ
  refine List.mem_flatMap.2 ⟨(a, b, c, d), matsL_mem hf hk, List.mem_flatMap.2 ⟨x.toNat, List.mem_range.2 (by omega), List.mem_map.2 ⟨y.toNat, List.mem_range.2 (by omega), ?_⟩⟩⟩
  have e1 : ((x.toNat : Nat) : Int) = x := by omega
  have e2 : ((y.toNat : Nat) : Int) = y := by omega
  simp only [e1, e2]
/- groups -/
def grpB (f A B C : Int) (L : List M6) : Bool := flB f A B C && (L.all (fun m => okM f A B C m && redM A B C m == m) && (decide (Up L) && (L.contains oneM && L.all fun m => L.all fun n => L.contains (mulM A B C m n))))
theorem grp_iff {f A B C : Int} (hfl : flB f A B C = true) {L : List M6} (hok : ∀ m ∈ L, okM f A B C m = true) : grpB f A B C L = true ↔ IsClos A B C (L.map (redM A B C)) L := by
  have h5 := hfl
  simp only [flB, Bool.and_eq_true] at h5
  have hl := latB_iff.1 h5.2
  unfold grpB
  simp only [hfl, Bool.true_and, Bool.and_eq_true, decide_eq_true_eq, List.all_eq_true, List.contains_iff_mem, beq_iff_eq]
  have hG : GoodR f A B C (L.map (redM A B C)) := by
    intro r hr
    obtain ⟨m, hm, rfl⟩ := List.mem_map.1 hr
    exact ⟨(okM_iff.1 (hok m hm)).2.1, redM_redM hl m⟩
  constructor
  · rintro ⟨h1, h2, h3, h4⟩
    have e : L.map (redM A B C) = L := by
      have : L.map (redM A B C) = L.map id := List.map_congr_left fun m hm => (h1 m hm).2
      rw [this, List.map_id]
    refine ⟨h2, fun m => ⟨fun hm => ?_, fun hm => ?_⟩⟩
    · exact reach_mem hl hG (by rw [e]; exact hm)
    · refine reach_closed h3 (fun r hr n hn => h4 r ?_ n hn) hm
      rwa [e] at hr
  · rintro ⟨h1, h2⟩
    refine ⟨fun m hm => ⟨hok m hm, (reach_good hl hG ((h2 m).1 hm)).2⟩, h1, (h2 _).2 (reach_one A B C _), fun m hm n hn => (h2 _).2 (reach_mul hl hG ((h2 m).1 hm) ((h2 n).1 hn))⟩
end
end Go.Proofs.YtkfeajjpbmbmpaaGreatDoor

namespace Go.Proofs.YtkfeajjpbmbmpaaGreatDoor
section
set_option linter.unusedVariables false
set_option linter.unusedSimpArgs false

def plM (L : List M6) (m : M6) : Nat := (L.filter fun n => ltM n m).length
theorem plM_le (L : List M6) (m : M6) : plM L m ≤ L.length := List.length_filter_le _ _
theorem plM_iff (m : M6) : ∀ (L : List M6), Up L → ∀ (i : Nat) (h : i < L.length), ltM L[i] m = true ↔ i < plM L m
  | [], _, i, h => absurd h (by simp)
  | a :: L, hU, i, h => by
    have h1 := List.pairwise_cons.1 hU
    have ih := plM_iff m L h1.2
    rcases ha : ltM a m with _ | _
    · have hz : L.filter (fun n => ltM n m) = [] := by
        refine List.filter_eq_nil_iff.2 fun n hn hnm => ?_
        have := ltM_trans (h1.1 n hn) hnm
        rw [ha] at this; cases this
      have e : plM (a :: L) m = 0 := by simp [plM, ha, hz]
      rw [e]
      refine ⟨fun h' => ?_, fun h' => absurd h' (by omega)⟩
      cases i with
      | zero => simp only [List.getElem_cons_zero] at h'; rw [ha] at h'; cases h'
      | succ i =>
        simp only [List.getElem_cons_succ] at h'
        have := ltM_trans (h1.1 _ (List.getElem_mem (by simpa using h))) h'
        rw [ha] at this; cases this
    · have e : plM (a :: L) m = plM L m + 1 := by simp [plM, ha]
      rw [e]
      cases i with
      | zero => simp only [List.getElem_cons_zero]; exact ⟨fun _ => by omega, fun _ => ha⟩
      | succ i =>
        simp only [List.getElem_cons_succ]
        rw [ih i (by simpa using h)]
        omega
theorem plM_at {L : List M6} {m : M6} (hU : Up L) (hm : m ∈ L) : ∃ h : plM L m < L.length, L[plM L m] = m := by
  obtain ⟨i, hi, rfl⟩ := List.mem_iff_getElem.1 hm
  have h1 : ¬ i < plM L L[i] := fun h => by
    have := (plM_iff L[i] L hU i hi).2 h
    rw [ltM_irrefl] at this; cases this
  have h2 : ¬ plM L L[i] < i := fun h => by
    have hlt : plM L L[i] < L.length := by omega
    have h3 := List.pairwise_iff_getElem.1 hU _ _ hlt hi h
    have := (plM_iff L[i] L hU _ hlt).1 h3
    omega
  have e : plM L L[i] = i := by omega
  exact ⟨by omega, by simp only [e]⟩
def insM (L : List M6) (m : M6) : List M6 := L.take (plM L m) ++ m :: L.drop (plM L m)
theorem insM_mem {L : List M6} {m n : M6} : n ∈ insM L m ↔ n = m ∨ n ∈ L := by
  unfold insM
  have : n ∈ L ↔ n ∈ L.take (plM L m) ∨ n ∈ L.drop (plM L m) := by
    rw [← List.mem_append, List.take_append_drop]
  rw [List.mem_append, List.mem_cons, this]
  constructor
  · rintro (h | h | h)
    · exact .inr (.inl h)
    · exact .inl h
    · exact .inr (.inr h)
  · rintro (h | h | h)
    · exact .inr (.inl h)
    · exact .inl h
    · exact .inr (.inr h)
theorem insM_up {L : List M6} {m : M6} (hU : Up L) (hm : m ∉ L) : Up (insM L m) := by
  have hp := plM_iff m L hU
  have h1 : ∀ a ∈ L.take (plM L m), ltM a m = true := by
    intro a ha
    obtain ⟨i, hi, rfl⟩ := List.mem_iff_getElem.1 ha
    have hi2 : i < plM L m ∧ i < L.length := by rw [List.length_take] at hi; omega
    rw [List.getElem_take]
    exact (hp i hi2.2).2 hi2.1
  have h2 : ∀ a ∈ L.drop (plM L m), ltM m a = true := by
    intro a ha
    have hmem := List.mem_of_mem_drop ha
    obtain ⟨i, hi, rfl⟩ := List.mem_iff_getElem.1 ha
    rw [List.length_drop] at hi
    have hi2 : plM L m + i < L.length := by omega
    rw [List.getElem_drop] at hmem ⊢
    rcases hc : ltM m L[plM L m + i] with _ | _
    · exfalso
      have hn : ltM L[plM L m + i] m = false := by
        rcases hc2 : ltM L[plM L m + i] m with _ | _
        · rfl
        · have := (hp _ hi2).1 hc2
          omega
      have := ltM_total hc hn
      exact hm (this ▸ hmem)
    · rfl
  unfold insM
  refine List.pairwise_append.2 ⟨hU.sublist (List.take_sublist _ _), List.pairwise_cons.2 ⟨h2, hU.sublist (List.drop_sublist _ _)⟩, fun a ha b hb => ?_⟩
  rcases List.mem_cons.1 hb with rfl | hb
  · exact h1 a ha
  · exact ltM_trans (h1 a ha) (h2 b hb)
/- a list of products that grows: what is kept between two rounds -/
structure Grows (A B C : Int) (R Q : List M6) (i k : Nat) : Prop where
  nodup : Q.Nodup
  one : oneM ∈ Q
  reach : ∀ m ∈ Q, Reach A B C R m
  done : ∀ (j : Nat) (h : j < Q.length), j < i → ∀ r ∈ R, mulM A B C r Q[j] ∈ Q
  part : ∀ (h : i < Q.length), ∀ r ∈ R.take k, mulM A B C r Q[i] ∈ Q
theorem Grows.start (A B C : Int) (R : List M6) : Grows A B C R [oneM] 0 0 :=
  ⟨by simp, by simp, fun m hm => by simp at hm; subst hm; exact reach_one A B C R, fun j _ h => absurd h (by omega), fun _ r hr => by simp at hr⟩
theorem Grows.has {A B C : Int} {R Q : List M6} {i k : Nat} (h : Grows A B C R Q i k) (hi : i < Q.length) (hk : k < R.length) (hm : mulM A B C R[k] Q[i] ∈ Q) : Grows A B C R Q i (k + 1) :=
  ⟨h.nodup, h.one, h.reach, h.done, fun hi r hr => by
    rw [List.take_succ_eq_append_getElem hk] at hr
    rcases List.mem_append.1 hr with hr | hr
    · exact h.part hi r hr
    · simp at hr; subst hr; exact hm⟩
theorem Grows.adds {A B C : Int} {R Q : List M6} {i k : Nat} (h : Grows A B C R Q i k) (hi : i < Q.length) (hk : k < R.length) (hm : mulM A B C R[k] Q[i] ∉ Q) : Grows A B C R (Q ++ [mulM A B C R[k] Q[i]]) i (k + 1) := by
  refine ⟨?_, List.mem_append.2 (.inl h.one), ?_, ?_, ?_⟩
  · exact List.nodup_append.2 ⟨h.nodup, by simp, fun a ha b hb => by simp at hb; subst hb; exact fun e => hm (e ▸ ha)⟩
  · intro m hm'
    rcases List.mem_append.1 hm' with hm' | hm'
    · exact h.reach m hm'
    · simp at hm'; subst hm'
      exact reach_step (List.getElem_mem hk) (h.reach _ (List.getElem_mem hi))
  · intro j hj hji r hr
    rw [List.getElem_append_left (by omega)]
    exact List.mem_append.2 (.inl (h.done j (by omega) hji r hr))
  · intro hi' r hr
    rw [List.getElem_append_left hi]
    rw [List.take_succ_eq_append_getElem hk] at hr
    rcases List.mem_append.1 hr with hr | hr
    · exact List.mem_append.2 (.inl (h.part hi r hr))
    · simp at hr; subst hr; exact List.mem_append.2 (.inr (by simp))
theorem Grows.next {A B C : Int} {R Q : List M6} {i : Nat} (h : Grows A B C R Q i R.length) : Grows A B C R Q (i + 1) 0 :=
  ⟨h.nodup, h.one, h.reach, fun j hj hji r hr => by
    by_cases e : j = i
    · subst e; exact h.part hj r (by rw [List.take_length]; exact hr)
    · exact h.done j hj (by omega) r hr, fun _ r hr => by simp at hr⟩
theorem Grows.mem {A B C : Int} {R Q : List M6} {k : Nat} (h : Grows A B C R Q Q.length k) (m : M6) : m ∈ Q ↔ Reach A B C R m :=
  ⟨h.reach m, fun hm => reach_closed h.one (fun r hr n hn => by
    obtain ⟨j, hj, rfl⟩ := List.mem_iff_getElem.1 hn
    exact h.done j hj hj r hr) hm⟩
theorem Grows.good {f A B C : Int} (hl : latI A B C) {R Q : List M6} {i k : Nat} (hR : GoodR f A B C R) (h : Grows A B C R Q i k) : GoodR f A B C Q := fun m hm => reach_good hl hR (h.reach m hm)
theorem Grows.len {f A B C : Int} (hf : frB f = true) (hl : latI A B C) {R Q : List M6} {i k : Nat} (hR : GoodR f A B C R) (h : Grows A B C R Q i k) : Q.length ≤ 768 := good_len hf hl h.nodup (h.good hl hR)
theorem clos_len {f A B C : Int} (hf : frB f = true) (hl : latI A B C) {R L : List M6} (hR : GoodR f A B C R) (h : IsClos A B C R L) : L.length ≤ 768 := good_len hf hl h.1.nodup fun m hm => reach_good hl hR ((h.2 m).1 hm)
end
end Go.Proofs.YtkfeajjpbmbmpaaGreatDoor

namespace Go.Proofs.YtkfeajjpbmbmpaaGreatDoor
section
set_option linter.unusedVariables false
set_option linter.unusedSimpArgs false

/- makers: motions of a list that reach all motions of its first k -/
structure Gath (A B C : Int) (R : List M6) (k : Nat) (Ms : List M6) : Prop where
  sub : ∀ m ∈ Ms, m ∈ R
  all : ∀ m ∈ R.take k, Reach A B C Ms m
  len : Ms.length ≤ k
theorem Gath.start (A B C : Int) (R : List M6) : Gath A B C R 0 [] := ⟨by simp, by simp, by simp⟩
theorem Gath.good {f A B C : Int} {R Ms : List M6} {k : Nat} (hR : GoodR f A B C R) (h : Gath A B C R k Ms) : GoodR f A B C Ms := fun m hm => hR m (h.sub m hm)
theorem Gath.has {A B C : Int} {R Ms : List M6} {k : Nat} (h : Gath A B C R k Ms) (hk : k < R.length) (hm : Reach A B C Ms R[k]) : Gath A B C R (k + 1) Ms :=
  ⟨h.sub, fun m hm' => by
    rw [List.take_succ_eq_append_getElem hk] at hm'
    rcases List.mem_append.1 hm' with hm' | hm'
    · exact h.all m hm'
    · simp at hm'; subst hm'; exact hm, by have := h.len; omega⟩
theorem Gath.adds {f A B C : Int} (hl : latI A B C) {R Ms : List M6} (hR : GoodR f A B C R) {k : Nat} (h : Gath A B C R k Ms) (hk : k < R.length) : Gath A B C R (k + 1) (Ms ++ [R[k]]) := by
  have hg : GoodR f A B C (Ms ++ [R[k]]) := by
    intro m hm
    rcases List.mem_append.1 hm with hm | hm
    · exact h.good hR m hm
    · simp at hm; subst hm; exact hR _ (List.getElem_mem hk)
  refine ⟨?_, ?_, by have := h.len; simp; omega⟩
  · intro m hm
    rcases List.mem_append.1 hm with hm | hm
    · exact h.sub m hm
    · simp at hm; subst hm; exact List.getElem_mem hk
  · intro m hm
    rw [List.take_succ_eq_append_getElem hk] at hm
    rcases List.mem_append.1 hm with hm | hm
    · exact reach_sub hl hg (fun r hr => reach_mem hl hg (List.mem_append.2 (.inl hr))) (h.all m hm)
    · simp at hm; subst hm; exact reach_mem hl hg (List.mem_append.2 (.inr (by simp)))
theorem Gath.fin {f A B C : Int} (hl : latI A B C) {R Ms : List M6} (hR : GoodR f A B C R) (h : Gath A B C R R.length Ms) (m : M6) : Reach A B C Ms m ↔ Reach A B C R m :=
  ⟨reach_sub hl hR fun r hr => reach_mem hl hR (h.sub r hr), reach_sub hl (h.good hR) fun r hr => h.all r (by rw [List.take_length]; exact hr)⟩
/- one list that is strictly increasing -/
theorem up_of {L : List M6} (hn : L.Nodup) (h : L.Pairwise fun m n => ltM n m = false) : Up L := by
  have := List.pairwise_and_iff.2 ⟨h, hn⟩
  refine this.imp fun {a b} hab => ?_
  rcases hc : ltM a b with _ | _
  · exact absurd (ltM_total hc hab.1) hab.2
  · rfl
theorem sort_up {L : List M6} (hn : L.Nodup) : Up (L.mergeSort fun x y => !ltM y x) := by
  have hs := List.pairwise_mergeSort (le := fun x y => !ltM y x) (fun a b c h1 h2 => by
    simp only [Bool.not_eq_true'] at *
    rcases hc : ltM c a with _ | _
    · rfl
    · rcases hab : ltM a b with _ | _
      · have e := ltM_total hab h1
        subst e
        rw [h2] at hc; cases hc
      · have := ltM_trans hc hab
        rw [h2] at this; cases this) (fun a b => by
    rcases hab : ltM a b with _ | _ <;> rcases hba : ltM b a with _ | _ <;> simp_all
    have := ltM_trans hab hba
    rw [ltM_irrefl] at this; cases this) L
  refine up_of ((List.mergeSort_perm L _).nodup_iff.2 hn) (hs.imp fun {a b} h => by simpa using h)
theorem sort_mem (L : List M6) (m : M6) : m ∈ L.mergeSort (fun x y => !ltM y x) ↔ m ∈ L := (List.mergeSort_perm L _).mem_iff
theorem sort_clos {A B C : Int} {R L : List M6} (hn : L.Nodup) (h : ∀ m, m ∈ L ↔ Reach A B C R m) : IsClos A B C R (L.mergeSort fun x y => !ltM y x) := ⟨sort_up hn, fun m => (sort_mem L m).trans (h m)⟩
/- a group that is shifted -/
/- what a fold of insertions keeps -/
def putM (L : List M6) (m : M6) : List M6 := if m ∈ L then L else insM L m
theorem putM_mem {L : List M6} {m n : M6} : n ∈ putM L m ↔ n = m ∨ n ∈ L := by
  unfold putM
  split
  · rename_i h
    exact ⟨.inr, fun h' => h'.elim (fun e => e ▸ h) id⟩
  · exact insM_mem
theorem putM_up {L : List M6} {m : M6} (hU : Up L) : Up (putM L m) := by
  unfold putM
  split
  · exact hU
  · rename_i h; exact insM_up hU h
/- a list is a group just if it is the closure of its reduced motions -/
theorem grp_len {f A B C : Int} {L : List M6} (h : grpB f A B C L = true) : L.length ≤ 768 := by
  have h0 := h
  unfold grpB at h
  simp only [Bool.and_eq_true, decide_eq_true_eq, List.all_eq_true, List.contains_iff_mem, beq_iff_eq] at h
  obtain ⟨hfl, h1, h2, _⟩ := h
  simp only [flB, Bool.and_eq_true] at hfl
  have hl := latB_iff.1 hfl.2
  exact good_len hfl.1 hl h2.nodup fun m hm => ⟨(okM_iff.1 (h1 m hm).1).2.1, (h1 m hm).2⟩
theorem grp_ok {f A B C : Int} {L : List M6} (h : grpB f A B C L = true) : flB f A B C = true ∧ (∀ m ∈ L, okM f A B C m = true ∧ redM A B C m = m) ∧ Up L := by
  unfold grpB at h
  simp only [Bool.and_eq_true, decide_eq_true_eq, List.all_eq_true, beq_iff_eq] at h
  exact ⟨h.1, h.2.1, h.2.2.1⟩
theorem grp_eq {f A B C : Int} (hfl : flB f A B C = true) {L L' : List M6} (hok : ∀ m ∈ L, okM f A B C m = true) (h : IsClos A B C (L.map (redM A B C)) L') : grpB f A B C L = decide (L' = L) := by
  rcases hd : decide (L' = L) with _ | _
  · rcases hg : grpB f A B C L with _ | _
    · rfl
    · exact absurd (clos_unique h ((grp_iff hfl hok).1 hg)) (by simpa using hd)
  · have e : L' = L := by simpa using hd
    rw [(grp_iff hfl hok).2 (e ▸ h)]
theorem grp_bad {f A B C : Int} {L : List M6} {m : M6} (hm : m ∈ L) (h : okM f A B C m = false) : grpB f A B C L = false := by
  rcases hg : grpB f A B C L with _ | _
  · rfl
  · have := ((grp_ok hg).2.1 m hm).1
    rw [h] at this; cases this
theorem grp_fl {f A B C : Int} {L : List M6} (h : flB f A B C = false) : grpB f A B C L = false := by simp [grpB, h]
end
end Go.Proofs.YtkfeajjpbmbmpaaGreatDoor

namespace Go.Proofs.YtkfeajjpbmbmpaaGreatDoor
section
set_option linter.unusedVariables false
set_option linter.unusedSimpArgs false

theorem has_yes {L : List M6} {m : M6} (hU : Up L) (h : plM L m < L.length) : decide (L[plM L m] = m) = decide (m ∈ L) := by
  rw [decide_eq_decide]
  exact ⟨fun e => by rw [← e]; exact List.getElem_mem h, fun hm => (plM_at hU hm).2⟩
theorem has_no {L : List M6} {m : M6} (hU : Up L) (h : ¬ plM L m < L.length) : decide (m ∈ L) = false := decide_eq_false fun hm => h (plM_at hU hm).1
/- the model's test of a group -/
structure Chk (f A B C : Int) (L : List M6) (k : Nat) : Prop where
  ok : ∀ m ∈ L.take k, okM f A B C m = true ∧ redM A B C m = m
  up : Up (L.take k)
theorem Chk.start (f A B C : Int) (L : List M6) : Chk f A B C L 0 := ⟨by simp, by simp [Up]⟩
theorem Chk.next {f A B C : Int} {L : List M6} {k : Nat} (h : Chk f A B C L k) (hk : k < L.length) (ho : okM f A B C L[k] = true) (hr : redM A B C L[k] = L[k]) (hu : ∀ (h0 : 0 < k), ltM (L[k - 1]'(by omega)) L[k] = true) : Chk f A B C L (k + 1) := by
  refine ⟨?_, ?_⟩
  · intro m hm
    rw [List.take_succ_eq_append_getElem hk] at hm
    rcases List.mem_append.1 hm with hm | hm
    · exact h.ok m hm
    · simp at hm; subst hm; exact ⟨ho, hr⟩
  · rw [List.take_succ_eq_append_getElem hk]
    refine List.pairwise_append.2 ⟨h.up, List.pairwise_singleton _ _, fun a ha b hb => ?_⟩
    simp at hb; subst hb
    obtain ⟨j, hj, rfl⟩ := List.mem_iff_getElem.1 ha
    have hj2 : j < k ∧ j < L.length := by rw [List.length_take] at hj; omega
    rw [List.getElem_take]
    by_cases e : j = k - 1
    · subst e; exact hu (by omega)
    · have h1 := List.pairwise_iff_getElem.1 h.up j (k - 1) hj (by rw [List.length_take]; omega) (by omega)
      rw [List.getElem_take, List.getElem_take] at h1
      exact ltM_trans h1 (hu (by omega))
theorem chk_ok {f A B C : Int} {L : List M6} {k : Nat} (hk : k < L.length) (h : okM f A B C L[k] = false) : grpB f A B C L = false := grp_bad (List.getElem_mem hk) h
theorem chk_red {f A B C : Int} {L : List M6} {k : Nat} (hk : k < L.length) (h : ¬ redM A B C L[k] = L[k]) : grpB f A B C L = false := by
  rcases hg : grpB f A B C L with _ | _
  · rfl
  · exact absurd ((grp_ok hg).2.1 _ (List.getElem_mem hk)).2 h
theorem chk_up {f A B C : Int} {L : List M6} {k : Nat} (hk : k < L.length) (h0 : 0 < k) (h : ltM (L[k - 1]'(by omega)) L[k] = false) : grpB f A B C L = false := by
  rcases hg : grpB f A B C L with _ | _
  · rfl
  · have := List.pairwise_iff_getElem.1 (grp_ok hg).2.2 (k - 1) k (by omega) hk (by omega)
    rw [h] at this; cases this
theorem grp_mem {f A B C : Int} {L : List M6} (h : grpB f A B C L = true) : oneM ∈ L ∧ ∀ m ∈ L, ∀ n ∈ L, mulM A B C m n ∈ L := by
  unfold grpB at h
  simp only [Bool.and_eq_true, decide_eq_true_eq, List.all_eq_true, List.contains_iff_mem, beq_iff_eq] at h
  exact ⟨h.2.2.2.1, h.2.2.2.2⟩
theorem chk_one {f A B C : Int} {L : List M6} (h : decide (oneM ∈ L) = false) : grpB f A B C L = false := by
  rcases hg : grpB f A B C L with _ | _
  · rfl
  · exact absurd (grp_mem hg).1 (of_decide_eq_false h)
theorem chk_mul {f A B C : Int} {L : List M6} {i k : Nat} (hi : i < L.length) (hk : k < L.length) (h : decide (mulM A B C L[i] L[k] ∈ L) = false) : grpB f A B C L = false := by
  rcases hg : grpB f A B C L with _ | _
  · rfl
  · exact absurd ((grp_mem hg).2 _ (List.getElem_mem hi) _ (List.getElem_mem hk)) (of_decide_eq_false h)
structure Muls (A B C : Int) (L : List M6) (i k : Nat) : Prop where
  done : ∀ (j : Nat) (hj : j < L.length), j < i → ∀ n ∈ L, mulM A B C L[j] n ∈ L
  part : ∀ (hi : i < L.length), ∀ n ∈ L.take k, mulM A B C L[i] n ∈ L
theorem Muls.start (A B C : Int) (L : List M6) : Muls A B C L 0 0 := ⟨fun j _ h => absurd h (by omega), fun _ n hn => by simp at hn⟩
theorem Muls.step {A B C : Int} {L : List M6} {i k : Nat} (h : Muls A B C L i k) (hi : i < L.length) (hk : k < L.length) (hm : decide (mulM A B C L[i] L[k] ∈ L) = true) : Muls A B C L i (k + 1) :=
  ⟨h.done, fun hi n hn => by
    rw [List.take_succ_eq_append_getElem hk] at hn
    rcases List.mem_append.1 hn with hn | hn
    · exact h.part hi n hn
    · simp at hn; subst hn; exact of_decide_eq_true hm⟩
theorem Muls.next {A B C : Int} {L : List M6} {i : Nat} (h : Muls A B C L i L.length) : Muls A B C L (i + 1) 0 :=
  ⟨fun j hj hji n hn => by
    by_cases e : j = i
    · subst e; exact h.part hj n (by rw [List.take_length]; exact hn)
    · exact h.done j hj (by omega) n hn, fun _ n hn => by simp at hn⟩
theorem chk_all {f A B C : Int} {L : List M6} {k : Nat} (hfl : flB f A B C = true) (h : Chk f A B C L L.length) (h1 : decide (oneM ∈ L) = true) (hm : Muls A B C L L.length k) : grpB f A B C L = true := by
  have ho := h.ok
  have hu := h.up
  rw [List.take_length] at ho hu
  unfold grpB
  simp only [Bool.and_eq_true, decide_eq_true_eq, List.all_eq_true, List.contains_iff_mem, beq_iff_eq]
  refine ⟨hfl, ho, hu, of_decide_eq_true h1, fun m hm' n hn => ?_⟩
  obtain ⟨j, hj, rfl⟩ := List.mem_iff_getElem.1 hm'
  exact hm.done j hj hj n hn
/- insertion -/
theorem put_old {L : List M6} {m : M6} (hU : Up L) (h : decide (m ∈ L) = true) : putM L m = L := by simp [putM, of_decide_eq_true h]
theorem put_new {L : List M6} {m : M6} (hU : Up L) (h : decide (m ∈ L) = false) : putM L m = L.take (plM L m) ++ [m] ++ L.drop (plM L m) := by
  have := of_decide_eq_false h
  simp [putM, this, insM]
theorem cells6_take (L : List M6) (n j : Nat) (u : Value) (h : (cells6 (L.take n))[j]? = some u) : (cells6 L)[j]? = some u := by
  have e : cells6 L = cells6 (L.take n) ++ cells6 (L.drop n) := by rw [← cells6_app, List.take_append_drop]
  have hj : j < (cells6 (L.take n)).length := (List.getElem?_eq_some_iff.1 h).1
  rw [e, List.getElem?_append_left hj]; exact h
theorem cells6_drop (L : List M6) (n j : Nat) (u : Value) (hn : n ≤ L.length) (h : (cells6 (L.drop n))[j]? = some u) : (cells6 L)[n * 6 + j]? = some u := by
  have e : cells6 L = cells6 (L.take n) ++ cells6 (L.drop n) := by rw [← cells6_app, List.take_append_drop]
  have hl : (cells6 (L.take n)).length = n * 6 := by rw [cells6_len, List.length_take]; congr 1; omega
  rw [e, List.getElem?_append_right (by omega), hl]
  rw [show n * 6 + j - n * 6 = j by omega]; exact h
theorem cells6_one (L : List M6) : ∀ u ∈ cells6 L, u.oneCell' = true := by
  intro u hu
  obtain ⟨z, rfl⟩ := cells6_int L u hu
  rfl
end
end Go.Proofs.YtkfeajjpbmbmpaaGreatDoor

