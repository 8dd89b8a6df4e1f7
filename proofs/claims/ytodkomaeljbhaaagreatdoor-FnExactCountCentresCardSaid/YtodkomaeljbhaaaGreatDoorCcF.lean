/-
  Plain facts of the centres of rotations (chapter 11): how many classes by the lattice there are. Conditions: those stated.
-/
import Derived.Test.YtodkomaeljbhaaaGreatDoorFaF
import Derived.Test.YtodkomaeljbhaaaGreatDoorGo
import Derived.Test.YtodkomaeljbhaaaGreatDoorGp
import Derived.Test.YtodkomaeljbhaaaGreatDoorIn7
import Derived.Test.YtodkomaeljbhaaaGreatDoorGg
namespace Go.Proofs.YtodkomaeljbhaaaGreatDoor
open Go.RowKit
set_option linter.unusedSimpArgs false
set_option linter.unusedVariables false

theorem latL_two {ux uy vx vy : Int} (h : ux * vy - uy * vx ≠ 0) (h64 : (ux * vy - uy * vx).natAbs ≤ 64) : ∃ A B C : Int, latI A B C ∧ A * C = ((ux * vy - uy * vx).natAbs : Int) ∧ inL A B C ux uy ∧ inL A B C vx vy := by
  obtain ⟨_, h2, h3, h4⟩ := two_facts ux uy vx vy h
  have hl := two_lat h (by rw [h2]; omega)
  have hC : (latL [(ux, uy), (vx, vy)]).2.2 ≠ 0 := by have := hl.2.1; omega
  exact ⟨_, _, _, hl, h2, (inL_iff hC _ _).1 h3, (inL_iff hC _ _).1 h4⟩
theorem cellP_memC {p q : Nat} {v : V2} : v ∈ cellP q p ↔ ((0 ≤ v.1 ∧ v.1 < (p : Int)) ∧ (0 ≤ v.2 ∧ v.2 < (q : Int))) := by
  unfold cellP cellR
  simp only [List.mem_flatMap, List.mem_range, List.mem_map]
  constructor
  · rintro ⟨a, ha, b, hb, rfl⟩
    simp only
    omega
  · rintro ⟨⟨h1, h2⟩, h3, h4⟩
    exact ⟨v.1.toNat, by omega, v.2.toNat, by omega, Prod.ext (by simp only; omega) (by simp only; omega)⟩
theorem cellP_nodupC (q : Nat) : ∀ p, (cellP q p).Nodup
  | 0 => by simp [cellP]
  | p + 1 => by
    rw [cellP_succ]
    refine List.nodup_append.2 ⟨cellP_nodupC q p, ?_, ?_⟩
    · unfold cellR
      refine List.pairwise_map.2 (List.nodup_range.imp fun {a b} hab e => hab ?_)
      simp only [Prod.mk.injEq, true_and] at e
      omega
    · intro a ha b hb e
      subst e
      have h1 := cellP_memC.1 ha
      unfold cellR at hb
      obtain ⟨j, _, rfl⟩ := List.mem_map.1 hb
      simp only at h1
      omega
theorem grp_nodupC {f A B C : Int} {G : List M6} (h : grpB f A B C G = true) : G.Nodup := (grp_ok h).2.2.nodup
/- a sublattice that contains a basis with the lattice's own determinant is the lattice -/
theorem same_span {A B C ux uy vx vy : Int} (hl : latI A B C) (hu : inL A B C ux uy) (hv : inL A B C vx vy) (hd : ux * vy - uy * vx = A * C ∨ ux * vy - uy * vx = -(A * C)) {x y : Int} (h : inL A B C x y) : ∃ m n : Int, x = m * ux + n * vx ∧ y = m * uy + n * vy := by
  obtain ⟨hA, hC, _⟩ := hl
  have hAC : 0 < A * C := Int.mul_pos (by omega) (by omega)
  obtain ⟨i, j, rfl, rfl⟩ := hu
  obtain ⟨k, l, rfl, rfl⟩ := hv
  obtain ⟨s, t, rfl, rfl⟩ := h
  have e : (i * A + j * B) * (l * C) - j * C * (k * A + l * B) = (i * l - j * k) * (A * C) := by grind
  rw [e] at hd
  have hD : i * l - j * k = 1 ∨ i * l - j * k = -1 := by
    rcases hd with hd | hd
    · left; exact Int.eq_of_mul_eq_mul_right (show A * C ≠ 0 by omega) (by rw [hd]; omega)
    · right; exact Int.eq_of_mul_eq_mul_right (show A * C ≠ 0 by omega) (by rw [hd]; omega)
  rcases hD with hD | hD
  · refine ⟨s * l - t * k, t * i - s * j, ?_, ?_⟩
    · have : (s * l - t * k) * (i * A + j * B) + (t * i - s * j) * (k * A + l * B) = (i * l - j * k) * (s * A + t * B) := by grind
      rw [this, hD]; omega
    · have : (s * l - t * k) * (j * C) + (t * i - s * j) * (l * C) = (i * l - j * k) * (t * C) := by grind
      rw [this, hD]; omega
  · refine ⟨-(s * l - t * k), -(t * i - s * j), ?_, ?_⟩
    · have : -(s * l - t * k) * (i * A + j * B) + -(t * i - s * j) * (k * A + l * B) = -((i * l - j * k) * (s * A + t * B)) := by grind
      rw [this, hD]; omega
    · have : -(s * l - t * k) * (j * C) + -(t * i - s * j) * (l * C) = -((i * l - j * k) * (t * C)) := by grind
      rw [this, hD]; omega
/- a rotation, and the lattice to whose vectors the unit minus it takes those of the lattice -/
structure Rot (A B C a b c d : Int) (D : Nat) : Prop where
  lat : latI A B C
  stab : stabQ A B C a b c d
  det : a * d - b * c = 1
  tr : 2 - (a + d) = D
  pos : 1 ≤ D
  small : D ≤ 4
def offV (a b c d x y : Int) : V2 := (x - (a * x + b * y), y - (c * x + d * y))
def Klat (A B C a b c d x y : Int) : Prop := ∃ u v, inL A B C u v ∧ x = u - (a * u + b * v) ∧ y = v - (c * u + d * v)
theorem klat_iff {A B C a b c d : Int} {D : Nat} (h : Rot A B C a b c d D) (x y : Int) : Klat A B C a b c d x y ↔ inL (D * A) (D * B) (D * C) (ceX a b c d x y) (ceY a b c d x y) := by
  have hd := h.det
  have ht := h.tr
  have hp := h.pos
  unfold ceX ceY
  constructor
  · rintro ⟨u, v, ⟨i, j, rfl, rfl⟩, rfl, rfl⟩
    refine ⟨i, j, ?_, ?_⟩
    · have : i * (↑D * A) + j * (↑D * B) = D * (i * A + j * B) := by grind
      rw [this, ← ht]
      grind
    · have : j * (↑D * C) = D * (j * C) := by grind
      rw [this, ← ht]
      grind
  · rintro ⟨i, j, h1, h2⟩
    have e1 : (1 - d) * x + b * y = D * (i * A + j * B) := by rw [h1]; grind
    have e2 : (1 - a) * y + c * x = D * (j * C) := by rw [h2]; grind
    refine ⟨i * A + j * B, j * C, ⟨i, j, rfl, rfl⟩, ?_, ?_⟩
    · refine Int.eq_of_mul_eq_mul_left (show (D : Int) ≠ 0 by omega) ?_
      have : (D : Int) * (i * A + j * B - (a * (i * A + j * B) + b * (j * C))) = (1 - a) * (D * (i * A + j * B)) - b * (D * (j * C)) := by grind
      rw [this, ← e1, ← e2, ← ht]
      grind
    · refine Int.eq_of_mul_eq_mul_left (show (D : Int) ≠ 0 by omega) ?_
      have : (D : Int) * (j * C - (c * (i * A + j * B) + d * (j * C))) = (1 - d) * (D * (j * C)) - c * (D * (i * A + j * B)) := by grind
      rw [this, ← e1, ← e2, ← ht]
      grind
theorem klat_sub {A B C a b c d x y x' y' : Int} (h : Klat A B C a b c d x y) (h' : Klat A B C a b c d x' y') : Klat A B C a b c d (x - x') (y - y') := by
  obtain ⟨u, v, h1, rfl, rfl⟩ := h
  obtain ⟨u', v', h2, rfl, rfl⟩ := h'
  refine ⟨u - u', v - v', ?_, by grind, by grind⟩
  have := inL_add h1 (inL_mul (-1) h2)
  have e1 : u + -1 * u' = u - u' := by omega
  have e2 : v + -1 * v' = v - v' := by omega
  rwa [e1, e2] at this
theorem klat_in {A B C a b c d x y : Int} (hs : stabQ A B C a b c d) (h : Klat A B C a b c d x y) : inL A B C x y := by
  obtain ⟨u, v, h1, rfl, rfl⟩ := h
  have := inL_add h1 (inL_mul (-1) (stab_all hs h1))
  have e1 : u + -1 * (a * u + b * v) = u - (a * u + b * v) := by omega
  have e2 : v + -1 * (c * u + d * v) = v - (c * u + d * v) := by omega
  rwa [e1, e2] at this
theorem klat_mul {A B C a b c d : Int} {D : Nat} (h : Rot A B C a b c d D) {x y : Int} (hv : inL A B C x y) : Klat A B C a b c d (D * x) (D * y) := by
  refine (klat_iff h _ _).2 ?_
  have h1 := stab_all h.stab hv
  have hd := h.det
  have ht := h.tr
  have h2 : inL A B C (ceX a b c d x y) (ceY a b c d x y) := by
    have := inL_add (inL_mul (1 - (a + d)) hv) h1
    have e1 : (1 - (a + d)) * x + (a * x + b * y) = ceX a b c d x y := by unfold ceX; grind
    have e2 : (1 - (a + d)) * y + (c * x + d * y) = ceY a b c d x y := by unfold ceY; grind
    rwa [e1, e2] at this
  obtain ⟨i, j, e1, e2⟩ := h2
  refine ⟨i, j, ?_, ?_⟩
  · have : ceX a b c d (↑D * x) (↑D * y) = D * ceX a b c d x y := by unfold ceX; grind
    rw [this, e1]; grind
  · have : ceY a b c d (↑D * x) (↑D * y) = D * ceY a b c d x y := by unfold ceY; grind
    rw [this, e2]; grind
/- the representatives: D vectors of the lattice, one of each class by Klat -/
theorem reps_ex {A B C a b c d : Int} {D : Nat} (h : Rot A B C a b c d D) : ∃ R : List V2, R.length = D ∧ R.Nodup ∧ (∀ r ∈ R, inL A B C r.1 r.2) ∧
    (∀ r ∈ R, ∀ s ∈ R, Klat A B C a b c d (r.1 - s.1) (r.2 - s.2) → r = s) ∧ ∀ x y, inL A B C x y → ∃ r ∈ R, Klat A B C a b c d (x - r.1) (y - r.2) := by
  obtain ⟨hA, hC, _⟩ := h.lat
  have hAC : 0 < A * C := Int.mul_pos (by omega) (by omega)
  have hpos := h.pos
  have hd := h.det
  have ht := h.tr
  obtain ⟨⟨i, j, s1, s2⟩, k, l, s3, s4⟩ := h.stab
  have hdet : i * l - j * k = 1 := by
    have e : (i * l - j * k) * (A * C) = (i * A + j * B) * (l * C) - (k * A + l * B) * (j * C) := by grind
    rw [← s1, ← s2, ← s3, ← s4] at e
    have e2 : a * A * (c * B + d * C) - (a * B + b * C) * (c * A) = (a * d - b * c) * (A * C) := by grind
    rw [e2, hd] at e
    exact Int.eq_of_mul_eq_mul_right (show A * C ≠ 0 by omega) (by rw [e])
  have htr : i + l = a + d := by
    have e : (i + l) * (A * C) = (i * A + j * B) * C + (l * C * A - j * C * B) := by grind
    rw [← s1, ← s4, ← s2] at e
    have e2 : a * A * C + ((c * B + d * C) * A - c * A * B) = (a + d) * (A * C) := by grind
    rw [e2] at e
    exact Int.eq_of_mul_eq_mul_right (show A * C ≠ 0 by omega) e
  have hN : (1 - i) * (1 - l) - -j * -k = D := by
    have : (1 - i) * (1 - l) - -j * -k = 1 - (i + l) + (i * l - j * k) := by grind
    rw [this, hdet, htr]; omega
  obtain ⟨A', B', C', hl', hi', hu', hv'⟩ := latL_two (ux := 1 - i) (uy := -j) (vx := -k) (vy := 1 - l) (by rw [hN]; omega) (by rw [hN]; have := h.small; omega)
  rw [hN] at hi'
  have hi' : A' * C' = D := by omega
  obtain ⟨hA', hC', _⟩ := id hl'
  have kl : ∀ m n : Int, Klat A B C a b c d (m * A + n * B) (n * C) ↔ inL A' B' C' m n := by
    intro m n
    constructor
    · rintro ⟨u, v, ⟨x, y, rfl, rfl⟩, h1, h2⟩
      have e2 : n = y - (x * j + y * l) := by
        refine Int.eq_of_mul_eq_mul_right (show C ≠ 0 by omega) ?_
        have : (y - (x * j + y * l)) * C = y * C - (x * (j * C) + y * (l * C)) := by grind
        rw [this, h2, ← s2, ← s4]; grind
      have e1 : m = x - (x * i + y * k) := by
        refine Int.eq_of_mul_eq_mul_right (show A ≠ 0 by omega) ?_
        have t1 : m * A = x * A + y * B - (a * (x * A + y * B) + b * (y * C)) - n * B := by omega
        have t2 : (x - (x * i + y * k)) * A = x * A - (x * (i * A + j * B) + y * (k * A + l * B)) + (x * j + y * l) * B := by grind
        rw [t1, t2, ← s1, ← s3, e2]; grind
      have := inL_add (inL_mul x hu') (inL_mul y hv')
      rw [e1, e2]
      have q1 : x * (1 - i) + y * -k = x - (x * i + y * k) := by grind
      have q2 : x * -j + y * (1 - l) = y - (x * j + y * l) := by grind
      rwa [q1, q2] at this
    · intro hm
      obtain ⟨x, y, h1, h2⟩ := same_span hl' hu' hv' (by left; rw [hN, hi']) hm
      refine ⟨x * A + y * B, y * C, ⟨x, y, rfl, rfl⟩, ?_, ?_⟩
      · have t2 : x * A + y * B - (a * (x * A + y * B) + b * (y * C)) = x * A + y * B - (x * (a * A) + y * (a * B + b * C)) := by grind
        rw [t2, s1, s3, h1, h2]; grind
      · have t2 : y * C - (c * (x * A + y * B) + d * (y * C)) = y * C - (x * (c * A) + y * (c * B + d * C)) := by grind
        rw [t2, s2, s4, h2]; grind
  obtain ⟨p, rfl⟩ := Int.eq_ofNat_of_zero_le (show 0 ≤ A' by omega)
  obtain ⟨q, rfl⟩ := Int.eq_ofNat_of_zero_le (show 0 ≤ C' by omega)
  have inj : ∀ m n m' n' : Int, m * A + n * B = m' * A + n' * B → n * C = n' * C → m = m' ∧ n = n' := by
    intro m n m' n' h1 h2
    have := Int.eq_of_mul_eq_mul_right (show C ≠ 0 by omega) h2
    subst this
    exact ⟨Int.eq_of_mul_eq_mul_right (show A ≠ 0 by omega) (by omega), rfl⟩
  refine ⟨(cellP q p).map fun v => (v.1 * A + v.2 * B, v.2 * C), ?_, ?_, ?_, ?_, ?_⟩
  · rw [List.length_map, cellP_len]
    exact_mod_cast hi'
  · refine List.pairwise_map.2 ((cellP_nodupC q p).imp fun {v w} hvw e => hvw ?_)
    simp only [Prod.mk.injEq] at e
    obtain ⟨e1, e2⟩ := inj _ _ _ _ e.1 e.2
    exact Prod.ext e1 e2
  · intro r hr
    obtain ⟨v, _, rfl⟩ := List.mem_map.1 hr
    exact ⟨v.1, v.2, rfl, rfl⟩
  · intro r hr s hs hk
    obtain ⟨v, hv, rfl⟩ := List.mem_map.1 hr
    obtain ⟨w, hw, rfl⟩ := List.mem_map.1 hs
    have q1 : v.1 * A + v.2 * B - (w.1 * A + w.2 * B) = (v.1 - w.1) * A + (v.2 - w.2) * B := by grind
    have q2 : v.2 * C - w.2 * C = (v.2 - w.2) * C := by grind
    simp only [q1, q2] at hk
    have := (red_same hl').2 ((kl _ _).1 hk)
    obtain ⟨v1, v2⟩ := cellP_memC.1 hv
    obtain ⟨w1, w2⟩ := cellP_memC.1 hw
    obtain ⟨r1, r2⟩ := red_cell (B := B') v1.1 v1.2 v2.1 v2.2
    obtain ⟨r3, r4⟩ := red_cell (B := B') w1.1 w1.2 w2.1 w2.2
    rw [r1, r2, r3, r4] at this
    rw [Prod.ext this.1 this.2]
  · rintro x y ⟨m, n, rfl, rfl⟩
    have h1 := red_off hl' m n
    have hb1 := redX_bd (x := m) (y := n) hl'
    have hb2 := redY_bd (y := n) hl'
    refine ⟨_, List.mem_map.2 ⟨(redX p B' q m n, redY q n), cellP_memC.2 ⟨hb1, hb2⟩, rfl⟩, ?_⟩
    have q1 : m * A + n * B - (redX p B' q m n * A + redY q n * B) = (-(redX p B' q m n - m)) * A + (-(redY q n - n)) * B := by grind
    have q2 : n * C - redY q n * C = (-(redY q n - n)) * C := by grind
    simp only [q1, q2]
    exact (kl _ _).2 (inL_neg h1)

/- what was said of reduced shifts, for greater lattices -/
theorem red_same12 {A B C x y x' y' : Int} (hA : 1 ≤ A) (hC : 1 ≤ C) : (redX A B C x y = redX A B C x' y' ∧ redY C y = redY C y') ↔ inL A B C (x - x') (y - y') := by
  have hC0 : C ≠ 0 := by omega
  unfold redX redY
  constructor
  · rintro ⟨h1, h2⟩
    have d1 : C ∣ y - y' := Int.dvd_of_emod_eq_zero (Int.emod_eq_emod_iff_emod_sub_eq_zero.1 h2)
    have d2 : A ∣ (x - y / C * B) - (x' - y' / C * B) := Int.dvd_of_emod_eq_zero (Int.emod_eq_emod_iff_emod_sub_eq_zero.1 h1)
    obtain ⟨k, hk⟩ := d2
    have e1 := Int.mul_ediv_add_emod y C
    have e2 := Int.mul_ediv_add_emod y' C
    refine ⟨k, y / C - y' / C, ?_, ?_⟩
    · have : k * A = A * k := Int.mul_comm _ _
      rw [this, ← hk]; grind
    · have : (y / C - y' / C) * C = C * (y / C) - C * (y' / C) := by grind
      rw [this]; omega
  · rintro ⟨p, q, h1, h2⟩
    have hy : y = y' + q * C := by omega
    have hq : y / C = y' / C + q := by rw [hy, Int.add_mul_ediv_right _ _ hC0]
    constructor
    · refine Int.emod_eq_emod_iff_emod_sub_eq_zero.2 (Int.emod_eq_zero_of_dvd ⟨p, ?_⟩)
      rw [hq]
      have : x = x' + (p * A + q * B) := by omega
      rw [this]; grind
    · rw [hy, Int.add_mul_emod_self_right]
/- the class of the centre of a rotation with a shift: twelve times the centre, reduced -/
def clsV (A B C a b c d x y : Int) : V2 := (redX (12 * A) (12 * B) (12 * C) (12 / (2 - (a + d)) * ceX a b c d x y) (12 / (2 - (a + d)) * ceY a b c d x y), redY (12 * C) (12 / (2 - (a + d)) * ceY a b c d x y))
theorem cls_iff {A B C a b c d : Int} {D : Nat} (h : Rot A B C a b c d D) (x y x' y' : Int) : clsV A B C a b c d x y = clsV A B C a b c d x' y' ↔ Klat A B C a b c d (x - x') (y - y') := by
  have hA := h.lat.1
  have hC := h.lat.2.1
  rw [klat_iff h]
  obtain ⟨t, ht, htD⟩ : ∃ t : Int, 12 / (2 - (a + d)) = t ∧ t * D = 12 := by
    refine ⟨_, rfl, ?_⟩
    rw [h.tr]
    have h1 := h.pos
    have h2 := h.small
    have : D = 1 ∨ D = 2 ∨ D = 3 ∨ D = 4 := by omega
    rcases this with rfl | rfl | rfl | rfl <;> rfl
  unfold clsV
  rw [ht, Prod.mk.injEq, red_same12 (by omega) (by omega)]
  have e1 : t * ceX a b c d x y - t * ceX a b c d x' y' = t * ceX a b c d (x - x') (y - y') := by unfold ceX; grind
  have e2 : t * ceY a b c d x y - t * ceY a b c d x' y' = t * ceY a b c d (x - x') (y - y') := by unfold ceY; grind
  rw [e1, e2]
  have ht0 : t ≠ 0 := by rintro rfl; omega
  constructor
  · rintro ⟨i, j, h1, h2⟩
    refine ⟨i, j, Int.eq_of_mul_eq_mul_left ht0 ?_, Int.eq_of_mul_eq_mul_left ht0 ?_⟩
    · rw [h1, ← htD]; grind
    · rw [h2, ← htD]; grind
  · rintro ⟨i, j, h1, h2⟩
    refine ⟨i, j, ?_, ?_⟩
    · rw [h1, ← htD]; grind
    · rw [h2, ← htD]; grind
/- the way back has the same centre -/
theorem cls_back {A B C a b c d : Int} (hd : a * d - b * c = 1) (x y : Int) : clsV A B C d (-b) (-c) a x y = clsV A B C a b c d (-(a * x + b * y)) (-(c * x + d * y)) := by
  have e1 : ceX d (-b) (-c) a x y = ceX a b c d (-(a * x + b * y)) (-(c * x + d * y)) := by unfold ceX; grind
  have e2 : ceY d (-b) (-c) a x y = ceY a b c d (-(a * x + b * y)) (-(c * x + d * y)) := by unfold ceY; grind
  unfold clsV
  rw [e1, e2, Int.add_comm d a]
/- rotations of one frame with the same trace -/
def rotOk (f : Int) (m n : M4) : Bool :=
  !(keepB f m.1 m.2.1 m.2.2.1 m.2.2.2 && keepB f n.1 n.2.1 n.2.2.1 n.2.2.2 && m.1 * m.2.2.2 - m.2.1 * m.2.2.1 == 1 && n.1 * n.2.2.2 - n.2.1 * n.2.2.1 == 1 && m.1 + m.2.2.2 == n.1 + n.2.2.2) ||
    (n == m || n == (m.2.2.2, -m.2.1, -m.2.2.1, m.1))
theorem rots_dec : ((List.range 81).all fun j => (List.range 81).all fun k => [(0 : Int), 1].all fun f => rotOk f (decM j) (decM k)) = true := by decide +kernel
theorem rots_same {f a b c d a' b' c' d' : Int} (hf : frB f = true) (h : keepB f a b c d = true) (h' : keepB f a' b' c' d' = true) (hd : a * d - b * c = 1) (hd' : a' * d' - b' * c' = 1) (ht : a + d = a' + d') :
    (a' = a ∧ b' = b ∧ c' = c ∧ d' = d) ∨ (a' = d ∧ b' = -b ∧ c' = -c ∧ d' = a) := by
  obtain ⟨j, hj, ej⟩ := decM_of (keep_small hf h)
  obtain ⟨k, hk, ek⟩ := decM_of (keep_small hf h')
  have hff : f ∈ [(0 : Int), 1] := by simpa [frB] using hf
  have := rots_dec
  simp only [List.all_eq_true] at this
  have := this j (List.mem_range.2 hj) k (List.mem_range.2 hk) f hff
  rw [ej, ek] at this
  simp [rotOk, h, h', hd, hd', ht] at this
  exact this
theorem shP_mem {G : List M6} {s : V2} : s ∈ shP G ↔ (1, 0, 0, 1, s.1, s.2) ∈ G := by
  unfold shP
  constructor
  · intro h
    obtain ⟨m, hm, rfl⟩ := List.mem_map.1 h
    obtain ⟨h1, h2⟩ := List.mem_filter.1 hm
    obtain ⟨a, b, c, d, x, y⟩ := m
    simp only [isOne, eqM, Bool.and_eq_true, beq_iff_eq] at h2
    obtain ⟨⟨⟨rfl, rfl⟩, rfl⟩, rfl⟩ := h2
    exact h1
  · intro h
    exact List.mem_map.2 ⟨_, List.mem_filter.2 ⟨h, by simp [isOne, eqM]⟩, rfl⟩
theorem shP_nodup {G : List M6} (h : G.Nodup) : (shP G).Nodup := by
  unfold shP
  refine List.pairwise_map.2 (List.Pairwise.imp_of_mem (fun {m n} hm hn hmn e => hmn ?_) (h.sublist List.filter_sublist))
  have h1 := (List.mem_filter.1 hm).2
  have h2 := (List.mem_filter.1 hn).2
  obtain ⟨a, b, c, d, x, y⟩ := m
  obtain ⟨a', b', c', d', x', y'⟩ := n
  simp only [isOne, eqM, Bool.and_eq_true, beq_iff_eq] at h1 h2
  simp only [Prod.mk.injEq] at e
  obtain ⟨⟨⟨rfl, rfl⟩, rfl⟩, rfl⟩ := h1
  obtain ⟨⟨⟨rfl, rfl⟩, rfl⟩, rfl⟩ := h2
  obtain ⟨rfl, rfl⟩ := e
  rfl
theorem redM_in {A B C a b c d x y a' b' c' d' x' y' : Int} (hl : latI A B C) (h : redM A B C (a, b, c, d, x, y) = (a', b', c', d', x', y')) : a = a' ∧ b = b' ∧ c = c' ∧ d = d' ∧ inL A B C (x' - x) (y' - y) := by
  simp only [redM, Prod.mk.injEq] at h
  obtain ⟨h1, h2, h3, h4, h5, h6⟩ := h
  refine ⟨h1, h2, h3, h4, ?_⟩
  rw [← h5, ← h6]
  exact red_off hl x y
theorem cell_same {A B C x y x' y' : Int} (hl : latI A B C) (h1 : redX A B C x y = x ∧ redY C y = y) (h2 : redX A B C x' y' = x' ∧ redY C y' = y') (h : inL A B C (x - x') (y - y')) : x = x' ∧ y = y' := by
  have := (red_same hl).2 h
  omega
/- motions of a group with one matrix differ by its shifts -/
theorem grp_shift {f A B C a b c d x y x' y' : Int} {G : List M6} (hG : grpB f A B C G = true) (hd : a * d - b * c = 1) (h : (a, b, c, d, x, y) ∈ G) (h' : (a, b, c, d, x', y') ∈ G) :
    ∃ s ∈ shP G, inL A B C (x' - (x + s.1)) (y' - (y + s.2)) := by
  obtain ⟨hl, hf, hR⟩ := grp_good hG
  obtain ⟨⟨n1, n2, n3, n4, u, v⟩, hn, he⟩ := grp_inv hG h
  obtain ⟨e1, e2, e3, e4, e5⟩ := redM_in hl he
  simp only at e1 e2 e3 e4 e5
  have k1 : n1 = d := by
    have : n1 * (a * d - b * c) = d * (n1 * a + n2 * c) - c * (n1 * b + n2 * d) := by grind
    rw [hd, e1, e2] at this; omega
  have k2 : n2 = -b := by
    have : n2 * (a * d - b * c) = a * (n1 * b + n2 * d) - b * (n1 * a + n2 * c) := by grind
    rw [hd, e1, e2] at this; omega
  have k3 : n3 = -c := by
    have : n3 * (a * d - b * c) = d * (n3 * a + n4 * c) - c * (n3 * b + n4 * d) := by grind
    rw [hd, e3, e4] at this; omega
  have k4 : n4 = a := by
    have : n4 * (a * d - b * c) = a * (n3 * b + n4 * d) - b * (n3 * a + n4 * c) := by grind
    rw [hd, e3, e4] at this; omega
  rw [k1, k2, k3, k4] at hn
  rw [k1, k2, k3, k4] at e5
  clear e1 e2 e3 e4 k1 k2 k3 k4
  have hm := (grp_mem2 hG).2 _ h' _ hn
  obtain ⟨s1, s2, s3, s4, s5, s6, hs⟩ : ∃ s1 s2 s3 s4 s5 s6, mulM A B C (a, b, c, d, x', y') (d, -b, -c, a, u, v) = (s1, s2, s3, s4, s5, s6) := ⟨_, _, _, _, _, _, rfl⟩
  rw [hs] at hm
  obtain ⟨q1, q2, q3, q4, q5⟩ := redM_in hl hs
  simp only at q1 q2 q3 q4 q5
  have z1 : s1 = 1 := by rw [← q1, ← hd]; grind
  have z2 : s2 = 0 := by rw [← q2]; grind
  have z3 : s3 = 0 := by rw [← q3]; grind
  have z4 : s4 = 1 := by rw [← q4, ← hd]; grind
  subst z1 z2 z3 z4
  refine ⟨(s5, s6), shP_mem.2 hm, ?_⟩
  have w1 := stab_all (hR _ h).1.2 e5
  simp only at w1
  have w2 := inL_add (inL_neg q5) w1
  have g1 : -(s5 - (a * u + b * v + x')) + (a * (0 - (d * x + -b * y + u)) + b * (0 - (-c * x + a * y + v))) = x' - (x + s5) := by
    have : a * (0 - (d * x + -b * y + u)) + b * (0 - (-c * x + a * y + v)) = -((a * d - b * c) * x) - (a * u + b * v) := by grind
    rw [this, hd]; omega
  have g2 : -(s6 - (c * u + d * v + y')) + (c * (0 - (d * x + -b * y + u)) + d * (0 - (-c * x + a * y + v))) = y' - (y + s6) := by
    have : c * (0 - (d * x + -b * y + u)) + d * (0 - (-c * x + a * y + v)) = -((a * d - b * c) * y) - (c * u + d * v) := by grind
    rw [this, hd]; omega
  rwa [g1, g2] at w2
/- and the other way round -/
theorem grp_shifted {f A B C a b c d x y : Int} {G : List M6} (hG : grpB f A B C G = true) (h : (a, b, c, d, x, y) ∈ G) {s : V2} (hs : s ∈ shP G) :
    ∃ x' y', (a, b, c, d, x', y') ∈ G ∧ inL A B C (x' - (x + s.1)) (y' - (y + s.2)) := by
  obtain ⟨hl, hf, hR⟩ := grp_good hG
  have hm := (grp_mem2 hG).2 _ (shP_mem.1 hs) _ h
  obtain ⟨s1, s2, s3, s4, s5, s6, he⟩ : ∃ s1 s2 s3 s4 s5 s6, mulM A B C (1, 0, 0, 1, s.1, s.2) (a, b, c, d, x, y) = (s1, s2, s3, s4, s5, s6) := ⟨_, _, _, _, _, _, rfl⟩
  rw [he] at hm
  obtain ⟨q1, q2, q3, q4, q5⟩ := redM_in hl he
  simp only [Int.one_mul, Int.zero_mul, Int.add_zero, Int.zero_add] at q1 q2 q3 q4 q5
  subst q1 q2 q3 q4
  exact ⟨s5, s6, hm, q5⟩
theorem grp_back {f A B C a b c d x y : Int} {G : List M6} (hG : grpB f A B C G = true) (hd : a * d - b * c = 1) (h : (d, -b, -c, a, x, y) ∈ G) :
    ∃ u v, (a, b, c, d, u, v) ∈ G ∧ inL A B C (u - -(a * x + b * y)) (v - -(c * x + d * y)) := by
  obtain ⟨hl, hf, hR⟩ := grp_good hG
  obtain ⟨⟨n1, n2, n3, n4, u, v⟩, hn, he⟩ := grp_inv hG h
  obtain ⟨e1, e2, e3, e4, e5⟩ := redM_in hl he
  simp only at e1 e2 e3 e4 e5
  have k1 : n1 = a := by
    have : n1 * (a * d - b * c) = a * (n1 * d + n2 * -c) + c * (n1 * -b + n2 * a) := by grind
    rw [hd, e1, e2] at this; omega
  have k2 : n2 = b := by
    have : n2 * (a * d - b * c) = d * (n1 * -b + n2 * a) + b * (n1 * d + n2 * -c) := by grind
    rw [hd, e1, e2] at this; omega
  have k3 : n3 = c := by
    have : n3 * (a * d - b * c) = a * (n3 * d + n4 * -c) + c * (n3 * -b + n4 * a) := by grind
    rw [hd, e3, e4] at this; omega
  have k4 : n4 = d := by
    have : n4 * (a * d - b * c) = d * (n3 * -b + n4 * a) + b * (n3 * d + n4 * -c) := by grind
    rw [hd, e3, e4] at this; omega
  subst k1 k2 k3 k4
  refine ⟨u, v, hn, ?_⟩
  have w := inL_neg e5
  have g1 : -(0 - (n1 * x + n2 * y + u)) = u - -(n1 * x + n2 * y) := by omega
  have g2 : -(0 - (n3 * x + n4 * y + v)) = v - -(n3 * x + n4 * y) := by omega
  rwa [g1, g2] at w
/- the model's list of classes -/
def shf (A B C : Int) (k : Nat) : V2 := (((k % 12 : Nat) : Int) * A + ((k / 12 : Nat) : Int) * B, ((k / 12 : Nat) : Int) * C)
def clsL (A B C : Int) (m : M6) : List V2 := (List.range 144).map fun k => clsV A B C m.1 m.2.1 m.2.2.1 m.2.2.2.1 (m.2.2.2.2.1 + (shf A B C k).1) (m.2.2.2.2.2 + (shf A B C k).2)
theorem flat_nodup {α β : Type} {L : List α} {g : α → List β} (h : L.Nodup) (h1 : ∀ a ∈ L, (g a).Nodup) (h2 : ∀ a ∈ L, ∀ b ∈ L, ∀ z, z ∈ g a → z ∈ g b → a = b) : (L.flatMap g).Nodup := by
  induction L with
  | nil => exact List.nodup_nil
  | cons a L ih =>
    obtain ⟨k1, k2⟩ := List.nodup_cons.1 h
    rw [List.flatMap_cons]
    refine List.nodup_append.2 ⟨h1 a (by simp), ih k2 (fun b hb => h1 b (by simp [hb])) (fun b hb c hc => h2 b (by simp [hb]) c (by simp [hc])), ?_⟩
    rintro z hz w hw rfl
    obtain ⟨b, hb, hw⟩ := List.mem_flatMap.1 hw
    have := h2 a (by simp) b (by simp [hb]) z hz hw
    subst this
    exact k1 hb
theorem flat_len {α β : Type} (g : α → List β) (n : Nat) : ∀ l : List α, (∀ x ∈ l, (g x).length = n) → (l.flatMap g).length = l.length * n
  | [], _ => by simp
  | a :: l, h => by
    rw [List.flatMap_cons, List.length_append, h a (by simp), flat_len g n l fun x hx => h x (by simp [hx])]
    simp [Nat.succ_mul]; omega
theorem centres_len {f A B C a b c d x y : Int} {D : Nat} {G R : List M6} (hG : grpB f A B C G = true) (hm : (a, b, c, d, x, y) ∈ G) (h : Rot A B C a b c d D)
    (hR : ∀ m, m ∈ R ↔ m ∈ G ∧ m.1 * m.2.2.2.1 - m.2.1 * m.2.2.1 = 1 ∧ m.1 + m.2.2.2.1 = a + d) {X : List V2} (hX : X.Nodup) (hmem : ∀ z, z ∈ X ↔ z ∈ R.flatMap (clsL A B C)) :
    X.length = D * (shP G).length := by
  obtain ⟨hl, hf, hgood⟩ := grp_good hG
  have hd := h.det
  obtain ⟨Q, q1, q2, q3, q4, q5⟩ := reps_ex h
  have cong : ∀ {p q p' q' : Int}, Klat A B C a b c d (p - p') (q - q') → clsV A B C a b c d p q = clsV A B C a b c d p' q' := fun hk => (cls_iff h _ _ _ _).2 hk
  let T : List V2 := (shP G).flatMap fun s => Q.map fun r => clsV A B C a b c d (x + s.1 + r.1) (y + s.2 + r.2)
  have hTl : T.length = (shP G).length * D := flat_len _ D _ fun s _ => by rw [List.length_map, q1]
  have redS : ∀ s ∈ shP G, redX A B C s.1 s.2 = s.1 ∧ redY C s.2 = s.2 := by
    intro s hs
    have := (hgood _ (shP_mem.1 hs)).2
    simp only [redM, Prod.mk.injEq, true_and] at this
    exact this
  have same : ∀ s ∈ shP G, ∀ s' ∈ shP G, ∀ r ∈ Q, ∀ r' ∈ Q, clsV A B C a b c d (x + s.1 + r.1) (y + s.2 + r.2) = clsV A B C a b c d (x + s'.1 + r'.1) (y + s'.2 + r'.2) → s = s' ∧ r = r' := by
    intro s hs s' hs' r hr r' hr' he
    have hk := (cls_iff h _ _ _ _).1 he
    have hi := klat_in h.stab hk
    have e1 : s = s' := by
      have w := inL_add hi (inL_add (inL_neg (q3 r hr)) (q3 r' hr'))
      have g1 : x + s.1 + r.1 - (x + s'.1 + r'.1) + (-r.1 + r'.1) = s.1 - s'.1 := by omega
      have g2 : y + s.2 + r.2 - (y + s'.2 + r'.2) + (-r.2 + r'.2) = s.2 - s'.2 := by omega
      rw [g1, g2] at w
      obtain ⟨k1, k2⟩ := cell_same hl (redS s hs) (redS s' hs') w
      exact Prod.ext k1 k2
    subst e1
    refine ⟨rfl, q4 r hr r' hr' ?_⟩
    have g1 : x + s.1 + r.1 - (x + s.1 + r'.1) = r.1 - r'.1 := by omega
    have g2 : y + s.2 + r.2 - (y + s.2 + r'.2) = r.2 - r'.2 := by omega
    rwa [g1, g2] at hk
  have hTn : T.Nodup := by
    refine flat_nodup (shP_nodup (grp_nodupC hG)) (fun s hs => ?_) (fun s hs s' hs' z hz hz' => ?_)
    · refine List.pairwise_map.2 (List.Pairwise.imp_of_mem (fun {r r'} hr hr' hne he => hne ?_) q2)
      exact (same s hs s hs r hr r' hr' he).2
    · obtain ⟨r, hr, rfl⟩ := List.mem_map.1 hz
      obtain ⟨r', hr', he⟩ := List.mem_map.1 hz'
      exact (same s hs s' hs' r hr r' hr' he.symm).1
  have one : ∀ p q, (a, b, c, d, p, q) ∈ G → ∀ u v, inL A B C u v → clsV A B C a b c d (p + u) (q + v) ∈ T := by
    intro p q hpq u v huv
    obtain ⟨s, hs, hi⟩ := grp_shift hG hd hm hpq
    obtain ⟨r, hr, hk⟩ := q5 _ _ (inL_add hi huv)
    refine List.mem_flatMap.2 ⟨s, hs, List.mem_map.2 ⟨r, hr, (cong ?_).symm⟩⟩
    have g1 : p - (x + s.1) + u - r.1 = p + u - (x + s.1 + r.1) := by omega
    have g2 : q - (y + s.2) + v - r.2 = q + v - (y + s.2 + r.2) := by omega
    rwa [g1, g2] at hk
  have shfL : ∀ k, inL A B C (shf A B C k).1 (shf A B C k).2 := fun k => ⟨_, _, rfl, rfl⟩
  have sub1 : ∀ z ∈ X, z ∈ T := by
    intro z hz
    obtain ⟨m, hmR, hz⟩ := List.mem_flatMap.1 ((hmem z).1 hz)
    obtain ⟨k, _, rfl⟩ := List.mem_map.1 hz
    obtain ⟨a', b', c', d', p, q⟩ := m
    obtain ⟨hmG, hd', ht'⟩ := (hR _).1 hmR
    simp only at hd' ht' ⊢
    rcases rots_same hf (hgood _ hm).1.1 (hgood _ hmG).1.1 hd hd' ht'.symm with ⟨rfl, rfl, rfl, rfl⟩ | ⟨r1, r2, r3, r4⟩
    · exact one p q hmG _ _ (shfL k)
    · simp only at r1 r2 r3 r4
      rw [r1, r2, r3, r4] at hmG ⊢
      obtain ⟨u, v, huv, hi⟩ := grp_back hG hd hmG
      rw [cls_back hd]
      have w := inL_add (inL_neg hi) (inL_neg (stab_all h.stab (shfL k)))
      have := one u v huv _ _ w
      have g1 : u + (-(u - -(a * p + b * q)) + -(a * (shf A B C k).1 + b * (shf A B C k).2)) = -(a * (p + (shf A B C k).1) + b * (q + (shf A B C k).2)) := by grind
      have g2 : v + (-(v - -(c * p + d * q)) + -(c * (shf A B C k).1 + d * (shf A B C k).2)) = -(c * (p + (shf A B C k).1) + d * (q + (shf A B C k).2)) := by grind
      rwa [g1, g2] at this
  have sub2 : ∀ z ∈ T, z ∈ X := by
    intro z hz
    obtain ⟨s, hs, hz⟩ := List.mem_flatMap.1 hz
    obtain ⟨r, hr, rfl⟩ := List.mem_map.1 hz
    obtain ⟨p, q, hpq, hi⟩ := grp_shifted hG hm hs
    rw [hmem]
    refine List.mem_flatMap.2 ⟨_, (hR _).2 ⟨hpq, hd, rfl⟩, ?_⟩
    obtain ⟨i, j, hij1, hij2⟩ := inL_add (inL_neg hi) (q3 r hr)
    have hi1 := Int.emod_nonneg i (show (12 : Int) ≠ 0 by omega)
    have hi2 := Int.emod_lt_of_pos i (show (0 : Int) < 12 by omega)
    have hj1 := Int.emod_nonneg j (show (12 : Int) ≠ 0 by omega)
    have hj2 := Int.emod_lt_of_pos j (show (0 : Int) < 12 by omega)
    have hk1 : ((i % 12).toNat + 12 * (j % 12).toNat) % 12 = (i % 12).toNat := by omega
    have hk2 : ((i % 12).toNat + 12 * (j % 12).toNat) / 12 = (j % 12).toNat := by omega
    refine List.mem_map.2 ⟨(i % 12).toNat + 12 * (j % 12).toNat, List.mem_range.2 (by omega), cong ?_⟩
    have t1 : shf A B C ((i % 12).toNat + 12 * (j % 12).toNat) = (i % 12 * A + j % 12 * B, j % 12 * C) := by
      unfold shf
      rw [hk1, hk2, show (((i % 12).toNat : Nat) : Int) = i % 12 by omega, show (((j % 12).toNat : Nat) : Int) = j % 12 by omega]
    rw [t1]
    simp only
    have hD : ∃ t : Int, t * D = 12 := by
      have h1 := h.pos
      have h2 := h.small
      have : D = 1 ∨ D = 2 ∨ D = 3 ∨ D = 4 := by omega
      rcases this with rfl | rfl | rfl | rfl
      · exact ⟨12, rfl⟩
      · exact ⟨6, rfl⟩
      · exact ⟨4, rfl⟩
      · exact ⟨3, rfl⟩
    obtain ⟨t, ht⟩ := hD
    have ei := Int.emod_add_mul_ediv i 12
    have ej := Int.emod_add_mul_ediv j 12
    have hk := klat_mul h (show inL A B C (-(t * (i / 12)) * A + -(t * (j / 12)) * B) (-(t * (j / 12)) * C) from ⟨_, _, rfl, rfl⟩)
    have g1 : (D : Int) * (-(t * (i / 12)) * A + -(t * (j / 12)) * B) = p + (i % 12 * A + j % 12 * B) - (x + s.1 + r.1) := by
      have e0 : (D : Int) * (-(t * (i / 12)) * A + -(t * (j / 12)) * B) = -((t * D) * (i / 12)) * A - (t * D) * (j / 12) * B := by grind
      have e1 : p + (i % 12 * A + j % 12 * B) - (x + s.1 + r.1) = i % 12 * A + j % 12 * B - (-(p - (x + s.1)) + r.1) := by omega
      rw [e0, ht, e1, hij1]
      have e2 : i * A = (i % 12) * A + 12 * (i / 12) * A := by rw [← Int.add_mul, ei]
      have e3 : j * B = (j % 12) * B + 12 * (j / 12) * B := by rw [← Int.add_mul, ej]
      rw [e2, e3]; grind
    have g2 : (D : Int) * (-(t * (j / 12)) * C) = q + j % 12 * C - (y + s.2 + r.2) := by
      have e0 : (D : Int) * (-(t * (j / 12)) * C) = -((t * D) * (j / 12)) * C := by grind
      have e1 : q + j % 12 * C - (y + s.2 + r.2) = j % 12 * C - (-(q - (y + s.2)) + r.2) := by omega
      rw [e0, ht, e1, hij2]
      have e3 : j * C = (j % 12) * C + 12 * (j / 12) * C := by rw [← Int.add_mul, ej]
      rw [e3]; grind
    rwa [g1, g2] at hk
  have l1 := nodup_len X T hX sub1
  have l2 := nodup_len T X hTn sub2
  rw [hTl, Nat.mul_comm] at l1 l2
  omega
end Go.Proofs.YtodkomaeljbhaaaGreatDoor
