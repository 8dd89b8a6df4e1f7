/-
  Plain facts of motions: which are valid, what composition, inverses, kinds, orders and centres are as numbers, and that the program's ways to tell them agree with the model's for valid motions. Conditions: those stated.
-/
import Derived.Test.YtodkomaeljbhaaaMatO
import Derived.Test.YtodkomaeljbhaaaGcd
namespace Go.Proofs.Ytodkomaeljbhaaa
open Go.RowKit
set_option linter.unusedSimpArgs false
set_option linter.unusedVariables false

def motB (a b c d x y : Int) : Bool := matB a b c d && (kindI a b c d != 0) && vecB x y
theorem refl_ord {a b c d : Int} (h : reflB a b c d = true) : ordT a b c d = 2 := by
  have h5 := h
  simp only [reflB, Bool.and_eq_true, beq_iff_eq] at h5
  have h1 : unitB a b c d = false := by
    rcases hu : unitB a b c d with _ | _
    · rfl
    · simp [unitB] at hu; omega
  unfold ordT
  simp [h1, h5]
theorem kind_ord {a b c d : Int} (h : matB a b c d = true) : (ordT a b c d != 0) = (kindI a b c d != 0) := by
  rw [kind_eq h]
  rcases hr : reflB a b c d with _ | _
  · rfl
  · rw [refl_ord hr]; rfl
theorem motB_mat {a b c d x y : Int} (h : motB a b c d x y = true) : matB a b c d = true := by simp [motB] at h; exact h.1.1
theorem motB_kind {a b c d x y : Int} (h : motB a b c d x y = true) : kindI a b c d ≠ 0 := by simp [motB] at h; exact h.1.2
theorem motB_vec {a b c d x y : Int} (h : motB a b c d x y = true) : vecB x y = true := by simp [motB] at h; exact h.2
theorem motB_lim {a b c d x y : Int} (h : motB a b c d x y = true) : limB a b c d = true := matB_lim (motB_mat h)
theorem mot_refl {a b c d x y : Int} (h : motB a b c d x y = true) : (a * d - b * c == -1) = reflB a b c d := by
  have hm := motB_mat h
  have hk := motB_kind h
  rcases hd : (a * d - b * c == -1) with _ | _
  · simp [reflB, hd]
  · rcases hr : reflB a b c d with _ | _
    · exfalso
      apply hk
      have hd1 : (a * d - b * c == 1) = false := by have := (beq_iff_eq).1 hd; rw [this]; rfl
      have ht : (a + d == 0) = false := by simpa [reflB, hd] using hr
      have hu : unitB a b c d = false := by
        rcases hu : unitB a b c d with _ | _
        · rfl
        · simp [unitB] at hu
          have := (beq_iff_eq).1 hd
          obtain ⟨⟨⟨h1, h2⟩, h3⟩, h4⟩ := hu
          rw [h1, h2, h3, h4] at this; simp at this
      have hn : (a == -1 && b == 0 && c == 0 && d == -1) = false := by
        rcases hn : (a == -1 && b == 0 && c == 0 && d == -1) with _ | _
        · rfl
        · simp at hn
          have := (beq_iff_eq).1 hd
          obtain ⟨⟨⟨h1, h2⟩, h3⟩, h4⟩ := hn
          rw [h1, h2, h3, h4] at this; simp at this
      rw [kind_eq hm, hr]
      have hd2 := (beq_iff_eq).1 hd
      have ht2 : ¬ (a + d = 0) := by simpa using ht
      simp [ordT, hu, hn, hd2, ht]
    · rfl
/- composition -/
def cmpI (a b c d x y a' b' c' d' x' y' : Int) : Int × Int × Int × Int × Int × Int := (a * a' + b * c', a * b' + b * d', c * a' + d * c', c * b' + d * d', a * x' + b * y' + x, c * x' + d * y' + y)
def motT (r : Int × Int × Int × Int × Int × Int × Int) : Value := .tuple #[.agg #[.int .i64 (r.1), .int .i64 (r.2.1), .int .i64 (r.2.2.1), .int .i64 (r.2.2.2.1), .int .i64 (r.2.2.2.2.1), .int .i64 (r.2.2.2.2.2.1)], .int .i64 r.2.2.2.2.2.2]
def cmpR (a b c d x y a' b' c' d' x' y' : Int) : Int × Int × Int × Int × Int × Int × Int :=
  bif motB a b c d x y && motB a' b' c' d' x' y' then
    (bif vecB (a * x' + b * y' + x) (c * x' + d * y' + y) && limB (a * a' + b * c') (a * b' + b * d') (c * a' + d * c') (c * b' + d * d') then
      (bif motB (a * a' + b * c') (a * b' + b * d') (c * a' + d * c') (c * b' + d * d') (a * x' + b * y' + x) (c * x' + d * y' + y) then (a * a' + b * c', a * b' + b * d', c * a' + d * c', c * b' + d * d', a * x' + b * y' + x, c * x' + d * y' + y, 0) else (0, 0, 0, 0, 0, 0, 5)) else (0, 0, 0, 0, 0, 0, 3)) else (0, 0, 0, 0, 0, 0, 1)
/- the way back -/
def bkX (a b c d x y : Int) : Int := (d * (a * d - b * c) * x + -b * (a * d - b * c) * y) * -1
def bkY (a b c d x y : Int) : Int := (-c * (a * d - b * c) * x + a * (a * d - b * c) * y) * -1
def ibkR (a b c d x y : Int) : Int × Int × Int × Int × Int × Int × Int :=
  bif motB a b c d x y then (bif vecB (bkX a b c d x y) (bkY a b c d x y) then (d * (a * d - b * c), -b * (a * d - b * c), -c * (a * d - b * c), a * (a * d - b * c), bkX a b c d x y, bkY a b c d x y, 0) else (0, 0, 0, 0, 0, 0, 3)) else (0, 0, 0, 0, 0, 0, 1)
def apmR (a b c d x y p q : Int) : Int × Int × Int :=
  bif motB a b c d x y && vecB p q then (bif vecB (a * p + b * q + x) (c * p + d * q + y) then (a * p + b * q + x, c * p + d * q + y, 0) else (0, 0, 3)) else (0, 0, 1)
def vecT (r : Int × Int × Int) : Value := .tuple #[.agg #[.int .i64 (r.1), .int .i64 (r.2.1)], .int .i64 r.2.2]
def intT (r : Int × Int) : Value := .tuple #[.int .i64 r.1, .int .i64 r.2]
/- kinds and orders -/
def knd (a b c d x y : Int) : Int :=
  bif reflB a b c d then (bif a * x + b * y + x == 0 && c * x + d * y + y == 0 then 3 else 4) else (bif unitB a b c d then (bif x == 0 && y == 0 then 0 else 1) else 2)
def kndR (a b c d x y : Int) : Int × Int := bif motB a b c d x y then (knd a b c d x y, 0) else (0, 1)
def omoI (a b c d x y : Int) : Int := bif knd a b c d x y == 1 || knd a b c d x y == 4 then 0 else ordT a b c d
def omoR (a b c d x y : Int) : Int × Int := bif motB a b c d x y then (omoI a b c d x y, 0) else (0, 1)
def twgR (a b c d x y : Int) : Int × Int × Int :=
  bif motB a b c d x y then (bif reflB a b c d then (bif vecB (a * x + b * y + x) (c * x + d * y + y) then (a * x + b * y + x, c * x + d * y + y, 0) else (0, 0, 3)) else (0, 0, 5)) else (0, 0, 1)
theorem unit_refl {a b c d : Int} (h : unitB a b c d = true) : reflB a b c d = false := by
  simp only [unitB, Bool.and_eq_true, beq_iff_eq] at h
  obtain ⟨⟨⟨rfl, rfl⟩, rfl⟩, rfl⟩ := h
  rfl
/- centres -/
def ceX (a b c d x y : Int) : Int := (1 - d) * x + b * y
def ceY (a b c d x y : Int) : Int := (1 - a) * y + c * x
def ceG (a b c d x y : Int) : Int := gcdI (gcdI (ceX a b c d x y) (ceY a b c d x y)) (2 - (a + d))
def cenR (a b c d x y : Int) : Int × Int × Int × Int :=
  bif motB a b c d x y then (bif knd a b c d x y == 2 then (bif vecB ((ceX a b c d x y).tdiv (ceG a b c d x y)) ((ceY a b c d x y).tdiv (ceG a b c d x y)) then ((ceX a b c d x y).tdiv (ceG a b c d x y), (ceY a b c d x y).tdiv (ceG a b c d x y), (2 - (a + d)).tdiv (ceG a b c d x y), 0) else (0, 0, 0, 3)) else (0, 0, 0, 5)) else (0, 0, 0, 1)
def cenT (r : Int × Int × Int × Int) : Value := .tuple #[.agg #[.int .i64 (r.1), .int .i64 (r.2.1)], .int .i64 r.2.2.1, .int .i64 r.2.2.2]
theorem rot_of {a b c d x y : Int} (h : motB a b c d x y = true) (hk : knd a b c d x y = 2) : a * d - b * c = 1 ∧ 1 ≤ 2 - (a + d) ∧ 2 - (a + d) ≤ 4 := by
  have hm := motB_mat h
  have hr : reflB a b c d = false := by
    rcases hr : reflB a b c d with _ | _
    · rfl
    · simp only [knd, hr, cond_true] at hk
      rcases he : (a * x + b * y + x == 0 && c * x + d * y + y == 0) with _ | _ <;> simp [he] at hk
  have hu : unitB a b c d = false := by
    rcases hu : unitB a b c d with _ | _
    · rfl
    · simp only [knd, hr, hu, cond_true, cond_false] at hk
      rcases he : (x == 0 && y == 0) with _ | _ <;> simp [he] at hk
  have hd : ¬ (a * d - b * c = -1) := by
    have := mot_refl h
    rw [hr] at this
    simpa using this
  have hd1 : a * d - b * c = 1 := by rcases matB_det hm with e | e <;> omega
  have ho : ordT a b c d ≠ 0 := by
    have := kind_ord hm
    have hk2 := motB_kind h
    have h3 : (kindI a b c d != 0) = true := by simpa using hk2
    rw [h3] at this
    simpa using this
  refine ⟨hd1, ?_⟩
  have hr2 : ¬ (a * d - b * c = -1 ∧ a + d = 0) := by omega
  by_cases hn : (a == -1 && b == 0 && c == 0 && d == -1) = true
  · simp at hn; omega
  · have hn2 : (a == -1 && b == 0 && c == 0 && d == -1) = false := by simpa using hn
    by_cases t : a + d = -1 ∨ a + d = 0 ∨ a + d = 1
    · omega
    · exfalso
      apply ho
      have t1 : (a + d == -1) = false := by simp; omega
      have t2 : (a + d == 0) = false := by simp; omega
      have t3 : (a + d == 1) = false := by simp; omega
      simp [ordT, hu, hn2, hd1, t1, t2, t3]
theorem ce_bd {a b c d x y : Int} (h : motB a b c d x y = true) : (-2100000 ≤ ceX a b c d x y ∧ ceX a b c d x y ≤ 2100000) ∧ (-2100000 ≤ ceY a b c d x y ∧ ceY a b c d x y ≤ 2100000) := by
  obtain ⟨⟨ha, hb⟩, hc, hd⟩ := limB_bd (motB_lim h)
  obtain ⟨hx, hy⟩ := vecB_bd (motB_vec h)
  have e1 := mul1000 hd hx
  have e2 := mul1000 hb hy
  have e3 := mul1000 ha hy
  have e4 := mul1000 hc hx
  unfold ceX ceY
  rw [Int.sub_mul, Int.sub_mul, Int.one_mul, Int.one_mul]
  omega
theorem ceG_pos {a b c d x y : Int} (h : motB a b c d x y = true) (hk : knd a b c d x y = 2) : 1 ≤ ceG a b c d x y ∧ ceG a b c d x y ≤ 4 := by
  obtain ⟨_, h1, h2⟩ := rot_of h hk
  unfold ceG gcdI
  have hd : Int.gcd ((Int.gcd (ceX a b c d x y) (ceY a b c d x y) : Nat) : Int) (2 - (a + d)) ∣ (2 - (a + d)).natAbs := Nat.gcd_dvd_right _ _
  have hp : 0 < (2 - (a + d)).natAbs := by omega
  have := Nat.le_of_dvd hp hd
  have hp2 := Nat.pos_of_dvd_of_pos hd hp
  omega
/- the centre is not moved -/
theorem gcd_dvd_l (a b : Int) : gcdI a b ∣ a := Int.gcd_dvd_left a b
theorem gcd_dvd_r (a b : Int) : gcdI a b ∣ b := Int.gcd_dvd_right a b
theorem tdiv_le {a g : Int} (hg : 1 ≤ g) (M : Int) (hM : 0 ≤ M) (h : -M ≤ a ∧ a ≤ M) : -M ≤ a.tdiv g ∧ a.tdiv g ≤ M := by
  have e : (a.tdiv g).natAbs = a.natAbs / g.natAbs := Int.natAbs_tdiv a g
  have : a.natAbs / g.natAbs ≤ a.natAbs := Nat.div_le_self _ _
  omega
theorem gcdI_big {a b M : Int} (ha : -M ≤ a ∧ a ≤ M) (hb : -M ≤ b ∧ b ≤ M) : 0 ≤ gcdI a b ∧ gcdI a b ≤ M := by
  unfold gcdI
  refine ⟨by omega, ?_⟩
  by_cases h0 : a = 0
  · subst h0
    by_cases h1 : b = 0
    · subst h1; simp; omega
    · have := Nat.le_of_dvd (by omega) (Nat.gcd_dvd_right (0 : Int).natAbs b.natAbs)
      have e : Int.gcd 0 b = Nat.gcd (0 : Int).natAbs b.natAbs := rfl
      omega
  · have := Nat.le_of_dvd (by omega) (Nat.gcd_dvd_left a.natAbs b.natAbs)
    have e : Int.gcd a b = Nat.gcd a.natAbs b.natAbs := rfl
    omega
theorem centre_still {a b c d x y : Int} (h : motB a b c d x y = true) (hk : knd a b c d x y = 2) :
    1 ≤ (2 - (a + d)).tdiv (ceG a b c d x y) ∧
    a * (ceX a b c d x y).tdiv (ceG a b c d x y) + b * (ceY a b c d x y).tdiv (ceG a b c d x y) + (2 - (a + d)).tdiv (ceG a b c d x y) * x = (ceX a b c d x y).tdiv (ceG a b c d x y) ∧
    c * (ceX a b c d x y).tdiv (ceG a b c d x y) + d * (ceY a b c d x y).tdiv (ceG a b c d x y) + (2 - (a + d)).tdiv (ceG a b c d x y) * y = (ceY a b c d x y).tdiv (ceG a b c d x y) := by
  obtain ⟨hdet, h1, h2⟩ := rot_of h hk
  obtain ⟨g1, g2⟩ := ceG_pos h hk
  have hg0 : ceG a b c d x y ≠ 0 := by omega
  have d3 : ceG a b c d x y ∣ 2 - (a + d) := gcd_dvd_r _ _
  have d12 : ceG a b c d x y ∣ gcdI (ceX a b c d x y) (ceY a b c d x y) := gcd_dvd_l _ _
  have d1 : ceG a b c d x y ∣ ceX a b c d x y := Int.dvd_trans d12 (gcd_dvd_l _ _)
  have d2 : ceG a b c d x y ∣ ceY a b c d x y := Int.dvd_trans d12 (gcd_dvd_r _ _)
  have hX : ceX a b c d x y = (1 - d) * x + b * y := rfl
  have hY : ceY a b c d x y = (1 - a) * y + c * x := rfl
  generalize ceX a b c d x y = X at *
  generalize ceY a b c d x y = Y at *
  generalize ceG a b c d x y = g at *
  obtain ⟨p, rfl⟩ := d1
  obtain ⟨q, rfl⟩ := d2
  obtain ⟨r, hr⟩ := d3
  rw [hr, Int.mul_tdiv_cancel_left _ hg0, Int.mul_tdiv_cancel_left _ hg0, Int.mul_tdiv_cancel_left _ hg0]
  refine ⟨?_, ?_, ?_⟩
  · rcases Int.lt_or_le 0 r with hr0 | hr0
    · omega
    · have := Int.mul_le_mul_of_nonneg_left (c := g) hr0 (by omega)
      omega
  · apply Int.eq_of_mul_eq_mul_left hg0
    have e1 : g * (a * p + b * q + r * x) = a * (g * p) + b * (g * q) + g * r * x := by grind
    rw [e1, hX, hY, ← hr]
    have e2 : a * ((1 - d) * x + b * y) + b * ((1 - a) * y + c * x) + (2 - (a + d)) * x = (1 - d) * x + b * y + (1 - (a * d - b * c)) * x := by grind
    rw [e2, hdet]; omega
  · apply Int.eq_of_mul_eq_mul_left hg0
    have e1 : g * (c * p + d * q + r * y) = c * (g * p) + d * (g * q) + g * r * y := by grind
    rw [e1, hX, hY, ← hr]
    have e2 : c * ((1 - d) * x + b * y) + d * ((1 - a) * y + c * x) + (2 - (a + d)) * y = (1 - a) * y + c * x + (1 - (a * d - b * c)) * y := by grind
    rw [e2, hdet]; omega
end Go.Proofs.Ytodkomaeljbhaaa
