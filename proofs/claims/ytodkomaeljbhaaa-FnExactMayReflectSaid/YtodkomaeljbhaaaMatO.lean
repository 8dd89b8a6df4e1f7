/-
  Plain facts on powers of 2 by 2 matrices of integers: the order that the model finds by trying six powers is the one that trace and determinant tell. Condition: the matrix is valid.
-/
import Derived.Test.YtodkomaeljbhaaaMat1
import Derived.Test.YtodkomaeljbhaaaM4
namespace Go.Proofs.Ytodkomaeljbhaaa

def mulP (a b c d : Int) (p : M4) : M4 := (a * p.1 + b * p.2.2.1, a * p.2.1 + b * p.2.2.2, c * p.1 + d * p.2.2.1, c * p.2.1 + d * p.2.2.2)
def pw (a b c d : Int) : Nat → M4
  | 0 => (1, 0, 0, 1)
  | k + 1 => mulP a b c d (pw a b c d k)
def limP (p : M4) : Bool := limB p.1 p.2.1 p.2.2.1 p.2.2.2
def unitB (a b c d : Int) : Bool := a == 1 && b == 0 && c == 0 && d == 1
def unitP (p : M4) : Bool := unitB p.1 p.2.1 p.2.2.1 p.2.2.2
def ordGo (a b c d : Int) (n : Nat) : Nat → Int
  | 0 => 0
  | f + 1 => bif limP (pw a b c d n) then (bif unitP (pw a b c d n) then (n : Int) else ordGo a b c d (n + 1) f) else 0
def ordI (a b c d : Int) : Int := ordGo a b c d 1 6
def okP (a b c d : Int) : Nat → Bool
  | 0 => true
  | k + 1 => okP a b c d k && limP (pw a b c d (k + 1))

/- the order by trace and determinant -/
def ordT (a b c d : Int) : Int :=
  bif unitB a b c d then 1 else
  bif (a == -1 && b == 0 && c == 0 && d == -1) || (a * d - b * c == -1 && a + d == 0) then 2 else
  bif a * d - b * c == -1 then 0 else
  bif a + d == -1 then 3 else bif a + d == 0 then 4 else bif a + d == 1 then 6 else 0

/- p times the matrix and q times the unit -/
def lin (a b c d p q : Int) : M4 := (p * a + q, p * b, p * c, p * d + q)
theorem lin_step (a b c d p q t D : Int) (ht : a + d = t) (hD : a * d - b * c = D) : mulP a b c d (lin a b c d p q) = lin a b c d (p * t + q) (-D * p) := by
  subst ht hD
  simp only [mulP, lin, Prod.mk.injEq]
  refine ⟨?_, ?_, ?_, ?_⟩ <;> grind
theorem pw_zero (a b c d : Int) : pw a b c d 0 = lin a b c d 0 1 := by simp [pw, lin]
theorem lin_unit {a b c d p q : Int} (hp : p ≠ 0) (hm : ¬ (b = 0 ∧ c = 0 ∧ a = d)) : unitP (lin a b c d p q) = false := by
  cases h : unitP (lin a b c d p q) with
  | false => rfl
  | true =>
    simp [unitP, unitB, lin] at h
    obtain ⟨⟨⟨h1, h2⟩, h3⟩, h4⟩ := h
    refine absurd ⟨(Int.mul_eq_zero.1 h2).resolve_left hp, (Int.mul_eq_zero.1 h3).resolve_left hp, ?_⟩ hm
    have : p * (a - d) = 0 := by grind
    rcases Int.mul_eq_zero.1 this with h | h
    · exact absurd h hp
    · omega
theorem not_scalar {a b c d : Int} (hD : a * d - b * c = 1 ∨ a * d - b * c = -1) (h1 : unitB a b c d = false) (h2 : (a == -1 && b == 0 && c == 0 && d == -1) = false) : ¬ (b = 0 ∧ c = 0 ∧ a = d) := by
  rintro ⟨rfl, rfl, rfl⟩
  simp [unitB] at h1 h2 hD
  have hn : a.natAbs * a.natAbs = 1 := by
    rcases hD with e | e
    · rw [← Int.natAbs_mul, e]; rfl
    · have : 0 ≤ a * a := by rw [← Int.natAbs_mul_self (a := a)]; exact Int.natCast_nonneg _
      omega
  have : a.natAbs = 1 := Nat.eq_one_of_mul_eq_one_left hn
  omega

theorem ordGo_none (a b c d : Int) : ∀ (f n : Nat), (∀ k, n ≤ k → k < n + f → unitP (pw a b c d k) = false) → ordGo a b c d n f = 0 := by
  intro f
  induction f with
  | zero => intro n _; rfl
  | succ f ih =>
    intro n h
    have h0 := h n (Nat.le_refl _) (by omega)
    have := ih (n + 1) (fun k h1 h2 => h k (by omega) (by omega))
    simp only [ordGo, h0, this, cond_false]
    cases limP (pw a b c d n) <;> rfl
theorem ordGo_skip {a b c d : Int} {n f : Nat} (hl : limP (pw a b c d n) = true) (hu : unitP (pw a b c d n) = false) : ordGo a b c d n (f + 1) = ordGo a b c d (n + 1) f := by
  simp [ordGo, hl, hu]
theorem ordGo_here {a b c d : Int} {n f : Nat} (hl : limP (pw a b c d n) = true) (hu : unitP (pw a b c d n) = true) : ordGo a b c d n (f + 1) = n := by
  simp [ordGo, hl, hu]

theorem lin_next {a b c d t D : Int} (ht : a + d = t) (hD : a * d - b * c = D) {k : Nat} {p q p' q' : Int} (h : pw a b c d k = lin a b c d p q) (hp : p * t + q = p') (hq : -D * p = q') : pw a b c d (k + 1) = lin a b c d p' q' := by
  subst hp hq
  show mulP a b c d (pw a b c d k) = _
  rw [h]
  exact lin_step a b c d p q t D ht hD
theorem pw_six {a b c d t D : Int} (ht : a + d = t) (hD : a * d - b * c = D) (hDD : D * D = 1) :
    pw a b c d 1 = lin a b c d 1 0 ∧ pw a b c d 2 = lin a b c d t (-D) ∧ pw a b c d 3 = lin a b c d (t * t - D) (-D * t) ∧ pw a b c d 4 = lin a b c d (t * (t * t - 2 * D)) (1 - D * (t * t)) ∧
    pw a b c d 5 = lin a b c d (t * t * (t * t - 3 * D) + 1) (t * (2 - D * (t * t))) ∧ pw a b c d 6 = lin a b c d (t * ((t * t - D) * (t * t - 3 * D))) (-D * (t * t * (t * t - 3 * D) + 1)) := by
  have h1 := lin_next ht hD (pw_zero a b c d) (p' := 1) (q' := 0) (by grind) (by grind)
  have h2 := lin_next ht hD h1 (p' := t) (q' := -D) (by grind) (by grind)
  have h3 := lin_next ht hD h2 (p' := t * t - D) (q' := -D * t) (by grind) (by grind)
  have h4 := lin_next ht hD h3 (p' := t * (t * t - 2 * D)) (q' := 1 - D * (t * t)) (by grind) (by grind)
  have h5 := lin_next ht hD h4 (p' := t * t * (t * t - 3 * D) + 1) (q' := t * (2 - D * (t * t))) (by grind) (by grind)
  have h6 := lin_next ht hD h5 (p' := t * ((t * t - D) * (t * t - 3 * D))) (q' := -D * (t * t * (t * t - 3 * D) + 1)) (by grind) (by grind)
  exact ⟨h1, h2, h3, h4, h5, h6⟩
theorem sq_nonneg (t : Int) : 0 ≤ t * t := by rw [← Int.natAbs_mul_self (a := t)]; exact Int.natCast_nonneg _
theorem sq_four {t : Int} (h : t ≤ -2 ∨ 2 ≤ t) : 4 ≤ t * t := by
  rw [← Int.natAbs_mul_self (a := t)]
  have : 2 ≤ t.natAbs := by omega
  have := Nat.mul_le_mul this this
  omega
theorem ord_inf {a b c d : Int} (hm : ¬ (b = 0 ∧ c = 0 ∧ a = d)) (h : (a * d - b * c = 1 ∧ (a + d ≤ -2 ∨ 2 ≤ a + d)) ∨ (a * d - b * c = -1 ∧ a + d ≠ 0)) : ordI a b c d = 0 := by
  generalize ht : a + d = t at h
  generalize hD : a * d - b * c = D at h
  have hDD : D * D = 1 := by rcases h with ⟨rfl, _⟩ | ⟨rfl, _⟩ <;> rfl
  obtain ⟨h1, h2, h3, h4, h5, h6⟩ := pw_six ht hD hDD
  have t0 : t ≠ 0 := by rcases h with ⟨_, h⟩ | ⟨_, h⟩ <;> omega
  have key : t * t - D ≠ 0 ∧ t * t - 2 * D ≠ 0 ∧ t * t - 3 * D ≠ 0 ∧ t * t * (t * t - 3 * D) + 1 ≠ 0 := by
    rcases h with ⟨rfl, h⟩ | ⟨rfl, h⟩
    · have := sq_four h
      have g := Int.mul_nonneg (sq_nonneg t) (show 0 ≤ t * t - 3 * 1 by omega)
      refine ⟨by omega, by omega, by omega, by omega⟩
    · have := sq_nonneg t
      have g := Int.mul_nonneg (sq_nonneg t) (show 0 ≤ t * t - 3 * -1 by omega)
      refine ⟨by omega, by omega, by omega, by omega⟩
  obtain ⟨k1, k2, k3, k4⟩ := key
  refine ordGo_none a b c d 6 1 fun k a1 a2 => ?_
  obtain rfl | rfl | rfl | rfl | rfl | rfl : k = 1 ∨ k = 2 ∨ k = 3 ∨ k = 4 ∨ k = 5 ∨ k = 6 := by omega
  · rw [h1]; exact lin_unit (by omega) hm
  · rw [h2]; exact lin_unit t0 hm
  · rw [h3]; exact lin_unit k1 hm
  · rw [h4]; exact lin_unit (Int.mul_ne_zero t0 k2) hm
  · rw [h5]; exact lin_unit k4 hm
  · rw [h6]; exact lin_unit (Int.mul_ne_zero t0 (Int.mul_ne_zero k1 k3)) hm

theorem lin_lim {a b c d p q : Int} (h : limB a b c d = true) (hp : p = 1 ∨ p = -1) (h1 : -1000 ≤ p * a + q ∧ p * a + q ≤ 1000) (h2 : -1000 ≤ p * d + q ∧ p * d + q ≤ 1000) : limP (lin a b c d p q) = true := by
  obtain ⟨⟨ha, hb⟩, hc, hd⟩ := limB_bd h
  rcases hp with rfl | rfl <;> simp [limP, lin, limB, vecB] at * <;> omega
theorem lin0_lim {a b c d q : Int} (hq : q = 1 ∨ q = -1) : limP (lin a b c d 0 q) = true := by
  rcases hq with rfl | rfl <;> simp [limP, lin, limB, vecB]
theorem lin0_no {a b c d : Int} : unitP (lin a b c d 0 (-1)) = false := by simp [unitP, unitB, lin]
theorem lin0_yes {a b c d : Int} : unitP (lin a b c d 0 1) = true := by simp [unitP, unitB, lin]

theorem ord_eq {a b c d : Int} (h : matB a b c d = true) : ordI a b c d = ordT a b c d := by
  have hl := matB_lim h
  have hD := matB_det h
  obtain ⟨⟨ha, hb⟩, hc, hd⟩ := limB_bd hl
  unfold ordT
  cases hu : unitB a b c d
  case true =>
    simp [unitB] at hu
    obtain ⟨⟨⟨rfl, rfl⟩, rfl⟩, rfl⟩ := hu
    rfl
  cases hm : (a == -1 && b == 0 && c == 0 && d == -1)
  case true =>
    simp at hm
    obtain ⟨⟨⟨rfl, rfl⟩, rfl⟩, rfl⟩ := hm
    rfl
  have ns := not_scalar hD hu hm
  simp only [cond_false, Bool.false_or]
  rcases hD with e | e
  · have e1 : (a * d - b * c == -1) = false := by rw [e]; rfl
    simp only [e1, Bool.false_and, cond_false]
    by_cases t1 : a + d = -1
    · obtain ⟨h1, h2, h3, _⟩ := pw_six t1 e rfl
      rw [t1]
      show _ = 3
      unfold ordI
      rw [ordGo_skip (by rw [h1]; exact lin_lim hl (by omega) (by omega) (by omega)) (by rw [h1]; exact lin_unit (by omega) ns),
        ordGo_skip (by rw [h2]; exact lin_lim hl (by omega) (by omega) (by omega)) (by rw [h2]; exact lin_unit (by omega) ns),
        ordGo_here (by rw [h3]; exact lin0_lim (by omega)) (by rw [h3]; exact lin0_yes)]
      rfl
    by_cases t2 : a + d = 0
    · obtain ⟨h1, h2, h3, h4, _⟩ := pw_six t2 e rfl
      rw [t2]
      show _ = 4
      unfold ordI
      rw [ordGo_skip (by rw [h1]; exact lin_lim hl (by omega) (by omega) (by omega)) (by rw [h1]; exact lin_unit (by omega) ns),
        ordGo_skip (by rw [h2]; exact lin0_lim (by omega)) (by rw [h2]; exact lin0_no),
        ordGo_skip (by rw [h3]; exact lin_lim hl (by omega) (by omega) (by omega)) (by rw [h3]; exact lin_unit (by omega) ns),
        ordGo_here (by rw [h4]; exact lin0_lim (by omega)) (by rw [h4]; exact lin0_yes)]
      rfl
    by_cases t3 : a + d = 1
    · obtain ⟨h1, h2, h3, h4, h5, h6⟩ := pw_six t3 e rfl
      rw [t3]
      show _ = 6
      unfold ordI
      rw [ordGo_skip (by rw [h1]; exact lin_lim hl (by omega) (by omega) (by omega)) (by rw [h1]; exact lin_unit (by omega) ns),
        ordGo_skip (by rw [h2]; exact lin_lim hl (by omega) (by omega) (by omega)) (by rw [h2]; exact lin_unit (by omega) ns),
        ordGo_skip (by rw [h3]; exact lin0_lim (by omega)) (by rw [h3]; exact lin0_no),
        ordGo_skip (by rw [h4]; exact lin_lim hl (by omega) (by omega) (by omega)) (by rw [h4]; exact lin_unit (by omega) ns),
        ordGo_skip (by rw [h5]; exact lin_lim hl (by omega) (by omega) (by omega)) (by rw [h5]; exact lin_unit (by omega) ns),
        ordGo_here (by rw [h6]; exact lin0_lim (by omega)) (by rw [h6]; exact lin0_yes)]
      rfl
    have f1 : (a + d == -1) = false := by simpa using t1
    have f2 : (a + d == 0) = false := by simpa using t2
    have f3 : (a + d == 1) = false := by simpa using t3
    simp only [f1, f2, f3, cond_false]
    exact ord_inf ns (.inl ⟨e, by omega⟩)
  · have e1 : (a * d - b * c == -1) = true := by rw [e]; rfl
    simp only [e1, Bool.true_and, cond_true]
    by_cases t2 : a + d = 0
    · obtain ⟨h1, h2, _⟩ := pw_six t2 e rfl
      rw [t2]
      show _ = 2
      unfold ordI
      rw [ordGo_skip (by rw [h1]; exact lin_lim hl (by omega) (by omega) (by omega)) (by rw [h1]; exact lin_unit (by omega) ns),
        ordGo_here (by rw [h2]; exact lin0_lim (by omega)) (by rw [h2]; exact lin0_yes)]
      rfl
    have f2 : (a + d == 0) = false := by simpa using t2
    simp only [f2, cond_false]
    exact ord_inf ns (.inr ⟨e, t2⟩)

/- a found order: all powers on the way are small, and the last is the unit -/
theorem ordGo_found {a b c d : Int} : ∀ (f n : Nat) (r : Int), ordGo a b c d n f = r → r ≠ 0 → ∃ k : Nat, r = k ∧ n ≤ k ∧ k < n + f ∧ unitP (pw a b c d k) = true ∧ ∀ j, n ≤ j → j ≤ k → limP (pw a b c d j) = true := by
  intro f
  induction f with
  | zero => intro n r h hr; exact absurd h.symm hr
  | succ f ih =>
    intro n r h hr
    cases hl : limP (pw a b c d n)
    · simp [ordGo, hl] at h; exact absurd h.symm hr
    cases hu : unitP (pw a b c d n)
    · rw [ordGo_skip hl hu] at h
      obtain ⟨k, h1, h2, h3, h4, h5⟩ := ih (n + 1) r h hr
      refine ⟨k, h1, by omega, by omega, h4, fun j j1 j2 => ?_⟩
      by_cases hj : j = n
      · rw [hj]; exact hl
      · exact h5 j (by omega) j2
    · rw [ordGo_here hl hu] at h
      exact ⟨n, h.symm, Nat.le_refl _, by omega, hu, fun j j1 j2 => by rw [show j = n by omega]; exact hl⟩
theorem okP_of {a b c d : Int} : ∀ (k : Nat), (∀ j, 1 ≤ j → j ≤ k → limP (pw a b c d j) = true) → okP a b c d k = true := by
  intro k
  induction k with
  | zero => intro _; rfl
  | succ k ih =>
    intro h
    have h1 := h (k + 1) (by omega) (Nat.le_refl _)
    have h2 := ih (fun j j1 j2 => h j j1 (by omega))
    simp [okP, h1, h2]

/- kinds -/
def reflB (a b c d : Int) : Bool := a * d - b * c == -1 && a + d == 0
def kindI (a b c d : Int) : Int := bif a * d - b * c == 1 then ordI a b c d else bif ordI a b c d == 2 then -2 else 0
theorem kind_eq {a b c d : Int} (h : matB a b c d = true) : kindI a b c d = bif reflB a b c d then -2 else ordT a b c d := by
  unfold kindI reflB
  rw [ord_eq h]
  rcases matB_det h with e | e
  · have e1 : (a * d - b * c == -1) = false := by rw [e]; rfl
    have e2 : (a * d - b * c == 1) = true := by rw [e]; rfl
    simp [e1, e2]
  · have e1 : (a * d - b * c == -1) = true := by rw [e]; rfl
    have e2 : (a * d - b * c == 1) = false := by rw [e]; rfl
    have e3 : unitB a b c d = false := by
      cases hu : unitB a b c d
      · rfl
      · simp [unitB] at hu
        obtain ⟨⟨⟨rfl, rfl⟩, rfl⟩, rfl⟩ := hu
        simp at e
    have e4 : (a == -1 && b == 0 && c == 0 && d == -1) = false := by
      cases hu : (a == -1 && b == 0 && c == 0 && d == -1)
      · rfl
      · simp at hu
        obtain ⟨⟨⟨rfl, rfl⟩, rfl⟩, rfl⟩ := hu
        simp at e
    unfold ordT
    simp only [e1, e2, e3, e4, cond_false, cond_true, Bool.true_and, Bool.false_or]
    cases a + d == 0 <;> rfl
theorem ordT_vals (a b c d : Int) : 0 ≤ ordT a b c d ∧ ordT a b c d ≤ 6 := by
  unfold ordT
  cases unitB a b c d <;> cases ((a == -1 && b == 0 && c == 0 && d == -1) || (a * d - b * c == -1 && a + d == 0)) <;> cases (a * d - b * c == -1) <;> cases (a + d == -1) <;> cases (a + d == 0) <;> cases (a + d == 1) <;> decide
theorem kind_refl {a b c d : Int} (h : matB a b c d = true) : (kindI a b c d != -2) = !reflB a b c d := by
  rw [kind_eq h]
  cases reflB a b c d
  · have := ordT_vals a b c d
    simp; omega
  · rfl

end Go.Proofs.Ytodkomaeljbhaaa
