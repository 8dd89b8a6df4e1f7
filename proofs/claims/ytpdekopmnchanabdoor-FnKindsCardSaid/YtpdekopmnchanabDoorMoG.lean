/-
  Plain facts for the laws of chapter 5: a motion and its inverse cancel, composed motions are done one after the other. Condition: the codes tell no error.
-/
import Derived.Test.YtpdekopmnchanabDoorMo4
import Derived.Test.YtpdekopmnchanabDoorMo5
namespace Go.Proofs.YtpdekopmnchanabDoor
open Go.RowKit
set_option linter.unusedSimpArgs false
set_option linter.unusedVariables false

theorem unitOK_of5 {W : World} (h : Kq (0) 1 0 0 1 W) : UnitOK W := h
theorem eqMoR (a b c d x y : Int) (w : World) : (Op.equalIn 10000 29 (.agg #[.int .i64 a, .int .i64 b, .int .i64 c, .int .i64 d, .int .i64 x, .int .i64 y]) (.agg #[.int .i64 a, .int .i64 b, .int .i64 c, .int .i64 d, .int .i64 x, .int .i64 y])).run Tryd.prog w = .ok true w := by
  have hu := Tryd.underlying29
  have hv := Tryd.underlying27
  have hm := Tryd.underlying25
  rw [show (10000 : Nat) = 9999 + 1 from rfl, run_equalIn_struct _ _ _ _ _ (by simp only [Program.fieldsOf, hu]) (by kernel_rfl)]
  simp only [Program.fieldsOf, hu]
  have u3 := Tryd.underlying2
  have a3 := Tryd.isAgg2
  have z3 := Tryd.sizeOf2
  go_simp
attribute [local go_sem ↓] eqMoR

theorem inv_mot {a b c d x y : Int} (h : motB a b c d x y = true) (hv : vecB (bkX a b c d x y) (bkY a b c d x y) = true) :
    motB (d * (a * d - b * c)) (-b * (a * d - b * c)) (-c * (a * d - b * c)) (a * (a * d - b * c)) (bkX a b c d x y) (bkY a b c d x y) = true := by
  have hm := motB_mat h
  have hk := motB_kind h
  have hi : matB (d * (a * d - b * c)) (-b * (a * d - b * c)) (-c * (a * d - b * c)) (a * (a * d - b * c)) = true := by
    have hl := inv_lim hm
    have hd := matB_det hm
    generalize ht : a * d - b * c = t at hl hd ⊢
    have e : d * t * (a * t) - -b * t * (-c * t) = t * t * t := by rw [← ht]; grind
    have h3 : t * t * t = 1 ∨ t * t * t = -1 := by rcases hd with rfl | rfl <;> simp
    simp only [matB, hl, Bool.true_and, e]
    rcases h3 with e | e <;> rw [e] <;> rfl
  have ho : (ordT a b c d != 0) = true := by rw [kind_ord hm]; simpa using hk
  have hq : (ordT (d * (a * d - b * c)) (-b * (a * d - b * c)) (-c * (a * d - b * c)) (a * (a * d - b * c)) != 0) = true := by
    rcases matB_det hm with e | e
    · rw [e]
      simp only [Int.mul_one]
      have e1 : unitB d (-b) (-c) a = unitB a b c d := by
        unfold unitB
        rw [Bool.eq_iff_iff]
        simp only [Bool.and_eq_true, beq_iff_eq]
        omega
      have e2 : (d == -1 && -b == 0 && -c == 0 && a == -1) = (a == -1 && b == 0 && c == 0 && d == -1) := by
        rw [Bool.eq_iff_iff]
        simp only [Bool.and_eq_true, beq_iff_eq]
        omega
      have e3 : d * a - -b * -c = a * d - b * c := by grind
      have e4 : d + a = a + d := by omega
      unfold ordT at ho ⊢
      rw [e1, e2, e3, e4]
      exact ho
    · have hr : reflB a b c d = true := by
        have := mot_refl h
        rw [e] at this
        exact this.symm
      have htr : a + d = 0 := by simp [reflB] at hr; exact hr.2
      have h2 : reflB (d * (a * d - b * c)) (-b * (a * d - b * c)) (-c * (a * d - b * c)) (a * (a * d - b * c)) = true := by
        rw [e]
        have e3 : d * -1 * (a * -1) - -b * -1 * (-c * -1) = a * d - b * c := by grind
        unfold reflB
        rw [e3, e]
        have : d * -1 + a * -1 = 0 := by omega
        rw [this]
        rfl
      rw [refl_ord h2]
      rfl
  rw [kind_ord hi] at hq
  simp only [motB, hi, hq, hv, Bool.true_and]
theorem inv_cmp {a b c d x y : Int} (h : (ibkR a b c d x y).2.2.2.2.2.2 = 0) :
    cmpR a b c d x y (ibkR a b c d x y).1 (ibkR a b c d x y).2.1 (ibkR a b c d x y).2.2.1 (ibkR a b c d x y).2.2.2.1 (ibkR a b c d x y).2.2.2.2.1 (ibkR a b c d x y).2.2.2.2.2.1 = (1, 0, 0, 1, 0, 0, 0) := by
  unfold ibkR at *
  rcases hm : motB a b c d x y with _ | _
  · simp [hm] at h
  rcases hv : vecB (bkX a b c d x y) (bkY a b c d x y) with _ | _
  · simp [hm, hv] at h
  simp only [hm, hv, cond_true]
  have hi := inv_mot hm hv
  have hd := matB_det (motB_mat hm)
  clear h
  unfold cmpR
  rw [hm, hi]
  have f5 : a * bkX a b c d x y + b * bkY a b c d x y + x = 0 := by
    unfold bkX bkY
    generalize ht : a * d - b * c = t at hd ⊢
    have : a * ((d * t * x + -b * t * y) * -1) + b * ((-c * t * x + a * t * y) * -1) + x = x - t * (a * d - b * c) * x := by grind
    rw [this, ht]
    rcases hd with rfl | rfl <;> simp
  have f6 : c * bkX a b c d x y + d * bkY a b c d x y + y = 0 := by
    unfold bkX bkY
    generalize ht : a * d - b * c = t at hd ⊢
    have : c * ((d * t * x + -b * t * y) * -1) + d * ((-c * t * x + a * t * y) * -1) + y = y - t * (a * d - b * c) * y := by grind
    rw [this, ht]
    rcases hd with rfl | rfl <;> simp
  rw [f5, f6]
  generalize ht : a * d - b * c = t at hd ⊢
  have e1 : a * (d * t) + b * (-c * t) = 1 := by rcases hd with rfl | rfl <;> grind
  have e2 : a * (-b * t) + b * (a * t) = 0 := by grind
  have e3 : c * (d * t) + d * (-c * t) = 0 := by grind
  have e4 : c * (-b * t) + d * (a * t) = 1 := by rcases hd with rfl | rfl <;> grind
  rw [e1, e2, e3, e4]
  rfl
theorem apm_ok {a b c d x y p q : Int} (h : (apmR a b c d x y p q).2.2 = 0) : apmR a b c d x y p q = (a * p + b * q + x, c * p + d * q + y, 0) := by
  unfold apmR at *
  rcases h1 : (motB a b c d x y && vecB p q) with _ | _
  · simp [h1] at h
  rcases h2 : vecB (a * p + b * q + x) (c * p + d * q + y) with _ | _
  · simp [h1, h2] at h
  simp [h1, h2]
theorem cmp_ok {a b c d x y a' b' c' d' x' y' : Int} (h : (cmpR a b c d x y a' b' c' d' x' y').2.2.2.2.2.2 = 0) : cmpR a b c d x y a' b' c' d' x' y' = (a * a' + b * c', a * b' + b * d', c * a' + d * c', c * b' + d * d', a * x' + b * y' + x, c * x' + d * y' + y, 0) := by
  unfold cmpR at *
  rcases h1 : (motB a b c d x y && motB a' b' c' d' x' y') with _ | _
  · simp [h1] at h
  rcases h2 : (vecB (a * x' + b * y' + x) (c * x' + d * y' + y) && limB (a * a' + b * c') (a * b' + b * d') (c * a' + d * c') (c * b' + d * d')) with _ | _
  · simp [h1, h2] at h
  rcases h3 : motB (a * a' + b * c') (a * b' + b * d') (c * a' + d * c') (c * b' + d * d') (a * x' + b * y' + x) (c * x' + d * y' + y) with _ | _
  · simp [h1, h2, h3] at h
  simp [h1, h2, h3]
theorem apm_comp {a b c d x y a' b' c' d' x' y' p q : Int} (h : (cmpR a b c d x y a' b' c' d' x' y').2.2.2.2.2.2 = 0) (h6 : (apmR a' b' c' d' x' y' p q).2.2 = 0)
    (h7 : (apmR a b c d x y (apmR a' b' c' d' x' y' p q).1 (apmR a' b' c' d' x' y' p q).2.1).2.2 = 0)
    (h8 : (apmR (cmpR a b c d x y a' b' c' d' x' y').1 (cmpR a b c d x y a' b' c' d' x' y').2.1 (cmpR a b c d x y a' b' c' d' x' y').2.2.1 (cmpR a b c d x y a' b' c' d' x' y').2.2.2.1 (cmpR a b c d x y a' b' c' d' x' y').2.2.2.2.1 (cmpR a b c d x y a' b' c' d' x' y').2.2.2.2.2.1 p q).2.2 = 0) :
    ((apmR a b c d x y (apmR a' b' c' d' x' y' p q).1 (apmR a' b' c' d' x' y' p q).2.1).1 == (apmR (cmpR a b c d x y a' b' c' d' x' y').1 (cmpR a b c d x y a' b' c' d' x' y').2.1 (cmpR a b c d x y a' b' c' d' x' y').2.2.1 (cmpR a b c d x y a' b' c' d' x' y').2.2.2.1 (cmpR a b c d x y a' b' c' d' x' y').2.2.2.2.1 (cmpR a b c d x y a' b' c' d' x' y').2.2.2.2.2.1 p q).1) = true ∧
    ((apmR a b c d x y (apmR a' b' c' d' x' y' p q).1 (apmR a' b' c' d' x' y' p q).2.1).2.1 == (apmR (cmpR a b c d x y a' b' c' d' x' y').1 (cmpR a b c d x y a' b' c' d' x' y').2.1 (cmpR a b c d x y a' b' c' d' x' y').2.2.1 (cmpR a b c d x y a' b' c' d' x' y').2.2.2.1 (cmpR a b c d x y a' b' c' d' x' y').2.2.2.2.1 (cmpR a b c d x y a' b' c' d' x' y').2.2.2.2.2.1 p q).2.1) = true := by
  rw [apm_ok h8, apm_ok h7, apm_ok h6, cmp_ok h]
  simp only [beq_iff_eq]
  constructor <;> grind
theorem knd_vals {a b c d x y : Int} (h : motB a b c d x y = true) :
    (knd a b c d x y = 0 ∧ omoI a b c d x y = 1) ∨ (knd a b c d x y = 3 ∧ omoI a b c d x y = 2) ∨ (knd a b c d x y = 2 ∧ (omoI a b c d x y = 2 ∨ omoI a b c d x y = 3 ∨ omoI a b c d x y = 4 ∨ omoI a b c d x y = 6)) ∨ ((knd a b c d x y = 1 ∨ knd a b c d x y = 4) ∧ omoI a b c d x y = 0) := by
  rcases hr : reflB a b c d with _ | _
  · rcases hu : unitB a b c d with _ | _
    · have hk : knd a b c d x y = 2 := by simp [knd, hr, hu]
      right; right; left
      refine ⟨hk, ?_⟩
      obtain ⟨hd, t1, t2⟩ := rot_of h hk
      have ho : omoI a b c d x y = ordT a b c d := by simp [omoI, hk]
      rw [ho]
      have hq : (ordT a b c d != 0) = true := by rw [kind_ord (motB_mat h)]; simpa using motB_kind h
      rcases hn : (a == -1 && b == 0 && c == 0 && d == -1) with _ | _
      · have hd1 : (a * d - b * c == -1) = false := by rw [hd]; rfl
        have e : ordT a b c d = bif a + d == -1 then 3 else bif a + d == 0 then 4 else bif a + d == 1 then 6 else 0 := by simp [ordT, hu, hn, hd1]
        rw [e] at hq ⊢
        rcases h1 : a + d == -1 with _ | _
        · rcases h2 : a + d == 0 with _ | _
          · rcases h3 : a + d == 1 with _ | _
            · simp [h1, h2, h3] at hq
            · simp
          · simp
        · simp
      · left; simp [ordT, hu, hn]
    · rcases hx : (x == 0 && y == 0) with _ | _
      · right; right; right
        have hk : knd a b c d x y = 1 := by simp [knd, hr, hu, hx]
        exact ⟨.inl hk, by simp [omoI, hk]⟩
      · left
        have hk : knd a b c d x y = 0 := by simp [knd, hr, hu, hx]
        exact ⟨hk, by simp [omoI, hk, ordT, hu]⟩
  · rcases hx : (a * x + b * y + x == 0 && c * x + d * y + y == 0) with _ | _
    · right; right; right
      have hk : knd a b c d x y = 4 := by simp [knd, hr, hx]
      exact ⟨.inr hk, by simp [omoI, hk]⟩
    · right; left
      have hk : knd a b c d x y = 3 := by simp [knd, hr, hx]
      exact ⟨hk, by simp [omoI, hk, refl_ord hr]⟩
theorem twg_ok {a b c d x y : Int} (h : (twgR a b c d x y).2.2 = 0) : motB a b c d x y = true ∧ ((knd a b c d x y = 3 ∧ (twgR a b c d x y).1 = 0 ∧ (twgR a b c d x y).2.1 = 0) ∨ (knd a b c d x y = 4 ∧ ((twgR a b c d x y).1 == 0 && (twgR a b c d x y).2.1 == 0) = false)) := by
  unfold twgR at *
  rcases hm : motB a b c d x y with _ | _
  · simp [hm] at h
  rcases hr : reflB a b c d with _ | _
  · simp [hm, hr] at h
  rcases hv : vecB (a * x + b * y + x) (c * x + d * y + y) with _ | _
  · simp [hm, hr, hv] at h
  refine ⟨rfl, ?_⟩
  simp only [hm, hr, hv, cond_true]
  rcases hx : (a * x + b * y + x == 0 && c * x + d * y + y == 0) with _ | _
  · right; exact ⟨by simp [knd, hr, hx], rfl⟩
  · left
    refine ⟨by simp [knd, hr, hx], ?_⟩
    simpa using hx
end Go.Proofs.YtpdekopmnchanabDoor
