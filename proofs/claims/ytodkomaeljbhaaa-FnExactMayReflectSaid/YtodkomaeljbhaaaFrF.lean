/-
  Plain facts of chapter 4: norms of vectors, bases of a lattice, what Gauss's reduction leaves, sorted lists of vectors, near and shortest vectors, the last best one. No condition but those stated.
-/
import Derived.Test.YtodkomaeljbhaaaLatF
namespace Go.Proofs.Ytodkomaeljbhaaa
open Go.RowKit
set_option linter.unusedVariables false
set_option linter.unusedSimpArgs false

def nrmI (f x y : Int) : Int := x * x + y * y + f * (x * y)
def frB (f : Int) : Bool := f == 0 || f == 1
theorem frB_iff {f : Int} : frB f = true ↔ f = 0 ∨ f = 1 := by simp [frB]
theorem frB_not {f : Int} : frB f = false ↔ ¬ f = 0 ∧ ¬ f = 1 := by simp [frB]
theorem sq_nn (a : Int) : 0 ≤ a * a := by
  rcases Int.le_total 0 a with h | h
  · exact Int.mul_nonneg h h
  · exact Int.mul_nonneg_of_nonpos_of_nonpos h h
theorem sq_ge {a : Int} {k : Int} (hk : 0 ≤ k) (h : k ≤ a ∨ a ≤ -k) : k * k ≤ a * a := by
  rcases h with h | h
  · exact Int.mul_le_mul h h hk (by omega)
  · have := Int.mul_le_mul (show k ≤ -a by omega) (show k ≤ -a by omega) hk (by omega)
    rwa [Int.neg_mul_neg] at this
theorem sq_lt {a k : Int} (hk : 0 ≤ k) (h : a * a < (k + 1) * (k + 1)) : -k ≤ a ∧ a ≤ k := by
  by_cases h1 : -k ≤ a ∧ a ≤ k
  · exact h1
  · have := sq_ge (a := a) (k := k + 1) (by omega) (by omega)
    omega
theorem nrm_coord {f x y : Int} (hf : frB f = true) : 3 * (x * x) ≤ 4 * nrmI f x y ∧ 3 * (y * y) ≤ 4 * nrmI f x y := by
  rcases frB_iff.1 hf with rfl | rfl
  · have h1 := sq_nn x
    have h2 := sq_nn y
    have e : nrmI 0 x y = x * x + y * y := by simp [nrmI]
    rw [e]; omega
  · have h1 := sq_nn (x + 2 * y)
    have h2 := sq_nn (2 * x + y)
    have e1 : 4 * nrmI 1 x y = 3 * (x * x) + (x + 2 * y) * (x + 2 * y) := by unfold nrmI; grind
    have e2 : 4 * nrmI 1 x y = 3 * (y * y) + (2 * x + y) * (2 * x + y) := by unfold nrmI; grind
    omega
theorem nrm_nn {f : Int} (hf : frB f = true) (x y : Int) : 0 ≤ nrmI f x y := by
  have h1 := (nrm_coord (x := x) (y := y) hf).1
  have h2 := sq_nn x
  omega
theorem nrm_zero {f x y : Int} (hf : frB f = true) (h : nrmI f x y ≤ 0) : x = 0 ∧ y = 0 := by
  obtain ⟨h1, h2⟩ := nrm_coord (x := x) (y := y) hf
  have hx := sq_lt (a := x) (k := 0) (by omega) (by omega)
  have hy := sq_lt (a := y) (k := 0) (by omega) (by omega)
  omega
theorem nrm_pos {f x y : Int} (hf : frB f = true) (h : ¬ (x = 0 ∧ y = 0)) : 0 < nrmI f x y := by
  by_cases h1 : 0 < nrmI f x y
  · exact h1
  · exact absurd (nrm_zero hf (by omega)) h
theorem nrm_box {f x y n k : Int} (hf : frB f = true) (hk : 0 ≤ k) (h : nrmI f x y ≤ n) (h1 : 4 * n < 3 * ((k + 1) * (k + 1))) : (-k ≤ x ∧ x ≤ k) ∧ (-k ≤ y ∧ y ≤ k) := by
  obtain ⟨a1, a2⟩ := nrm_coord (x := x) (y := y) hf
  exact ⟨sq_lt hk (by omega), sq_lt hk (by omega)⟩
theorem nrm_neg (f x y : Int) : nrmI f (-x) (-y) = nrmI f x y := by unfold nrmI; grind

def tI (f ux uy vx vy : Int) : Int := 2 * (ux * vx + uy * vy) + f * (ux * vy + uy * vx)
theorem nrm_comb (f ux uy vx vy a b : Int) : nrmI f (a * ux + b * vx) (a * uy + b * vy) = a * a * nrmI f ux uy + a * b * tI f ux uy vx vy + b * b * nrmI f vx vy := by
  unfold nrmI tI; grind
theorem nrm_sum (f ux uy vx vy : Int) : nrmI f (ux + vx) (uy + vy) = nrmI f ux uy + tI f ux uy vx vy + nrmI f vx vy := by
  unfold nrmI tI; grind
theorem disc (f ux uy vx vy : Int) : 4 * (nrmI f ux uy * nrmI f vx vy) - tI f ux uy vx vy * tI f ux uy vx vy = (4 - f * f) * ((ux * vy - uy * vx) * (ux * vy - uy * vx)) := by
  unfold nrmI tI; grind

/- the lattice as sums of multiples -/
def inL (A B C x y : Int) : Prop := ∃ a b : Int, x = a * A + b * B ∧ y = b * C
theorem inL_iff {A B C : Int} (hC : C ≠ 0) (x y : Int) : hasI A B C x y ↔ inL A B C x y := by
  constructor
  · rintro ⟨⟨k, rfl⟩, j, hj⟩
    rw [Int.mul_ediv_cancel_left _ hC] at hj
    exact ⟨j, k, by rw [Int.mul_comm j A]; omega, Int.mul_comm _ _⟩
  · rintro ⟨a, b, rfl, rfl⟩
    refine ⟨⟨b, Int.mul_comm _ _⟩, a, ?_⟩
    rw [Int.mul_ediv_cancel _ hC]
    grind
theorem inL_comb {A B C x y x' y' : Int} (h : inL A B C x y) (h' : inL A B C x' y') (m n : Int) : inL A B C (m * x + n * x') (m * y + n * y') := by
  obtain ⟨a, b, rfl, rfl⟩ := h
  obtain ⟨a', b', rfl, rfl⟩ := h'
  exact ⟨m * a + n * a', m * b + n * b', by grind, by grind⟩
structure Bas (A B C ux uy vx vy : Int) : Prop where
  hu : inL A B C ux uy
  hv : inL A B C vx vy
  hd : ux * vy - uy * vx = A * C ∨ ux * vy - uy * vx = -(A * C)
theorem Bas.start {A B C : Int} : Bas A B C A 0 B C := ⟨⟨1, 0, by simp, by simp⟩, ⟨0, 1, by simp, by simp⟩, .inl (by simp)⟩
theorem Bas.swap {A B C ux uy vx vy : Int} (h : Bas A B C ux uy vx vy) : Bas A B C vx vy ux uy :=
  ⟨h.hv, h.hu, by rcases h.hd with e | e; · right; grind
                  · left; grind⟩
theorem Bas.add {A B C ux uy vx vy : Int} (h : Bas A B C ux uy vx vy) (k : Int) : Bas A B C ux uy (vx + ux * k) (vy + uy * k) := by
  refine ⟨h.hu, ?_, ?_⟩
  · have := inL_comb h.hv h.hu 1 k
    rwa [show 1 * vx + k * ux = vx + ux * k by grind, show 1 * vy + k * uy = vy + uy * k by grind] at this
  · rcases h.hd with e | e
    · left; grind
    · right; grind
theorem Bas.span {A B C ux uy vx vy x y : Int} (h0 : A * C ≠ 0) (h : Bas A B C ux uy vx vy) (hw : inL A B C x y) : ∃ a b : Int, x = a * ux + b * vx ∧ y = a * uy + b * vy := by
  obtain ⟨a1, b1, rfl, rfl⟩ := hw
  obtain ⟨⟨p1, q1, rfl, rfl⟩, ⟨p2, q2, rfl, rfl⟩, hd⟩ := h
  have hs : p1 * q2 - p2 * q1 = 1 ∨ p1 * q2 - p2 * q1 = -1 := by
    rcases hd with e | e
    · left; exact Int.eq_of_mul_eq_mul_left h0 (by grind)
    · right; exact Int.eq_of_mul_eq_mul_left h0 (by grind)
  rcases hs with e | e
  · refine ⟨a1 * q2 - p2 * b1, p1 * b1 - a1 * q1, ?_, ?_⟩ <;> grind
  · refine ⟨-(a1 * q2 - p2 * b1), -(p1 * b1 - a1 * q1), ?_, ?_⟩ <;> grind

/- which sums of multiples of a reduced basis are short -/
theorem small1 {p q a b : Int} (hp : 0 < p) (hpq : p ≤ q) (hb : b ≠ 0) (h : a * a * p - a * b * p + b * b * q ≤ q) : (-1 ≤ a ∧ a ≤ 1) ∧ (-1 ≤ b ∧ b ≤ 1) := by
  have e1 : 0 ≤ p * ((2 * a - b) * (2 * a - b)) := Int.mul_nonneg (by omega) (sq_nn _)
  have e2 : p * (b * b) ≤ q * (b * b) := Int.mul_le_mul_of_nonneg_right hpq (sq_nn b)
  have e3 : p * ((2 * a - b) * (2 * a - b)) = 4 * (a * a * p - a * b * p + b * b * q) + p * (b * b) - 4 * (q * (b * b)) := by grind
  have e4 : 3 * (q * (b * b)) ≤ 4 * q := by omega
  have hb1 : -1 ≤ b ∧ b ≤ 1 := by
    by_cases h1 : -1 ≤ b ∧ b ≤ 1
    · exact h1
    · have h2 := sq_ge (a := b) (k := 2) (by omega) (by omega)
      have h3 := Int.mul_le_mul_of_nonneg_left h2 (show 0 ≤ q by omega)
      omega
  refine ⟨?_, hb1⟩
  by_cases ha : -1 ≤ a ∧ a ≤ 1
  · exact ha
  · have hbb : b = 1 ∨ b = -1 := by omega
    have hk : 1 ≤ a * (a - b) := by
      rcases Int.le_total 0 a with h0 | h0
      · have := Int.mul_le_mul (show 2 ≤ a by omega) (show 1 ≤ a - b by omega) (by omega) (by omega)
        omega
      · have := Int.mul_le_mul (show 2 ≤ -a by omega) (show 1 ≤ -(a - b) by omega) (by omega) (by omega)
        rw [Int.neg_mul_neg] at this
        omega
    have h4 := Int.mul_le_mul_of_nonneg_left hk (show 0 ≤ p by omega)
    have h5 : b * b * q = q := by rcases hbb with rfl | rfl <;> omega
    have h6 : p * (a * (a - b)) = a * a * p - a * b * p := by grind
    omega
theorem small_comb {p q t a b : Int} (hp : 0 < p) (hpq : p ≤ q) (h1 : -p ≤ t) (h2 : t ≤ p) (h : a * a * p + a * b * t + b * b * q ≤ q) : b = 0 ∨ ((-1 ≤ a ∧ a ≤ 1) ∧ (-1 ≤ b ∧ b ≤ 1)) := by
  by_cases hb : b = 0
  · exact .inl hb
  · right
    rcases Int.le_total 0 (a * b) with h0 | h0
    · have e := Int.mul_le_mul_of_nonneg_left h1 h0
      exact small1 hp hpq hb (by have e1 : a * b * -p = -(a * b * p) := by grind
                                 omega)
    · have e := Int.mul_le_mul_of_nonneg_left h2 (show 0 ≤ -(a * b) by omega)
      have := small1 (a := -a) hp hpq hb (by have e1 : -(a * b) * t = -(a * b * t) := by grind
                                             have e2 : -(a * b) * p = -(a * b * p) := by grind
                                             have e3 : -a * -a * p = a * a * p := by grind
                                             have e4 : -a * b * p = -(a * b * p) := by grind
                                             omega)
      omega
structure Red (f ux uy vx vy : Int) : Prop where
  hpq : nrmI f ux uy ≤ nrmI f vx vy
  lo : -(nrmI f ux uy) ≤ tI f ux uy vx vy
  hi : tI f ux uy vx vy ≤ nrmI f ux uy

/- one round of Gauss's reduction -/
theorem round_t {p t k : Int} (hp : 0 < p) (hk : k = (p + t) / (2 * p)) : -p ≤ t - 2 * (k * p) ∧ t - 2 * (k * p) < p ∧ k * k * p - k * t ≤ 0 := by
  have e1 := Int.emod_add_mul_ediv (p + t) (2 * p)
  have e2 := Int.emod_nonneg (p + t) (show 2 * p ≠ 0 by omega)
  have e3 := Int.emod_lt_of_pos (p + t) (show 0 < 2 * p by omega)
  rw [← hk] at e1
  generalize (p + t) % (2 * p) = r at *
  have e4 : 2 * p * k = 2 * (k * p) := by grind
  have h1 : -p ≤ t - 2 * (k * p) := by omega
  have h2 : t - 2 * (k * p) < p := by omega
  refine ⟨h1, h2, ?_⟩
  have e5 : k * k * p - k * t = k * (k * p - t) := by grind
  rw [e5]
  rcases Int.lt_trichotomy k 0 with h | h | h
  · have h3 : k * p ≤ -1 * p := Int.mul_le_mul_of_nonneg_right (by omega) (by omega)
    exact Int.mul_nonpos_of_nonpos_of_nonneg (by omega) (by omega)
  · subst h; omega
  · have h3 : 1 * p ≤ k * p := Int.mul_le_mul_of_nonneg_right (by omega) (by omega)
    exact Int.mul_nonpos_of_nonneg_of_nonpos (by omega) (by omega)
theorem nrm_shift (f ux uy vx vy k : Int) : nrmI f (vx + ux * -k) (vy + uy * -k) = nrmI f vx vy + (k * k * nrmI f ux uy - k * tI f ux uy vx vy) ∧ tI f ux uy (vx + ux * -k) (vy + uy * -k) = tI f ux uy vx vy - 2 * (k * nrmI f ux uy) := by
  unfold nrmI tI; constructor <;> grind

/- order of vectors -/
def lexlt (a b : Int × Int) : Prop := a.1 < b.1 ∨ a.1 = b.1 ∧ a.2 < b.2
instance (a b : Int × Int) : Decidable (lexlt a b) := by unfold lexlt; exact inferInstance
theorem lexlt_irrefl (a : Int × Int) : ¬ lexlt a a := by unfold lexlt; omega
theorem lexlt_trans {a b c : Int × Int} (h : lexlt a b) (h' : lexlt b c) : lexlt a c := by unfold lexlt at *; omega
theorem lexlt_tri (a b : Int × Int) : lexlt a b ∨ a = b ∨ lexlt b a := by
  unfold lexlt
  obtain ⟨a1, a2⟩ := a
  obtain ⟨b1, b2⟩ := b
  simp only [Prod.mk.injEq]
  omega
theorem sorted_ext : ∀ {L L' : List (Int × Int)}, L.Pairwise lexlt → L'.Pairwise lexlt → (∀ w, w ∈ L ↔ w ∈ L') → L = L'
  | [], [], _, _, _ => rfl
  | [], b :: L', _, _, h => by have := (h b).2 (by simp); simp at this
  | a :: L, [], _, _, h => by have := (h a).1 (by simp); simp at this
  | a :: L, b :: L', h1, h2, h => by
    rw [List.pairwise_cons] at h1 h2
    have hab : a = b := by
      have m1 := (h a).1 (by simp)
      have m2 := (h b).2 (by simp)
      rw [List.mem_cons] at m1 m2
      rcases m1 with m1 | m1
      · exact m1
      · rcases m2 with m2 | m2
        · exact m2.symm
        · exact absurd (lexlt_trans (h1.1 _ m2) (h2.1 _ m1)) (lexlt_irrefl _)
    subst hab
    rw [sorted_ext h1.2 h2.2 (fun w => ?_)]
    constructor
    · intro hw
      have := (h w).1 (by simp [hw])
      rw [List.mem_cons] at this
      rcases this with rfl | this
      · exact absurd (h1.1 _ hw) (lexlt_irrefl _)
      · exact this
    · intro hw
      have := (h w).2 (by simp [hw])
      rw [List.mem_cons] at this
      rcases this with rfl | this
      · exact absurd (h2.1 _ hw) (lexlt_irrefl _)
      · exact this

/- near vectors -/
def nearR (f n b x : Int) (j : Nat) : List (Int × Int) := ((List.range j).map (fun k : Nat => (x, (k : Int) - b))).filter (fun v => decide (nrmI f v.1 v.2 ≤ n))
def nearP (f n b : Int) (m k : Nat) : List (Int × Int) := (List.range k).flatMap (fun i : Nat => nearR f n b ((i : Int) - b) m)
def nearL (f n : Int) (b : Nat) : List (Int × Int) := nearP f n b (2 * b + 1) (2 * b + 1)
theorem nearR_succ (f n b x : Int) (j : Nat) : nearR f n b x (j + 1) = nearR f n b x j ++ (if nrmI f x ((j : Int) - b) ≤ n then [(x, (j : Int) - b)] else []) := by
  unfold nearR
  rw [List.range_succ, List.map_append, List.filter_append]
  congr 1
  by_cases h : nrmI f x ((j : Int) - b) ≤ n <;> simp [h]
theorem nearP_succ (f n b : Int) (m k : Nat) : nearP f n b m (k + 1) = nearP f n b m k ++ nearR f n b ((k : Int) - b) m := by
  unfold nearP; rw [List.range_succ, List.flatMap_append]; simp
theorem nearR_len (f n b x : Int) (j : Nat) : (nearR f n b x j).length ≤ j := by
  unfold nearR
  refine Nat.le_trans (List.length_filter_le _ _) ?_
  simp
theorem nearP_len (f n b : Int) (m : Nat) : ∀ k, (nearP f n b m k).length ≤ k * m
  | 0 => by simp [nearP]
  | k + 1 => by
    rw [nearP_succ, List.length_append, Nat.succ_mul]
    have := nearP_len f n b m k
    have := nearR_len f n b ((k : Int) - b) m
    omega
theorem nearL_mem {f n : Int} {b : Nat} {v : Int × Int} : v ∈ nearL f n b ↔ ((-(b : Int) ≤ v.1 ∧ v.1 ≤ b) ∧ (-(b : Int) ≤ v.2 ∧ v.2 ≤ b)) ∧ nrmI f v.1 v.2 ≤ n := by
  obtain ⟨x, y⟩ := v
  unfold nearL nearP nearR
  simp only [List.mem_flatMap, List.mem_range, List.mem_filter, List.mem_map, decide_eq_true_eq, Prod.mk.injEq]
  constructor
  · rintro ⟨i, hi, ⟨k, hk, rfl, rfl⟩, hn⟩
    exact ⟨by omega, hn⟩
  · rintro ⟨⟨⟨h1, h2⟩, h3, h4⟩, hn⟩
    exact ⟨(x + b).toNat, by omega, ⟨(y + b).toNat, by omega, by omega, by omega⟩, hn⟩
theorem nearL_sorted (f n : Int) (b : Nat) : (nearL f n b).Pairwise lexlt := by
  unfold nearL nearP
  rw [List.pairwise_flatMap]
  constructor
  · intro i _
    unfold nearR
    refine List.Pairwise.filter _ ?_
    rw [List.pairwise_map]
    refine List.Pairwise.imp ?_ List.pairwise_lt_range
    intro a c hac
    unfold lexlt
    right
    exact ⟨rfl, by dsimp only; omega⟩
  · refine List.Pairwise.imp ?_ List.pairwise_lt_range
    intro a c hac x hx y hy
    unfold nearR at hx hy
    simp only [List.mem_filter, List.mem_map] at hx hy
    obtain ⟨⟨_, _, rfl⟩, _⟩ := hx
    obtain ⟨⟨_, _, rfl⟩, _⟩ := hy
    left
    dsimp only
    omega
/- the near vectors do not depend on the bound of their numbers, once it is great enough -/
theorem nearL_same {f n : Int} {b b' : Nat} (hf : frB f = true) (h : ∀ x : Int, 3 * (x * x) ≤ 4 * n → -(b : Int) ≤ x ∧ x ≤ b) (h' : ∀ x : Int, 3 * (x * x) ≤ 4 * n → -(b' : Int) ≤ x ∧ x ≤ b') : nearL f n b = nearL f n b' := by
  refine sorted_ext (nearL_sorted f n b) (nearL_sorted f n b') (fun w => ?_)
  rw [nearL_mem, nearL_mem]
  constructor
  · rintro ⟨_, hn⟩
    obtain ⟨a1, a2⟩ := nrm_coord (x := w.1) (y := w.2) hf
    exact ⟨⟨h' _ (by omega), h' _ (by omega)⟩, hn⟩
  · rintro ⟨_, hn⟩
    obtain ⟨a1, a2⟩ := nrm_coord (x := w.1) (y := w.2) hf
    exact ⟨⟨h _ (by omega), h _ (by omega)⟩, hn⟩
end Go.Proofs.Ytodkomaeljbhaaa
