/-
  Contracts of chapter 2's kinds and axes: the program's function and the model's have one and the same answer. Conditions: only those that are stated.
-/
import Derived.Test.YtodkomaeljbhaaaMat4
import Derived.Test.YtodkomaeljbhaaaCmpQ
import Derived.Test.YtodkomaeljbhaaaGcd
import Derived.IntWalk
import Derived.RegionTactic
namespace Go.Proofs.Ytodkomaeljbhaaa
open Go.RowKit
set_option linter.unusedSimpArgs false
set_option linter.unusedVariables false

def axB (a b c d : Int) : Int × Int := bif a + 1 == 0 && c == 0 then (b, d + 1) else (a + 1, c)
def axR (x y : Int) : Int × Int := bif lessB x y 0 0 then (-(x.tdiv (gcdI x y)), -(y.tdiv (gcdI x y))) else (x.tdiv (gcdI x y), y.tdiv (gcdI x y))
def axP (a b c d : Int) : Int × Int := axR (axB a b c d).1 (axB a b c d).2
def axVal (a b c d : Int) : Value := .agg #[.int .i64 ((axP a b c d).1), .int .i64 ((axP a b c d).2)]
theorem gcdI_pos {x y : Int} (h : ¬ (x = 0 ∧ y = 0)) : 1 ≤ gcdI x y := by
  have h3 : gcdI x y = ((Nat.gcd x.natAbs y.natAbs : Nat) : Int) := rfl
  have : 0 < Nat.gcd x.natAbs y.natAbs := by
    rcases Nat.eq_zero_or_pos (Nat.gcd x.natAbs y.natAbs) with e | e
    · have := Nat.gcd_eq_zero_iff.1 e
      omega
    · exact e
  omega
theorem gcdI_bdq {x y : Int} (h : ¬ (x = 0 ∧ y = 0)) (hx : -1001 ≤ x) (hx' : x ≤ 1001) (hy : -1001 ≤ y) (hy' : y ≤ 1001) : gcdI x y ≤ 1001 := by
  have h3 : gcdI x y = ((Nat.gcd x.natAbs y.natAbs : Nat) : Int) := rfl
  by_cases h0 : x = 0
  · subst h0
    have h2 : Nat.gcd (Int.natAbs 0) y.natAbs = y.natAbs := by simp
    omega
  · have h2 : Nat.gcd x.natAbs y.natAbs ≤ x.natAbs := Nat.gcd_le_left _ (by omega)
    omega
theorem tdivBq (x d : Int) (hx : -1001 ≤ x) (hx' : x ≤ 1001) : -1001 ≤ x.tdiv d ∧ x.tdiv d ≤ 1001 := by
  have h : (x.tdiv d).natAbs ≤ x.natAbs := by rw [Int.natAbs_tdiv]; exact Nat.div_le_self _ _
  omega
theorem tdiv_signq {x g : Int} (hg : 1 ≤ g) (hd : g ∣ x) : (x.tdiv g < 0 ↔ x < 0) ∧ (x.tdiv g = 0 ↔ x = 0) := by
  obtain ⟨k, rfl⟩ := hd
  rw [Int.mul_tdiv_cancel_left _ (by omega)]
  constructor
  · constructor
    · intro h
      exact Int.mul_neg_of_pos_of_neg (by omega) h
    · intro h
      rcases Int.lt_or_le k 0 with h1 | h1
      · exact h1
      · have := Int.mul_nonneg (show 0 ≤ g by omega) h1
        omega
  · constructor
    · intro h; rw [h]; simp
    · intro h
      rcases Int.mul_eq_zero.1 h with h | h
      · omega
      · exact h
theorem less_divq {x y : Int} (h : ¬ (x = 0 ∧ y = 0)) : lessB (x.tdiv (gcdI x y)) (y.tdiv (gcdI x y)) 0 0 = lessB x y 0 0 := by
  have hg := gcdI_pos h
  obtain ⟨a1, a2⟩ := tdiv_signq hg (show gcdI x y ∣ x from Int.gcd_dvd_left ..)
  obtain ⟨b1, b2⟩ := tdiv_signq hg (show gcdI x y ∣ y from Int.gcd_dvd_right ..)
  unfold lessB
  rw [Bool.eq_iff_iff]
  simp [a1, a2, b1]
theorem cmp_negq {x y : Int} (h : lessB x y 0 0 = true) : cmpWq x y 0 0 < 0 := by
  simp [lessB] at h
  unfold cmpWq orIq cmpIq
  rcases h with h | ⟨h, h'⟩
  · simp [h]
  · subst h; simp [h']
theorem cmp_nnegq {x y : Int} (h : lessB x y 0 0 = false) : ¬ cmpWq x y 0 0 < 0 := by
  simp [lessB] at h
  unfold cmpWq orIq cmpIq
  split <;> (try split) <;> (try split) <;> (try split) <;> omega
theorem wrap0q : IntKind.i64.wrap 0 = 0 := IntWalk.i64_in _ (by omega)
theorem refl_facts {a b c d : Int} (h : reflB a b c d = true) : a * d - b * c = -1 ∧ a + d = 0 := by simpa [reflB] using h

set_option maxHeartbeats 1000000 in
theorem isReflection_any (a b c d : Int) (w : World) (h : limB a b c d = true) :
    Calls Try.prog 35 #[.agg #[.int .i64 a, .int .i64 b, .int .i64 c, .int .i64 d]] w fun e w' => e = .returned (.bool (reflB a b c d)) ∧ Below w.heap.size w w' := by
  rcases h1 : a * d - b * c == -1 with _ | _
  · have ea : reflB a b c d = false := by simp [reflB, h1]
    have EA := Lib.hid ea
    clear ea
    go_enter Try.func35, Try.ntmps35
    go_wp2_with fail
    refine (det_any _ _ _ _ _ h).mono ?_
    rintro e w1 ⟨rfl, hb1⟩
    obtain ⟨hc1, hf1⟩ := bcell hb1
    have hz1a : w.heap.size < w1.heap.size := by have := hb1.size; (try simp at this); omega
    go_wp2
    go_ret
    refine ⟨ret_bool EA.out.symm, ?_⟩
    repeat (first | exact Below.refl _ _ | refine Below.setCell ?_ (by first | omega | (simp <;> omega)) _ | refine Below.alloc ?_ (by first | omega | (simp <;> omega)) _ | refine bstep ?_ (by assumption) | refine Below.drew ?_)
  rcases h2 : a + d == 0 with _ | _
  · have ea : reflB a b c d = false := by simp [reflB, h2]
    have EA := Lib.hid ea
    clear ea
    go_enter Try.func35, Try.ntmps35
    go_wp2_with fail
    refine (det_any _ _ _ _ _ h).mono ?_
    rintro e w1 ⟨rfl, hb1⟩
    obtain ⟨hc1, hf1⟩ := bcell hb1
    have hz1a : w.heap.size < w1.heap.size := by have := hb1.size; (try simp at this); omega
    go_wp2_with fail
    refine (trace_any _ _ _ _ _ h).mono ?_
    rintro e w2 ⟨rfl, hb2⟩
    obtain ⟨hc2, hf2⟩ := bcell hb2
    have hz2a : w.heap.size < w2.heap.size := by have := hb2.size; (try simp at this); omega
    go_wp2
    go_ret
    refine ⟨ret_bool EA.out.symm, ?_⟩
    repeat (first | exact Below.refl _ _ | refine Below.setCell ?_ (by first | omega | (simp <;> omega)) _ | refine Below.alloc ?_ (by first | omega | (simp <;> omega)) _ | refine bstep ?_ (by assumption) | refine Below.drew ?_)
  · have ea : reflB a b c d = true := by simp [reflB, h1, h2]
    have EA := Lib.hid ea
    clear ea
    go_enter Try.func35, Try.ntmps35
    go_wp2_with fail
    refine (det_any _ _ _ _ _ h).mono ?_
    rintro e w1 ⟨rfl, hb1⟩
    obtain ⟨hc1, hf1⟩ := bcell hb1
    have hz1a : w.heap.size < w1.heap.size := by have := hb1.size; (try simp at this); omega
    go_wp2_with fail
    refine (trace_any _ _ _ _ _ h).mono ?_
    rintro e w2 ⟨rfl, hb2⟩
    obtain ⟨hc2, hf2⟩ := bcell hb2
    have hz2a : w.heap.size < w2.heap.size := by have := hb2.size; (try simp at this); omega
    go_wp2
    go_ret
    refine ⟨ret_bool EA.out.symm, ?_⟩
    repeat (first | exact Below.refl _ _ | refine Below.setCell ?_ (by first | omega | (simp <;> omega)) _ | refine Below.alloc ?_ (by first | omega | (simp <;> omega)) _ | refine bstep ?_ (by assumption) | refine Below.drew ?_)

theorem divisor2_any (a b : Int) (w : World) (ha : -1000000 ≤ a) (ha' : a ≤ 1000000) (hb : -1000000 ≤ b) (hb' : b ≤ 1000000) :
    Calls Try.prog 48 #[.int .i64 a, .int .i64 b] w fun e w' => e = .returned (.int .i64 (gcdI a b)) ∧ Below w.heap.size w w' :=
  (divisor_any _ a b w (Nat.lt_succ_self _) ha ha' hb hb').mono fun _ _ ⟨he, hw⟩ => ⟨he, hw ▸ Below.refl _ _⟩

set_option maxHeartbeats 1000000 in
theorem l01Neg_any (x y : Int) (w : World) (hx : -1001 ≤ x) (hx' : x ≤ 1001) (hy : -1001 ≤ y) (hy' : y ≤ 1001) :
    Calls Try.prog 40 #[.agg #[.int .i64 x, .int .i64 y], .int .i64 (-1)] w fun e w' => e = .returned (.agg #[.int .i64 (-x), .int .i64 (-y)]) ∧ Below w.heap.size w w' := by
  go_enter Try.func40, Try.ntmps40
  go_wp2
  refine bodyPost_ret (v := .agg #[.int .i64 (-x), .int .i64 (-y)]) (by simp [results, Try.results40, go_sem]) rfl ⟨rfl, ?_⟩
  repeat (first | exact Below.refl _ _ | refine Below.setCell ?_ (by first | omega | (simp <;> omega)) _ | refine Below.alloc ?_ (by first | omega | (simp <;> omega)) _ | refine bstep ?_ (by assumption) | refine Below.drew ?_)

set_option maxHeartbeats 4000000 in
theorem axis_any (a b c d : Int) (w : World) (h : matB a b c d = true) (hr : reflB a b c d = true) :
    Calls Try.prog 36 #[.agg #[.int .i64 a, .int .i64 b, .int .i64 c, .int .i64 d]] w fun e w' => e = .returned (axVal a b c d) ∧ Below w.heap.size w w' := by
  obtain ⟨hD, hT⟩ := refl_facts hr
  obtain ⟨⟨ha, hb⟩, hc, hd⟩ := limB_bd (matB_lim h)
  obtain ⟨ha, ha'⟩ := ha
  obtain ⟨hb, hb'⟩ := hb
  obtain ⟨hc, hc'⟩ := hc
  obtain ⟨hd, hd'⟩ := hd
  clear h hr
  by_cases h1 : a = -1
  · subst h1
    by_cases h2 : c = 0
    · subst h2
      obtain rfl : d = 1 := by omega
      have hax : axB (-1) b 0 1 = (b, 2) := rfl
      have hxy : ¬ (b = 0 ∧ (2 : Int) = 0) := by omega
      have hg1 := gcdI_pos hxy
      have hg2 := gcdI_bdq hxy (by omega) (by omega) (by omega) (by omega)
      obtain ⟨t1, t2⟩ := tdivBq (b) (gcdI (b) (2)) (by omega) (by omega)
      obtain ⟨t3, t4⟩ := tdivBq (2) (gcdI (b) (2)) (by omega) (by omega)
      obtain ⟨t5, t6⟩ := tdivBq (b) (-gcdI (b) (2)) (by omega) (by omega)
      obtain ⟨t7, t8⟩ := tdivBq (2) (-gcdI (b) (2)) (by omega) (by omega)
      clear hD hT
      rcases hl : lessB b 2 0 0 with _ | _
      · have hc0 := cmp_nnegq hl
        have ea : axVal (-1) b 0 1 = .agg #[.int .i64 ((b).tdiv (gcdI (b) ((2 : Int)))), .int .i64 (((2 : Int)).tdiv (gcdI (b) ((2 : Int))))] := by simp [axVal, axP, axR, hax, hl]
        have EA := Lib.hid ea
        clear ea
        go_enter Try.func36, Try.ntmps36
        clear hl hax
        go_wp2_with fail
        refine (greatest_any _ _ _ (by omega) (by omega) (by omega) (by omega)).mono ?_
        rintro e w1 ⟨rfl, hb1⟩
        obtain ⟨hc1, hf1⟩ := bcell hb1
        obtain ⟨hz1a, hz1b, hz1c⟩ : w.heap.size < w1.heap.size ∧ w.heap.size + 1 < w1.heap.size ∧ w.heap.size + 1 + 1 < w1.heap.size := by have := hb1.size; (try simp at this); omega
        go_wp2_with fail
        refine (vcompareq_any _ _ _ _ _).mono ?_
        rintro e w2 ⟨rfl, hb2⟩
        obtain ⟨hc2, hf2⟩ := bcell hb2
        obtain ⟨hz2a, hz2b, hz2c⟩ : w.heap.size < w2.heap.size ∧ w.heap.size + 1 < w2.heap.size ∧ w.heap.size + 1 + 1 < w2.heap.size := by have := hb2.size; (try simp at this); omega
        go_wp2_with fail
        have K1 : Kg (w.heap.size + 1 + 1) (b) ((2 : Int)) w2 := ⟨hz2c, by simp [go_sem, hc1, hz1a, hz1b, hz1c, hc2, hz2a, hz2b, hz2c], by simp [go_sem, hc1, hz1a, hz1b, hz1c, hc2, hz2a, hz2b, hz2c]⟩
        have hw1 : IntKind.i64.wrap ((b).tdiv (gcdI (b) ((2 : Int)))) = (b).tdiv (gcdI (b) ((2 : Int))) := IntWalk.i64_in _ (by omega)
        have hw2 : IntKind.i64.wrap (((2 : Int)).tdiv (gcdI (b) ((2 : Int)))) = ((2 : Int)).tdiv (gcdI (b) ((2 : Int))) := IntWalk.i64_in _ (by omega)
        have hz0 : ¬ gcdI (b) ((2 : Int)) = 0 := by omega
        go_region_held3 (fun W => W.cell? ⟨w.heap.size + 1 + 1, 0, none⟩ = some (.int .i64 (b)) ∧ W.cell? ⟨w.heap.size + 1 + 1, 1, none⟩ = some (.int .i64 ((2 : Int)))) ((refine Kg.cells ?_; repeat (first | assumption | with_reducible refine Kg.drew ?_ | ((with_reducible refine Kg.far ?_ ?_); (dsimp only; omega))))) (fail)
        go_wp2
        refine bodyPost_ret (v := .agg #[.int .i64 ((b).tdiv (gcdI (b) ((2 : Int)))), .int .i64 (((2 : Int)).tdiv (gcdI (b) ((2 : Int))))]) (by simp [results, Try.results36, go_sem, Int.tdiv_neg, wrap0q, hw1, hw2, hc1, hz1a, hz1b, hz1c, hc2, hz2a, hz2b, hz2c]) rfl ⟨ret_val EA.out.symm, ?_⟩
        repeat (first | exact Below.refl _ _ | refine Below.setCell ?_ (by first | omega | (simp <;> omega)) _ | refine Below.alloc ?_ (by first | omega | (simp <;> omega)) _ | refine bstep ?_ (by assumption) | refine Below.drew ?_)
      · have hc0 := cmp_negq hl
        have ea : axVal (-1) b 0 1 = .agg #[.int .i64 (-((b).tdiv (gcdI (b) ((2 : Int))))), .int .i64 (-(((2 : Int)).tdiv (gcdI (b) ((2 : Int)))))] := by simp [axVal, axP, axR, hax, hl, Int.tdiv_neg]
        have EA := Lib.hid ea
        clear ea
        go_enter Try.func36, Try.ntmps36
        clear hl hax
        go_wp2_with fail
        refine (greatest_any _ _ _ (by omega) (by omega) (by omega) (by omega)).mono ?_
        rintro e w1 ⟨rfl, hb1⟩
        obtain ⟨hc1, hf1⟩ := bcell hb1
        obtain ⟨hz1a, hz1b, hz1c⟩ : w.heap.size < w1.heap.size ∧ w.heap.size + 1 < w1.heap.size ∧ w.heap.size + 1 + 1 < w1.heap.size := by have := hb1.size; (try simp at this); omega
        go_wp2_with fail
        refine (vcompareq_any _ _ _ _ _).mono ?_
        rintro e w2 ⟨rfl, hb2⟩
        obtain ⟨hc2, hf2⟩ := bcell hb2
        obtain ⟨hz2a, hz2b, hz2c⟩ : w.heap.size < w2.heap.size ∧ w.heap.size + 1 < w2.heap.size ∧ w.heap.size + 1 + 1 < w2.heap.size := by have := hb2.size; (try simp at this); omega
        go_wp2_with fail
        have K1 : Kg (w.heap.size + 1 + 1) (b) ((2 : Int)) w2 := ⟨hz2c, by simp [go_sem, hc1, hz1a, hz1b, hz1c, hc2, hz2a, hz2b, hz2c], by simp [go_sem, hc1, hz1a, hz1b, hz1c, hc2, hz2a, hz2b, hz2c]⟩
        have hw1 : IntKind.i64.wrap ((b).tdiv (-gcdI (b) ((2 : Int)))) = (b).tdiv (-gcdI (b) ((2 : Int))) := IntWalk.i64_in _ (by omega)
        have hw2 : IntKind.i64.wrap (((2 : Int)).tdiv (-gcdI (b) ((2 : Int)))) = ((2 : Int)).tdiv (-gcdI (b) ((2 : Int))) := IntWalk.i64_in _ (by omega)
        have hz0 : ¬ -gcdI (b) ((2 : Int)) = 0 := by omega
        go_region_held3 (fun W => W.cell? ⟨w.heap.size + 1 + 1, 0, none⟩ = some (.int .i64 (b)) ∧ W.cell? ⟨w.heap.size + 1 + 1, 1, none⟩ = some (.int .i64 ((2 : Int)))) ((refine Kg.cells ?_; repeat (first | assumption | with_reducible refine Kg.drew ?_ | ((with_reducible refine Kg.far ?_ ?_); (dsimp only; omega))))) (fail)
        have hv1 : IntKind.i64.wrap (-((b).tdiv (gcdI (b) ((2 : Int))))) = -((b).tdiv (gcdI (b) ((2 : Int)))) := IntWalk.i64_in _ (by omega)
        have hv2 : IntKind.i64.wrap (-(((2 : Int)).tdiv (gcdI (b) ((2 : Int))))) = -(((2 : Int)).tdiv (gcdI (b) ((2 : Int)))) := IntWalk.i64_in _ (by omega)
        go_wp2
        refine bodyPost_ret (v := .agg #[.int .i64 (-((b).tdiv (gcdI (b) ((2 : Int))))), .int .i64 (-(((2 : Int)).tdiv (gcdI (b) ((2 : Int)))))]) (by simp [results, Try.results36, go_sem, Int.tdiv_neg, wrap0q, hw1, hw2, hv1, hv2, hc1, hz1a, hz1b, hz1c, hc2, hz2a, hz2b, hz2c]) rfl ⟨ret_val EA.out.symm, ?_⟩
        repeat (first | exact Below.refl _ _ | refine Below.setCell ?_ (by first | omega | (simp <;> omega)) _ | refine Below.alloc ?_ (by first | omega | (simp <;> omega)) _ | refine bstep ?_ (by assumption) | refine Below.drew ?_)
    · obtain rfl : d = 1 := by omega
      have nb : (c == 0) = false := by simpa using h2
      have hax : axB (-1) b c 1 = (0, c) := by simp [axB, nb]
      have hxy : ¬ ((0 : Int) = 0 ∧ c = 0) := by omega
      have hg1 := gcdI_pos hxy
      have hg2 := gcdI_bdq hxy (by omega) (by omega) (by omega) (by omega)
      obtain ⟨t1, t2⟩ := tdivBq (0) (gcdI (0) (c)) (by omega) (by omega)
      obtain ⟨t3, t4⟩ := tdivBq (c) (gcdI (0) (c)) (by omega) (by omega)
      obtain ⟨t5, t6⟩ := tdivBq (0) (-gcdI (0) (c)) (by omega) (by omega)
      obtain ⟨t7, t8⟩ := tdivBq (c) (-gcdI (0) (c)) (by omega) (by omega)
      clear hD hT
      rcases hl : lessB 0 c 0 0 with _ | _
      · have hc0 := cmp_nnegq hl
        have ea : axVal (-1) b c 1 = .agg #[.int .i64 (((0 : Int)).tdiv (gcdI ((0 : Int)) (c))), .int .i64 ((c).tdiv (gcdI ((0 : Int)) (c)))] := by simp [axVal, axP, axR, hax, hl]
        have EA := Lib.hid ea
        clear ea
        go_enter Try.func36, Try.ntmps36
        clear hl hax
        go_wp2_with fail
        refine (greatest_any _ _ _ (by omega) (by omega) (by omega) (by omega)).mono ?_
        rintro e w1 ⟨rfl, hb1⟩
        obtain ⟨hc1, hf1⟩ := bcell hb1
        obtain ⟨hz1a, hz1b, hz1c⟩ : w.heap.size < w1.heap.size ∧ w.heap.size + 1 < w1.heap.size ∧ w.heap.size + 1 + 1 < w1.heap.size := by have := hb1.size; (try simp at this); omega
        go_wp2_with fail
        refine (vcompareq_any _ _ _ _ _).mono ?_
        rintro e w2 ⟨rfl, hb2⟩
        obtain ⟨hc2, hf2⟩ := bcell hb2
        obtain ⟨hz2a, hz2b, hz2c⟩ : w.heap.size < w2.heap.size ∧ w.heap.size + 1 < w2.heap.size ∧ w.heap.size + 1 + 1 < w2.heap.size := by have := hb2.size; (try simp at this); omega
        go_wp2_with fail
        have K1 : Kg (w.heap.size + 1 + 1) ((0 : Int)) (c) w2 := ⟨hz2c, by simp [go_sem, hc1, hz1a, hz1b, hz1c, hc2, hz2a, hz2b, hz2c], by simp [go_sem, hc1, hz1a, hz1b, hz1c, hc2, hz2a, hz2b, hz2c]⟩
        have hw1 : IntKind.i64.wrap (((0 : Int)).tdiv (gcdI ((0 : Int)) (c))) = ((0 : Int)).tdiv (gcdI ((0 : Int)) (c)) := IntWalk.i64_in _ (by omega)
        have hw2 : IntKind.i64.wrap ((c).tdiv (gcdI ((0 : Int)) (c))) = (c).tdiv (gcdI ((0 : Int)) (c)) := IntWalk.i64_in _ (by omega)
        have hz0 : ¬ gcdI ((0 : Int)) (c) = 0 := by omega
        go_region_held3 (fun W => W.cell? ⟨w.heap.size + 1 + 1, 0, none⟩ = some (.int .i64 ((0 : Int))) ∧ W.cell? ⟨w.heap.size + 1 + 1, 1, none⟩ = some (.int .i64 (c))) ((refine Kg.cells ?_; repeat (first | assumption | with_reducible refine Kg.drew ?_ | ((with_reducible refine Kg.far ?_ ?_); (dsimp only; omega))))) (fail)
        go_wp2
        refine bodyPost_ret (v := .agg #[.int .i64 (((0 : Int)).tdiv (gcdI ((0 : Int)) (c))), .int .i64 ((c).tdiv (gcdI ((0 : Int)) (c)))]) (by simp [results, Try.results36, go_sem, Int.tdiv_neg, wrap0q, hw1, hw2, hc1, hz1a, hz1b, hz1c, hc2, hz2a, hz2b, hz2c]) rfl ⟨ret_val EA.out.symm, ?_⟩
        repeat (first | exact Below.refl _ _ | refine Below.setCell ?_ (by first | omega | (simp <;> omega)) _ | refine Below.alloc ?_ (by first | omega | (simp <;> omega)) _ | refine bstep ?_ (by assumption) | refine Below.drew ?_)
      · have hc0 := cmp_negq hl
        have ea : axVal (-1) b c 1 = .agg #[.int .i64 (-(((0 : Int)).tdiv (gcdI ((0 : Int)) (c)))), .int .i64 (-((c).tdiv (gcdI ((0 : Int)) (c))))] := by simp [axVal, axP, axR, hax, hl, Int.tdiv_neg]
        have EA := Lib.hid ea
        clear ea
        go_enter Try.func36, Try.ntmps36
        clear hl hax
        go_wp2_with fail
        refine (greatest_any _ _ _ (by omega) (by omega) (by omega) (by omega)).mono ?_
        rintro e w1 ⟨rfl, hb1⟩
        obtain ⟨hc1, hf1⟩ := bcell hb1
        obtain ⟨hz1a, hz1b, hz1c⟩ : w.heap.size < w1.heap.size ∧ w.heap.size + 1 < w1.heap.size ∧ w.heap.size + 1 + 1 < w1.heap.size := by have := hb1.size; (try simp at this); omega
        go_wp2_with fail
        refine (vcompareq_any _ _ _ _ _).mono ?_
        rintro e w2 ⟨rfl, hb2⟩
        obtain ⟨hc2, hf2⟩ := bcell hb2
        obtain ⟨hz2a, hz2b, hz2c⟩ : w.heap.size < w2.heap.size ∧ w.heap.size + 1 < w2.heap.size ∧ w.heap.size + 1 + 1 < w2.heap.size := by have := hb2.size; (try simp at this); omega
        go_wp2_with fail
        have K1 : Kg (w.heap.size + 1 + 1) ((0 : Int)) (c) w2 := ⟨hz2c, by simp [go_sem, hc1, hz1a, hz1b, hz1c, hc2, hz2a, hz2b, hz2c], by simp [go_sem, hc1, hz1a, hz1b, hz1c, hc2, hz2a, hz2b, hz2c]⟩
        have hw1 : IntKind.i64.wrap (((0 : Int)).tdiv (-gcdI ((0 : Int)) (c))) = ((0 : Int)).tdiv (-gcdI ((0 : Int)) (c)) := IntWalk.i64_in _ (by omega)
        have hw2 : IntKind.i64.wrap ((c).tdiv (-gcdI ((0 : Int)) (c))) = (c).tdiv (-gcdI ((0 : Int)) (c)) := IntWalk.i64_in _ (by omega)
        have hz0 : ¬ -gcdI ((0 : Int)) (c) = 0 := by omega
        go_region_held3 (fun W => W.cell? ⟨w.heap.size + 1 + 1, 0, none⟩ = some (.int .i64 ((0 : Int))) ∧ W.cell? ⟨w.heap.size + 1 + 1, 1, none⟩ = some (.int .i64 (c))) ((refine Kg.cells ?_; repeat (first | assumption | with_reducible refine Kg.drew ?_ | ((with_reducible refine Kg.far ?_ ?_); (dsimp only; omega))))) (fail)
        have hv1 : IntKind.i64.wrap (-(((0 : Int)).tdiv (gcdI ((0 : Int)) (c)))) = -(((0 : Int)).tdiv (gcdI ((0 : Int)) (c))) := IntWalk.i64_in _ (by omega)
        have hv2 : IntKind.i64.wrap (-((c).tdiv (gcdI ((0 : Int)) (c)))) = -((c).tdiv (gcdI ((0 : Int)) (c))) := IntWalk.i64_in _ (by omega)
        go_wp2
        refine bodyPost_ret (v := .agg #[.int .i64 (-(((0 : Int)).tdiv (gcdI ((0 : Int)) (c)))), .int .i64 (-((c).tdiv (gcdI ((0 : Int)) (c))))]) (by simp [results, Try.results36, go_sem, Int.tdiv_neg, wrap0q, hw1, hw2, hv1, hv2, hc1, hz1a, hz1b, hz1c, hc2, hz2a, hz2b, hz2c]) rfl ⟨ret_val EA.out.symm, ?_⟩
        repeat (first | exact Below.refl _ _ | refine Below.setCell ?_ (by first | omega | (simp <;> omega)) _ | refine Below.alloc ?_ (by first | omega | (simp <;> omega)) _ | refine bstep ?_ (by assumption) | refine Below.drew ?_)
  · have h1' : ¬ a + 1 = 0 := by omega
    have nb : (a + 1 == 0) = false := by simpa using h1'
    have hax : axB a b c d = (a + 1, c) := by simp [axB, nb]
    have hxy : ¬ (a + 1 = 0 ∧ c = 0) := by omega
    have hg1 := gcdI_pos hxy
    have hg2 := gcdI_bdq hxy (by omega) (by omega) (by omega) (by omega)
    obtain ⟨t1, t2⟩ := tdivBq (a + 1) (gcdI (a + 1) (c)) (by omega) (by omega)
    obtain ⟨t3, t4⟩ := tdivBq (c) (gcdI (a + 1) (c)) (by omega) (by omega)
    obtain ⟨t5, t6⟩ := tdivBq (a + 1) (-gcdI (a + 1) (c)) (by omega) (by omega)
    obtain ⟨t7, t8⟩ := tdivBq (c) (-gcdI (a + 1) (c)) (by omega) (by omega)
    clear hD hT
    rcases hl : lessB (a + 1) c 0 0 with _ | _
    · have hc0 := cmp_nnegq hl
      have ea : axVal a b c d = .agg #[.int .i64 ((a + 1).tdiv (gcdI (a + 1) (c))), .int .i64 ((c).tdiv (gcdI (a + 1) (c)))] := by simp [axVal, axP, axR, hax, hl]
      have EA := Lib.hid ea
      clear ea
      go_enter Try.func36, Try.ntmps36
      clear hl hax
      go_wp2_with fail
      refine (greatest_any _ _ _ (by omega) (by omega) (by omega) (by omega)).mono ?_
      rintro e w1 ⟨rfl, hb1⟩
      obtain ⟨hc1, hf1⟩ := bcell hb1
      obtain ⟨hz1a, hz1b, hz1c⟩ : w.heap.size < w1.heap.size ∧ w.heap.size + 1 < w1.heap.size ∧ w.heap.size + 1 + 1 < w1.heap.size := by have := hb1.size; (try simp at this); omega
      go_wp2_with fail
      refine (vcompareq_any _ _ _ _ _).mono ?_
      rintro e w2 ⟨rfl, hb2⟩
      obtain ⟨hc2, hf2⟩ := bcell hb2
      obtain ⟨hz2a, hz2b, hz2c⟩ : w.heap.size < w2.heap.size ∧ w.heap.size + 1 < w2.heap.size ∧ w.heap.size + 1 + 1 < w2.heap.size := by have := hb2.size; (try simp at this); omega
      go_wp2_with fail
      have K1 : Kg (w.heap.size + 1 + 1) (a + 1) (c) w2 := ⟨hz2c, by simp [go_sem, hc1, hz1a, hz1b, hz1c, hc2, hz2a, hz2b, hz2c], by simp [go_sem, hc1, hz1a, hz1b, hz1c, hc2, hz2a, hz2b, hz2c]⟩
      have hw1 : IntKind.i64.wrap ((a + 1).tdiv (gcdI (a + 1) (c))) = (a + 1).tdiv (gcdI (a + 1) (c)) := IntWalk.i64_in _ (by omega)
      have hw2 : IntKind.i64.wrap ((c).tdiv (gcdI (a + 1) (c))) = (c).tdiv (gcdI (a + 1) (c)) := IntWalk.i64_in _ (by omega)
      have hz0 : ¬ gcdI (a + 1) (c) = 0 := by omega
      go_region_held3 (fun W => W.cell? ⟨w.heap.size + 1 + 1, 0, none⟩ = some (.int .i64 (a + 1)) ∧ W.cell? ⟨w.heap.size + 1 + 1, 1, none⟩ = some (.int .i64 (c))) ((refine Kg.cells ?_; repeat (first | assumption | with_reducible refine Kg.drew ?_ | ((with_reducible refine Kg.far ?_ ?_); (dsimp only; omega))))) (fail)
      go_wp2
      refine bodyPost_ret (v := .agg #[.int .i64 ((a + 1).tdiv (gcdI (a + 1) (c))), .int .i64 ((c).tdiv (gcdI (a + 1) (c)))]) (by simp [results, Try.results36, go_sem, Int.tdiv_neg, wrap0q, hw1, hw2, hc1, hz1a, hz1b, hz1c, hc2, hz2a, hz2b, hz2c]) rfl ⟨ret_val EA.out.symm, ?_⟩
      repeat (first | exact Below.refl _ _ | refine Below.setCell ?_ (by first | omega | (simp <;> omega)) _ | refine Below.alloc ?_ (by first | omega | (simp <;> omega)) _ | refine bstep ?_ (by assumption) | refine Below.drew ?_)
    · have hc0 := cmp_negq hl
      have ea : axVal a b c d = .agg #[.int .i64 (-((a + 1).tdiv (gcdI (a + 1) (c)))), .int .i64 (-((c).tdiv (gcdI (a + 1) (c))))] := by simp [axVal, axP, axR, hax, hl, Int.tdiv_neg]
      have EA := Lib.hid ea
      clear ea
      go_enter Try.func36, Try.ntmps36
      clear hl hax
      go_wp2_with fail
      refine (greatest_any _ _ _ (by omega) (by omega) (by omega) (by omega)).mono ?_
      rintro e w1 ⟨rfl, hb1⟩
      obtain ⟨hc1, hf1⟩ := bcell hb1
      obtain ⟨hz1a, hz1b, hz1c⟩ : w.heap.size < w1.heap.size ∧ w.heap.size + 1 < w1.heap.size ∧ w.heap.size + 1 + 1 < w1.heap.size := by have := hb1.size; (try simp at this); omega
      go_wp2_with fail
      refine (vcompareq_any _ _ _ _ _).mono ?_
      rintro e w2 ⟨rfl, hb2⟩
      obtain ⟨hc2, hf2⟩ := bcell hb2
      obtain ⟨hz2a, hz2b, hz2c⟩ : w.heap.size < w2.heap.size ∧ w.heap.size + 1 < w2.heap.size ∧ w.heap.size + 1 + 1 < w2.heap.size := by have := hb2.size; (try simp at this); omega
      go_wp2_with fail
      have K1 : Kg (w.heap.size + 1 + 1) (a + 1) (c) w2 := ⟨hz2c, by simp [go_sem, hc1, hz1a, hz1b, hz1c, hc2, hz2a, hz2b, hz2c], by simp [go_sem, hc1, hz1a, hz1b, hz1c, hc2, hz2a, hz2b, hz2c]⟩
      have hw1 : IntKind.i64.wrap ((a + 1).tdiv (-gcdI (a + 1) (c))) = (a + 1).tdiv (-gcdI (a + 1) (c)) := IntWalk.i64_in _ (by omega)
      have hw2 : IntKind.i64.wrap ((c).tdiv (-gcdI (a + 1) (c))) = (c).tdiv (-gcdI (a + 1) (c)) := IntWalk.i64_in _ (by omega)
      have hz0 : ¬ -gcdI (a + 1) (c) = 0 := by omega
      go_region_held3 (fun W => W.cell? ⟨w.heap.size + 1 + 1, 0, none⟩ = some (.int .i64 (a + 1)) ∧ W.cell? ⟨w.heap.size + 1 + 1, 1, none⟩ = some (.int .i64 (c))) ((refine Kg.cells ?_; repeat (first | assumption | with_reducible refine Kg.drew ?_ | ((with_reducible refine Kg.far ?_ ?_); (dsimp only; omega))))) (fail)
      have hv1 : IntKind.i64.wrap (-((a + 1).tdiv (gcdI (a + 1) (c)))) = -((a + 1).tdiv (gcdI (a + 1) (c))) := IntWalk.i64_in _ (by omega)
      have hv2 : IntKind.i64.wrap (-((c).tdiv (gcdI (a + 1) (c)))) = -((c).tdiv (gcdI (a + 1) (c))) := IntWalk.i64_in _ (by omega)
      go_wp2
      refine bodyPost_ret (v := .agg #[.int .i64 (-((a + 1).tdiv (gcdI (a + 1) (c)))), .int .i64 (-((c).tdiv (gcdI (a + 1) (c))))]) (by simp [results, Try.results36, go_sem, Int.tdiv_neg, wrap0q, hw1, hw2, hv1, hv2, hc1, hz1a, hz1b, hz1c, hc2, hz2a, hz2b, hz2c]) rfl ⟨ret_val EA.out.symm, ?_⟩
      repeat (first | exact Below.refl _ _ | refine Below.setCell ?_ (by first | omega | (simp <;> omega)) _ | refine Below.alloc ?_ (by first | omega | (simp <;> omega)) _ | refine bstep ?_ (by assumption) | refine Below.drew ?_)

set_option maxHeartbeats 4000000 in
theorem l02Axis_any (a b c d : Int) (w : World) (h : matB a b c d = true) (hr : reflB a b c d = true) :
    Calls Try.prog 39 #[.agg #[.int .i64 a, .int .i64 b, .int .i64 c, .int .i64 d]] w fun e w' => e = .returned (axVal a b c d) ∧ Below w.heap.size w w' := by
  obtain ⟨hD, hT⟩ := refl_facts hr
  obtain ⟨⟨ha, hb⟩, hc, hd⟩ := limB_bd (matB_lim h)
  obtain ⟨ha, ha'⟩ := ha
  obtain ⟨hb, hb'⟩ := hb
  obtain ⟨hc, hc'⟩ := hc
  obtain ⟨hd, hd'⟩ := hd
  clear h hr
  by_cases h1 : a = -1
  · subst h1
    by_cases h2 : c = 0
    · subst h2
      obtain rfl : d = 1 := by omega
      have hax : axB (-1) b 0 1 = (b, 2) := rfl
      have hxy : ¬ (b = 0 ∧ (2 : Int) = 0) := by omega
      have hg1 := gcdI_pos hxy
      have hg2 := gcdI_bdq hxy (by omega) (by omega) (by omega) (by omega)
      obtain ⟨t1, t2⟩ := tdivBq (b) (gcdI (b) (2)) (by omega) (by omega)
      obtain ⟨t3, t4⟩ := tdivBq (2) (gcdI (b) (2)) (by omega) (by omega)
      obtain ⟨t5, t6⟩ := tdivBq (b) (-gcdI (b) (2)) (by omega) (by omega)
      obtain ⟨t7, t8⟩ := tdivBq (2) (-gcdI (b) (2)) (by omega) (by omega)
      clear hD hT
      rcases hl : lessB b 2 0 0 with _ | _
      · have ea : axVal (-1) b 0 1 = .agg #[.int .i64 ((b).tdiv (gcdI (b) ((2 : Int)))), .int .i64 (((2 : Int)).tdiv (gcdI (b) ((2 : Int))))] := by simp [axVal, axP, axR, hax, hl]
        have hl2 := (less_divq hxy).trans hl
        have EA := Lib.hid ea
        clear ea
        go_enter Try.func39, Try.ntmps39
        clear hl hax
        go_wp2_with fail
        refine (divisor2_any _ _ _ (by omega) (by omega) (by omega) (by omega)).mono ?_
        rintro e w1 ⟨rfl, hb1⟩
        obtain ⟨hc1, hf1⟩ := bcell hb1
        obtain ⟨hz1a, hz1b, hz1c⟩ : w.heap.size < w1.heap.size ∧ w.heap.size + 1 < w1.heap.size ∧ w.heap.size + 1 + 1 < w1.heap.size := by have := hb1.size; (try simp at this); omega
        go_wp2_with fail
        have K1 : Kg (w.heap.size + 1 + 1) (b) ((2 : Int)) w1 := ⟨hz1c, by simp [go_sem, hc1, hz1a, hz1b, hz1c], by simp [go_sem, hc1, hz1a, hz1b, hz1c]⟩
        have hw1 : IntKind.i64.wrap ((b).tdiv (gcdI (b) ((2 : Int)))) = (b).tdiv (gcdI (b) ((2 : Int))) := IntWalk.i64_in _ (by omega)
        have hw2 : IntKind.i64.wrap (((2 : Int)).tdiv (gcdI (b) ((2 : Int)))) = ((2 : Int)).tdiv (gcdI (b) ((2 : Int))) := IntWalk.i64_in _ (by omega)
        have hz0 : ¬ gcdI (b) ((2 : Int)) = 0 := by omega
        obtain ⟨_, k0, k1⟩ := K1
        go_region
        go_wp2_with fail
        refine (lessq_any _ _ _ _ _).mono ?_
        rintro e w2 ⟨rfl, hb2⟩
        obtain ⟨hc2, hf2⟩ := bcell hb2
        obtain ⟨hz2a, hz2b, hz2c⟩ : w.heap.size < w2.heap.size ∧ w.heap.size + 1 < w2.heap.size ∧ w.heap.size + 1 + 1 < w2.heap.size := by have := hb2.size; (try simp at this); omega
        go_wp2
        refine bodyPost_ret (v := .agg #[.int .i64 ((b).tdiv (gcdI (b) ((2 : Int)))), .int .i64 (((2 : Int)).tdiv (gcdI (b) ((2 : Int))))]) (by simp [results, Try.results39, go_sem, hc1, hz1a, hz1b, hz1c, hc2, hz2a, hz2b, hz2c]) rfl ⟨ret_val EA.out.symm, ?_⟩
        repeat (first | exact Below.refl _ _ | refine Below.setCell ?_ (by first | omega | (simp <;> omega)) _ | refine Below.alloc ?_ (by first | omega | (simp <;> omega)) _ | refine bstep ?_ (by assumption) | refine Below.drew ?_)
      · have ea : axVal (-1) b 0 1 = .agg #[.int .i64 (-((b).tdiv (gcdI (b) ((2 : Int))))), .int .i64 (-(((2 : Int)).tdiv (gcdI (b) ((2 : Int)))))] := by simp [axVal, axP, axR, hax, hl]
        have hl2 := (less_divq hxy).trans hl
        have EA := Lib.hid ea
        clear ea
        go_enter Try.func39, Try.ntmps39
        clear hl hax
        go_wp2_with fail
        refine (divisor2_any _ _ _ (by omega) (by omega) (by omega) (by omega)).mono ?_
        rintro e w1 ⟨rfl, hb1⟩
        obtain ⟨hc1, hf1⟩ := bcell hb1
        obtain ⟨hz1a, hz1b, hz1c⟩ : w.heap.size < w1.heap.size ∧ w.heap.size + 1 < w1.heap.size ∧ w.heap.size + 1 + 1 < w1.heap.size := by have := hb1.size; (try simp at this); omega
        go_wp2_with fail
        have K1 : Kg (w.heap.size + 1 + 1) (b) ((2 : Int)) w1 := ⟨hz1c, by simp [go_sem, hc1, hz1a, hz1b, hz1c], by simp [go_sem, hc1, hz1a, hz1b, hz1c]⟩
        have hw1 : IntKind.i64.wrap ((b).tdiv (gcdI (b) ((2 : Int)))) = (b).tdiv (gcdI (b) ((2 : Int))) := IntWalk.i64_in _ (by omega)
        have hw2 : IntKind.i64.wrap (((2 : Int)).tdiv (gcdI (b) ((2 : Int)))) = ((2 : Int)).tdiv (gcdI (b) ((2 : Int))) := IntWalk.i64_in _ (by omega)
        have hz0 : ¬ gcdI (b) ((2 : Int)) = 0 := by omega
        obtain ⟨_, k0, k1⟩ := K1
        go_region
        go_wp2_with fail
        refine (lessq_any _ _ _ _ _).mono ?_
        rintro e w2 ⟨rfl, hb2⟩
        obtain ⟨hc2, hf2⟩ := bcell hb2
        obtain ⟨hz2a, hz2b, hz2c⟩ : w.heap.size < w2.heap.size ∧ w.heap.size + 1 < w2.heap.size ∧ w.heap.size + 1 + 1 < w2.heap.size := by have := hb2.size; (try simp at this); omega
        have q0 : w2.cell? ⟨w.heap.size + 1 + 1, 0, none⟩ = some (.int .i64 ((b).tdiv (gcdI (b) ((2 : Int))))) := by simp [go_sem, hc1, hz1a, hz1b, hz1c, hc2, hz2a, hz2b, hz2c, hf1, hf2, k0, k1, hw1, hw2]
        have q1 : w2.cell? ⟨w.heap.size + 1 + 1, 1, none⟩ = some (.int .i64 (((2 : Int)).tdiv (gcdI (b) ((2 : Int))))) := by simp [go_sem, hc1, hz1a, hz1b, hz1c, hc2, hz2a, hz2b, hz2c, hf1, hf2, k0, k1, hw1, hw2]
        have q2 : w2.cell? ⟨w.heap.size + 1, 0, none⟩ = some (.int .i64 0) := by simp [go_sem, hc1, hz1a, hz1b, hz1c, hc2, hz2a, hz2b, hz2c, hf1, hf2, k0, k1, hw1, hw2]
        have q3 : w2.cell? ⟨w.heap.size + 1, 1, none⟩ = some (.int .i64 0) := by simp [go_sem, hc1, hz1a, hz1b, hz1c, hc2, hz2a, hz2b, hz2c, hf1, hf2, k0, k1, hw1, hw2]
        have r0 : w2.frozen? ⟨w.heap.size + 1 + 1, 0, none⟩ = false := by simp [go_sem, hc1, hz1a, hz1b, hz1c, hc2, hz2a, hz2b, hz2c, hf1, hf2, k0, k1, hw1, hw2]
        have r1 : w2.frozen? ⟨w.heap.size + 1 + 1, 1, none⟩ = false := by simp [go_sem, hc1, hz1a, hz1b, hz1c, hc2, hz2a, hz2b, hz2c, hf1, hf2, k0, k1, hw1, hw2]
        have r2 : w2.frozen? ⟨w.heap.size + 1, 0, none⟩ = false := by simp [go_sem, hc1, hz1a, hz1b, hz1c, hc2, hz2a, hz2b, hz2c, hf1, hf2, k0, k1, hw1, hw2]
        have r3 : w2.frozen? ⟨w.heap.size + 1, 1, none⟩ = false := by simp [go_sem, hc1, hz1a, hz1b, hz1c, hc2, hz2a, hz2b, hz2c, hf1, hf2, k0, k1, hw1, hw2]
        go_wp2_with fail
        refine (l01Neg_any _ _ _ (by omega) (by omega) (by omega) (by omega)).mono ?_
        rintro e w3 ⟨rfl, hb3⟩
        obtain ⟨hc3, hf3⟩ := bcell hb3
        obtain ⟨hz3a, hz3b, hz3c⟩ : w.heap.size < w3.heap.size ∧ w.heap.size + 1 < w3.heap.size ∧ w.heap.size + 1 + 1 < w3.heap.size := by have := hb3.size; (try simp at this); omega
        have s0 := (hc3 _ 0 hz2c).trans q0
        have s1 := (hc3 _ 1 hz2c).trans q1
        have s2 := (hc3 _ 0 hz2b).trans q2
        have s3 := (hc3 _ 1 hz2b).trans q3
        have v0 := (hf3 _ 0 hz2c).trans r0
        have v1 := (hf3 _ 1 hz2c).trans r1
        have v2 := (hf3 _ 0 hz2b).trans r2
        have v3 := (hf3 _ 1 hz2b).trans r3
        clear hc3 hf3 q0 q1 q2 q3 r0 r1 r2 r3 hc1 hf1 hc2 hf2
        go_wp2
        refine bodyPost_ret (v := .agg #[.int .i64 (-((b).tdiv (gcdI (b) ((2 : Int))))), .int .i64 (-(((2 : Int)).tdiv (gcdI (b) ((2 : Int)))))]) (by simp [results, Try.results39, go_sem, s0, s1, s2, s3]) rfl ⟨ret_val EA.out.symm, ?_⟩
        repeat (first | exact Below.refl _ _ | refine Below.setCell ?_ (by first | omega | (simp <;> omega)) _ | refine Below.alloc ?_ (by first | omega | (simp <;> omega)) _ | refine bstep ?_ (by assumption) | refine Below.drew ?_)
    · obtain rfl : d = 1 := by omega
      have nb : (c == 0) = false := by simpa using h2
      have hax : axB (-1) b c 1 = (0, c) := by simp [axB, nb]
      have hxy : ¬ ((0 : Int) = 0 ∧ c = 0) := by omega
      have hg1 := gcdI_pos hxy
      have hg2 := gcdI_bdq hxy (by omega) (by omega) (by omega) (by omega)
      obtain ⟨t1, t2⟩ := tdivBq (0) (gcdI (0) (c)) (by omega) (by omega)
      obtain ⟨t3, t4⟩ := tdivBq (c) (gcdI (0) (c)) (by omega) (by omega)
      obtain ⟨t5, t6⟩ := tdivBq (0) (-gcdI (0) (c)) (by omega) (by omega)
      obtain ⟨t7, t8⟩ := tdivBq (c) (-gcdI (0) (c)) (by omega) (by omega)
      clear hD hT
      rcases hl : lessB 0 c 0 0 with _ | _
      · have ea : axVal (-1) b c 1 = .agg #[.int .i64 (((0 : Int)).tdiv (gcdI ((0 : Int)) (c))), .int .i64 ((c).tdiv (gcdI ((0 : Int)) (c)))] := by simp [axVal, axP, axR, hax, hl]
        have hl2 := (less_divq hxy).trans hl
        have EA := Lib.hid ea
        clear ea
        go_enter Try.func39, Try.ntmps39
        clear hl hax
        go_wp2_with fail
        refine (divisor2_any _ _ _ (by omega) (by omega) (by omega) (by omega)).mono ?_
        rintro e w1 ⟨rfl, hb1⟩
        obtain ⟨hc1, hf1⟩ := bcell hb1
        obtain ⟨hz1a, hz1b, hz1c⟩ : w.heap.size < w1.heap.size ∧ w.heap.size + 1 < w1.heap.size ∧ w.heap.size + 1 + 1 < w1.heap.size := by have := hb1.size; (try simp at this); omega
        go_wp2_with fail
        have K1 : Kg (w.heap.size + 1 + 1) ((0 : Int)) (c) w1 := ⟨hz1c, by simp [go_sem, hc1, hz1a, hz1b, hz1c], by simp [go_sem, hc1, hz1a, hz1b, hz1c]⟩
        have hw1 : IntKind.i64.wrap (((0 : Int)).tdiv (gcdI ((0 : Int)) (c))) = ((0 : Int)).tdiv (gcdI ((0 : Int)) (c)) := IntWalk.i64_in _ (by omega)
        have hw2 : IntKind.i64.wrap ((c).tdiv (gcdI ((0 : Int)) (c))) = (c).tdiv (gcdI ((0 : Int)) (c)) := IntWalk.i64_in _ (by omega)
        have hz0 : ¬ gcdI ((0 : Int)) (c) = 0 := by omega
        obtain ⟨_, k0, k1⟩ := K1
        go_region
        have hl3 := hl2
        rw [Int.zero_tdiv] at hl3
        go_wp2_with fail
        refine (lessq_any _ _ _ _ _).mono ?_
        rintro e w2 ⟨rfl, hb2⟩
        obtain ⟨hc2, hf2⟩ := bcell hb2
        obtain ⟨hz2a, hz2b, hz2c⟩ : w.heap.size < w2.heap.size ∧ w.heap.size + 1 < w2.heap.size ∧ w.heap.size + 1 + 1 < w2.heap.size := by have := hb2.size; (try simp at this); omega
        go_wp2
        refine bodyPost_ret (v := .agg #[.int .i64 (((0 : Int)).tdiv (gcdI ((0 : Int)) (c))), .int .i64 ((c).tdiv (gcdI ((0 : Int)) (c)))]) (by simp [results, Try.results39, go_sem, hc1, hz1a, hz1b, hz1c, hc2, hz2a, hz2b, hz2c]) rfl ⟨ret_val EA.out.symm, ?_⟩
        repeat (first | exact Below.refl _ _ | refine Below.setCell ?_ (by first | omega | (simp <;> omega)) _ | refine Below.alloc ?_ (by first | omega | (simp <;> omega)) _ | refine bstep ?_ (by assumption) | refine Below.drew ?_)
      · have ea : axVal (-1) b c 1 = .agg #[.int .i64 (-(((0 : Int)).tdiv (gcdI ((0 : Int)) (c)))), .int .i64 (-((c).tdiv (gcdI ((0 : Int)) (c))))] := by simp [axVal, axP, axR, hax, hl]
        have hl2 := (less_divq hxy).trans hl
        have EA := Lib.hid ea
        clear ea
        go_enter Try.func39, Try.ntmps39
        clear hl hax
        go_wp2_with fail
        refine (divisor2_any _ _ _ (by omega) (by omega) (by omega) (by omega)).mono ?_
        rintro e w1 ⟨rfl, hb1⟩
        obtain ⟨hc1, hf1⟩ := bcell hb1
        obtain ⟨hz1a, hz1b, hz1c⟩ : w.heap.size < w1.heap.size ∧ w.heap.size + 1 < w1.heap.size ∧ w.heap.size + 1 + 1 < w1.heap.size := by have := hb1.size; (try simp at this); omega
        go_wp2_with fail
        have K1 : Kg (w.heap.size + 1 + 1) ((0 : Int)) (c) w1 := ⟨hz1c, by simp [go_sem, hc1, hz1a, hz1b, hz1c], by simp [go_sem, hc1, hz1a, hz1b, hz1c]⟩
        have hw1 : IntKind.i64.wrap (((0 : Int)).tdiv (gcdI ((0 : Int)) (c))) = ((0 : Int)).tdiv (gcdI ((0 : Int)) (c)) := IntWalk.i64_in _ (by omega)
        have hw2 : IntKind.i64.wrap ((c).tdiv (gcdI ((0 : Int)) (c))) = (c).tdiv (gcdI ((0 : Int)) (c)) := IntWalk.i64_in _ (by omega)
        have hz0 : ¬ gcdI ((0 : Int)) (c) = 0 := by omega
        obtain ⟨_, k0, k1⟩ := K1
        go_region
        have hl3 := hl2
        rw [Int.zero_tdiv] at hl3
        go_wp2_with fail
        refine (lessq_any _ _ _ _ _).mono ?_
        rintro e w2 ⟨rfl, hb2⟩
        obtain ⟨hc2, hf2⟩ := bcell hb2
        obtain ⟨hz2a, hz2b, hz2c⟩ : w.heap.size < w2.heap.size ∧ w.heap.size + 1 < w2.heap.size ∧ w.heap.size + 1 + 1 < w2.heap.size := by have := hb2.size; (try simp at this); omega
        have q0 : w2.cell? ⟨w.heap.size + 1 + 1, 0, none⟩ = some (.int .i64 (((0 : Int)).tdiv (gcdI ((0 : Int)) (c)))) := by simp [go_sem, hc1, hz1a, hz1b, hz1c, hc2, hz2a, hz2b, hz2c, hf1, hf2, k0, k1, hw1, hw2]
        have q1 : w2.cell? ⟨w.heap.size + 1 + 1, 1, none⟩ = some (.int .i64 ((c).tdiv (gcdI ((0 : Int)) (c)))) := by simp [go_sem, hc1, hz1a, hz1b, hz1c, hc2, hz2a, hz2b, hz2c, hf1, hf2, k0, k1, hw1, hw2]
        have q2 : w2.cell? ⟨w.heap.size + 1, 0, none⟩ = some (.int .i64 0) := by simp [go_sem, hc1, hz1a, hz1b, hz1c, hc2, hz2a, hz2b, hz2c, hf1, hf2, k0, k1, hw1, hw2]
        have q3 : w2.cell? ⟨w.heap.size + 1, 1, none⟩ = some (.int .i64 0) := by simp [go_sem, hc1, hz1a, hz1b, hz1c, hc2, hz2a, hz2b, hz2c, hf1, hf2, k0, k1, hw1, hw2]
        have r0 : w2.frozen? ⟨w.heap.size + 1 + 1, 0, none⟩ = false := by simp [go_sem, hc1, hz1a, hz1b, hz1c, hc2, hz2a, hz2b, hz2c, hf1, hf2, k0, k1, hw1, hw2]
        have r1 : w2.frozen? ⟨w.heap.size + 1 + 1, 1, none⟩ = false := by simp [go_sem, hc1, hz1a, hz1b, hz1c, hc2, hz2a, hz2b, hz2c, hf1, hf2, k0, k1, hw1, hw2]
        have r2 : w2.frozen? ⟨w.heap.size + 1, 0, none⟩ = false := by simp [go_sem, hc1, hz1a, hz1b, hz1c, hc2, hz2a, hz2b, hz2c, hf1, hf2, k0, k1, hw1, hw2]
        have r3 : w2.frozen? ⟨w.heap.size + 1, 1, none⟩ = false := by simp [go_sem, hc1, hz1a, hz1b, hz1c, hc2, hz2a, hz2b, hz2c, hf1, hf2, k0, k1, hw1, hw2]
        go_wp2_with fail
        refine (l01Neg_any _ _ _ (by omega) (by omega) (by omega) (by omega)).mono ?_
        rintro e w3 ⟨rfl, hb3⟩
        obtain ⟨hc3, hf3⟩ := bcell hb3
        obtain ⟨hz3a, hz3b, hz3c⟩ : w.heap.size < w3.heap.size ∧ w.heap.size + 1 < w3.heap.size ∧ w.heap.size + 1 + 1 < w3.heap.size := by have := hb3.size; (try simp at this); omega
        have s0 := (hc3 _ 0 hz2c).trans q0
        have s1 := (hc3 _ 1 hz2c).trans q1
        have s2 := (hc3 _ 0 hz2b).trans q2
        have s3 := (hc3 _ 1 hz2b).trans q3
        have v0 := (hf3 _ 0 hz2c).trans r0
        have v1 := (hf3 _ 1 hz2c).trans r1
        have v2 := (hf3 _ 0 hz2b).trans r2
        have v3 := (hf3 _ 1 hz2b).trans r3
        clear hc3 hf3 q0 q1 q2 q3 r0 r1 r2 r3 hc1 hf1 hc2 hf2
        go_wp2
        refine bodyPost_ret (v := .agg #[.int .i64 (-(((0 : Int)).tdiv (gcdI ((0 : Int)) (c)))), .int .i64 (-((c).tdiv (gcdI ((0 : Int)) (c))))]) (by simp [results, Try.results39, go_sem, s0, s1, s2, s3]) rfl ⟨ret_val EA.out.symm, ?_⟩
        repeat (first | exact Below.refl _ _ | refine Below.setCell ?_ (by first | omega | (simp <;> omega)) _ | refine Below.alloc ?_ (by first | omega | (simp <;> omega)) _ | refine bstep ?_ (by assumption) | refine Below.drew ?_)
  · have h1' : ¬ a + 1 = 0 := by omega
    have nb : (a + 1 == 0) = false := by simpa using h1'
    have hax : axB a b c d = (a + 1, c) := by simp [axB, nb]
    have hxy : ¬ (a + 1 = 0 ∧ c = 0) := by omega
    have hg1 := gcdI_pos hxy
    have hg2 := gcdI_bdq hxy (by omega) (by omega) (by omega) (by omega)
    obtain ⟨t1, t2⟩ := tdivBq (a + 1) (gcdI (a + 1) (c)) (by omega) (by omega)
    obtain ⟨t3, t4⟩ := tdivBq (c) (gcdI (a + 1) (c)) (by omega) (by omega)
    obtain ⟨t5, t6⟩ := tdivBq (a + 1) (-gcdI (a + 1) (c)) (by omega) (by omega)
    obtain ⟨t7, t8⟩ := tdivBq (c) (-gcdI (a + 1) (c)) (by omega) (by omega)
    clear hD hT
    rcases hl : lessB (a + 1) c 0 0 with _ | _
    · have ea : axVal a b c d = .agg #[.int .i64 ((a + 1).tdiv (gcdI (a + 1) (c))), .int .i64 ((c).tdiv (gcdI (a + 1) (c)))] := by simp [axVal, axP, axR, hax, hl]
      have hl2 := (less_divq hxy).trans hl
      have EA := Lib.hid ea
      clear ea
      go_enter Try.func39, Try.ntmps39
      clear hl hax
      go_wp2_with fail
      refine (divisor2_any _ _ _ (by omega) (by omega) (by omega) (by omega)).mono ?_
      rintro e w1 ⟨rfl, hb1⟩
      obtain ⟨hc1, hf1⟩ := bcell hb1
      obtain ⟨hz1a, hz1b, hz1c⟩ : w.heap.size < w1.heap.size ∧ w.heap.size + 1 < w1.heap.size ∧ w.heap.size + 1 + 1 < w1.heap.size := by have := hb1.size; (try simp at this); omega
      go_wp2_with fail
      have K1 : Kg (w.heap.size + 1 + 1) (a + 1) (c) w1 := ⟨hz1c, by simp [go_sem, hc1, hz1a, hz1b, hz1c], by simp [go_sem, hc1, hz1a, hz1b, hz1c]⟩
      have hw1 : IntKind.i64.wrap ((a + 1).tdiv (gcdI (a + 1) (c))) = (a + 1).tdiv (gcdI (a + 1) (c)) := IntWalk.i64_in _ (by omega)
      have hw2 : IntKind.i64.wrap ((c).tdiv (gcdI (a + 1) (c))) = (c).tdiv (gcdI (a + 1) (c)) := IntWalk.i64_in _ (by omega)
      have hz0 : ¬ gcdI (a + 1) (c) = 0 := by omega
      obtain ⟨_, k0, k1⟩ := K1
      go_region
      go_wp2_with fail
      refine (lessq_any _ _ _ _ _).mono ?_
      rintro e w2 ⟨rfl, hb2⟩
      obtain ⟨hc2, hf2⟩ := bcell hb2
      obtain ⟨hz2a, hz2b, hz2c⟩ : w.heap.size < w2.heap.size ∧ w.heap.size + 1 < w2.heap.size ∧ w.heap.size + 1 + 1 < w2.heap.size := by have := hb2.size; (try simp at this); omega
      go_wp2
      refine bodyPost_ret (v := .agg #[.int .i64 ((a + 1).tdiv (gcdI (a + 1) (c))), .int .i64 ((c).tdiv (gcdI (a + 1) (c)))]) (by simp [results, Try.results39, go_sem, hc1, hz1a, hz1b, hz1c, hc2, hz2a, hz2b, hz2c]) rfl ⟨ret_val EA.out.symm, ?_⟩
      repeat (first | exact Below.refl _ _ | refine Below.setCell ?_ (by first | omega | (simp <;> omega)) _ | refine Below.alloc ?_ (by first | omega | (simp <;> omega)) _ | refine bstep ?_ (by assumption) | refine Below.drew ?_)
    · have ea : axVal a b c d = .agg #[.int .i64 (-((a + 1).tdiv (gcdI (a + 1) (c)))), .int .i64 (-((c).tdiv (gcdI (a + 1) (c))))] := by simp [axVal, axP, axR, hax, hl]
      have hl2 := (less_divq hxy).trans hl
      have EA := Lib.hid ea
      clear ea
      go_enter Try.func39, Try.ntmps39
      clear hl hax
      go_wp2_with fail
      refine (divisor2_any _ _ _ (by omega) (by omega) (by omega) (by omega)).mono ?_
      rintro e w1 ⟨rfl, hb1⟩
      obtain ⟨hc1, hf1⟩ := bcell hb1
      obtain ⟨hz1a, hz1b, hz1c⟩ : w.heap.size < w1.heap.size ∧ w.heap.size + 1 < w1.heap.size ∧ w.heap.size + 1 + 1 < w1.heap.size := by have := hb1.size; (try simp at this); omega
      go_wp2_with fail
      have K1 : Kg (w.heap.size + 1 + 1) (a + 1) (c) w1 := ⟨hz1c, by simp [go_sem, hc1, hz1a, hz1b, hz1c], by simp [go_sem, hc1, hz1a, hz1b, hz1c]⟩
      have hw1 : IntKind.i64.wrap ((a + 1).tdiv (gcdI (a + 1) (c))) = (a + 1).tdiv (gcdI (a + 1) (c)) := IntWalk.i64_in _ (by omega)
      have hw2 : IntKind.i64.wrap ((c).tdiv (gcdI (a + 1) (c))) = (c).tdiv (gcdI (a + 1) (c)) := IntWalk.i64_in _ (by omega)
      have hz0 : ¬ gcdI (a + 1) (c) = 0 := by omega
      obtain ⟨_, k0, k1⟩ := K1
      go_region
      go_wp2_with fail
      refine (lessq_any _ _ _ _ _).mono ?_
      rintro e w2 ⟨rfl, hb2⟩
      obtain ⟨hc2, hf2⟩ := bcell hb2
      obtain ⟨hz2a, hz2b, hz2c⟩ : w.heap.size < w2.heap.size ∧ w.heap.size + 1 < w2.heap.size ∧ w.heap.size + 1 + 1 < w2.heap.size := by have := hb2.size; (try simp at this); omega
      have q0 : w2.cell? ⟨w.heap.size + 1 + 1, 0, none⟩ = some (.int .i64 ((a + 1).tdiv (gcdI (a + 1) (c)))) := by simp [go_sem, hc1, hz1a, hz1b, hz1c, hc2, hz2a, hz2b, hz2c, hf1, hf2, k0, k1, hw1, hw2]
      have q1 : w2.cell? ⟨w.heap.size + 1 + 1, 1, none⟩ = some (.int .i64 ((c).tdiv (gcdI (a + 1) (c)))) := by simp [go_sem, hc1, hz1a, hz1b, hz1c, hc2, hz2a, hz2b, hz2c, hf1, hf2, k0, k1, hw1, hw2]
      have q2 : w2.cell? ⟨w.heap.size + 1, 0, none⟩ = some (.int .i64 0) := by simp [go_sem, hc1, hz1a, hz1b, hz1c, hc2, hz2a, hz2b, hz2c, hf1, hf2, k0, k1, hw1, hw2]
      have q3 : w2.cell? ⟨w.heap.size + 1, 1, none⟩ = some (.int .i64 0) := by simp [go_sem, hc1, hz1a, hz1b, hz1c, hc2, hz2a, hz2b, hz2c, hf1, hf2, k0, k1, hw1, hw2]
      have r0 : w2.frozen? ⟨w.heap.size + 1 + 1, 0, none⟩ = false := by simp [go_sem, hc1, hz1a, hz1b, hz1c, hc2, hz2a, hz2b, hz2c, hf1, hf2, k0, k1, hw1, hw2]
      have r1 : w2.frozen? ⟨w.heap.size + 1 + 1, 1, none⟩ = false := by simp [go_sem, hc1, hz1a, hz1b, hz1c, hc2, hz2a, hz2b, hz2c, hf1, hf2, k0, k1, hw1, hw2]
      have r2 : w2.frozen? ⟨w.heap.size + 1, 0, none⟩ = false := by simp [go_sem, hc1, hz1a, hz1b, hz1c, hc2, hz2a, hz2b, hz2c, hf1, hf2, k0, k1, hw1, hw2]
      have r3 : w2.frozen? ⟨w.heap.size + 1, 1, none⟩ = false := by simp [go_sem, hc1, hz1a, hz1b, hz1c, hc2, hz2a, hz2b, hz2c, hf1, hf2, k0, k1, hw1, hw2]
      go_wp2_with fail
      refine (l01Neg_any _ _ _ (by omega) (by omega) (by omega) (by omega)).mono ?_
      rintro e w3 ⟨rfl, hb3⟩
      obtain ⟨hc3, hf3⟩ := bcell hb3
      obtain ⟨hz3a, hz3b, hz3c⟩ : w.heap.size < w3.heap.size ∧ w.heap.size + 1 < w3.heap.size ∧ w.heap.size + 1 + 1 < w3.heap.size := by have := hb3.size; (try simp at this); omega
      have s0 := (hc3 _ 0 hz2c).trans q0
      have s1 := (hc3 _ 1 hz2c).trans q1
      have s2 := (hc3 _ 0 hz2b).trans q2
      have s3 := (hc3 _ 1 hz2b).trans q3
      have v0 := (hf3 _ 0 hz2c).trans r0
      have v1 := (hf3 _ 1 hz2c).trans r1
      have v2 := (hf3 _ 0 hz2b).trans r2
      have v3 := (hf3 _ 1 hz2b).trans r3
      clear hc3 hf3 q0 q1 q2 q3 r0 r1 r2 r3 hc1 hf1 hc2 hf2
      go_wp2
      refine bodyPost_ret (v := .agg #[.int .i64 (-((a + 1).tdiv (gcdI (a + 1) (c)))), .int .i64 (-((c).tdiv (gcdI (a + 1) (c))))]) (by simp [results, Try.results39, go_sem, s0, s1, s2, s3]) rfl ⟨ret_val EA.out.symm, ?_⟩
      repeat (first | exact Below.refl _ _ | refine Below.setCell ?_ (by first | omega | (simp <;> omega)) _ | refine Below.alloc ?_ (by first | omega | (simp <;> omega)) _ | refine bstep ?_ (by assumption) | refine Below.drew ?_)

end Go.Proofs.Ytodkomaeljbhaaa
