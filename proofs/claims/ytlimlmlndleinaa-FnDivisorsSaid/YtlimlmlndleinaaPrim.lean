/-
  Contracts of chapter 1's primitive vector: the program's function and the model's have one and the same answer. No condition.
-/
import Derived.Test.YtlimlmlndleinaaMore
import Derived.IntWalk
namespace Go.Proofs.Ytlimlmlndleinaa
open Go.RowKit
set_option linter.unusedSimpArgs false

def primR (x y : Int) : Int × Int × Int × Int :=
  bif vecB x y then (bif gcdI x y == 0 then (0, 0, 0, 5) else (x.tdiv (gcdI x y), y.tdiv (gcdI x y), gcdI x y, 0)) else (0, 0, 0, 1)
def primV (x y : Int) : Value := .tuple #[.agg #[.int .i64 ((primR x y).1), .int .i64 ((primR x y).2.1)], .int .i64 (primR x y).2.2.1, .int .i64 (primR x y).2.2.2]
theorem gcdI_nonneg (x y : Int) : 0 ≤ gcdI x y := Int.natCast_nonneg _
theorem gcdI_le (x y : Int) (h : gcdI x y ≠ 0) (hx : -1000 ≤ x) (hx' : x ≤ 1000) (hy : -1000 ≤ y) (hy' : y ≤ 1000) : gcdI x y ≤ 1000 := by
  unfold gcdI at *
  by_cases h0 : x = 0
  · by_cases h1 : y = 0
    · subst h0 h1; simp at h
    · have h2 : Nat.gcd x.natAbs y.natAbs ≤ y.natAbs := Nat.gcd_le_right _ (by omega)
      have h3 : Int.gcd x y = Nat.gcd x.natAbs y.natAbs := rfl
      omega
  · have h2 : Nat.gcd x.natAbs y.natAbs ≤ x.natAbs := Nat.gcd_le_left _ (by omega)
    have h3 : Int.gcd x y = Nat.gcd x.natAbs y.natAbs := rfl
    omega
theorem tdiv_bd (x d : Int) (hx : -1000 ≤ x) (hx' : x ≤ 1000) : -1000 ≤ x.tdiv d ∧ x.tdiv d ≤ 1000 := by
  have h : (x.tdiv d).natAbs ≤ x.natAbs := by rw [Int.natAbs_tdiv]; exact Nat.div_le_self _ _
  omega

theorem divisorB_any (a b : Int) (w : World) (ha : -1000000 ≤ a) (ha' : a ≤ 1000000) (hb : -1000000 ≤ b) (hb' : b ≤ 1000000) :
    Calls Try.prog 52 #[.int .i64 a, .int .i64 b] w fun e w' => e = .returned (.int .i64 (gcdI a b)) ∧ Below w.heap.size w w' :=
  (divisor_any _ a b w (Nat.lt_succ_self _) ha ha' hb hb').mono fun _ _ ⟨he, hw⟩ => ⟨he, hw ▸ Below.refl _ _⟩

set_option maxHeartbeats 1000000 in
theorem implPrim_any (x y : Int) (w : World) :
    Calls Try.prog 27 #[.agg #[.int .i64 x, .int .i64 y]] w fun e w' => e = .returned (primV x y) ∧ Below w.heap.size w w' := by
  rcases hu : vecB x y with _ | _
  · have ea : primV x y = .tuple #[.agg #[.int .i64 0, .int .i64 0], .int .i64 0, .int .i64 1] := by simp [primV, primR, hu]
    have EA := Lib.hid ea
    clear ea
    go_enter Try.func27, Try.ntmps27
    go_wp2_with fail
    refine (isValid_any _ _ _).mono ?_
    rintro e w1 ⟨rfl, hb1⟩
    obtain ⟨hc1, hf1⟩ := bcell hb1
    obtain ⟨hz1a, hz1b⟩ : w.heap.size < w1.heap.size ∧ w.heap.size + 1 < w1.heap.size := by have := hb1.size; (try simp at this); omega
    go_wp2
    refine bodyPost_ret (v := .tuple #[.agg #[.int .i64 0, .int .i64 0], .int .i64 0, .int .i64 1]) (by simp [results, Try.results27, go_sem, hc1, hz1a, hz1b]) rfl ⟨ret_val EA.out.symm, ?_⟩
    repeat (first | exact Below.refl _ _ | refine Below.setCell ?_ (by first | omega | (simp <;> omega)) _ | refine Below.alloc ?_ (by first | omega | (simp <;> omega)) _ | refine bstep ?_ (by assumption) | refine Below.drew ?_)
  obtain ⟨⟨a1, a2⟩, a3, a4⟩ := vecB_bd hu
  rcases hz : gcdI x y == 0 with _ | _
  · have ea : primV x y = .tuple #[.agg #[.int .i64 (x.tdiv (gcdI x y)), .int .i64 (y.tdiv (gcdI x y))], .int .i64 (gcdI x y), .int .i64 0] := by simp [primV, primR, hu, hz]
    have hz0 : gcdI x y ≠ 0 := by simpa using hz
    have hd0 := gcdI_nonneg x y
    have hd1 : 1 ≤ gcdI x y := by omega
    have hd2 := gcdI_le x y hz0 a1 a2 a3 a4
    obtain ⟨t1, t2⟩ := tdiv_bd x (gcdI x y) a1 a2
    obtain ⟨t3, t4⟩ := tdiv_bd y (gcdI x y) a3 a4
    clear hz0
    have EA := Lib.hid ea
    clear ea
    go_enter Try.func27, Try.ntmps27
    go_wp2_with fail
    refine (isValid_any _ _ _).mono ?_
    rintro e w1 ⟨rfl, hb1⟩
    obtain ⟨hc1, hf1⟩ := bcell hb1
    obtain ⟨hz1a, hz1b⟩ : w.heap.size < w1.heap.size ∧ w.heap.size + 1 < w1.heap.size := by have := hb1.size; (try simp at this); omega
    go_wp2_with fail
    refine (greatest_any _ _ _ (by omega) (by omega) (by omega) (by omega)).mono ?_
    rintro e w2 ⟨rfl, hb2⟩
    obtain ⟨hc2, hf2⟩ := bcell hb2
    obtain ⟨hz2a, hz2b⟩ : w.heap.size < w2.heap.size ∧ w.heap.size + 1 < w2.heap.size := by have := hb2.size; (try simp at this); omega
    go_wp2_with fail
    have K1 : Kg w.heap.size x y w2 := ⟨hz2a, by simp [hc1, hc2, hz1a, hz1b, go_sem], by simp [hc1, hc2, hz1a, hz1b, go_sem]⟩
    have hw1 : IntKind.i64.wrap (x.tdiv (gcdI x y)) = x.tdiv (gcdI x y) := IntWalk.i64_in _ (by omega)
    have hw2 : IntKind.i64.wrap (y.tdiv (gcdI x y)) = y.tdiv (gcdI x y) := IntWalk.i64_in _ (by omega)
    have hz0 : ¬ gcdI x y = 0 := by omega
    go_region_held3 (fun W => W.cell? ⟨w.heap.size, 0, none⟩ = some (.int .i64 x) ∧ W.cell? ⟨w.heap.size, 1, none⟩ = some (.int .i64 y)) ((refine Kg.cells ?_; repeat (first | assumption | with_reducible refine Kg.alloc ?_ _ | with_reducible refine Kg.drew ?_ | ((with_reducible refine Kg.put ?_ ?_); (first | exact Nat.lt_succ_self _ | omega)) | with_reducible refine Kg.call ?_ (by assumption)))) (fail)
    go_wp2
    refine bodyPost_ret (v := .tuple #[.agg #[.int .i64 (x.tdiv (gcdI x y)), .int .i64 (y.tdiv (gcdI x y))], .int .i64 (gcdI x y), .int .i64 0]) (by simp [results, Try.results27, go_sem, hc1, hz1a, hz1b, hc2, hz2a, hz2b]) rfl ⟨ret_val EA.out.symm, ?_⟩
    repeat (first | exact Below.refl _ _ | refine Below.setCell ?_ (by first | omega | (simp <;> omega)) _ | refine Below.alloc ?_ (by first | omega | (simp <;> omega)) _ | refine bstep ?_ (by assumption) | refine Below.drew ?_)
  · have ea : primV x y = .tuple #[.agg #[.int .i64 0, .int .i64 0], .int .i64 0, .int .i64 5] := by simp [primV, primR, hu, hz]
    have EA := Lib.hid ea
    clear ea
    go_enter Try.func27, Try.ntmps27
    go_wp2_with fail
    refine (isValid_any _ _ _).mono ?_
    rintro e w1 ⟨rfl, hb1⟩
    obtain ⟨hc1, hf1⟩ := bcell hb1
    obtain ⟨hz1a, hz1b⟩ : w.heap.size < w1.heap.size ∧ w.heap.size + 1 < w1.heap.size := by have := hb1.size; (try simp at this); omega
    go_wp2_with fail
    refine (greatest_any _ _ _ (by omega) (by omega) (by omega) (by omega)).mono ?_
    rintro e w2 ⟨rfl, hb2⟩
    obtain ⟨hc2, hf2⟩ := bcell hb2
    obtain ⟨hz2a, hz2b⟩ : w.heap.size < w2.heap.size ∧ w.heap.size + 1 < w2.heap.size := by have := hb2.size; (try simp at this); omega
    go_wp2
    refine bodyPost_ret (v := .tuple #[.agg #[.int .i64 0, .int .i64 0], .int .i64 0, .int .i64 5]) (by simp [results, Try.results27, go_sem, hc1, hz1a, hz1b, hc2, hz2a, hz2b]) rfl ⟨ret_val EA.out.symm, ?_⟩
    repeat (first | exact Below.refl _ _ | refine Below.setCell ?_ (by first | omega | (simp <;> omega)) _ | refine Below.alloc ?_ (by first | omega | (simp <;> omega)) _ | refine bstep ?_ (by assumption) | refine Below.drew ?_)

set_option maxHeartbeats 1000000 in
theorem specPrim_any (x y : Int) (w : World) :
    Calls Try.prog 28 #[.agg #[.int .i64 x, .int .i64 y]] w fun e w' => e = .returned (primV x y) ∧ Below w.heap.size w w' := by
  rcases hu : vecB x y with _ | _
  · have ea : primV x y = .tuple #[.agg #[.int .i64 0, .int .i64 0], .int .i64 0, .int .i64 1] := by simp [primV, primR, hu]
    have EA := Lib.hid ea
    clear ea
    go_enter Try.func28, Try.ntmps28
    go_wp2_with fail
    refine (specIsVec_any _ _ _).mono ?_
    rintro e w1 ⟨rfl, hb1⟩
    obtain ⟨hc1, hf1⟩ := bcell hb1
    obtain ⟨hz1a, hz1b⟩ : w.heap.size < w1.heap.size ∧ w.heap.size + 1 < w1.heap.size := by have := hb1.size; (try simp at this); omega
    go_wp2
    refine bodyPost_ret (v := .tuple #[.agg #[.int .i64 0, .int .i64 0], .int .i64 0, .int .i64 1]) (by simp [results, Try.results28, go_sem, hc1, hz1a, hz1b]) rfl ⟨ret_val EA.out.symm, ?_⟩
    repeat (first | exact Below.refl _ _ | refine Below.setCell ?_ (by first | omega | (simp <;> omega)) _ | refine Below.alloc ?_ (by first | omega | (simp <;> omega)) _ | refine bstep ?_ (by assumption) | refine Below.drew ?_)
  obtain ⟨⟨a1, a2⟩, a3, a4⟩ := vecB_bd hu
  rcases hz : gcdI x y == 0 with _ | _
  · have ea : primV x y = .tuple #[.agg #[.int .i64 (x.tdiv (gcdI x y)), .int .i64 (y.tdiv (gcdI x y))], .int .i64 (gcdI x y), .int .i64 0] := by simp [primV, primR, hu, hz]
    have hz0 : gcdI x y ≠ 0 := by simpa using hz
    have hd0 := gcdI_nonneg x y
    have hd1 : 1 ≤ gcdI x y := by omega
    have hd2 := gcdI_le x y hz0 a1 a2 a3 a4
    obtain ⟨t1, t2⟩ := tdiv_bd x (gcdI x y) a1 a2
    obtain ⟨t3, t4⟩ := tdiv_bd y (gcdI x y) a3 a4
    clear hz0
    have EA := Lib.hid ea
    clear ea
    go_enter Try.func28, Try.ntmps28
    go_wp2_with fail
    refine (specIsVec_any _ _ _).mono ?_
    rintro e w1 ⟨rfl, hb1⟩
    obtain ⟨hc1, hf1⟩ := bcell hb1
    obtain ⟨hz1a, hz1b⟩ : w.heap.size < w1.heap.size ∧ w.heap.size + 1 < w1.heap.size := by have := hb1.size; (try simp at this); omega
    go_wp2_with fail
    refine (divisorB_any _ _ _ (by omega) (by omega) (by omega) (by omega)).mono ?_
    rintro e w2 ⟨rfl, hb2⟩
    obtain ⟨hc2, hf2⟩ := bcell hb2
    obtain ⟨hz2a, hz2b⟩ : w.heap.size < w2.heap.size ∧ w.heap.size + 1 < w2.heap.size := by have := hb2.size; (try simp at this); omega
    go_wp2_with fail
    have K1 : Kg w.heap.size x y w2 := ⟨hz2a, by simp [hc1, hc2, hz1a, hz1b, go_sem], by simp [hc1, hc2, hz1a, hz1b, go_sem]⟩
    have hw1 : IntKind.i64.wrap (x.tdiv (gcdI x y)) = x.tdiv (gcdI x y) := IntWalk.i64_in _ (by omega)
    have hw2 : IntKind.i64.wrap (y.tdiv (gcdI x y)) = y.tdiv (gcdI x y) := IntWalk.i64_in _ (by omega)
    have hz0 : ¬ gcdI x y = 0 := by omega
    go_region_held3 (fun W => W.cell? ⟨w.heap.size, 0, none⟩ = some (.int .i64 x) ∧ W.cell? ⟨w.heap.size, 1, none⟩ = some (.int .i64 y)) ((refine Kg.cells ?_; repeat (first | assumption | with_reducible refine Kg.alloc ?_ _ | with_reducible refine Kg.drew ?_ | ((with_reducible refine Kg.put ?_ ?_); (first | exact Nat.lt_succ_self _ | omega)) | with_reducible refine Kg.call ?_ (by assumption)))) (fail)
    go_wp2
    refine bodyPost_ret (v := .tuple #[.agg #[.int .i64 (x.tdiv (gcdI x y)), .int .i64 (y.tdiv (gcdI x y))], .int .i64 (gcdI x y), .int .i64 0]) (by simp [results, Try.results28, go_sem, hc1, hz1a, hz1b, hc2, hz2a, hz2b]) rfl ⟨ret_val EA.out.symm, ?_⟩
    repeat (first | exact Below.refl _ _ | refine Below.setCell ?_ (by first | omega | (simp <;> omega)) _ | refine Below.alloc ?_ (by first | omega | (simp <;> omega)) _ | refine bstep ?_ (by assumption) | refine Below.drew ?_)
  · have ea : primV x y = .tuple #[.agg #[.int .i64 0, .int .i64 0], .int .i64 0, .int .i64 5] := by simp [primV, primR, hu, hz]
    have EA := Lib.hid ea
    clear ea
    go_enter Try.func28, Try.ntmps28
    go_wp2_with fail
    refine (specIsVec_any _ _ _).mono ?_
    rintro e w1 ⟨rfl, hb1⟩
    obtain ⟨hc1, hf1⟩ := bcell hb1
    obtain ⟨hz1a, hz1b⟩ : w.heap.size < w1.heap.size ∧ w.heap.size + 1 < w1.heap.size := by have := hb1.size; (try simp at this); omega
    go_wp2_with fail
    refine (divisorB_any _ _ _ (by omega) (by omega) (by omega) (by omega)).mono ?_
    rintro e w2 ⟨rfl, hb2⟩
    obtain ⟨hc2, hf2⟩ := bcell hb2
    obtain ⟨hz2a, hz2b⟩ : w.heap.size < w2.heap.size ∧ w.heap.size + 1 < w2.heap.size := by have := hb2.size; (try simp at this); omega
    go_wp2
    refine bodyPost_ret (v := .tuple #[.agg #[.int .i64 0, .int .i64 0], .int .i64 0, .int .i64 5]) (by simp [results, Try.results28, go_sem, hc1, hz1a, hz1b, hc2, hz2a, hz2b]) rfl ⟨ret_val EA.out.symm, ?_⟩
    repeat (first | exact Below.refl _ _ | refine Below.setCell ?_ (by first | omega | (simp <;> omega)) _ | refine Below.alloc ?_ (by first | omega | (simp <;> omega)) _ | refine bstep ?_ (by assumption) | refine Below.drew ?_)

end Go.Proofs.Ytlimlmlndleinaa
