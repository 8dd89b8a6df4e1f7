/-
  Contracts of chapter 3's reduced vectors and members (program and model). Conditions: a valid lattice and numbers from -1000000 to 1000000.
-/
import Derived.Test.YtodkomaeljbhaaaLat1
import Derived.Deep.RegionHeld3
import Derived.LoopTactic
namespace Go.Proofs.Ytodkomaeljbhaaa
open Go.RowKit
set_option linter.unusedSimpArgs false
set_option linter.unusedVariables false

theorem red_q (y C : Int) (hC : 1 ≤ C) : (y - y % C).tdiv C = y / C := by
  have h := Int.emod_add_mul_ediv y C
  rw [show y - y % C = C * (y / C) by omega]
  exact Int.mul_tdiv_cancel_left _ (by omega)
def midI (a : Int) : Prop := -1000000 ≤ a ∧ a ≤ 1000000
theorem red_bd {A B C x y : Int} (h : latI A B C) (hx : midI x) (hy : midI y) :
    (0 ≤ y % C ∧ y % C < C) ∧ (-1000000 ≤ y / C ∧ y / C ≤ 1000000) ∧ (-64000000 ≤ y / C * B ∧ y / C * B ≤ 64000000) ∧ (-1000064 ≤ y - y % C ∧ y - y % C ≤ 1000064) := by
  have hb := latI_bd h
  obtain ⟨h1, h2, h3, h4, h5⟩ := h
  unfold midI at hx hy
  have e1 := Int.emod_nonneg y (show C ≠ 0 by omega)
  have e2 := Int.emod_lt_of_pos y (show 0 < C by omega)
  have e3 := red_q y C h2
  have e4 : ((y - y % C).tdiv C).natAbs ≤ (y - y % C).natAbs := by rw [Int.natAbs_tdiv]; exact Nat.div_le_self _ _
  have e5 : -1000000 ≤ y / C := by
    have := Int.ediv_le_ediv (show 0 < C by omega) (show -1000000 ≤ y by omega)
    have h7 : -1000000 ≤ (-1000000) / C := by
      rw [Int.le_ediv_iff_mul_le (by omega)]
      omega
    omega
  have e6 : y / C ≤ 1000000 := by
    have : y / C * C ≤ y := Int.ediv_mul_le y (by omega)
    by_cases hn : 0 ≤ y / C
    · have := Int.mul_le_mul_of_nonneg_left h2 hn; omega
    · omega
  have e7 : (y / C * B).natAbs ≤ 1000000 * 64 := by
    rw [Int.natAbs_mul]; exact Nat.mul_le_mul (by omega) (by omega)
  refine ⟨⟨e1, e2⟩, ⟨e5, e6⟩, ⟨by omega, by omega⟩, by omega, by omega⟩
def redV (A B C x y : Int) : Value := .agg #[.int .i64 (redX A B C x y), .int .i64 (redY C y)]

set_option maxHeartbeats 2000000 in
theorem reduce_any (A B C x y : Int) (w : World) (h : latI A B C) (hx : midI x) (hy : midI y) :
    Calls Try.prog 66 #[.agg #[.int .i64 A, .int .i64 B, .int .i64 C], .agg #[.int .i64 x, .int .i64 y]] w fun e w' => e = .returned (redV A B C x y) ∧ Below w.heap.size w w' := by
  have hb := red_bd h hx hy
  have hA := latI_bd h
  have hq := red_q y C h.2.1
  obtain ⟨⟨d1, d2⟩, ⟨d3, d4⟩, ⟨d5, d6⟩, d7, d8⟩ := hb
  obtain ⟨h1, h2, h3, h4, h5⟩ := h
  obtain ⟨x1, x2⟩ := hx
  obtain ⟨y1, y2⟩ := hy
  have hC0 : ¬ C = 0 := by omega
  have hw1 : IntKind.i64.wrap ((y - y % C).tdiv C) = (y - y % C).tdiv C := by rw [hq]; exact IntWalk.i64_in _ (by omega)
  have ea : redV A B C x y = .agg #[.int .i64 ((x - (y - y % C).tdiv C * B) % A), .int .i64 (y % C)] := by rw [hq]; rfl
  rw [ea]
  rw [← hq] at d3 d4 d5 d6
  clear ea hq
  go_enter Try.func66, Try.ntmps66
  go_wp2_with fail
  refine (remainder_any _ _ _ (by unfold bigI; omega) (by omega) (by unfold bigI; omega)).mono ?_
  rintro e w1 ⟨rfl, hb1⟩
  obtain ⟨hc1, hf1⟩ := bcell hb1
  obtain ⟨hz1a, hz1b⟩ : w.heap.size < w1.heap.size ∧ w.heap.size + 1 < w1.heap.size := by have := hb1.size; (try simp at this); omega
  have G1 : Kt w.heap.size A B C w1 := Kt.call (Kt.alloc (Kt.alloc (Kt.at _ rfl) _) _) hb1
  have H1 : Kg (w.heap.size + 1) x y w1 := Kg.call (Kg.alloc (Kg.at3 _ (by simp)) _) hb1
  have B1 : Below w.heap.size w w1 := bstep (Below.alloc (Below.alloc (Below.alloc (Below.refl _ _) (by simp) _) (by simp) _) (by simp; omega) _) hb1
  have F1 : KW (w.heap.size + 1 + 1) 0 0 w1 := KW.call (KW.at _ (by simp)) hb1
  clear hb1 hc1 hf1
  obtain ⟨g0, g1, g2, g3⟩ := id G1
  obtain ⟨k0, k1, k2⟩ := id H1
  go_wp2_with fail
  go_region_held3 (fun W => (W.cell? ⟨w.heap.size, 0, none⟩ = some (.int .i64 A) ∧ W.cell? ⟨w.heap.size, 1, none⟩ = some (.int .i64 B) ∧ W.cell? ⟨w.heap.size, 2, none⟩ = some (.int .i64 C)) ∧ (W.cell? ⟨w.heap.size + 1, 0, none⟩ = some (.int .i64 x) ∧ W.cell? ⟨w.heap.size + 1, 1, none⟩ = some (.int .i64 y))) ((refine ⟨Kt.cells ?_, Kg.cells ?_⟩ <;> repeat (first | assumption | with_reducible refine Kt.drew ?_ | with_reducible refine Kg.drew ?_ | with_reducible refine Kt.alloc ?_ _ | with_reducible refine Kg.alloc ?_ _ | with_reducible refine Kt.call ?_ (by assumption) | with_reducible refine Kg.call ?_ (by assumption)))) (fail)
  go_wp2_with fail
  refine (remainder_any _ _ _ (by unfold bigI; omega) (by omega) (by unfold bigI; omega)).mono ?_
  rintro e w2 ⟨rfl, hb2⟩
  have F2 : KW (w.heap.size + 1 + 1) 0 0 w2 := KW.call (F1.drew) hb2
  have B2 : Below w.heap.size w w2 := bstep (Below.drew B1) hb2
  obtain ⟨f0, f1, f2, f3, f4⟩ := id F2
  go_wp2
  refine bodyPost_ret (v := .agg #[.int .i64 ((x - (y - y % C).tdiv C * B) % A), .int .i64 (y % C)]) (by simp [results, Try.results66, go_sem, f0, f1, f2, f3, f4]) rfl ⟨rfl, ?_⟩
  repeat (first | assumption | refine Below.setCell ?_ (by first | omega | (simp <;> omega)) _ | refine Below.alloc ?_ (by first | omega | (simp <;> omega)) _ | refine Below.drew ?_)

set_option maxHeartbeats 2000000 in
theorem l03Reduce_any (A B C x y : Int) (w : World) (h : latI A B C) (hx : midI x) (hy : midI y) :
    Calls Try.prog 65 #[.agg #[.int .i64 A, .int .i64 B, .int .i64 C], .agg #[.int .i64 x, .int .i64 y]] w fun e w' => e = .returned (redV A B C x y) ∧ Below w.heap.size w w' := by
  have hb := red_bd h hx hy
  have hA := latI_bd h
  have hq := red_q y C h.2.1
  obtain ⟨⟨d1, d2⟩, ⟨d3, d4⟩, ⟨d5, d6⟩, d7, d8⟩ := hb
  obtain ⟨h1, h2, h3, h4, h5⟩ := h
  obtain ⟨x1, x2⟩ := hx
  obtain ⟨y1, y2⟩ := hy
  have hC0 : ¬ C = 0 := by omega
  have hw1 : IntKind.i64.wrap ((y - y % C).tdiv C) = (y - y % C).tdiv C := by rw [hq]; exact IntWalk.i64_in _ (by omega)
  have ea : redV A B C x y = .agg #[.int .i64 ((x - (y - y % C).tdiv C * B) % A), .int .i64 (y % C)] := by rw [hq]; rfl
  rw [ea]
  rw [← hq] at d3 d4 d5 d6
  clear ea hq
  go_enter Try.func65, Try.ntmps65
  go_wp2_with fail
  refine (l01Mod_any _ _ _ (by unfold bigI; omega) (by omega) (by unfold bigI; omega)).mono ?_
  rintro e w1 ⟨rfl, hb1⟩
  obtain ⟨hc1, hf1⟩ := bcell hb1
  obtain ⟨hz1a, hz1b⟩ : w.heap.size < w1.heap.size ∧ w.heap.size + 1 < w1.heap.size := by have := hb1.size; (try simp at this); omega
  have G1 : Kt w.heap.size A B C w1 := Kt.call (Kt.alloc (Kt.alloc (Kt.at _ rfl) _) _) hb1
  have H1 : Kg (w.heap.size + 1) x y w1 := Kg.call (Kg.alloc (Kg.at3 _ (by simp)) _) hb1
  have B1 : Below w.heap.size w w1 := bstep (Below.alloc (Below.alloc (Below.alloc (Below.refl _ _) (by simp) _) (by simp) _) (by simp; omega) _) hb1
  have F1 : KW (w.heap.size + 1 + 1) 0 0 w1 := KW.call (KW.at _ (by simp)) hb1
  clear hb1 hc1 hf1
  obtain ⟨g0, g1, g2, g3⟩ := id G1
  obtain ⟨k0, k1, k2⟩ := id H1
  go_wp2_with fail
  refine (l01Mod_any _ _ _ (by unfold bigI; omega) (by omega) (by unfold bigI; omega)).mono ?_
  rintro e w2 ⟨rfl, hb2⟩
  have F2 : KW (w.heap.size + 1 + 1) 0 0 w2 := KW.call (F1) hb2
  have B2 : Below w.heap.size w w2 := bstep (B1) hb2
  obtain ⟨f0, f1, f2, f3, f4⟩ := id F2
  go_wp2
  refine bodyPost_ret (v := .agg #[.int .i64 ((x - (y - y % C).tdiv C * B) % A), .int .i64 (y % C)]) (by simp [results, Try.results65, go_sem, f0, f1, f2, f3, f4]) rfl ⟨rfl, ?_⟩
  repeat (first | assumption | refine Below.setCell ?_ (by first | omega | (simp <;> omega)) _ | refine Below.alloc ?_ (by first | omega | (simp <;> omega)) _ | refine Below.drew ?_)

set_option maxHeartbeats 2000000 in
theorem contains_any (A B C x y : Int) (w : World) (h : latI A B C) (hx : midI x) (hy : midI y) :
    Calls Try.prog 42 #[.agg #[.int .i64 A, .int .i64 B, .int .i64 C], .agg #[.int .i64 x, .int .i64 y]] w fun e w' => e = .returned (.bool (hasB A B C x y)) ∧ Below w.heap.size w w' := by
  go_enter Try.func42, Try.ntmps42
  go_wp2_with fail
  refine (reduce_any _ _ _ _ _ _ h hx hy).mono ?_
  rintro e w1 ⟨he, hb1⟩
  unfold redV at he
  subst he
  have B1 : Below w.heap.size w w1 := bstep (Below.alloc (Below.alloc (Below.refl _ _) (by simp) _) (by simp) _) hb1
  clear hb1
  go_wp2
  all_goals
    go_ret
    exact ⟨ret_bool (by simp_all [hasB]), B1⟩

set_option maxHeartbeats 2000000 in
theorem l03Has_any (A B C x y : Int) (w : World) (h : latI A B C) (hx : midI x) (hy : midI y) :
    Calls Try.prog 41 #[.agg #[.int .i64 A, .int .i64 B, .int .i64 C], .agg #[.int .i64 x, .int .i64 y]] w fun e w' => e = .returned (.bool (hasB A B C x y)) ∧ Below w.heap.size w w' := by
  go_enter Try.func41, Try.ntmps41
  go_wp2_with fail
  refine (l03Reduce_any _ _ _ _ _ _ h hx hy).mono ?_
  rintro e w1 ⟨he, hb1⟩
  unfold redV at he
  subst he
  have B1 : Below w.heap.size w w1 := bstep (Below.alloc (Below.alloc (Below.refl _ _) (by simp) _) (by simp) _) hb1
  clear hb1
  go_wp2
  all_goals
    go_ret
    exact ⟨ret_bool (by simp_all [hasB]), B1⟩

end Go.Proofs.Ytodkomaeljbhaaa
