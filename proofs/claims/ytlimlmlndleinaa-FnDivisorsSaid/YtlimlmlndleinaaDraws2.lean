/-
  The function of the model that draws two vectors to compare: it returns some vectors and turns nothing that was there. Condition: the code's bytes can be read, at most 2^47 of them.
-/
import Derived.Test.YtlimlmlndleinaaDraws1
import Derived.Deep.RegionHeld3
namespace Go.Proofs.Ytlimlmlndleinaa
open Go.RowKit
set_option linter.unusedSimpArgs false
set_option linter.unusedVariables false

theorem KF.cells {R : Nat} {a b : Int} {W : World} (h : KF R a b W) : W.cell? ⟨R, 0, none⟩ = some (.int .i64 a) ∧ W.cell? ⟨R, 1, none⟩ = some (.int .i64 b) := ⟨h.c0, h.c1⟩
theorem KF.far {R : Nat} {a b : Int} {W : World} {q : Addr} {u : Value} (hq : q.block ≠ R) (h : KF R a b W) : KF R a b (W.setCell q u) := by
  have hb : Only q.block W (W.setCell q u) := (Only.refl _ _).setCell rfl u
  exact h.only hb (Ne.symm hq)

set_option maxHeartbeats 1000000 in
theorem drawCmp_any (a0 : Option Addr) (len cap : Nat) (w : World) (hl : len ≤ 140737488355328) (hB : Bts a0 len w.heap.size w) :
    Calls Try.prog 21 #[.slice a0 len cap] w (TwoVecs w) := by
  go_enter Try.func21, Try.ntmps21
  go_wp2_with fail
  refine (from_at (w.heap.size + 1 + 1) a0 len cap _ (by simp) hl (hB.grow (Below.alloc (Below.alloc (Below.refl _ _) (by first | omega | (simp <;> omega)) _) (by first | omega | (simp <;> omega)) _) (by omega))).mono ?_
  rintro e w1 ⟨rfl, S1, H1⟩
  have B1 : Below w.heap.size w w1 := bstep (Below.alloc (Below.alloc (Below.refl _ _) (by first | omega | (simp <;> omega)) _) (by first | omega | (simp <;> omega)) _) H1
  have R0_1 : KF (w.heap.size) 0 0 w1 := KF.call ((KF.at (w.heap.size) (by simp) : KF (w.heap.size) 0 0 _).alloc _) H1
  have R1_1 : KF (w.heap.size + 1) 0 0 w1 := KF.call ((KF.at (w.heap.size + 1) (by simp) : KF (w.heap.size + 1) 0 0 _)) H1
  clear H1
  go_wp2_with fail
  refine (draw_any (w.heap.size + 1 + 1) a0 len cap _ S1).mono ?_
  rintro e w2 ⟨x2, y2, rfl, S2, O2⟩
  have R0_2 := KF.only (R0_1) O2 (by omega)
  have R1_2 := KF.only (R1_1) O2 (by omega)
  have B2 := bonly (B1) O2 (by omega)
  clear S1 O2 B1 R0_1 R1_1
  have RU : KF w2.heap.size x2 y2 (w2.alloc (.cells #[.int .i64 x2, .int .i64 y2] 25)) := KF.made _ _ _ _
  have hU : w.heap.size + 1 + 1 < w2.heap.size := S2.lt
  go_wp2_with fail
  refine (next_any _ (w.heap.size + 1 + 1) a0 len cap _ (S2.alloc _)).mono ?_
  rintro e w3 ⟨x3, rfl, y3, z3, S3, O3⟩
  have R0_3 := KF.only (R0_2.alloc _) O3 (by omega)
  have R1_3 := KF.only (R1_2.alloc _) O3 (by omega)
  have B3 := bonly (Below.alloc (B2) (by have := B2.size; first | omega | (simp <;> omega)) _) O3 (by omega)
  have RU3 := KF.only RU O3 (by omega)
  clear S2 O3 B2 R0_2 R1_2 RU
  have hn0 : w.heap.size ≠ w2.heap.size := by omega
  have hn1 : w.heap.size + 1 ≠ w2.heap.size := by omega
  have u0 := RU3.c0
  have u1 := RU3.c1
  have e0c0 := R0_3.c0
  have e0c1 := R0_3.c1
  have e0f0 := R0_3.f0
  have e0f1 := R0_3.f1
  have e1c0 := R1_3.c0
  have e1c1 := R1_3.c1
  have e1f0 := R1_3.f0
  have e1f1 := R1_3.f1
  rcases hx3 : x3 == 0 with _ | _
  · rcases hx4 : x3 == 1 with _ | _
    · go_wp2_with fail
      go_region_held3 (fun W => W.cell? ⟨w2.heap.size, 0, none⟩ = some (.int .i64 x2) ∧ W.cell? ⟨w2.heap.size, 1, none⟩ = some (.int .i64 y2)) ((refine KF.cells ?_; repeat (first | assumption | with_reducible refine KF.drew ?_ | ((with_reducible refine KF.far ?_ ?_); (first | exact hn0 | exact hn1)))))
        (first | (go_at_call 35; refine (draw_any (w.heap.size + 1 + 1) a0 len cap _ S3.drew).mono ?_; rintro e u4 ⟨x4, y4, rfl, S4, O4⟩; have RU4 := KF.only RU3.drew O4 (by omega); have R0_4 := KF.only R0_3.drew O4 (by omega); have R1_4 := KF.only R1_3.drew O4 (by omega); have B4 := bonly B3.drew O4 (by omega); have e0c0 := R0_4.c0; have e0c1 := R0_4.c1; have e0f0 := R0_4.f0; have e0f1 := R0_4.f1; have e1c0 := R1_4.c0; have e1c1 := R1_4.c1; have e1f0 := R1_4.f0; have e1f1 := R1_4.f1))
      all_goals
        go_wp2
        refine bodyPost_ret (v := .tuple #[.agg #[.int .i64 x2, .int .i64 y2], .agg #[.int .i64 x4, .int .i64 y4]]) (by simp [results, Try.results21, go_sem, e0c0, e0c1, e1c0, e1c1]) rfl ⟨x2, y2, x4, y4, rfl, ?_⟩
        repeat (first | assumption | refine Below.setCell ?_ (by first | omega | (simp <;> omega)) _ | refine Below.alloc ?_ (by first | omega | (simp <;> omega)) _ | refine Below.drew ?_)
    · go_wp2_with fail
      go_region_held3 (fun W => W.cell? ⟨w2.heap.size, 0, none⟩ = some (.int .i64 x2) ∧ W.cell? ⟨w2.heap.size, 1, none⟩ = some (.int .i64 y2)) ((refine KF.cells ?_; repeat (first | assumption | with_reducible refine KF.drew ?_ | ((with_reducible refine KF.far ?_ ?_); (first | exact hn0 | exact hn1)))))
        (first | (go_at_call 41; refine (next_any _ (w.heap.size + 1 + 1) a0 len cap _ S3.drew).mono ?_; rintro e u4 ⟨x4, rfl, y4, z4, S4, O4⟩; have RU4 := KF.only RU3.drew O4 (by omega); have R0_4 := KF.only R0_3.drew O4 (by omega); have R1_4 := KF.only R1_3.drew O4 (by omega); have B4 := bonly B3.drew O4 (by omega); have e0c0 := R0_4.c0; have e0c1 := R0_4.c1; have e0f0 := R0_4.f0; have e0f1 := R0_4.f1; have e1c0 := R1_4.c0; have e1c1 := R1_4.c1; have e1f0 := R1_4.f0; have e1f1 := R1_4.f1))
      all_goals
        go_wp2
        refine bodyPost_ret (v := .tuple #[.agg #[.int .i64 x2, .int .i64 y2], .agg #[.int .i64 x2, .int .i64 _]]) (by simp [results, Try.results21, go_sem, e0c0, e0c1, e1c0, e1c1]; rfl) rfl ⟨x2, y2, x2, _, rfl, ?_⟩
        repeat (first | assumption | refine Below.setCell ?_ (by first | omega | (simp <;> omega)) _ | refine Below.alloc ?_ (by first | omega | (simp <;> omega)) _ | refine Below.drew ?_)
  · go_wp2_with fail
    go_region_held3 (fun W => W.cell? ⟨w2.heap.size, 0, none⟩ = some (.int .i64 x2) ∧ W.cell? ⟨w2.heap.size, 1, none⟩ = some (.int .i64 y2)) ((refine KF.cells ?_; repeat (first | assumption | with_reducible refine KF.drew ?_ | ((with_reducible refine KF.far ?_ ?_); (first | exact hn0 | exact hn1))))) (fail)
    all_goals
      go_wp2
      refine bodyPost_ret (v := .tuple #[.agg #[.int .i64 x2, .int .i64 y2], .agg #[.int .i64 x2, .int .i64 y2]]) (by simp [results, Try.results21, go_sem, e0c0, e0c1, e1c0, e1c1]) rfl ⟨x2, y2, x2, y2, rfl, ?_⟩
      repeat (first | assumption | refine Below.setCell ?_ (by first | omega | (simp <;> omega)) _ | refine Below.alloc ?_ (by first | omega | (simp <;> omega)) _ | refine Below.drew ?_)

end Go.Proofs.Ytlimlmlndleinaa
