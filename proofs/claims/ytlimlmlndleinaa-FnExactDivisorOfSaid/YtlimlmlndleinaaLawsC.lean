/-
  The walks of the exact laws of chapter 1 over comparison, divisor and primitive vector: each law returns true and writes nothing that was there. No condition.
-/
import Derived.Test.YtlimlmlndleinaaPrim
import Derived.Test.YtlimlmlndleinaaKeep
import Derived.Deep.RegionHeld3
namespace Go.Proofs.Ytlimlmlndleinaa
open Go.RowKit
set_option linter.unusedSimpArgs false

set_option maxHeartbeats 800000 in
theorem walkCmp (x y x' y' : Int) (w : World) :
    Calls Try.prog 11 #[.agg #[.int .i64 x, .int .i64 y], .agg #[.int .i64 x', .int .i64 y']] w fun e w' => e = .returned (.bool true) ∧ Below w.heap.size w w' := by
  have K0 := K4.made w x y x' y' 40
  go_enter Try.func11, Try.ntmps11
  go_wp2_with fail
  go_region_held3 (fun W => W.cell? ⟨w.heap.size, 0, none⟩ = some (.int .i64 x) ∧ W.cell? ⟨w.heap.size, 1, none⟩ = some (.int .i64 y) ∧ W.cell? ⟨w.heap.size + 1, 0, none⟩ = some (.int .i64 x') ∧ W.cell? ⟨w.heap.size + 1, 1, none⟩ = some (.int .i64 y')) ((refine K4.cells ?_; repeat (first | assumption | with_reducible refine K4.alloc ?_ _ | with_reducible refine K4.drew ?_ | ((with_reducible refine K4.put ?_ ?_); (first | exact K1.1 | exact K2.1 | exact K3.1 | exact KM.1 | exact Nat.lt_succ_self _ | omega)) | with_reducible refine K4.call ?_ (by assumption))))
    (first
      | (go_at_call_of 32 (Value.agg #[Value.int IntKind.i64 x, Value.int IntKind.i64 y]); refine (toVec_any _ _ _).mono ?_; rintro e u1 ⟨rfl, hb1⟩; obtain ⟨hc1, hf1⟩ := bcell hb1; have K1 : K4 w.heap.size x y x' y' u1 := (by repeat (first | assumption | with_reducible refine K4.alloc ?_ _ | with_reducible refine K4.drew ?_ | with_reducible refine K4.call ?_ (by assumption))))
      | (go_at_call_of 32 (Value.agg #[Value.int IntKind.i64 x', Value.int IntKind.i64 y']); refine (toVec_any _ _ _).mono ?_; rintro e u2 ⟨rfl, hb2⟩; obtain ⟨hc2, hf2⟩ := bcell hb2; have K2 : K4 w.heap.size x y x' y' u2 := (by repeat (first | assumption | with_reducible refine K4.alloc ?_ _ | with_reducible refine K4.drew ?_ | with_reducible refine K4.call ?_ (by assumption))); (try ((refine useIt (P := u1.heap.size < u2.heap.size) ?_ ?_); (first | exact lt_alloc hb2 | (have := hb2.size; omega) | (have hthis := hb2.size; simp at hthis; first | done | omega)); intro hq2a)))
      | (go_at_call 23; refine (specCmp_any _ _ _ _ _).mono ?_; rintro e u3 ⟨he, hb3⟩; unfold cmpV at he; subst he; obtain ⟨hc3, hf3⟩ := bcell hb3; have K3 : K4 w.heap.size x y x' y' u3 := (by repeat (first | assumption | with_reducible refine K4.alloc ?_ _ | with_reducible refine K4.drew ?_ | with_reducible refine K4.call ?_ (by assumption))); (try ((refine useIt (P := u1.heap.size < u3.heap.size) ?_ ?_); (first | exact lt_alloc hb3 | (have := hb3.size; omega) | (have hthis := hb3.size; simp at hthis; first | done | omega)); intro hq3a)); (try ((refine useIt (P := u2.heap.size < u3.heap.size) ?_ ?_); (first | exact lt_alloc hb3 | (have := hb3.size; omega) | (have hthis := hb3.size; simp at hthis; first | done | omega)); intro hq3b))))
  go_wp2_with fail
  have KM := K3
  have BM : Below w.heap.size w u3 := by repeat (first | exact Below.refl _ _ | refine Below.setCell ?_ (by first | omega | (simp <;> omega)) _ | refine Below.alloc ?_ (by first | omega | (simp <;> omega)) _ | refine bstep ?_ (by assumption) | refine Below.drew ?_)
  clear hc1 hf1 hc2 hf2 hc3 hf3
  go_region_held3 (fun W => W.cell? ⟨w.heap.size, 0, none⟩ = some (.int .i64 x) ∧ W.cell? ⟨w.heap.size, 1, none⟩ = some (.int .i64 y) ∧ W.cell? ⟨w.heap.size + 1, 0, none⟩ = some (.int .i64 x') ∧ W.cell? ⟨w.heap.size + 1, 1, none⟩ = some (.int .i64 y')) ((refine K4.cells ?_; repeat (first | assumption | with_reducible refine K4.alloc ?_ _ | with_reducible refine K4.drew ?_ | ((with_reducible refine K4.put ?_ ?_); (first | exact K1.1 | exact K2.1 | exact K3.1 | exact KM.1 | exact Nat.lt_succ_self _ | omega)) | with_reducible refine K4.call ?_ (by assumption))))
    (first
      | (go_at_call_of 32 (Value.agg #[Value.int IntKind.i64 x, Value.int IntKind.i64 y]); refine (toVec_any _ _ _).mono ?_; rintro e u4 ⟨rfl, hb4⟩; obtain ⟨hc1, hf1⟩ := bcell hb4; have K5 : K4 w.heap.size x y x' y' u4 := (by repeat (first | assumption | with_reducible refine K4.alloc ?_ _ | with_reducible refine K4.drew ?_ | with_reducible refine K4.call ?_ (by assumption))))
      | (go_at_call_of 32 (Value.agg #[Value.int IntKind.i64 x', Value.int IntKind.i64 y']); refine (toVec_any _ _ _).mono ?_; rintro e u5 ⟨rfl, hb5⟩; obtain ⟨hc2, hf2⟩ := bcell hb5; have K6 : K4 w.heap.size x y x' y' u5 := (by repeat (first | assumption | with_reducible refine K4.alloc ?_ _ | with_reducible refine K4.drew ?_ | with_reducible refine K4.call ?_ (by assumption))); (try ((refine useIt (P := u4.heap.size < u5.heap.size) ?_ ?_); (first | exact lt_alloc hb5 | (have := hb5.size; omega) | (have hthis := hb5.size; simp at hthis; first | done | omega)); intro hq2a)))
      | (go_at_call 22; refine (implCmp_any _ _ _ _ _).mono ?_; rintro e u6 ⟨he, hb6⟩; unfold cmpV at he; subst he; obtain ⟨hc3, hf3⟩ := bcell hb6; have K7 : K4 w.heap.size x y x' y' u6 := (by repeat (first | assumption | with_reducible refine K4.alloc ?_ _ | with_reducible refine K4.drew ?_ | with_reducible refine K4.call ?_ (by assumption))); (try ((refine useIt (P := u4.heap.size < u6.heap.size) ?_ ?_); (first | exact lt_alloc hb6 | (have := hb6.size; omega) | (have hthis := hb6.size; simp at hthis; first | done | omega)); intro hq3a)); (try ((refine useIt (P := u5.heap.size < u6.heap.size) ?_ ?_); (first | exact lt_alloc hb6 | (have := hb6.size; omega) | (have hthis := hb6.size; simp at hthis; first | done | omega)); intro hq3b))))
  go_wp2
  go_ret
  refine ⟨rfl, ?_⟩
  repeat (first | exact Below.refl _ _ | refine Below.setCell ?_ (by first | omega | (simp <;> omega)) _ | refine Below.alloc ?_ (by first | omega | (simp <;> omega)) _ | refine bstep ?_ (by assumption) | refine Below.drew ?_)

set_option maxHeartbeats 1000000 in
theorem walkDiv (a b : Int) (w : World) :
    Calls Try.prog 9 #[.int .i64 a, .int .i64 b] w fun e w' => e = .returned (.bool true) ∧ Below w.heap.size w w' := by
  go_enter Try.func9, Try.ntmps9
  go_wp2_with fail
  refine (specDiv_any _ _ _).mono ?_
  rintro e w1 ⟨he, hb1⟩
  obtain ⟨hc1, hf1⟩ := bcell hb1
  skip
  unfold divV at he
  subst he
  go_wp2_with fail
  refine (implDiv_any _ _ _).mono ?_
  rintro e w2 ⟨he, hb2⟩
  obtain ⟨hc2, hf2⟩ := bcell hb2
  skip
  unfold divV at he
  subst he
  go_wp2
  go_ret
  refine ⟨rfl, ?_⟩
  repeat (first | exact Below.refl _ _ | refine Below.setCell ?_ (by first | omega | (simp <;> omega)) _ | refine Below.alloc ?_ (by first | omega | (simp <;> omega)) _ | refine bstep ?_ (by assumption) | refine Below.drew ?_)

set_option maxHeartbeats 1000000 in
theorem walkPrim (x y : Int) (w : World) :
    Calls Try.prog 10 #[.agg #[.int .i64 x, .int .i64 y]] w fun e w' => e = .returned (.bool true) ∧ Below w.heap.size w w' := by
  have he1 := eqB_rfl (primR x y).1 (primR x y).2.1
  go_enter Try.func10, Try.ntmps10
  go_wp2_with fail
  refine (toVec_any _ _ _).mono ?_
  rintro e w1 ⟨rfl, hb1⟩
  obtain ⟨hc1, hf1⟩ := bcell hb1
  have hz1a : w.heap.size < w1.heap.size := by have := hb1.size; (try simp at this); omega
  go_wp2_with fail
  refine (specPrim_any _ _ _).mono ?_
  rintro e w2 ⟨he, hb2⟩
  obtain ⟨hc2, hf2⟩ := bcell hb2
  have hz2a : w.heap.size < w2.heap.size := by have := hb2.size; (try simp at this); omega
  unfold primV at he
  subst he
  go_wp2_with fail
  refine (toVec_any _ _ _).mono ?_
  rintro e w3 ⟨rfl, hb3⟩
  obtain ⟨hc3, hf3⟩ := bcell hb3
  have hz3a : w.heap.size < w3.heap.size := by have := hb3.size; (try simp at this); omega
  have hy3 : w2.heap.size < w3.heap.size := by have := hb3.size; simp at this; omega
  go_wp2_with fail
  refine (implPrim_any _ _ _).mono ?_
  rintro e w4 ⟨he, hb4⟩
  obtain ⟨hc4, hf4⟩ := bcell hb4
  have hz4a : w.heap.size < w4.heap.size := by have := hb4.size; (try simp at this); omega
  unfold primV at he
  subst he
  have hy4 : w2.heap.size < w4.heap.size := by have := hb4.size; omega
  have hn4 : ¬ w2.heap.size = w4.heap.size := by omega
  go_wp2_with fail
  refine (eqVec_any _ _ _ _ _).mono ?_
  rintro e w5 ⟨rfl, hb5⟩
  obtain ⟨hc5, hf5⟩ := bcell hb5
  skip
  go_wp2
  go_ret
  refine ⟨rfl, ?_⟩
  repeat (first | exact Below.refl _ _ | refine Below.setCell ?_ (by first | omega | (simp <;> omega)) _ | refine Below.alloc ?_ (by first | omega | (simp <;> omega)) _ | refine bstep ?_ (by assumption) | refine Below.drew ?_)

end Go.Proofs.Ytlimlmlndleinaa
