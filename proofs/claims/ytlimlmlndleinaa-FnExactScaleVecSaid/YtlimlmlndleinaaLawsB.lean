/-
  The walks of the exact laws of chapter 1 over multiples, sums and determinants: each law returns true and writes nothing that was there. No condition.
-/
import Derived.Test.YtlimlmlndleinaaOps
import Derived.Test.YtlimlmlndleinaaKeep
import Derived.Deep.RegionHeld3
import Derived.Deep.DeepCutAuto
namespace Go.Proofs.Ytlimlmlndleinaa
open Go.RowKit
set_option linter.unusedSimpArgs false

set_option maxHeartbeats 1000000 in
theorem walkScale (x y n : Int) (w : World) :
    Calls Try.prog 7 #[.agg #[.int .i64 x, .int .i64 y], .int .i64 n] w fun e w' => e = .returned (.bool true) ∧ Below w.heap.size w w' := by
  have he1 := eqB_rfl (scaleR x y n).1 (scaleR x y n).2.1
  go_enter Try.func7, Try.ntmps7
  go_wp2_with fail
  refine (toVec_any _ _ _).mono ?_
  rintro e w1 ⟨rfl, hb1⟩
  obtain ⟨hc1, hf1⟩ := bcell hb1
  have hz1a : w.heap.size < w1.heap.size := by have := hb1.size; (try simp at this); omega
  go_wp2_with fail
  refine (specScale_any _ _ _ _).mono ?_
  rintro e w2 ⟨he, hb2⟩
  obtain ⟨hc2, hf2⟩ := bcell hb2
  have hz2a : w.heap.size < w2.heap.size := by have := hb2.size; (try simp at this); omega
  unfold scaleV at he
  subst he
  go_wp2_with fail
  refine (toVec_any _ _ _).mono ?_
  rintro e w3 ⟨rfl, hb3⟩
  obtain ⟨hc3, hf3⟩ := bcell hb3
  have hz3a : w.heap.size < w3.heap.size := by have := hb3.size; (try simp at this); omega
  have hy3 : w2.heap.size < w3.heap.size := by have := hb3.size; simp at this; omega
  go_wp2_with fail
  refine (implScale_any _ _ _ _).mono ?_
  rintro e w4 ⟨he, hb4⟩
  obtain ⟨hc4, hf4⟩ := bcell hb4
  have hz4a : w.heap.size < w4.heap.size := by have := hb4.size; (try simp at this); omega
  unfold scaleV at he
  subst he
  have hy4 : w2.heap.size < w4.heap.size := by have := hb4.size; omega
  have hn4 : ¬ w2.heap.size = w4.heap.size := by omega
  go_wp2_with fail
  refine (eqVec_any _ _ _ _ _).mono ?_
  rintro e w5 ⟨rfl, hb5⟩
  obtain ⟨hc5, hf5⟩ := bcell hb5
  skip
  go_wp2
  go_ret
  refine ⟨rfl, ?_⟩
  repeat (first | exact Below.refl _ _ | refine Below.setCell ?_ (by first | omega | (simp <;> omega)) _ | refine Below.alloc ?_ (by first | omega | (simp <;> omega)) _ | refine bstep ?_ (by assumption) | refine Below.drew ?_)

def Mid (w : World) (x y x' y' : Int) (r : Int × Int × Int) (s5 s6 : Value) (wx : World) : Prop :=
  ∃ g : Nat, s5 = .pointer (some ⟨g, 0, none⟩) ∧ s6 = .int .i64 r.2.2 ∧ w.heap.size + 1 < g ∧ g < wx.heap.size ∧ wx.cell? ⟨g, 0, none⟩ = some (.int .i64 r.1) ∧ wx.cell? ⟨g, 1, none⟩ = some (.int .i64 r.2.1) ∧ K4 w.heap.size x y x' y' wx ∧ Below w.heap.size w wx

def Mid2 (w : World) (g : Nat) (r : Int × Int × Int) (s7 s8 : Value) (wx : World) : Prop :=
  ∃ g' : Nat, s7 = .pointer (some ⟨g', 0, none⟩) ∧ s8 = .int .i64 r.2.2 ∧ wx.cell? ⟨g', 0, none⟩ = some (.int .i64 r.1) ∧ wx.cell? ⟨g', 1, none⟩ = some (.int .i64 r.2.1) ∧ wx.cell? ⟨g, 0, none⟩ = some (.int .i64 r.1) ∧ wx.cell? ⟨g, 1, none⟩ = some (.int .i64 r.2.1) ∧ Below w.heap.size w wx

set_option maxHeartbeats 800000 in
theorem walkAdd (x y x' y' : Int) (w : World) :
    Calls Try.prog 6 #[.agg #[.int .i64 x, .int .i64 y], .agg #[.int .i64 x', .int .i64 y']] w fun e w' => e = .returned (.bool true) ∧ Below w.heap.size w w' := by
  have he1 := eqB_rfl (addR x y x' y').1 (addR x y x' y').2.1
  have K0 := K4.made w x y x' y' 40
  go_enter Try.func6, Try.ntmps6
  go_upto_region 1 with fail
  go_cut [5, 6] (fun s5 s6 wx => Mid w x y x' y' (addR x y x' y') s5 s6 wx)
  case first =>
    go_region_held3 (fun W => W.cell? ⟨w.heap.size, 0, none⟩ = some (.int .i64 x) ∧ W.cell? ⟨w.heap.size, 1, none⟩ = some (.int .i64 y) ∧ W.cell? ⟨w.heap.size + 1, 0, none⟩ = some (.int .i64 x') ∧ W.cell? ⟨w.heap.size + 1, 1, none⟩ = some (.int .i64 y')) ((refine K4.cells ?_; repeat (first | assumption | with_reducible refine K4.alloc ?_ _ | with_reducible refine K4.drew ?_ | ((with_reducible refine K4.put ?_ ?_); (first | exact K1.1 | exact K2.1 | exact K3.1 | exact KM.1 | exact Nat.lt_succ_self _ | omega)) | with_reducible refine K4.call ?_ (by assumption))))
      (first
      | (go_at_call_of 32 (Value.agg #[Value.int IntKind.i64 x, Value.int IntKind.i64 y]); refine (toVec_any _ _ _).mono ?_; rintro e u1 ⟨rfl, hb1⟩; obtain ⟨hc1, hf1⟩ := bcell hb1; have K1 : K4 w.heap.size x y x' y' u1 := (by repeat (first | assumption | with_reducible refine K4.alloc ?_ _ | with_reducible refine K4.drew ?_ | with_reducible refine K4.call ?_ (by assumption))); (try ((refine useIt (P := w.heap.size + 1 + 1 < u1.heap.size) ?_ ?_); (first | exact lt_alloc hb1 | (have := hb1.size; omega) | (have hthis := hb1.size; simp at hthis; first | done | omega)); intro hq1a)))
      | (go_at_call_of 32 (Value.agg #[Value.int IntKind.i64 x', Value.int IntKind.i64 y']); refine (toVec_any _ _ _).mono ?_; rintro e u2 ⟨rfl, hb2⟩; obtain ⟨hc2, hf2⟩ := bcell hb2; have K2 : K4 w.heap.size x y x' y' u2 := (by repeat (first | assumption | with_reducible refine K4.alloc ?_ _ | with_reducible refine K4.drew ?_ | with_reducible refine K4.call ?_ (by assumption))); (try ((refine useIt (P := w.heap.size + 1 + 1 < u2.heap.size) ?_ ?_); (first | exact lt_alloc hb2 | (have := hb2.size; omega) | (have hthis := hb2.size; simp at hthis; first | done | omega)); intro hq2a)); (try ((refine useIt (P := u1.heap.size < u2.heap.size) ?_ ?_); (first | exact lt_alloc hb2 | (have := hb2.size; omega) | (have hthis := hb2.size; simp at hthis; first | done | omega)); intro hq2b)))
      | (go_at_call 15; refine (specAdd_any _ _ _ _ _).mono ?_; rintro e u3 ⟨he, hb3⟩; unfold addV at he; subst he; obtain ⟨hc3, hf3⟩ := bcell hb3; have K3 : K4 w.heap.size x y x' y' u3 := (by repeat (first | assumption | with_reducible refine K4.alloc ?_ _ | with_reducible refine K4.drew ?_ | with_reducible refine K4.call ?_ (by assumption))); (try ((refine useIt (P := w.heap.size + 1 + 1 < u3.heap.size) ?_ ?_); (first | exact lt_alloc hb3 | (have := hb3.size; omega) | (have hthis := hb3.size; simp at hthis; first | done | omega)); intro hq3a)); (try ((refine useIt (P := u1.heap.size < u3.heap.size) ?_ ?_); (first | exact lt_alloc hb3 | (have := hb3.size; omega) | (have hthis := hb3.size; simp at hthis; first | done | omega)); intro hq3b)); (try ((refine useIt (P := u2.heap.size < u3.heap.size) ?_ ?_); (first | exact lt_alloc hb3 | (have := hb3.size; omega) | (have hthis := hb3.size; simp at hthis; first | done | omega)); intro hq3c))))
    all_goals
      go_wp2_with fail
      go_meet
      have s1 := K1.1
      have s2 := K2.1
      have s3 := K3.1
      refine ⟨_, rfl, rfl, by omega, by simp [*], by simp [*, go_sem], by simp [*, go_sem], ?_, ?_⟩
      · repeat (first | assumption | with_reducible refine K4.alloc ?_ _ | with_reducible refine K4.drew ?_ | ((with_reducible refine K4.put ?_ ?_); (first | exact K1.1 | exact K2.1 | exact K3.1 | exact KM.1 | exact Nat.lt_succ_self _ | omega)) | with_reducible refine K4.call ?_ (by assumption))
      · repeat (first | exact Below.refl _ _ | refine Below.setCell ?_ (by first | omega | (simp <;> omega)) _ | refine Below.alloc ?_ (by first | omega | (simp <;> omega)) _ | refine bstep ?_ (by assumption) | refine Below.drew ?_)
  case rest =>
    obtain ⟨g, rfl, rfl, hg1, hg2, hg3, hg4, KM, BM⟩ := hcut
    have GM : Kg g (addR x y x' y').1 (addR x y x' y').2.1 wc := ⟨hg2, hg3, hg4⟩
    go_wp2_with fail
    go_upto_region 2 with fail
    go_cut [7, 8] (fun s7 s8 wx => Mid2 w g (addR x y x' y') s7 s8 wx)
    case first =>
      go_region_held3 (fun W => W.cell? ⟨w.heap.size, 0, none⟩ = some (.int .i64 x) ∧ W.cell? ⟨w.heap.size, 1, none⟩ = some (.int .i64 y) ∧ W.cell? ⟨w.heap.size + 1, 0, none⟩ = some (.int .i64 x') ∧ W.cell? ⟨w.heap.size + 1, 1, none⟩ = some (.int .i64 y')) ((refine K4.cells ?_; repeat (first | assumption | with_reducible refine K4.alloc ?_ _ | with_reducible refine K4.drew ?_ | ((with_reducible refine K4.put ?_ ?_); (first | exact K1.1 | exact K2.1 | exact K3.1 | exact KM.1 | exact Nat.lt_succ_self _ | omega)) | with_reducible refine K4.call ?_ (by assumption))))
        (first
      | (go_at_call_of 32 (Value.agg #[Value.int IntKind.i64 x, Value.int IntKind.i64 y]); refine (toVec_any _ _ _).mono ?_; rintro e u1 ⟨rfl, hb1⟩; obtain ⟨hc1, hf1⟩ := bcell hb1; have K1 : K4 w.heap.size x y x' y' u1 := (by repeat (first | assumption | with_reducible refine K4.alloc ?_ _ | with_reducible refine K4.drew ?_ | with_reducible refine K4.call ?_ (by assumption))); (try ((refine useIt (P := wc.heap.size < u1.heap.size) ?_ ?_); (first | exact lt_alloc hb1 | (have := hb1.size; omega) | (have hthis := hb1.size; simp at hthis; first | done | omega)); intro hq1a)); (try ((refine useIt (P := g < u1.heap.size) ?_ ?_); (first | exact lt_alloc hb1 | (have := hb1.size; omega) | (have hthis := hb1.size; simp at hthis; first | done | omega)); intro hq1b)))
      | (go_at_call_of 32 (Value.agg #[Value.int IntKind.i64 x', Value.int IntKind.i64 y']); refine (toVec_any _ _ _).mono ?_; rintro e u2 ⟨rfl, hb2⟩; obtain ⟨hc2, hf2⟩ := bcell hb2; have K2 : K4 w.heap.size x y x' y' u2 := (by repeat (first | assumption | with_reducible refine K4.alloc ?_ _ | with_reducible refine K4.drew ?_ | with_reducible refine K4.call ?_ (by assumption))); (try ((refine useIt (P := wc.heap.size < u2.heap.size) ?_ ?_); (first | exact lt_alloc hb2 | (have := hb2.size; omega) | (have hthis := hb2.size; simp at hthis; first | done | omega)); intro hq2a)); (try ((refine useIt (P := g < u2.heap.size) ?_ ?_); (first | exact lt_alloc hb2 | (have := hb2.size; omega) | (have hthis := hb2.size; simp at hthis; first | done | omega)); intro hq2b)); (try ((refine useIt (P := u1.heap.size < u2.heap.size) ?_ ?_); (first | exact lt_alloc hb2 | (have := hb2.size; omega) | (have hthis := hb2.size; simp at hthis; first | done | omega)); intro hq2c)))
      | (go_at_call 14; refine (implAdd_any _ _ _ _ _).mono ?_; rintro e u3 ⟨he, hb3⟩; unfold addV at he; subst he; obtain ⟨hc3, hf3⟩ := bcell hb3; have K3 : K4 w.heap.size x y x' y' u3 := (by repeat (first | assumption | with_reducible refine K4.alloc ?_ _ | with_reducible refine K4.drew ?_ | with_reducible refine K4.call ?_ (by assumption))); (try ((refine useIt (P := wc.heap.size < u3.heap.size) ?_ ?_); (first | exact lt_alloc hb3 | (have := hb3.size; omega) | (have hthis := hb3.size; simp at hthis; first | done | omega)); intro hq3a)); (try ((refine useIt (P := g < u3.heap.size) ?_ ?_); (first | exact lt_alloc hb3 | (have := hb3.size; omega) | (have hthis := hb3.size; simp at hthis; first | done | omega)); intro hq3b)); (try ((refine useIt (P := u1.heap.size < u3.heap.size) ?_ ?_); (first | exact lt_alloc hb3 | (have := hb3.size; omega) | (have hthis := hb3.size; simp at hthis; first | done | omega)); intro hq3c)); (try ((refine useIt (P := u2.heap.size < u3.heap.size) ?_ ?_); (first | exact lt_alloc hb3 | (have := hb3.size; omega) | (have hthis := hb3.size; simp at hthis; first | done | omega)); intro hq3d))))
      all_goals
        go_wp2_with fail
        go_meet
        have s1 := K1.1
        have s2 := K2.1
        have s3 := K3.1
        have G1 : Kg g (addR x y x' y').1 (addR x y x' y').2.1 u1 := by repeat (first | assumption | with_reducible refine Kg.alloc ?_ _ | with_reducible refine Kg.drew ?_ | ((with_reducible refine Kg.put ?_ ?_); (first | exact G1.1 | exact G2.1 | exact G3.1 | exact GM.1 | exact Nat.lt_succ_self _ | omega)) | with_reducible refine Kg.call ?_ (by assumption))
        have G2 : Kg g (addR x y x' y').1 (addR x y x' y').2.1 u2 := by repeat (first | assumption | with_reducible refine Kg.alloc ?_ _ | with_reducible refine Kg.drew ?_ | ((with_reducible refine Kg.put ?_ ?_); (first | exact G1.1 | exact G2.1 | exact G3.1 | exact GM.1 | exact Nat.lt_succ_self _ | omega)) | with_reducible refine Kg.call ?_ (by assumption))
        have G3 : Kg g (addR x y x' y').1 (addR x y x' y').2.1 u3 := by repeat (first | assumption | with_reducible refine Kg.alloc ?_ _ | with_reducible refine Kg.drew ?_ | ((with_reducible refine Kg.put ?_ ?_); (first | exact G1.1 | exact G2.1 | exact G3.1 | exact GM.1 | exact Nat.lt_succ_self _ | omega)) | with_reducible refine Kg.call ?_ (by assumption))
        refine ⟨_, rfl, rfl, by simp [*, go_sem], by simp [*, go_sem], Kg.c0 (b := (addR x y x' y').2.1) ?_, Kg.c1 (a := (addR x y x' y').1) ?_, ?_⟩
        · repeat (first | assumption | with_reducible refine Kg.alloc ?_ _ | with_reducible refine Kg.drew ?_ | ((with_reducible refine Kg.put ?_ ?_); (first | exact G1.1 | exact G2.1 | exact G3.1 | exact GM.1 | exact Nat.lt_succ_self _ | omega)) | with_reducible refine Kg.call ?_ (by assumption))
        · repeat (first | assumption | with_reducible refine Kg.alloc ?_ _ | with_reducible refine Kg.drew ?_ | ((with_reducible refine Kg.put ?_ ?_); (first | exact G1.1 | exact G2.1 | exact G3.1 | exact GM.1 | exact Nat.lt_succ_self _ | omega)) | with_reducible refine Kg.call ?_ (by assumption))
        · repeat (first | exact Below.refl _ _ | refine Below.setCell ?_ (by first | omega | (simp <;> omega)) _ | refine Below.alloc ?_ (by first | omega | (simp <;> omega)) _ | refine bstep ?_ (by assumption) | refine Below.drew ?_)
    case rest =>
      obtain ⟨g', rfl, rfl, hg5, hg6, hg7, hg8, BN⟩ := hcut
      go_wp2_with fail
      refine (eqVec_any _ _ _ _ _).mono ?_
      rintro e w5 ⟨rfl, hb5⟩
      obtain ⟨hc5, hf5⟩ := bcell hb5
      skip
      go_wp2
      go_ret
      refine ⟨rfl, ?_⟩
      exact bstep BN hb5

set_option maxHeartbeats 800000 in
theorem walkDet (x y x' y' : Int) (w : World) :
    Calls Try.prog 8 #[.agg #[.int .i64 x, .int .i64 y], .agg #[.int .i64 x', .int .i64 y']] w fun e w' => e = .returned (.bool true) ∧ Below w.heap.size w w' := by
  have K0 := K4.made w x y x' y' 40
  go_enter Try.func8, Try.ntmps8
  go_wp2_with fail
  go_region_held3 (fun W => W.cell? ⟨w.heap.size, 0, none⟩ = some (.int .i64 x) ∧ W.cell? ⟨w.heap.size, 1, none⟩ = some (.int .i64 y) ∧ W.cell? ⟨w.heap.size + 1, 0, none⟩ = some (.int .i64 x') ∧ W.cell? ⟨w.heap.size + 1, 1, none⟩ = some (.int .i64 y')) ((refine K4.cells ?_; repeat (first | assumption | with_reducible refine K4.alloc ?_ _ | with_reducible refine K4.drew ?_ | ((with_reducible refine K4.put ?_ ?_); (first | exact K1.1 | exact K2.1 | exact K3.1 | exact KM.1 | exact Nat.lt_succ_self _ | omega)) | with_reducible refine K4.call ?_ (by assumption))))
    (first
      | (go_at_call_of 32 (Value.agg #[Value.int IntKind.i64 x, Value.int IntKind.i64 y]); refine (toVec_any _ _ _).mono ?_; rintro e u1 ⟨rfl, hb1⟩; obtain ⟨hc1, hf1⟩ := bcell hb1; have K1 : K4 w.heap.size x y x' y' u1 := (by repeat (first | assumption | with_reducible refine K4.alloc ?_ _ | with_reducible refine K4.drew ?_ | with_reducible refine K4.call ?_ (by assumption))))
      | (go_at_call_of 32 (Value.agg #[Value.int IntKind.i64 x', Value.int IntKind.i64 y']); refine (toVec_any _ _ _).mono ?_; rintro e u2 ⟨rfl, hb2⟩; obtain ⟨hc2, hf2⟩ := bcell hb2; have K2 : K4 w.heap.size x y x' y' u2 := (by repeat (first | assumption | with_reducible refine K4.alloc ?_ _ | with_reducible refine K4.drew ?_ | with_reducible refine K4.call ?_ (by assumption))); (try ((refine useIt (P := u1.heap.size < u2.heap.size) ?_ ?_); (first | exact lt_alloc hb2 | (have := hb2.size; omega) | (have hthis := hb2.size; simp at hthis; first | done | omega)); intro hq2a)))
      | (go_at_call 20; refine (specDet_any _ _ _ _ _).mono ?_; rintro e u3 ⟨he, hb3⟩; unfold detV at he; subst he; obtain ⟨hc3, hf3⟩ := bcell hb3; have K3 : K4 w.heap.size x y x' y' u3 := (by repeat (first | assumption | with_reducible refine K4.alloc ?_ _ | with_reducible refine K4.drew ?_ | with_reducible refine K4.call ?_ (by assumption))); (try ((refine useIt (P := u1.heap.size < u3.heap.size) ?_ ?_); (first | exact lt_alloc hb3 | (have := hb3.size; omega) | (have hthis := hb3.size; simp at hthis; first | done | omega)); intro hq3a)); (try ((refine useIt (P := u2.heap.size < u3.heap.size) ?_ ?_); (first | exact lt_alloc hb3 | (have := hb3.size; omega) | (have hthis := hb3.size; simp at hthis; first | done | omega)); intro hq3b))))
  go_wp2_with fail
  have KM := K3
  have BM : Below w.heap.size w u3 := by repeat (first | exact Below.refl _ _ | refine Below.setCell ?_ (by first | omega | (simp <;> omega)) _ | refine Below.alloc ?_ (by first | omega | (simp <;> omega)) _ | refine bstep ?_ (by assumption) | refine Below.drew ?_)
  clear hc1 hf1 hc2 hf2 hc3 hf3
  go_region_held3 (fun W => W.cell? ⟨w.heap.size, 0, none⟩ = some (.int .i64 x) ∧ W.cell? ⟨w.heap.size, 1, none⟩ = some (.int .i64 y) ∧ W.cell? ⟨w.heap.size + 1, 0, none⟩ = some (.int .i64 x') ∧ W.cell? ⟨w.heap.size + 1, 1, none⟩ = some (.int .i64 y')) ((refine K4.cells ?_; repeat (first | assumption | with_reducible refine K4.alloc ?_ _ | with_reducible refine K4.drew ?_ | ((with_reducible refine K4.put ?_ ?_); (first | exact K1.1 | exact K2.1 | exact K3.1 | exact KM.1 | exact Nat.lt_succ_self _ | omega)) | with_reducible refine K4.call ?_ (by assumption))))
    (first
      | (go_at_call_of 32 (Value.agg #[Value.int IntKind.i64 x, Value.int IntKind.i64 y]); refine (toVec_any _ _ _).mono ?_; rintro e u4 ⟨rfl, hb4⟩; obtain ⟨hc1, hf1⟩ := bcell hb4; have K5 : K4 w.heap.size x y x' y' u4 := (by repeat (first | assumption | with_reducible refine K4.alloc ?_ _ | with_reducible refine K4.drew ?_ | with_reducible refine K4.call ?_ (by assumption))))
      | (go_at_call_of 32 (Value.agg #[Value.int IntKind.i64 x', Value.int IntKind.i64 y']); refine (toVec_any _ _ _).mono ?_; rintro e u5 ⟨rfl, hb5⟩; obtain ⟨hc2, hf2⟩ := bcell hb5; have K6 : K4 w.heap.size x y x' y' u5 := (by repeat (first | assumption | with_reducible refine K4.alloc ?_ _ | with_reducible refine K4.drew ?_ | with_reducible refine K4.call ?_ (by assumption))); (try ((refine useIt (P := u4.heap.size < u5.heap.size) ?_ ?_); (first | exact lt_alloc hb5 | (have := hb5.size; omega) | (have hthis := hb5.size; simp at hthis; first | done | omega)); intro hq2a)))
      | (go_at_call 19; refine (implDet_any _ _ _ _ _).mono ?_; rintro e u6 ⟨he, hb6⟩; unfold detV at he; subst he; obtain ⟨hc3, hf3⟩ := bcell hb6; have K7 : K4 w.heap.size x y x' y' u6 := (by repeat (first | assumption | with_reducible refine K4.alloc ?_ _ | with_reducible refine K4.drew ?_ | with_reducible refine K4.call ?_ (by assumption))); (try ((refine useIt (P := u4.heap.size < u6.heap.size) ?_ ?_); (first | exact lt_alloc hb6 | (have := hb6.size; omega) | (have hthis := hb6.size; simp at hthis; first | done | omega)); intro hq3a)); (try ((refine useIt (P := u5.heap.size < u6.heap.size) ?_ ?_); (first | exact lt_alloc hb6 | (have := hb6.size; omega) | (have hthis := hb6.size; simp at hthis; first | done | omega)); intro hq3b))))
  go_wp2
  go_ret
  refine ⟨rfl, ?_⟩
  repeat (first | exact Below.refl _ _ | refine Below.setCell ?_ (by first | omega | (simp <;> omega)) _ | refine Below.alloc ?_ (by first | omega | (simp <;> omega)) _ | refine bstep ?_ (by assumption) | refine Below.drew ?_)

end Go.Proofs.Ytlimlmlndleinaa
