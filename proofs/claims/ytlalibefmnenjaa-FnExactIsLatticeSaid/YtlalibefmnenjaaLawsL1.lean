/-
  The walks of the exact laws of chapter 3 over validity, reduced vectors and members: each law returns true and writes nothing that was there. No condition.
-/
import Derived.Test.YtlalibefmnenjaaLat3
import Derived.Deep.DeepCutAuto
namespace Go.Proofs.Ytlalibefmnenjaa
open Go.RowKit
set_option linter.unusedSimpArgs false
set_option linter.unusedVariables false

set_option maxHeartbeats 8000000 in
theorem walkIsLat (A B C : Int) (w : World) :
    Calls Try.prog 5 #[.agg #[.int .i64 A, .int .i64 B, .int .i64 C]] w fun e w' => e = .returned (.bool true) ∧ Below w.heap.size w w' := by
  go_enter Try.func5, Try.ntmps5
  go_wp2_with fail
  refine (toLat_any _ _ _ _).mono ?_
  rintro e w1 ⟨rfl, hb1⟩
  obtain ⟨hc1, hf1⟩ := bcell hb1
  have hz1a : w.heap.size < w1.heap.size := by have := hb1.size; (try simp at this); omega
  go_wp2_with fail
  refine (specIsLattice_any _ _ _ _).mono ?_
  rintro e w2 ⟨rfl, hb2⟩
  obtain ⟨hc2, hf2⟩ := bcell hb2
  have hz2a : w.heap.size < w2.heap.size := by have := hb2.size; (try simp at this); omega
  go_wp2_with fail
  refine (toLat_any _ _ _ _).mono ?_
  rintro e w3 ⟨rfl, hb3⟩
  obtain ⟨hc3, hf3⟩ := bcell hb3
  have hz3a : w.heap.size < w3.heap.size := by have := hb3.size; (try simp at this); omega
  go_wp2_with fail
  refine (implIsLattice_any _ _ _ _).mono ?_
  rintro e w4 ⟨rfl, hb4⟩
  obtain ⟨hc4, hf4⟩ := bcell hb4
  have hz4a : w.heap.size < w4.heap.size := by have := hb4.size; (try simp at this); omega
  go_wp2
  all_goals
    first
    | (go_ret; refine ⟨rfl, ?_⟩; repeat (first | exact Below.refl _ _ | refine Below.setCell ?_ (by first | omega | (simp <;> omega)) _ | refine Below.alloc ?_ (by first | omega | (simp <;> omega)) _ | refine bstep ?_ (by assumption) | refine Below.drew ?_))
    | (exfalso; simp_all)

def MidwalkRed (w : World) (A B C x y : Int) (r : Int × Int × Int) (s5 s6 : Value) (wx : World) : Prop :=
  ∃ g : Nat, s5 = .pointer (some ⟨g, 0, none⟩) ∧ s6 = .int .i64 r.2.2 ∧ w.heap.size + 1 < g ∧ g < wx.heap.size ∧ (wx.cell? ⟨g, 0, none⟩ = some (.int .i64 r.1) ∧ wx.cell? ⟨g, 1, none⟩ = some (.int .i64 r.2.1)) ∧ Kt w.heap.size A B C wx ∧ Kg (w.heap.size + 1) x y wx ∧ Below w.heap.size w wx
def NidwalkRed (w : World) (g : Nat) (r : Int × Int × Int) (s7 s8 : Value) (wx : World) : Prop :=
  ∃ g' : Nat, s7 = .pointer (some ⟨g', 0, none⟩) ∧ s8 = .int .i64 r.2.2 ∧ (wx.cell? ⟨g', 0, none⟩ = some (.int .i64 r.1) ∧ wx.cell? ⟨g', 1, none⟩ = some (.int .i64 r.2.1)) ∧ (wx.cell? ⟨g, 0, none⟩ = some (.int .i64 r.1) ∧ wx.cell? ⟨g, 1, none⟩ = some (.int .i64 r.2.1)) ∧ Below w.heap.size w wx

set_option maxHeartbeats 8000000 in
theorem walkRed (A B C x y : Int) (w : World) :
    Calls Try.prog 7 #[.agg #[.int .i64 A, .int .i64 B, .int .i64 C], .agg #[.int .i64 x, .int .i64 y]] w fun e w' => e = .returned (.bool true) ∧ Below w.heap.size w w' := by
  have he1 := eqB_rfl (redR A B C x y).1 (redR A B C x y).2.1
  have M0 : Kt w.heap.size A B C ((w.alloc (.cells #[.int .i64 A, .int .i64 B, .int .i64 C] 51)).alloc (.cells #[.int .i64 x, .int .i64 y] 54)) := (Kt.at _ rfl).alloc _
  have N0 : Kg (w.heap.size + 1) x y ((w.alloc (.cells #[.int .i64 A, .int .i64 B, .int .i64 C] 51)).alloc (.cells #[.int .i64 x, .int .i64 y] 54)) := Kg.at3 _ (by simp)
  go_enter Try.func7, Try.ntmps7
  go_upto_region 1 with fail
  go_cut [5, 6] (fun s5 s6 wx => MidwalkRed w A B C x y (redR A B C x y) s5 s6 wx)
  case first =>
    go_region_held3 (fun W => (W.cell? ⟨w.heap.size, 0, none⟩ = some (.int .i64 A) ∧ W.cell? ⟨w.heap.size, 1, none⟩ = some (.int .i64 B) ∧ W.cell? ⟨w.heap.size, 2, none⟩ = some (.int .i64 C)) ∧ (W.cell? ⟨w.heap.size + 1, 0, none⟩ = some (.int .i64 x) ∧ W.cell? ⟨w.heap.size + 1, 1, none⟩ = some (.int .i64 y))) ((refine ⟨Kt.cells ?_, Kg.cells ?_⟩; (repeat (first | assumption | with_reducible refine Kt.alloc ?_ _ | with_reducible refine Kt.drew ?_ | ((with_reducible refine Kt.put ?_ ?_); (first | exact M0.1 | exact Nat.lt_succ_of_lt M0.1 | exact M1.1 | exact Nat.lt_succ_of_lt M1.1 | exact M2.1 | exact Nat.lt_succ_of_lt M2.1 | exact M3.1 | exact Nat.lt_succ_of_lt M3.1 | exact M9.1 | exact Nat.lt_succ_of_lt M9.1 | exact Nat.lt_succ_self _ | omega | (dsimp only; omega))) | with_reducible refine Kt.call ?_ (by assumption))); (repeat (first | assumption | with_reducible refine Kg.alloc ?_ _ | with_reducible refine Kg.drew ?_ | ((with_reducible refine Kg.put ?_ ?_); (first | exact N0.1 | exact Nat.lt_succ_of_lt N0.1 | exact N1.1 | exact Nat.lt_succ_of_lt N1.1 | exact N2.1 | exact Nat.lt_succ_of_lt N2.1 | exact N3.1 | exact Nat.lt_succ_of_lt N3.1 | exact N9.1 | exact Nat.lt_succ_of_lt N9.1 | exact Nat.lt_succ_self _ | omega | (dsimp only; omega))) | with_reducible refine Kg.call ?_ (by assumption)))))
      (first
        | (go_at_call_of 37 (Value.agg #[Value.int IntKind.i64 A, Value.int IntKind.i64 B, Value.int IntKind.i64 C]); refine (toLat_any _ _ _ _).mono ?_; rintro e u1 ⟨rfl, hb1⟩; obtain ⟨hc1, hf1⟩ := bcell hb1; have M1 : Kt w.heap.size A B C u1 := (by repeat (first | assumption | with_reducible refine Kt.alloc ?_ _ | with_reducible refine Kt.drew ?_ | with_reducible refine Kt.call ?_ (by assumption))); have N1 : Kg (w.heap.size + 1) x y u1 := (by repeat (first | assumption | with_reducible refine Kg.alloc ?_ _ | with_reducible refine Kg.drew ?_ | with_reducible refine Kg.call ?_ (by assumption))); (try ((refine useIt (P := w.heap.size + 1 + 1 < u1.heap.size) ?_ ?_); (first | exact lt_alloc hb1 | (have := hb1.size; omega) | (have hthis := hb1.size; simp at hthis; first | done | omega)); intro hq1a)); (try ((refine useIt (P := u1.cell? ⟨w.heap.size + 1 + 1, 0, none⟩ = some (.int .i64 0) ∧ u1.cell? ⟨w.heap.size + 1 + 1, 1, none⟩ = some (.int .i64 0)) ?_ ?_); ((refine ⟨?_, ?_⟩) <;> ((refine (hc1 _ _ ?_).trans ?_); (first | assumption | (simp; done) | (simp; omega)); (first | assumption | (simp [go_sem]; done)))); rintro ⟨hx1a0, hx1a1⟩)))
        | (go_at_call_of 38 (Value.agg #[Value.int IntKind.i64 x, Value.int IntKind.i64 y]); refine (toVec_any _ _ _).mono ?_; rintro e u2 ⟨rfl, hb2⟩; obtain ⟨hc2, hf2⟩ := bcell hb2; have M2 : Kt w.heap.size A B C u2 := (by repeat (first | assumption | with_reducible refine Kt.alloc ?_ _ | with_reducible refine Kt.drew ?_ | with_reducible refine Kt.call ?_ (by assumption))); have N2 : Kg (w.heap.size + 1) x y u2 := (by repeat (first | assumption | with_reducible refine Kg.alloc ?_ _ | with_reducible refine Kg.drew ?_ | with_reducible refine Kg.call ?_ (by assumption))); (try ((refine useIt (P := w.heap.size + 1 + 1 < u2.heap.size) ?_ ?_); (first | exact lt_alloc hb2 | (have := hb2.size; omega) | (have hthis := hb2.size; simp at hthis; first | done | omega)); intro hq2a)); (try ((refine useIt (P := u1.heap.size < u2.heap.size) ?_ ?_); (first | exact lt_alloc hb2 | (have := hb2.size; omega) | (have hthis := hb2.size; simp at hthis; first | done | omega)); intro hq2b)); (try ((refine useIt (P := u2.cell? ⟨w.heap.size + 1 + 1, 0, none⟩ = some (.int .i64 0) ∧ u2.cell? ⟨w.heap.size + 1 + 1, 1, none⟩ = some (.int .i64 0)) ?_ ?_); ((refine ⟨?_, ?_⟩) <;> ((refine (hc2 _ _ ?_).trans ?_); (first | assumption | (simp; done) | (simp; omega)); (first | assumption | (simp [go_sem]; done)))); rintro ⟨hx2a0, hx2a1⟩)); (try ((refine useIt (P := u2.cell? ⟨u1.heap.size, 0, none⟩ = some (.int .i64 0) ∧ u2.cell? ⟨u1.heap.size, 1, none⟩ = some (.int .i64 0)) ?_ ?_); ((refine ⟨?_, ?_⟩) <;> ((refine (hc2 _ _ ?_).trans ?_); (first | assumption | (simp; done) | (simp; omega)); (first | assumption | (simp [go_sem]; done)))); rintro ⟨hx2b0, hx2b1⟩)))
        | (go_at_call 16; refine (specRed_any _ _ _ _ _ _).mono ?_; rintro e u3 ⟨he, hb3⟩; unfold redT at he; subst he; obtain ⟨hc3, hf3⟩ := bcell hb3; have M3 : Kt w.heap.size A B C u3 := (by repeat (first | assumption | with_reducible refine Kt.alloc ?_ _ | with_reducible refine Kt.drew ?_ | with_reducible refine Kt.call ?_ (by assumption))); have N3 : Kg (w.heap.size + 1) x y u3 := (by repeat (first | assumption | with_reducible refine Kg.alloc ?_ _ | with_reducible refine Kg.drew ?_ | with_reducible refine Kg.call ?_ (by assumption))); (try ((refine useIt (P := w.heap.size + 1 + 1 < u3.heap.size) ?_ ?_); (first | exact lt_alloc hb3 | (have := hb3.size; omega) | (have hthis := hb3.size; simp at hthis; first | done | omega)); intro hq3a)); (try ((refine useIt (P := u1.heap.size < u3.heap.size) ?_ ?_); (first | exact lt_alloc hb3 | (have := hb3.size; omega) | (have hthis := hb3.size; simp at hthis; first | done | omega)); intro hq3b)); (try ((refine useIt (P := u2.heap.size < u3.heap.size) ?_ ?_); (first | exact lt_alloc hb3 | (have := hb3.size; omega) | (have hthis := hb3.size; simp at hthis; first | done | omega)); intro hq3c)); (try ((refine useIt (P := u3.cell? ⟨w.heap.size + 1 + 1, 0, none⟩ = some (.int .i64 0) ∧ u3.cell? ⟨w.heap.size + 1 + 1, 1, none⟩ = some (.int .i64 0)) ?_ ?_); ((refine ⟨?_, ?_⟩) <;> ((refine (hc3 _ _ ?_).trans ?_); (first | assumption | (simp; done) | (simp; omega)); (first | assumption | (simp [go_sem]; done)))); rintro ⟨hx3a0, hx3a1⟩)); (try ((refine useIt (P := u3.cell? ⟨u1.heap.size, 0, none⟩ = some (.int .i64 0) ∧ u3.cell? ⟨u1.heap.size, 1, none⟩ = some (.int .i64 0)) ?_ ?_); ((refine ⟨?_, ?_⟩) <;> ((refine (hc3 _ _ ?_).trans ?_); (first | assumption | (simp; done) | (simp; omega)); (first | assumption | (simp [go_sem]; done)))); rintro ⟨hx3b0, hx3b1⟩)); (try ((refine useIt (P := u3.cell? ⟨u2.heap.size, 0, none⟩ = some (.int .i64 0) ∧ u3.cell? ⟨u2.heap.size, 1, none⟩ = some (.int .i64 0)) ?_ ?_); ((refine ⟨?_, ?_⟩) <;> ((refine (hc3 _ _ ?_).trans ?_); (first | assumption | (simp; done) | (simp; omega)); (first | assumption | (simp [go_sem]; done)))); rintro ⟨hx3c0, hx3c1⟩))))
    all_goals
      go_wp2_with fail
      go_meet
      have s1 := N1.1
      have s2 := N2.1
      have s3 := N3.1
      refine ⟨_, rfl, rfl, by omega, by simp [*], ⟨by simp [*, go_sem], by simp [*, go_sem]⟩, ?_, ?_, ?_⟩
      · repeat (first | assumption | with_reducible refine Kt.alloc ?_ _ | with_reducible refine Kt.drew ?_ | ((with_reducible refine Kt.put ?_ ?_); (first | exact M1.1 | exact Nat.lt_succ_of_lt M1.1 | exact M2.1 | exact Nat.lt_succ_of_lt M2.1 | exact M3.1 | exact Nat.lt_succ_of_lt M3.1 | exact M9.1 | exact Nat.lt_succ_of_lt M9.1 | exact Nat.lt_succ_self _ | omega | (dsimp only; omega))) | with_reducible refine Kt.call ?_ (by assumption))
      · repeat (first | assumption | with_reducible refine Kg.alloc ?_ _ | with_reducible refine Kg.drew ?_ | ((with_reducible refine Kg.put ?_ ?_); (first | exact N1.1 | exact Nat.lt_succ_of_lt N1.1 | exact N2.1 | exact Nat.lt_succ_of_lt N2.1 | exact N3.1 | exact Nat.lt_succ_of_lt N3.1 | exact N9.1 | exact Nat.lt_succ_of_lt N9.1 | exact Nat.lt_succ_self _ | omega | (dsimp only; omega))) | with_reducible refine Kg.call ?_ (by assumption))
      · repeat (first | exact Below.refl _ _ | refine Below.setCell ?_ (by first | omega | (simp <;> omega)) _ | refine Below.alloc ?_ (by first | omega | (simp <;> omega)) _ | refine bstep ?_ (by assumption) | refine Below.drew ?_)
  case rest =>
    obtain ⟨g, rfl, rfl, hg1, hg2, hg3, M9, N9, BM⟩ := hcut
    have G9 : Kg g (redR A B C x y).1 (redR A B C x y).2.1 wc := ⟨hg2, hg3⟩
    go_wp2_with fail
    go_upto_region 2 with fail
    go_cut [7, 8] (fun s7 s8 wx => NidwalkRed w g (redR A B C x y) s7 s8 wx)
    case first =>
      clear hg3
      go_region_held3 (fun W => (W.cell? ⟨w.heap.size, 0, none⟩ = some (.int .i64 A) ∧ W.cell? ⟨w.heap.size, 1, none⟩ = some (.int .i64 B) ∧ W.cell? ⟨w.heap.size, 2, none⟩ = some (.int .i64 C)) ∧ (W.cell? ⟨w.heap.size + 1, 0, none⟩ = some (.int .i64 x) ∧ W.cell? ⟨w.heap.size + 1, 1, none⟩ = some (.int .i64 y))) ((refine ⟨Kt.cells ?_, Kg.cells ?_⟩; (repeat (first | assumption | with_reducible refine Kt.alloc ?_ _ | with_reducible refine Kt.drew ?_ | ((with_reducible refine Kt.put ?_ ?_); (first | exact M0.1 | exact Nat.lt_succ_of_lt M0.1 | exact M1.1 | exact Nat.lt_succ_of_lt M1.1 | exact M2.1 | exact Nat.lt_succ_of_lt M2.1 | exact M3.1 | exact Nat.lt_succ_of_lt M3.1 | exact M9.1 | exact Nat.lt_succ_of_lt M9.1 | exact Nat.lt_succ_self _ | omega | (dsimp only; omega))) | with_reducible refine Kt.call ?_ (by assumption))); (repeat (first | assumption | with_reducible refine Kg.alloc ?_ _ | with_reducible refine Kg.drew ?_ | ((with_reducible refine Kg.put ?_ ?_); (first | exact N0.1 | exact Nat.lt_succ_of_lt N0.1 | exact N1.1 | exact Nat.lt_succ_of_lt N1.1 | exact N2.1 | exact Nat.lt_succ_of_lt N2.1 | exact N3.1 | exact Nat.lt_succ_of_lt N3.1 | exact N9.1 | exact Nat.lt_succ_of_lt N9.1 | exact Nat.lt_succ_self _ | omega | (dsimp only; omega))) | with_reducible refine Kg.call ?_ (by assumption)))))
        (first
        | (go_at_call_of 37 (Value.agg #[Value.int IntKind.i64 A, Value.int IntKind.i64 B, Value.int IntKind.i64 C]); refine (toLat_any _ _ _ _).mono ?_; rintro e u1 ⟨rfl, hb1⟩; obtain ⟨hc1, hf1⟩ := bcell hb1; have M1 : Kt w.heap.size A B C u1 := (by repeat (first | assumption | with_reducible refine Kt.alloc ?_ _ | with_reducible refine Kt.drew ?_ | with_reducible refine Kt.call ?_ (by assumption))); have N1 : Kg (w.heap.size + 1) x y u1 := (by repeat (first | assumption | with_reducible refine Kg.alloc ?_ _ | with_reducible refine Kg.drew ?_ | with_reducible refine Kg.call ?_ (by assumption))); (try ((refine useIt (P := wc.heap.size < u1.heap.size) ?_ ?_); (first | exact lt_alloc hb1 | (have := hb1.size; omega) | (have hthis := hb1.size; simp at hthis; first | done | omega)); intro hq1a)); (try ((refine useIt (P := g < u1.heap.size) ?_ ?_); (first | exact lt_alloc hb1 | (have := hb1.size; omega) | (have hthis := hb1.size; simp at hthis; first | done | omega)); intro hq1b)); (try ((refine useIt (P := u1.cell? ⟨wc.heap.size, 0, none⟩ = some (.int .i64 0) ∧ u1.cell? ⟨wc.heap.size, 1, none⟩ = some (.int .i64 0)) ?_ ?_); ((refine ⟨?_, ?_⟩) <;> ((refine (hc1 _ _ ?_).trans ?_); (first | assumption | (simp; done) | (simp; omega)); (first | assumption | (simp [go_sem]; done)))); rintro ⟨hx1a0, hx1a1⟩)); (try ((refine useIt (P := u1.cell? ⟨g, 0, none⟩ = some (.int .i64 0) ∧ u1.cell? ⟨g, 1, none⟩ = some (.int .i64 0)) ?_ ?_); ((refine ⟨?_, ?_⟩) <;> ((refine (hc1 _ _ ?_).trans ?_); (first | assumption | (simp; done) | (simp; omega)); (first | assumption | (simp [go_sem]; done)))); rintro ⟨hx1b0, hx1b1⟩)))
        | (go_at_call_of 38 (Value.agg #[Value.int IntKind.i64 x, Value.int IntKind.i64 y]); refine (toVec_any _ _ _).mono ?_; rintro e u2 ⟨rfl, hb2⟩; obtain ⟨hc2, hf2⟩ := bcell hb2; have M2 : Kt w.heap.size A B C u2 := (by repeat (first | assumption | with_reducible refine Kt.alloc ?_ _ | with_reducible refine Kt.drew ?_ | with_reducible refine Kt.call ?_ (by assumption))); have N2 : Kg (w.heap.size + 1) x y u2 := (by repeat (first | assumption | with_reducible refine Kg.alloc ?_ _ | with_reducible refine Kg.drew ?_ | with_reducible refine Kg.call ?_ (by assumption))); (try ((refine useIt (P := wc.heap.size < u2.heap.size) ?_ ?_); (first | exact lt_alloc hb2 | (have := hb2.size; omega) | (have hthis := hb2.size; simp at hthis; first | done | omega)); intro hq2a)); (try ((refine useIt (P := g < u2.heap.size) ?_ ?_); (first | exact lt_alloc hb2 | (have := hb2.size; omega) | (have hthis := hb2.size; simp at hthis; first | done | omega)); intro hq2b)); (try ((refine useIt (P := u1.heap.size < u2.heap.size) ?_ ?_); (first | exact lt_alloc hb2 | (have := hb2.size; omega) | (have hthis := hb2.size; simp at hthis; first | done | omega)); intro hq2c)); (try ((refine useIt (P := u2.cell? ⟨wc.heap.size, 0, none⟩ = some (.int .i64 0) ∧ u2.cell? ⟨wc.heap.size, 1, none⟩ = some (.int .i64 0)) ?_ ?_); ((refine ⟨?_, ?_⟩) <;> ((refine (hc2 _ _ ?_).trans ?_); (first | assumption | (simp; done) | (simp; omega)); (first | assumption | (simp [go_sem]; done)))); rintro ⟨hx2a0, hx2a1⟩)); (try ((refine useIt (P := u2.cell? ⟨g, 0, none⟩ = some (.int .i64 0) ∧ u2.cell? ⟨g, 1, none⟩ = some (.int .i64 0)) ?_ ?_); ((refine ⟨?_, ?_⟩) <;> ((refine (hc2 _ _ ?_).trans ?_); (first | assumption | (simp; done) | (simp; omega)); (first | assumption | (simp [go_sem]; done)))); rintro ⟨hx2b0, hx2b1⟩)); (try ((refine useIt (P := u2.cell? ⟨u1.heap.size, 0, none⟩ = some (.int .i64 0) ∧ u2.cell? ⟨u1.heap.size, 1, none⟩ = some (.int .i64 0)) ?_ ?_); ((refine ⟨?_, ?_⟩) <;> ((refine (hc2 _ _ ?_).trans ?_); (first | assumption | (simp; done) | (simp; omega)); (first | assumption | (simp [go_sem]; done)))); rintro ⟨hx2c0, hx2c1⟩)))
        | (go_at_call 15; refine (implRed_any _ _ _ _ _ _).mono ?_; rintro e u3 ⟨he, hb3⟩; unfold redT at he; subst he; obtain ⟨hc3, hf3⟩ := bcell hb3; have M3 : Kt w.heap.size A B C u3 := (by repeat (first | assumption | with_reducible refine Kt.alloc ?_ _ | with_reducible refine Kt.drew ?_ | with_reducible refine Kt.call ?_ (by assumption))); have N3 : Kg (w.heap.size + 1) x y u3 := (by repeat (first | assumption | with_reducible refine Kg.alloc ?_ _ | with_reducible refine Kg.drew ?_ | with_reducible refine Kg.call ?_ (by assumption))); (try ((refine useIt (P := wc.heap.size < u3.heap.size) ?_ ?_); (first | exact lt_alloc hb3 | (have := hb3.size; omega) | (have hthis := hb3.size; simp at hthis; first | done | omega)); intro hq3a)); (try ((refine useIt (P := g < u3.heap.size) ?_ ?_); (first | exact lt_alloc hb3 | (have := hb3.size; omega) | (have hthis := hb3.size; simp at hthis; first | done | omega)); intro hq3b)); (try ((refine useIt (P := u1.heap.size < u3.heap.size) ?_ ?_); (first | exact lt_alloc hb3 | (have := hb3.size; omega) | (have hthis := hb3.size; simp at hthis; first | done | omega)); intro hq3c)); (try ((refine useIt (P := u2.heap.size < u3.heap.size) ?_ ?_); (first | exact lt_alloc hb3 | (have := hb3.size; omega) | (have hthis := hb3.size; simp at hthis; first | done | omega)); intro hq3d)); (try ((refine useIt (P := u3.cell? ⟨wc.heap.size, 0, none⟩ = some (.int .i64 0) ∧ u3.cell? ⟨wc.heap.size, 1, none⟩ = some (.int .i64 0)) ?_ ?_); ((refine ⟨?_, ?_⟩) <;> ((refine (hc3 _ _ ?_).trans ?_); (first | assumption | (simp; done) | (simp; omega)); (first | assumption | (simp [go_sem]; done)))); rintro ⟨hx3a0, hx3a1⟩)); (try ((refine useIt (P := u3.cell? ⟨g, 0, none⟩ = some (.int .i64 0) ∧ u3.cell? ⟨g, 1, none⟩ = some (.int .i64 0)) ?_ ?_); ((refine ⟨?_, ?_⟩) <;> ((refine (hc3 _ _ ?_).trans ?_); (first | assumption | (simp; done) | (simp; omega)); (first | assumption | (simp [go_sem]; done)))); rintro ⟨hx3b0, hx3b1⟩)); (try ((refine useIt (P := u3.cell? ⟨u1.heap.size, 0, none⟩ = some (.int .i64 0) ∧ u3.cell? ⟨u1.heap.size, 1, none⟩ = some (.int .i64 0)) ?_ ?_); ((refine ⟨?_, ?_⟩) <;> ((refine (hc3 _ _ ?_).trans ?_); (first | assumption | (simp; done) | (simp; omega)); (first | assumption | (simp [go_sem]; done)))); rintro ⟨hx3c0, hx3c1⟩)); (try ((refine useIt (P := u3.cell? ⟨u2.heap.size, 0, none⟩ = some (.int .i64 0) ∧ u3.cell? ⟨u2.heap.size, 1, none⟩ = some (.int .i64 0)) ?_ ?_); ((refine ⟨?_, ?_⟩) <;> ((refine (hc3 _ _ ?_).trans ?_); (first | assumption | (simp; done) | (simp; omega)); (first | assumption | (simp [go_sem]; done)))); rintro ⟨hx3d0, hx3d1⟩))))
      all_goals
        go_wp2_with fail
        go_meet
        have s1 := N1.1
        have s2 := N2.1
        have s3 := N3.1
        have G1 : Kg g (redR A B C x y).1 (redR A B C x y).2.1 u1 := by repeat (first | assumption | with_reducible refine Kg.alloc ?_ _ | with_reducible refine Kg.drew ?_ | ((with_reducible refine Kg.put ?_ ?_); (first | exact G1.1 | exact Nat.lt_succ_of_lt G1.1 | exact G2.1 | exact Nat.lt_succ_of_lt G2.1 | exact G3.1 | exact Nat.lt_succ_of_lt G3.1 | exact G9.1 | exact Nat.lt_succ_of_lt G9.1 | exact Nat.lt_succ_self _ | omega | (dsimp only; omega))) | with_reducible refine Kg.call ?_ (by assumption))
        have G2 : Kg g (redR A B C x y).1 (redR A B C x y).2.1 u2 := by repeat (first | assumption | with_reducible refine Kg.alloc ?_ _ | with_reducible refine Kg.drew ?_ | ((with_reducible refine Kg.put ?_ ?_); (first | exact G1.1 | exact Nat.lt_succ_of_lt G1.1 | exact G2.1 | exact Nat.lt_succ_of_lt G2.1 | exact G3.1 | exact Nat.lt_succ_of_lt G3.1 | exact G9.1 | exact Nat.lt_succ_of_lt G9.1 | exact Nat.lt_succ_self _ | omega | (dsimp only; omega))) | with_reducible refine Kg.call ?_ (by assumption))
        have G3 : Kg g (redR A B C x y).1 (redR A B C x y).2.1 u3 := by repeat (first | assumption | with_reducible refine Kg.alloc ?_ _ | with_reducible refine Kg.drew ?_ | ((with_reducible refine Kg.put ?_ ?_); (first | exact G1.1 | exact Nat.lt_succ_of_lt G1.1 | exact G2.1 | exact Nat.lt_succ_of_lt G2.1 | exact G3.1 | exact Nat.lt_succ_of_lt G3.1 | exact G9.1 | exact Nat.lt_succ_of_lt G9.1 | exact Nat.lt_succ_self _ | omega | (dsimp only; omega))) | with_reducible refine Kg.call ?_ (by assumption))
        refine ⟨_, rfl, rfl, ⟨by simp [*, go_sem], by simp [*, go_sem]⟩, Kg.cells ?_, ?_⟩
        · repeat (first | assumption | with_reducible refine Kg.alloc ?_ _ | with_reducible refine Kg.drew ?_ | ((with_reducible refine Kg.put ?_ ?_); (first | exact G1.1 | exact Nat.lt_succ_of_lt G1.1 | exact G2.1 | exact Nat.lt_succ_of_lt G2.1 | exact G3.1 | exact Nat.lt_succ_of_lt G3.1 | exact G9.1 | exact Nat.lt_succ_of_lt G9.1 | exact Nat.lt_succ_self _ | omega | (dsimp only; omega))) | with_reducible refine Kg.call ?_ (by assumption))
        · repeat (first | exact BM | exact Below.refl _ _ | refine Below.setCell ?_ (by first | omega | (simp <;> omega)) _ | refine Below.alloc ?_ (by first | omega | (simp <;> omega)) _ | refine bstep ?_ (by assumption) | refine Below.drew ?_)
    case rest =>
      obtain ⟨g', rfl, rfl, hg5, hg6, BN⟩ := hcut
      obtain ⟨e0, e1⟩ := hg5
      obtain ⟨f0, f1⟩ := hg6
      go_wp2_with fail
      refine (eqVec_any _ _ _ _ _).mono ?_
      rintro e w5 ⟨rfl, hb5⟩
      obtain ⟨hc5, hf5⟩ := bcell hb5
      skip
      go_wp2
      go_ret
      refine ⟨rfl, ?_⟩
      exact bstep BN hb5

def MidwalkIn (w : World) (A B C x y : Int) (r : Bool × Int) (s5 s6 : Value) (wx : World) : Prop :=
  s5 = .bool r.1 ∧ s6 = .int .i64 r.2 ∧ Kt w.heap.size A B C wx ∧ Kg (w.heap.size + 1) x y wx ∧ Below w.heap.size w wx
def NidwalkIn (w : World) (r : Bool × Int) (s7 s8 : Value) (wx : World) : Prop :=
  s7 = .bool r.1 ∧ s8 = .int .i64 r.2 ∧ Below w.heap.size w wx

set_option maxHeartbeats 8000000 in
theorem walkIn (A B C x y : Int) (w : World) :
    Calls Try.prog 8 #[.agg #[.int .i64 A, .int .i64 B, .int .i64 C], .agg #[.int .i64 x, .int .i64 y]] w fun e w' => e = .returned (.bool true) ∧ Below w.heap.size w w' := by
  have M0 : Kt w.heap.size A B C ((w.alloc (.cells #[.int .i64 A, .int .i64 B, .int .i64 C] 51)).alloc (.cells #[.int .i64 x, .int .i64 y] 54)) := (Kt.at _ rfl).alloc _
  have N0 : Kg (w.heap.size + 1) x y ((w.alloc (.cells #[.int .i64 A, .int .i64 B, .int .i64 C] 51)).alloc (.cells #[.int .i64 x, .int .i64 y] 54)) := Kg.at3 _ (by simp)
  go_enter Try.func8, Try.ntmps8
  go_upto_region 1 with fail
  go_cut [5, 6] (fun s5 s6 wx => MidwalkIn w A B C x y (inR A B C x y) s5 s6 wx)
  case first =>
    go_region_held3 (fun W => (W.cell? ⟨w.heap.size, 0, none⟩ = some (.int .i64 A) ∧ W.cell? ⟨w.heap.size, 1, none⟩ = some (.int .i64 B) ∧ W.cell? ⟨w.heap.size, 2, none⟩ = some (.int .i64 C)) ∧ (W.cell? ⟨w.heap.size + 1, 0, none⟩ = some (.int .i64 x) ∧ W.cell? ⟨w.heap.size + 1, 1, none⟩ = some (.int .i64 y))) ((refine ⟨Kt.cells ?_, Kg.cells ?_⟩; (repeat (first | assumption | with_reducible refine Kt.alloc ?_ _ | with_reducible refine Kt.drew ?_ | ((with_reducible refine Kt.put ?_ ?_); (first | exact M0.1 | exact Nat.lt_succ_of_lt M0.1 | exact M1.1 | exact Nat.lt_succ_of_lt M1.1 | exact M2.1 | exact Nat.lt_succ_of_lt M2.1 | exact M3.1 | exact Nat.lt_succ_of_lt M3.1 | exact M9.1 | exact Nat.lt_succ_of_lt M9.1 | exact Nat.lt_succ_self _ | omega | (dsimp only; omega))) | with_reducible refine Kt.call ?_ (by assumption))); (repeat (first | assumption | with_reducible refine Kg.alloc ?_ _ | with_reducible refine Kg.drew ?_ | ((with_reducible refine Kg.put ?_ ?_); (first | exact N0.1 | exact Nat.lt_succ_of_lt N0.1 | exact N1.1 | exact Nat.lt_succ_of_lt N1.1 | exact N2.1 | exact Nat.lt_succ_of_lt N2.1 | exact N3.1 | exact Nat.lt_succ_of_lt N3.1 | exact N9.1 | exact Nat.lt_succ_of_lt N9.1 | exact Nat.lt_succ_self _ | omega | (dsimp only; omega))) | with_reducible refine Kg.call ?_ (by assumption)))))
      (first
        | (go_at_call_of 37 (Value.agg #[Value.int IntKind.i64 A, Value.int IntKind.i64 B, Value.int IntKind.i64 C]); refine (toLat_any _ _ _ _).mono ?_; rintro e u1 ⟨rfl, hb1⟩; obtain ⟨hc1, hf1⟩ := bcell hb1; have M1 : Kt w.heap.size A B C u1 := (by repeat (first | assumption | with_reducible refine Kt.alloc ?_ _ | with_reducible refine Kt.drew ?_ | with_reducible refine Kt.call ?_ (by assumption))); have N1 : Kg (w.heap.size + 1) x y u1 := (by repeat (first | assumption | with_reducible refine Kg.alloc ?_ _ | with_reducible refine Kg.drew ?_ | with_reducible refine Kg.call ?_ (by assumption))))
        | (go_at_call_of 38 (Value.agg #[Value.int IntKind.i64 x, Value.int IntKind.i64 y]); refine (toVec_any _ _ _).mono ?_; rintro e u2 ⟨rfl, hb2⟩; obtain ⟨hc2, hf2⟩ := bcell hb2; have M2 : Kt w.heap.size A B C u2 := (by repeat (first | assumption | with_reducible refine Kt.alloc ?_ _ | with_reducible refine Kt.drew ?_ | with_reducible refine Kt.call ?_ (by assumption))); have N2 : Kg (w.heap.size + 1) x y u2 := (by repeat (first | assumption | with_reducible refine Kg.alloc ?_ _ | with_reducible refine Kg.drew ?_ | with_reducible refine Kg.call ?_ (by assumption))))
        | (go_at_call 19; refine (specIn_any _ _ _ _ _ _).mono ?_; rintro e u3 ⟨he, hb3⟩; unfold inT at he; subst he; obtain ⟨hc3, hf3⟩ := bcell hb3; have M3 : Kt w.heap.size A B C u3 := (by repeat (first | assumption | with_reducible refine Kt.alloc ?_ _ | with_reducible refine Kt.drew ?_ | with_reducible refine Kt.call ?_ (by assumption))); have N3 : Kg (w.heap.size + 1) x y u3 := (by repeat (first | assumption | with_reducible refine Kg.alloc ?_ _ | with_reducible refine Kg.drew ?_ | with_reducible refine Kg.call ?_ (by assumption)))))
    all_goals
      go_wp2_with fail
      go_meet
      have s1 := N1.1
      have s2 := N2.1
      have s3 := N3.1
      refine ⟨rfl, rfl, ?_, ?_, ?_⟩
      · repeat (first | assumption | with_reducible refine Kt.alloc ?_ _ | with_reducible refine Kt.drew ?_ | ((with_reducible refine Kt.put ?_ ?_); (first | exact M1.1 | exact Nat.lt_succ_of_lt M1.1 | exact M2.1 | exact Nat.lt_succ_of_lt M2.1 | exact M3.1 | exact Nat.lt_succ_of_lt M3.1 | exact M9.1 | exact Nat.lt_succ_of_lt M9.1 | exact Nat.lt_succ_self _ | omega | (dsimp only; omega))) | with_reducible refine Kt.call ?_ (by assumption))
      · repeat (first | assumption | with_reducible refine Kg.alloc ?_ _ | with_reducible refine Kg.drew ?_ | ((with_reducible refine Kg.put ?_ ?_); (first | exact N1.1 | exact Nat.lt_succ_of_lt N1.1 | exact N2.1 | exact Nat.lt_succ_of_lt N2.1 | exact N3.1 | exact Nat.lt_succ_of_lt N3.1 | exact N9.1 | exact Nat.lt_succ_of_lt N9.1 | exact Nat.lt_succ_self _ | omega | (dsimp only; omega))) | with_reducible refine Kg.call ?_ (by assumption))
      · repeat (first | exact Below.refl _ _ | refine Below.setCell ?_ (by first | omega | (simp <;> omega)) _ | refine Below.alloc ?_ (by first | omega | (simp <;> omega)) _ | refine bstep ?_ (by assumption) | refine Below.drew ?_)
  case rest =>
    obtain ⟨rfl, rfl, M9, N9, BM⟩ := hcut
    go_wp2_with fail
    go_upto_region 2 with fail
    go_cut [7, 8] (fun s7 s8 wx => NidwalkIn w (inR A B C x y) s7 s8 wx)
    case first =>
      go_region_held3 (fun W => (W.cell? ⟨w.heap.size, 0, none⟩ = some (.int .i64 A) ∧ W.cell? ⟨w.heap.size, 1, none⟩ = some (.int .i64 B) ∧ W.cell? ⟨w.heap.size, 2, none⟩ = some (.int .i64 C)) ∧ (W.cell? ⟨w.heap.size + 1, 0, none⟩ = some (.int .i64 x) ∧ W.cell? ⟨w.heap.size + 1, 1, none⟩ = some (.int .i64 y))) ((refine ⟨Kt.cells ?_, Kg.cells ?_⟩; (repeat (first | assumption | with_reducible refine Kt.alloc ?_ _ | with_reducible refine Kt.drew ?_ | ((with_reducible refine Kt.put ?_ ?_); (first | exact M0.1 | exact Nat.lt_succ_of_lt M0.1 | exact M1.1 | exact Nat.lt_succ_of_lt M1.1 | exact M2.1 | exact Nat.lt_succ_of_lt M2.1 | exact M3.1 | exact Nat.lt_succ_of_lt M3.1 | exact M9.1 | exact Nat.lt_succ_of_lt M9.1 | exact Nat.lt_succ_self _ | omega | (dsimp only; omega))) | with_reducible refine Kt.call ?_ (by assumption))); (repeat (first | assumption | with_reducible refine Kg.alloc ?_ _ | with_reducible refine Kg.drew ?_ | ((with_reducible refine Kg.put ?_ ?_); (first | exact N0.1 | exact Nat.lt_succ_of_lt N0.1 | exact N1.1 | exact Nat.lt_succ_of_lt N1.1 | exact N2.1 | exact Nat.lt_succ_of_lt N2.1 | exact N3.1 | exact Nat.lt_succ_of_lt N3.1 | exact N9.1 | exact Nat.lt_succ_of_lt N9.1 | exact Nat.lt_succ_self _ | omega | (dsimp only; omega))) | with_reducible refine Kg.call ?_ (by assumption)))))
        (first
        | (go_at_call_of 37 (Value.agg #[Value.int IntKind.i64 A, Value.int IntKind.i64 B, Value.int IntKind.i64 C]); refine (toLat_any _ _ _ _).mono ?_; rintro e u1 ⟨rfl, hb1⟩; obtain ⟨hc1, hf1⟩ := bcell hb1; have M1 : Kt w.heap.size A B C u1 := (by repeat (first | assumption | with_reducible refine Kt.alloc ?_ _ | with_reducible refine Kt.drew ?_ | with_reducible refine Kt.call ?_ (by assumption))); have N1 : Kg (w.heap.size + 1) x y u1 := (by repeat (first | assumption | with_reducible refine Kg.alloc ?_ _ | with_reducible refine Kg.drew ?_ | with_reducible refine Kg.call ?_ (by assumption))))
        | (go_at_call_of 38 (Value.agg #[Value.int IntKind.i64 x, Value.int IntKind.i64 y]); refine (toVec_any _ _ _).mono ?_; rintro e u2 ⟨rfl, hb2⟩; obtain ⟨hc2, hf2⟩ := bcell hb2; have M2 : Kt w.heap.size A B C u2 := (by repeat (first | assumption | with_reducible refine Kt.alloc ?_ _ | with_reducible refine Kt.drew ?_ | with_reducible refine Kt.call ?_ (by assumption))); have N2 : Kg (w.heap.size + 1) x y u2 := (by repeat (first | assumption | with_reducible refine Kg.alloc ?_ _ | with_reducible refine Kg.drew ?_ | with_reducible refine Kg.call ?_ (by assumption))))
        | (go_at_call 18; refine (implIn_any _ _ _ _ _ _).mono ?_; rintro e u3 ⟨he, hb3⟩; unfold inT at he; subst he; obtain ⟨hc3, hf3⟩ := bcell hb3; have M3 : Kt w.heap.size A B C u3 := (by repeat (first | assumption | with_reducible refine Kt.alloc ?_ _ | with_reducible refine Kt.drew ?_ | with_reducible refine Kt.call ?_ (by assumption))); have N3 : Kg (w.heap.size + 1) x y u3 := (by repeat (first | assumption | with_reducible refine Kg.alloc ?_ _ | with_reducible refine Kg.drew ?_ | with_reducible refine Kg.call ?_ (by assumption)))))
      all_goals
        go_wp2_with fail
        go_meet
        have s1 := N1.1
        have s2 := N2.1
        have s3 := N3.1
        refine ⟨rfl, rfl, ?_⟩
        repeat (first | exact BM | exact Below.refl _ _ | refine Below.setCell ?_ (by first | omega | (simp <;> omega)) _ | refine Below.alloc ?_ (by first | omega | (simp <;> omega)) _ | refine bstep ?_ (by assumption) | refine Below.drew ?_)
    case rest =>
      obtain ⟨rfl, rfl, BN⟩ := hcut
      go_wp2
      all_goals
        first
        | (go_ret; exact ⟨rfl, BN⟩)
        | (exfalso; simp_all)

end Go.Proofs.Ytlalibefmnenjaa
