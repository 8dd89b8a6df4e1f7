/-
 Several of my texts in one: Mat2, Mat3, Mat4, Mat4b, Ord.
-/
import Derived.Test.YtdgophfembpniaaGreatDoorGc
import Derived.Deep.DeepCutAuto
import Derived.IntWalk
namespace Go.Proofs.YtdgophfembpniaaGreatDoor
section
open Go.RowKit
set_option linter.unusedSimpArgs false
set_option linter.unusedVariables false

/- between the two images and the product -/
def AftMid (w : World) (R : Nat) (x y x' y' : Int) (s5 s6 : Value) (wx : World) : Prop :=
 ∃ g g' : Nat, s5 = .pointer (some ⟨g, 0, none⟩) ∧ s6 = .pointer (some ⟨g', 0, none⟩) ∧ (wx.cell? ⟨g, 0, none⟩ = some (.int .i64 x) ∧ wx.cell? ⟨g, 1, none⟩ = some (.int .i64 y)) ∧ (wx.cell? ⟨g', 0, none⟩ = some (.int .i64 x') ∧ wx.cell? ⟨g', 1, none⟩ = some (.int .i64 y')) ∧ KR R 0 0 0 0 wx ∧ Below w.heap.size w wx

set_option maxHeartbeats 6000000 in
theorem after_any (a b c d a' b' c' d' : Int) (w : World) (h : limB a b c d = true) (h' : limB a' b' c' d' = true) :
  Calls Tryz.prog 170 #[.agg #[.int .i64 a, .int .i64 b, .int .i64 c, .int .i64 d], .agg #[.int .i64 a', .int .i64 b', .int .i64 c', .int .i64 d']] w fun e w' => e = .returned (.agg #[.int .i64 (a * a' + b * c'), .int .i64 (a * b' + b * d'), .int .i64 (c * a' + d * c'), .int .i64 (c * b' + d * d')]) ∧ Below w.heap.size w w' := by
 obtain ⟨v1, v2⟩ : vecB a' c' = true ∧ vecB b' d' = true := by
  obtain ⟨⟨ha, hb⟩, hc, hd⟩ := limB_bd h'
  simp [vecB]; omega
 have M0 : Kq w.heap.size a b c d (((w.alloc (.cells #[.int .i64 a, .int .i64 b, .int .i64 c, .int .i64 d] 134)).alloc (.cells #[.int .i64 a', .int .i64 b', .int .i64 c', .int .i64 d'] 134)).alloc (.cells #[.int .i64 0, .int .i64 0, .int .i64 0, .int .i64 0] 134)) := ((Kq.at _ rfl).alloc _).alloc _
 have N0 : Kq (w.heap.size + 1) a' b' c' d' (((w.alloc (.cells #[.int .i64 a, .int .i64 b, .int .i64 c, .int .i64 d] 134)).alloc (.cells #[.int .i64 a', .int .i64 b', .int .i64 c', .int .i64 d'] 134)).alloc (.cells #[.int .i64 0, .int .i64 0, .int .i64 0, .int .i64 0] 134)) := (Kq.at _ (by simp)).alloc _
 have R0 : KR (w.heap.size + 1 + 1) 0 0 0 0 (((w.alloc (.cells #[.int .i64 a, .int .i64 b, .int .i64 c, .int .i64 d] 134)).alloc (.cells #[.int .i64 a', .int .i64 b', .int .i64 c', .int .i64 d'] 134)).alloc (.cells #[.int .i64 0, .int .i64 0, .int .i64 0, .int .i64 0] 134)) := KR.at _ (by simp)
 go_enter Tryz.func170, Tryz.ntmps170
 go_upto_region 1 with fail
 go_cut [5, 6] (fun s5 s6 wx => AftMid w (w.heap.size + 1 + 1) (a * a' + b * c') (c * a' + d * c') (a * b' + b * d') (c * b' + d * d') s5 s6 wx)
 case first =>
  go_region_held3 (fun W => (W.cell? ⟨w.heap.size, 0, none⟩ = some (.int .i64 a) ∧ W.cell? ⟨w.heap.size, 1, none⟩ = some (.int .i64 b) ∧ W.cell? ⟨w.heap.size, 2, none⟩ = some (.int .i64 c) ∧ W.cell? ⟨w.heap.size, 3, none⟩ = some (.int .i64 d)) ∧ W.cell? ⟨w.heap.size + 1, 0, none⟩ = some (.int .i64 a') ∧ W.cell? ⟨w.heap.size + 1, 1, none⟩ = some (.int .i64 b') ∧ W.cell? ⟨w.heap.size + 1, 2, none⟩ = some (.int .i64 c') ∧ W.cell? ⟨w.heap.size + 1, 3, none⟩ = some (.int .i64 d')) ((refine Kq.two ?_ ?_ <;> repeat (first | assumption | with_reducible refine Kq.alloc ?_ _ | with_reducible refine Kq.drew ?_ | ((with_reducible refine Kq.put ?_ ?_); (first | exact M1.1 | exact Nat.lt_succ_of_lt M1.1 | exact M2.1 | exact Nat.lt_succ_of_lt M2.1 | exact N1.1 | exact Nat.lt_succ_of_lt N1.1 | exact N2.1 | exact Nat.lt_succ_of_lt N2.1 | exact M0.1 | exact Nat.lt_succ_of_lt M0.1 | exact N0.1 | exact Nat.lt_succ_of_lt N0.1 | exact Nat.lt_succ_self _ | omega | (dsimp only; omega))) | with_reducible refine Kq.call ?_ (by assumption))))
   (first
    | (go_at_call_of 156 (Value.agg #[Value.int IntKind.i64 a', Value.int IntKind.i64 c']); refine (apply_any _ _ _ _ _ _ _ h v1).mono ?_; rintro e u1 ⟨rfl, hb1⟩; obtain ⟨hc1, hf1⟩ := bcell hb1; have M1 : Kq (w.heap.size) a b c d u1 := (by repeat (first | assumption | with_reducible refine Kq.alloc ?_ _ | with_reducible refine Kq.drew ?_ | with_reducible refine Kq.call ?_ (by assumption))); have N1 : Kq (w.heap.size + 1) a' b' c' d' u1 := (by repeat (first | assumption | with_reducible refine Kq.alloc ?_ _ | with_reducible refine Kq.drew ?_ | with_reducible refine Kq.call ?_ (by assumption))); have R1 : KR (w.heap.size + 1 + 1) 0 0 0 0 u1 := (by repeat (first | assumption | with_reducible refine KR.alloc ?_ _ | with_reducible refine KR.drew ?_ | with_reducible refine KR.call ?_ (by assumption))); (try ((refine useIt (P := w.heap.size + 1 + 1 < u1.heap.size) ?_ ?_); (first | exact lt_alloc hb1 | (have := hb1.size; omega) | (have hthis := hb1.size; simp at hthis; first | done | omega)); intro hq1a)); (try ((refine useIt (P := w.heap.size + 1 + 1 + 1 < u1.heap.size) ?_ ?_); (first | exact lt_alloc hb1 | (have := hb1.size; omega) | (have hthis := hb1.size; simp at hthis; first | done | omega)); intro hq1b)); (try ((refine useIt (P := w.heap.size + 1 + 1 + 1 + 1 < u1.heap.size) ?_ ?_); (first | exact lt_alloc hb1 | (have := hb1.size; omega) | (have hthis := hb1.size; simp at hthis; first | done | omega)); intro hq1c)); (try ((refine useIt (P := u2.heap.size < u1.heap.size) ?_ ?_); (first | exact lt_alloc hb1 | (have := hb1.size; omega) | (have hthis := hb1.size; simp at hthis; first | done | omega)); intro hq1d)); (try ((refine useIt (P := u2.heap.size + 1 < u1.heap.size) ?_ ?_); (first | exact lt_alloc hb1 | (have := hb1.size; omega) | (have hthis := hb1.size; simp at hthis; first | done | omega)); intro hq1e)); (try ((refine useIt (P := u1.cell? ⟨w.heap.size + 1 + 1 + 1, 0, none⟩ = some (.int .i64 0) ∧ u1.cell? ⟨w.heap.size + 1 + 1 + 1, 1, none⟩ = some (.int .i64 0)) ?_ ?_); (constructor <;> ((refine (hc1 _ _ ?_).trans ?_); (first | assumption | (simp; done) | (simp; omega)); (first | assumption | (simp [go_sem]; done)))); rintro ⟨hx1a, hy1a⟩)); (try ((refine useIt (P := u1.cell? ⟨w.heap.size + 1 + 1 + 1 + 1, 0, none⟩ = some (.int .i64 0) ∧ u1.cell? ⟨w.heap.size + 1 + 1 + 1 + 1, 1, none⟩ = some (.int .i64 0)) ?_ ?_); (constructor <;> ((refine (hc1 _ _ ?_).trans ?_); (first | assumption | (simp; done) | (simp; omega)); (first | assumption | (simp [go_sem]; done)))); rintro ⟨hx1b, hy1b⟩)); (try ((refine useIt (P := u1.cell? ⟨u2.heap.size, 0, none⟩ = some (.int .i64 0) ∧ u1.cell? ⟨u2.heap.size, 1, none⟩ = some (.int .i64 0)) ?_ ?_); (constructor <;> ((refine (hc1 _ _ ?_).trans ?_); (first | assumption | (simp; done) | (simp; omega)); (first | assumption | (simp [go_sem]; done)))); rintro ⟨hx1c, hy1c⟩)); (try ((refine useIt (P := u1.cell? ⟨u2.heap.size + 1, 0, none⟩ = some (.int .i64 0) ∧ u1.cell? ⟨u2.heap.size + 1, 1, none⟩ = some (.int .i64 0)) ?_ ?_); (constructor <;> ((refine (hc1 _ _ ?_).trans ?_); (first | assumption | (simp; done) | (simp; omega)); (first | assumption | (simp [go_sem]; done)))); rintro ⟨hx1d, hy1d⟩)))
    | (go_at_call_of 156 (Value.agg #[Value.int IntKind.i64 b', Value.int IntKind.i64 d']); refine (apply_any _ _ _ _ _ _ _ h v2).mono ?_; rintro e u2 ⟨rfl, hb2⟩; obtain ⟨hc2, hf2⟩ := bcell hb2; have M2 : Kq (w.heap.size) a b c d u2 := (by repeat (first | assumption | with_reducible refine Kq.alloc ?_ _ | with_reducible refine Kq.drew ?_ | with_reducible refine Kq.call ?_ (by assumption))); have N2 : Kq (w.heap.size + 1) a' b' c' d' u2 := (by repeat (first | assumption | with_reducible refine Kq.alloc ?_ _ | with_reducible refine Kq.drew ?_ | with_reducible refine Kq.call ?_ (by assumption))); have R2 : KR (w.heap.size + 1 + 1) 0 0 0 0 u2 := (by repeat (first | assumption | with_reducible refine KR.alloc ?_ _ | with_reducible refine KR.drew ?_ | with_reducible refine KR.call ?_ (by assumption))); (try ((refine useIt (P := w.heap.size + 1 + 1 < u2.heap.size) ?_ ?_); (first | exact lt_alloc hb2 | (have := hb2.size; omega) | (have hthis := hb2.size; simp at hthis; first | done | omega)); intro hq2a)); (try ((refine useIt (P := w.heap.size + 1 + 1 + 1 < u2.heap.size) ?_ ?_); (first | exact lt_alloc hb2 | (have := hb2.size; omega) | (have hthis := hb2.size; simp at hthis; first | done | omega)); intro hq2b)); (try ((refine useIt (P := w.heap.size + 1 + 1 + 1 + 1 < u2.heap.size) ?_ ?_); (first | exact lt_alloc hb2 | (have := hb2.size; omega) | (have hthis := hb2.size; simp at hthis; first | done | omega)); intro hq2c)); (try ((refine useIt (P := u1.heap.size < u2.heap.size) ?_ ?_); (first | exact lt_alloc hb2 | (have := hb2.size; omega) | (have hthis := hb2.size; simp at hthis; first | done | omega)); intro hq2d)); (try ((refine useIt (P := u1.heap.size + 1 < u2.heap.size) ?_ ?_); (first | exact lt_alloc hb2 | (have := hb2.size; omega) | (have hthis := hb2.size; simp at hthis; first | done | omega)); intro hq2e)); (try ((refine useIt (P := u2.cell? ⟨w.heap.size + 1 + 1 + 1, 0, none⟩ = some (.int .i64 0) ∧ u2.cell? ⟨w.heap.size + 1 + 1 + 1, 1, none⟩ = some (.int .i64 0)) ?_ ?_); (constructor <;> ((refine (hc2 _ _ ?_).trans ?_); (first | assumption | (simp; done) | (simp; omega)); (first | assumption | (simp [go_sem]; done)))); rintro ⟨hx2a, hy2a⟩)); (try ((refine useIt (P := u2.cell? ⟨w.heap.size + 1 + 1 + 1 + 1, 0, none⟩ = some (.int .i64 0) ∧ u2.cell? ⟨w.heap.size + 1 + 1 + 1 + 1, 1, none⟩ = some (.int .i64 0)) ?_ ?_); (constructor <;> ((refine (hc2 _ _ ?_).trans ?_); (first | assumption | (simp; done) | (simp; omega)); (first | assumption | (simp [go_sem]; done)))); rintro ⟨hx2b, hy2b⟩)); (try ((refine useIt (P := u2.cell? ⟨u1.heap.size, 0, none⟩ = some (.int .i64 0) ∧ u2.cell? ⟨u1.heap.size, 1, none⟩ = some (.int .i64 0)) ?_ ?_); (constructor <;> ((refine (hc2 _ _ ?_).trans ?_); (first | assumption | (simp; done) | (simp; omega)); (first | assumption | (simp [go_sem]; done)))); rintro ⟨hx2c, hy2c⟩)); (try ((refine useIt (P := u2.cell? ⟨u1.heap.size + 1, 0, none⟩ = some (.int .i64 0) ∧ u2.cell? ⟨u1.heap.size + 1, 1, none⟩ = some (.int .i64 0)) ?_ ?_); (constructor <;> ((refine (hc2 _ _ ?_).trans ?_); (first | assumption | (simp; done) | (simp; omega)); (first | assumption | (simp [go_sem]; done)))); rintro ⟨hx2d, hy2d⟩))))
  all_goals
   go_wp2_with fail
   go_meet
   refine ⟨_, _, rfl, rfl, ⟨by simp [*, go_sem], by simp [*, go_sem]⟩, ⟨by simp [*, go_sem], by simp [*, go_sem]⟩, ?_, ?_⟩
   ·repeat (first | assumption | with_reducible refine KR.alloc ?_ _ | with_reducible refine KR.drew ?_ | ((with_reducible refine KR.put ?_ ?_); (first | exact R1.lt | exact Nat.lt_succ_of_lt R1.lt | exact R2.lt | exact Nat.lt_succ_of_lt R2.lt | exact R0.lt | exact Nat.lt_succ_of_lt R0.lt | exact Nat.lt_succ_self _ | omega | (dsimp only; omega))) | with_reducible refine KR.call ?_ (by assumption))
   ·have s1 := R1.lt
    have s2 := R2.lt
    repeat (first | exact Below.refl _ _ | refine Below.setCell ?_ (by first | omega | (simp <;> omega)) _ | refine Below.alloc ?_ (by first | omega | (simp <;> omega)) _ | refine bstep ?_ (by assumption) | refine Below.drew ?_)
 case rest =>
  obtain ⟨g, g', rfl, rfl, ⟨p0, p1⟩, ⟨q0, q1⟩, RM, BM⟩ := hcut
  obtain ⟨r0, r1, r2, r3, r4, r5, r6, r7, r8⟩ := RM
  go_wp2
  refine bodyPost_ret (v := .agg #[.int .i64 (a * a' + b * c'), .int .i64 (a * b' + b * d'), .int .i64 (c * a' + d * c'), .int .i64 (c * b' + d * d')]) (by simp [results, Tryz.results170, go_sem, *]) rfl ⟨rfl, ?_⟩
  repeat (first | assumption | refine Below.setCell ?_ (by first | omega | (simp <;> omega)) _ | refine Below.alloc ?_ (by first | omega | (simp <;> omega)) _ | refine bstep ?_ (by assumption) | refine Below.drew ?_)
end
end Go.Proofs.YtdgophfembpniaaGreatDoor

namespace Go.Proofs.YtdgophfembpniaaGreatDoor
section
open Go.RowKit
set_option linter.unusedSimpArgs false
set_option linter.unusedVariables false

end
end Go.Proofs.YtdgophfembpniaaGreatDoor

namespace Go.Proofs.YtdgophfembpniaaGreatDoor
section
open Go.RowKit
set_option linter.unusedSimpArgs false
set_option linter.unusedVariables false

theorem Kg.far {g : Nat} {a b : Int} {W : World} {p : Addr} {u : Value} (hp : p.block ≠ g) (h : Kg g a b W) : Kg g a b (W.setCell p u) := by
 obtain ⟨h0, h1, h2⟩ := h
 have e : (W.setCell p u).heap[g]? = W.heap[g]? := Below.heap_setCell _ _ _ _ (by omega)
 exact ⟨by simpa [World.setCell] using h0, by rw [World.cell?_of_block (w := W) e]; exact h1, by rw [World.cell?_of_block (w := W) e]; exact h2⟩
theorem Kq.far {g : Nat} {a b c d : Int} {W : World} {p : Addr} {u : Value} (hp : p.block ≠ g) (h : Kq g a b c d W) : Kq g a b c d (W.setCell p u) := by
 obtain ⟨h0, h1, h2, h3, h4⟩ := h
 have e : (W.setCell p u).heap[g]? = W.heap[g]? := Below.heap_setCell _ _ _ _ (by omega)
 exact ⟨by simpa [World.setCell] using h0, by rw [World.cell?_of_block (w := W) e]; exact h1, by rw [World.cell?_of_block (w := W) e]; exact h2, by rw [World.cell?_of_block (w := W) e]; exact h3, by rw [World.cell?_of_block (w := W) e]; exact h4⟩

theorem KR.store {R : Nat} {a b c d : Int} {W : World} (h : KR R a b c d W) (a' b' c' d' : Int) :
  KR R a' b' c' d' ((((W.setCell ⟨R, 0, none⟩ (.int .i64 a')).setCell ⟨R, 1, none⟩ (.int .i64 b')).setCell ⟨R, 2, none⟩ (.int .i64 c')).setCell ⟨R, 3, none⟩ (.int .i64 d')) := by
 obtain ⟨h0, h1, h2, h3, h4, h5, h6, h7, h8⟩ := h
 refine ⟨by simpa [World.setCell] using h0, ?_, ?_, ?_, ?_, ?_, ?_, ?_, ?_⟩ <;> simp [go_sem, *]

end
end Go.Proofs.YtdgophfembpniaaGreatDoor

namespace Go.Proofs.YtdgophfembpniaaGreatDoor
section
open Go.RowKit
set_option linter.unusedSimpArgs false
set_option linter.unusedVariables false
end
end Go.Proofs.YtdgophfembpniaaGreatDoor

namespace Go.Proofs.YtdgophfembpniaaGreatDoor
section
open Go.RowKit
set_option linter.unusedSimpArgs false
set_option linter.unusedVariables false

/- the program's variable unitMatrix holds the unit -/
def UnitOK (W : World) : Prop := Kq 0 1 0 0 1 W
theorem UnitOK.call {W w1 : World} (h : UnitOK W) (hb : Below W.heap.size W w1) : UnitOK w1 := Kq.call h hb
theorem UnitOK.alloc {W : World} (h : UnitOK W) (o : Obj) : UnitOK (W.alloc o) := Kq.alloc h o
theorem UnitOK.drew {W : World} (h : UnitOK W) : UnitOK W.drew := Kq.drew h

theorem eqArr (a b c d a' b' c' d' : Int) (w : World) : (Op.equalIn 10000 134 (.agg #[.int .i64 a, .int .i64 b, .int .i64 c, .int .i64 d]) (.agg #[.int .i64 a', .int .i64 b', .int .i64 c', .int .i64 d'])).run Tryz.prog w = .ok (eqM a b c d a' b' c' d') w := by
 have u3 := Tryz.underlying2
 have a3 := Tryz.isAgg2
 have z3 := Tryz.sizeOf2
 rw [show (10000 : Nat) = 9999 + 1 from rfl, Op.equalIn]
 simp only [Sem.run_bind, run_underlying Tryz.underlying134, Result.andThen_ok]
 simp only [Std.Legacy.Range.forIn_eq_forIn_range', Std.Legacy.Range.size, Nat.sub_zero, Nat.add_sub_cancel, Nat.div_one, List.range'_succ, List.range'_zero, List.forIn_cons, List.forIn_nil]
 go_simp
 unfold eqM
 by_cases h1 : a = a' <;> by_cases h2 : b = b' <;> by_cases h3 : c = c' <;> by_cases h4 : d = d' <;> simp [h1, h2, h3, h4]
attribute [local go_sem ↓] eqArr

end
end Go.Proofs.YtdgophfembpniaaGreatDoor

