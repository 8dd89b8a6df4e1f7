/-
  Several of my texts in one: Mat2, Mat3, Mat4, CmpQ, Mat5q, Ord.
-/
import Derived.Test.YtkfeajjpbmbmpaaGreatDoorGc
import Derived.Deep.DeepCutAuto
import Derived.IntWalk
import Derived.Test.YtkfeajjpbmbmpaaGreatDoorGa
import Derived.LoopTactic
import Derived.Deep.RegionHeld3
import Derived.RegionTactic
namespace Go.Proofs.YtkfeajjpbmbmpaaGreatDoor
section
open Go.RowKit
set_option linter.unusedSimpArgs false
set_option linter.unusedVariables false

/- between the two images and the product -/
def AftMid (w : World) (R : Nat) (x y x' y' : Int) (s5 s6 : Value) (wx : World) : Prop :=
  ∃ g g' : Nat, s5 = .pointer (some ⟨g, 0, none⟩) ∧ s6 = .pointer (some ⟨g', 0, none⟩) ∧ (wx.cell? ⟨g, 0, none⟩ = some (.int .i64 x) ∧ wx.cell? ⟨g, 1, none⟩ = some (.int .i64 y)) ∧ (wx.cell? ⟨g', 0, none⟩ = some (.int .i64 x') ∧ wx.cell? ⟨g', 1, none⟩ = some (.int .i64 y')) ∧ KR R 0 0 0 0 wx ∧ Below w.heap.size w wx

set_option maxHeartbeats 6000000 in
theorem after_any (a b c d a' b' c' d' : Int) (w : World) (h : limB a b c d = true) (h' : limB a' b' c' d' = true) :
    Calls Tryz.prog 264 #[.agg #[.int .i64 a, .int .i64 b, .int .i64 c, .int .i64 d], .agg #[.int .i64 a', .int .i64 b', .int .i64 c', .int .i64 d']] w fun e w' => e = .returned (.agg #[.int .i64 (a * a' + b * c'), .int .i64 (a * b' + b * d'), .int .i64 (c * a' + d * c'), .int .i64 (c * b' + d * d')]) ∧ Below w.heap.size w w' := by
  obtain ⟨v1, v2⟩ : vecB a' c' = true ∧ vecB b' d' = true := by
    obtain ⟨⟨ha, hb⟩, hc, hd⟩ := limB_bd h'
    simp [vecB]; omega
  have M0 : Kq w.heap.size a b c d (((w.alloc (.cells #[.int .i64 a, .int .i64 b, .int .i64 c, .int .i64 d] 111)).alloc (.cells #[.int .i64 a', .int .i64 b', .int .i64 c', .int .i64 d'] 111)).alloc (.cells #[.int .i64 0, .int .i64 0, .int .i64 0, .int .i64 0] 111)) := ((Kq.at _ rfl).alloc _).alloc _
  have N0 : Kq (w.heap.size + 1) a' b' c' d' (((w.alloc (.cells #[.int .i64 a, .int .i64 b, .int .i64 c, .int .i64 d] 111)).alloc (.cells #[.int .i64 a', .int .i64 b', .int .i64 c', .int .i64 d'] 111)).alloc (.cells #[.int .i64 0, .int .i64 0, .int .i64 0, .int .i64 0] 111)) := (Kq.at _ (by simp)).alloc _
  have R0 : KR (w.heap.size + 1 + 1) 0 0 0 0 (((w.alloc (.cells #[.int .i64 a, .int .i64 b, .int .i64 c, .int .i64 d] 111)).alloc (.cells #[.int .i64 a', .int .i64 b', .int .i64 c', .int .i64 d'] 111)).alloc (.cells #[.int .i64 0, .int .i64 0, .int .i64 0, .int .i64 0] 111)) := KR.at _ (by simp)
  go_enter Tryz.func264, Tryz.ntmps264
  go_upto_region 1 with fail
  go_cut [5, 6] (fun s5 s6 wx => AftMid w (w.heap.size + 1 + 1) (a * a' + b * c') (c * a' + d * c') (a * b' + b * d') (c * b' + d * d') s5 s6 wx)
  case first =>
    go_region_held3 (fun W => (W.cell? ⟨w.heap.size, 0, none⟩ = some (.int .i64 a) ∧ W.cell? ⟨w.heap.size, 1, none⟩ = some (.int .i64 b) ∧ W.cell? ⟨w.heap.size, 2, none⟩ = some (.int .i64 c) ∧ W.cell? ⟨w.heap.size, 3, none⟩ = some (.int .i64 d)) ∧ W.cell? ⟨w.heap.size + 1, 0, none⟩ = some (.int .i64 a') ∧ W.cell? ⟨w.heap.size + 1, 1, none⟩ = some (.int .i64 b') ∧ W.cell? ⟨w.heap.size + 1, 2, none⟩ = some (.int .i64 c') ∧ W.cell? ⟨w.heap.size + 1, 3, none⟩ = some (.int .i64 d')) ((refine Kq.two ?_ ?_ <;> repeat (first | assumption | with_reducible refine Kq.alloc ?_ _ | with_reducible refine Kq.drew ?_ | ((with_reducible refine Kq.put ?_ ?_); (first | exact M1.1 | exact Nat.lt_succ_of_lt M1.1 | exact M2.1 | exact Nat.lt_succ_of_lt M2.1 | exact N1.1 | exact Nat.lt_succ_of_lt N1.1 | exact N2.1 | exact Nat.lt_succ_of_lt N2.1 | exact M0.1 | exact Nat.lt_succ_of_lt M0.1 | exact N0.1 | exact Nat.lt_succ_of_lt N0.1 | exact Nat.lt_succ_self _ | omega | (dsimp only; omega))) | with_reducible refine Kq.call ?_ (by assumption))))
      (first
        | (go_at_call_of 118 (Value.agg #[Value.int IntKind.i64 a', Value.int IntKind.i64 c']); refine (apply_any _ _ _ _ _ _ _ h v1).mono ?_; rintro e u1 ⟨rfl, hb1⟩; obtain ⟨hc1, hf1⟩ := bcell hb1; have M1 : Kq (w.heap.size) a b c d u1 := (by repeat (first | assumption | with_reducible refine Kq.alloc ?_ _ | with_reducible refine Kq.drew ?_ | with_reducible refine Kq.call ?_ (by assumption))); have N1 : Kq (w.heap.size + 1) a' b' c' d' u1 := (by repeat (first | assumption | with_reducible refine Kq.alloc ?_ _ | with_reducible refine Kq.drew ?_ | with_reducible refine Kq.call ?_ (by assumption))); have R1 : KR (w.heap.size + 1 + 1) 0 0 0 0 u1 := (by repeat (first | assumption | with_reducible refine KR.alloc ?_ _ | with_reducible refine KR.drew ?_ | with_reducible refine KR.call ?_ (by assumption))); (try ((refine useIt (P := w.heap.size + 1 + 1 < u1.heap.size) ?_ ?_); (first | exact lt_alloc hb1 | (have := hb1.size; omega) | (have hthis := hb1.size; simp at hthis; first | done | omega)); intro hq1a)); (try ((refine useIt (P := w.heap.size + 1 + 1 + 1 < u1.heap.size) ?_ ?_); (first | exact lt_alloc hb1 | (have := hb1.size; omega) | (have hthis := hb1.size; simp at hthis; first | done | omega)); intro hq1b)); (try ((refine useIt (P := w.heap.size + 1 + 1 + 1 + 1 < u1.heap.size) ?_ ?_); (first | exact lt_alloc hb1 | (have := hb1.size; omega) | (have hthis := hb1.size; simp at hthis; first | done | omega)); intro hq1c)); (try ((refine useIt (P := u2.heap.size < u1.heap.size) ?_ ?_); (first | exact lt_alloc hb1 | (have := hb1.size; omega) | (have hthis := hb1.size; simp at hthis; first | done | omega)); intro hq1d)); (try ((refine useIt (P := u2.heap.size + 1 < u1.heap.size) ?_ ?_); (first | exact lt_alloc hb1 | (have := hb1.size; omega) | (have hthis := hb1.size; simp at hthis; first | done | omega)); intro hq1e)); (try ((refine useIt (P := u1.cell? ⟨w.heap.size + 1 + 1 + 1, 0, none⟩ = some (.int .i64 0) ∧ u1.cell? ⟨w.heap.size + 1 + 1 + 1, 1, none⟩ = some (.int .i64 0)) ?_ ?_); (constructor <;> ((refine (hc1 _ _ ?_).trans ?_); (first | assumption | (simp; done) | (simp; omega)); (first | assumption | (simp [go_sem]; done)))); rintro ⟨hx1a, hy1a⟩)); (try ((refine useIt (P := u1.cell? ⟨w.heap.size + 1 + 1 + 1 + 1, 0, none⟩ = some (.int .i64 0) ∧ u1.cell? ⟨w.heap.size + 1 + 1 + 1 + 1, 1, none⟩ = some (.int .i64 0)) ?_ ?_); (constructor <;> ((refine (hc1 _ _ ?_).trans ?_); (first | assumption | (simp; done) | (simp; omega)); (first | assumption | (simp [go_sem]; done)))); rintro ⟨hx1b, hy1b⟩)); (try ((refine useIt (P := u1.cell? ⟨u2.heap.size, 0, none⟩ = some (.int .i64 0) ∧ u1.cell? ⟨u2.heap.size, 1, none⟩ = some (.int .i64 0)) ?_ ?_); (constructor <;> ((refine (hc1 _ _ ?_).trans ?_); (first | assumption | (simp; done) | (simp; omega)); (first | assumption | (simp [go_sem]; done)))); rintro ⟨hx1c, hy1c⟩)); (try ((refine useIt (P := u1.cell? ⟨u2.heap.size + 1, 0, none⟩ = some (.int .i64 0) ∧ u1.cell? ⟨u2.heap.size + 1, 1, none⟩ = some (.int .i64 0)) ?_ ?_); (constructor <;> ((refine (hc1 _ _ ?_).trans ?_); (first | assumption | (simp; done) | (simp; omega)); (first | assumption | (simp [go_sem]; done)))); rintro ⟨hx1d, hy1d⟩)))
        | (go_at_call_of 118 (Value.agg #[Value.int IntKind.i64 b', Value.int IntKind.i64 d']); refine (apply_any _ _ _ _ _ _ _ h v2).mono ?_; rintro e u2 ⟨rfl, hb2⟩; obtain ⟨hc2, hf2⟩ := bcell hb2; have M2 : Kq (w.heap.size) a b c d u2 := (by repeat (first | assumption | with_reducible refine Kq.alloc ?_ _ | with_reducible refine Kq.drew ?_ | with_reducible refine Kq.call ?_ (by assumption))); have N2 : Kq (w.heap.size + 1) a' b' c' d' u2 := (by repeat (first | assumption | with_reducible refine Kq.alloc ?_ _ | with_reducible refine Kq.drew ?_ | with_reducible refine Kq.call ?_ (by assumption))); have R2 : KR (w.heap.size + 1 + 1) 0 0 0 0 u2 := (by repeat (first | assumption | with_reducible refine KR.alloc ?_ _ | with_reducible refine KR.drew ?_ | with_reducible refine KR.call ?_ (by assumption))); (try ((refine useIt (P := w.heap.size + 1 + 1 < u2.heap.size) ?_ ?_); (first | exact lt_alloc hb2 | (have := hb2.size; omega) | (have hthis := hb2.size; simp at hthis; first | done | omega)); intro hq2a)); (try ((refine useIt (P := w.heap.size + 1 + 1 + 1 < u2.heap.size) ?_ ?_); (first | exact lt_alloc hb2 | (have := hb2.size; omega) | (have hthis := hb2.size; simp at hthis; first | done | omega)); intro hq2b)); (try ((refine useIt (P := w.heap.size + 1 + 1 + 1 + 1 < u2.heap.size) ?_ ?_); (first | exact lt_alloc hb2 | (have := hb2.size; omega) | (have hthis := hb2.size; simp at hthis; first | done | omega)); intro hq2c)); (try ((refine useIt (P := u1.heap.size < u2.heap.size) ?_ ?_); (first | exact lt_alloc hb2 | (have := hb2.size; omega) | (have hthis := hb2.size; simp at hthis; first | done | omega)); intro hq2d)); (try ((refine useIt (P := u1.heap.size + 1 < u2.heap.size) ?_ ?_); (first | exact lt_alloc hb2 | (have := hb2.size; omega) | (have hthis := hb2.size; simp at hthis; first | done | omega)); intro hq2e)); (try ((refine useIt (P := u2.cell? ⟨w.heap.size + 1 + 1 + 1, 0, none⟩ = some (.int .i64 0) ∧ u2.cell? ⟨w.heap.size + 1 + 1 + 1, 1, none⟩ = some (.int .i64 0)) ?_ ?_); (constructor <;> ((refine (hc2 _ _ ?_).trans ?_); (first | assumption | (simp; done) | (simp; omega)); (first | assumption | (simp [go_sem]; done)))); rintro ⟨hx2a, hy2a⟩)); (try ((refine useIt (P := u2.cell? ⟨w.heap.size + 1 + 1 + 1 + 1, 0, none⟩ = some (.int .i64 0) ∧ u2.cell? ⟨w.heap.size + 1 + 1 + 1 + 1, 1, none⟩ = some (.int .i64 0)) ?_ ?_); (constructor <;> ((refine (hc2 _ _ ?_).trans ?_); (first | assumption | (simp; done) | (simp; omega)); (first | assumption | (simp [go_sem]; done)))); rintro ⟨hx2b, hy2b⟩)); (try ((refine useIt (P := u2.cell? ⟨u1.heap.size, 0, none⟩ = some (.int .i64 0) ∧ u2.cell? ⟨u1.heap.size, 1, none⟩ = some (.int .i64 0)) ?_ ?_); (constructor <;> ((refine (hc2 _ _ ?_).trans ?_); (first | assumption | (simp; done) | (simp; omega)); (first | assumption | (simp [go_sem]; done)))); rintro ⟨hx2c, hy2c⟩)); (try ((refine useIt (P := u2.cell? ⟨u1.heap.size + 1, 0, none⟩ = some (.int .i64 0) ∧ u2.cell? ⟨u1.heap.size + 1, 1, none⟩ = some (.int .i64 0)) ?_ ?_); (constructor <;> ((refine (hc2 _ _ ?_).trans ?_); (first | assumption | (simp; done) | (simp; omega)); (first | assumption | (simp [go_sem]; done)))); rintro ⟨hx2d, hy2d⟩))))
    all_goals
      go_wp2_with fail
      go_meet
      refine ⟨_, _, rfl, rfl, ⟨by simp [*, go_sem], by simp [*, go_sem]⟩, ⟨by simp [*, go_sem], by simp [*, go_sem]⟩, ?_, ?_⟩
      · repeat (first | assumption | with_reducible refine KR.alloc ?_ _ | with_reducible refine KR.drew ?_ | ((with_reducible refine KR.put ?_ ?_); (first | exact R1.lt | exact Nat.lt_succ_of_lt R1.lt | exact R2.lt | exact Nat.lt_succ_of_lt R2.lt | exact R0.lt | exact Nat.lt_succ_of_lt R0.lt | exact Nat.lt_succ_self _ | omega | (dsimp only; omega))) | with_reducible refine KR.call ?_ (by assumption))
      · have s1 := R1.lt
        have s2 := R2.lt
        repeat (first | exact Below.refl _ _ | refine Below.setCell ?_ (by first | omega | (simp <;> omega)) _ | refine Below.alloc ?_ (by first | omega | (simp <;> omega)) _ | refine bstep ?_ (by assumption) | refine Below.drew ?_)
  case rest =>
    obtain ⟨g, g', rfl, rfl, ⟨p0, p1⟩, ⟨q0, q1⟩, RM, BM⟩ := hcut
    obtain ⟨r0, r1, r2, r3, r4, r5, r6, r7, r8⟩ := RM
    go_wp2
    refine bodyPost_ret (v := .agg #[.int .i64 (a * a' + b * c'), .int .i64 (a * b' + b * d'), .int .i64 (c * a' + d * c'), .int .i64 (c * b' + d * d')]) (by simp [results, Tryz.results264, go_sem, *]) rfl ⟨rfl, ?_⟩
    repeat (first | assumption | refine Below.setCell ?_ (by first | omega | (simp <;> omega)) _ | refine Below.alloc ?_ (by first | omega | (simp <;> omega)) _ | refine bstep ?_ (by assumption) | refine Below.drew ?_)
end
end Go.Proofs.YtkfeajjpbmbmpaaGreatDoor

namespace Go.Proofs.YtkfeajjpbmbmpaaGreatDoor
section
open Go.RowKit
set_option linter.unusedSimpArgs false
set_option linter.unusedVariables false

end
end Go.Proofs.YtkfeajjpbmbmpaaGreatDoor

namespace Go.Proofs.YtkfeajjpbmbmpaaGreatDoor
section
open Go.RowKit
set_option linter.unusedSimpArgs false
set_option linter.unusedVariables false

theorem Kg.far {g : Nat} {a b : Int} {W : World} {p : Addr} {u : Value} (hp : p.block ≠ g) (h : Kg g a b W) : Kg g a b (W.setCell p u) := by
  obtain ⟨h0, h1, h2⟩ := h
  have e : (W.setCell p u).heap[g]? = W.heap[g]? := Below.heap_setCell _ _ _ _ (by omega)
  exact ⟨by simpa [World.setCell] using h0, by rw [World.cell?_of_block (w := W) e]; exact h1, by rw [World.cell?_of_block (w := W) e]; exact h2⟩
theorem Kq.far {g : Nat} {a b c d : Int} {W : World} {p : Addr} {u : Value} (hp : p.block ≠ g) (h : Kq g a b c d W) : Kq g a b c d (W.setCell p u) := by
  obtain ⟨h0, h1, h2, h3, h4⟩ := h
  have e : (W.setCell p u).heap[g]? = W.heap[g]? := Below.heap_setCell _ _ _ _ (by omega)
  exact ⟨by simpa [World.setCell] using h0, by rw [World.cell?_of_block (w := W) e]; exact h1, by rw [World.cell?_of_block (w := W) e]; exact h2, by rw [World.cell?_of_block (w := W) e]; exact h3, by rw [World.cell?_of_block (w := W) e]; exact h4⟩

theorem KR.store {R : Nat} {a b c d : Int} {W : World} (h : KR R a b c d W) (a' b' c' d' : Int) :
    KR R a' b' c' d' ((((W.setCell ⟨R, 0, none⟩ (.int .i64 a')).setCell ⟨R, 1, none⟩ (.int .i64 b')).setCell ⟨R, 2, none⟩ (.int .i64 c')).setCell ⟨R, 3, none⟩ (.int .i64 d')) := by
  obtain ⟨h0, h1, h2, h3, h4, h5, h6, h7, h8⟩ := h
  refine ⟨by simpa [World.setCell] using h0, ?_, ?_, ?_, ?_, ?_, ?_, ?_, ?_⟩ <;> simp [go_sem, *]

def OrdRel (w : World) (g : Nat) (a b c d : Int) (i : Value) (W : World) : Prop :=
  ∃ (k : Nat) (p q r s : Int), i = .int .i64 ((k : Int) + 1) ∧ k ≤ 6 ∧ Kq w.heap.size a b c d W ∧ KR g p q r s W ∧ limB p q r s = true ∧ pw a b c d k = (p, q, r, s) ∧ ordI a b c d = ordGo a b c d (k + 1) (6 - k) ∧ Below w.heap.size w W

set_option maxHeartbeats 4000000 in
theorem l02Order_any (a b c d : Int) (w : World) (h : limB a b c d = true) :
    Calls Tryz.prog 134 #[.agg #[.int .i64 a, .int .i64 b, .int .i64 c, .int .i64 d]] w fun e w' => e = .returned (.int .i64 (ordI a b c d)) ∧ Below w.heap.size w w' := by
  go_enter Tryz.func134, Tryz.ntmps134
  go_wp2_with fail
  refine (l02Unit_any _).mono ?_
  rintro e w1 ⟨rfl, hb1⟩
  have M1 : Kq w.heap.size a b c d w1 := Kq.call (Kq.at _ rfl) hb1
  have B1 : Below w.heap.size w w1 := bstep (Below.alloc (Below.refl _ _) (Nat.le_refl _) _) hb1
  clear hb1
  go_wp2_with fail
  go_loopw [4] (fun i W => OrdRel w w1.heap.size a b c d i W) (fun i _ => (7 - intOf i).toNat)
  case atStart =>
    exact ⟨0, 1, 0, 0, 1, rfl, by omega, M1.alloc _, KR.at _ rfl, by decide, rfl, rfl, B1.alloc B1.size _⟩
  case round =>
    have hg : w.heap.size < w1.heap.size := M1.1
    clear M1 B1
    obtain ⟨k, p, q, r, s, rfl, hk, M, R, hp, hpw, hord, hB⟩ := hrel
    have HPW := Lib.hid hpw
    have HO := Lib.hid hord
    clear hpw hord
    by_cases hk6 : k = 6
    · subst hk6
      have ea : ordI a b c d = 0 := by rw [HO.out]; rfl
      have EA := Lib.hid ea
      clear ea
      go_wp2
      go_ret
      exact ⟨ret_int EA.out.symm, hB⟩
    · have hk7 : (k : Int) + 1 ≤ 6 := by omega
      obtain ⟨m0, m1, m2, m3⟩ := M.cells
      obtain ⟨r0, r1, r2, r3, r4, r5, r6, r7, r8⟩ := id R
      go_wp2_with fail
      refine (l02Multiply_any _ _ _ _ _ _ _ _ _ h hp).mono ?_
      rintro e w2 ⟨rfl, hb2⟩
      have HN := Lib.hid (show pw a b c d (k + 1) = (a * p + b * r, a * q + b * s, c * p + d * r, c * q + d * s) by show mulP a b c d (pw a b c d k) = _; rw [HPW.out]; rfl)
      clear HPW m0 m1 m2 m3 r0 r1 r2 r3 r4 r5 r6 r7 r8
      generalize a * p + b * r = p' at *
      generalize a * q + b * s = q' at *
      generalize c * p + d * r = r' at *
      generalize c * q + d * s = s' at *
      have M2 := M.call hb2
      have R2 := R.call hb2
      have B2 := bstep hB hb2
      clear M R hb2 hB
      obtain ⟨r0, r1, r2, r3, r4, r5, r6, r7, r8⟩ := id R2
      have hstep : ordGo a b c d (k + 1) (6 - k) = bif limB p' q' r' s' then (bif unitB p' q' r' s' then ((k + 1 : Nat) : Int) else ordGo a b c d (k + 1 + 1) (6 - (k + 1))) else 0 := by
        rw [show 6 - k = (6 - (k + 1)) + 1 by omega]
        show (bif limP (pw a b c d (k + 1)) then (bif unitP (pw a b c d (k + 1)) then _ else _) else _) = _
        rw [HN.out]
        rfl
      have HS := Lib.hid (HO.out.trans hstep)
      clear hstep HO
      go_wp2_with fail
      refine (l02Small_any _ _ _ _ _).mono ?_
      rintro e w3 ⟨rfl, hb3⟩
      have M3 : Kq w.heap.size a b c d w3 := Kq.call (Kq.put hg (Kq.put hg (Kq.put hg (Kq.put hg M2)))) hb3
      have R3 : KR w1.heap.size p' q' r' s' w3 := KR.call (KR.store R2 p' q' r' s') hb3
      have hs1 : w.heap.size ≤ w1.heap.size := Nat.le_of_lt hg
      have B3 : Below w.heap.size w w3 := bstep (Below.setCell (Below.setCell (Below.setCell (Below.setCell B2 hs1 _) hs1 _) hs1 _) hs1 _) hb3
      clear M2 R2 B2 hb3 r0 r1 r2 r3 r4 r5 r6 r7 r8
      rcases hl : limB p' q' r' s' with _ | _
      · have ea : ordI a b c d = 0 := by rw [HS.out, hl]; rfl
        have EA := Lib.hid ea
        clear ea HS
        go_wp2
        go_ret
        exact ⟨ret_int EA.out.symm, B3⟩
      · by_cases ne : p' = 1
        · subst ne
          by_cases ne : q' = 0
          · subst ne
            by_cases ne : r' = 0
            · subst ne
              by_cases ne : s' = 1
              · subst ne
                have hu : unitB 1 0 0 1 = true := by simp [unitB]
                have ea : ordI a b c d = ((k + 1 : Nat) : Int) := by rw [HS.out, hl, hu]; rfl
                have EA := Lib.hid ea
                clear ea HS hu
                have hQ := R3.kq
                go_wp2_with fail
                go_region_held3 (fun W => W.cell? ⟨w1.heap.size, 0, none⟩ = some (.int .i64 1) ∧ W.cell? ⟨w1.heap.size, 1, none⟩ = some (.int .i64 0) ∧ W.cell? ⟨w1.heap.size, 2, none⟩ = some (.int .i64 0) ∧ W.cell? ⟨w1.heap.size, 3, none⟩ = some (.int .i64 1)) ((refine Kq.cells ?_; repeat (first | assumption | with_reducible refine Kq.drew ?_ | with_reducible refine Kq.call ?_ (by assumption))))
                  (first | (go_at_call 225; refine (l02Unit_any _).mono ?_; rintro e u4 ⟨rfl, hb4⟩; have hQ4 : Kq w1.heap.size 1 0 0 1 u4 := (by repeat (first | assumption | with_reducible refine Kq.drew ?_ | with_reducible refine Kq.call ?_ (by assumption))); have M4 : Kq w.heap.size a b c d u4 := (by repeat (first | assumption | with_reducible refine Kq.drew ?_ | with_reducible refine Kq.call ?_ (by assumption))); have R4 : KR w1.heap.size 1 0 0 1 u4 := (R3.drew.call hb4); have B4 : Below w.heap.size w u4 := bstep B3.drew hb4))
                go_wp2
                go_ret
                exact ⟨ret_int (by rw [EA.out]; omega), B4⟩
              · have nb : (s' == 1) = false := by simpa using ne
                have hu : unitB 1 0 0 s' = false := by simp [unitB, nb]
                have HN2 := Lib.hid (show ordI a b c d = ordGo a b c d (k + 1 + 1) (6 - (k + 1)) by rw [HS.out, hl, hu]; rfl)
                clear HS hu
                have hQ := R3.kq
                go_wp2_with fail
                go_region_held3 (fun W => W.cell? ⟨w1.heap.size, 0, none⟩ = some (.int .i64 1) ∧ W.cell? ⟨w1.heap.size, 1, none⟩ = some (.int .i64 0) ∧ W.cell? ⟨w1.heap.size, 2, none⟩ = some (.int .i64 0) ∧ W.cell? ⟨w1.heap.size, 3, none⟩ = some (.int .i64 s')) ((refine Kq.cells ?_; repeat (first | assumption | with_reducible refine Kq.drew ?_ | with_reducible refine Kq.call ?_ (by assumption))))
                  (first | (go_at_call 225; refine (l02Unit_any _).mono ?_; rintro e u4 ⟨rfl, hb4⟩; have hQ4 : Kq w1.heap.size 1 0 0 s' u4 := (by repeat (first | assumption | with_reducible refine Kq.drew ?_ | with_reducible refine Kq.call ?_ (by assumption))); have M4 : Kq w.heap.size a b c d u4 := (by repeat (first | assumption | with_reducible refine Kq.drew ?_ | with_reducible refine Kq.call ?_ (by assumption))); have R4 : KR w1.heap.size 1 0 0 s' u4 := (R3.drew.call hb4); have B4 : Below w.heap.size w u4 := bstep B3.drew hb4))
                go_wp2
                go_roundw
                case rel => exact ⟨k + 1, 1, 0, 0, s', by go_num, by omega, M4, R4, hl, HN.out, HN2.out, B4⟩
                case measure => simp [intOf]; omega
            · have nb : (r' == 0) = false := by simpa using ne
              have hu : unitB 1 0 r' s' = false := by simp [unitB, nb]
              have HN2 := Lib.hid (show ordI a b c d = ordGo a b c d (k + 1 + 1) (6 - (k + 1)) by rw [HS.out, hl, hu]; rfl)
              clear HS hu
              have hQ := R3.kq
              go_wp2_with fail
              go_region_held3 (fun W => W.cell? ⟨w1.heap.size, 0, none⟩ = some (.int .i64 1) ∧ W.cell? ⟨w1.heap.size, 1, none⟩ = some (.int .i64 0) ∧ W.cell? ⟨w1.heap.size, 2, none⟩ = some (.int .i64 r') ∧ W.cell? ⟨w1.heap.size, 3, none⟩ = some (.int .i64 s')) ((refine Kq.cells ?_; repeat (first | assumption | with_reducible refine Kq.drew ?_ | with_reducible refine Kq.call ?_ (by assumption))))
                (first | (go_at_call 225; refine (l02Unit_any _).mono ?_; rintro e u4 ⟨rfl, hb4⟩; have hQ4 : Kq w1.heap.size 1 0 r' s' u4 := (by repeat (first | assumption | with_reducible refine Kq.drew ?_ | with_reducible refine Kq.call ?_ (by assumption))); have M4 : Kq w.heap.size a b c d u4 := (by repeat (first | assumption | with_reducible refine Kq.drew ?_ | with_reducible refine Kq.call ?_ (by assumption))); have R4 : KR w1.heap.size 1 0 r' s' u4 := (R3.drew.call hb4); have B4 : Below w.heap.size w u4 := bstep B3.drew hb4))
              go_wp2
              go_roundw
              case rel => exact ⟨k + 1, 1, 0, r', s', by go_num, by omega, M4, R4, hl, HN.out, HN2.out, B4⟩
              case measure => simp [intOf]; omega
          · have nb : (q' == 0) = false := by simpa using ne
            have hu : unitB 1 q' r' s' = false := by simp [unitB, nb]
            have HN2 := Lib.hid (show ordI a b c d = ordGo a b c d (k + 1 + 1) (6 - (k + 1)) by rw [HS.out, hl, hu]; rfl)
            clear HS hu
            have hQ := R3.kq
            go_wp2_with fail
            go_region_held3 (fun W => W.cell? ⟨w1.heap.size, 0, none⟩ = some (.int .i64 1) ∧ W.cell? ⟨w1.heap.size, 1, none⟩ = some (.int .i64 q') ∧ W.cell? ⟨w1.heap.size, 2, none⟩ = some (.int .i64 r') ∧ W.cell? ⟨w1.heap.size, 3, none⟩ = some (.int .i64 s')) ((refine Kq.cells ?_; repeat (first | assumption | with_reducible refine Kq.drew ?_ | with_reducible refine Kq.call ?_ (by assumption))))
              (first | (go_at_call 225; refine (l02Unit_any _).mono ?_; rintro e u4 ⟨rfl, hb4⟩; have hQ4 : Kq w1.heap.size 1 q' r' s' u4 := (by repeat (first | assumption | with_reducible refine Kq.drew ?_ | with_reducible refine Kq.call ?_ (by assumption))); have M4 : Kq w.heap.size a b c d u4 := (by repeat (first | assumption | with_reducible refine Kq.drew ?_ | with_reducible refine Kq.call ?_ (by assumption))); have R4 : KR w1.heap.size 1 q' r' s' u4 := (R3.drew.call hb4); have B4 : Below w.heap.size w u4 := bstep B3.drew hb4))
            go_wp2
            go_roundw
            case rel => exact ⟨k + 1, 1, q', r', s', by go_num, by omega, M4, R4, hl, HN.out, HN2.out, B4⟩
            case measure => simp [intOf]; omega
        · have nb : (p' == 1) = false := by simpa using ne
          have hu : unitB p' q' r' s' = false := by simp [unitB, nb]
          have HN2 := Lib.hid (show ordI a b c d = ordGo a b c d (k + 1 + 1) (6 - (k + 1)) by rw [HS.out, hl, hu]; rfl)
          clear HS hu
          have hQ := R3.kq
          go_wp2_with fail
          go_region_held3 (fun W => W.cell? ⟨w1.heap.size, 0, none⟩ = some (.int .i64 p') ∧ W.cell? ⟨w1.heap.size, 1, none⟩ = some (.int .i64 q') ∧ W.cell? ⟨w1.heap.size, 2, none⟩ = some (.int .i64 r') ∧ W.cell? ⟨w1.heap.size, 3, none⟩ = some (.int .i64 s')) ((refine Kq.cells ?_; repeat (first | assumption | with_reducible refine Kq.drew ?_ | with_reducible refine Kq.call ?_ (by assumption))))
            (first | (go_at_call 225; refine (l02Unit_any _).mono ?_; rintro e u4 ⟨rfl, hb4⟩; have hQ4 : Kq w1.heap.size p' q' r' s' u4 := (by repeat (first | assumption | with_reducible refine Kq.drew ?_ | with_reducible refine Kq.call ?_ (by assumption))); have M4 : Kq w.heap.size a b c d u4 := (by repeat (first | assumption | with_reducible refine Kq.drew ?_ | with_reducible refine Kq.call ?_ (by assumption))); have R4 : KR w1.heap.size p' q' r' s' u4 := (R3.drew.call hb4); have B4 : Below w.heap.size w u4 := bstep B3.drew hb4))
          go_wp2
          go_roundw
          case rel => exact ⟨k + 1, p', q', r', s', by go_num, by omega, M4, R4, hl, HN.out, HN2.out, B4⟩
          case measure => simp [intOf]; omega
end
end Go.Proofs.YtkfeajjpbmbmpaaGreatDoor

namespace Go.Proofs.YtkfeajjpbmbmpaaGreatDoor
section
open Go.RowKit
set_option linter.unusedSimpArgs false

end
end Go.Proofs.YtkfeajjpbmbmpaaGreatDoor

namespace Go.Proofs.YtkfeajjpbmbmpaaGreatDoor
section
open Go.RowKit
set_option linter.unusedSimpArgs false
set_option linter.unusedVariables false

set_option maxHeartbeats 1000000 in
theorem isReflection_any (a b c d : Int) (w : World) (h : limB a b c d = true) :
    Calls Tryz.prog 125 #[.agg #[.int .i64 a, .int .i64 b, .int .i64 c, .int .i64 d]] w fun e w' => e = .returned (.bool (reflB a b c d)) ∧ Below w.heap.size w w' := by
  rcases h1 : a * d - b * c == -1 with _ | _
  · have ea : reflB a b c d = false := by simp [reflB, h1]
    have EA := Lib.hid ea
    clear ea
    go_enter Tryz.func125, Tryz.ntmps125
    go_wp2_with fail
    refine (det_any _ _ _ _ _ h).mono ?_
    rintro e w1 ⟨rfl, hb1⟩
    obtain ⟨hc1, hf1⟩ := bcell hb1
    have hz1a : w.heap.size < w1.heap.size := by have := hb1.size; (try simp at this); omega
    go_wp2
    go_ret
    refine ⟨ret_bool EA.out.symm, ?_⟩
    repeat (first | exact Below.refl _ _ | refine Below.setCell ?_ (by first | omega | (simp <;> omega)) _ | refine Below.alloc ?_ (by first | omega | (simp <;> omega)) _ | refine bstep ?_ (by assumption) | refine Below.drew ?_)
  rcases h2 : a + d == 0 with _ | _
  · have ea : reflB a b c d = false := by simp [reflB, h2]
    have EA := Lib.hid ea
    clear ea
    go_enter Tryz.func125, Tryz.ntmps125
    go_wp2_with fail
    refine (det_any _ _ _ _ _ h).mono ?_
    rintro e w1 ⟨rfl, hb1⟩
    obtain ⟨hc1, hf1⟩ := bcell hb1
    have hz1a : w.heap.size < w1.heap.size := by have := hb1.size; (try simp at this); omega
    go_wp2_with fail
    refine (trace_any _ _ _ _ _ h).mono ?_
    rintro e w2 ⟨rfl, hb2⟩
    obtain ⟨hc2, hf2⟩ := bcell hb2
    have hz2a : w.heap.size < w2.heap.size := by have := hb2.size; (try simp at this); omega
    go_wp2
    go_ret
    refine ⟨ret_bool EA.out.symm, ?_⟩
    repeat (first | exact Below.refl _ _ | refine Below.setCell ?_ (by first | omega | (simp <;> omega)) _ | refine Below.alloc ?_ (by first | omega | (simp <;> omega)) _ | refine bstep ?_ (by assumption) | refine Below.drew ?_)
  · have ea : reflB a b c d = true := by simp [reflB, h1, h2]
    have EA := Lib.hid ea
    clear ea
    go_enter Tryz.func125, Tryz.ntmps125
    go_wp2_with fail
    refine (det_any _ _ _ _ _ h).mono ?_
    rintro e w1 ⟨rfl, hb1⟩
    obtain ⟨hc1, hf1⟩ := bcell hb1
    have hz1a : w.heap.size < w1.heap.size := by have := hb1.size; (try simp at this); omega
    go_wp2_with fail
    refine (trace_any _ _ _ _ _ h).mono ?_
    rintro e w2 ⟨rfl, hb2⟩
    obtain ⟨hc2, hf2⟩ := bcell hb2
    have hz2a : w.heap.size < w2.heap.size := by have := hb2.size; (try simp at this); omega
    go_wp2
    go_ret
    refine ⟨ret_bool EA.out.symm, ?_⟩
    repeat (first | exact Below.refl _ _ | refine Below.setCell ?_ (by first | omega | (simp <;> omega)) _ | refine Below.alloc ?_ (by first | omega | (simp <;> omega)) _ | refine bstep ?_ (by assumption) | refine Below.drew ?_)

end
end Go.Proofs.YtkfeajjpbmbmpaaGreatDoor

namespace Go.Proofs.YtkfeajjpbmbmpaaGreatDoor
section
open Go.RowKit
set_option linter.unusedSimpArgs false
set_option linter.unusedVariables false

/- the program's variable unitMatrix holds the unit -/
def UnitOK (W : World) : Prop := Kq 0 1 0 0 1 W
theorem UnitOK.call {W w1 : World} (h : UnitOK W) (hb : Below W.heap.size W w1) : UnitOK w1 := Kq.call h hb
theorem UnitOK.alloc {W : World} (h : UnitOK W) (o : Obj) : UnitOK (W.alloc o) := Kq.alloc h o
theorem UnitOK.drew {W : World} (h : UnitOK W) : UnitOK W.drew := Kq.drew h

set_option maxHeartbeats 1000000 in
theorem timesU_any (w : World) :
    Calls Tryz.prog 221 #[.agg #[.int .i64 1, .int .i64 0, .int .i64 0, .int .i64 1], .int .i64 (-1)] w fun e w' => e = .returned (.agg #[.int .i64 (-1), .int .i64 0, .int .i64 0, .int .i64 (-1)]) ∧ Below w.heap.size w w' :=
  (timesM_any 1 0 0 1 (-1) w (by decide) (by decide)).mono fun _ _ h => by simpa using h

theorem eqArr (a b c d a' b' c' d' : Int) (w : World) : (Op.equalIn 10000 111 (.agg #[.int .i64 a, .int .i64 b, .int .i64 c, .int .i64 d]) (.agg #[.int .i64 a', .int .i64 b', .int .i64 c', .int .i64 d'])).run Tryz.prog w = .ok (eqM a b c d a' b' c' d') w := by
  have u3 := Tryz.underlying2
  have a3 := Tryz.isAgg2
  have z3 := Tryz.sizeOf2
  rw [show (10000 : Nat) = 9999 + 1 from rfl, Op.equalIn]
  simp only [Sem.run_bind, run_underlying Tryz.underlying111, Result.andThen_ok]
  simp only [Std.Legacy.Range.forIn_eq_forIn_range', Std.Legacy.Range.size, Nat.sub_zero, Nat.add_sub_cancel, Nat.div_one, List.range'_succ, List.range'_zero, List.forIn_cons, List.forIn_nil]
  go_simp
  unfold eqM
  by_cases h1 : a = a' <;> by_cases h2 : b = b' <;> by_cases h3 : c = c' <;> by_cases h4 : d = d' <;> simp [h1, h2, h3, h4]
attribute [local go_sem ↓] eqArr

theorem ordT_eqs {a b c d : Int} : unitB a b c d = eqM a b c d 1 0 0 1 := rfl
set_option maxHeartbeats 4000000 in
theorem order_any (a b c d : Int) (w : World) (h : matB a b c d = true) (hU : UnitOK w) :
    Calls Tryz.prog 126 #[.agg #[.int .i64 a, .int .i64 b, .int .i64 c, .int .i64 d]] w fun e w' => e = .returned (.int .i64 (ordT a b c d)) ∧ Below w.heap.size w w' := by
  have lu := matB_lim h
  rcases h1 : eqM a b c d 1 0 0 1 with _ | _
  case true =>
    have ea : ordT a b c d = 1 := by simp [ordT, ordT_eqs, h1]
    have EA := Lib.hid ea
    clear ea
    have U0 : Kq 0 1 0 0 1 (w.alloc (.cells #[.int .i64 a, .int .i64 b, .int .i64 c, .int .i64 d] 111)) := Kq.alloc hU _
    have M0 : Kq w.heap.size a b c d (w.alloc (.cells #[.int .i64 a, .int .i64 b, .int .i64 c, .int .i64 d] 111)) := Kq.at _ rfl
    obtain ⟨u0, u1, u2, u3, u4⟩ := id hU
    have un : ¬ 0 = w.heap.size := by omega
    go_enter Tryz.func126, Tryz.ntmps126
    go_wp2_with fail
    go_wp2
    go_ret
    refine ⟨ret_int EA.out.symm, ?_⟩
    repeat (first | exact B1 | exact Below.refl _ _ | refine Below.setCell ?_ (by first | omega | (simp <;> omega)) _ | refine Below.alloc ?_ (by first | omega | (simp <;> omega)) _ | refine bstep ?_ (by assumption) | refine Below.drew ?_)
  rcases h2 : eqM a b c d (-1) 0 0 (-1) with _ | _
  case true =>
    have ea : ordT a b c d = 2 := by
      have h3 : (a == -1 && b == 0 && c == 0 && d == -1) = true := h2
      simp [ordT, ordT_eqs, h1, h3]
    have EA := Lib.hid ea
    clear ea
    have U0 : Kq 0 1 0 0 1 (w.alloc (.cells #[.int .i64 a, .int .i64 b, .int .i64 c, .int .i64 d] 111)) := Kq.alloc hU _
    have M0 : Kq w.heap.size a b c d (w.alloc (.cells #[.int .i64 a, .int .i64 b, .int .i64 c, .int .i64 d] 111)) := Kq.at _ rfl
    obtain ⟨u0, u1, u2, u3, u4⟩ := id hU
    have un : ¬ 0 = w.heap.size := by omega
    go_enter Tryz.func126, Tryz.ntmps126
    go_wp2_with fail
    go_region_held3 (fun W => (W.cell? ⟨w.heap.size, 0, none⟩ = some (.int .i64 a) ∧ W.cell? ⟨w.heap.size, 1, none⟩ = some (.int .i64 b) ∧ W.cell? ⟨w.heap.size, 2, none⟩ = some (.int .i64 c) ∧ W.cell? ⟨w.heap.size, 3, none⟩ = some (.int .i64 d)) ∧ W.cell? ⟨0, 0, none⟩ = some (.int .i64 1) ∧ W.cell? ⟨0, 1, none⟩ = some (.int .i64 0) ∧ W.cell? ⟨0, 2, none⟩ = some (.int .i64 0) ∧ W.cell? ⟨0, 3, none⟩ = some (.int .i64 1)) ((refine Kq.two ?_ ?_ <;> repeat (first | assumption | with_reducible refine Kq.drew ?_ | with_reducible refine Kq.call ?_ (by assumption))))
      (first | (go_at_call 221; refine (timesU_any _).mono ?_; rintro e w1 ⟨rfl, hb1⟩; have M1 : Kq w.heap.size a b c d w1 := (by repeat (first | assumption | with_reducible refine Kq.drew ?_ | with_reducible refine Kq.call ?_ (by assumption))); have B1 : Below w.heap.size w w1 := bstep (Below.drew (Below.alloc (Below.refl _ _) (Nat.le_refl _) _)) hb1))
    obtain ⟨m0, m1, m2, m3⟩ := M1.cells
    have M1l := M1.1
    go_wp2
    go_ret
    refine ⟨ret_int EA.out.symm, ?_⟩
    repeat (first | exact B1 | exact Below.refl _ _ | refine Below.setCell ?_ (by first | omega | (simp <;> omega)) _ | refine Below.alloc ?_ (by first | omega | (simp <;> omega)) _ | refine bstep ?_ (by assumption) | refine Below.drew ?_)
  have h3 : (a == -1 && b == 0 && c == 0 && d == -1) = false := h2
  rcases h4 : reflB a b c d with _ | _
  case true =>
    have ea : ordT a b c d = 2 := by
      have h5 : (a * d - b * c == -1 && a + d == 0) = true := h4
      simp [ordT, ordT_eqs, h1, h5]
    have EA := Lib.hid ea
    clear ea h3
    have U0 : Kq 0 1 0 0 1 (w.alloc (.cells #[.int .i64 a, .int .i64 b, .int .i64 c, .int .i64 d] 111)) := Kq.alloc hU _
    have M0 : Kq w.heap.size a b c d (w.alloc (.cells #[.int .i64 a, .int .i64 b, .int .i64 c, .int .i64 d] 111)) := Kq.at _ rfl
    obtain ⟨u0, u1, u2, u3, u4⟩ := id hU
    have un : ¬ 0 = w.heap.size := by omega
    go_enter Tryz.func126, Tryz.ntmps126
    go_wp2_with fail
    go_region_held3 (fun W => (W.cell? ⟨w.heap.size, 0, none⟩ = some (.int .i64 a) ∧ W.cell? ⟨w.heap.size, 1, none⟩ = some (.int .i64 b) ∧ W.cell? ⟨w.heap.size, 2, none⟩ = some (.int .i64 c) ∧ W.cell? ⟨w.heap.size, 3, none⟩ = some (.int .i64 d)) ∧ W.cell? ⟨0, 0, none⟩ = some (.int .i64 1) ∧ W.cell? ⟨0, 1, none⟩ = some (.int .i64 0) ∧ W.cell? ⟨0, 2, none⟩ = some (.int .i64 0) ∧ W.cell? ⟨0, 3, none⟩ = some (.int .i64 1)) ((refine Kq.two ?_ ?_ <;> repeat (first | assumption | with_reducible refine Kq.drew ?_ | with_reducible refine Kq.call ?_ (by assumption))))
      (first | (go_at_call 221; refine (timesU_any _).mono ?_; rintro e w1 ⟨rfl, hb1⟩; have M1 : Kq w.heap.size a b c d w1 := (by repeat (first | assumption | with_reducible refine Kq.drew ?_ | with_reducible refine Kq.call ?_ (by assumption))); have B1 : Below w.heap.size w w1 := bstep (Below.drew (Below.alloc (Below.refl _ _) (Nat.le_refl _) _)) hb1))
    obtain ⟨m0, m1, m2, m3⟩ := M1.cells
    have M1l := M1.1
    go_wp2_with fail
    refine (isReflection_any _ _ _ _ _ lu).mono ?_
    rintro e w2 ⟨rfl, hb2⟩
    have M2 := Kq.call M1 hb2
    obtain ⟨n2a, n2b, n2c, n2d⟩ := M2.cells
    go_wp2
    go_ret
    refine ⟨ret_int EA.out.symm, ?_⟩
    repeat (first | exact B1 | exact Below.refl _ _ | refine Below.setCell ?_ (by first | omega | (simp <;> omega)) _ | refine Below.alloc ?_ (by first | omega | (simp <;> omega)) _ | refine bstep ?_ (by assumption) | refine Below.drew ?_)
  have h5 : (a * d - b * c == -1 && a + d == 0) = false := h4
  rcases h6 : a * d - b * c == -1 with _ | _
  case true =>
    have ea : ordT a b c d = 0 := by unfold ordT; rw [ordT_eqs, h1, h3, h5]; simp [h6]
    have EA := Lib.hid ea
    clear ea h3 h5
    have U0 : Kq 0 1 0 0 1 (w.alloc (.cells #[.int .i64 a, .int .i64 b, .int .i64 c, .int .i64 d] 111)) := Kq.alloc hU _
    have M0 : Kq w.heap.size a b c d (w.alloc (.cells #[.int .i64 a, .int .i64 b, .int .i64 c, .int .i64 d] 111)) := Kq.at _ rfl
    obtain ⟨u0, u1, u2, u3, u4⟩ := id hU
    have un : ¬ 0 = w.heap.size := by omega
    go_enter Tryz.func126, Tryz.ntmps126
    go_wp2_with fail
    go_region_held3 (fun W => (W.cell? ⟨w.heap.size, 0, none⟩ = some (.int .i64 a) ∧ W.cell? ⟨w.heap.size, 1, none⟩ = some (.int .i64 b) ∧ W.cell? ⟨w.heap.size, 2, none⟩ = some (.int .i64 c) ∧ W.cell? ⟨w.heap.size, 3, none⟩ = some (.int .i64 d)) ∧ W.cell? ⟨0, 0, none⟩ = some (.int .i64 1) ∧ W.cell? ⟨0, 1, none⟩ = some (.int .i64 0) ∧ W.cell? ⟨0, 2, none⟩ = some (.int .i64 0) ∧ W.cell? ⟨0, 3, none⟩ = some (.int .i64 1)) ((refine Kq.two ?_ ?_ <;> repeat (first | assumption | with_reducible refine Kq.drew ?_ | with_reducible refine Kq.call ?_ (by assumption))))
      (first | (go_at_call 221; refine (timesU_any _).mono ?_; rintro e w1 ⟨rfl, hb1⟩; have M1 : Kq w.heap.size a b c d w1 := (by repeat (first | assumption | with_reducible refine Kq.drew ?_ | with_reducible refine Kq.call ?_ (by assumption))); have B1 : Below w.heap.size w w1 := bstep (Below.drew (Below.alloc (Below.refl _ _) (Nat.le_refl _) _)) hb1))
    obtain ⟨m0, m1, m2, m3⟩ := M1.cells
    have M1l := M1.1
    go_wp2_with fail
    refine (isReflection_any _ _ _ _ _ lu).mono ?_
    rintro e w2 ⟨rfl, hb2⟩
    have M2 := Kq.call M1 hb2
    obtain ⟨n2a, n2b, n2c, n2d⟩ := M2.cells
    go_wp2_with fail
    refine (det_any _ _ _ _ _ lu).mono ?_
    rintro e w3 ⟨rfl, hb3⟩
    have M3 := Kq.call M2 hb3
    obtain ⟨n3a, n3b, n3c, n3d⟩ := M3.cells
    go_wp2
    go_ret
    refine ⟨ret_int EA.out.symm, ?_⟩
    repeat (first | exact B1 | exact Below.refl _ _ | refine Below.setCell ?_ (by first | omega | (simp <;> omega)) _ | refine Below.alloc ?_ (by first | omega | (simp <;> omega)) _ | refine bstep ?_ (by assumption) | refine Below.drew ?_)
  rcases t0 : a + d == -1 with _ | _
  case true =>
    have ea : ordT a b c d = 3 := by unfold ordT; rw [ordT_eqs, h1, h3, h5]; simp only [h6, t0]; rfl
    have EA := Lib.hid ea
    clear ea h3 h5
    have U0 : Kq 0 1 0 0 1 (w.alloc (.cells #[.int .i64 a, .int .i64 b, .int .i64 c, .int .i64 d] 111)) := Kq.alloc hU _
    have M0 : Kq w.heap.size a b c d (w.alloc (.cells #[.int .i64 a, .int .i64 b, .int .i64 c, .int .i64 d] 111)) := Kq.at _ rfl
    obtain ⟨u0, u1, u2, u3, u4⟩ := id hU
    have un : ¬ 0 = w.heap.size := by omega
    go_enter Tryz.func126, Tryz.ntmps126
    go_wp2_with fail
    go_region_held3 (fun W => (W.cell? ⟨w.heap.size, 0, none⟩ = some (.int .i64 a) ∧ W.cell? ⟨w.heap.size, 1, none⟩ = some (.int .i64 b) ∧ W.cell? ⟨w.heap.size, 2, none⟩ = some (.int .i64 c) ∧ W.cell? ⟨w.heap.size, 3, none⟩ = some (.int .i64 d)) ∧ W.cell? ⟨0, 0, none⟩ = some (.int .i64 1) ∧ W.cell? ⟨0, 1, none⟩ = some (.int .i64 0) ∧ W.cell? ⟨0, 2, none⟩ = some (.int .i64 0) ∧ W.cell? ⟨0, 3, none⟩ = some (.int .i64 1)) ((refine Kq.two ?_ ?_ <;> repeat (first | assumption | with_reducible refine Kq.drew ?_ | with_reducible refine Kq.call ?_ (by assumption))))
      (first | (go_at_call 221; refine (timesU_any _).mono ?_; rintro e w1 ⟨rfl, hb1⟩; have M1 : Kq w.heap.size a b c d w1 := (by repeat (first | assumption | with_reducible refine Kq.drew ?_ | with_reducible refine Kq.call ?_ (by assumption))); have B1 : Below w.heap.size w w1 := bstep (Below.drew (Below.alloc (Below.refl _ _) (Nat.le_refl _) _)) hb1))
    obtain ⟨m0, m1, m2, m3⟩ := M1.cells
    have M1l := M1.1
    go_wp2_with fail
    refine (isReflection_any _ _ _ _ _ lu).mono ?_
    rintro e w2 ⟨rfl, hb2⟩
    have M2 := Kq.call M1 hb2
    obtain ⟨n2a, n2b, n2c, n2d⟩ := M2.cells
    go_wp2_with fail
    refine (det_any _ _ _ _ _ lu).mono ?_
    rintro e w3 ⟨rfl, hb3⟩
    have M3 := Kq.call M2 hb3
    obtain ⟨n3a, n3b, n3c, n3d⟩ := M3.cells
    go_wp2_with fail
    refine (trace_any _ _ _ _ _ lu).mono ?_
    rintro e w4 ⟨rfl, hb4⟩
    have M4 := Kq.call M3 hb4
    obtain ⟨n4a, n4b, n4c, n4d⟩ := M4.cells
    go_wp2
    go_ret
    refine ⟨ret_int EA.out.symm, ?_⟩
    repeat (first | exact B1 | exact Below.refl _ _ | refine Below.setCell ?_ (by first | omega | (simp <;> omega)) _ | refine Below.alloc ?_ (by first | omega | (simp <;> omega)) _ | refine bstep ?_ (by assumption) | refine Below.drew ?_)
  rcases t1 : a + d == 0 with _ | _
  case true =>
    have ea : ordT a b c d = 4 := by unfold ordT; rw [ordT_eqs, h1, h3, h5]; simp only [h6, t0, t1]; rfl
    have EA := Lib.hid ea
    clear ea h3 h5
    have U0 : Kq 0 1 0 0 1 (w.alloc (.cells #[.int .i64 a, .int .i64 b, .int .i64 c, .int .i64 d] 111)) := Kq.alloc hU _
    have M0 : Kq w.heap.size a b c d (w.alloc (.cells #[.int .i64 a, .int .i64 b, .int .i64 c, .int .i64 d] 111)) := Kq.at _ rfl
    obtain ⟨u0, u1, u2, u3, u4⟩ := id hU
    have un : ¬ 0 = w.heap.size := by omega
    go_enter Tryz.func126, Tryz.ntmps126
    go_wp2_with fail
    go_region_held3 (fun W => (W.cell? ⟨w.heap.size, 0, none⟩ = some (.int .i64 a) ∧ W.cell? ⟨w.heap.size, 1, none⟩ = some (.int .i64 b) ∧ W.cell? ⟨w.heap.size, 2, none⟩ = some (.int .i64 c) ∧ W.cell? ⟨w.heap.size, 3, none⟩ = some (.int .i64 d)) ∧ W.cell? ⟨0, 0, none⟩ = some (.int .i64 1) ∧ W.cell? ⟨0, 1, none⟩ = some (.int .i64 0) ∧ W.cell? ⟨0, 2, none⟩ = some (.int .i64 0) ∧ W.cell? ⟨0, 3, none⟩ = some (.int .i64 1)) ((refine Kq.two ?_ ?_ <;> repeat (first | assumption | with_reducible refine Kq.drew ?_ | with_reducible refine Kq.call ?_ (by assumption))))
      (first | (go_at_call 221; refine (timesU_any _).mono ?_; rintro e w1 ⟨rfl, hb1⟩; have M1 : Kq w.heap.size a b c d w1 := (by repeat (first | assumption | with_reducible refine Kq.drew ?_ | with_reducible refine Kq.call ?_ (by assumption))); have B1 : Below w.heap.size w w1 := bstep (Below.drew (Below.alloc (Below.refl _ _) (Nat.le_refl _) _)) hb1))
    obtain ⟨m0, m1, m2, m3⟩ := M1.cells
    have M1l := M1.1
    go_wp2_with fail
    refine (isReflection_any _ _ _ _ _ lu).mono ?_
    rintro e w2 ⟨rfl, hb2⟩
    have M2 := Kq.call M1 hb2
    obtain ⟨n2a, n2b, n2c, n2d⟩ := M2.cells
    go_wp2_with fail
    refine (det_any _ _ _ _ _ lu).mono ?_
    rintro e w3 ⟨rfl, hb3⟩
    have M3 := Kq.call M2 hb3
    obtain ⟨n3a, n3b, n3c, n3d⟩ := M3.cells
    go_wp2_with fail
    refine (trace_any _ _ _ _ _ lu).mono ?_
    rintro e w4 ⟨rfl, hb4⟩
    have M4 := Kq.call M3 hb4
    obtain ⟨n4a, n4b, n4c, n4d⟩ := M4.cells
    go_wp2
    go_ret
    refine ⟨ret_int EA.out.symm, ?_⟩
    repeat (first | exact B1 | exact Below.refl _ _ | refine Below.setCell ?_ (by first | omega | (simp <;> omega)) _ | refine Below.alloc ?_ (by first | omega | (simp <;> omega)) _ | refine bstep ?_ (by assumption) | refine Below.drew ?_)
  rcases t2 : a + d == 1 with _ | _
  case true =>
    have ea : ordT a b c d = 6 := by unfold ordT; rw [ordT_eqs, h1, h3, h5]; simp only [h6, t0, t1, t2]; rfl
    have EA := Lib.hid ea
    clear ea h3 h5
    have U0 : Kq 0 1 0 0 1 (w.alloc (.cells #[.int .i64 a, .int .i64 b, .int .i64 c, .int .i64 d] 111)) := Kq.alloc hU _
    have M0 : Kq w.heap.size a b c d (w.alloc (.cells #[.int .i64 a, .int .i64 b, .int .i64 c, .int .i64 d] 111)) := Kq.at _ rfl
    obtain ⟨u0, u1, u2, u3, u4⟩ := id hU
    have un : ¬ 0 = w.heap.size := by omega
    go_enter Tryz.func126, Tryz.ntmps126
    go_wp2_with fail
    go_region_held3 (fun W => (W.cell? ⟨w.heap.size, 0, none⟩ = some (.int .i64 a) ∧ W.cell? ⟨w.heap.size, 1, none⟩ = some (.int .i64 b) ∧ W.cell? ⟨w.heap.size, 2, none⟩ = some (.int .i64 c) ∧ W.cell? ⟨w.heap.size, 3, none⟩ = some (.int .i64 d)) ∧ W.cell? ⟨0, 0, none⟩ = some (.int .i64 1) ∧ W.cell? ⟨0, 1, none⟩ = some (.int .i64 0) ∧ W.cell? ⟨0, 2, none⟩ = some (.int .i64 0) ∧ W.cell? ⟨0, 3, none⟩ = some (.int .i64 1)) ((refine Kq.two ?_ ?_ <;> repeat (first | assumption | with_reducible refine Kq.drew ?_ | with_reducible refine Kq.call ?_ (by assumption))))
      (first | (go_at_call 221; refine (timesU_any _).mono ?_; rintro e w1 ⟨rfl, hb1⟩; have M1 : Kq w.heap.size a b c d w1 := (by repeat (first | assumption | with_reducible refine Kq.drew ?_ | with_reducible refine Kq.call ?_ (by assumption))); have B1 : Below w.heap.size w w1 := bstep (Below.drew (Below.alloc (Below.refl _ _) (Nat.le_refl _) _)) hb1))
    obtain ⟨m0, m1, m2, m3⟩ := M1.cells
    have M1l := M1.1
    go_wp2_with fail
    refine (isReflection_any _ _ _ _ _ lu).mono ?_
    rintro e w2 ⟨rfl, hb2⟩
    have M2 := Kq.call M1 hb2
    obtain ⟨n2a, n2b, n2c, n2d⟩ := M2.cells
    go_wp2_with fail
    refine (det_any _ _ _ _ _ lu).mono ?_
    rintro e w3 ⟨rfl, hb3⟩
    have M3 := Kq.call M2 hb3
    obtain ⟨n3a, n3b, n3c, n3d⟩ := M3.cells
    go_wp2_with fail
    refine (trace_any _ _ _ _ _ lu).mono ?_
    rintro e w4 ⟨rfl, hb4⟩
    have M4 := Kq.call M3 hb4
    obtain ⟨n4a, n4b, n4c, n4d⟩ := M4.cells
    go_wp2
    go_ret
    refine ⟨ret_int EA.out.symm, ?_⟩
    repeat (first | exact B1 | exact Below.refl _ _ | refine Below.setCell ?_ (by first | omega | (simp <;> omega)) _ | refine Below.alloc ?_ (by first | omega | (simp <;> omega)) _ | refine bstep ?_ (by assumption) | refine Below.drew ?_)
  have ea : ordT a b c d = 0 := by unfold ordT; rw [ordT_eqs, h1, h3, h5]; simp only [h6, t0, t1, t2]; rfl
  have EA := Lib.hid ea
  clear ea h3 h5
  have U0 : Kq 0 1 0 0 1 (w.alloc (.cells #[.int .i64 a, .int .i64 b, .int .i64 c, .int .i64 d] 111)) := Kq.alloc hU _
  have M0 : Kq w.heap.size a b c d (w.alloc (.cells #[.int .i64 a, .int .i64 b, .int .i64 c, .int .i64 d] 111)) := Kq.at _ rfl
  obtain ⟨u0, u1, u2, u3, u4⟩ := id hU
  have un : ¬ 0 = w.heap.size := by omega
  go_enter Tryz.func126, Tryz.ntmps126
  go_wp2_with fail
  go_region_held3 (fun W => (W.cell? ⟨w.heap.size, 0, none⟩ = some (.int .i64 a) ∧ W.cell? ⟨w.heap.size, 1, none⟩ = some (.int .i64 b) ∧ W.cell? ⟨w.heap.size, 2, none⟩ = some (.int .i64 c) ∧ W.cell? ⟨w.heap.size, 3, none⟩ = some (.int .i64 d)) ∧ W.cell? ⟨0, 0, none⟩ = some (.int .i64 1) ∧ W.cell? ⟨0, 1, none⟩ = some (.int .i64 0) ∧ W.cell? ⟨0, 2, none⟩ = some (.int .i64 0) ∧ W.cell? ⟨0, 3, none⟩ = some (.int .i64 1)) ((refine Kq.two ?_ ?_ <;> repeat (first | assumption | with_reducible refine Kq.drew ?_ | with_reducible refine Kq.call ?_ (by assumption))))
    (first | (go_at_call 221; refine (timesU_any _).mono ?_; rintro e w1 ⟨rfl, hb1⟩; have M1 : Kq w.heap.size a b c d w1 := (by repeat (first | assumption | with_reducible refine Kq.drew ?_ | with_reducible refine Kq.call ?_ (by assumption))); have B1 : Below w.heap.size w w1 := bstep (Below.drew (Below.alloc (Below.refl _ _) (Nat.le_refl _) _)) hb1))
  obtain ⟨m0, m1, m2, m3⟩ := M1.cells
  have M1l := M1.1
  go_wp2_with fail
  refine (isReflection_any _ _ _ _ _ lu).mono ?_
  rintro e w2 ⟨rfl, hb2⟩
  have M2 := Kq.call M1 hb2
  obtain ⟨n2a, n2b, n2c, n2d⟩ := M2.cells
  go_wp2_with fail
  refine (det_any _ _ _ _ _ lu).mono ?_
  rintro e w3 ⟨rfl, hb3⟩
  have M3 := Kq.call M2 hb3
  obtain ⟨n3a, n3b, n3c, n3d⟩ := M3.cells
  go_wp2_with fail
  refine (trace_any _ _ _ _ _ lu).mono ?_
  rintro e w4 ⟨rfl, hb4⟩
  have M4 := Kq.call M3 hb4
  obtain ⟨n4a, n4b, n4c, n4d⟩ := M4.cells
  go_wp2
  go_ret
  refine ⟨ret_int EA.out.symm, ?_⟩
  repeat (first | exact B1 | exact Below.refl _ _ | refine Below.setCell ?_ (by first | omega | (simp <;> omega)) _ | refine Below.alloc ?_ (by first | omega | (simp <;> omega)) _ | refine bstep ?_ (by assumption) | refine Below.drew ?_)
end
end Go.Proofs.YtkfeajjpbmbmpaaGreatDoor

