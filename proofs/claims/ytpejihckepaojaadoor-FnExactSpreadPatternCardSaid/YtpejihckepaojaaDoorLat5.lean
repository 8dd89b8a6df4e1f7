/-
  Contracts of chapter 3's JoinLattices: the program's function and the model's have one and the same answer. No condition.
-/
import Derived.Test.YtpejihckepaojaaDoorLat4
import Derived.Deep.DeepCutAuto
import Derived.WalkSmall
namespace Go.Proofs.YtpejihckepaojaaDoor
open Go.RowKit
set_option linter.unusedSimpArgs false
set_option linter.unusedVariables false

def joinR (A B C A' B' C' : Int) : Int × Int × Int × Int :=
  bif latB A B C && latB A' B' C' then ((latL (joinL A B C A' B' C')).1, (latL (joinL A B C A' B' C')).2.1, (latL (joinL A B C A' B' C')).2.2, 0) else (0, 0, 0, 1)
def joinT (A B C A' B' C' : Int) : Value := latT (joinR A B C A' B' C')
theorem vecsB_join {A B C A' B' C' : Int} (h : latI A B C) (h' : latI A' B' C') : vecsB (joinL A B C A' B' C') := by
  have a := latI_bd h
  have b := latI_bd h'
  obtain ⟨h1, h2, h3, h4, h5⟩ := h
  obtain ⟨k1, k2, k3, k4, k5⟩ := h'
  intro v hv
  simp [joinL] at hv
  rcases hv with rfl | rfl | rfl | rfl <;> (simp only; omega)
theorem join_pos {A B C A' B' C' : Int} (h : latI A B C) (h' : latI A' B' C') : 0 < (spFold (joinL A B C A' B' C')).2.2 := by
  obtain ⟨_, _, _, _, _, _, _, _, _, _, h0⟩ := join_facts h h'
  exact h0
theorem VL_four {g : Nat} {W : World} {A B C A' B' C' : Int} (hg : g < W.heap.size) (h0 : W.cell? ⟨g, 0, none⟩ = some (.int .i64 A)) (h1 : W.cell? ⟨g, 1, none⟩ = some (.int .i64 0)) (h2 : W.cell? ⟨g, 2, none⟩ = some (.int .i64 B)) (h3 : W.cell? ⟨g, 3, none⟩ = some (.int .i64 C))
    (h4 : W.cell? ⟨g, 4, none⟩ = some (.int .i64 A')) (h5 : W.cell? ⟨g, 5, none⟩ = some (.int .i64 0)) (h6 : W.cell? ⟨g, 6, none⟩ = some (.int .i64 B')) (h7 : W.cell? ⟨g, 7, none⟩ = some (.int .i64 C')) : VL g (joinL A B C A' B' C') W := by
  refine ⟨hg, fun i hi => ?_⟩
  match i, hi with
  | 0, _ => exact ⟨h0, h1⟩
  | 1, _ => exact ⟨h2, h3⟩
  | 2, _ => exact ⟨h4, h5⟩
  | 3, _ => exact ⟨h6, h7⟩

set_option maxHeartbeats 4000000 in
theorem basis_any (A B C : Int) (w : World) :
    Calls Tryd.prog 69 #[.agg #[.int .i64 A, .int .i64 B, .int .i64 C]] w fun e w' => e = .returned (.agg #[.int .i64 A, .int .i64 0, .int .i64 B, .int .i64 C]) ∧ w' = ((w.alloc (.cells #[.int .i64 A, .int .i64 B, .int .i64 C] 28)).alloc (.cells #[.int .i64 A, .int .i64 0, .int .i64 B, .int .i64 C] 96)) := by
  go_enter Tryd.func69, Tryd.ntmps69
  go_wp2
  exact bodyPost_ret (v := .agg #[.int .i64 A, .int .i64 0, .int .i64 B, .int .i64 C]) (by simp [results, Tryd.results69, go_sem]) rfl ⟨rfl, rfl⟩

set_option maxHeartbeats 4000000 in
theorem l03Basis_any (A B C : Int) (w : World) :
    Calls Tryd.prog 36 #[.agg #[.int .i64 A, .int .i64 B, .int .i64 C]] w fun e w' => e = .returned (.slice (some ⟨w.heap.size + 1, 0, none⟩) 2 2) ∧ w' = ((w.alloc (.cells #[.int .i64 A, .int .i64 B, .int .i64 C] 28)).alloc (.cells #[.int .i64 A, .int .i64 0, .int .i64 B, .int .i64 C] 61)) := by
  go_enter Tryd.func36, Tryd.ntmps36
  go_wp2
  go_ret
  exact ⟨rfl, rfl⟩

def MidJoin (w : World) (A B C A' B' C' : Int) (s5 s6 : Value) (wx : World) : Prop :=
  ∃ g h : Nat, s5 = .pointer (some ⟨g, 0, none⟩) ∧ s6 = .pointer (some ⟨h, 0, none⟩) ∧ (wx.cell? ⟨g, 0, none⟩ = some (.int .i64 A) ∧ wx.cell? ⟨g, 1, none⟩ = some (.int .i64 0) ∧ wx.cell? ⟨g, 2, none⟩ = some (.int .i64 B) ∧ wx.cell? ⟨g, 3, none⟩ = some (.int .i64 C)) ∧
    (wx.cell? ⟨h, 0, none⟩ = some (.int .i64 A') ∧ wx.cell? ⟨h, 1, none⟩ = some (.int .i64 0) ∧ wx.cell? ⟨h, 2, none⟩ = some (.int .i64 B') ∧ wx.cell? ⟨h, 3, none⟩ = some (.int .i64 C')) ∧ KL (w.heap.size + 1 + 1) 0 0 0 wx ∧ Below w.heap.size w wx
set_option maxHeartbeats 4000000 in
theorem join_call (A B C A' B' C' : Int) (w : World) (h : latI A B C) (h' : latI A' B' C') :
    Calls Tryd.prog 41 #[.agg #[.int .i64 A, .int .i64 B, .int .i64 C], .agg #[.int .i64 A', .int .i64 B', .int .i64 C']] w fun e w' => e = .returned (.agg #[.int .i64 ((latL (joinL A B C A' B' C')).1), .int .i64 ((latL (joinL A B C A' B' C')).2.1), .int .i64 ((latL (joinL A B C A' B' C')).2.2)]) ∧ Below w.heap.size w w' := by
  have hp := join_pos h h'
  have hL := vecsB_join h h'
  go_enter Tryd.func41, Tryd.ntmps41
  go_upto_region 1 with fail
  go_cut [5, 6] (fun s5 s6 wx => MidJoin w A B C A' B' C' s5 s6 wx)
  case first =>
    clear hp hL h h'
    go_region_held3 (fun W => (W.cell? ⟨w.heap.size, 0, none⟩ = some (.int .i64 A) ∧ W.cell? ⟨w.heap.size, 1, none⟩ = some (.int .i64 B) ∧ W.cell? ⟨w.heap.size, 2, none⟩ = some (.int .i64 C)) ∧ (W.cell? ⟨w.heap.size + 1, 0, none⟩ = some (.int .i64 A') ∧ W.cell? ⟨w.heap.size + 1, 1, none⟩ = some (.int .i64 B') ∧ W.cell? ⟨w.heap.size + 1, 2, none⟩ = some (.int .i64 C'))) (simp [go_sem])
      (first
        | (go_at_call_of 69 (Value.agg #[Value.int IntKind.i64 A, Value.int IntKind.i64 B, Value.int IntKind.i64 C]); refine (basis_any A B C _).mono ?_; rintro e u1 ⟨rfl, rfl⟩)
        | (go_at_call_of 69 (Value.agg #[Value.int IntKind.i64 A', Value.int IntKind.i64 B', Value.int IntKind.i64 C']); refine (basis_any A' B' C' _).mono ?_; rintro e u2 ⟨rfl, rfl⟩))
    all_goals
      go_wp2_with fail
      go_meet
      refine ⟨_, _, rfl, rfl, by simp [go_sem], by simp [go_sem], ⟨by simp, by simp [go_sem], by simp [go_sem], by simp [go_sem], by simp [go_sem], by simp [go_sem], by simp [go_sem]⟩, ?_⟩
      repeat (first | exact Below.refl _ _ | refine Below.setCell ?_ (by first | omega | (simp <;> omega)) _ | refine Below.alloc ?_ (by first | omega | (simp <;> omega)) _ | refine bstep ?_ (by assumption) | refine Below.drew ?_)
  case rest =>
    obtain ⟨g, h, rfl, rfl, ⟨g0, g1, g2, g3⟩, ⟨h0, h1, h2, h3⟩, KR, BB⟩ := hcut
    have hs := BB.size
    have KR1 : KL (w.heap.size + 1 + 1) 0 0 0 (wc.alloc (.cells #[.int .i64 A, .int .i64 0, .int .i64 B, .int .i64 C, .int .i64 A', .int .i64 0, .int .i64 B', .int .i64 C'] 61)) := KR.alloc _
    have BB1 : Below w.heap.size w (wc.alloc (.cells #[.int .i64 A, .int .i64 0, .int .i64 B, .int .i64 C, .int .i64 A', .int .i64 0, .int .i64 B', .int .i64 C'] 61)) := BB.alloc hs _
    go_wp2_with fail
    refine (spanOf_any (joinL A B C A' B' C') _ _ _ (VL_four (by simp) (by simp [go_sem]) (by simp [go_sem]) (by simp [go_sem]) (by simp [go_sem]) (by simp [go_sem]) (by simp [go_sem]) (by simp [go_sem]) (by simp [go_sem])) hL (by simp [joinL]) hp).mono ?_
    rintro e w4 ⟨rfl, hb4⟩
    have KR4 := KR1.call hb4
    have BB4 := bstep BB1 hb4
    obtain ⟨b0, b1, b2, b3, b4, b5, b6⟩ := id KR4
    clear hb4 KR KR1 BB BB1 g0 g1 g2 g3 h0 h1 h2 h3
    go_wp2
    refine bodyPost_ret (v := .agg #[.int .i64 ((latL (joinL A B C A' B' C')).1), .int .i64 ((latL (joinL A B C A' B' C')).2.1), .int .i64 ((latL (joinL A B C A' B' C')).2.2)]) (by simp [results, Tryd.results41, go_sem, b0, b1, b2, b3, b4, b5, b6]) rfl ⟨rfl, ?_⟩
    repeat (first | assumption | refine Below.setCell ?_ (by first | omega | (simp <;> omega)) _)

end Go.Proofs.YtpejihckepaojaaDoor
