/-
 What a drawn region leaves that sets a new variable from a call's answer, a pattern. No condition.
-/
import Derived.Test.YtdgophfembpniaaGreatDoorPo
namespace Go.Proofs.YtdgophfembpniaaGreatDoor
open Go.RowKit
set_option linter.unusedSimpArgs false
set_option linter.unusedVariables false

theorem SRow.putO9 {lo hi K n : Nat} {F : Nat → Int} {v : Value} {W : World} {q : Addr} (hq : offB v q.block) (u : Value) (h : SRow lo hi K v n F W) : SRow lo hi K v n F (W.setCell q u) := by
 obtain ⟨e1, e2, e3⟩ := h
 refine ⟨by simpa [World.setCell] using e1, e2, ?_⟩
 rcases e3 with e3 | ⟨g, cap, rfl, hg, hg2, r⟩
 ·exact .inl e3
 ·by_cases hn : n = 0
  ·subst hn; exact .inl ⟨rfl, _, _, rfl⟩
  ·exact .inr ⟨g, cap, rfl, hg, hg2, r.far (fun e => hn (hq n cap (by rw [e])))⟩
theorem lt_al9 (W : World) (o : Obj) : W.heap.size < (W.alloc o).heap.size := by simp
theorem SRow.alloc9 {lo hi K n : Nat} {F : Nat → Int} {v : Value} {W : World} (h : SRow lo hi K v n F W) (o : Obj) : SRow lo hi K v n F (W.alloc o) := h.call ((Below.refl _ _).alloc (Nat.le_refl _) _)
theorem SRow.drew9 {lo hi K n : Nat} {F : Nat → Int} {v : Value} {W : World} (h : SRow lo hi K v n F W) : SRow lo hi K v n F W.drew := h.call (Below.refl _ _).drew
theorem Bx.st5 {g : Nat} {u0 u1 u2 u3 u4 : Value} {W : World} (h : BX g [.int .i64 0, .int .i64 0, .int .i64 0, .int .i64 0, .slice none 0 0] W) : Bx g [u0, u1, u2, u3, u4] (((((W.setCell ⟨g, 0, none⟩ u0).setCell ⟨g, 1, none⟩ u1).setCell ⟨g, 2, none⟩ u2).setCell ⟨g, 3, none⟩ u3).setCell ⟨g, 4, none⟩ u4) := (((((h.store 0 (by simp) u0).store 1 (by simp) u1).store 2 (by simp) u2).store 3 (by simp) u3).store 4 (by simp) u4).bx
/- what a drawn region leaves that sets a new variable from a call's answer: a pattern, and a code -/
def McK (r : PK) (W : World) (s6 s7 : Value) (wx : World) : Prop :=
 ∃ (bx : Nat) (f A B C : Int) (m : Nat) (G : Nat → Int) (c : Int) (ao : Option Addr) (cap : Nat), r = (f, A, B, C, m, G, c) ∧ s6 = .pointer (some ⟨bx, 0, none⟩) ∧ s7 = .int .i64 c ∧
  Bx bx [.int .i64 f, .int .i64 A, .int .i64 B, .int .i64 C, .slice ao m cap] wx ∧ SRow W.heap.size wx.heap.size 1 (.slice ao m cap) m G wx ∧ W.heap.size ≤ bx ∧ offB (.slice ao m cap) bx ∧ Below W.heap.size W wx
end Go.Proofs.YtdgophfembpniaaGreatDoor
