/-
  The draws of chapter 4 for near vectors, and the laws' own dice. Condition: the code's bytes can be read.
-/
import Derived.Test.YtkfeajjpbmbmpaaGreatDoorDraws1
import Derived.Deep.RegionHeld3
import Derived.Deep.RegionWith
import Derived.IntWalk
namespace Go.Proofs.YtkfeajjpbmbmpaaGreatDoor
open Go.RowKit
set_option linter.unusedSimpArgs false
set_option linter.unusedVariables false

theorem pkc2 (W : World) (a b : Int) (T : TypeId) : ∀ i, i < 2 → ∃ v : Int, (W.alloc (.cells #[.int .i64 a, .int .i64 b] T)).cell? ⟨W.heap.size, i, none⟩ = some (.int .i64 v) := by
  intro i hi
  obtain rfl | rfl : i = 0 ∨ i = 1 := by omega
  · exact ⟨a, by simp [go_sem]⟩
  · exact ⟨b, by simp [go_sem]⟩
set_option maxHeartbeats 4000000 in
theorem drawFrame_any (p : Nat) (a0 : Option Addr) (len cap : Nat) (w : World) (h : Src p a0 len cap w) :
    Calls Tryz.prog 242 #[.pointer (some ⟨p, 0, none⟩)] w (PickPost p a0 len cap w) := by
  go_enter Tryz.func242, Tryz.ntmps242
  go_wp2_with fail
  refine (next_any _ p a0 len cap _ h).mono ?_
  rintro e w1 ⟨x, rfl, x0, x1, S1, O1⟩
  clear x1
  rcases hx : x == 0 with _ | _
  · go_wp2_with fail
    refine (next_any _ p a0 len cap _ S1).mono ?_
    rintro e w2 ⟨y, rfl, y0, y1, S2, O2⟩
    go_wp2
    go_ret
    exact ⟨y, rfl, S2, O1.trans O2⟩
  · go_wp2_with fail
    refine (pick_any p _ 2 a0 len cap _ (S1.alloc _) (by omega) (by omega) (by simp) (by have := S1.lt; omega) (pkc2 _ _ _ _)).mono ?_
    rintro e w2 ⟨n, rfl, S2, O2⟩
    go_wp2
    go_ret
    exact ⟨n, rfl, S2, (O1.alloc _).trans O2⟩
/- the dice -/
structure Dice (p : Nat) (a0 : Option Addr) (len cap : Nat) (W : World) : Prop where
  lt : p < W.heap.size
  len_le : len ≤ 140737488355328
  cells : ∃ (k : Nat) (s : Int), k ≤ len ∧ W.cell? ⟨p, 0, none⟩ = some (.slice a0 len cap) ∧ W.cell? ⟨p, 1, none⟩ = some (.int .i64 k) ∧ W.cell? ⟨p, 2, none⟩ = some (.int .u64 s)
  free1 : W.frozen? ⟨p, 1, none⟩ = false
  free2 : W.frozen? ⟨p, 2, none⟩ = false
  bytes : Bts a0 len p W
theorem Dice.made (w : World) (a0 : Option Addr) (len cap : Nat) (h : Int) (T : TypeId) (hl : len ≤ 140737488355328) (hB : Bts a0 len w.heap.size w) :
    Dice w.heap.size a0 len cap (w.alloc (.cells #[.slice a0 len cap, .int .i64 0, .int .u64 h] T)) :=
  ⟨by simp, hl, ⟨0, h, by omega, by simp [go_sem], by simp [go_sem], by simp [go_sem]⟩, by simp [go_sem], by simp [go_sem], hB.call ((Below.refl _ _).alloc (Nat.le_refl _) _) (Nat.le_refl _)⟩
theorem Dice.step {p : Nat} {a0 : Option Addr} {len cap : Nat} {W : World} (h : Dice p a0 len cap W) (k : Nat) (h0 : k ≤ len) : Dice p a0 len cap (W.setCell ⟨p, 1, none⟩ (.int .i64 k)) := by
  have hb : Below p W (W.setCell ⟨p, 1, none⟩ (.int .i64 k)) := Below.setCell (p := ⟨p, 1, none⟩) (Below.refl _ _) (Nat.le_refl p) _
  obtain ⟨j, t, g1, g4, g5, g6⟩ := h.cells
  exact ⟨Nat.lt_of_lt_of_le h.lt hb.size, h.len_le, ⟨k, t, h0, by simp [g4, go_sem], World.cell?_setCell_same _ _ _ g5, by simp [g6, go_sem]⟩, by rw [World.frozen?_setCell]; exact h.free1, by rw [World.frozen?_setCell]; exact h.free2, h.bytes.call hb (Nat.le_refl _)⟩
theorem Dice.call {p : Nat} {a0 : Option Addr} {len cap : Nat} {W w1 : World} (h : Dice p a0 len cap W) (hb : Below W.heap.size W w1) : Dice p a0 len cap w1 := by
  have hl := h.lt
  obtain ⟨k, s, h1, h4, h5, h6⟩ := h.cells
  exact ⟨Nat.lt_of_lt_of_le h.lt hb.size, h.len_le, ⟨k, s, h1, by rw [hb.cell hl]; exact h4, by rw [hb.cell hl]; exact h5, by rw [hb.cell hl]; exact h6⟩, by rw [hb.frozen hl]; exact h.free1, by rw [hb.frozen hl]; exact h.free2, h.bytes.call hb (by omega)⟩
theorem Dice.next {p : Nat} {a0 : Option Addr} {len cap : Nat} {W : World} (h : Dice p a0 len cap W) (k : Nat) (h0 : k < len) : Dice p a0 len cap (W.setCell ⟨p, 1, none⟩ (.int .i64 ((k : Int) + 1))) := by
  have := h.step (k + 1) h0
  rwa [show (((k + 1 : Nat)) : Int) = (k : Int) + 1 from by omega] at this
theorem Dice.drewN {p : Nat} {a0 : Option Addr} {len cap : Nat} {W : World} (h : Dice p a0 len cap W) (n : Nat) : Dice p a0 len cap (W.drewN n) := h.call (below_drewN (Below.refl _ _) n)
end Go.Proofs.YtkfeajjpbmbmpaaGreatDoor
