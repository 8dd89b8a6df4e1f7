/-
  The source of drawn numbers (the model's l01Source): what its block holds, and that asking it for a number answers a number in range and turns that one block alone. Condition: the bytes that the source reads lie below its block.
-/
import Derived.Test.YtkfeajjpbmbmpaaGreatDoorGa
import Derived.LoopTactic
import Derived.BigQuiet
import Derived.Deep.QuietTactic
import Derived.WalkSmall
import Derived.RegionTactic
import Derived.IntWalk
namespace Go.Proofs.YtkfeajjpbmbmpaaGreatDoor
open Go.RowKit

/- of the old blocks at most block p has turned -/
structure Only (p : Nat) (w w' : World) : Prop where
  os : w'.os = w.os
  tape : w'.tape = w.tape
  output : w'.output = w.output
  size : w.heap.size ≤ w'.heap.size
  block : ∀ k, k < w.heap.size → k ≠ p → w'.heap[k]? = w.heap[k]?

theorem Only.refl (p : Nat) (w : World) : Only p w w := ⟨rfl, rfl, rfl, Nat.le_refl _, fun _ _ _ => rfl⟩
theorem Only.trans {p : Nat} {a b c : World} (h : Only p a b) (k : Only p b c) : Only p a c :=
  ⟨k.os.trans h.os, k.tape.trans h.tape, k.output.trans h.output, Nat.le_trans h.size k.size, fun i hi hp => (k.block i (Nat.lt_of_lt_of_le hi h.size) hp).trans (h.block i hi hp)⟩
theorem Only.of {p : Nat} {a b : World} (h : Below a.heap.size a b) : Only p a b := ⟨h.os, h.tape, h.output, h.size, fun i hi _ => h.block i hi⟩
theorem Only.drew {p : Nat} {a b : World} (h : Only p a b) : Only p a b.drew := ⟨h.os, h.tape, h.output, h.size, h.block⟩
theorem Only.drewN {p : Nat} {a b : World} (h : Only p a b) (n : Nat) : Only p a (b.drewN n) := h.trans ⟨rfl, rfl, rfl, Nat.le_refl _, fun _ _ _ => rfl⟩
theorem Only.alloc {p : Nat} {a b : World} (h : Only p a b) (o : Obj) : Only p a (b.alloc o) :=
  h.trans (.of ((Below.refl _ _).alloc (Nat.le_refl _) _))
theorem Only.setCell {p : Nat} {a b : World} (h : Only p a b) {q : Addr} (hq : q.block = p) (u : Value) : Only p a (b.setCell q u) :=
  h.trans ⟨rfl, rfl, rfl, by simp [World.setCell], fun k _ hp => Below.heap_setCell _ _ _ _ (by omega)⟩
theorem Only.below {p B : Nat} {a b : World} (h : Only p a b) (hB : B ≤ p) (hs : B ≤ a.heap.size) : Below B a b :=
  ⟨h.os, h.tape, h.output, h.size, fun k hk => h.block k (by omega) (by omega)⟩
theorem Only.cell {p : Nat} {a b : World} (h : Only p a b) {q : Addr} (hq : q.block < a.heap.size) (hp : q.block ≠ p) : b.cell? q = a.cell? q := World.cell?_of_block (w := a) (h.block q.block hq hp)
theorem Only.frozen {p : Nat} {a b : World} (h : Only p a b) {q : Addr} (hq : q.block < a.heap.size) (hp : q.block ≠ p) : b.frozen? q = a.frozen? q := World.frozen?_of_block (w := a) (h.block q.block hq hp)

/- the bytes of a slice, readable, in blocks below p -/
def Bts (a0 : Option Addr) (len p : Nat) (W : World) : Prop :=
  len = 0 ∨ ∃ b off, a0 = some ⟨b, off, none⟩ ∧ b < p ∧ ∀ i, i < len → ∃ z : Int, 0 ≤ z ∧ z ≤ 255 ∧ W.cell? ⟨b, off + i, none⟩ = some (.int .u8 z)

/- block p holds a source over these bytes -/
structure Src (p : Nat) (a0 : Option Addr) (len cap : Nat) (W : World) : Prop where
  lt : p < W.heap.size
  len_le : len ≤ 140737488355328
  cells : ∃ (k : Nat) (s : Int), k ≤ len ∧ 0 ≤ s ∧ s < 2147483647 ∧ W.cell? ⟨p, 0, none⟩ = some (.slice a0 len cap) ∧ W.cell? ⟨p, 1, none⟩ = some (.int .i64 k) ∧ W.cell? ⟨p, 2, none⟩ = some (.int .i64 s)
  free1 : W.frozen? ⟨p, 1, none⟩ = false
  free2 : W.frozen? ⟨p, 2, none⟩ = false
  bytes : Bts a0 len p W

theorem Bts.call {a0 : Option Addr} {len p B : Nat} {W w1 : World} (h : Bts a0 len p W) (hb : Below B W w1) (hp : p ≤ B) : Bts a0 len p w1 := by
  rcases h with h | ⟨b, off, e, hlt, hc⟩
  · exact .inl h
  · refine .inr ⟨b, off, e, hlt, fun i hi => ?_⟩
    obtain ⟨z, z0, z1, hz⟩ := hc i hi
    exact ⟨z, z0, z1, by rw [hb.cell (by show b < _; omega)]; exact hz⟩

theorem Src.call {p : Nat} {a0 : Option Addr} {len cap : Nat} {W w1 : World} (h : Src p a0 len cap W) (hb : Below W.heap.size W w1) : Src p a0 len cap w1 := by
  have hl := h.lt
  obtain ⟨k, s, h1, h2, h3, h4, h5, h6⟩ := h.cells
  exact ⟨Nat.lt_of_lt_of_le h.lt hb.size, h.len_le, ⟨k, s, h1, h2, h3, by rw [hb.cell hl]; exact h4, by rw [hb.cell hl]; exact h5, by rw [hb.cell hl]; exact h6⟩, by rw [hb.frozen hl]; exact h.free1, by rw [hb.frozen hl]; exact h.free2, h.bytes.call hb (by omega)⟩
theorem Src.alloc {p : Nat} {a0 : Option Addr} {len cap : Nat} {W : World} (h : Src p a0 len cap W) (o : Obj) : Src p a0 len cap (W.alloc o) := h.call ((Below.refl _ _).alloc (Nat.le_refl _) _)
theorem Src.drew {p : Nat} {a0 : Option Addr} {len cap : Nat} {W : World} (h : Src p a0 len cap W) : Src p a0 len cap W.drew := h.call (Below.refl _ _).drew
theorem Src.drewN {p : Nat} {a0 : Option Addr} {len cap : Nat} {W : World} (h : Src p a0 len cap W) (n : Nat) : Src p a0 len cap (W.drewN n) := h.call (below_drewN (Below.refl _ _) n)
theorem Src.put {p : Nat} {a0 : Option Addr} {len cap : Nat} {W : World} {q : Addr} {u : Value} (hq : p < q.block) (h : Src p a0 len cap W) : Src p a0 len cap (W.setCell q u) := by
  have hb : Below (p + 1) W (W.setCell q u) := (Below.refl _ _).setCell (by omega) u
  have hl : p < p + 1 := Nat.lt_succ_self _
  obtain ⟨k, s, h1, h2, h3, h4, h5, h6⟩ := h.cells
  exact ⟨Nat.lt_of_lt_of_le h.lt hb.size, h.len_le, ⟨k, s, h1, h2, h3, by rw [hb.cell hl]; exact h4, by rw [hb.cell hl]; exact h5, by rw [hb.cell hl]; exact h6⟩, by rw [hb.frozen hl]; exact h.free1, by rw [hb.frozen hl]; exact h.free2, h.bytes.call hb (by omega)⟩

theorem Src.seed {p : Nat} {a0 : Option Addr} {len cap : Nat} {W : World} (h : Src p a0 len cap W) (s : Int) (h0 : 0 ≤ s) (h1 : s < 2147483647) : Src p a0 len cap (W.setCell ⟨p, 2, none⟩ (.int .i64 s)) := by
  have hb : Below p W (W.setCell ⟨p, 2, none⟩ (.int .i64 s)) := Below.setCell (p := ⟨p, 2, none⟩) (Below.refl _ _) (Nat.le_refl p) _
  obtain ⟨k, t, g1, g2, g3, g4, g5, g6⟩ := h.cells
  exact ⟨Nat.lt_of_lt_of_le h.lt hb.size, h.len_le, ⟨k, s, g1, h0, h1, by simp [g4, go_sem], by simp [g5, go_sem], World.cell?_setCell_same _ _ _ g6⟩, by rw [World.frozen?_setCell]; exact h.free1, by rw [World.frozen?_setCell]; exact h.free2, h.bytes.call hb (Nat.le_refl _)⟩
theorem Src.step {p : Nat} {a0 : Option Addr} {len cap : Nat} {W : World} (h : Src p a0 len cap W) (k : Nat) (h0 : k ≤ len) : Src p a0 len cap (W.setCell ⟨p, 1, none⟩ (.int .i64 k)) := by
  have hb : Below p W (W.setCell ⟨p, 1, none⟩ (.int .i64 k)) := Below.setCell (p := ⟨p, 1, none⟩) (Below.refl _ _) (Nat.le_refl p) _
  obtain ⟨j, t, g1, g2, g3, g4, g5, g6⟩ := h.cells
  exact ⟨Nat.lt_of_lt_of_le h.lt hb.size, h.len_le, ⟨k, t, h0, g2, g3, by simp [g4, go_sem], World.cell?_setCell_same _ _ _ g5, by simp [g6, go_sem]⟩, by rw [World.frozen?_setCell]; exact h.free1, by rw [World.frozen?_setCell]; exact h.free2, h.bytes.call hb (Nat.le_refl _)⟩

theorem Src.next {p : Nat} {a0 : Option Addr} {len cap : Nat} {W : World} (h : Src p a0 len cap W) (k : Nat) (h0 : k < len) : Src p a0 len cap (W.setCell ⟨p, 1, none⟩ (.int .i64 ((k : Int) + 1))) := by
  have := h.step (k + 1) h0
  rwa [show (((k + 1 : Nat)) : Int) = (k : Int) + 1 from by omega] at this

def NextPost (n : Int) (p : Nat) (a0 : Option Addr) (len cap : Nat) (w : World) (e : Ending) (w' : World) : Prop :=
  ∃ x : Int, e = .returned (.int .i64 x) ∧ 0 ≤ x ∧ (1 < n → x < n) ∧ Src p a0 len cap w' ∧ Only p w w'

set_option maxHeartbeats 1000000 in
theorem next_small (n : Int) (p : Nat) (a0 : Option Addr) (len cap : Nat) (w : World) (h : Src p a0 len cap w) (hn : n ≤ 1) :
    Calls Tryz.prog 122 #[.pointer (some ⟨p, 0, none⟩), .int .i64 n] w (NextPost n p a0 len cap w) := by
  go_enter Tryz.func122, Tryz.ntmps122
  go_wp2
  go_ret
  exact ⟨0, rfl, by omega, fun h => by omega, h, Only.refl _ _⟩

set_option maxHeartbeats 1000000 in
theorem next_end (n : Int) (p : Nat) (a0 : Option Addr) (len cap : Nat) (w : World) (h : Src p a0 len cap w) (hn : 1 < n)
    (k : Nat) (s : Int) (h1 : k = len) (h2 : 0 ≤ s) (h3 : s < 2147483647) (h4 : w.cell? ⟨p, 0, none⟩ = some (.slice a0 len cap)) (h5 : w.cell? ⟨p, 1, none⟩ = some (.int .i64 k)) (h6 : w.cell? ⟨p, 2, none⟩ = some (.int .i64 s)) :
    Calls Tryz.prog 122 #[.pointer (some ⟨p, 0, none⟩), .int .i64 n] w (NextPost n p a0 len cap w) := by
  have f1 := h.free1
  have f2 := h.free2
  have hl := h.len_le
  subst h1
  go_enter Tryz.func122, Tryz.ntmps122
  go_wp2
  go_quiet (fail)
  go_wp2
  go_ret
  have hm := Int.emod_nonneg (s * 48271 + 67) (b := 2147483647) (by omega)
  have hm' := Int.emod_lt_of_pos (s * 48271 + 67) (b := 2147483647) (by omega)
  exact ⟨_, rfl, Int.emod_nonneg _ (by omega), fun _ => Int.emod_lt_of_pos _ (by omega), (h.seed _ hm hm').drewN _, ((Only.refl p w).setCell (q := ⟨p, 2, none⟩) rfl _).drewN _⟩

set_option maxHeartbeats 1000000 in
theorem next_more (n : Int) (p b off len cap : Nat) (w : World) (h : Src p (some ⟨b, off, none⟩) len cap w) (hn : 1 < n) (hbp : b < p)
    (k : Nat) (s z : Int) (h1 : k < len) (h2 : 0 ≤ s) (h3 : s < 2147483647) (h4 : w.cell? ⟨p, 0, none⟩ = some (.slice (some ⟨b, off, none⟩) len cap)) (h5 : w.cell? ⟨p, 1, none⟩ = some (.int .i64 k)) (h6 : w.cell? ⟨p, 2, none⟩ = some (.int .i64 s))
    (z0 : 0 ≤ z) (z1 : z ≤ 255) (hz : w.cell? ⟨b, off + k, none⟩ = some (.int .u8 z)) :
    Calls Tryz.prog 122 #[.pointer (some ⟨p, 0, none⟩), .int .i64 n] w (NextPost n p (some ⟨b, off, none⟩) len cap w) := by
  have f1 := h.free1
  have f2 := h.free2
  have hl := h.len_le
  have hbp1 : ¬ b = p := by omega
  have hbp2 : ¬ p = b := by omega
  have hk0 : (0 : Int) ≤ (k : Int) := by omega
  have hk1 : (k : Int) < (len : Int) := by omega
  have hm := Int.emod_nonneg (s * 48271 + 67) (b := 2147483647) (by omega)
  have hm' := Int.emod_lt_of_pos (s * 48271 + 67) (b := 2147483647) (by omega)
  have hq0 : 0 ≤ (s * 48271 + 67) % 2147483647 / 37 := by omega
  have hq1 : (s * 48271 + 67) % 2147483647 / 37 ≤ 2147483647 := by omega
  by_cases hc : n ≤ 256
  · rcases hp : (((k : Int) + 1) % 2 == 0) with _ | _
    · go_enter Tryz.func122, Tryz.ntmps122
      go_wp2
      go_quiet (fail)
      go_wp2
      go_quiet (fail)
      go_wp2
      go_ret
      exact ⟨_, rfl, Int.emod_nonneg _ (by omega), fun _ => Int.emod_lt_of_pos _ (by omega), ((h.seed _ hm hm').drewN _).next k h1, (((Only.refl p w).setCell (q := ⟨p, 2, none⟩) rfl _).drewN _).setCell (q := ⟨p, 1, none⟩) rfl _⟩
    · go_enter Tryz.func122, Tryz.ntmps122
      go_wp2
      go_quiet (fail)
      go_wp2
      go_quiet (fail)
      go_wp2
      go_quiet (fail)
      go_wp2
      go_ret
      exact ⟨_, rfl, Int.emod_nonneg _ (by omega), fun _ => Int.emod_lt_of_pos _ (by omega), (((h.seed _ hm hm').drewN _).next k h1).drewN _, ((((Only.refl p w).setCell (q := ⟨p, 2, none⟩) rfl _).drewN _).setCell (q := ⟨p, 1, none⟩) rfl _).drewN _⟩
  · go_enter Tryz.func122, Tryz.ntmps122
    go_wp2
    go_quiet (fail)
    go_wp2
    go_quiet (fail)
    go_wp2
    go_ret
    exact ⟨_, rfl, Int.emod_nonneg _ (by omega), fun _ => Int.emod_lt_of_pos _ (by omega), ((h.seed _ hm hm').drewN _).next k h1, (((Only.refl p w).setCell (q := ⟨p, 2, none⟩) rfl _).drewN _).setCell (q := ⟨p, 1, none⟩) rfl _⟩

theorem next_any (n : Int) (p : Nat) (a0 : Option Addr) (len cap : Nat) (w : World) (h : Src p a0 len cap w) :
    Calls Tryz.prog 122 #[.pointer (some ⟨p, 0, none⟩), .int .i64 n] w (NextPost n p a0 len cap w) := by
  by_cases hn : n ≤ 1
  · exact next_small n p a0 len cap w h hn
  · obtain ⟨k, s, h1, h2, h3, h4, h5, h6⟩ := h.cells
    by_cases hk : k = len
    · exact next_end n p a0 len cap w h (by omega) k s hk h2 h3 h4 h5 h6
    · rcases h.bytes with h0 | ⟨b, off, rfl, hbp, hc⟩
      · omega
      · obtain ⟨z, z0, z1, hz⟩ := hc k (by omega)
        exact next_more n p b off len cap w h (by omega) hbp k s z (by omega) h2 h3 h4 h5 h6 z0 z1 hz

/- one of some numbers: an index in range is read -/
def PickPost (p : Nat) (a0 : Option Addr) (len cap : Nat) (w : World) (e : Ending) (w' : World) : Prop :=
  ∃ x : Int, e = .returned (.int .i64 x) ∧ Src p a0 len cap w' ∧ Only p w w'

set_option maxHeartbeats 1000000 in
theorem pick_any (p g m : Nat) (a0 : Option Addr) (len cap : Nat) (w : World) (h : Src p a0 len cap w) (hm : 1 < m) (hm' : m ≤ 100) (hg : g < w.heap.size) (hgp : g ≠ p)
    (hc : ∀ i, i < m → ∃ v : Int, w.cell? ⟨g, i, none⟩ = some (.int .i64 v)) :
    Calls Tryz.prog 121 #[.pointer (some ⟨p, 0, none⟩), .slice (some ⟨g, 0, none⟩) m m] w (PickPost p a0 len cap w) := by
  go_enter Tryz.func121, Tryz.ntmps121
  go_wp2_with fail
  refine (next_any _ p a0 len cap _ h).mono ?_
  rintro e w1 ⟨x, rfl, x0, x1, S1, O1⟩
  have x2 : x < (m : Int) := x1 (by omega)
  obtain ⟨i, rfl⟩ := Int.eq_ofNat_of_zero_le x0
  obtain ⟨v, hv⟩ := hc i (by omega)
  have hv1 : w1.cell? ⟨g, i, none⟩ = some (.int .i64 v) := by rw [O1.cell hg hgp]; exact hv
  clear x1
  go_wp2
  go_ret
  exact ⟨v, rfl, S1, O1⟩

end Go.Proofs.YtkfeajjpbmbmpaaGreatDoor
