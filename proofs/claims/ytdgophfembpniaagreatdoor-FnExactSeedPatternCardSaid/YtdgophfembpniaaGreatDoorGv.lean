/-
 Several of my texts in one: Sl1, ArK, Bx, PtK.
-/
import Derived.Test.YtdgophfembpniaaGreatDoorGa
import Derived.Deep.RegionHeld3
import Derived.IntWalk
import Derived.BigQuiet
import Derived.Deep.QuietTactic
import Derived.Lib.SmallJoins
import Derived.Deep.Slices
import Derived.Laws.Rows
import Derived.Laws.Tables
import Derived.Test.YtdgophfembpniaaGreatDoorGf
namespace Go.Proofs.YtdgophfembpniaaGreatDoor
section
open Go.RowKit
set_option linter.unusedSimpArgs false
set_option linter.unusedVariables false

def mark1 (t : Nat) : Int := (t : Int) + 1
set_option maxHeartbeats 4000000 in
theorem eqInt64S_any {lo hi lo' hi' n : Nat} {v v' : Value} {F : Nat → Int} {w : World} (h1 : SRow lo hi 1 v n F w) (h2 : SRow lo' hi' 1 v' n F w) :
  Calls Tryz.prog 20 #[v, v'] w fun e w' => e = .returned (.bool true) ∧ Below w.heap.size w w' := by
 obtain ⟨_, hm, h1⟩ := h1
 obtain ⟨_, _, h2⟩ := h2
 by_cases hn : n = 0
 ·subst hn
  obtain ⟨ao, cap, rfl⟩ : ∃ ao cap, v = .slice ao 0 cap := by
   rcases h1 with ⟨_, ao, cap, rfl⟩ | ⟨g, cap, rfl, _⟩
   ·exact ⟨ao, cap, rfl⟩
   ·exact ⟨_, cap, rfl⟩
  obtain ⟨ao', cap', rfl⟩ : ∃ ao cap, v' = .slice ao 0 cap := by
   rcases h2 with ⟨_, ao, cap, rfl⟩ | ⟨g, cap, rfl, _⟩
   ·exact ⟨ao, cap, rfl⟩
   ·exact ⟨_, cap, rfl⟩
  clear h1 h2
  go_enter Tryz.func20, Tryz.ntmps20
  go_wp2_with fail
  go_loopw [5] (fun i W => i = .int .i64 ((0 : Nat) : Int) ∧ W = w) (fun _ _ => 0)
  case atStart => exact ⟨rfl, rfl⟩
  case round =>
   obtain ⟨rfl, rfl⟩ := hrel
   go_wp2
   go_ret
   exact ⟨rfl, Below.refl _ _⟩
 ·obtain ⟨g, cap, rfl, _, _, r1⟩ := h1.resolve_left (fun h => hn h.1)
  obtain ⟨g', cap', rfl, _, _, r2⟩ := h2.resolve_left (fun h => hn h.1)
  clear h1 h2
  have HM := Lib.hid hm
  clear hm hn
  have R1 := Lib.hid r1
  have R2 := Lib.hid r2
  clear r1 r2
  go_enter Tryz.func20, Tryz.ntmps20
  go_wp2_with fail
  go_loopw [5] (fun i W => ∃ k : Nat, i = .int .i64 (k : Int) ∧ k ≤ n ∧ Below w.heap.size w W) (fun i _ => n - (intOf i).toNat)
  case atStart => exact ⟨0, rfl, by omega, Below.refl _ _⟩
  case round =>
   obtain ⟨k, rfl, hk, hB⟩ := hrel
   by_cases hk1 : k < n
   ·have hk2 : (k : Int) < (n : Int) := by omega
    have r1 := R1.out.grow hB R1.out.1
    have r2 := R2.out.grow hB R2.out.1
    have s1 := r1.at k (by omega)
    have s2 := r2.at k (by omega)
    have hmx := HM.out
    generalize F k = x at *
    clear r1 r2
    have hne : (x != x) = false := by simp
    go_wp2_with fail
    go_quiet (fail)
    go_wp2
    go_roundw
    case rel => exact ⟨k + 1, by go_num, by omega, below_drewN hB _⟩
    case measure => first | (simp [intOf]; done) | (simp [intOf]; omega)
   ·obtain rfl : k = n := by omega
    go_wp2
    go_ret
    exact ⟨rfl, hB⟩

set_option maxHeartbeats 4000000 in
theorem heldInt64S_any {lo hi n : Nat} {v : Value} {w : World} (h : SRow lo hi 1 v n mark1 w) :
  Calls Tryz.prog 24 #[v, .int .i64 1] w fun e w' => e = .returned (.int .i64 ((n : Int) * 1 + 1)) ∧ Below w.heap.size w w' := by
 obtain ⟨hh, hm, h1⟩ := h
 by_cases hn : n = 0
 ·subst hn
  obtain ⟨ao, cap, rfl⟩ : ∃ ao cap, v = .slice ao 0 cap := by
   rcases h1 with ⟨_, ao, cap, rfl⟩ | ⟨g, cap, rfl, _⟩
   ·exact ⟨ao, cap, rfl⟩
   ·exact ⟨_, cap, rfl⟩
  clear h1
  go_enter Tryz.func24, Tryz.ntmps24
  go_wp2_with fail
  go_loopw [1, 5] (fun q i W => q = .int .i64 1 ∧ i = .int .i64 ((0 : Nat) : Int) ∧ W = w) (fun _ _ _ => 0)
  case atStart => exact ⟨rfl, rfl, rfl⟩
  case round =>
   obtain ⟨rfl, rfl, rfl⟩ := hrel
   go_wp2
   go_ret
   exact ⟨rfl, Below.refl _ _⟩
 ·obtain ⟨g, cap, rfl, hlo, hhi, r1⟩ := h1.resolve_left (fun h => hn h.1)
  clear h1
  have HM := Lib.hid hm
  clear hm hn hh hlo hhi
  have R1 := Lib.hid r1
  clear r1
  go_enter Tryz.func24, Tryz.ntmps24
  go_wp2_with fail
  go_loopw [1, 5] (fun q i W => ∃ k : Nat, q = .int .i64 ((k : Int) + 1) ∧ i = .int .i64 (k : Int) ∧ k ≤ n ∧ Below w.heap.size w W) (fun _ i _ => n - (intOf i).toNat)
  case atStart => exact ⟨0, rfl, rfl, by omega, Below.refl _ _⟩
  case round =>
   obtain ⟨k, rfl, rfl, hk, hB⟩ := hrel
   by_cases hk1 : k < n
   ·have hk2 : (k : Int) < (n : Int) := by omega
    have hmx := HM.out
    have hkx : (k : Int) ≤ 2000000 := by omega
    have r1 := R1.out.grow hB R1.out.1
    have c0 : wr.cell? ⟨g, k, none⟩ = some (.int .i64 ((k : Int) + 1)) := by rw [r1.at k (by omega)]; rfl
    clear r1
    go_wp2
    go_roundw
    case rel => exact ⟨k + 1, by go_num, by go_num, by omega, hB⟩
    case measure => first | (simp [intOf]; done) | (simp [intOf]; omega)
   ·obtain rfl : k = n := by omega
    go_wp2
    go_ret
    exact ⟨ret_int (by omega), hB⟩
end
end Go.Proofs.YtdgophfembpniaaGreatDoor

namespace Go.Proofs.YtdgophfembpniaaGreatDoor
section
open Go.RowKit Go.ChangeShapes Go.WideShapes Go.ChangeAt Go.Joins Go.Deep Go.WideElems
set_option linter.unusedSimpArgs false
set_option linter.unusedVariables false

theorem add_block (a : Addr) (n : Nat) : (a.add n).block = a.block := by unfold Addr.add; split <;> rfl
def ARw (v : Value) (n : Nat) (F : Nat → Int) (W : World) : Prop :=
 ∃ ao cap, v = .slice ao n cap ∧ ∀ t, t < n → ∃ a, ao = some a ∧ a.block < W.heap.size ∧ W.cell? (a.add t) = some (.int .i64 (F t))
theorem ARw.call {v : Value} {n : Nat} {F : Nat → Int} {W w1 : World} (h : ARw v n F W) (hb : Below W.heap.size W w1) : ARw v n F w1 := by
 obtain ⟨ao, cap, rfl, h⟩ := h
 refine ⟨ao, cap, rfl, fun t ht => ?_⟩
 obtain ⟨a, rfl, h1, h2⟩ := h t ht
 exact ⟨a, rfl, Nat.lt_of_lt_of_le h1 hb.size, by rw [hb.cell (p := a.add t) (by rw [add_block]; exact h1)]; exact h2⟩
theorem ARw.alloc {v : Value} {n : Nat} {F : Nat → Int} {W : World} (h : ARw v n F W) (o : Obj) : ARw v n F (W.alloc o) := h.call ((Below.refl _ _).alloc (Nat.le_refl _) _)
theorem SRow.slice {lo hi K n : Nat} {F : Nat → Int} {v : Value} {W : World} (h : SRow lo hi K v n F W) : ∃ ao cap, v = .slice ao n cap := by
 rcases h.2.2 with ⟨rfl, ao, cap, rfl⟩ | ⟨g, cap, rfl, _⟩
 ·exact ⟨ao, cap, rfl⟩
 ·exact ⟨_, cap, rfl⟩
theorem SRow.low {lo lo' hi K n : Nat} {F : Nat → Int} {v : Value} {W : World} (h : SRow lo hi K v n F W) (hl : lo' ≤ lo) : SRow lo' hi K v n F W := by
 obtain ⟨e1, e2, e3⟩ := h
 refine ⟨e1, e2, e3.imp id ?_⟩
 rintro ⟨g, cap, rfl, hg, hg2, r⟩
 exact ⟨g, cap, rfl, Nat.le_trans hl hg, hg2, r⟩
theorem SRow.high {lo hi hi' K n : Nat} {F : Nat → Int} {v : Value} {W : World} (h : SRow lo hi K v n F W) (h1 : hi ≤ hi') (h2 : hi' ≤ W.heap.size) : SRow lo hi' K v n F W := by
 obtain ⟨e1, e2, e3⟩ := h
 refine ⟨h2, e2, e3.imp id ?_⟩
 rintro ⟨g, cap, rfl, hg, hg2, r⟩
 exact ⟨g, cap, rfl, hg, Nat.lt_of_lt_of_le hg2 h1, r⟩
theorem IRow.far {g N : Nat} {F : Nat → Int} {W : World} {q : Addr} {u : Value} (hq : q.block ≠ g) (h : IRow g N F W) : IRow g N F (W.setCell q u) := by
 have hh : (W.setCell q u).heap[g]? = W.heap[g]? := Below.heap_setCell _ _ _ _ (by omega)
 exact ⟨by simpa [World.setCell] using h.1, fun t ht => ⟨(World.cell?_of_block (w := W) hh).trans (h.2 t ht).1, (World.frozen?_of_block (w := W) hh).trans (h.2 t ht).2⟩⟩
theorem SRow.put {lo hi K n : Nat} {F : Nat → Int} {v : Value} {W : World} {q : Addr} (hq : q.block < lo) (u : Value) (h : SRow lo hi K v n F W) : SRow lo hi K v n F (W.setCell q u) := by
 obtain ⟨e1, e2, e3⟩ := h
 refine ⟨by simpa [World.setCell] using e1, e2, e3.imp id ?_⟩
 rintro ⟨g, cap, rfl, hg, hg2, r⟩
 exact ⟨g, cap, rfl, hg, hg2, r.far (by omega)⟩
theorem SRow.up {lo hi K n : Nat} {F : Nat → Int} {v : Value} {W : World} (h : SRow lo hi K v n F W) : SRow lo W.heap.size K v n F W := h.high h.1 (Nat.le_refl _)
def offB (v : Value) (b : Nat) : Prop := ∀ n cap, v = .slice (some ⟨b, 0, none⟩) n cap → n = 0
def KeepV (v : Value) (W W' : World) : Prop := ∀ b, offB v b → b < W.heap.size → W'.heap[b]? = W.heap[b]?
theorem SRow.off {lo hi K n b : Nat} {v : Value} {F : Nat → Int} {W : World} (h : SRow lo hi K v n F W) (hb : b < lo ∨ hi ≤ b) : offB v b := by
 intro n' cap' e
 rcases h.2.2 with ⟨rfl, ao, cap, rfl⟩ | ⟨g, cap, rfl, h1, h2, _⟩
 ·simp only [Value.slice.injEq] at e; exact e.2.1.symm
 ·simp only [Value.slice.injEq, Option.some.injEq, Addr.mk.injEq] at e
  omega
theorem SRow.keepV {lo' hi' K n : Nat} {u v : Value} {F : Nat → Int} {W w1 : World} (h : SRow lo' hi' K v n F W) (hk : KeepV u W w1) (ho : ∀ b, lo' ≤ b → b < hi' → offB u b) (hs : W.heap.size ≤ w1.heap.size) : SRow lo' hi' K v n F w1 := by
 obtain ⟨h1, h2, h3⟩ := h
 refine ⟨Nat.le_trans h1 hs, h2, ?_⟩
 rcases h3 with h3 | ⟨g, cap, rfl, hg, hg2, r⟩
 ·exact .inl h3
 ·have hh := hk g (ho g hg hg2) (by omega)
  refine .inr ⟨g, cap, rfl, hg, hg2, Nat.lt_of_lt_of_le r.1 hs, fun t ht => ⟨(World.cell?_of_block (w := W) hh).trans (r.at t ht), (World.frozen?_of_block (w := W) hh).trans (r.free t ht)⟩⟩
set_option maxHeartbeats 4000000 in
theorem markInt_any {lo hi n : Nat} {v : Value} {F : Nat → Int} {w : World} (h : SRow lo hi 1 v n F w) :
  Calls Tryz.prog 23 #[v, .int .i64 1] w fun e w' => e = .returned (.int .i64 ((n : Int) * 1 + 1)) ∧ SRow lo hi 1 v n mark1 w' ∧ Below lo w w' ∧ KeepV v w w' := by
 obtain ⟨hh, hm, h1⟩ := h
 by_cases hn : n = 0
 ·subst hn
  obtain ⟨ao, cap, rfl⟩ : ∃ ao cap, v = .slice ao 0 cap := by
   rcases h1 with ⟨_, ao, cap, rfl⟩ | ⟨g, cap, rfl, _⟩
   ·exact ⟨ao, cap, rfl⟩
   ·exact ⟨_, cap, rfl⟩
  clear h1
  go_enter Tryz.func23, Tryz.ntmps23
  go_wp2_with fail
  go_loopw [1, 5] (fun q i W => q = .int .i64 1 ∧ i = .int .i64 ((0 : Nat) : Int) ∧ W = w) (fun _ _ _ => 0)
  case atStart => exact ⟨rfl, rfl, rfl⟩
  case round =>
   obtain ⟨rfl, rfl, rfl⟩ := hrel
   go_wp2
   go_ret
   exact ⟨rfl, ⟨hh, hm, .inl ⟨rfl, ao, cap, rfl⟩⟩, Below.refl _ _, fun _ _ _ => rfl⟩
 ·obtain ⟨g, cap, rfl, hlo, hhi, r1⟩ := h1.resolve_left (fun h => hn h.1)
  clear h1
  have HM := Lib.hid hm
  clear hm hn
  have R1 := Lib.hid r1
  clear r1
  have HH := Lib.hid (show hi ≤ w.heap.size ∧ lo ≤ g ∧ g < hi from ⟨hh, hlo, hhi⟩)
  clear hh hlo hhi
  go_enter Tryz.func23, Tryz.ntmps23
  go_wp2_with fail
  go_loopw [1, 5] (fun q i W => ∃ k : Nat, q = .int .i64 ((k : Int) + 1) ∧ i = .int .i64 (k : Int) ∧ k ≤ n ∧ IRow g (n * 1) (fun t => if t < k then mark1 t else F t) W ∧ Below lo w W ∧ KeepV (.slice (some ⟨g, 0, none⟩) n cap) w W) (fun _ i _ => n - (intOf i).toNat)
  case atStart => exact ⟨0, rfl, rfl, by omega, R1.out.ext (fun t _ => by simp), Below.refl _ _, fun _ _ _ => rfl⟩
  case round =>
   obtain ⟨k, rfl, rfl, hk, r1, hB, hKH⟩ := hrel
   by_cases hk1 : k < n
   ·have hk2 : (k : Int) < (n : Int) := by omega
    have hmx := HM.out
    have hkx : (k : Int) ≤ 2000000 := by omega
    have c0 := r1.at k (by omega)
    have f0 := r1.free k (by omega)
    generalize (fun t => if t < k then mark1 t else F t) k = x at c0
    have RR := Lib.hid r1
    clear r1
    go_wp2
    go_roundw
    case rel =>
     refine ⟨k + 1, by go_num, by go_num, by omega, (RR.out.put k (by omega) _).ext ?_, hB.setCell HH.out.2.1 _, fun b ho hb => (Below.heap_setCell _ _ _ _ (by intro e9; dsimp only at e9; subst e9; have := ho n cap rfl; omega)).trans (hKH b ho hb)⟩
     intro t ht
     simp only [mark1]
     repeat' split
     all_goals first | omega | rfl
    case measure => first | (simp [intOf]; done) | (simp [intOf]; omega)
   ·obtain rfl : k = n := by omega
    go_wp2
    go_ret
    exact ⟨ret_int (by omega), ⟨Nat.le_trans HH.out.1 hB.size, HM.out, .inr ⟨g, cap, rfl, HH.out.2.1, HH.out.2.2, r1.ext (fun t ht => by simp [show t < k by omega])⟩⟩, hB, hKH⟩
def colB (n : Nat) (F : Nat → Int) : Bool := (List.range n).all fun t => inB (F t) 0 9
theorem colB_yes {n : Nat} {F : Nat → Int} (h : ∀ t, t < n → inB (F t) 0 9 = true) : colB n F = true := List.all_eq_true.2 fun t ht => h t (List.mem_range.1 ht)
theorem SRow.irow {lo hi K n : Nat} {v : Value} {F : Nat → Int} {W : World} (h : SRow lo hi K v n F W) (hn : 1 ≤ n) : ∃ g cap, v = .slice (some ⟨g, 0, none⟩) n cap ∧ g < hi ∧ lo ≤ g ∧ IRow g (n * K) F W := by
 obtain ⟨g, cap, e, h1, h2, r⟩ := h.2.2.resolve_left (fun h => by omega)
 exact ⟨g, cap, e, h2, h1, r⟩
end
end Go.Proofs.YtdgophfembpniaaGreatDoor

namespace Go.Proofs.YtdgophfembpniaaGreatDoor
section
open Go.RowKit
set_option linter.unusedSimpArgs false
set_option linter.unusedVariables false

/- a block that is read -/
structure Bx (g : Nat) (us : List Value) (W : World) : Prop where
 lt : g < W.heap.size
 cel : ∀ (i : Nat) (u : Value), us[i]? = some u → W.cell? ⟨g, i, none⟩ = some u
theorem Bx.grow {g B : Nat} {us : List Value} {W w1 : World} (h : Bx g us W) (hb : Below B W w1) (hg : g < B) : Bx g us w1 :=
 ⟨Nat.lt_of_lt_of_le h.lt hb.size, fun i u e => by rw [hb.cell (p := ⟨g, i, none⟩) hg]; exact h.cel i u e⟩
theorem Bx.call {g : Nat} {us : List Value} {W w1 : World} (h : Bx g us W) (hb : Below W.heap.size W w1) : Bx g us w1 := h.grow hb h.lt
theorem Bx.alloc {g : Nat} {us : List Value} {W : World} (h : Bx g us W) (o : Obj) : Bx g us (W.alloc o) := h.call ((Below.refl _ _).alloc (Nat.le_refl _) _)
theorem Bx.drew {g : Nat} {us : List Value} {W : World} (h : Bx g us W) : Bx g us W.drew := h.call (Below.refl _ _).drew
theorem Bx.far {g : Nat} {us : List Value} {W : World} {q : Addr} {v : Value} (hq : q.block ≠ g) (h : Bx g us W) : Bx g us (W.setCell q v) := by
 have hh : (W.setCell q v).heap[g]? = W.heap[g]? := Below.heap_setCell _ _ _ _ (by omega)
 exact ⟨by simpa [World.setCell] using h.lt, fun i u e => (World.cell?_of_block (w := W) hh).trans (h.cel i u e)⟩
theorem Bx.at {w : World} {us : List Value} {T : TypeId} (R : Nat) (hR : R = w.heap.size) : Bx R us (w.alloc (.cells us.toArray T)) := by
 subst hR
 refine ⟨by simp, fun i u e => ?_⟩
 simp [go_sem, e]
theorem Bx.c0 {g : Nat} {u : Value} {us : List Value} {W : World} (h : Bx g (u :: us) W) : W.cell? ⟨g, 0, none⟩ = some u := h.cel 0 u rfl
theorem Bx.c1 {g : Nat} {u0 u : Value} {us : List Value} {W : World} (h : Bx g (u0 :: u :: us) W) : W.cell? ⟨g, 1, none⟩ = some u := h.cel 1 u rfl
theorem Bx.c2 {g : Nat} {u0 u1 u : Value} {us : List Value} {W : World} (h : Bx g (u0 :: u1 :: u :: us) W) : W.cell? ⟨g, 2, none⟩ = some u := h.cel 2 u rfl
theorem Bx.c3 {g : Nat} {u0 u1 u2 u : Value} {us : List Value} {W : World} (h : Bx g (u0 :: u1 :: u2 :: u :: us) W) : W.cell? ⟨g, 3, none⟩ = some u := h.cel 3 u rfl
theorem Bx.c4 {g : Nat} {u0 u1 u2 u3 u : Value} {us : List Value} {W : World} (h : Bx g (u0 :: u1 :: u2 :: u3 :: u :: us) W) : W.cell? ⟨g, 4, none⟩ = some u := h.cel 4 u rfl
theorem Bx.c5 {g : Nat} {u0 u1 u2 u3 u4 u : Value} {us : List Value} {W : World} (h : Bx g (u0 :: u1 :: u2 :: u3 :: u4 :: u :: us) W) : W.cell? ⟨g, 5, none⟩ = some u := h.cel 5 u rfl
theorem Bx.cells2 {g : Nat} {u0 u1 : Value} {W : World} (h : Bx g [u0, u1] W) : W.cell? ⟨g, 0, none⟩ = some u0 ∧ W.cell? ⟨g, 1, none⟩ = some u1 := ⟨h.c0, h.c1⟩
theorem Bx.cells3 {g : Nat} {u0 u1 u2 : Value} {W : World} (h : Bx g [u0, u1, u2] W) : W.cell? ⟨g, 0, none⟩ = some u0 ∧ W.cell? ⟨g, 1, none⟩ = some u1 ∧ W.cell? ⟨g, 2, none⟩ = some u2 := ⟨h.c0, h.c1, h.c2⟩
theorem Bx.cells5 {g : Nat} {u0 u1 u2 u3 u4 : Value} {W : World} (h : Bx g [u0, u1, u2, u3, u4] W) : W.cell? ⟨g, 0, none⟩ = some u0 ∧ W.cell? ⟨g, 1, none⟩ = some u1 ∧ W.cell? ⟨g, 2, none⟩ = some u2 ∧ W.cell? ⟨g, 3, none⟩ = some u3 ∧ W.cell? ⟨g, 4, none⟩ = some u4 := ⟨h.c0, h.c1, h.c2, h.c3, h.c4⟩
/- a block that may be written -/
structure BX (g : Nat) (us : List Value) (W : World) : Prop where
 bx : Bx g us W
 fr : ∀ i, i < us.length → W.frozen? ⟨g, i, none⟩ = false
theorem BX.lt {g : Nat} {us : List Value} {W : World} (h : BX g us W) : g < W.heap.size := h.bx.lt
theorem BX.grow {g B : Nat} {us : List Value} {W w1 : World} (h : BX g us W) (hb : Below B W w1) (hg : g < B) : BX g us w1 :=
 ⟨h.bx.grow hb hg, fun i e => by rw [hb.frozen (p := ⟨g, i, none⟩) hg]; exact h.fr i e⟩
theorem BX.call {g : Nat} {us : List Value} {W w1 : World} (h : BX g us W) (hb : Below W.heap.size W w1) : BX g us w1 := h.grow hb h.lt
theorem BX.alloc {g : Nat} {us : List Value} {W : World} (h : BX g us W) (o : Obj) : BX g us (W.alloc o) := h.call ((Below.refl _ _).alloc (Nat.le_refl _) _)
theorem BX.drew {g : Nat} {us : List Value} {W : World} (h : BX g us W) : BX g us W.drew := h.call (Below.refl _ _).drew
theorem BX.far {g : Nat} {us : List Value} {W : World} {q : Addr} {v : Value} (hq : q.block ≠ g) (h : BX g us W) : BX g us (W.setCell q v) := by
 have hh : (W.setCell q v).heap[g]? = W.heap[g]? := Below.heap_setCell _ _ _ _ (by omega)
 exact ⟨h.bx.far hq, fun i e => (World.frozen?_of_block (w := W) hh).trans (h.fr i e)⟩
theorem BX.at {w : World} {us : List Value} {T : TypeId} (R : Nat) (hR : R = w.heap.size) : BX R us (w.alloc (.cells us.toArray T)) := by
 subst hR
 refine ⟨Bx.at _ rfl, fun i e => ?_⟩
 simp [go_sem]
theorem BX.store {g : Nat} {us : List Value} {W : World} (h : BX g us W) (i : Nat) (hi : i < us.length) (u : Value) : BX g (us.set i u) (W.setCell ⟨g, i, none⟩ u) := by
 refine ⟨⟨by simpa [World.setCell] using h.lt, fun j v e => ?_⟩, fun j hj => by rw [World.frozen?_setCell]; exact h.fr j (by simpa using hj)⟩
 by_cases ej : j = i
 ·subst ej
  have e2 : v = u := by simpa [List.getElem?_set, hi] using e.symm
  subst e2
  exact World.cell?_setCell_same _ _ _ (h.bx.cel j us[j] (List.getElem?_eq_getElem hi))
 ·have hx : (⟨g, i, none⟩ : Addr) ≠ ⟨g, j, none⟩ := fun h' => ej (congrArg Addr.off h').symm
  rw [World.cell?_setCell_other (w := W) (a := ⟨g, i, none⟩) (b := ⟨g, j, none⟩) (h := hx)]
  refine h.bx.cel j v ?_
  rw [List.getElem?_set] at e
  simpa [show ¬ i = j from fun h => ej h.symm] using e
theorem BX.c0 {g : Nat} {u : Value} {us : List Value} {W : World} (h : BX g (u :: us) W) : W.cell? ⟨g, 0, none⟩ = some u := h.bx.c0
theorem BX.c1 {g : Nat} {u0 u : Value} {us : List Value} {W : World} (h : BX g (u0 :: u :: us) W) : W.cell? ⟨g, 1, none⟩ = some u := h.bx.c1
theorem BX.c2 {g : Nat} {u0 u1 u : Value} {us : List Value} {W : World} (h : BX g (u0 :: u1 :: u :: us) W) : W.cell? ⟨g, 2, none⟩ = some u := h.bx.c2
theorem BX.c3 {g : Nat} {u0 u1 u2 u : Value} {us : List Value} {W : World} (h : BX g (u0 :: u1 :: u2 :: u :: us) W) : W.cell? ⟨g, 3, none⟩ = some u := h.bx.c3
theorem BX.c4 {g : Nat} {u0 u1 u2 u3 u : Value} {us : List Value} {W : World} (h : BX g (u0 :: u1 :: u2 :: u3 :: u :: us) W) : W.cell? ⟨g, 4, none⟩ = some u := h.bx.c4
theorem BX.f0 {g : Nat} {u : Value} {us : List Value} {W : World} (h : BX g (u :: us) W) : W.frozen? ⟨g, 0, none⟩ = false := h.fr 0 (by simp)
theorem BX.f1 {g : Nat} {u0 u : Value} {us : List Value} {W : World} (h : BX g (u0 :: u :: us) W) : W.frozen? ⟨g, 1, none⟩ = false := h.fr 1 (by simp)
theorem BX.f2 {g : Nat} {u0 u1 u : Value} {us : List Value} {W : World} (h : BX g (u0 :: u1 :: u :: us) W) : W.frozen? ⟨g, 2, none⟩ = false := h.fr 2 (by simp)
theorem BX.f3 {g : Nat} {u0 u1 u2 u : Value} {us : List Value} {W : World} (h : BX g (u0 :: u1 :: u2 :: u :: us) W) : W.frozen? ⟨g, 3, none⟩ = false := h.fr 3 (by simp)
theorem BX.f4 {g : Nat} {u0 u1 u2 u3 u : Value} {us : List Value} {W : World} (h : BX g (u0 :: u1 :: u2 :: u3 :: u :: us) W) : W.frozen? ⟨g, 4, none⟩ = false := h.fr 4 (by simp)
theorem BX.cells3 {g : Nat} {u0 u1 u2 : Value} {W : World} (h : BX g [u0, u1, u2] W) : W.cell? ⟨g, 0, none⟩ = some u0 ∧ W.cell? ⟨g, 1, none⟩ = some u1 ∧ W.cell? ⟨g, 2, none⟩ = some u2 := h.bx.cells3
theorem BX.cells5 {g : Nat} {u0 u1 u2 u3 u4 : Value} {W : World} (h : BX g [u0, u1, u2, u3, u4] W) : W.cell? ⟨g, 0, none⟩ = some u0 ∧ W.cell? ⟨g, 1, none⟩ = some u1 ∧ W.cell? ⟨g, 2, none⟩ = some u2 ∧ W.cell? ⟨g, 3, none⟩ = some u3 ∧ W.cell? ⟨g, 4, none⟩ = some u4 := h.bx.cells5
end
end Go.Proofs.YtdgophfembpniaaGreatDoor

namespace Go.Proofs.YtdgophfembpniaaGreatDoor
section
open Go.RowKit Go.ChangeShapes Go.WideShapes Go.ChangeAt Go.Joins Go.Deep Go.WideElems
set_option linter.unusedSimpArgs false
set_option linter.unusedVariables false

set_option maxHeartbeats 4000000 in
theorem eqPat_any {lo hi lo' hi' n : Nat} {v v' : Value} {F : Nat → Int} {w : World} (f A B C : Int) (h1 : SRow lo hi 1 v n F w) (h2 : SRow lo' hi' 1 v' n F w) :
  Calls Tryz.prog 16 #[.agg #[.int .i64 f, .int .i64 A, .int .i64 B, .int .i64 C, v], .agg #[.int .i64 f, .int .i64 A, .int .i64 B, .int .i64 C, v']] w fun e w' => e = .returned (.bool true) ∧ Below w.heap.size w w' := by
 have R1 := Lib.hid h1
 have R2 := Lib.hid h2
 obtain ⟨ao, cap, rfl⟩ := h1.slice
 obtain ⟨ao', cap', rfl⟩ := h2.slice
 clear h1 h2
 have P0 : Bx w.heap.size [.int .i64 f, .int .i64 A, .int .i64 B, .int .i64 C, (.slice ao n cap)] ((w.alloc (.cells #[.int .i64 f, .int .i64 A, .int .i64 B, .int .i64 C, .slice ao n cap] 34)).alloc (.cells #[.int .i64 f, .int .i64 A, .int .i64 B, .int .i64 C, .slice ao' n cap'] 34)) := (Bx.at _ rfl).alloc _
 have Q0 : Bx (w.heap.size + 1) [.int .i64 f, .int .i64 A, .int .i64 B, .int .i64 C, (.slice ao' n cap')] ((w.alloc (.cells #[.int .i64 f, .int .i64 A, .int .i64 B, .int .i64 C, .slice ao n cap] 34)).alloc (.cells #[.int .i64 f, .int .i64 A, .int .i64 B, .int .i64 C, .slice ao' n cap'] 34)) := Bx.at _ (by simp)
 have B0 : Below w.heap.size w ((w.alloc (.cells #[.int .i64 f, .int .i64 A, .int .i64 B, .int .i64 C, .slice ao n cap] 34)).alloc (.cells #[.int .i64 f, .int .i64 A, .int .i64 B, .int .i64 C, .slice ao' n cap'] 34)) := by repeat (first | with_reducible exact Below.refl _ _ | with_reducible assumption | with_reducible refine Below.setCell ?_ (by first | omega | (dsimp only; omega) | (simp <;> omega)) _ | with_reducible refine Below.alloc ?_ (by first | omega | (simp <;> omega)) _ | with_reducible refine bstep ?_ (by with_reducible assumption) | with_reducible refine Below.drew ?_ | with_reducible refine below_drewN ?_ _)
 go_enter Tryz.func16, Tryz.ntmps16
 go_wp2_with fail
 with_reducible refine (eqLat_any A B C A B C _).mono ?_
 rintro e w1 ⟨rfl, hb1⟩
 rw [eqT_rfl]
 have P1 := P0.call hb1
 have Q1 := Q0.call hb1
 have B1 := bstep B0 hb1
 clear P0 Q0 B0 hb1
 have p4 := P1.c4
 have q4 := Q1.c4
 have pl := P1.lt
 have ql := Q1.lt
 go_wp2_with fail
 with_reducible refine (eqInt64S_any (R1.out.call B1) (R2.out.call B1)).mono ?_
 rintro e w2 ⟨rfl, hb2⟩
 go_wp2
 go_ret
 exact ⟨rfl, bstep B1 hb2⟩
set_option maxHeartbeats 4000000 in
theorem markPat_any {lo hi n : Nat} {v : Value} {F : Nat → Int} {w : World} (f A B C : Int) (h : SRow lo hi 1 v n F w) (hl : lo ≤ hi) :
  Calls Tryz.prog 21 #[.agg #[.int .i64 f, .int .i64 A, .int .i64 B, .int .i64 C, v], .int .i64 1] w fun e w' => e = .returned (.int .i64 ((n : Int) * 1 + 1)) ∧ SRow lo hi 1 v n mark1 w' ∧ Below lo w w' ∧ KeepV v w w' := by
 have R1 := Lib.hid h
 have hn := h.2.1
 have hh := Lib.hid (show hi ≤ w.heap.size ∧ lo ≤ hi from ⟨h.1, hl⟩)
 obtain ⟨ao, cap, rfl⟩ := h.slice
 clear h hl
 go_enter Tryz.func21, Tryz.ntmps21
 go_wp2_with fail
 refine (markInt_any (R1.out.call ?_)).mono ?_
 ·repeat (first | with_reducible exact Below.refl _ _ | with_reducible assumption | with_reducible refine Below.setCell ?_ (by first | omega | (dsimp only; omega) | (simp <;> omega)) _ | with_reducible refine Below.alloc ?_ (by first | omega | (simp <;> omega)) _ | with_reducible refine bstep ?_ (by with_reducible assumption) | with_reducible refine Below.drew ?_ | with_reducible refine below_drewN ?_ _)
 rintro e w1 ⟨rfl, r1, hb1, hk1⟩
 have R2 := Lib.hid r1
 have hB2 : Below lo w w1 := (show Below lo w _ from (Below.refl _ _).alloc (by have := hh.out; omega) _).trans hb1
 have HB := Lib.hid hB2
 have HK := Lib.hid (show KeepV (.slice ao n cap) w w1 from fun b h1 h2 => (hk1 b h1 (by simp; omega)).trans (((Below.refl w.heap.size w).alloc (Nat.le_refl _) _).block b h2))
 clear r1 hb1 hk1 hB2
 go_wp2
 go_ret
 exact ⟨ret_int (by omega), R2.out, HB.out, HK.out⟩
set_option maxHeartbeats 4000000 in
theorem heldPat_any {lo hi n : Nat} {v : Value} {w : World} (f A B C : Int) (h : SRow lo hi 1 v n mark1 w) :
  Calls Tryz.prog 29 #[.agg #[.int .i64 f, .int .i64 A, .int .i64 B, .int .i64 C, v], .int .i64 1] w fun e w' => e = .returned (.int .i64 ((n : Int) * 1 + 1)) ∧ Below w.heap.size w w' := by
 have R1 := Lib.hid h
 have hn := h.2.1
 obtain ⟨ao, cap, rfl⟩ := h.slice
 clear h
 go_enter Tryz.func29, Tryz.ntmps29
 go_wp2_with fail
 refine (heldInt64S_any (R1.out.call ?_)).mono ?_
 ·repeat (first | with_reducible exact Below.refl _ _ | with_reducible assumption | with_reducible refine Below.setCell ?_ (by first | omega | (dsimp only; omega) | (simp <;> omega)) _ | with_reducible refine Below.alloc ?_ (by first | omega | (simp <;> omega)) _ | with_reducible refine bstep ?_ (by with_reducible assumption) | with_reducible refine Below.drew ?_ | with_reducible refine below_drewN ?_ _)
 rintro e w1 ⟨rfl, hb1⟩
 have hk : ¬ ((n : Int) * 1 + 1 < 0) := by omega
 go_wp2
 go_ret
 exact ⟨ret_int (by omega), bstep (by repeat (first | with_reducible exact Below.refl _ _ | with_reducible assumption | with_reducible refine Below.setCell ?_ (by first | omega | (dsimp only; omega) | (simp <;> omega)) _ | with_reducible refine Below.alloc ?_ (by first | omega | (simp <;> omega)) _ | with_reducible refine bstep ?_ (by with_reducible assumption) | with_reducible refine Below.drew ?_ | with_reducible refine below_drewN ?_ _)) hb1⟩
section
variable {H : Type} {enc : TypeId × Value → H} {P : Program} {w : World} {base : Nat} {held : Bool}
end
end
end Go.Proofs.YtdgophfembpniaaGreatDoor

