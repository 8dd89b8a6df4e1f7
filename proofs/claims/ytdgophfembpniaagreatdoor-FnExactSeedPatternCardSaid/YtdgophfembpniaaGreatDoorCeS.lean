/-
 The iterator over the cells of a lattice, for a body that is told that what it is handed is a cell. Conditions: a lattice of at most 64 cells each way.
-/
import Derived.RangeFuncNested
import Derived.RangeFuncBound
import Derived.RangeFuncCalls
import Derived.RangeFuncLeaves
import Derived.RangeFuncBox
import Derived.Shelf.Abstract
import Derived.Shelf.RegionOpen
import Derived.WalkKit
import Derived.OwnWalkIn
import Derived.TacticsInMore
import Derived.LoopNIn
import Derived.LoopIn
import Derived.Maps.AppendAt
import Derived.Test.YtdgophfembpniaaGreatDoorGg
namespace Go.Proofs.YtdgophfembpniaaGreatDoor
open Go.RowKit Go.Shelf
attribute [local go_sem] Oper.semAt_some
set_option linter.unusedSimpArgs false
set_option linter.unusedVariables false

abbrev CV (p q : Nat) := { v : Int × Int // (0 ≤ v.1 ∧ v.1 < (p : Int)) ∧ (0 ≤ v.2 ∧ v.2 < (q : Int)) }
def KeepC (Bn : Nat) (W W' : World) : Prop := W'.heap[Bn]? = W.heap[Bn]?
set_option maxRecDepth 100000 in
set_option maxHeartbeats 4000000 in
theorem cellsS_in (F : Fence) (n : Nat) (h5 : F.fn 76) (hro : F.round = none) (A B C : Int) (w : World) :
  CallsIn F n Tryz.prog 76 #[.agg #[.int .i64 A, .int .i64 B, .int .i64 C]] w fun e w' => e = .returned (.func (.func 111) #[] #[.pointer (some ⟨w.heap.size, 0, none⟩)]) ∧ w' = w.alloc (.cells #[.int .i64 A, .int .i64 B, .int .i64 C] 32) := by
 refine callsIn_of_wp Tryz.func76 rfl h5 ?_ hro
 simp only [Tryz.ntmps76, List.size_toArray, List.length_cons, List.length_nil, Nat.reduceAdd, Nat.reduceSub, Array.replicate_succ, Array.replicate_zero, List.push_toArray, List.append_toArray, List.nil_append, List.cons_append]
 gi_wp2
 go_ret
 exact ⟨rfl, rfl⟩
set_option maxRecDepth 100000 in
set_option maxHeartbeats 4000000 in
theorem cells1S_in (F : Fence) (n : Nat) (h6 : F.fn 111) (hro : F.round = none) (hn : 1 ≤ n) (l Bn p q : Nat) (hp : p ≤ 64) (hq : q ≤ 64) (J Jx : List (CV p q) → World → Prop)
  (hY : ∀ pre x W, J pre W → pre.length < p * q → YieldAt F (n - 1) Tryz.prog l #[.agg #[.int .i64 x.1.1, .int .i64 x.1.2]] W fun e W' =>
   (e = .returned (.bool true) ∧ J (pre ++ [x]) W' ∧ KeepC Bn W W') ∨ (e = .returned (.bool false) ∧ Jx (pre ++ [x]) W'))
  (W : World) (hA : W.cell? ⟨Bn, 0, none⟩ = some (.int .i64 (p : Int))) (hC : W.cell? ⟨Bn, 2, none⟩ = some (.int .i64 (q : Int))) (h0 : J [] W) :
  CallsIn F n Tryz.prog 111 #[.func (.yield l) #[] #[], .pointer (some ⟨Bn, 0, none⟩)] W fun e W' => (∃ v, e = .returned v) ∧
   ((∃ ys : List (CV p q), ys.map Subtype.val = cellP q p ∧ J ys W') ∨ (∃ pre, True ∧ Jx pre W')) := by
 refine callsIn_of_wp Tryz.func111 rfl h6 ?_ hro
 simp only [Tryz.ntmps111, List.size_toArray, List.length_cons, List.length_nil, Nat.reduceAdd, Nat.reduceSub, Array.replicate_succ, Array.replicate_zero, List.push_toArray, List.append_toArray, List.nil_append, List.cons_append]
 gi_wp2
 gi_loopw [7] (fun i wr => ∃ (a : Nat) (ys : List (CV p q)), i = .int .i64 (a : Int) ∧ a ≤ p ∧ ys.map Subtype.val = cellP q a ∧ J ys wr ∧ KeepC Bn W wr) (fun i _ => p - (intOf i).toNat)
 case atStart => exact ⟨0, [], rfl, by omega, rfl, h0, rfl⟩
 case round =>
  obtain ⟨a, ys, rfl, ha, hys, hJ, hB⟩ := hrel
  by_cases ha1 : a < p
  ·have ha2 : (a : Int) < (p : Int) := by omega
   have hC1 : wr.cell? ⟨Bn, 2, none⟩ = some (.int .i64 (q : Int)) := (World.cell?_of_block (w := W) (w' := wr) (a := ⟨Bn, 2, none⟩) hB).trans hC
   gi_wp2
   gi_loopw [12] (fun i W2 => ∃ (b : Nat) (zs : List (CV p q)), i = .int .i64 (b : Int) ∧ b ≤ q ∧ zs.map Subtype.val = cellP q a ++ cellR a b ∧ J zs W2 ∧ KeepC Bn W W2) (fun i _ => q - (intOf i).toNat)
   case atStart => exact ⟨0, ys, rfl, by omega, by simpa [cellR] using hys, hJ, hB⟩
   case round =>
    obtain ⟨b, zs, rfl, hb, hzs, hJ2, hB2⟩ := hrel
    by_cases hb1 : b < q
    ·have hb2 : (b : Int) < (q : Int) := by omega
     have hlt : zs.length < p * q := by
      have e : zs.length = (zs.map Subtype.val).length := (List.length_map ..).symm
      rw [e, hzs, List.length_append, cellP_len, cellR_len]
      have := Nat.mul_le_mul_right q (show a + 1 ≤ p by omega)
      rw [Nat.succ_mul] at this
      omega
     obtain ⟨fn, tmps, assign, body, hy, hR⟩ := hY _ ⟨((a : Int), (b : Int)), ⟨by omega, ha2⟩, ⟨by omega, hb2⟩⟩ _ hJ2 hlt
     dsimp only at hy
     have hk1 : (a : Int) ≤ 64 := by omega
     have hk2 : (b : Int) ≤ 64 := by omega
     gi_wp2
     refine hR.mono ?_
     rintro e W3 (⟨rfl, hJ3, hk3⟩ | ⟨rfl, hJx3⟩)
     ·gi_wp2
      go_roundw
      case rel => exact ⟨b + 1, _, by go_num, by omega, by rw [cellR_succ, ← List.append_assoc, ← hzs, List.map_append]; rfl, hJ3, hk3.trans hB2⟩
      case measure => first | (simp [intOf]; done) | (simp [intOf]; omega)
     ·gi_wp2
      refine bodyPost_ret (results_none rfl _ _ _) rfl ?_
      exact ⟨⟨_, rfl⟩, .inr ⟨_, trivial, hJx3⟩⟩
    ·obtain rfl : b = q := by omega
     have hk1 : (a : Int) ≤ 64 := by omega
     gi_wp2
     go_roundw
     case rel => exact ⟨a + 1, zs, by go_num, by omega, by rw [cellP_succ]; exact hzs, hJ2, hB2⟩
     case measure => first | (simp [intOf]; done) | (simp [intOf]; omega)
  ·obtain rfl : a = p := by omega
   gi_wp2
   go_end0
   exact ⟨⟨_, rfl⟩, .inl ⟨_, hys, hJ⟩⟩
theorem cellsS_stops (F : Fence) (n : Nat) (h6 : F.fn 111) (hro : F.round = none) (hn : 1 ≤ n) (Bn p q : Nat) (hp : p ≤ 64) (hq : q ≤ 64) (w : World) (hBn : Bn < w.heap.size)
  (hA : w.cell? ⟨Bn, 0, none⟩ = some (.int .i64 (p : Int))) (hC : w.cell? ⟨Bn, 2, none⟩ = some (.int .i64 (q : Int))) :
  SeqStopsK F n Tryz.prog 111 #[.pointer (some ⟨Bn, 0, none⟩)] (fun x : CV p q => #[.agg #[.int .i64 x.1.1, .int .i64 x.1.2]]) (KeepC Bn) (fun ys => ys.map Subtype.val = cellP q p) (fun _ => True) (p * q) w := fun l J Jx W hW _ _ hY h0 =>
 cells1S_in F n h6 hro hn l Bn p q hp hq J Jx hY W ((hW.cell (p := ⟨Bn, 0, none⟩) hBn).trans hA) ((hW.cell (p := ⟨Bn, 2, none⟩) hBn).trans hC) h0
theorem keepsF_below {W W' : World} (B : Nat) (hb : Below W.heap.size W W') : KeepsFrom B W W' :=
 ⟨hb.size, fun k o _ hk _ => (hb.block k (Array.getElem?_eq_some_iff.1 hk).1).trans hk⟩
theorem keepC_b {Bn : Nat} {w : World} (hn : Bn < w.heap.size) (W : World) (l : Nat) (o o' : Obj) (hl : w.heap.size ≤ l) (h : W.heap[l]? = some o) (_ : o.isCells = false) (_ : o.isWalk = false) : KeepC Bn W (W.putObj l o') :=
 World.putObj_heap_other (by omega)
theorem at_ownC {β : Type} (B : Nat) (o : Obj) (ho : o.isCells = true) : Own (fun (_ : β) W => W.heap[B]? = some o) := fun s X Y row hs hg hrow =>
 (hg.block B (Array.getElem?_eq_some_iff.1 hs).1 (fun e => by obtain ⟨o', h1, h2⟩ := hrow B e.symm; rw [hs] at h1; cases h1; rw [ho] at h2; cases h2)).trans hs
end Go.Proofs.YtdgophfembpniaaGreatDoor
