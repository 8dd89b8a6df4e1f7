/-
 The program's iterator over the point matrices of a frame (a range over a function), and LatticeMats by it. Conditions: the frame and the lattice are valid.
-/
import Derived.RangeFuncNested
import Derived.RangeFuncBound
import Derived.RangeFuncCalls
import Derived.RangeFuncLeaves
import Derived.RangeFuncBox
import Derived.Shelf.Abstract
import Derived.Shelf.RegionOpen
import Derived.WalkKit
import Derived.OwnWalkIn
import Derived.TacticsInMore
import Derived.LoopNIn
import Derived.LoopIn
import Derived.Maps.AppendAt
import Derived.Test.YtjjfomokecngoaaGreatDoorGg
import Derived.Test.YtjjfomokecngoaaGreatDoorGi
namespace Go.Proofs.YtjjfomokecngoaaGreatDoor
open Go.RowKit Go.Shelf
attribute [local go_sem] Oper.semAt_some
set_option linter.unusedSimpArgs false
set_option linter.unusedVariables false

def KeepP (Bn : Nat) (W W' : World) : Prop := W'.heap[Bn]? = W.heap[Bn]?
abbrev KQm (f : Int) := {m : M4 // keepM f m = true}
theorem keepsFrom_below {W W' : World} (B : Nat) (hb : Below W.heap.size W W') : KeepsFrom B W W' :=
 ⟨hb.size, fun k o _ hk _ => (hb.block k (Array.getElem?_eq_some_iff.1 hk).1).trans hk⟩
theorem below_grown {W W' : World} (hb : Below W.heap.size W W') : W.grownBy W' none := ⟨hb.os, hb.tape, hb.output, hb.size, fun k hk _ => hb.block k hk⟩
theorem abides_below {β : Type} {B : Nat} {J : β → World → Prop} (h : AbidesFrom B J) {s : β} {W W' : World} (hJ : J s W) (hb : Below W.heap.size W W') : J s W' := h s W W' none hJ (below_grown hb) (fun r e => by cases e)
set_option maxRecDepth 100000 in
set_option maxHeartbeats 4000000 in
theorem pm_in (F : Fence) (n : Nat) (h5 : F.fn 207) (hro : F.round = none) (f : Int) (w : World) :
  CallsIn F n Tryz.prog 207 #[.iface (planeT f) (.agg #[])] w fun e w' => e = .returned (.func (.func 249) #[] #[.pointer (some ⟨w.heap.size, 0, none⟩)]) ∧ w' = w.alloc (.cells #[.iface (planeT f) (.agg #[])] 106) := by
 refine callsIn_of_wp Tryz.func207 rfl h5 ?_ hro
 simp only [Tryz.ntmps207, List.size_toArray, List.length_cons, List.length_nil, Nat.reduceAdd, Nat.reduceSub, Array.replicate_succ, Array.replicate_zero, List.push_toArray, List.append_toArray, List.nil_append, List.cons_append]
 gi_wp2
 go_ret
 exact ⟨rfl, rfl⟩
set_option maxRecDepth 100000 in
set_option maxHeartbeats 8000000 in
theorem pm1_in (n : Nat) (hn : 1 ≤ n) (l Bn : Nat) (f : Int) (hf : frB f = true) (J Jx : List (KQm f) → World → Prop) (W : World) (hBn : Bn < W.heap.size) (hJA : AbidesFrom W.heap.size J)
  (hY : ∀ pre x W, J pre W → pre.length < 81 → YieldAt Fence.wide (n - 1) Tryz.prog l #[.agg #[.int .i64 x.1.1, .int .i64 x.1.2.1, .int .i64 x.1.2.2.1, .int .i64 x.1.2.2.2]] W fun e W' =>
   (e = .returned (.bool true) ∧ J (pre ++ [x]) W' ∧ (KeepP Bn W W' ∧ W.heap.size ≤ W'.heap.size)) ∨ (e = .returned (.bool false) ∧ Jx (pre ++ [x]) W'))
  (hA : W.cell? ⟨Bn, 0, none⟩ = some (.iface (planeT f) (.agg #[]))) (h0 : J [] W) :
  CallsIn Fence.wide n Tryz.prog 249 #[.func (.yield l) #[] #[], .pointer (some ⟨Bn, 0, none⟩)] W fun e W' => (∃ v, e = .returned v) ∧
   ((∃ ys, ys.map Subtype.val = matsL f ∧ J ys W') ∨ (∃ pre, True ∧ Jx pre W')) := by
 refine callsIn_of_wp Tryz.func249 rfl trivial ?_ rfl
 simp only [Tryz.ntmps249, List.size_toArray, List.length_cons, List.length_nil, Nat.reduceAdd, Nat.reduceSub, Array.replicate_succ, Array.replicate_zero, List.push_toArray, List.append_toArray, List.nil_append, List.cons_append]
 gi_wp2
 gi_loopw [5] (fun i wr => ∃ k : Nat, i = .int .i64 (k : Int) ∧ k ≤ 81 ∧ (∃ ys : List (KQm f), ys.map Subtype.val = matsP f k ∧ J ys wr) ∧ KeepP Bn W wr ∧ W.heap.size ≤ wr.heap.size) (fun i _ => 81 - (intOf i).toNat)
 case atStart => exact ⟨0, rfl, by omega, ⟨[], rfl, h0⟩, rfl, Nat.le_refl _⟩
 case round =>
  obtain ⟨k, rfl, hk, ⟨ys, hys, hJ⟩, hB, hz⟩ := hrel
  have HY := Lib.hid hys
  clear hys
  by_cases hk1 : k < 81
  ·have hk2 : (k : Int) < 81 := by omega
   have hk3 : 0 ≤ (k : Int) := by omega
   have hC1 : wr.cell? ⟨Bn, 0, none⟩ = some (.iface (planeT f) (.agg #[])) := (World.cell?_of_block (w := W) (w' := wr) (a := ⟨Bn, 0, none⟩) hB).trans hA
   have HC : ∀ n W, CallsIn Fence.wide n Tryz.prog 250 #[.iface (planeT f) (.agg #[]), .agg #[.int .i64 ((k : Int) / 27 - 1), .int .i64 ((k : Int) / 9 % 3 - 1), .int .i64 ((k : Int) / 3 % 3 - 1), .int .i64 ((k : Int) % 3 - 1)]] W fun e w' => e = .returned (.bool (keepM f (decM k))) ∧ Below W.heap.size W w' := fun n W => callsIn_wide.2 (keeps_any f _ _ _ _ W hf (decM_lim hk1))
   have HK := Lib.hid hk1
   have HL := Lib.hid (matsP_len f k)
   have HS := Lib.hid (matsP_succ f k)
   clear hk hk1
   have hlt : Bn < wr.heap.size := by omega
   have ne1 : ¬ Bn = wr.heap.size := by omega
   have ne2 : ¬ wr.heap.size = Bn := by omega
   have B1 : Below wr.heap.size wr (wr.alloc (.cells #[.int .i64 ((k : Int) / 27 - 1), .int .i64 ((k : Int) / 9 % 3 - 1), .int .i64 ((k : Int) / 3 % 3 - 1), .int .i64 ((k : Int) % 3 - 1)] 133)) := (Below.refl _ _).alloc (Nat.le_refl _) _
   have C2 : (wr.alloc (.cells #[.int .i64 ((k : Int) / 27 - 1), .int .i64 ((k : Int) / 9 % 3 - 1), .int .i64 ((k : Int) / 3 % 3 - 1), .int .i64 ((k : Int) % 3 - 1)] 133)).cell? ⟨Bn, 0, none⟩ = some (.iface (planeT f) (.agg #[])) := (B1.cell (p := ⟨Bn, 0, none⟩) hlt).trans hC1
   have V1 : Kq wr.heap.size ((k : Int) / 27 - 1) ((k : Int) / 9 % 3 - 1) ((k : Int) / 3 % 3 - 1) ((k : Int) % 3 - 1) (wr.alloc (.cells #[.int .i64 ((k : Int) / 27 - 1), .int .i64 ((k : Int) / 9 % 3 - 1), .int .i64 ((k : Int) / 3 % 3 - 1), .int .i64 ((k : Int) % 3 - 1)] 133)) := Kq.at _ rfl
   have J1 := abides_below hJA hJ B1
   have P1 : KeepP Bn W (wr.alloc (.cells #[.int .i64 ((k : Int) / 27 - 1), .int .i64 ((k : Int) / 9 % 3 - 1), .int .i64 ((k : Int) / 3 % 3 - 1), .int .i64 ((k : Int) % 3 - 1)] 133)) := (B1.block Bn hlt).trans hB
   have z1 : W.heap.size ≤ (wr.alloc (.cells #[.int .i64 ((k : Int) / 27 - 1), .int .i64 ((k : Int) / 9 % 3 - 1), .int .i64 ((k : Int) / 3 % 3 - 1), .int .i64 ((k : Int) % 3 - 1)] 133)).heap.size := Nat.le_trans hz B1.size
   rcases hN : keepM f (decM k) with _ | _
   ·rw [hN] at HC
    gi_wp2_with fail
    refine ⟨trivial, ?_⟩
    refine (HC _ _).mono ?_
    rintro e w1 ⟨rfl, hb1⟩
    have J2 := abides_below hJA J1 hb1
    have P2 : KeepP Bn W w1 := (hb1.block Bn (by simp; omega)).trans P1
    have z2 : W.heap.size ≤ w1.heap.size := Nat.le_trans z1 hb1.size
    have J3 : ∃ ys : List (KQm f), ys.map Subtype.val = matsP f (k + 1) ∧ J ys w1 := ⟨ys, by rw [HY.out, HS.out, hN]; simp, J2⟩
    clear J1 J2 P1 z1 V1 B1 C2 hb1 hJ hB hC1 HC
    gi_wp2
    refine ⟨fun _ h => (by cases h), ?_⟩
    gi_wp2
    have hk1 := HK.out
    go_roundw
    case rel => exact ⟨k + 1, by go_num, by omega, J3, P2, z2⟩
    case measure => first | (simp [intOf]; done) | (simp [intOf]; omega)
   ·rw [hN] at HC
    gi_wp2_with fail
    refine ⟨trivial, ?_⟩
    refine (HC _ _).mono ?_
    rintro e w1 ⟨rfl, hb1⟩
    have J2 := abides_below hJA J1 hb1
    have P2 : KeepP Bn W w1 := (hb1.block Bn (by simp; omega)).trans P1
    have z2 : W.heap.size ≤ w1.heap.size := Nat.le_trans z1 hb1.size
    have V2 := V1.call hb1
    obtain ⟨v0, v1, v2, v3, v4⟩ := id V2
    have hlen : ys.length < 81 := by have h1 := HL.out; have h2 := HK.out; rw [← HY.out, List.length_map] at h1; omega
    obtain ⟨fn, tmps, assign, body, hy, hR⟩ := hY _ ⟨decM k, hN⟩ _ J2 hlen
    dsimp only [decM] at hy
    clear J1 J2 P1 z1 V1 V2 B1 C2 hb1 hJ hB hC1 HC hlen
    gi_wp2
    refine hR.mono ?_
    rintro e W3 (⟨rfl, hJ3, hk3, hz3⟩ | ⟨rfl, hJx3⟩)
    ·have J4 : ∃ ys : List (KQm f), ys.map Subtype.val = matsP f (k + 1) ∧ J ys W3 := ⟨ys ++ [⟨decM k, hN⟩], by rw [List.map_append, HY.out, HS.out, hN]; simp, hJ3⟩
     gi_wp2
     have hk1 := HK.out
     go_roundw
     case rel => exact ⟨k + 1, by go_num, by omega, J4, Eq.trans hk3 P2, Nat.le_trans z2 hz3⟩
     case measure => first | (simp [intOf]; done) | (simp [intOf]; omega)
    ·gi_wp2
     refine bodyPost_ret (results_none rfl _ _ _) rfl ?_
     exact ⟨⟨_, rfl⟩, .inr ⟨_, trivial, hJx3⟩⟩
  ·obtain rfl : k = 81 := by omega
   gi_wp2
   go_end0
   exact ⟨⟨_, rfl⟩, .inl ⟨_, HY.out, hJ⟩⟩
theorem pm_stops (n : Nat) (hn : 1 ≤ n) (Bn : Nat) (f : Int) (hf : frB f = true) (w : World) (hBn : Bn < w.heap.size) (hA : w.cell? ⟨Bn, 0, none⟩ = some (.iface (planeT f) (.agg #[]))) :
  SeqStopsK Fence.wide n Tryz.prog 249 #[.pointer (some ⟨Bn, 0, none⟩)] (fun x : KQm f => #[.agg #[.int .i64 x.1.1, .int .i64 x.1.2.1, .int .i64 x.1.2.2.1, .int .i64 x.1.2.2.2]]) (fun W W' => KeepP Bn W W' ∧ W.heap.size ≤ W'.heap.size) (fun ys => ys.map Subtype.val = matsL f) (fun _ => True) 81 w := fun l J Jx W hW hJA _ hY h0 =>
 pm1_in n hn l Bn f hf J Jx W (Nat.lt_of_lt_of_le hBn hW.size) hJA hY ((hW.cell (p := ⟨Bn, 0, none⟩) hBn).trans hA) h0
theorem keepP_b {Bn : Nat} {w : World} (hn : Bn < w.heap.size) (W : World) (l : Nat) (o o' : Obj) (hl : w.heap.size ≤ l) (h : W.heap[l]? = some o) (_ : o.isCells = false) (_ : o.isWalk = false) : KeepP Bn W (W.putObj l o') ∧ W.heap.size ≤ (W.putObj l o').heap.size :=
 ⟨World.putObj_heap_other (by omega), by simp⟩
theorem at_own4 {β : Type} (B : Nat) (o : Obj) (ho : o.isCells = true) : Own (fun (_ : β) W => W.heap[B]? = some o) := fun s X Y row hs hg hrow =>
 (hg.block B (Array.getElem?_eq_some_iff.1 hs).1 (fun e => by obtain ⟨o', h1, h2⟩ := hrow B e.symm; rw [hs] at h1; cases h1; rw [ho] at h2; cases h2)).trans hs
/- the matrices that keep a lattice -/
def stabB (A B C : Int) (m : M4) : Bool := eqT (mapI A B C m.1 m.2.1 m.2.2.1 m.2.2.2).1 (mapI A B C m.1 m.2.1 m.2.2.1 m.2.2.2).2.1 (mapI A B C m.1 m.2.1 m.2.2.1 m.2.2.2).2.2 A B C
def stabL (f A B C : Int) : List M4 := (matsL f).filter (stabB A B C)
def stabK {f : Int} (A B C : Int) (pre : List (KQm f)) : List M4 := (pre.map Subtype.val).filter (stabB A B C)
theorem stabK_snoc {f : Int} (A B C : Int) (pre : List (KQm f)) (x : KQm f) : stabK A B C (pre ++ [x]) = stabK A B C pre ++ (if stabB A B C x.1 = true then [x.1] else []) := by
 unfold stabK
 rw [List.map_append, List.filter_append]
 congr 1
 rcases h : stabB A B C x.1 with _ | _ <;> simp [h]
theorem stabK_len {f : Int} (A B C : Int) (pre : List (KQm f)) : (stabK A B C pre).length ≤ pre.length := by
 unfold stabK
 refine Nat.le_trans (List.length_filter_le _ _) ?_
 simp
theorem boxed_call {W w1 : World} {B : Nat} {t : TypeId} {v : Value} (h : Boxed W B t v) (hb : Below W.heap.size W w1) : Boxed w1 B t v := (hb.block B h.lt).trans h
end Go.Proofs.YtjjfomokecngoaaGreatDoor
