/-
  The program's iterator over the cells of a lattice (a range over a function), and CellsOf by it. Conditions: the lattice is valid.
-/
import Derived.RangeFuncNested
import Derived.RangeFuncBound
import Derived.RangeFuncCalls
import Derived.RangeFuncLeaves
import Derived.RangeFuncBox
import Derived.Shelf.Abstract
import Derived.Shelf.RegionOpen
import Derived.WalkKit
import Derived.OwnWalkIn
import Derived.TacticsInMore
import Derived.LoopNIn
import Derived.LoopIn
import Derived.Maps.AppendAt
import Derived.Test.YtmadgbbkkkibcaaGreatDoorRowF
import Derived.Test.YtmadgbbkkkibcaaGreatDoorLat1
namespace Go.Proofs.YtmadgbbkkkibcaaGreatDoor
open Go.RowKit Go.Shelf
attribute [local go_sem] Oper.semAt_some
set_option linter.unusedSimpArgs false
set_option linter.unusedVariables false

/- a list of vectors as cells -/
def cells2 (xs : List (Int × Int)) : List Value := xs.flatMap (fun t => [.int .i64 t.1, .int .i64 t.2])
theorem cells2_len (xs : List (Int × Int)) : (cells2 xs).length = xs.length * 2 := by
  induction xs with
  | nil => rfl
  | cons t xs ih => simp only [cells2, List.flatMap_cons, List.length_append, List.length_cons, List.length_nil] at *; omega
theorem cells2_snoc (xs : List (Int × Int)) (t : Int × Int) : cells2 (xs ++ [t]) = cells2 xs ++ [.int .i64 t.1, .int .i64 t.2] := by simp [cells2]
theorem cells2_int (xs : List (Int × Int)) : ∀ u ∈ cells2 xs, ∃ z, u = .int .i64 z := by
  intro u hu
  simp only [cells2, List.mem_flatMap, List.mem_cons, List.not_mem_nil, or_false] at hu
  obtain ⟨t, _, h | h⟩ := hu <;> exact ⟨_, h⟩
def cellR (a j : Nat) : List (Int × Int) := (List.range j).map (fun b : Nat => ((a : Int), (b : Int)))
def cellP (q k : Nat) : List (Int × Int) := (List.range k).flatMap (fun a => cellR a q)
theorem cellP_succ (q k : Nat) : cellP q (k + 1) = cellP q k ++ cellR k q := by unfold cellP; rw [List.range_succ, List.flatMap_append]; simp
theorem cellR_succ (a j : Nat) : cellR a (j + 1) = cellR a j ++ [((a : Int), (j : Int))] := by unfold cellR; rw [List.range_succ, List.map_append]; rfl
theorem cellR_len (a j : Nat) : (cellR a j).length = j := by simp [cellR]
theorem cellP_len (q : Nat) : ∀ k, (cellP q k).length = k * q
  | 0 => by simp [cellP]
  | k + 1 => by rw [cellP_succ, List.length_append, cellP_len q k, cellR_len, Nat.succ_mul]
theorem infoVec : (Tryz.prog.info? 34).map (fun i => (i.zero, i.size, i.bytes)) = some (some (.agg #[.int .i64 0, .int .i64 0]), 2, 16) := by kernel_rfl
theorem one_two {a b : Int} : ∀ u ∈ [Value.int .i64 a, .int .i64 b], u.oneCell' = true := by
  intro u hu
  simp only [List.mem_cons, List.not_mem_nil, or_false] at hu
  rcases hu with rfl | rfl <;> rfl
theorem new_two {W : World} {g : Nat} (T : TypeId) (a b : Value) (hg : g = W.heap.size) : ∀ (j : Nat) (u : Value), [a, b][j]? = some u → (W.alloc (.cells #[a, b] T)).cell? ((⟨g, 0, none⟩ : Addr).add j) = some u := by
  subst hg
  intro j u hj
  match j, hj with
  | 0, hj => simp at hj; subst hj; simp [Addr.add, go_sem]
  | 1, hj => simp at hj; subst hj; simp [Addr.add, go_sem]
  | j + 2, hj => simp at hj

theorem latI_prod {A B C : Int} (h : latI A B C) : A * C ≤ 64 := by
  exact h.2.2.2.2
def KeepB (Bn : Nat) (W W' : World) : Prop := W'.heap[Bn]? = W.heap[Bn]?
/- the method cells: the receiver is boxed, the function value captures the box -/
set_option maxRecDepth 100000 in
set_option maxHeartbeats 4000000 in
theorem cells_in (F : Fence) (n : Nat) (h5 : F.fn 135) (hro : F.round = none) (A B C : Int) (w : World) :
    CallsIn F n Tryz.prog 135 #[.agg #[.int .i64 A, .int .i64 B, .int .i64 C]] w fun e w' => e = .returned (.func (.func 196) #[] #[.pointer (some ⟨w.heap.size, 0, none⟩)]) ∧ w' = w.alloc (.cells #[.int .i64 A, .int .i64 B, .int .i64 C] 25) := by
  refine callsIn_of_wp Tryz.func135 rfl h5 ?_ hro
  simp only [Tryz.ntmps135, List.size_toArray, List.length_cons, List.length_nil, Nat.reduceAdd, Nat.reduceSub, Array.replicate_succ, Array.replicate_zero, List.push_toArray, List.append_toArray, List.nil_append, List.cons_append]
  gi_wp2
  go_ret
  exact ⟨rfl, rfl⟩
set_option maxRecDepth 100000 in
set_option maxHeartbeats 4000000 in
theorem cells1_in (F : Fence) (n : Nat) (h6 : F.fn 196) (hro : F.round = none) (hn : 1 ≤ n) (l Bn p q : Nat) (hp : p ≤ 64) (hq : q ≤ 64) (J Jx : List (Int × Int) → World → Prop)
    (hY : ∀ pre x W, J pre W → pre.length < p * q → YieldAt F (n - 1) Tryz.prog l #[.agg #[.int .i64 x.1, .int .i64 x.2]] W fun e W' =>
      (e = .returned (.bool true) ∧ J (pre ++ [x]) W' ∧ KeepB Bn W W') ∨ (e = .returned (.bool false) ∧ Jx (pre ++ [x]) W'))
    (W : World) (hA : W.cell? ⟨Bn, 0, none⟩ = some (.int .i64 (p : Int))) (hC : W.cell? ⟨Bn, 2, none⟩ = some (.int .i64 (q : Int))) (h0 : J [] W) :
    CallsIn F n Tryz.prog 196 #[.func (.yield l) #[] #[], .pointer (some ⟨Bn, 0, none⟩)] W fun e W' => (∃ v, e = .returned v) ∧
      ((∃ ys, ys = cellP q p ∧ J ys W') ∨ (∃ pre, True ∧ Jx pre W')) := by
  refine callsIn_of_wp Tryz.func196 rfl h6 ?_ hro
  simp only [Tryz.ntmps196, List.size_toArray, List.length_cons, List.length_nil, Nat.reduceAdd, Nat.reduceSub, Array.replicate_succ, Array.replicate_zero, List.push_toArray, List.append_toArray, List.nil_append, List.cons_append]
  gi_wp2
  gi_loopw [7] (fun i wr => ∃ a : Nat, i = .int .i64 (a : Int) ∧ a ≤ p ∧ J (cellP q a) wr ∧ KeepB Bn W wr) (fun i _ => p - (intOf i).toNat)
  case atStart => exact ⟨0, rfl, by omega, h0, rfl⟩
  case round =>
    obtain ⟨a, rfl, ha, hJ, hB⟩ := hrel
    by_cases ha1 : a < p
    · have ha2 : (a : Int) < (p : Int) := by omega
      have hC1 : wr.cell? ⟨Bn, 2, none⟩ = some (.int .i64 (q : Int)) := (World.cell?_of_block (w := W) (w' := wr) (a := ⟨Bn, 2, none⟩) hB).trans hC
      gi_wp2
      gi_loopw [12] (fun i W2 => ∃ b : Nat, i = .int .i64 (b : Int) ∧ b ≤ q ∧ J (cellP q a ++ cellR a b) W2 ∧ KeepB Bn W W2) (fun i _ => q - (intOf i).toNat)
      case atStart => exact ⟨0, rfl, by omega, by simpa [cellR] using hJ, hB⟩
      case round =>
        obtain ⟨b, rfl, hb, hJ2, hB2⟩ := hrel
        by_cases hb1 : b < q
        · have hb2 : (b : Int) < (q : Int) := by omega
          have hlt : (cellP q a ++ cellR a b).length < p * q := by
            rw [List.length_append, cellP_len, cellR_len]
            have := Nat.mul_le_mul_right q (show a + 1 ≤ p by omega)
            rw [Nat.succ_mul] at this
            omega
          obtain ⟨fn, tmps, assign, body, hy, hR⟩ := hY _ ((a : Int), (b : Int)) _ hJ2 hlt
          dsimp only at hy
          have hk1 : (a : Int) ≤ 64 := by omega
          have hk2 : (b : Int) ≤ 64 := by omega
          gi_wp2
          refine hR.mono ?_
          rintro e W3 (⟨rfl, hJ3, hk3⟩ | ⟨rfl, hJx3⟩)
          · gi_wp2
            go_roundw
            case rel => exact ⟨b + 1, by go_num, by omega, by rw [cellR_succ, ← List.append_assoc]; exact hJ3, hk3.trans hB2⟩
            case measure => first | (simp [intOf]; done) | (simp [intOf]; omega)
          · gi_wp2
            refine bodyPost_ret (results_none rfl _ _ _) rfl ?_
            exact ⟨⟨_, rfl⟩, .inr ⟨_, trivial, hJx3⟩⟩
        · obtain rfl : b = q := by omega
          have hk1 : (a : Int) ≤ 64 := by omega
          gi_wp2
          go_roundw
          case rel => exact ⟨a + 1, by go_num, by omega, by rw [cellP_succ]; exact hJ2, hB2⟩
          case measure => first | (simp [intOf]; done) | (simp [intOf]; omega)
    · obtain rfl : a = p := by omega
      gi_wp2
      go_end0
      exact ⟨⟨_, rfl⟩, .inl ⟨_, rfl, hJ⟩⟩
theorem cells_stops (F : Fence) (n : Nat) (h6 : F.fn 196) (hro : F.round = none) (hn : 1 ≤ n) (Bn p q : Nat) (hp : p ≤ 64) (hq : q ≤ 64) (w : World) (hBn : Bn < w.heap.size)
    (hA : w.cell? ⟨Bn, 0, none⟩ = some (.int .i64 (p : Int))) (hC : w.cell? ⟨Bn, 2, none⟩ = some (.int .i64 (q : Int))) :
    SeqStopsK F n Tryz.prog 196 #[.pointer (some ⟨Bn, 0, none⟩)] (fun x : Int × Int => #[.agg #[.int .i64 x.1, .int .i64 x.2]]) (KeepB Bn) (fun ys => ys = cellP q p) (fun _ => True) (p * q) w := fun l J Jx W hW _ _ hY h0 =>
  cells1_in F n h6 hro hn l Bn p q hp hq J Jx hY W ((hW.cell (p := ⟨Bn, 0, none⟩) hBn).trans hA) ((hW.cell (p := ⟨Bn, 2, none⟩) hBn).trans hC) h0
theorem keepB_b {Bn : Nat} {w : World} (hn : Bn < w.heap.size) (W : World) (l : Nat) (o o' : Obj) (hl : w.heap.size ≤ l) (h : W.heap[l]? = some o) (_ : o.isCells = false) (_ : o.isWalk = false) : KeepB Bn W (W.putObj l o') :=
  World.putObj_heap_other (by omega)
theorem at_own {β : Type} (B : Nat) (o : Obj) (ho : o.isCells = true) : Own (fun (_ : β) W => W.heap[B]? = some o) := fun s X Y row hs hg hrow =>
  (hg.block B (Array.getElem?_eq_some_iff.1 hs).1 (fun e => by obtain ⟨o', h1, h2⟩ := hrow B e.symm; rw [hs] at h1; cases h1; rw [ho] at h2; cases h2)).trans hs
def CelPost (p q : Nat) (w : World) (e : Ending) (w' : World) : Prop :=
  ∃ v : Value, e = .returned (.tuple #[v, .int .i64 0]) ∧ w'.ownsRow w.heap.size 34 2 v (cellP q p).length (cells2 (cellP q p)) ∧ Below w.heap.size w w'
set_option maxRecDepth 100000 in
set_option maxHeartbeats 4000000 in
theorem implCells_good (p q : Nat) (B : Int) (w : World) (h : latB (p : Int) B (q : Int) = true) :
    Calls Tryz.prog 64 #[.agg #[.int .i64 ((p : Int)), .int .i64 B, .int .i64 ((q : Int))]] w (CelPost p q w) := by
  have hi := latB_iff.1 h
  have H := Lib.hid h
  clear h
  obtain ⟨i0, hi0, hz0, hz1, hz2⟩ := info_parts infoVec
  refine (callsIn_wide (n := 3)).1 ?_
  refine callsIn_of_wp_marks Tryz.func64 rfl trivial ?_ rfl
  simp only [Tryz.ntmps64, List.size_toArray, List.length_cons, List.length_nil, Nat.reduceAdd, Nat.reduceSub, Array.replicate_succ, Array.replicate_zero, List.push_toArray, List.append_toArray, List.nil_append, List.cons_append]
  obtain ⟨bp, bq⟩ := latI_bd hi
  have hpq : p * q ≤ 64 := by have := latI_prod hi; exact_mod_cast this
  have hix : -1000000 ≤ (p : Int) * (q : Int) ∧ (p : Int) * (q : Int) ≤ 1000000 := by
    rw [← Int.natCast_mul]; omega
  have hcast : (p : Int) * (q : Int) = ((p * q : Nat) : Int) := (Int.natCast_mul p q).symm
  have HC := Lib.hid hcast
  have HP := Lib.hid hpq
  have HB := Lib.hid (show (p : Int) ≤ 64 ∧ (q : Int) ≤ 64 from ⟨bp, bq⟩)
  clear hi hcast hpq bp bq
  gi_wp2_with (first
    | (refine ⟨trivial, ?_⟩; gi_at_call 103; refine (callsIn_wide.2 (isValidL_any _ _ _ _)).mono ?_; rintro e w1 ⟨rfl, hb1⟩; rw [H.out]; have K1 : Kt w.heap.size (p : Int) B (q : Int) w1 := Kt.call (Kt.at _ rfl) hb1; have B1 : Below w.heap.size w w1 := bstep ((Below.refl _ _).alloc (Nat.le_refl _) _) hb1; obtain ⟨k10, k11, k12, k13⟩ := id K1)
    | (refine ⟨trivial, ?_⟩; gi_at_call 139; refine (callsIn_wide.2 (index_any _ _ _ _ hix)).mono ?_; rintro e w2 ⟨rfl, hb2⟩; have K2 := K1.call hb2; have B2 := bstep B1 hb2)
    | (gi_at_make; refine wpListIn_make_own _ rfl _ _ 63 rfl w.heap.size 34 i0 (.agg #[.int .i64 0, .int .i64 0]) 2 Tryz.underlying63 hi0 hz0 hz1 .i64 .i64 _ (p * q) rfl rfl HC.out (by have := HP.out; rw [hz2]; omega) (by have := HP.out; unfold maxLen; omega) B2.size ?_; intro w3 hown hgrow; have hb3 : Below w2.heap.size w2 w3 := Below.grown (Below.refl _ _) hgrow (Nat.le_refl _) (by simp); have K3 := K2.call hb3; have B3 := bstep B2 hb3; obtain ⟨k30, k31, k32, k33⟩ := id K3)
    | (refine ⟨trivial, ?_⟩; gi_at_call 135; refine (cells_in Fence.wide _ trivial rfl _ _ _ _).mono ?_; rintro e w4 ⟨rfl, rfl⟩))
  have hb1' := hb1
  clear hb1 k10 k11 k12 k13 K1 B1 hb1' hb2 K2 hb3 k30 k31 k32 k33
  have z3 : w2.heap.size ≤ w3.heap.size := hgrow.size
  have z2 := B2.size
  clear hgrow
  obtain ⟨W0, hW0⟩ : ∃ W0, (w3.alloc (.cells #[.slice (some ⟨w2.heap.size, 0, none⟩) 0 (p * q)] 63)).alloc (.cells #[.int .i64 (p : Int), .int .i64 B, .int .i64 (q : Int)] 25) = W0 := ⟨_, rfl⟩
  have hsz : W0.heap.size = w3.heap.size + 2 := by rw [← hW0]; simp
  have bL : Boxed W0 w3.heap.size 63 (.slice (some ⟨w2.heap.size, 0, none⟩) 0 (p * q)) := by rw [← hW0]; exact (Boxed.new w3 _ _).alloc _
  have bR : W0.heap[w3.heap.size + 1]? = some (.cells #[.int .i64 (p : Int), .int .i64 B, .int .i64 (q : Int)] 25 (0, 0)) := by rw [← hW0]; simpa using World.alloc_heap_new (w3.alloc (.cells #[.slice (some ⟨w2.heap.size, 0, none⟩) 0 (p * q)] 63)) (.cells #[.int .i64 (p : Int), .int .i64 B, .int .i64 (q : Int)] 25)
  have hown0 : W0.ownsRow w.heap.size 34 2 (.slice (some ⟨w2.heap.size, 0, none⟩) 0 (p * q)) 0 [] := by rw [← hW0]; exact (hown.alloc _).alloc _
  have B0 : Below w.heap.size w W0 := by rw [← hW0]; exact (B3.alloc B3.size _).alloc (by have := B3.size; simp; omega) _
  have cA : W0.cell? ⟨w3.heap.size + 1, 0, none⟩ = some (.int .i64 (p : Int)) := by simp [World.cell?, bR]
  have cC : W0.cell? ⟨w3.heap.size + 1, 2, none⟩ = some (.int .i64 (q : Int)) := by simp [World.cell?, bR]
  rw [hW0]
  clear hW0 hown B3 K3 B2
  have hz := B0.size
  refine wpIn_rangeFunc_ownH rfl (by omega) (gf := 196) (lb := #[.pointer (some ⟨w3.heap.size + 1, 0, none⟩)]) rfl trivial (enters_of Tryz.func196 (by kernel_rfl) rfl)
    (cells_stops Fence.wide (3 - 1) trivial rfl (by omega) (w3.heap.size + 1) p q (by have := HB.out.1; omega) (by have := HB.out.2; omega) W0 (by omega) cA cC) (fun h k => Eq.trans k h) (keepB_b (by omega)) (Below.refl _ _) (fun _ => rfl)
    (fun pre W => ((∃ v, Boxed W w3.heap.size 63 v ∧ W.ownsRow w.heap.size 34 2 v pre.length (cells2 pre) ∧ True) ∧ W.heap[w3.heap.size + 1]? = some (.cells #[.int .i64 (p : Int), .int .i64 B, .int .i64 (q : Int)] 25 (0, 0))) ∧ Below w.heap.size w W)
    (fun _ _ _ => False)
    (OwnFrom.and (OwnFrom.and (Own.from (holdsRow_own w.heap.size w3.heap.size 63 34 2 (fun pre => pre.length) (fun pre => cells2 pre) (fun _ _ => True)) _) (Own.from (at_own _ _ rfl) _)) (ownFrom_below (Nat.le_refl _) hz))
    (fun _ _ _ _ _ hs _ _ => hs)
    ⟨⟨⟨_, bL, by simpa [cells2] using hown0, trivial⟩, bR⟩, B0⟩
    (fun x a' W => ∃ Bx, w3.heap.size + 1 < Bx ∧ W.heap[Bx]? = some (.cells #[.int .i64 x.1, .int .i64 x.2] 34 (0, 0)) ∧ a' = { tmps := #[.agg #[.int .i64 ((p : Int)), .int .i64 B, .int .i64 ((q : Int))],
          .pointer (some ⟨w.heap.size, 0, none⟩), .slice none 0 0, .int .i64 0, .pointer (some ⟨w3.heap.size, 0, none⟩), .pointer (some ⟨Bx, 0, none⟩), .agg #[.int .i64 ((p : Int)), .int .i64 B, .int .i64 ((q : Int))], .bool true, .bool false, .agg #[.int .i64 ((p : Int)), .int .i64 B, .int .i64 ((q : Int))],
          .int .i64 ((p : Int) * (q : Int)), .slice (some ⟨w2.heap.size, 0, none⟩) 0 (p * q), .agg #[.int .i64 ((p : Int)), .int .i64 B, .int .i64 ((q : Int))], .func (.func 196) #[] #[.pointer (some ⟨w3.heap.size + 1, 0, none⟩)], .agg #[.int .i64 x.1, .int .i64 x.2], undef, undef, undef, undef, undef], defers := [] })
    (fun x a' _ X Y row hs hg hr => by obtain ⟨Bx, h1, h2, h3⟩ := hs; exact ⟨Bx, h1, at_own Bx _ rfl () X Y row h2 hg (fun r e => (hr r e).2), h3⟩)
    ?assign ?body ?done ?stop
  case assign =>
    rintro l pre x W K ⟨⟨⟨v, hv, hrow, _⟩, hR⟩, hB1⟩ hK
    gi_wp2
    have hlt := (Array.getElem?_eq_some_iff.1 hR).1
    have hKB : KeepB (w3.heap.size + 1) W (W.alloc (.cells #[.int .i64 x.1, .int .i64 x.2] 34)) := Below.heap_alloc W _ _ hlt
    exact hK _ _ ((KeepsOthers.alloc _ _).from _) hKB ⟨⟨⟨v, hv.alloc _, hrow.alloc _, trivial⟩, hKB.trans hR⟩, hB1.alloc hB1.size _⟩ ⟨W.heap.size, hlt, World.alloc_heap_new W _, rfl⟩
  case body =>
    rintro l pre x a' W hl ⟨r, hr⟩ ⟨⟨⟨v, hv, hrow, _⟩, hR⟩, hB1⟩ ⟨Bx, hBx, bX, rfl⟩ hlt
    have hc := hv.cell
    have hltR := (Array.getElem?_eq_some_iff.1 hR).1
    have hpq := HP.out
    have x0 : W.cell? ⟨Bx, 0, none⟩ = some (.int .i64 x.1) := by simp [World.cell?, bX]
    have x1 : W.cell? ⟨Bx, 1, none⟩ = some (.int .i64 x.2) := by simp [World.cell?, bX]
    have hne : some (w3.heap.size + 1) ≠ v.ownBlock := by
      rcases hrow.2 with ⟨rfl, _⟩ | ⟨g, cap, cur, rfl, _, hgb, _⟩
      · simp [Value.ownBlock]
      · intro e'
        obtain rfl : w3.heap.size + 1 = g := by simpa [Value.ownBlock] using e'
        rw [hR] at hgb
        simp at hgb
    gi_wp2_with (gi_at_builtin; refine wpListIn_append_own _ rfl _ _ 63 rfl w.heap.size 34 i0 (.agg #[.int .i64 0, .int .i64 0]) 2 16 Tryz.underlying63 hi0 hz0 hz1 hz2 rfl (by decide) _ _ _ rfl (hrow.alloc _) ⟨W.heap.size, 0, none⟩ 1 1 [.int .i64 x.1, .int .i64 x.2] rfl rfl (new_two _ _ _ rfl) one_two (by unfold maxLen; omega) (by omega) (by have := hB1.size; simp; omega) ?_; intro v' w6 hown' hgrow _; obtain ⟨g', cap', rfl⟩ := ownsRow_succ hown'; obtain ⟨hv1, hv2, hr2, hk2, hb2⟩ := hv.appended (by decide) hrow hB1.size (by omega) hown' hgrow; have hc1 := hv1.cell; have hf1 := hv1.frozen)
    have hg6 : w6.heap[w3.heap.size + 1]? = W.heap[w3.heap.size + 1]? := (hgrow.block _ (by simp; omega) hne).trans (Below.heap_alloc W _ _ hltR)
    have hKB : KeepB (w3.heap.size + 1) W (w6.setCell ⟨w3.heap.size, 0, none⟩ (.slice (some ⟨g', 0, none⟩) (pre.length + 1) cap')) := (Below.heap_setCell w6 _ _ _ (by simp)).trans hg6
    exact ⟨hk2.from _, hKB, ⟨⟨⟨_, hv2, by rw [cells2_snoc]; simpa using hr2, trivial⟩, hKB.trans hR⟩, hB1.trans hb2⟩⟩
  case done =>
    rintro D zs W hD rfl ⟨⟨⟨v, hv, hrow, _⟩, hR⟩, hB1⟩ hK
    have cS := hv.cell
    gi_wp2
    refine ⟨by simp, .inl ⟨_, _, rfl, run_takeDeferred hK, ?_⟩⟩
    exact ⟨_, results_tmp2 rfl _ _ _, v, rfl, ownsRow_putObj hrow _ hK rfl, hB1.trans (belowK_b (w := w) (Nat.le_refl _) W D _ _ (by omega) hK rfl rfl)⟩
  case stop =>
    rintro D c pre W _ _ h _
    exact h.elim

end Go.Proofs.YtmadgbbkkkibcaaGreatDoor
