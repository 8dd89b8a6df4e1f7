/-
  Several of my texts in one: CeS, PtS, PtH, PtG.
-/
import Derived.RangeFuncNested
import Derived.RangeFuncBound
import Derived.RangeFuncCalls
import Derived.RangeFuncLeaves
import Derived.RangeFuncBox
import Derived.Shelf.Abstract
import Derived.Shelf.RegionOpen
import Derived.WalkKit
import Derived.OwnWalkIn
import Derived.TacticsInMore
import Derived.LoopNIn
import Derived.LoopIn
import Derived.Maps.AppendAt
import Derived.Test.YtjjfomokecngoaaGreatDoorGg
import Derived.Test.YtjjfomokecngoaaGreatDoorPb
import Derived.Test.YtjjfomokecngoaaGreatDoorPa
import Derived.Test.YtjjfomokecngoaaGreatDoorGf
namespace Go.Proofs.YtjjfomokecngoaaGreatDoor
section
open Go.RowKit Go.Shelf
attribute [local go_sem] Oper.semAt_some
set_option linter.unusedSimpArgs false
set_option linter.unusedVariables false

abbrev CV (p q : Nat) := { v : Int × Int // (0 ≤ v.1 ∧ v.1 < (p : Int)) ∧ (0 ≤ v.2 ∧ v.2 < (q : Int)) }
def KeepC (Bn : Nat) (W W' : World) : Prop := W'.heap[Bn]? = W.heap[Bn]?
set_option maxRecDepth 100000 in
set_option maxHeartbeats 4000000 in
theorem cellsS_in (F : Fence) (n : Nat) (h5 : F.fn 199) (hro : F.round = none) (A B C : Int) (w : World) :
    CallsIn F n Tryz.prog 199 #[.agg #[.int .i64 A, .int .i64 B, .int .i64 C]] w fun e w' => e = .returned (.func (.func 244) #[] #[.pointer (some ⟨w.heap.size, 0, none⟩)]) ∧ w' = w.alloc (.cells #[.int .i64 A, .int .i64 B, .int .i64 C] 28) := by
  refine callsIn_of_wp Tryz.func199 rfl h5 ?_ hro
  simp only [Tryz.ntmps199, List.size_toArray, List.length_cons, List.length_nil, Nat.reduceAdd, Nat.reduceSub, Array.replicate_succ, Array.replicate_zero, List.push_toArray, List.append_toArray, List.nil_append, List.cons_append]
  gi_wp2
  go_ret
  exact ⟨rfl, rfl⟩
set_option maxRecDepth 100000 in
set_option maxHeartbeats 4000000 in
theorem cells1S_in (F : Fence) (n : Nat) (h6 : F.fn 244) (hro : F.round = none) (hn : 1 ≤ n) (l Bn p q : Nat) (hp : p ≤ 64) (hq : q ≤ 64) (J Jx : List (CV p q) → World → Prop)
    (hY : ∀ pre x W, J pre W → pre.length < p * q → YieldAt F (n - 1) Tryz.prog l #[.agg #[.int .i64 x.1.1, .int .i64 x.1.2]] W fun e W' =>
      (e = .returned (.bool true) ∧ J (pre ++ [x]) W' ∧ KeepC Bn W W') ∨ (e = .returned (.bool false) ∧ Jx (pre ++ [x]) W'))
    (W : World) (hA : W.cell? ⟨Bn, 0, none⟩ = some (.int .i64 (p : Int))) (hC : W.cell? ⟨Bn, 2, none⟩ = some (.int .i64 (q : Int))) (h0 : J [] W) :
    CallsIn F n Tryz.prog 244 #[.func (.yield l) #[] #[], .pointer (some ⟨Bn, 0, none⟩)] W fun e W' => (∃ v, e = .returned v) ∧
      ((∃ ys : List (CV p q), ys.map Subtype.val = cellP q p ∧ J ys W') ∨ (∃ pre, True ∧ Jx pre W')) := by
  refine callsIn_of_wp Tryz.func244 rfl h6 ?_ hro
  simp only [Tryz.ntmps244, List.size_toArray, List.length_cons, List.length_nil, Nat.reduceAdd, Nat.reduceSub, Array.replicate_succ, Array.replicate_zero, List.push_toArray, List.append_toArray, List.nil_append, List.cons_append]
  gi_wp2
  gi_loopw [7] (fun i wr => ∃ (a : Nat) (ys : List (CV p q)), i = .int .i64 (a : Int) ∧ a ≤ p ∧ ys.map Subtype.val = cellP q a ∧ J ys wr ∧ KeepC Bn W wr) (fun i _ => p - (intOf i).toNat)
  case atStart => exact ⟨0, [], rfl, by omega, rfl, h0, rfl⟩
  case round =>
    obtain ⟨a, ys, rfl, ha, hys, hJ, hB⟩ := hrel
    by_cases ha1 : a < p
    · have ha2 : (a : Int) < (p : Int) := by omega
      have hC1 : wr.cell? ⟨Bn, 2, none⟩ = some (.int .i64 (q : Int)) := (World.cell?_of_block (w := W) (w' := wr) (a := ⟨Bn, 2, none⟩) hB).trans hC
      gi_wp2
      gi_loopw [12] (fun i W2 => ∃ (b : Nat) (zs : List (CV p q)), i = .int .i64 (b : Int) ∧ b ≤ q ∧ zs.map Subtype.val = cellP q a ++ cellR a b ∧ J zs W2 ∧ KeepC Bn W W2) (fun i _ => q - (intOf i).toNat)
      case atStart => exact ⟨0, ys, rfl, by omega, by simpa [cellR] using hys, hJ, hB⟩
      case round =>
        obtain ⟨b, zs, rfl, hb, hzs, hJ2, hB2⟩ := hrel
        by_cases hb1 : b < q
        · have hb2 : (b : Int) < (q : Int) := by omega
          have hlt : zs.length < p * q := by
            have e : zs.length = (zs.map Subtype.val).length := (List.length_map ..).symm
            rw [e, hzs, List.length_append, cellP_len, cellR_len]
            have := Nat.mul_le_mul_right q (show a + 1 ≤ p by omega)
            rw [Nat.succ_mul] at this
            omega
          obtain ⟨fn, tmps, assign, body, hy, hR⟩ := hY _ ⟨((a : Int), (b : Int)), ⟨by omega, ha2⟩, ⟨by omega, hb2⟩⟩ _ hJ2 hlt
          dsimp only at hy
          have hk1 : (a : Int) ≤ 64 := by omega
          have hk2 : (b : Int) ≤ 64 := by omega
          gi_wp2
          refine hR.mono ?_
          rintro e W3 (⟨rfl, hJ3, hk3⟩ | ⟨rfl, hJx3⟩)
          · gi_wp2
            go_roundw
            case rel => exact ⟨b + 1, _, by go_num, by omega, by rw [cellR_succ, ← List.append_assoc, ← hzs, List.map_append]; rfl, hJ3, hk3.trans hB2⟩
            case measure => first | (simp [intOf]; done) | (simp [intOf]; omega)
          · gi_wp2
            refine bodyPost_ret (results_none rfl _ _ _) rfl ?_
            exact ⟨⟨_, rfl⟩, .inr ⟨_, trivial, hJx3⟩⟩
        · obtain rfl : b = q := by omega
          have hk1 : (a : Int) ≤ 64 := by omega
          gi_wp2
          go_roundw
          case rel => exact ⟨a + 1, zs, by go_num, by omega, by rw [cellP_succ]; exact hzs, hJ2, hB2⟩
          case measure => first | (simp [intOf]; done) | (simp [intOf]; omega)
    · obtain rfl : a = p := by omega
      gi_wp2
      go_end0
      exact ⟨⟨_, rfl⟩, .inl ⟨_, hys, hJ⟩⟩
theorem cellsS_stops (F : Fence) (n : Nat) (h6 : F.fn 244) (hro : F.round = none) (hn : 1 ≤ n) (Bn p q : Nat) (hp : p ≤ 64) (hq : q ≤ 64) (w : World) (hBn : Bn < w.heap.size)
    (hA : w.cell? ⟨Bn, 0, none⟩ = some (.int .i64 (p : Int))) (hC : w.cell? ⟨Bn, 2, none⟩ = some (.int .i64 (q : Int))) :
    SeqStopsK F n Tryz.prog 244 #[.pointer (some ⟨Bn, 0, none⟩)] (fun x : CV p q => #[.agg #[.int .i64 x.1.1, .int .i64 x.1.2]]) (KeepC Bn) (fun ys => ys.map Subtype.val = cellP q p) (fun _ => True) (p * q) w := fun l J Jx W hW _ _ hY h0 =>
  cells1S_in F n h6 hro hn l Bn p q hp hq J Jx hY W ((hW.cell (p := ⟨Bn, 0, none⟩) hBn).trans hA) ((hW.cell (p := ⟨Bn, 2, none⟩) hBn).trans hC) h0
theorem keepsF_below {W W' : World} (B : Nat) (hb : Below W.heap.size W W') : KeepsFrom B W W' :=
  ⟨hb.size, fun k o _ hk _ => (hb.block k (Array.getElem?_eq_some_iff.1 hk).1).trans hk⟩
theorem keepC_b {Bn : Nat} {w : World} (hn : Bn < w.heap.size) (W : World) (l : Nat) (o o' : Obj) (hl : w.heap.size ≤ l) (h : W.heap[l]? = some o) (_ : o.isCells = false) (_ : o.isWalk = false) : KeepC Bn W (W.putObj l o') :=
  World.putObj_heap_other (by omega)
theorem at_ownC {β : Type} (B : Nat) (o : Obj) (ho : o.isCells = true) : Own (fun (_ : β) W => W.heap[B]? = some o) := fun s X Y row hs hg hrow =>
  (hg.block B (Array.getElem?_eq_some_iff.1 hs).1 (fun e => by obtain ⟨o', h1, h2⟩ := hrow B e.symm; rw [hs] at h1; cases h1; rw [ho] at h2; cases h2)).trans hs
end
end Go.Proofs.YtjjfomokecngoaaGreatDoor

namespace Go.Proofs.YtjjfomokecngoaaGreatDoor
section
open Go.RowKit Go.Shelf
attribute [local go_sem] Oper.semAt_some
set_option linter.unusedSimpArgs false
set_option linter.unusedVariables false

theorem same_own9 {β : Type} (Bs : List Nat) (W0 : World) (h : ∀ b ∈ Bs, ∃ o : Obj, W0.heap[b]? = some o ∧ o.isCells = true) : Own (fun (_ : β) W => ∀ b ∈ Bs, W.heap[b]? = W0.heap[b]?) := fun s X Y row hs hg hrow b hb => by
  obtain ⟨o, h1, h2⟩ := h b hb
  have hx := hs b hb
  rw [h1] at hx
  exact ((hg.block b (Array.getElem?_eq_some_iff.1 hx).1 (fun e => by obtain ⟨o', k1, k2⟩ := hrow b e.symm; rw [hx] at k1; cases k1; rw [h2] at k2; cases k2)).trans hx).trans h1.symm
theorem cells_of9 {W : World} {g i : Nat} {v : Value} (h : W.cell? ⟨g, i, none⟩ = some v) : ∃ o : Obj, W.heap[g]? = some o ∧ o.isCells = true := by
  rcases ho : W.heap[g]? with _ | o
  · simp [World.cell?, ho] at h
  · refine ⟨o, rfl, ?_⟩
    rcases o <;> simp_all [World.cell?, Obj.isCells]
theorem Bx.same {g : Nat} {us : List Value} {W0 W : World} (h : Bx g us W0) (e : W.heap[g]? = W0.heap[g]?) : Bx g us W := by
  refine ⟨?_, fun i u hu => (World.cell?_of_block (w := W0) (w' := W) (a := ⟨g, i, none⟩) e).trans (h.cel i u hu)⟩
  have h1 := h.lt
  rw [Array.getElem?_eq_getElem h1] at e
  exact (Array.getElem?_eq_some_iff.1 e).1
theorem Bx.of_heap {g : Nat} {us : List Value} {T : TypeId} {W : World} (h : W.heap[g]? = some (.cells us.toArray T (0, 0))) : Bx g us W :=
  ⟨(Array.getElem?_eq_some_iff.1 h).1, fun i u e => by simp [World.cell?, h, e]⟩
abbrev V29 := Int × Int
theorem mem_cellP {p q : Nat} {x0 x1 : Int} (h : (0 ≤ x0 ∧ x0 < (p : Int)) ∧ (0 ≤ x1 ∧ x1 < (q : Int))) : ((x0, x1) : V29) ∈ cellP q p := by
  unfold cellP cellR
  refine List.mem_flatMap.2 ⟨x0.toNat, List.mem_range.2 (by omega), List.mem_map.2 ⟨x1.toNat, List.mem_range.2 (by omega), ?_⟩⟩
  rw [show ((x0.toNat : Nat) : Int) = x0 by omega, show ((x1.toNat : Nat) : Int) = x1 by omega]
/- whether a shift keeps the colours of cells -/
def kepS (A B C : Int) (F : Nat → Int) (sx sy : Int) (L : List V29) : Bool := L.all fun v => F (numP A B C (v.1 + sx) (v.2 + sy)) == F (numP A B C v.1 v.2)
/- whether a motion does -/
def kepM (A B C : Int) (F : Nat → Int) (a b c d x y : Int) (L : List V29) : Bool := L.all fun v => F (numP A B C (a * v.1 + b * v.2 + x) (c * v.1 + d * v.2 + y)) == F (numP A B C v.1 v.2)
theorem kepM_unit (A B C : Int) (F : Nat → Int) (x y : Int) (L : List V29) : kepM A B C F 1 0 0 1 x y L = kepS A B C F x y L := by
  unfold kepM kepS
  congr 1
  funext v
  rw [show 1 * v.1 + 0 * v.2 + x = v.1 + x by omega, show 0 * v.1 + 1 * v.2 + y = v.2 + y by omega]
set_option maxHeartbeats 1000000 in
theorem plus9_any (x y x' y' : Int) (w : World) (h1 : midI (x + x')) (h2 : midI (y + y')) :
    Calls Tryz.prog 154 #[.agg #[.int .i64 x, .int .i64 y], .agg #[.int .i64 x', .int .i64 y']] w fun e w' => e = .returned (.agg #[.int .i64 (x + x'), .int .i64 (y + y')]) ∧ Below w.heap.size w w' := by
  unfold midI at h1 h2
  go_enter Tryz.func154, Tryz.ntmps154
  go_wp2
  refine bodyPost_ret (v := .agg #[.int .i64 (x + x'), .int .i64 (y + y')]) (by simp [results, Tryz.results154, go_sem]) rfl ⟨rfl, ?_⟩
  repeat (first | exact Below.refl _ _ | refine Below.setCell ?_ (by simp) _ | refine Below.alloc ?_ (by simp; try omega) _)
set_option maxRecDepth 100000 in
set_option maxHeartbeats 16000000 in
theorem shiftKept_any {lo hi p q n : Nat} {f B : Int} {v : Value} {F : Nat → Int} {w : World} (h : PatI f p B q n F) (hv : SRow lo hi 1 v n F w) (sx sy : Int) (hx : -1000 ≤ sx ∧ sx ≤ 1000) (hy : -1000 ≤ sy ∧ sy ≤ 1000) :
    Calls Tryz.prog 200 #[.agg #[.int .i64 f, .int .i64 (p : Int), .int .i64 B, .int .i64 (q : Int), v], .agg #[.int .i64 sx, .int .i64 sy]] w fun e w' => e = .returned (.bool (kepS (p : Int) B (q : Int) F sx sy (cellP q p))) ∧ Below w.heap.size w w' := by
  have R := Lib.hid hv
  have HH := Lib.hid h
  obtain ⟨hp1, hp2, hq1, hq2, hn64, hn1⟩ := h.bd
  have hpq : p * q ≤ 64 := by rw [← h.nn]; exact hn64
  have HP := Lib.hid hpq
  obtain ⟨g, cap, rfl, hg, _, r⟩ := hv.irow hn1
  have hgs := hv.1
  have hgw : g < w.heap.size := by omega
  have HSM := Lib.hid (And.intro hx hy)
  clear hv h hpq hx hy
  refine (callsIn_wide (n := 3)).1 ?_
  refine callsIn_of_wp_marks Tryz.func200 rfl trivial ?_ rfl
  simp only [Tryz.ntmps200, List.size_toArray, List.length_cons, List.length_nil, Nat.reduceAdd, Nat.reduceSub, Array.replicate_succ, Array.replicate_zero, List.push_toArray, List.append_toArray, List.nil_append, List.cons_append]
  gi_wp2_with (refine ⟨trivial, ?_⟩; gi_at_call 199; refine (cellsS_in Fence.wide _ trivial rfl _ _ _ _).mono ?_; rintro e w4 ⟨rfl, rfl⟩)
  obtain ⟨W0, hW0⟩ : ∃ W0, ((((w.alloc (.cells #[.int .i64 f, .int .i64 (p : Int), .int .i64 B, .int .i64 (q : Int), .slice (some ⟨g, 0, none⟩) n cap] 40)).alloc (.cells #[.int .i64 sx, .int .i64 sy] 63)).alloc (.cells #[.bool false] 4)).alloc (.cells #[.int .i64 (p : Int), .int .i64 B, .int .i64 (q : Int)] 28)) = W0 := ⟨_, rfl⟩
  have hsz : W0.heap.size = w.heap.size + 4 := by rw [← hW0]; simp
  have PW : Bx w.heap.size [.int .i64 f, .int .i64 (p : Int), .int .i64 B, .int .i64 (q : Int), .slice (some ⟨g, 0, none⟩) n cap] W0 := by rw [← hW0]; exact (((Bx.at _ rfl).alloc _).alloc _).alloc _
  have VW : Bx (w.heap.size + 1) [.int .i64 sx, .int .i64 sy] W0 := by rw [← hW0]; exact ((Bx.at _ (by simp)).alloc _).alloc _
  have bC : W0.heap[w.heap.size + 1 + 1]? = some (.cells #[.bool false] 4 (0, 0)) := by rw [← hW0]; refine (Below.heap_alloc _ _ _ (by simp)).trans ?_; simpa using World.alloc_heap_new ((w.alloc (.cells #[.int .i64 f, .int .i64 (p : Int), .int .i64 B, .int .i64 (q : Int), .slice (some ⟨g, 0, none⟩) n cap] 40)).alloc (.cells #[.int .i64 sx, .int .i64 sy] 63)) (.cells #[.bool false] 4)
  have bR : W0.heap[w.heap.size + 1 + 1 + 1]? = some (.cells #[.int .i64 (p : Int), .int .i64 B, .int .i64 (q : Int)] 28 (0, 0)) := by rw [← hW0]; simpa using World.alloc_heap_new (((w.alloc (.cells #[.int .i64 f, .int .i64 (p : Int), .int .i64 B, .int .i64 (q : Int), .slice (some ⟨g, 0, none⟩) n cap] 40)).alloc (.cells #[.int .i64 sx, .int .i64 sy] 63)).alloc (.cells #[.bool false] 4)) (.cells #[.int .i64 (p : Int), .int .i64 B, .int .i64 (q : Int)] 28)
  have B0 : Below w.heap.size w W0 := by rw [← hW0]; repeat (first | with_reducible exact Below.refl _ _ | with_reducible assumption | with_reducible refine Below.setCell ?_ (by first | omega | (dsimp only; omega) | (simp <;> omega)) _ | with_reducible refine Below.alloc ?_ (by first | omega | (simp <;> omega)) _ | with_reducible refine bstep ?_ (by with_reducible assumption) | with_reducible refine Below.drew ?_ | with_reducible refine below_drewN ?_ _)
  have cA : W0.cell? ⟨w.heap.size + 1 + 1 + 1, 0, none⟩ = some (.int .i64 (p : Int)) := by simp [World.cell?, bR]
  have cC : W0.cell? ⟨w.heap.size + 1 + 1 + 1, 2, none⟩ = some (.int .i64 (q : Int)) := by simp [World.cell?, bR]
  have HS : Hid (∀ bb ∈ [w.heap.size, w.heap.size + 1], ∃ ob : Obj, W0.heap[bb]? = some ob ∧ ob.isCells = true) := Lib.hid (by
    intro bb hbb
    simp only [List.mem_cons, List.not_mem_nil, or_false] at hbb
    rcases hbb with rfl | rfl
    · exact cells_of9 PW.c0
    · exact cells_of9 VW.c0)
  have HPW := Lib.hid PW
  have HVW := Lib.hid VW
  rw [hW0]
  clear hW0 PW VW
  have hz := B0.size
  refine wpIn_rangeFunc_ownH rfl (by omega) (gf := 244) (lb := #[.pointer (some ⟨w.heap.size + 1 + 1 + 1, 0, none⟩)]) rfl trivial (enters_of Tryz.func244 (by kernel_rfl) rfl)
    (cellsS_stops Fence.wide (3 - 1) trivial rfl (by omega) (w.heap.size + 1 + 1 + 1) p q hp2 hq2 W0 (by omega) cA cC) (fun h k => Eq.trans k h) (keepC_b (by omega)) (Below.refl _ _) (fun _ => rfl)
    (fun pre W => (((W.heap[w.heap.size + 1 + 1]? = some (.cells #[.bool false] 4 (0, 0)) ∧ W.heap[w.heap.size + 1 + 1 + 1]? = some (.cells #[.int .i64 (p : Int), .int .i64 B, .int .i64 (q : Int)] 28 (0, 0))) ∧ (∀ bb ∈ [w.heap.size, w.heap.size + 1], W.heap[bb]? = W0.heap[bb]?)) ∧ (∀ v ∈ pre.map Subtype.val, (F (numP (p : Int) B (q : Int) (v.1 + sx) (v.2 + sy)) == F (numP (p : Int) B (q : Int) v.1 v.2)) = true)) ∧ Below w.heap.size w W)
    (fun c pre W => c = .ret ∧ W.heap[w.heap.size + 1 + 1]? = some (.cells #[.bool false] 4 (0, 0)) ∧ kepS (p : Int) B (q : Int) F sx sy (cellP q p) = false ∧ Below w.heap.size w W)
    (OwnFrom.and (OwnFrom.and (OwnFrom.and (OwnFrom.and (Own.from (at_ownC _ _ rfl) _) (Own.from (at_ownC _ _ rfl) _)) (Own.from (same_own9 _ W0 HS.out) _)) (fun s X Y row hs _ _ => hs)) (ownFrom_below (Nat.le_refl _) hz))
    (fun c => OwnFrom.and (fun s X Y row hs _ _ => hs) (OwnFrom.and (Own.from (at_ownC _ _ rfl) _) (OwnFrom.and (fun s X Y row hs _ _ => hs) (ownFrom_below (Nat.le_refl _) hz))))
    ⟨⟨⟨⟨bC, bR⟩, fun _ _ => rfl⟩, fun v hv => by simp at hv⟩, B0⟩
    (fun xx a' W => ∃ gx, w.heap.size + 1 + 1 + 1 < gx ∧ W.heap[gx]? = some (.cells #[.int .i64 xx.1.1, .int .i64 xx.1.2] 63 (0, 0)) ∧ a' = { tmps := #[.agg #[.int .i64 f, .int .i64 (p : Int), .int .i64 B, .int .i64 (q : Int), .slice (some ⟨g, 0, none⟩) n cap], .agg #[.int .i64 sx, .int .i64 sy], .pointer (some ⟨w.heap.size, 0, none⟩), .pointer (some ⟨w.heap.size + 1, 0, none⟩), .pointer (some ⟨w.heap.size + 1 + 1, 0, none⟩), .pointer (some ⟨gx, 0, none⟩), .pointer (some ⟨w.heap.size, 1, none⟩), .agg #[.int .i64 ((p : Int)), .int .i64 B, .int .i64 ((q : Int))], .func (.func 244) #[] #[.pointer (some ⟨w.heap.size + 1 + 1 + 1, 0, none⟩)], .agg #[.int .i64 xx.1.1, .int .i64 xx.1.2], undef, undef, undef, undef, undef, undef, undef, undef, undef], defers := [] })
    (fun x a' _ X Y row hs hg hr => by obtain ⟨gx, h1, h2, h3⟩ := hs; exact ⟨gx, h1, at_ownC gx _ rfl () X Y row h2 hg (fun r e => (hr r e).2), h3⟩)
    ?assign ?body ?done ?stop
  case assign =>
    rintro l pre xx W K ⟨⟨⟨⟨hC, hR⟩, hS⟩, hP⟩, hB1⟩ hK
    gi_wp2
    have hltR := (Array.getElem?_eq_some_iff.1 hR).1
    have hltC := (Array.getElem?_eq_some_iff.1 hC).1
    have hKB : KeepC (w.heap.size + 1 + 1 + 1) W (W.alloc (.cells #[.int .i64 xx.1.1, .int .i64 xx.1.2] 63)) := Below.heap_alloc W _ _ hltR
    refine hK _ _ ((KeepsOthers.alloc _ _).from _) hKB ⟨⟨⟨⟨(Below.heap_alloc W _ _ hltC).trans hC, hKB.trans hR⟩, fun bb hbb => ?_⟩, hP⟩, hB1.alloc hB1.size _⟩ ⟨W.heap.size, hltR, World.alloc_heap_new W _, rfl⟩
    obtain ⟨ob, h1, _⟩ := HS.out bb hbb
    have h2 := hS bb hbb
    rw [h1] at h2
    exact (Below.heap_alloc W _ _ (Array.getElem?_eq_some_iff.1 h2).1).trans (h2.trans h1.symm)
  case body =>
    rintro l pre xx a' W hl ⟨r9, hr⟩ ⟨⟨⟨⟨hC, hR⟩, hS⟩, hP⟩, hB1⟩ ⟨gx, hgx, bX, rfl⟩ hlt
    obtain ⟨⟨x0, x1⟩, hxx⟩ := xx
    dsimp only at bX
    have hx2 : (0 ≤ x0 ∧ x0 < (p : Int)) ∧ (0 ≤ x1 ∧ x1 < (q : Int)) := hxx
    have lC := (Array.getElem?_eq_some_iff.1 hC).1
    have lR := (Array.getElem?_eq_some_iff.1 hR).1
    have lX := (Array.getElem?_eq_some_iff.1 bX).1
    have P0 : Bx w.heap.size [.int .i64 f, .int .i64 (p : Int), .int .i64 B, .int .i64 (q : Int), .slice (some ⟨g, 0, none⟩) n cap] W.drew := (HPW.out.same (hS w.heap.size (by simp))).drew
    have V0 : Bx (w.heap.size + 1) [.int .i64 sx, .int .i64 sy] W.drew := (HVW.out.same (hS (w.heap.size + 1) (by simp))).drew
    have X0 : Bx gx [.int .i64 x0, .int .i64 x1] W.drew := (Bx.of_heap bX).drew
    have D0 : Below W.heap.size W W.drew := (Below.refl _ _).drew
    have kc0 : W.cell? ⟨w.heap.size + 1 + 1, 0, none⟩ = some (.bool false) := by simp [World.cell?, hC]
    have kf0 : W.frozen? ⟨w.heap.size + 1 + 1, 0, none⟩ = false := by simp [World.frozen?, hC]
    have hsm := HSM.out
    have HPL := Lib.hid (fun X => plus9_any x0 x1 sx sy X (by unfold midI; omega) (by unfold midI; omega))
    obtain ⟨b1, hb1⟩ : ∃ b, b = F (numP (p : Int) B (q : Int) (x0 + sx) (x1 + sy)) := ⟨_, rfl⟩
    obtain ⟨b0, hb0⟩ : ∃ b, b = F (numP (p : Int) B (q : Int) x0 x1) := ⟨_, rfl⟩
    have HA1 := Lib.hid (fun X (hX : Below W.heap.size W X) => (show Calls Tryz.prog 245 #[.agg #[.int .i64 f, .int .i64 (p : Int), .int .i64 B, .int .i64 (q : Int), .slice (some ⟨g, 0, none⟩) n cap], .agg #[.int .i64 (x0 + sx), .int .i64 (x1 + sy)]] X (fun e w' => e = .returned (.int .i64 b1) ∧ Below X.heap.size X w') from by rw [hb1]; exact at_any HH.out (R.out.call (hB1.trans (hX.mono hB1.size))) _ _ (by unfold midI; omega) (by unfold midI; omega)))
    have HA0 := Lib.hid (fun X (hX : Below W.heap.size W X) => (show Calls Tryz.prog 245 #[.agg #[.int .i64 f, .int .i64 (p : Int), .int .i64 B, .int .i64 (q : Int), .slice (some ⟨g, 0, none⟩) n cap], .agg #[.int .i64 x0, .int .i64 x1]] X (fun e w' => e = .returned (.int .i64 b0) ∧ Below X.heap.size X w') from by rw [hb0]; exact at_any HH.out (R.out.call (hB1.trans (hX.mono hB1.size))) _ _ (by unfold midI; omega) (by unfold midI; omega)))
    have HSS := Lib.hid hS
    have HPR := Lib.hid hP
    have HMEM := Lib.hid (show ((x0, x1) : V29) ∈ cellP q p from mem_cellP hxx)
    clear hr hlt hl hsm hx2 hS hP
    by_cases hbb : b1 = b0
    · have HEQ := Lib.hid (show (F (numP (p : Int) B (q : Int) (((x0, x1) : V29).1 + sx) (((x0, x1) : V29).2 + sy)) == F (numP (p : Int) B (q : Int) ((x0, x1) : V29).1 ((x0, x1) : V29).2)) = true from by dsimp only; rw [← hb1, ← hb0, hbb]; simp)
      clear hb1 hb0
      subst hbb
      gi_wp2_with fail
      refine region_held_in (ro := some l) (S := (fun W9 => (W9.cell? ⟨w.heap.size, 0, none⟩ = some (.int .i64 f) ∧ W9.cell? ⟨w.heap.size, 1, none⟩ = some (.int .i64 (p : Int)) ∧ W9.cell? ⟨w.heap.size, 2, none⟩ = some (.int .i64 B) ∧ W9.cell? ⟨w.heap.size, 3, none⟩ = some (.int .i64 (q : Int)) ∧ W9.cell? ⟨w.heap.size, 4, none⟩ = some (.slice (some ⟨g, 0, none⟩) n cap)) ∧ (W9.cell? ⟨w.heap.size + 1, 0, none⟩ = some (.int .i64 sx) ∧ W9.cell? ⟨w.heap.size + 1, 1, none⟩ = some (.int .i64 sy)) ∧ (W9.cell? ⟨gx, 0, none⟩ = some (.int .i64 x0) ∧ W9.cell? ⟨gx, 1, none⟩ = some (.int .i64 x1)))) (by kernel_rfl) (by kernel_rfl) (fun hL9 => by obtain ⟨_, _, hL9⟩ := hL9; exact hL9) ?_ (fun hHeld => ?_)
      · exact ⟨Bx.cells5 P0, Bx.cells2 V0, Bx.cells2 X0⟩
      refine wpAnyH_take (i := 0) (v := ?_) (by (simp only [List.getElem?_toArray, List.getElem?_cons_succ, List.getElem?_cons_zero]); rfl) (by kernel_rfl) (by kernel_rfl) (by kernel_rfl) (by exact fun _ _ _ h => h) (Or.inl ⟨by rfl, ?_⟩) (by assumption) ?_
      rotate_left 1
      · (intro w hSw; (try dsimp only at hSw); go_simp) <;> with_reducible rfl
      (try simp only [Act.put, List.setIfInBounds_toArray, List.set_cons_zero, List.set_cons_succ])
      refine wpAnyH_take (i := 1) (v := ?_) (by (simp only [List.getElem?_toArray, List.getElem?_cons_succ, List.getElem?_cons_zero]); rfl) (by kernel_rfl) (by kernel_rfl) (by kernel_rfl) (by exact fun _ _ _ h => h) (Or.inl ⟨by rfl, ?_⟩) (by assumption) ?_
      rotate_left 1
      · (intro w hSw; (try dsimp only at hSw); go_simp) <;> with_reducible rfl
      (try simp only [Act.put, List.setIfInBounds_toArray, List.set_cons_zero, List.set_cons_succ])
      refine wpAnyH_take (i := 2) (v := ?_) (by (simp only [List.getElem?_toArray, List.getElem?_cons_succ, List.getElem?_cons_zero]); rfl) (by kernel_rfl) (by kernel_rfl) (by kernel_rfl) (by exact fun _ _ _ h => h) (Or.inl ⟨by rfl, ?_⟩) (by assumption) ?_
      rotate_left 1
      · (intro w hSw; (try dsimp only at hSw); go_simp) <;> with_reducible rfl
      (try simp only [Act.put, List.setIfInBounds_toArray, List.set_cons_zero, List.set_cons_succ])
      refine wpAnyH_take (i := 5) (v := ?_) (by (simp only [List.getElem?_toArray, List.getElem?_cons_succ, List.getElem?_cons_zero]); rfl) (by kernel_rfl) (by kernel_rfl) (by kernel_rfl) (by exact fun _ _ _ h => h) (Or.inl ⟨by rfl, ?_⟩) (by assumption) ?_
      rotate_left 1
      · (intro w hSw; (try dsimp only at hSw); go_simp) <;> with_reducible rfl
      (try simp only [Act.put, List.setIfInBounds_toArray, List.set_cons_zero, List.set_cons_succ])
      refine wpAnyH_take (i := 6) (v := ?_) (by (simp only [List.getElem?_toArray, List.getElem?_cons_succ, List.getElem?_cons_zero]); rfl) (by kernel_rfl) (by kernel_rfl) (by kernel_rfl) (by exact fun _ _ _ h => h) (Or.inl ⟨by rfl, ?_⟩) (by assumption) ?_
      rotate_left 1
      · (intro w hSw; (try dsimp only at hSw); go_simp) <;> with_reducible rfl
      (try simp only [Act.put, List.setIfInBounds_toArray, List.set_cons_zero, List.set_cons_succ])
      refine wpAnyH_ready (rs := [3]) (by kernel_rfl) (by simp) ?_
      refine AllReadyH.cons (o := _) (by (simp only [List.getElem?_toArray, List.getElem?_cons_succ, List.getElem?_cons_zero]); rfl) (fun K hK => ?_) AllReadyH.nil
      go_simp
      go_at_call 154
      with_reducible refine (HPL.out _).mono ?_
      rintro e u1 ⟨rfl, hb1⟩
      have P1 : Bx w.heap.size [.int .i64 f, .int .i64 (p : Int), .int .i64 B, .int .i64 (q : Int), .slice (some ⟨g, 0, none⟩) n cap] u1 := (by repeat (first | with_reducible assumption | with_reducible refine Bx.drew ?_ | with_reducible refine Bx.call ?_ (by with_reducible assumption)))
      have V1 : Bx (w.heap.size + 1) [.int .i64 sx, .int .i64 sy] u1 := (by repeat (first | with_reducible assumption | with_reducible refine Bx.drew ?_ | with_reducible refine Bx.call ?_ (by with_reducible assumption)))
      have X1 : Bx gx [.int .i64 x0, .int .i64 x1] u1 := (by repeat (first | with_reducible assumption | with_reducible refine Bx.drew ?_ | with_reducible refine Bx.call ?_ (by with_reducible assumption)))
      have D1 : Below W.heap.size W u1 := (by repeat (first | with_reducible assumption | with_reducible refine Below.drew ?_ | with_reducible refine bstep ?_ (by with_reducible assumption)))
      clear hb1
      (try go_wp2_with fail)
      refine hK.out _ _ ?_ (fun hHeld => ?_)
      · (try dsimp only)
        exact ⟨Bx.cells5 P1, Bx.cells2 V1, Bx.cells2 X1⟩
      clear hK K
      (try simp only [Act.put, List.setIfInBounds_toArray, List.set_cons_zero, List.set_cons_succ])
      refine wpAnyH_ready (rs := [4]) (by kernel_rfl) (by simp) ?_
      refine AllReadyH.cons (o := _) (by (simp only [List.getElem?_toArray, List.getElem?_cons_succ, List.getElem?_cons_zero]); rfl) (fun K hK => ?_) AllReadyH.nil
      go_simp
      go_at_call 245
      with_reducible refine (HA1.out _ D1).mono ?_
      rintro e u2 ⟨rfl, hb2⟩
      have P2 : Bx w.heap.size [.int .i64 f, .int .i64 (p : Int), .int .i64 B, .int .i64 (q : Int), .slice (some ⟨g, 0, none⟩) n cap] u2 := (by repeat (first | with_reducible assumption | with_reducible refine Bx.drew ?_ | with_reducible refine Bx.call ?_ (by with_reducible assumption)))
      have V2 : Bx (w.heap.size + 1) [.int .i64 sx, .int .i64 sy] u2 := (by repeat (first | with_reducible assumption | with_reducible refine Bx.drew ?_ | with_reducible refine Bx.call ?_ (by with_reducible assumption)))
      have X2 : Bx gx [.int .i64 x0, .int .i64 x1] u2 := (by repeat (first | with_reducible assumption | with_reducible refine Bx.drew ?_ | with_reducible refine Bx.call ?_ (by with_reducible assumption)))
      have D2 : Below W.heap.size W u2 := (by repeat (first | with_reducible assumption | with_reducible refine Below.drew ?_ | with_reducible refine bstep ?_ (by with_reducible assumption)))
      clear hb2
      (try go_wp2_with fail)
      refine hK.out _ _ ?_ (fun hHeld => ?_)
      · (try dsimp only)
        exact ⟨Bx.cells5 P2, Bx.cells2 V2, Bx.cells2 X2⟩
      clear hK K
      (try simp only [Act.put, List.setIfInBounds_toArray, List.set_cons_zero, List.set_cons_succ])
      refine wpAnyH_ready (rs := [7]) (by kernel_rfl) (by simp) ?_
      refine AllReadyH.cons (o := _) (by (simp only [List.getElem?_toArray, List.getElem?_cons_succ, List.getElem?_cons_zero]); rfl) (fun K hK => ?_) AllReadyH.nil
      go_simp
      go_at_call 245
      with_reducible refine (HA0.out _ D2).mono ?_
      rintro e u3 ⟨rfl, hb3⟩
      have P3 : Bx w.heap.size [.int .i64 f, .int .i64 (p : Int), .int .i64 B, .int .i64 (q : Int), .slice (some ⟨g, 0, none⟩) n cap] u3 := (by repeat (first | with_reducible assumption | with_reducible refine Bx.drew ?_ | with_reducible refine Bx.call ?_ (by with_reducible assumption)))
      have V3 : Bx (w.heap.size + 1) [.int .i64 sx, .int .i64 sy] u3 := (by repeat (first | with_reducible assumption | with_reducible refine Bx.drew ?_ | with_reducible refine Bx.call ?_ (by with_reducible assumption)))
      have X3 : Bx gx [.int .i64 x0, .int .i64 x1] u3 := (by repeat (first | with_reducible assumption | with_reducible refine Bx.drew ?_ | with_reducible refine Bx.call ?_ (by with_reducible assumption)))
      have D3 : Below W.heap.size W u3 := (by repeat (first | with_reducible assumption | with_reducible refine Below.drew ?_ | with_reducible refine bstep ?_ (by with_reducible assumption)))
      clear hb3
      (try go_wp2_with fail)
      refine hK.out _ _ ?_ (fun hHeld => ?_)
      · (try dsimp only)
        exact ⟨Bx.cells5 P3, Bx.cells2 V3, Bx.cells2 X3⟩
      clear hK K
      (try simp only [Act.put, List.setIfInBounds_toArray, List.set_cons_zero, List.set_cons_succ])
      refine wpAnyH_take (i := 8) (v := ?_) (by (simp only [List.getElem?_toArray, List.getElem?_cons_succ, List.getElem?_cons_zero]); rfl) (by kernel_rfl) (by kernel_rfl) (by kernel_rfl) (by exact fun _ _ _ h => h) (Or.inl ⟨by rfl, ?_⟩) (by assumption) ?_
      rotate_left 1
      · (intro w hSw; (try dsimp only at hSw); go_simp) <;> with_reducible rfl
      (try simp only [Act.put, List.setIfInBounds_toArray, List.set_cons_zero, List.set_cons_succ])
      refine wpAnyH_done (by kernel_rfl) ?_ _
      gi_wp2
      refine ⟨keepsF_below _ D3, D3.block _ lR, ⟨⟨⟨⟨(D3.block _ lC).trans hC, (D3.block _ lR).trans hR⟩, fun bb hbb => ?_⟩, fun v hv => ?_⟩, hB1.trans (D3.mono hB1.size)⟩⟩
      · obtain ⟨ob, h1, _⟩ := HS.out bb hbb
        have h2 := HSS.out bb hbb
        rw [h1] at h2
        exact (D3.block _ (Array.getElem?_eq_some_iff.1 h2).1).trans (h2.trans h1.symm)
      · rw [List.map_append, List.mem_append] at hv
        rcases hv with hv | hv
        · exact HPR.out v hv
        · obtain rfl : v = (x0, x1) := by simpa using hv
          exact HEQ.out
    · have HNE := Lib.hid (show kepS (p : Int) B (q : Int) F sx sy (cellP q p) = false from by
        rw [kepS, List.all_eq_false]
        exact ⟨(x0, x1), HMEM.out, by dsimp only; rw [← hb1, ← hb0]; simpa using hbb⟩)
      have hbn : (b1 != b0) = true := by simp [hbb]
      clear hb1 hb0
      gi_wp2_with fail
      refine region_held_in (ro := some l) (S := (fun W9 => (W9.cell? ⟨w.heap.size, 0, none⟩ = some (.int .i64 f) ∧ W9.cell? ⟨w.heap.size, 1, none⟩ = some (.int .i64 (p : Int)) ∧ W9.cell? ⟨w.heap.size, 2, none⟩ = some (.int .i64 B) ∧ W9.cell? ⟨w.heap.size, 3, none⟩ = some (.int .i64 (q : Int)) ∧ W9.cell? ⟨w.heap.size, 4, none⟩ = some (.slice (some ⟨g, 0, none⟩) n cap)) ∧ (W9.cell? ⟨w.heap.size + 1, 0, none⟩ = some (.int .i64 sx) ∧ W9.cell? ⟨w.heap.size + 1, 1, none⟩ = some (.int .i64 sy)) ∧ (W9.cell? ⟨gx, 0, none⟩ = some (.int .i64 x0) ∧ W9.cell? ⟨gx, 1, none⟩ = some (.int .i64 x1)))) (by kernel_rfl) (by kernel_rfl) (fun hL9 => by obtain ⟨_, _, hL9⟩ := hL9; exact hL9) ?_ (fun hHeld => ?_)
      · exact ⟨Bx.cells5 P0, Bx.cells2 V0, Bx.cells2 X0⟩
      refine wpAnyH_take (i := 0) (v := ?_) (by (simp only [List.getElem?_toArray, List.getElem?_cons_succ, List.getElem?_cons_zero]); rfl) (by kernel_rfl) (by kernel_rfl) (by kernel_rfl) (by exact fun _ _ _ h => h) (Or.inl ⟨by rfl, ?_⟩) (by assumption) ?_
      rotate_left 1
      · (intro w hSw; (try dsimp only at hSw); go_simp) <;> with_reducible rfl
      (try simp only [Act.put, List.setIfInBounds_toArray, List.set_cons_zero, List.set_cons_succ])
      refine wpAnyH_take (i := 1) (v := ?_) (by (simp only [List.getElem?_toArray, List.getElem?_cons_succ, List.getElem?_cons_zero]); rfl) (by kernel_rfl) (by kernel_rfl) (by kernel_rfl) (by exact fun _ _ _ h => h) (Or.inl ⟨by rfl, ?_⟩) (by assumption) ?_
      rotate_left 1
      · (intro w hSw; (try dsimp only at hSw); go_simp) <;> with_reducible rfl
      (try simp only [Act.put, List.setIfInBounds_toArray, List.set_cons_zero, List.set_cons_succ])
      refine wpAnyH_take (i := 2) (v := ?_) (by (simp only [List.getElem?_toArray, List.getElem?_cons_succ, List.getElem?_cons_zero]); rfl) (by kernel_rfl) (by kernel_rfl) (by kernel_rfl) (by exact fun _ _ _ h => h) (Or.inl ⟨by rfl, ?_⟩) (by assumption) ?_
      rotate_left 1
      · (intro w hSw; (try dsimp only at hSw); go_simp) <;> with_reducible rfl
      (try simp only [Act.put, List.setIfInBounds_toArray, List.set_cons_zero, List.set_cons_succ])
      refine wpAnyH_take (i := 5) (v := ?_) (by (simp only [List.getElem?_toArray, List.getElem?_cons_succ, List.getElem?_cons_zero]); rfl) (by kernel_rfl) (by kernel_rfl) (by kernel_rfl) (by exact fun _ _ _ h => h) (Or.inl ⟨by rfl, ?_⟩) (by assumption) ?_
      rotate_left 1
      · (intro w hSw; (try dsimp only at hSw); go_simp) <;> with_reducible rfl
      (try simp only [Act.put, List.setIfInBounds_toArray, List.set_cons_zero, List.set_cons_succ])
      refine wpAnyH_take (i := 6) (v := ?_) (by (simp only [List.getElem?_toArray, List.getElem?_cons_succ, List.getElem?_cons_zero]); rfl) (by kernel_rfl) (by kernel_rfl) (by kernel_rfl) (by exact fun _ _ _ h => h) (Or.inl ⟨by rfl, ?_⟩) (by assumption) ?_
      rotate_left 1
      · (intro w hSw; (try dsimp only at hSw); go_simp) <;> with_reducible rfl
      (try simp only [Act.put, List.setIfInBounds_toArray, List.set_cons_zero, List.set_cons_succ])
      refine wpAnyH_ready (rs := [3]) (by kernel_rfl) (by simp) ?_
      refine AllReadyH.cons (o := _) (by (simp only [List.getElem?_toArray, List.getElem?_cons_succ, List.getElem?_cons_zero]); rfl) (fun K hK => ?_) AllReadyH.nil
      go_simp
      go_at_call 154
      with_reducible refine (HPL.out _).mono ?_
      rintro e u1 ⟨rfl, hb1⟩
      have P1 : Bx w.heap.size [.int .i64 f, .int .i64 (p : Int), .int .i64 B, .int .i64 (q : Int), .slice (some ⟨g, 0, none⟩) n cap] u1 := (by repeat (first | with_reducible assumption | with_reducible refine Bx.drew ?_ | with_reducible refine Bx.call ?_ (by with_reducible assumption)))
      have V1 : Bx (w.heap.size + 1) [.int .i64 sx, .int .i64 sy] u1 := (by repeat (first | with_reducible assumption | with_reducible refine Bx.drew ?_ | with_reducible refine Bx.call ?_ (by with_reducible assumption)))
      have X1 : Bx gx [.int .i64 x0, .int .i64 x1] u1 := (by repeat (first | with_reducible assumption | with_reducible refine Bx.drew ?_ | with_reducible refine Bx.call ?_ (by with_reducible assumption)))
      have D1 : Below W.heap.size W u1 := (by repeat (first | with_reducible assumption | with_reducible refine Below.drew ?_ | with_reducible refine bstep ?_ (by with_reducible assumption)))
      clear hb1
      (try go_wp2_with fail)
      refine hK.out _ _ ?_ (fun hHeld => ?_)
      · (try dsimp only)
        exact ⟨Bx.cells5 P1, Bx.cells2 V1, Bx.cells2 X1⟩
      clear hK K
      (try simp only [Act.put, List.setIfInBounds_toArray, List.set_cons_zero, List.set_cons_succ])
      refine wpAnyH_ready (rs := [4]) (by kernel_rfl) (by simp) ?_
      refine AllReadyH.cons (o := _) (by (simp only [List.getElem?_toArray, List.getElem?_cons_succ, List.getElem?_cons_zero]); rfl) (fun K hK => ?_) AllReadyH.nil
      go_simp
      go_at_call 245
      with_reducible refine (HA1.out _ D1).mono ?_
      rintro e u2 ⟨rfl, hb2⟩
      have P2 : Bx w.heap.size [.int .i64 f, .int .i64 (p : Int), .int .i64 B, .int .i64 (q : Int), .slice (some ⟨g, 0, none⟩) n cap] u2 := (by repeat (first | with_reducible assumption | with_reducible refine Bx.drew ?_ | with_reducible refine Bx.call ?_ (by with_reducible assumption)))
      have V2 : Bx (w.heap.size + 1) [.int .i64 sx, .int .i64 sy] u2 := (by repeat (first | with_reducible assumption | with_reducible refine Bx.drew ?_ | with_reducible refine Bx.call ?_ (by with_reducible assumption)))
      have X2 : Bx gx [.int .i64 x0, .int .i64 x1] u2 := (by repeat (first | with_reducible assumption | with_reducible refine Bx.drew ?_ | with_reducible refine Bx.call ?_ (by with_reducible assumption)))
      have D2 : Below W.heap.size W u2 := (by repeat (first | with_reducible assumption | with_reducible refine Below.drew ?_ | with_reducible refine bstep ?_ (by with_reducible assumption)))
      clear hb2
      (try go_wp2_with fail)
      refine hK.out _ _ ?_ (fun hHeld => ?_)
      · (try dsimp only)
        exact ⟨Bx.cells5 P2, Bx.cells2 V2, Bx.cells2 X2⟩
      clear hK K
      (try simp only [Act.put, List.setIfInBounds_toArray, List.set_cons_zero, List.set_cons_succ])
      refine wpAnyH_ready (rs := [7]) (by kernel_rfl) (by simp) ?_
      refine AllReadyH.cons (o := _) (by (simp only [List.getElem?_toArray, List.getElem?_cons_succ, List.getElem?_cons_zero]); rfl) (fun K hK => ?_) AllReadyH.nil
      go_simp
      go_at_call 245
      with_reducible refine (HA0.out _ D2).mono ?_
      rintro e u3 ⟨rfl, hb3⟩
      have P3 : Bx w.heap.size [.int .i64 f, .int .i64 (p : Int), .int .i64 B, .int .i64 (q : Int), .slice (some ⟨g, 0, none⟩) n cap] u3 := (by repeat (first | with_reducible assumption | with_reducible refine Bx.drew ?_ | with_reducible refine Bx.call ?_ (by with_reducible assumption)))
      have V3 : Bx (w.heap.size + 1) [.int .i64 sx, .int .i64 sy] u3 := (by repeat (first | with_reducible assumption | with_reducible refine Bx.drew ?_ | with_reducible refine Bx.call ?_ (by with_reducible assumption)))
      have X3 : Bx gx [.int .i64 x0, .int .i64 x1] u3 := (by repeat (first | with_reducible assumption | with_reducible refine Bx.drew ?_ | with_reducible refine Bx.call ?_ (by with_reducible assumption)))
      have D3 : Below W.heap.size W u3 := (by repeat (first | with_reducible assumption | with_reducible refine Below.drew ?_ | with_reducible refine bstep ?_ (by with_reducible assumption)))
      clear hb3
      (try go_wp2_with fail)
      refine hK.out _ _ ?_ (fun hHeld => ?_)
      · (try dsimp only)
        exact ⟨Bx.cells5 P3, Bx.cells2 V3, Bx.cells2 X3⟩
      clear hK K
      (try simp only [Act.put, List.setIfInBounds_toArray, List.set_cons_zero, List.set_cons_succ])
      refine wpAnyH_take (i := 8) (v := ?_) (by (simp only [List.getElem?_toArray, List.getElem?_cons_succ, List.getElem?_cons_zero]); rfl) (by kernel_rfl) (by kernel_rfl) (by kernel_rfl) (by exact fun _ _ _ h => h) (Or.inl ⟨by rfl, ?_⟩) (by assumption) ?_
      rotate_left 1
      · (intro w hSw; (try dsimp only at hSw); go_simp) <;> with_reducible rfl
      (try simp only [Act.put, List.setIfInBounds_toArray, List.set_cons_zero, List.set_cons_succ])
      refine wpAnyH_done (by kernel_rfl) ?_ _
      have kc := ((World.cell?_of_block (w := W) (w' := u3) (a := ⟨w.heap.size + 1 + 1, 0, none⟩) (D3.block _ lC)).trans kc0)
      have kf := ((World.frozen?_of_block (w := W) (w' := u3) (a := ⟨w.heap.size + 1 + 1, 0, none⟩) (D3.block _ lC)).trans kf0)
      gi_wp2
      have b5 : Boxed u3 (w.heap.size + 1 + 1) 4 (.bool false) := (D3.block _ lC).trans hC
      have e5 := b5.set (.bool false)
      have l5 := D3.size
      refine ⟨(keepsF_below _ D3).trans ((KeepsOthers.setCell u3 ⟨w.heap.size + 1 + 1, 0, none⟩ _).from _), ⟨rfl, by simpa [Boxed] using e5, HNE.out, (hB1.trans (D3.mono hB1.size)).setCell (by dsimp only; omega) _⟩⟩
  case done =>
    rintro D zs W hD hzs ⟨⟨⟨⟨hC, hR⟩, hS⟩, hP⟩, hB1⟩ hK
    have lC := (Array.getElem?_eq_some_iff.1 hC).1
    have kc0 : W.cell? ⟨w.heap.size + 1 + 1, 0, none⟩ = some (.bool false) := by simp [World.cell?, hC]
    have kf0 : W.frozen? ⟨w.heap.size + 1 + 1, 0, none⟩ = false := by simp [World.frozen?, hC]
    have hall : kepS (p : Int) B (q : Int) F sx sy (cellP q p) = true := by
      rw [kepS, List.all_eq_true]
      intro v hv
      rw [hzs] at hP
      exact hP v hv
    have kc1 : (W.setCell ⟨w.heap.size + 1 + 1, 0, none⟩ (.bool true)).cell? ⟨w.heap.size + 1 + 1, 0, none⟩ = some (.bool true) := World.cell?_setCell_same _ _ _ kc0
    have hK1 : (W.setCell ⟨w.heap.size + 1 + 1, 0, none⟩ (.bool true)).heap[D]? = some (.deferred (some [])) := (Below.heap_setCell W _ _ D (by dsimp only; omega)).trans hK
    have hB2 : Below w.heap.size w (W.setCell ⟨w.heap.size + 1 + 1, 0, none⟩ (.bool true)) := hB1.setCell (by dsimp only; omega) _
    gi_wp2
    refine ⟨by simp, .inl ⟨_, _, rfl, run_takeDeferred hK1, ?_⟩⟩
    have kc2 : ((W.setCell ⟨w.heap.size + 1 + 1, 0, none⟩ (.bool true)).putObj D (.deferred none)).cell? ⟨w.heap.size + 1 + 1, 0, none⟩ = some (.bool true) := (World.cell?_of_block (World.putObj_heap_other (by dsimp only; omega))).trans kc1
    refine ⟨.bool true, ?_, ret_bool hall.symm, hB2.trans (belowK_b (w := w) (Nat.le_refl _) _ D _ _ (by omega) hK1 rfl rfl)⟩
    simp [results, Tryz.results200, go_sem, kc2]
  case stop =>
    rintro D c pre W hD _ ⟨rfl, hC, hno, hB1⟩ hK
    have kc0 : W.cell? ⟨w.heap.size + 1 + 1, 0, none⟩ = some (.bool false) := by simp [World.cell?, hC]
    gi_wp2
    refine ⟨by simp, .inl ⟨_, _, rfl, run_takeDeferred hK, ?_⟩⟩
    have kc2 : (W.putObj D (.deferred none)).cell? ⟨w.heap.size + 1 + 1, 0, none⟩ = some (.bool false) := (World.cell?_of_block (World.putObj_heap_other (by dsimp only; omega))).trans kc0
    refine ⟨.bool false, ?_, ret_bool hno.symm, hB1.trans (belowK_b (w := w) (Nat.le_refl _) _ D _ _ (by omega) hK rfl rfl)⟩
    simp [results, Tryz.results200, go_sem, kc2]
end
end Go.Proofs.YtjjfomokecngoaaGreatDoor

namespace Go.Proofs.YtjjfomokecngoaaGreatDoor
section
open Go.RowKit
set_option linter.unusedSimpArgs false
set_option linter.unusedVariables false

/- the vectors that a state spans -/
def Spn (s : Int × Int × Int) (x y : Int) : Prop := ∃ k, y = k * s.2.1 ∧ s.2.2 ∣ x - k * s.1
theorem Spn_step (s : Int × Int × Int) (v : Int × Int) (x y : Int) : Spn (spStep s v) x y ↔ ∃ n, Spn s (x - n * v.1) (y - n * v.2) := by
  obtain ⟨sx, sy, f⟩ := s
  obtain ⟨vx, vy⟩ := v
  obtain ⟨a, b, c, d, e, he, hd, h1, h2, h3, h4⟩ := eu_basis sx sy vx vy
  have es : spStep (sx, sy, f) (vx, vy) = ((eu sx sy vx vy).1, (eu sx sy vx vy).2.1, gcdI f (eu sx sy vx vy).2.2) := rfl
  rw [es]
  generalize (eu sx sy vx vy).1 = P at *
  generalize (eu sx sy vx vy).2.1 = Q at *
  generalize (eu sx sy vx vy).2.2 = R at *
  unfold Spn
  dsimp only
  constructor
  · rintro ⟨k, hy, m, hm⟩
    obtain ⟨u, t, hut⟩ := bez R.natAbs f R (Nat.le_refl _)
    refine ⟨k * b + m * t * d, k * a + m * t * c, ?_, m * u, ?_⟩
    · subst h2
      rw [hy]
      have h5 : m * t * (c * sy + d * vy) = 0 := by rw [h4]; simp
      grind
    · subst h1 h3
      rw [← hut] at hm
      grind
  · rintro ⟨n, k, hy, j, hj⟩
    have he2 : e * e = 1 := by rcases he with rfl | rfl <;> simp
    obtain ⟨p1, hp1⟩ := gcdI_dvd_left f R
    obtain ⟨p2, hp2⟩ := gcdI_dvd_right f R
    refine ⟨e * (k * d - n * c), ?_, e * (n * a - k * b) * p2 + j * p1, ?_⟩
    · subst h2
      have h5 : y = n * vy + k * sy := by omega
      have h6 : e * sy = d * (a * sy + b * vy) - b * (c * sy + d * vy) := by subst hd; grind
      have h7 : e * vy = -c * (a * sy + b * vy) + a * (c * sy + d * vy) := by subst hd; grind
      rw [h4] at h6 h7
      have h8 : y = e * (e * (n * vy + k * sy)) := by rw [← Int.mul_assoc, he2, Int.one_mul, h5]
      rw [h8]
      have h9 : e * (n * vy + k * sy) = n * (e * vy) + k * (e * sy) := by grind
      rw [h9, h6, h7]
      grind
    · have h5 : x = n * vx + k * sx + f * j := by omega
      have h6 : e * sx = d * P - b * R := by subst hd h1 h3; grind
      have h7 : e * vx = -c * P + a * R := by subst hd h1 h3; grind
      have h8 : n * vx + k * sx = e * (n * (e * vx) + k * (e * sx)) := by
        have : e * (n * (e * vx) + k * (e * sx)) = (e * e) * (n * vx + k * sx) := by grind
        rw [this, he2, Int.one_mul]
      rw [h5, h8, h6, h7]
      have h9 : gcdI f R * (e * (n * a - k * b) * p2 + j * p1) = e * (n * a - k * b) * (gcdI f R * p2) + (gcdI f R * p1) * j := by grind
      rw [h9, ← hp2, ← hp1]
      grind
theorem emod9 {a b f : Int} (h : f ∣ a - b) : a % f = b % f := by
  obtain ⟨k, hk⟩ := h
  have : a = b + f * k := by omega
  rw [this, Int.add_mul_emod_self_left]
theorem Spn_zero (s : Int × Int × Int) : Spn s 0 0 := ⟨0, by simp, by simp⟩
/- states that span a lattice -/
def okS (s : Int × Int × Int) : Prop := 0 < s.2.2 ∧ s.2.1 ≠ 0
theorem Spn_self (s : Int × Int × Int) : Spn s s.1 s.2.1 := ⟨1, by simp, by simp⟩
theorem Spn_flat (s : Int × Int × Int) : Spn s s.2.2 0 := ⟨0, by simp, by simp⟩
theorem Spn_old {s : Int × Int × Int} (v : Int × Int) {x y : Int} (h : Spn s x y) : Spn (spStep s v) x y := (Spn_step s v x y).2 ⟨0, by simpa using h⟩
theorem okS_dvd {s t : Int × Int × Int} (ht : okS t) (h : ∀ x y, Spn s x y → Spn t x y) : t.2.2 ∣ s.2.2 ∧ t.2.1 ∣ s.2.1 := by
  obtain ⟨k, h1, h2⟩ := h _ _ (Spn_flat s)
  obtain ⟨j, h3, _⟩ := h _ _ (Spn_self s)
  have h0 : k = 0 := by
    rcases Int.mul_eq_zero.1 h1.symm with h | h
    · exact h
    · exact (ht.2 h).elim
  subst h0
  exact ⟨by simpa using h2, ⟨j, by rw [h3]; exact Int.mul_comm _ _⟩⟩
theorem okS_step {s : Int × Int × Int} (v : Int × Int) (hs : okS s) : okS (spStep s v) := by
  have h1 : (spStep s v).2.2 = gcdI s.2.2 (eu s.1 s.2.1 v.1 v.2).2.2 := rfl
  refine ⟨by rw [h1]; exact gcdI_pos_left _ hs.1, fun h0 => ?_⟩
  obtain ⟨k, h2, _⟩ := Spn_old v (Spn_self s)
  rw [h0] at h2
  exact hs.2 (by simpa using h2)
theorem nrm_same {s t : Int × Int × Int} (hs : okS s) (ht : okS t) (h : ∀ x y, Spn s x y ↔ Spn t x y) : nrm s.2.2 s.1 s.2.1 = nrm t.2.2 t.1 t.2.1 := by
  obtain ⟨a1, a2⟩ := okS_dvd ht (fun x y => (h x y).1)
  obtain ⟨b1, b2⟩ := okS_dvd hs (fun x y => (h x y).2)
  have hf : s.2.2 = t.2.2 := Int.dvd_antisymm (by have := hs.1; omega) (by have := ht.1; omega) b1 a1
  have hy : s.2.1.natAbs = t.2.1.natAbs := Nat.dvd_antisymm (Int.natAbs_dvd_natAbs.2 b2) (Int.natAbs_dvd_natAbs.2 a2)
  obtain ⟨k, h3, h4⟩ := (h _ _).1 (Spn_self s)
  obtain ⟨sx, sy, f⟩ := s
  obtain ⟨tx, ty, f'⟩ := t
  dsimp only at *
  subst hf
  have ht0 := ht.2
  dsimp only at ht0
  have hc : sy = ty ∨ sy = -ty := by omega
  rcases hc with rfl | rfl
  · have hk : k = 1 := by
      have : (k - 1) * sy = 0 := by grind
      rcases Int.mul_eq_zero.1 this with h | h
      · omega
      · exact (ht0 h).elim
    subst hk
    exact nrm_mod _ _ _ _ (by simpa using h4)
  · have hk : k = -1 := by
      have : (k + 1) * ty = 0 := by grind
      rcases Int.mul_eq_zero.1 this with h | h
      · omega
      · exact (ht0 h).elim
    subst hk
    have h5 : f ∣ sx + tx := by have e : sx - -1 * tx = sx + tx := by omega
                                rwa [e] at h4
    unfold nrm
    have hm : (-sx) % f = tx % f := emod9 (by rw [show -sx - tx = -(sx + tx) from by omega]; exact Int.dvd_neg.2 h5)
    by_cases hn : ty < 0
    · rw [if_neg (by omega), if_pos hn]
      have hm2 : sx % f = (-tx) % f := emod9 (by rw [show sx - -tx = sx + tx from by omega]; exact h5)
      rw [hm2]
    · rw [if_pos (by omega), if_neg hn, hm]
      simp
end
end Go.Proofs.YtjjfomokecngoaaGreatDoor

namespace Go.Proofs.YtjjfomokecngoaaGreatDoor
section
open Go.RowKit
set_option linter.unusedSimpArgs false
set_option linter.unusedVariables false

def kptA (A B C : Int) (F : Nat → Int) (v : V29) : Bool := kepS A B C F v.1 v.2 (cellP C.toNat A.toNat)
def basL (A B C : Int) : List (Int × Int) := [(A, 0), (B, C)]
/- the state behind some cells: those that keep the colours are taken in -/
def stS (A B C : Int) (F : Nat → Int) (pre : List V29) : Int × Int × Int := (pre.filter (kptA A B C F)).foldl spStep (B, C, A)
def nrmS (s : Int × Int × Int) : Int × Int × Int := nrm s.2.2 s.1 s.2.1
def fulP (A B C : Int) (F : Nat → Int) (pre : List V29) : Int × Int × Int := nrmS (stS A B C F pre)
def fulI (A B C : Int) (F : Nat → Int) : Int × Int × Int := fulP A B C F (cellP C.toNat A.toNat)
theorem basL_fold {A B C : Int} (h : latI A B C) : spFold (basL A B C) = (B, C, A) := by
  have h1 := h.1
  have h2 := h.2.1
  have e1 : spFold [(A, 0)] = (0, 0, A) := by
    rw [spFold_one, if_pos rfl, gcdI_z]
    rw [show ((A.natAbs : Nat) : Int) = A by omega]
  have e2 : spFold (basL A B C) = spStep (spFold [(A, 0)]) (B, C) := rfl
  rw [e2, e1]
  have e3 : eu 0 0 B C = (B, C, 0) := by
    rw [eu_step _ _ _ (by omega)]
    simp [eu_zero]
  unfold spStep
  simp only [e3]
  simp [gcdI]
  omega
theorem okS_start {A B C : Int} (h : latI A B C) : okS (B, C, A) := ⟨by have := h.1; dsimp only; omega, by have := h.2.1; dsimp only; omega⟩
theorem okS_fold (L : List (Int × Int)) : ∀ s, okS s → okS (L.foldl spStep s) := by
  induction L with
  | nil => exact fun s h => h
  | cons v L ih => exact fun s h => ih _ (okS_step v h)
theorem okS_st {A B C : Int} (h : latI A B C) (F : Nat → Int) (pre : List V29) : okS (stS A B C F pre) := okS_fold _ _ (okS_start h)
theorem st_le {s : Int × Int × Int} (v : Int × Int) (hs : okS s) : (spStep s v).2.2 ≤ s.2.2 ∧ (spStep s v).2.1.natAbs ≤ s.2.1.natAbs := by
  obtain ⟨h1, h2⟩ := okS_dvd (okS_step v hs) (fun x y h => Spn_old (s := s) v h)
  refine ⟨Int.le_of_dvd hs.1 h1, Nat.le_of_dvd (Int.natAbs_pos.2 hs.2) (Int.natAbs_dvd_natAbs.2 h2)⟩
theorem latI_nrm {s : Int × Int × Int} (hs : okS s) (h64 : s.2.2 * (s.2.1.natAbs : Int) ≤ 64) : latI (nrmS s).1 (nrmS s).2.1 (nrmS s).2.2 := by
  have h1 := nrm_A s.2.2 s.1 s.2.1
  have h2 := nrm_C s.2.2 s.1 s.2.1
  have h3 := nrm_B s.2.2 s.1 s.2.1 hs.1
  have h4 := hs.2
  have h5 := hs.1
  unfold nrmS
  unfold latI
  rw [h1, h2]
  exact ⟨by omega, by omega, h3.1, h3.2, h64⟩
def bdS (s : Int × Int × Int) : Prop := okS s ∧ s.2.2 * (s.2.1.natAbs : Int) ≤ 64
theorem bdS_step {s : Int × Int × Int} (v : Int × Int) (h : bdS s) : bdS (spStep s v) := by
  have h1 := st_le v h.1
  have h2 := okS_step v h.1
  refine ⟨h2, Int.le_trans (Int.mul_le_mul h1.1 (by omega) (by omega) (by have := h.1.1; omega)) h.2⟩
theorem bdS_fold (L : List (Int × Int)) : ∀ s, bdS s → bdS (L.foldl spStep s) := by
  induction L with
  | nil => exact fun s h => h
  | cons v L ih => exact fun s h => ih _ (bdS_step v h)
theorem bdS_start {A B C : Int} (h : latI A B C) : bdS (B, C, A) := ⟨okS_start h, by
  dsimp only
  rw [show ((C.natAbs : Nat) : Int) = C by have := h.2.1; omega]
  exact h.2.2.2.2⟩
theorem fulP_lat {A B C : Int} (h : latI A B C) (F : Nat → Int) (pre : List V29) : latI (fulP A B C F pre).1 (fulP A B C F pre).2.1 (fulP A B C F pre).2.2 := by
  have h1 := bdS_fold (pre.filter (kptA A B C F)) _ (bdS_start h)
  exact latI_nrm h1.1 h1.2
theorem has_nrm {s : Int × Int × Int} (hs : okS s) (x y : Int) : hasB (nrmS s).1 (nrmS s).2.1 (nrmS s).2.2 x y = true ↔ Spn s x y := by
  rw [hasB_iff]
  exact nrm_has hs.2
theorem nrm_lat {A B C : Int} (h : latI A B C) : nrm A B C = (A, B, C) := by
  unfold nrm
  rw [if_neg (by have := h.2.1; omega), Int.emod_eq_of_lt h.2.2.1 h.2.2.2.1]
theorem Spn_lat {A B C : Int} (h : latI A B C) (x y : Int) : Spn (B, C, A) x y ↔ hasI A B C x y := by
  have e := nrm_has (f := A) (sx := B) (x := x) (y := y) (show C ≠ 0 by have := h.2.1; omega)
  rw [nrm_lat h] at e
  exact e.symm
theorem stS_snoc (A B C : Int) (F : Nat → Int) (pre : List V29) (v : V29) : stS A B C F (pre ++ [v]) = if kptA A B C F v = true then spStep (stS A B C F pre) v else stS A B C F pre := by
  unfold stS
  rw [List.filter_append, List.foldl_append]
  by_cases h : kptA A B C F v = true
  · simp [h]
  · simp [h]
theorem fulP_out {A B C : Int} {F : Nat → Int} {pre : List V29} {v : V29} (h : kptA A B C F v = false) : fulP A B C F (pre ++ [v]) = fulP A B C F pre := by
  unfold fulP
  rw [stS_snoc, if_neg (by simp [h])]
theorem fulP_has {A B C : Int} (hl : latI A B C) {F : Nat → Int} {pre : List V29} {v : V29} (h : hasB (fulP A B C F pre).1 (fulP A B C F pre).2.1 (fulP A B C F pre).2.2 v.1 v.2 = true) : fulP A B C F (pre ++ [v]) = fulP A B C F pre := by
  have hs := okS_st hl F pre
  have hv := (has_nrm hs v.1 v.2).1 h
  rcases hk : kptA A B C F v with _ | _
  · exact fulP_out hk
  · unfold fulP
    rw [stS_snoc, if_pos hk]
    refine nrm_same (okS_step v hs) hs fun x y => ⟨fun h9 => ?_, fun h9 => Spn_old v h9⟩
    obtain ⟨n, k, h1, h2⟩ := (Spn_step _ v x y).1 h9
    obtain ⟨j, h3, h4⟩ := hv
    refine ⟨k + n * j, by rw [Int.add_mul]; have : n * v.2 = n * j * (stS A B C F pre).2.1 := by rw [h3, Int.mul_assoc]
                          omega, ?_⟩
    have e : x - (k + n * j) * (stS A B C F pre).1 = (x - n * v.1 - k * (stS A B C F pre).1) + n * (v.1 - j * (stS A B C F pre).1) := by grind
    rw [e]
    exact Int.dvd_add h2 (Int.dvd_mul_of_dvd_right h4)
theorem fulP_in {A B C : Int} (hl : latI A B C) {F : Nat → Int} {pre : List V29} {v : V29} (hk : kptA A B C F v = true) : latL [((fulP A B C F pre).1, 0), ((fulP A B C F pre).2.1, (fulP A B C F pre).2.2), v] = fulP A B C F (pre ++ [v]) := by
  have hs := okS_st hl F pre
  have h2 := fulP_lat hl F pre
  have hn := fun x y => (has_nrm hs x y).symm.trans (hasB_iff _ _ _ x y)
  unfold fulP at *
  rw [stS_snoc, if_pos hk]
  generalize stS A B C F pre = s at *
  generalize nrmS s = t at *
  obtain ⟨a, b, c⟩ := t
  dsimp only at *
  have e1 : latL [(a, 0), (b, c), v] = nrmS (spStep (b, c, a) v) := by
    have := basL_fold h2
    unfold latL nrmS
    rw [show spFold [(a, 0), (b, c), v] = spStep (spFold (basL a b c)) v from rfl, this]
  rw [e1]
  refine nrm_same (okS_step v (okS_start h2)) (okS_step v hs) fun x y => ?_
  rw [Spn_step, Spn_step]
  refine exists_congr fun n => ?_
  rw [Spn_lat h2, hn]
theorem span_pos {A B C : Int} (h : latI A B C) (v : V29) : 0 < (spFold [(A, 0), (B, C), v]).2.2 := by
  rw [show spFold [(A, 0), (B, C), v] = spStep (spFold (basL A B C)) v from rfl, basL_fold h]
  exact (okS_step v (okS_start h)).1
/- the model's list -/
def fulM (A B C : Int) (F : Nat → Int) : List (Int × Int) := basL A B C ++ (cellP C.toNat A.toNat).filter (kptA A B C F)
theorem fulM_lat {A B C : Int} (h : latI A B C) (F : Nat → Int) : latL (fulM A B C F) = fulI A B C F := by
  unfold latL fulI fulP nrmS stS fulM
  rw [show spFold (basL A B C ++ (cellP C.toNat A.toNat).filter (kptA A B C F)) = ((cellP C.toNat A.toNat).filter (kptA A B C F)).foldl spStep (spFold (basL A B C)) from List.foldl_append, basL_fold h]
def bdT (t : Int × Int × Int) : Prop := okS t ∧ 0 ≤ t.1 ∧ t.1 < t.2.2 ∧ t.2.2 ≤ 64 ∧ t.2.1.natAbs ≤ 64
theorem bdT_step {t : Int × Int × Int} (v : Int × Int) (h : bdT t) : bdT (hmStep t v) := by
  have h1 := okS_step v h.1
  have h2 := st_le v h.1
  have e := hm_pos (s := t) (v := v) h1.1
  rw [e]
  obtain ⟨h3, h4, h5, h6, h7⟩ := h
  refine ⟨h1, ?_, ?_, ?_, ?_⟩
  · exact Int.emod_nonneg _ (by have := h1.1; omega)
  · exact Int.emod_lt_of_pos _ h1.1
  · dsimp only; omega
  · dsimp only; omega
theorem bdT_fold (L : List (Int × Int)) : ∀ t, bdT t → bdT (L.foldl hmStep t) := by
  induction L with
  | nil => exact fun s h => h
  | cons v L ih => exact fun s h => ih _ (bdT_step v h)
theorem basL_hm {A B C : Int} (h : latI A B C) : hmFold (basL A B C) = (B, C, A) ∧ hmFold [(A, 0)] = (0, 0, A) := by
  have h1 := h.1
  have h2 := h.2.1
  have e1 : spFold [(A, 0)] = (0, 0, A) := by
    rw [spFold_one, if_pos rfl, gcdI_z]
    rw [show ((A.natAbs : Nat) : Int) = A by omega]
  have e2 : hmFold [(A, 0)] = (0, 0, A) := by
    have : hmFold [(A, 0)] = hmStep (0, 0, 0) (A, 0) := rfl
    rw [this]
    have e3 : spStep (0, 0, 0) (A, 0) = (0, 0, A) := e1
    rw [hm_pos (by rw [e3]; dsimp only; omega), e3]
    simp
  refine ⟨?_, e2⟩
  have e4 : hmFold (basL A B C) = hmStep (hmFold [(A, 0)]) (B, C) := rfl
  have e5 : spStep (0, 0, A) (B, C) = (B, C, A) := by
    have := basL_fold h
    rw [show spFold (basL A B C) = spStep (spFold [(A, 0)]) (B, C) from rfl, e1] at this
    exact this
  rw [e4, e2, hm_pos (by rw [e5]; dsimp only; omega), e5]
  simp only [Prod.mk.injEq, and_true]
  exact Int.emod_eq_of_lt h.2.2.1 h.2.2.2.1
theorem bdT_stB {t : Int × Int × Int} (h : bdT t) : stB 1000000 t := by
  obtain ⟨h1, h2, h3, h4, h5⟩ := h
  have := h1.1
  exact ⟨by omega, by omega, by omega, by omega⟩
theorem fulM_st {A B C : Int} (h : latI A B C) (M : List (Int × Int)) (i : Nat) : stB 1000000 (((basL A B C ++ M).take i).foldl hmStep (0, 0, 0)) := by
  have hb := latI_bd h
  have hbt : bdT (B, C, A) := ⟨okS_start h, h.2.2.1, h.2.2.2.1, hb.1, by have := h.2.1; dsimp only; omega⟩
  obtain ⟨e1, e2⟩ := basL_hm h
  match i with
  | 0 => exact stB_zero _
  | 1 =>
    rw [show (basL A B C ++ M).take 1 = [(A, 0)] from rfl, show [(A, 0)].foldl hmStep (0, 0, 0) = hmFold [(A, 0)] from rfl, e2]
    have := h.1
    exact ⟨by simp, by simp, by dsimp only; omega, by dsimp only; omega⟩
  | i + 2 =>
    rw [show (basL A B C ++ M).take (i + 2) = basL A B C ++ M.take i from rfl, List.foldl_append, show (basL A B C).foldl hmStep (0, 0, 0) = hmFold (basL A B C) from rfl, e1]
    exact bdT_stB (bdT_fold _ _ hbt)
theorem fulM_pos {A B C : Int} (h : latI A B C) (M : List (Int × Int)) : 0 < (hmFold (basL A B C ++ M)).2.2 := by
  have hb := latI_bd h
  have hbt : bdT (B, C, A) := ⟨okS_start h, h.2.2.1, h.2.2.2.1, hb.1, by have := h.2.1; dsimp only; omega⟩
  unfold hmFold
  rw [List.foldl_append, show (basL A B C).foldl hmStep (0, 0, 0) = hmFold (basL A B C) from rfl, (basL_hm h).1]
  exact (bdT_fold _ _ hbt).1.1
set_option maxHeartbeats 4000000 in
theorem hermite9_any (L : List (Int × Int)) (g cap : Nat) (w : World) (hV : VL g L w) (hL : vecsB L) (hn : L.length ≤ 100000) (h0 : 0 < (hmFold L).2.2) (hB9 : ∀ i, stB 1000000 ((L.take i).foldl hmStep (0, 0, 0))) :
    Calls Tryz.prog 231 #[.slice (some ⟨g, 0, none⟩) L.length cap] w fun e w' => e = .returned (.agg #[.int .i64 ((latL L).1), .int .i64 ((latL L).2.1), .int .i64 ((latL L).2.2)]) ∧ Below w.heap.size w w' := by
  have HV := Lib.hid hV
  have HL := Lib.hid hL
  have H0 := Lib.hid h0
  have H9 := Lib.hid hB9
  clear hV hL h0 hB9
  go_enter Tryz.func231, Tryz.ntmps231
  go_wp2_with fail
  go_loopw [4, 5] (fun f i W => ∃ (k : Nat) (s : Int × Int × Int), i = .int .i64 k ∧ f = .int .i64 s.2.2 ∧ k ≤ L.length ∧ Hid (s = (L.take k).foldl hmStep (0, 0, 0)) ∧ Hid (stB (1000000) s) ∧ KW (w.heap.size + 1) s.1 s.2.1 W ∧ KL w.heap.size 0 0 0 W ∧ Below w.heap.size w W) (fun _ i _ => L.length - (intOf i).toNat)
  case atStart => exact ⟨0, (0, 0, 0), rfl, rfl, Nat.zero_le _, rfl, stB_zero _, KW.at _ (by simp), (KL.at _ rfl).alloc _, Below.alloc (Below.alloc (Below.refl _ _) (Nat.le_refl _) _) (by simp) _⟩
  case round =>
    obtain ⟨k, ⟨sx, sy, f⟩, rfl, rfl, hk, hS, hT, K1, K2, hB⟩ := hrel
    simp only at K1
    by_cases h1 : k < L.length
    · have hk0 : (0 : Int) ≤ (k : Int) := by omega
      have hk1 : (k : Int) < (L.length : Int) := by omega
      have hBs := hB.size
      obtain ⟨c0, c1⟩ := (HV.out.grow hB HV.out.1).2 k h1
      have VB := Lib.hid (HL.out L[k] (List.getElem_mem h1))
      have J0 := Lib.hid (stB_J (Nat.le_refl _) hT.out VB.out.1 VB.out.2)
      have hK : 1001 * 1000000 ≤ 1100000000000000000 := by omega
      have HN := Lib.hid (H9.out (k + 1))
      have HF := Lib.hid (fold_take hmStep L k h1 (0, 0, 0))
      rename World => W1
      have fb : f.natAbs ≤ 1000000 ∧ 0 ≤ f := ⟨hT.out.2.2.2, hT.out.2.2.1⟩
      have ne : w.heap.size + 1 < W1.heap.size := K1.lt
      clear hT
      generalize L[k] = v at *
      obtain ⟨x, y⟩ := v
      simp only at c0 c1 VB J0 HN HF
      have hB1 : Below w.heap.size w (W1.alloc (.cells #[.int .i64 x, .int .i64 y] 63)) := hB.alloc hBs _
      go_wp2_with fail
      go_loopw [20] (fun _ W => ∃ px py vx vy : Int, Hid (eu px py vx vy = eu sx sy x y) ∧ Hid (euJ (1001 * 1000000) px py vx vy) ∧ KW (w.heap.size + 1) px py W ∧ KW W1.heap.size vx vy W ∧ KL w.heap.size 0 0 0 W ∧ Below w.heap.size w W) (fun _ W => cellAbs W1.heap.size W)
      case atStart => exact ⟨sx, sy, x, y, rfl, J0.out, K1.alloc _, KW.at _ rfl, K2.alloc _, hB1⟩
      case round =>
        clear c0 c1 K1 K2 hB hB1
        obtain ⟨px, py, vx, vy, hE, hJ, KS, KV, KR, BB⟩ := hrel
        obtain ⟨s0, s1, s2, s3, s4⟩ := id KS
        obtain ⟨v0, v1, v2, v3, v4⟩ := id KV
        have sz := BB.size
        have ne1 : ¬ w.heap.size + 1 = W1.heap.size := by omega
        have ne2 : ¬ W1.heap.size = w.heap.size + 1 := by omega
        by_cases h0 : vy = 0
        · subst h0
          have e0 := Lib.hid ((eu_zero px py vx).symm.trans hE.out)
          obtain ⟨f1, f2⟩ := fb
          obtain ⟨_, _, _, j4, j5⟩ := hJ.out
          have e1 : spStep (sx, sy, f) (x, y) = (px, py, gcdI f vx) := by simp [spStep, ← e0.out]
          have gb := gcdI_bd (a := f) (b := vx) (M := 1001 * 1000000) (by omega) (by omega)
          have gn := gcdI_nn f vx
          by_cases hg : 0 < gcdI f vx
          · have e2 := hm_pos (s := (sx, sy, f)) (v := (x, y)) (by rw [e1]; exact hg)
            rw [e1] at e2
            have E1 := Lib.hid (show (px % gcdI f vx, py, gcdI f vx) = (L.take (k + 1)).foldl hmStep (0, 0, 0) by rw [HF.out, ← hS.out, e2])
            have E2 := Lib.hid (show stB (1000000) (px % gcdI f vx, py, gcdI f vx) by rw [E1.out]; exact HN.out)
            clear e1 e2 HN HF VB J0 hJ hE
            go_wp2_with fail
            refine (divisorBigB_any f vx _ (by omega) (by omega) (by omega) (by omega)).mono ?_
            rintro e w2 ⟨rfl, hb2⟩
            have KS2 := KS.call hb2
            have KV2 := KV.call hb2
            have KR2 := KR.call hb2
            have BB2 := bstep BB hb2
            obtain ⟨t0, t1, t2, t3, t4⟩ := id KS2
            clear hb2 s0 s1 s2 s3 s4 KS KV KR BB
            go_wp2_with fail
            refine (l01Mod_any px (gcdI f vx) _ (by unfold bigI; omega) (by omega) (by unfold bigI; omega)).mono ?_
            rintro e w3 ⟨rfl, hb3⟩
            have KS3 := KS2.call hb3
            obtain ⟨t0, t1, t2, t3, t4⟩ := id KS3
            go_wp2
            go_roundw
            case rel => exact ⟨k + 1, (px % gcdI f vx, py, gcdI f vx), by go_num, rfl, by omega, E1.out, E2.out, KW.store0 KS3 _, KL.put (by show w.heap.size < w.heap.size + 1; omega) (KR2.call hb3), Below.setCell (bstep BB2 hb3) (by show w.heap.size ≤ w.heap.size + 1; omega) _⟩
            case measure => first | (simp [intOf]; done) | (simp [intOf]; omega)
          · have g0 : gcdI f vx = 0 := by omega
            have e2 := hm_zero (s := (sx, sy, f)) (v := (x, y)) (by rw [e1]; exact hg)
            rw [e1, g0] at e2
            have E1 := Lib.hid (show (px, py, (0 : Int)) = (L.take (k + 1)).foldl hmStep (0, 0, 0) by rw [HF.out, ← hS.out, e2])
            have E2 := Lib.hid (show stB (1000000) (px, py, (0 : Int)) by rw [E1.out]; exact HN.out)
            have G0 := Lib.hid g0
            clear e1 e2 HN HF VB J0 hJ hE hg g0
            go_wp2_with fail
            refine (divisorBigB_any f vx _ (by omega) (by omega) (by omega) (by omega)).mono ?_
            rintro e w2 ⟨rfl, hb2⟩
            rw [G0.out]
            have KS2 := KS.call hb2
            have KR2 := KR.call hb2
            have BB2 := bstep BB hb2
            go_wp2
            go_roundw
            case rel => exact ⟨k + 1, (px, py, 0), by go_num, rfl, by omega, E1.out, E2.out, KS2, KR2, BB2⟩
            case measure => first | (simp [intOf]; done) | (simp [intOf]; omega)
        · have hcA := cellAbs_of v2
          have h0' : (vy != 0) = true := by simp [h0]
          obtain ⟨r1, r2, r3, r4, r5, r6, r7⟩ := round_vals hK hJ.out h0
          have hw1 : IntKind.i64.wrap (py.tdiv vy) = py.tdiv vy := IntWalk.i64_in _ (by omega)
          obtain ⟨q1, q2⟩ := euJ_prod hJ.out
          obtain ⟨j1, j2, j3, j4, j5⟩ := hJ.out
          have m1 : -1100000000000000000 ≤ py.tdiv vy * vx ∧ py.tdiv vy * vx ≤ 1100000000000000000 := by omega
          have e7 : py.tdiv vy * vy = py - py.tmod vy := by have := Int.tmod_add_mul_tdiv py vy; have := Int.mul_comm vy (py.tdiv vy); omega
          have e8 := tmod_lt py vy h0
          have m2 : -2000 ≤ py.tdiv vy * vy ∧ py.tdiv vy * vy ≤ 2000 := by omega
          have m3 : -1100000000000000000 ≤ px ∧ px ≤ 1100000000000000000 := by omega
          have m4 : -1000 ≤ py ∧ py ≤ 1000 := by omega
          have E1 := Lib.hid (show eu vx vy (px - py.tdiv vy * vx) (py - py.tdiv vy * vy) = eu sx sy x y by rw [show py - py.tdiv vy * vy = py.tmod vy by omega, ← eu_step px py vx h0]; exact hE.out)
          have E2 := Lib.hid (show euJ (1001 * 1000000) vx vy (px - py.tdiv vy * vx) (py - py.tdiv vy * vy) by rw [show py - py.tdiv vy * vy = py.tmod vy by omega]; exact euJ_next hJ.out h0)
          have E3 := Lib.hid (show (py - py.tdiv vy * vy).natAbs < vy.natAbs by rw [show py - py.tdiv vy * vy = py.tmod vy by omega]; exact e8)
          clear r1 r2 r3 r4 r5 r6 e7 e8 hE hJ HN HF VB J0 j1 j2 j3 j4 j5
          go_wp2
          go_roundw
          case rel => exact ⟨vx, vy, _, _, E1.out, E2.out, (KW.far ne2 (KW.far ne2 (KW.store KS _ _))).alloc _, (KW.store (KW.far ne1 (KW.far ne1 KV)) _ _).alloc _, KL.alloc (KL.put (by show w.heap.size < W1.heap.size; omega) (KL.put (by show w.heap.size < W1.heap.size; omega) (KL.put (by show w.heap.size < w.heap.size + 1; omega) (KL.put (by show w.heap.size < w.heap.size + 1; omega) KR)))) _, Below.alloc (Below.setCell (Below.setCell (Below.setCell (Below.setCell BB (by show w.heap.size ≤ w.heap.size + 1; omega) _) (by show w.heap.size ≤ w.heap.size + 1; omega) _) (by show w.heap.size ≤ W1.heap.size; omega) _) (by show w.heap.size ≤ W1.heap.size; omega) _) (by simp; omega) _⟩
          case measure =>
            rw [hcA]
            exact Nat.lt_of_le_of_lt (Nat.le_of_eq (cellAbs_of ((KW.store (KW.far ne1 (KW.far ne1 KV)) _ _).alloc _).c1)) E3.out
    · obtain rfl : k = L.length := by omega
      have hS' : hmFold L = (sx, sy, f) := by have := hS.out; rw [List.take_length] at this; exact this.symm
      have hf : 0 < f := by have := H0.out; rw [hS'] at this; exact this
      obtain ⟨t1, t2, t3, t4⟩ := hT.out
      simp only at t1 t2 t3 t4
      obtain ⟨a0, a1, a2, a3, a4⟩ := id K1
      obtain ⟨b0, b1, b2, b3, b4, b5, b6⟩ := id K2
      have HSp := Lib.hid hS'
      clear hS' hS hT
      by_cases hs : sy < 0
      · have ea : latL L = (f, (-sx) % f, -sy) := by rw [latL_eq, HSp.out]; simp [nrm, hs]
        have EA := Lib.hid ea
        clear ea
        go_wp2_with fail
        refine (scaleBig_any sx sy (-1) _ (by unfold bigI; omega) (by unfold bigI; omega)).mono ?_
        rintro e w2 ⟨rfl, hb2⟩
        have KS2 := K1.call hb2
        have KR2 := K2.call hb2
        have BB2 := bstep hB hb2
        obtain ⟨a0, a1, a2, a3, a4⟩ := id KS2
        clear hb2 hB K1 K2 b0 b1 b2 b3 b4 b5 b6
        go_wp2_with fail
        refine (l01Mod_any (-sx) f _ (by unfold bigI; omega) (by omega) (by unfold bigI; omega)).mono ?_
        rintro e w3 ⟨rfl, hb3⟩
        have hlt := KS2.lt
        have KS3 : KW (w.heap.size + 1) (-sx) (-sy) w3 := KW.call (KW.store KS2 (-sx) (-sy)) hb3
        have KR3 : KL w.heap.size 0 0 0 w3 := KL.call (KL.put (by show w.heap.size < w.heap.size + 1; omega) (KL.put (by show w.heap.size < w.heap.size + 1; omega) KR2)) hb3
        have BB3 : Below w.heap.size w w3 := bstep (Below.setCell (Below.setCell BB2 (by show w.heap.size ≤ w.heap.size + 1; omega) _) (by show w.heap.size ≤ w.heap.size + 1; omega) _) hb3
        clear hb3 a0 a1 a2 a3 a4 KS2 KR2 BB2
        obtain ⟨a0, a1, a2, a3, a4⟩ := id KS3
        obtain ⟨b0, b1, b2, b3, b4, b5, b6⟩ := id KR3
        go_wp2
        refine bodyPost_ret (v := .agg #[.int .i64 f, .int .i64 ((-sx) % f), .int .i64 (-sy)]) (by simp [results, Tryz.results231, go_sem, a0, a1, a2, a3, a4, b0, b1, b2, b3, b4, b5, b6]) rfl ⟨ret_val (by rw [EA.out]), ?_⟩
        exact Below.setCell (Below.setCell (Below.setCell (Below.setCell BB3 (by show w.heap.size ≤ w.heap.size + 1; omega) _) (Nat.le_refl _) _) (Nat.le_refl _) _) (Nat.le_refl _) _
      · have ea : latL L = (f, sx % f, sy) := by rw [latL_eq, HSp.out]; simp [nrm, hs]
        have EA := Lib.hid ea
        clear ea
        go_wp2_with fail
        refine (l01Mod_any sx f _ (by unfold bigI; omega) (by omega) (by unfold bigI; omega)).mono ?_
        rintro e w3 ⟨rfl, hb3⟩
        have KS3 := K1.call hb3
        have KR3 := K2.call hb3
        have BB3 := bstep hB hb3
        obtain ⟨a0, a1, a2, a3, a4⟩ := id KS3
        obtain ⟨b0, b1, b2, b3, b4, b5, b6⟩ := id KR3
        clear hb3 K1 K2 hB
        go_wp2
        refine bodyPost_ret (v := .agg #[.int .i64 f, .int .i64 (sx % f), .int .i64 sy]) (by simp [results, Tryz.results231, go_sem, a0, a1, a2, a3, a4, b0, b1, b2, b3, b4, b5, b6]) rfl ⟨ret_val (by rw [EA.out]), ?_⟩
        exact Below.setCell (Below.setCell (Below.setCell (Below.setCell BB3 (by show w.heap.size ≤ w.heap.size + 1; omega) _) (Nat.le_refl _) _) (Nat.le_refl _) _) (Nat.le_refl _) _
end
end Go.Proofs.YtjjfomokecngoaaGreatDoor

