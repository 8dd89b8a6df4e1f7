/-
  The program's OrbitOf. Conditions: the list's length is below the model's bound, and the program's variable unitMatrix holds the unit.
-/
import Derived.Test.YtngpoaglildbnaaGreatDoorOf7
import Derived.Test.YtngpoaglildbnaaGreatDoorRgI
import Derived.Test.YtngpoaglildbnaaGreatDoorNu7
import Derived.Test.YtngpoaglildbnaaGreatDoorCeS
import Derived.RangeFuncNested
import Derived.RangeFuncBound
import Derived.RangeFuncCalls
import Derived.RangeFuncLeaves
import Derived.RangeFuncBox
import Derived.Shelf.Abstract
import Derived.Shelf.RegionOpen
import Derived.WalkKit
import Derived.OwnWalkIn
import Derived.TacticsInMore
import Derived.LoopNIn
import Derived.LoopIn
import Derived.Laws.EntriesVeiled
import Derived.Laws.Rows
import Derived.Laws.ResultCell
import Derived.Laws.Tables
import Derived.Deep.RegionHeld3
import Derived.IntWalk
namespace Go.Proofs.YtngpoaglildbnaaGreatDoor
open Go.RowKit Go.Shelf
attribute [local go_sem] Oper.semAt_some
set_option linter.unusedSimpArgs false
set_option linter.unusedVariables false

/- two cells have the same number just where one orbit holds both -/
theorem ix_eq {f : Int} {p q : Nat} {B : Int} {G : List M6} (hG : grpB f (p : Int) B (q : Int) G = true) {J : Nat → Bool} {I : Nat → Int} (hM : TMid (p : Int) B (q : Int) G (orbF p q B G) J I) {u v : V2} (hu : celB (p : Int) (q : Int) u = true) (hv : celB (p : Int) (q : Int) v = true) :
    (I (nb (q : Int) v) == I (nb (q : Int) u)) = decide (Orb (p : Int) B (q : Int) G u v) := by
  obtain ⟨h3, _⟩ := fst_cov hG (cellP q p) (fun v hv => cellP_mem7.1 hv)
  obtain ⟨a, ha, hoa⟩ := h3 _ (cellP_mem7.2 hv)
  obtain ⟨k, hk, hka⟩ := List.getElem_of_mem (show a ∈ orbF p q B G from ha)
  obtain ⟨b, hb, hob⟩ := h3 _ (cellP_mem7.2 hu)
  obtain ⟨j, hj, hjb⟩ := List.getElem_of_mem (show b ∈ orbF p q B G from hb)
  rw [← hka] at hoa
  rw [← hjb] at hob
  rw [hM.i v hv k hk hoa, hM.i u hu j hj hob]
  by_cases ho : Orb (p : Int) B (q : Int) G u v
  · have hjv := orb_trans hG hob ho
    have e : k = j := by
      rcases Nat.lt_trichotomy k j with h | h | h
      · exact (orbF_sep hG hk hj h hoa hjv).elim
      · exact h
      · exact (orbF_sep hG hj hk h hjv hoa).elim
    subst e
    simp [ho]
  · have hcb := orbF_cel hG hj
    have e : k ≠ j := fun e => by
      subst e
      exact ho (orb_trans hG (orb_symm hG hcb hob) hoa)
    simp only [ho, decide_false, beq_eq_false_iff_ne, ne_eq]
    omega
def Same7 (Bs : List Nat) (W0 W : World) : Prop := ∀ b ∈ Bs, W.heap[b]? = W0.heap[b]?
theorem same_own7 {β : Type} (Bs : List Nat) (W0 : World) (h : ∀ b ∈ Bs, ∃ o : Obj, W0.heap[b]? = some o ∧ o.isCells = true) : Own (fun (_ : β) W => Same7 Bs W0 W) := fun s X Y row hs hg hrow b hb => by
  obtain ⟨o, h1, h2⟩ := h b hb
  have hx := hs b hb
  rw [h1] at hx
  exact ((hg.block b (Array.getElem?_eq_some_iff.1 hx).1 (fun e => by obtain ⟨o', k1, k2⟩ := hrow b e.symm; rw [hx] at k1; cases k1; rw [h2] at k2; cases k2)).trans hx).trans h1.symm
theorem same_cell7 {W W0 : World} {b i : Nat} {v : Value} (h : W.heap[b]? = W0.heap[b]?) (h0 : W0.cell? ⟨b, i, none⟩ = some v) : W.cell? ⟨b, i, none⟩ = some v := (World.cell?_of_block (w := W0) (w' := W) (a := ⟨b, i, none⟩) h).trans h0
theorem own_type7 {W : World} {base : Nat} {e : TypeId} {size n : Nat} {v : Value} {xs : List Value} {b : Nat} {cs : Array Value} {t : TypeId} (h : W.ownsRow base e size v n xs) (hb : W.heap[b]? = some (.cells cs t (0, 0))) (ht : t ≠ e) : some b ≠ v.ownBlock := by
  rcases h.2 with ⟨rfl, _⟩ | ⟨g, cap, cur, rfl, _, hg, _⟩
  · simp [Value.ownBlock]
  · intro e'
    obtain rfl : b = g := by simpa [Value.ownBlock] using e'
    rw [hb] at hg
    cases hg
    exact ht rfl
def gv (b : Bool) (v : Value) : Value := bif b then v else undef
theorem gv_t (v : Value) : gv true v = v := rfl
attribute [local go_sem] gv_t
theorem ready_no {md : Region.Mode} {ops : Array Oper} {L : Array Bool} (h : Region.ready md ops L = []) {i : Nat} {o : Oper} (ho : ops[i]? = some o) (hd : ∀ e ∈ o.after, Region.binds md e = true → L.getD e.on false = true) : L.getD i true = true := by
  rcases hx : L.getD i true with _ | _
  · have := mem_ready.2 ⟨hx, o, ho, hd⟩
    rw [h] at this
    cases this
  · rfl
def orF (p q : Nat) (B : Int) (G : List M6) (u : V2) (pre : List (CV p q)) : List V2 := (pre.map Subtype.val).filter fun c => decide (Orb (p : Int) B (q : Int) G u c)
theorem orF_snoc (p q : Nat) (B : Int) (G : List M6) (u : V2) (pre : List (CV p q)) (x : CV p q) : orF p q B G u (pre ++ [x]) = orF p q B G u pre ++ if decide (Orb (p : Int) B (q : Int) G u x.1) = true then [x.1] else [] := by
  unfold orF
  rw [List.map_append, List.filter_append]
  congr 1
  simp only [List.map_cons, List.map_nil, List.filter_cons, List.filter_nil]
theorem orF_len (p q : Nat) (B : Int) (G : List M6) (u : V2) (pre : List (CV p q)) : (orF p q B G u pre).length ≤ pre.length := by
  unfold orF
  exact Nat.le_trans (List.length_filter_le _ _) (by rw [List.length_map]; exact Nat.le_refl _)
set_option maxRecDepth 100000 in
set_option maxHeartbeats 16000000 in
theorem implOrbit_good {lo hi : Nat} {v : Value} {xs : List M6} {w : World} (f : Int) (p q : Nat) (B p0 q0 : Int) (hg : sbB f (p : Int) B (q : Int) xs p0 q0 = true) (h : SRow lo hi 6 v xs.length (fm xs) w) (hn : xs.length ≤ 1048576) (hU : UnitOK w) :
    Calls Tryz.prog 25 #[.int .i64 f, .agg #[.int .i64 ((p : Int)), .int .i64 B, .int .i64 ((q : Int))], v, .agg #[.int .i64 p0, .int .i64 q0]] w (LAns 2 (oL f (p : Int) B (q : Int) xs p0 q0).length (oF f (p : Int) B (q : Int) xs p0 q0) 0 w) := by
  obtain ⟨i0, hi0, hz0, hz1, hz2⟩ := info_parts infoVec
  have L0 : Kt w.heap.size (p : Int) B (q : Int) (((w.alloc (.cells #[.int .i64 ((p : Int)), .int .i64 B, .int .i64 ((q : Int))] 31)).alloc (.cells #[.int .i64 p0, .int .i64 q0] 34)).alloc (.cells #[.int .i64 p0, .int .i64 q0] 34)) := (Kt.alloc (Kt.at _ rfl) _).alloc _
  have V0 : Kg (w.heap.size + 1) p0 q0 (((w.alloc (.cells #[.int .i64 ((p : Int)), .int .i64 B, .int .i64 ((q : Int))] 31)).alloc (.cells #[.int .i64 p0, .int .i64 q0] 34)).alloc (.cells #[.int .i64 p0, .int .i64 q0] 34)) := (Kg.at2 _ (by simp)).alloc _
  have B0 : Below w.heap.size w (((w.alloc (.cells #[.int .i64 ((p : Int)), .int .i64 B, .int .i64 ((q : Int))] 31)).alloc (.cells #[.int .i64 p0, .int .i64 q0] 34)).alloc (.cells #[.int .i64 p0, .int .i64 q0] 34)) := ((((Below.refl _ _).alloc (Nat.le_refl _) _).alloc (by simp) _).alloc (by simp; omega) _)
  have A0 : SRow lo hi 6 v xs.length (fm xs) (((w.alloc (.cells #[.int .i64 ((p : Int)), .int .i64 B, .int .i64 ((q : Int))] 31)).alloc (.cells #[.int .i64 p0, .int .i64 q0] 34)).alloc (.cells #[.int .i64 p0, .int .i64 q0] 34)) := h.grow B0 h.1
  have U0 : UnitOK (((w.alloc (.cells #[.int .i64 ((p : Int)), .int .i64 B, .int .i64 ((q : Int))] 31)).alloc (.cells #[.int .i64 p0, .int .i64 q0] 34)).alloc (.cells #[.int .i64 p0, .int .i64 q0] 34)) := Kq.call hU B0
  have X0 : SRow (w.heap.size + 1 + 1) (w.heap.size + 1 + 1 + 1) 2 (.slice (some ⟨w.heap.size + 1 + 1, 0, none⟩) 1 1) ([(p0, q0)] : List V2).length (intAt (cells2 [(p0, q0)])) (((w.alloc (.cells #[.int .i64 ((p : Int)), .int .i64 B, .int .i64 ((q : Int))] 31)).alloc (.cells #[.int .i64 p0, .int .i64 q0] 34)).alloc (.cells #[.int .i64 p0, .int .i64 q0] 34)) := SRow.one2 (by simp)
  have CG0 := groupWithCells_any f (p : Int) B (q : Int) A0 hn X0 (by simp) U0
  unfold GwPost at CG0
  rw [gw_one, hg, cod6_ok (sb_parts hg).1] at CG0
  have CG := Lib.hid CG0
  have HN := Lib.hid hn
  have HG := Lib.hid (sb_parts hg).1
  have HCU := Lib.hid (sb_parts hg).2
  have HL := Lib.hid (grp_good HG.out).1
  have HB := Lib.hid (latI_bd HL.out)
  have HPQ := Lib.hid (show p * q ≤ 64 by have := latI_prod HL.out; exact_mod_cast this)
  have HOL := Lib.hid (show oL f (p : Int) B (q : Int) xs p0 q0 = orbL (p : Int) B (q : Int) xs (p0, q0) by simp [oL, hg])
  have HOC := Lib.hid (orbL_cells HG.out (p0, q0))
  have HOF := Lib.hid (show oF f (p : Int) B (q : Int) xs p0 q0 = intAt (cells2 (orbL (p : Int) B (q : Int) xs (p0, q0))) by unfold oF; rw [HOL.out])
  obtain ⟨ao, cap, rfl⟩ := srow_shape h
  have CU := Lib.hid (fun W => number_any7 (p : Int) B (q : Int) p0 q0 W HL.out HCU.out)
  have HJ := Lib.hid (nb_64 HL.out HCU.out)
  rw [HOL.out, HOF.out]
  clear h hn hg hU A0 U0 X0 CG0
  refine (callsIn_wide (n := 3)).1 ?_
  refine callsIn_of_wp_marks Tryz.func25 rfl trivial ?_ rfl
  simp only [Tryz.ntmps25, List.size_toArray, List.length_cons, List.length_nil, Nat.reduceAdd, Nat.reduceSub, Array.replicate_succ, Array.replicate_zero, List.push_toArray, List.append_toArray, List.nil_append, List.cons_append]
  have L0c := L0.cells
  gi_wp2_with (first
    | (refine ⟨trivial, ?_⟩; gi_at_call 45; refine (callsIn_wide.2 CG.out).mono ?_; rintro e w1 ⟨v1, he, hr, _, hb1⟩; obtain ⟨g1, cap1, hv1, _, r1⟩ := own_irow (n := 0) (hr (by first | rfl | trivial)) (grp_pos HG.out) HN.out; subst hv1 he; clear hr; have L1 := L0.call hb1; have V1 := V0.call hb1; have B1 := bstep B0 hb1; have L1c := L1.cells; have L1a := (L1.alloc (.cells #[.slice none 0 0] 47)).cells)
    | (refine ⟨trivial, ?_⟩; gi_at_call 70; refine (callsIn_wide.2 (orbI_any (cap := cap1) HG.out (r1.alloc _))).mono ?_; rintro e w2 ⟨J, I, rfl, hM, hb2⟩; have hn0 : (w2.alloc (.cells #[.int .i64 0, .int .i64 0, .int .i64 0, .int .i64 0, .int .i64 0, .int .i64 0, .int .i64 0, .int .i64 0, .int .i64 0, .int .i64 0, .int .i64 0, .int .i64 0, .int .i64 0, .int .i64 0, .int .i64 0, .int .i64 0, .int .i64 0, .int .i64 0, .int .i64 0, .int .i64 0, .int .i64 0, .int .i64 0, .int .i64 0, .int .i64 0, .int .i64 0, .int .i64 0, .int .i64 0, .int .i64 0, .int .i64 0, .int .i64 0, .int .i64 0, .int .i64 0, .int .i64 0, .int .i64 0, .int .i64 0, .int .i64 0, .int .i64 0, .int .i64 0, .int .i64 0, .int .i64 0, .int .i64 0, .int .i64 0, .int .i64 0, .int .i64 0, .int .i64 0, .int .i64 0, .int .i64 0, .int .i64 0, .int .i64 0, .int .i64 0, .int .i64 0, .int .i64 0, .int .i64 0, .int .i64 0, .int .i64 0, .int .i64 0, .int .i64 0, .int .i64 0, .int .i64 0, .int .i64 0, .int .i64 0, .int .i64 0, .int .i64 0, .int .i64 0] 104)).heap[w2.heap.size]? = some (.cells (rowI fun _ => 0) 104 (0, 0)) := (by rw [show (#[.int .i64 0, .int .i64 0, .int .i64 0, .int .i64 0, .int .i64 0, .int .i64 0, .int .i64 0, .int .i64 0, .int .i64 0, .int .i64 0, .int .i64 0, .int .i64 0, .int .i64 0, .int .i64 0, .int .i64 0, .int .i64 0, .int .i64 0, .int .i64 0, .int .i64 0, .int .i64 0, .int .i64 0, .int .i64 0, .int .i64 0, .int .i64 0, .int .i64 0, .int .i64 0, .int .i64 0, .int .i64 0, .int .i64 0, .int .i64 0, .int .i64 0, .int .i64 0, .int .i64 0, .int .i64 0, .int .i64 0, .int .i64 0, .int .i64 0, .int .i64 0, .int .i64 0, .int .i64 0, .int .i64 0, .int .i64 0, .int .i64 0, .int .i64 0, .int .i64 0, .int .i64 0, .int .i64 0, .int .i64 0, .int .i64 0, .int .i64 0, .int .i64 0, .int .i64 0, .int .i64 0, .int .i64 0, .int .i64 0, .int .i64 0, .int .i64 0, .int .i64 0, .int .i64 0, .int .i64 0, .int .i64 0, .int .i64 0, .int .i64 0, .int .i64 0] : Array Value) = rowI (fun _ => 0) from rfl]; exact World.alloc_heap_new _ _); have hst : Sem.run Tryz.prog (storeCells ⟨w2.heap.size, 0, none⟩ (rowI I).toList 0) (w2.alloc (.cells #[.int .i64 0, .int .i64 0, .int .i64 0, .int .i64 0, .int .i64 0, .int .i64 0, .int .i64 0, .int .i64 0, .int .i64 0, .int .i64 0, .int .i64 0, .int .i64 0, .int .i64 0, .int .i64 0, .int .i64 0, .int .i64 0, .int .i64 0, .int .i64 0, .int .i64 0, .int .i64 0, .int .i64 0, .int .i64 0, .int .i64 0, .int .i64 0, .int .i64 0, .int .i64 0, .int .i64 0, .int .i64 0, .int .i64 0, .int .i64 0, .int .i64 0, .int .i64 0, .int .i64 0, .int .i64 0, .int .i64 0, .int .i64 0, .int .i64 0, .int .i64 0, .int .i64 0, .int .i64 0, .int .i64 0, .int .i64 0, .int .i64 0, .int .i64 0, .int .i64 0, .int .i64 0, .int .i64 0, .int .i64 0, .int .i64 0, .int .i64 0, .int .i64 0, .int .i64 0, .int .i64 0, .int .i64 0, .int .i64 0, .int .i64 0, .int .i64 0, .int .i64 0, .int .i64 0, .int .i64 0, .int .i64 0, .int .i64 0, .int .i64 0, .int .i64 0] 104)) = .ok () ((w2.alloc (.cells #[.int .i64 0, .int .i64 0, .int .i64 0, .int .i64 0, .int .i64 0, .int .i64 0, .int .i64 0, .int .i64 0, .int .i64 0, .int .i64 0, .int .i64 0, .int .i64 0, .int .i64 0, .int .i64 0, .int .i64 0, .int .i64 0, .int .i64 0, .int .i64 0, .int .i64 0, .int .i64 0, .int .i64 0, .int .i64 0, .int .i64 0, .int .i64 0, .int .i64 0, .int .i64 0, .int .i64 0, .int .i64 0, .int .i64 0, .int .i64 0, .int .i64 0, .int .i64 0, .int .i64 0, .int .i64 0, .int .i64 0, .int .i64 0, .int .i64 0, .int .i64 0, .int .i64 0, .int .i64 0, .int .i64 0, .int .i64 0, .int .i64 0, .int .i64 0, .int .i64 0, .int .i64 0, .int .i64 0, .int .i64 0, .int .i64 0, .int .i64 0, .int .i64 0, .int .i64 0, .int .i64 0, .int .i64 0, .int .i64 0, .int .i64 0, .int .i64 0, .int .i64 0, .int .i64 0, .int .i64 0, .int .i64 0, .int .i64 0, .int .i64 0, .int .i64 0] 104)).setRow w2.heap.size (rowI I)) := store64 hn0; have hA3 : ARI w2.heap.size I ((w2.alloc (.cells #[.int .i64 0, .int .i64 0, .int .i64 0, .int .i64 0, .int .i64 0, .int .i64 0, .int .i64 0, .int .i64 0, .int .i64 0, .int .i64 0, .int .i64 0, .int .i64 0, .int .i64 0, .int .i64 0, .int .i64 0, .int .i64 0, .int .i64 0, .int .i64 0, .int .i64 0, .int .i64 0, .int .i64 0, .int .i64 0, .int .i64 0, .int .i64 0, .int .i64 0, .int .i64 0, .int .i64 0, .int .i64 0, .int .i64 0, .int .i64 0, .int .i64 0, .int .i64 0, .int .i64 0, .int .i64 0, .int .i64 0, .int .i64 0, .int .i64 0, .int .i64 0, .int .i64 0, .int .i64 0, .int .i64 0, .int .i64 0, .int .i64 0, .int .i64 0, .int .i64 0, .int .i64 0, .int .i64 0, .int .i64 0, .int .i64 0, .int .i64 0, .int .i64 0, .int .i64 0, .int .i64 0, .int .i64 0, .int .i64 0, .int .i64 0, .int .i64 0, .int .i64 0, .int .i64 0, .int .i64 0, .int .i64 0, .int .i64 0, .int .i64 0, .int .i64 0] 104)).setRow w2.heap.size (rowI I)) := setRow_heap _ _ _ _ _ _ hn0; have hb3 : Below w2.heap.size w2 ((w2.alloc (.cells #[.int .i64 0, .int .i64 0, .int .i64 0, .int .i64 0, .int .i64 0, .int .i64 0, .int .i64 0, .int .i64 0, .int .i64 0, .int .i64 0, .int .i64 0, .int .i64 0, .int .i64 0, .int .i64 0, .int .i64 0, .int .i64 0, .int .i64 0, .int .i64 0, .int .i64 0, .int .i64 0, .int .i64 0, .int .i64 0, .int .i64 0, .int .i64 0, .int .i64 0, .int .i64 0, .int .i64 0, .int .i64 0, .int .i64 0, .int .i64 0, .int .i64 0, .int .i64 0, .int .i64 0, .int .i64 0, .int .i64 0, .int .i64 0, .int .i64 0, .int .i64 0, .int .i64 0, .int .i64 0, .int .i64 0, .int .i64 0, .int .i64 0, .int .i64 0, .int .i64 0, .int .i64 0, .int .i64 0, .int .i64 0, .int .i64 0, .int .i64 0, .int .i64 0, .int .i64 0, .int .i64 0, .int .i64 0, .int .i64 0, .int .i64 0, .int .i64 0, .int .i64 0, .int .i64 0, .int .i64 0, .int .i64 0, .int .i64 0, .int .i64 0, .int .i64 0] 104)).setRow w2.heap.size (rowI I)) := below_row ((Below.refl _ _).alloc (Nat.le_refl _) _) (Nat.le_refl _) _; have L3c := (((L1.alloc (.cells #[.slice none 0 0] 47)).call hb2).call hb3).cells; clear hn0)
    | (refine ⟨trivial, ?_⟩; gi_at_call 71; refine (cellsS_in Fence.wide _ trivial rfl _ _ _ _).mono ?_; rintro e w4 ⟨rfl, rfl⟩))
  have z1 := B1.size
  have z13 : w.heap.size + 1 + 1 + 1 ≤ w1.heap.size := by have h9 := hb1.size; simp at h9; omega
  have B2 : Below w.heap.size w w2 := bstep (B1.alloc z1 _) hb2
  have z2 := B2.size
  have z12 := hb2.size
  have B3 := bstep B2 hb3
  have hs3 : ((w2.alloc (.cells #[.int .i64 0, .int .i64 0, .int .i64 0, .int .i64 0, .int .i64 0, .int .i64 0, .int .i64 0, .int .i64 0, .int .i64 0, .int .i64 0, .int .i64 0, .int .i64 0, .int .i64 0, .int .i64 0, .int .i64 0, .int .i64 0, .int .i64 0, .int .i64 0, .int .i64 0, .int .i64 0, .int .i64 0, .int .i64 0, .int .i64 0, .int .i64 0, .int .i64 0, .int .i64 0, .int .i64 0, .int .i64 0, .int .i64 0, .int .i64 0, .int .i64 0, .int .i64 0, .int .i64 0, .int .i64 0, .int .i64 0, .int .i64 0, .int .i64 0, .int .i64 0, .int .i64 0, .int .i64 0, .int .i64 0, .int .i64 0, .int .i64 0, .int .i64 0, .int .i64 0, .int .i64 0, .int .i64 0, .int .i64 0, .int .i64 0, .int .i64 0, .int .i64 0, .int .i64 0, .int .i64 0, .int .i64 0, .int .i64 0, .int .i64 0, .int .i64 0, .int .i64 0, .int .i64 0, .int .i64 0, .int .i64 0, .int .i64 0, .int .i64 0, .int .i64 0] 104)).setRow w2.heap.size (rowI I)).heap.size = w2.heap.size + 1 := by simp [World.setRow]
  have L3 := ((L1.alloc (.cells #[.slice none 0 0] 47)).call hb2).call hb3
  have V3 := ((V1.alloc (.cells #[.slice none 0 0] 47)).call hb2).call hb3
  have bO : ((w2.alloc (.cells #[.int .i64 0, .int .i64 0, .int .i64 0, .int .i64 0, .int .i64 0, .int .i64 0, .int .i64 0, .int .i64 0, .int .i64 0, .int .i64 0, .int .i64 0, .int .i64 0, .int .i64 0, .int .i64 0, .int .i64 0, .int .i64 0, .int .i64 0, .int .i64 0, .int .i64 0, .int .i64 0, .int .i64 0, .int .i64 0, .int .i64 0, .int .i64 0, .int .i64 0, .int .i64 0, .int .i64 0, .int .i64 0, .int .i64 0, .int .i64 0, .int .i64 0, .int .i64 0, .int .i64 0, .int .i64 0, .int .i64 0, .int .i64 0, .int .i64 0, .int .i64 0, .int .i64 0, .int .i64 0, .int .i64 0, .int .i64 0, .int .i64 0, .int .i64 0, .int .i64 0, .int .i64 0, .int .i64 0, .int .i64 0, .int .i64 0, .int .i64 0, .int .i64 0, .int .i64 0, .int .i64 0, .int .i64 0, .int .i64 0, .int .i64 0, .int .i64 0, .int .i64 0, .int .i64 0, .int .i64 0, .int .i64 0, .int .i64 0, .int .i64 0, .int .i64 0] 104)).setRow w2.heap.size (rowI I)).heap[w1.heap.size]? = some (.cells #[.slice none 0 0] 47 (0, 0)) := (hb3.block _ (by simp at z12; omega)).trans ((hb2.block _ (by simp)).trans (World.alloc_heap_new w1 _))
  have HM := Lib.hid hM
  have zz12 : w1.heap.size < w2.heap.size := by simp at z12; omega
  clear hst L3c L0c L1a CG hb2 hb3 hb1 r1 L1 V1 B1 L0 V0 B0 B2 hM z12 L1c
  generalize (w2.alloc (.cells #[.int .i64 0, .int .i64 0, .int .i64 0, .int .i64 0, .int .i64 0, .int .i64 0, .int .i64 0, .int .i64 0, .int .i64 0, .int .i64 0, .int .i64 0, .int .i64 0, .int .i64 0, .int .i64 0, .int .i64 0, .int .i64 0, .int .i64 0, .int .i64 0, .int .i64 0, .int .i64 0, .int .i64 0, .int .i64 0, .int .i64 0, .int .i64 0, .int .i64 0, .int .i64 0, .int .i64 0, .int .i64 0, .int .i64 0, .int .i64 0, .int .i64 0, .int .i64 0, .int .i64 0, .int .i64 0, .int .i64 0, .int .i64 0, .int .i64 0, .int .i64 0, .int .i64 0, .int .i64 0, .int .i64 0, .int .i64 0, .int .i64 0, .int .i64 0, .int .i64 0, .int .i64 0, .int .i64 0, .int .i64 0, .int .i64 0, .int .i64 0, .int .i64 0, .int .i64 0, .int .i64 0, .int .i64 0, .int .i64 0, .int .i64 0, .int .i64 0, .int .i64 0, .int .i64 0, .int .i64 0, .int .i64 0, .int .i64 0, .int .i64 0, .int .i64 0] 104)).setRow w2.heap.size (rowI I) = w3 at *
  obtain ⟨W0, hW0⟩ : ∃ W0, w3.alloc (.cells #[.int .i64 (p : Int), .int .i64 B, .int .i64 (q : Int)] 31) = W0 := ⟨_, rfl⟩
  have hsz : W0.heap.size = w2.heap.size + 2 := by rw [← hW0]; simp; omega
  have z3 := B3.size
  have BW : Below w3.heap.size w3 W0 := by rw [← hW0]; exact (Below.refl _ _).alloc (Nat.le_refl _) _
  have B0 := bstep B3 BW
  have LW := L3.call BW
  have VW := V3.call BW
  have AW := hA3.call BW
  have bO0 : Boxed W0 w1.heap.size 47 (.slice none 0 0) := (BW.block _ (by omega)).trans bO
  have bR : W0.heap[w2.heap.size + 1]? = some (.cells #[.int .i64 (p : Int), .int .i64 B, .int .i64 (q : Int)] 31 (0, 0)) := by rw [← hW0, ← hs3]; exact World.alloc_heap_new w3 _
  have cA : W0.cell? ⟨w2.heap.size + 1, 0, none⟩ = some (.int .i64 (p : Int)) := by simp [World.cell?, bR]
  have cC : W0.cell? ⟨w2.heap.size + 1, 2, none⟩ = some (.int .i64 (q : Int)) := by simp [World.cell?, bR]
  have HS : Hid (∀ bb ∈ [w.heap.size, w.heap.size + 1, w2.heap.size], ∃ o : Obj, W0.heap[bb]? = some o ∧ o.isCells = true) := Lib.hid (by
    intro bb hbb
    simp only [List.mem_cons, List.not_mem_nil, or_false] at hbb
    rcases hbb with rfl | rfl | rfl
    · exact cells_of7 LW.2.1
    · exact cells_of7 VW.2.1
    · exact ⟨_, AW, rfl⟩)
  have HLW := Lib.hid LW
  have HVW := Lib.hid VW
  have HAW := Lib.hid AW
  rw [hW0]
  clear hW0 BW L3 V3 hA3 bO B3 LW VW AW
  have hz := B0.size
  refine wpIn_rangeFunc_ownH rfl (by omega) (gf := 105) (lb := #[.pointer (some ⟨w2.heap.size + 1, 0, none⟩)]) rfl trivial (enters_of Tryz.func105 (by kernel_rfl) rfl)
    (cellsS_stops Fence.wide (3 - 1) trivial rfl (by omega) (w2.heap.size + 1) p q (by have := HB.out.1; omega) (by have := HB.out.2; omega) W0 (by omega) cA cC) (fun h k => Eq.trans k h) (keepC_b (by omega)) (Below.refl _ _) (fun _ => rfl)
    (fun pre W => (((∃ v, Boxed W w1.heap.size 47 v ∧ W.ownsRow w1.heap.size 34 2 v (orF p q B xs (p0, q0) pre).length (cells2 (orF p q B xs (p0, q0) pre)) ∧ True) ∧ W.heap[w2.heap.size + 1]? = some (.cells #[.int .i64 (p : Int), .int .i64 B, .int .i64 (q : Int)] 31 (0, 0))) ∧ Same7 [w.heap.size, w.heap.size + 1, w2.heap.size] W0 W) ∧ Below w.heap.size w W)
    (fun _ _ _ => False)
    (OwnFrom.and (OwnFrom.and (OwnFrom.and (Own.from (holdsRow_own w1.heap.size w1.heap.size 47 34 2 (fun pre => (orF p q B xs (p0, q0) pre).length) (fun pre => cells2 (orF p q B xs (p0, q0) pre)) (fun _ _ => True)) _) (Own.from (at_ownC _ _ rfl) _)) (Own.from (same_own7 _ W0 HS.out) _)) (ownFrom_below (Nat.le_refl _) hz))
    (fun _ _ _ _ _ hs _ _ => hs)
    ⟨⟨⟨⟨_, bO0, ⟨by simp [orF, cells2], .inl ⟨rfl, by simp [orF]⟩⟩, trivial⟩, bR⟩, fun _ _ => rfl⟩, B0⟩
    (fun xx a' W => ∃ Bx, w2.heap.size + 1 < Bx ∧ W.heap[Bx]? = some (.cells #[.int .i64 xx.1.1, .int .i64 xx.1.2] 34 (0, 0)) ∧ a' = { tmps := #[.int .i64 f, .agg #[.int .i64 ((p : Int)), .int .i64 B, .int .i64 ((q : Int))], .slice ao xs.length cap, .agg #[.int .i64 p0, .int .i64 q0], undef, .pointer (some ⟨w.heap.size, 0, none⟩), undef, .pointer (some ⟨w.heap.size + 1, 0, none⟩), .slice none 0 0, .int .i64 0, .slice (some ⟨g1, 0, none⟩) xs.length cap1, .int .i64 0, .pointer (some ⟨w1.heap.size, 0, none⟩), .pointer (some ⟨w2.heap.size, 0, none⟩), .int .i64 ((orbF p q B xs).length : Nat), .pointer (some ⟨Bx, 0, none⟩), .tuple #[.slice (some ⟨g1, 0, none⟩) xs.length cap1, .int .i64 0], .int .i64 f, .agg #[.int .i64 ((p : Int)), .int .i64 B, .int .i64 ((q : Int))], .slice ao xs.length cap, .agg #[.int .i64 p0, .int .i64 q0], .slice (some ⟨w.heap.size + 1 + 1, 0, none⟩) 1 1, .tuple #[.slice (some ⟨g1, 0, none⟩) xs.length cap1, .int .i64 0], .slice (some ⟨g1, 0, none⟩) xs.length cap1, .int .i64 0, .int .i64 0, .bool false, undef, .tuple #[.agg (rowI I), .int .i64 ((orbF p q B xs).length : Nat)], .agg #[.int .i64 ((p : Int)), .int .i64 B, .int .i64 ((q : Int))], .slice (some ⟨g1, 0, none⟩) xs.length cap1, .tuple #[.agg (rowI I), .int .i64 ((orbF p q B xs).length : Nat)], .agg (rowI I), .int .i64 ((orbF p q B xs).length : Nat), .agg #[.int .i64 ((p : Int)), .int .i64 B, .int .i64 ((q : Int))], .func (.func 105) #[] #[.pointer (some ⟨w2.heap.size + 1, 0, none⟩)], .agg #[.int .i64 xx.1.1, .int .i64 xx.1.2], undef, undef, undef, undef, undef, undef, undef, undef, undef, undef, undef, undef, undef, undef, undef, undef], defers := [] })
    (fun x a' _ X Y row hs hg hr => by obtain ⟨Bx, h1, h2, h3⟩ := hs; exact ⟨Bx, h1, at_ownC Bx _ rfl () X Y row h2 hg (fun r e => (hr r e).2), h3⟩)
    ?assign ?body ?done ?stop
  case assign =>
    rintro l pre xx W K ⟨⟨⟨⟨v, hv, hrow, _⟩, hR⟩, hS⟩, hB1⟩ hK
    gi_wp2
    have hltR := (Array.getElem?_eq_some_iff.1 hR).1
    have hKB : KeepC (w2.heap.size + 1) W (W.alloc (.cells #[.int .i64 xx.1.1, .int .i64 xx.1.2] 34)) := Below.heap_alloc W _ _ hltR
    refine hK _ _ ((KeepsOthers.alloc _ _).from _) hKB ⟨⟨⟨⟨v, hv.alloc _, hrow.alloc _, trivial⟩, hKB.trans hR⟩, fun bb hbb => ?_⟩, hB1.alloc hB1.size _⟩ ⟨W.heap.size, hltR, World.alloc_heap_new W _, rfl⟩
    obtain ⟨o, h1, _⟩ := HS.out bb hbb
    have h2 := hS bb hbb
    rw [h1] at h2
    exact (Below.heap_alloc W _ _ (Array.getElem?_eq_some_iff.1 h2).1).trans (h2.trans h1.symm)
  case body =>
    rintro l pre xx a' W hl ⟨r, hr⟩ ⟨⟨⟨⟨v, hv, hrow, _⟩, hR⟩, hS⟩, hB1⟩ ⟨Bx, hBx, bX, rfl⟩ hlt
    obtain ⟨⟨x0, x1⟩, hx⟩ := xx
    dsimp only at bX
    have hcel : celB (p : Int) (q : Int) (x0, x1) = true := celB_iff.2 hx
    have sL := hS (w.heap.size) (by simp)
    have sV := hS (w.heap.size + 1) (by simp)
    have sA := hS (w2.heap.size) (by simp)
    have lX := (Array.getElem?_eq_some_iff.1 bX).1
    have lR := (Array.getElem?_eq_some_iff.1 hR).1
    have lO := (Array.getElem?_eq_some_iff.1 hv).1
    have zW := hB1.size
    have KL : Kt w.heap.size (p : Int) B (q : Int) W := ⟨by omega, same_cell7 sL HLW.out.2.1, same_cell7 sL HLW.out.2.2.1, same_cell7 sL HLW.out.2.2.2⟩
    have KV : Kg (w.heap.size + 1) p0 q0 W := ⟨by omega, same_cell7 sV HVW.out.2.1, same_cell7 sV HVW.out.2.2⟩
    have KA : ARI w2.heap.size I W := sA.trans HAW.out
    have KX : Kg Bx x0 x1 W := ⟨lX, by simp [World.cell?, bX], by simp [World.cell?, bX]⟩
    have hk := nb_64 HL.out hcel
    have hj := HJ.out
    have CN := Lib.hid (fun W => number_any7 (p : Int) B (q : Int) x0 x1 W HL.out hcel)
    have HRR := Lib.hid (ix_eq HG.out HM.out HCU.out hcel)
    have HSN := Lib.hid (orF_snoc p q B xs (p0, q0) pre ⟨(x0, x1), hx⟩)
    have HLN := Lib.hid (show (orF p q B xs (p0, q0) pre).length ≤ 64 from by have h1 := orF_len p q B xs (p0, q0) pre; have h2 := HPQ.out; omega)
    dsimp only at HSN
    generalize decide (Orb (p : Int) B (q : Int) xs (p0, q0) (x0, x1)) = rr at HRR HSN
    generalize nb (q : Int) (x0, x1) = kk at hk CN HRR
    generalize hju : nb (q : Int) (p0, q0) = ju at hj CU HRR HJ
    clear hju
    have hk2 : (kk : Int) < 64 := by omega
    have hj2 : (ju : Int) < 64 := by omega
    have hfo : Tryz.prog.follows Departure.mixedOrders = true := by kernel_rfl
    have HSS := Lib.hid hS
    have HV9 := Lib.hid hv
    have HR9 := Lib.hid hrow
    have HB9 := Lib.hid hB1
    have HLR := Lib.hid hR
    clear hr hlt hl sL sV sA hS hv hrow hcel
    gi_wp2_with fail
    refine wpIn_region_any hfo ?_
    try (change wpAnyIn _ _ _ _ _ _ _ _ _ (World.drew _))
    refine anyIn_inv (fun L a' W' => ∃ b0 b1 b2 b3 b4 b5 b6 b7 b8 b9 b10 : Bool, L = #[b0, b1, b2, b3, b4, b5, b6, b7, b8, b9, b10] ∧ a' = { tmps := #[.int .i64 f, .agg #[.int .i64 ((p : Int)), .int .i64 B, .int .i64 ((q : Int))], .slice ao xs.length cap, .agg #[.int .i64 p0, .int .i64 q0], undef, .pointer (some ⟨w.heap.size, 0, none⟩), undef, .pointer (some ⟨w.heap.size + 1, 0, none⟩), .slice none 0 0, .int .i64 0, .slice (some ⟨g1, 0, none⟩) xs.length cap1, .int .i64 0, .pointer (some ⟨w1.heap.size, 0, none⟩), .pointer (some ⟨w2.heap.size, 0, none⟩), .int .i64 ((orbF p q B xs).length : Nat), .pointer (some ⟨Bx, 0, none⟩), .tuple #[.slice (some ⟨g1, 0, none⟩) xs.length cap1, .int .i64 0], .int .i64 f, .agg #[.int .i64 ((p : Int)), .int .i64 B, .int .i64 ((q : Int))], .slice ao xs.length cap, .agg #[.int .i64 p0, .int .i64 q0], .slice (some ⟨w.heap.size + 1 + 1, 0, none⟩) 1 1, .tuple #[.slice (some ⟨g1, 0, none⟩) xs.length cap1, .int .i64 0], .slice (some ⟨g1, 0, none⟩) xs.length cap1, .int .i64 0, .int .i64 0, .bool false, undef, .tuple #[.agg (rowI I), .int .i64 ((orbF p q B xs).length : Nat)], .agg #[.int .i64 ((p : Int)), .int .i64 B, .int .i64 ((q : Int))], .slice (some ⟨g1, 0, none⟩) xs.length cap1, .tuple #[.agg (rowI I), .int .i64 ((orbF p q B xs).length : Nat)], .agg (rowI I), .int .i64 ((orbF p q B xs).length : Nat), .agg #[.int .i64 ((p : Int)), .int .i64 B, .int .i64 ((q : Int))], .func (.func 105) #[] #[.pointer (some ⟨w2.heap.size + 1, 0, none⟩)], .agg #[.int .i64 x0, .int .i64 x1], gv b0 (.agg #[.int .i64 ((p : Int)), .int .i64 B, .int .i64 ((q : Int))]), gv b1 (.agg #[.int .i64 x0, .int .i64 x1]), gv b2 (.int .i64 ((kk : Nat) : Int)), gv b3 (.pointer (some ⟨w2.heap.size, kk, none⟩)), gv b4 (.int .i64 (I kk)), gv b5 (.agg #[.int .i64 ((p : Int)), .int .i64 B, .int .i64 ((q : Int))]), gv b6 (.agg #[.int .i64 p0, .int .i64 q0]), gv b7 (.int .i64 ((ju : Nat) : Int)), gv b8 (.pointer (some ⟨w2.heap.size, ju, none⟩)), gv b9 (.int .i64 (I ju)), gv b10 (.bool rr), undef, undef, undef, undef, undef], defers := [] } ∧ Below W.heap.size W W') ?step ?dn _ _ _ _ (by simp [leftN]) ⟨false, false, false, false, false, false, false, false, false, false, false, rfl, rfl, (Below.refl _ _).drew⟩
    case step =>
      rintro L a' W' ⟨b0, b1, b2, b3, b4, b5, b6, b7, b8, b9, b10, rfl, rfl, hB'⟩ i hi
      obtain ⟨hun, o, ho, hall⟩ := mem_ready.1 hi
      have hi11 : i < 11 := (Array.getElem?_eq_some_iff.1 ho).1
      have kl := (KL.call hB').cells
      have kv := (KV.call hB').cells
      have kx := (KX.call hB').cells
      have ka := (KA.call hB').at kk hk
      have kj := (KA.call hB').at ju hj
      rcases (show i = 0 ∨ i = 1 ∨ i = 2 ∨ i = 3 ∨ i = 4 ∨ i = 5 ∨ i = 6 ∨ i = 7 ∨ i = 8 ∨ i = 9 ∨ i = 10 by omega) with rfl | rfl | rfl | rfl | rfl | rfl | rfl | rfl | rfl | rfl | rfl
      · obtain rfl := Option.some.inj (show some _ = some o from ho)
        have dn : b0 = false := hun
        subst dn
        clear hall hun ho hi
        refine wpOpIn_step rfl (fun K hK => ?_)
        go_simp
        exact hK _ _ ⟨true, b1, b2, b3, b4, b5, b6, b7, b8, b9, b10, rfl, rfl, hB'⟩
      · obtain rfl := Option.some.inj (show some _ = some o from ho)
        have dn : b1 = false := hun
        subst dn
        clear hall hun ho hi
        refine wpOpIn_step rfl (fun K hK => ?_)
        go_simp
        exact hK _ _ ⟨b0, true, b2, b3, b4, b5, b6, b7, b8, b9, b10, rfl, rfl, hB'⟩
      · obtain rfl := Option.some.inj (show some _ = some o from ho)
        have d0 : b0 = true := hall ⟨0, .data⟩ (by simp) rfl
        have d1 : b1 = true := hall ⟨1, .data⟩ (by simp) rfl
        have dn : b2 = false := hun
        subst d0 d1 dn
        clear hall hun ho hi
        refine wpOpIn_step rfl (fun K hK => ?_)
        go_simp
        first | (refine ⟨trivial, ?_⟩; gi_at_call 72) | gi_at_call 72
        refine (CallsIn.inRound l (callsIn_wide.2 (CN.out _))).mono ?_
        rintro e w5 ⟨rfl, hb5⟩
        exact hK _ _ ⟨true, true, true, b3, b4, b5, b6, b7, b8, b9, b10, rfl, rfl, bstep hB' hb5⟩
      · obtain rfl := Option.some.inj (show some _ = some o from ho)
        have d2 : b2 = true := hall ⟨2, .data⟩ (by simp) rfl
        have dn : b3 = false := hun
        subst d2 dn
        clear hall hun ho hi
        refine wpOpIn_step rfl (fun K hK => ?_)
        go_simp
        exact hK _ _ ⟨b0, b1, true, true, b4, b5, b6, b7, b8, b9, b10, rfl, rfl, hB'⟩
      · obtain rfl := Option.some.inj (show some _ = some o from ho)
        have d3 : b3 = true := hall ⟨3, .data⟩ (by simp) rfl
        have dn : b4 = false := hun
        subst d3 dn
        clear hall hun ho hi
        refine wpOpIn_step rfl (fun K hK => ?_)
        go_simp
        exact hK _ _ ⟨b0, b1, b2, true, true, b5, b6, b7, b8, b9, b10, rfl, rfl, hB'⟩
      · obtain rfl := Option.some.inj (show some _ = some o from ho)
        have dn : b5 = false := hun
        subst dn
        clear hall hun ho hi
        refine wpOpIn_step rfl (fun K hK => ?_)
        go_simp
        exact hK _ _ ⟨b0, b1, b2, b3, b4, true, b6, b7, b8, b9, b10, rfl, rfl, hB'⟩
      · obtain rfl := Option.some.inj (show some _ = some o from ho)
        have dn : b6 = false := hun
        subst dn
        clear hall hun ho hi
        refine wpOpIn_step rfl (fun K hK => ?_)
        go_simp
        exact hK _ _ ⟨b0, b1, b2, b3, b4, b5, true, b7, b8, b9, b10, rfl, rfl, hB'⟩
      · obtain rfl := Option.some.inj (show some _ = some o from ho)
        have d5 : b5 = true := hall ⟨5, .data⟩ (by simp) rfl
        have d6 : b6 = true := hall ⟨6, .data⟩ (by simp) rfl
        have d2 : b2 = true := hall ⟨2, .chain⟩ (by simp) rfl
        have dn : b7 = false := hun
        subst d5 d6 d2 dn
        clear hall hun ho hi
        refine wpOpIn_step rfl (fun K hK => ?_)
        go_simp
        first | (refine ⟨trivial, ?_⟩; gi_at_call 72) | gi_at_call 72
        refine (CallsIn.inRound l (callsIn_wide.2 (CU.out _))).mono ?_
        rintro e w5 ⟨rfl, hb5⟩
        exact hK _ _ ⟨b0, b1, true, b3, b4, true, true, true, b8, b9, b10, rfl, rfl, bstep hB' hb5⟩
      · obtain rfl := Option.some.inj (show some _ = some o from ho)
        have d7 : b7 = true := hall ⟨7, .data⟩ (by simp) rfl
        have dn : b8 = false := hun
        subst d7 dn
        clear hall hun ho hi
        refine wpOpIn_step rfl (fun K hK => ?_)
        go_simp
        exact hK _ _ ⟨b0, b1, b2, b3, b4, b5, b6, true, true, b9, b10, rfl, rfl, hB'⟩
      · obtain rfl := Option.some.inj (show some _ = some o from ho)
        have d8 : b8 = true := hall ⟨8, .data⟩ (by simp) rfl
        have dn : b9 = false := hun
        subst d8 dn
        clear hall hun ho hi
        refine wpOpIn_step rfl (fun K hK => ?_)
        go_simp
        exact hK _ _ ⟨b0, b1, b2, b3, b4, b5, b6, b7, true, true, b10, rfl, rfl, hB'⟩
      · obtain rfl := Option.some.inj (show some _ = some o from ho)
        have d4 : b4 = true := hall ⟨4, .data⟩ (by simp) rfl
        have d9 : b9 = true := hall ⟨9, .data⟩ (by simp) rfl
        have dn : b10 = false := hun
        subst d4 d9 dn
        clear hall hun ho hi
        refine wpOpIn_step rfl (fun K hK => ?_)
        go_simp
        try rw [HRR.out]
        exact hK _ _ ⟨b0, b1, b2, b3, true, b5, b6, b7, b8, true, true, rfl, rfl, hB'⟩
    case dn =>
      rintro L a' W' ⟨b0, b1, b2, b3, b4, b5, b6, b7, b8, b9, b10, rfl, rfl, hB'⟩ hr
      have d0 : b0 = true := ready_no hr (i := 0) rfl (by intro e he; simp at he)
      subst d0
      have d1 : b1 = true := ready_no hr (i := 1) rfl (by intro e he; simp at he)
      subst d1
      have d2 : b2 = true := ready_no hr (i := 2) rfl (by intro e he _; simp at he; (rcases he with rfl | rfl <;> rfl))
      subst d2
      have d3 : b3 = true := ready_no hr (i := 3) rfl (by intro e he _; simp at he; subst he; rfl)
      subst d3
      have d4 : b4 = true := ready_no hr (i := 4) rfl (by intro e he _; simp at he; subst he; rfl)
      subst d4
      have d5 : b5 = true := ready_no hr (i := 5) rfl (by intro e he; simp at he)
      subst d5
      have d6 : b6 = true := ready_no hr (i := 6) rfl (by intro e he; simp at he)
      subst d6
      have d7 : b7 = true := ready_no hr (i := 7) rfl (by intro e he _; simp at he; (rcases he with rfl | rfl | rfl <;> rfl))
      subst d7
      have d8 : b8 = true := ready_no hr (i := 8) rfl (by intro e he _; simp at he; subst he; rfl)
      subst d8
      have d9 : b9 = true := ready_no hr (i := 9) rfl (by intro e he _; simp at he; subst he; rfl)
      subst d9
      have d10 : b10 = true := ready_no hr (i := 10) rfl (by intro e he _; simp at he; (rcases he with rfl | rfl <;> rfl))
      subst d10
      simp only [gv_t]
      clear hr
      rcases rr with _ | _
      · have HS2 := HSN.out
        simp only [Bool.false_eq_true, if_false, List.append_nil] at HS2
        gi_wp2
        refine ⟨keepsF_below _ hB', hB'.block _ lR, ⟨⟨⟨⟨v, ?_, ?_, trivial⟩, (hB'.block _ lR).trans HLR.out⟩, fun bb hbb => ?_⟩, HB9.out.trans (hB'.mono zW)⟩⟩
        · exact (hB'.block _ lO).trans HV9.out
        · rw [HS2]; exact ownsRow_call HR9.out hB'
        · obtain ⟨o, h1, _⟩ := HS.out bb hbb
          have h2 := HSS.out bb hbb
          rw [h1] at h2
          exact (hB'.block _ (Array.getElem?_eq_some_iff.1 h2).1).trans (h2.trans h1.symm)
      · have HS2 := HSN.out
        simp only [if_true] at HS2
        have HS3 := Lib.hid HS2
        have hv' : Boxed W' w1.heap.size 47 v := (hB'.block _ lO).trans HV9.out
        have hrow' := ownsRow_call HR9.out hB'
        have hc := hv'.cell
        have kx := (KX.call hB').cells
        have HNE := Lib.hid (own_type7 hrow' ((hB'.block _ lR).trans HLR.out) (by decide))
        have HNA := Lib.hid (own_type7 hrow' (show W'.heap[w2.heap.size]? = some (.cells (rowI I) 104 (0, 0)) from KA.call hB') (by decide))
        have zz := hB'.size
        have lA := (KA.call hB').lt
        have hln := HLN.out
        clear HS2
        gi_wp2_with (gi_at_builtin; refine wpListIn_append_own _ rfl _ _ 47 rfl w1.heap.size 34 i0 (.agg #[.int .i64 0, .int .i64 0]) 2 16 Tryz.underlying47 hi0 hz0 hz1 hz2 rfl (by decide) _ _ _ rfl (hrow'.alloc _) ⟨W'.heap.size, 0, none⟩ 1 1 [.int .i64 x0, .int .i64 x1] rfl rfl (new_two _ _ _ rfl) one_two (by unfold maxLen; omega) (by omega) (by simp; omega) ?_; intro v' w6 hown' hgrow _; obtain ⟨g', cap', rfl⟩ := ownsRow_succ hown'; obtain ⟨hv1, hv2, hr2, hk2, hb2⟩ := hv'.appended (by decide) hrow' (by omega) (Nat.le_refl _) hown' hgrow; have hc1 := hv1.cell; have hf1 := hv1.frozen)
        have hg6 : ∀ b, b < W'.heap.size → some b ≠ v.ownBlock → w6.heap[b]? = W'.heap[b]? := fun b hb hn => (hgrow.block _ (by simp; omega) hn).trans (Below.heap_alloc W' _ _ hb)
        have hKB : KeepC (w2.heap.size + 1) W (w6.setCell ⟨w1.heap.size, 0, none⟩ (.slice (some ⟨g', 0, none⟩) ((orF p q B xs (p0, q0) pre).length + 1) cap')) := (Below.heap_setCell w6 _ _ _ (by simp; omega)).trans ((hg6 _ (by omega) HNE.out).trans (hB'.block _ lR))
        refine ⟨(keepsF_below _ hB').trans (hk2.from _), hKB, ⟨⟨⟨⟨_, hv2, ?_⟩, hKB.trans HLR.out⟩, fun bb hbb => ?_⟩, (HB9.out.trans (hB'.mono zW)).trans (hb2.mono z1)⟩⟩
        · rw [HS3.out, cells2_snoc]
          first | exact ⟨by simpa using hr2, trivial⟩ | simpa using hr2
        · obtain ⟨o, h1, _⟩ := HS.out bb hbb
          have h2 := HSS.out bb hbb
          rw [h1] at h2
          have lb := (Array.getElem?_eq_some_iff.1 h2).1
          have hx9 : (w6.setCell ⟨w1.heap.size, 0, none⟩ (.slice (some ⟨g', 0, none⟩) ((orF p q B xs (p0, q0) pre).length + 1) cap')).heap[bb]? = W'.heap[bb]? := by
            simp only [List.mem_cons, List.not_mem_nil, or_false] at hbb
            rcases hbb with rfl | rfl | rfl
            · exact hb2.block _ (by omega)
            · exact hb2.block _ (by omega)
            · exact (Below.heap_setCell w6 _ _ _ (by simp; omega)).trans (hg6 _ lA HNA.out)
          exact hx9.trans ((hB'.block _ lb).trans (h2.trans h1.symm))
  case done =>
    rintro D zs W hD hzs ⟨⟨⟨⟨v, hv, hrow, _⟩, hR⟩, hS⟩, hB1⟩ hK
    have hF : orF p q B xs (p0, q0) zs = orbL (p : Int) B (q : Int) xs (p0, q0) := by unfold orF; rw [hzs, HOC.out]
    rw [hF] at hrow
    have cS := hv.cell
    have HLN := Lib.hid (show (orbL (p : Int) B (q : Int) xs (p0, q0)).length ≤ 768 from Nat.le_trans (orbL_len _ _ _ _ _) (grp_len HG.out))
    gi_wp2
    refine ⟨by simp, .inl ⟨_, _, rfl, run_takeDeferred hK, ?_⟩⟩
    exact ⟨_, results_tmp2 rfl _ _ _, v, rfl, SRow.lower8 (SRow.of (ownsRow_putObj hrow _ hK rfl) (cells2_int _) (by have := HLN.out; omega)) z1, hB1.trans (belowK_b (w := w) (Nat.le_refl _) W D _ _ (by omega) hK rfl rfl)⟩
  case stop =>
    rintro D c pre W _ _ h _
    exact h.elim
set_option maxRecDepth 100000 in
set_option maxHeartbeats 8000000 in
theorem implOrbit_any {lo hi : Nat} {v : Value} {xs : List M6} {w : World} (f A B C p q : Int) (h : SRow lo hi 6 v xs.length (fm xs) w) (hn : xs.length ≤ 1048576) (hU : UnitOK w) :
    Calls Tryz.prog 25 #[.int .i64 f, .agg #[.int .i64 A, .int .i64 B, .int .i64 C], v, .agg #[.int .i64 p, .int .i64 q]] w (LAns 2 (oL f A B C xs p q).length (oF f A B C xs p q) (cod6 f A B C (sbB f A B C xs p q)) w) := by
  rcases hg : sbB f A B C xs p q with _ | _
  case true =>
    obtain ⟨a, c, rfl, rfl⟩ := lat_nat7 (grp_good (sb_parts hg).1).1
    rw [cod6_ok (sb_parts hg).1]
    exact implOrbit_good f a c B p q hg h hn hU
  have L0 : Kt w.heap.size A B C ((w.alloc (.cells #[.int .i64 A, .int .i64 B, .int .i64 C] 31)).alloc (.cells #[.int .i64 p, .int .i64 q] 34)) := Kt.alloc (Kt.at _ rfl) _
  have V0 : Kg (w.heap.size + 1) p q ((w.alloc (.cells #[.int .i64 A, .int .i64 B, .int .i64 C] 31)).alloc (.cells #[.int .i64 p, .int .i64 q] 34)) := Kg.at2 _ (by simp)
  have B0 : Below w.heap.size w (((w.alloc (.cells #[.int .i64 A, .int .i64 B, .int .i64 C] 31)).alloc (.cells #[.int .i64 p, .int .i64 q] 34)).alloc (.cells #[.int .i64 p, .int .i64 q] 34)) := ((((Below.refl _ _).alloc (Nat.le_refl _) _).alloc (by simp) _).alloc (by simp; omega) _)
  have A0 : SRow lo hi 6 v xs.length (fm xs) (((w.alloc (.cells #[.int .i64 A, .int .i64 B, .int .i64 C] 31)).alloc (.cells #[.int .i64 p, .int .i64 q] 34)).alloc (.cells #[.int .i64 p, .int .i64 q] 34)) := h.grow B0 h.1
  have U0 : UnitOK (((w.alloc (.cells #[.int .i64 A, .int .i64 B, .int .i64 C] 31)).alloc (.cells #[.int .i64 p, .int .i64 q] 34)).alloc (.cells #[.int .i64 p, .int .i64 q] 34)) := Kq.call hU B0
  have X0 : SRow (w.heap.size + 1 + 1) (w.heap.size + 1 + 1 + 1) 2 (.slice (some ⟨w.heap.size + 1 + 1, 0, none⟩) 1 1) ([(p, q)] : List V2).length (intAt (cells2 [(p, q)])) (((w.alloc (.cells #[.int .i64 A, .int .i64 B, .int .i64 C] 31)).alloc (.cells #[.int .i64 p, .int .i64 q] 34)).alloc (.cells #[.int .i64 p, .int .i64 q] 34)) := SRow.one2 (by simp)
  have L0c := L0.cells
  have V0c := V0.cells
  have CG0 := groupWithCells_any f A B C A0 hn X0 (by simp) U0
  rw [gw_one, hg] at CG0
  have CG := Lib.hid CG0
  have HZ := Lib.hid (show (oL f A B C xs p q).length = 0 by simp [oL, hg])
  have hc := cod6_nz f A B C
  clear h hn hU A0 U0 X0 CG0 hg
  go_enter Tryz.func25, Tryz.ntmps25
  go_wp2_with fail
  refine CG.out.mono ?_
  rintro e w1 ⟨v1, rfl, _, hv, hb1⟩
  have hv1 := hv rfl
  subst hv1
  have B1 := bstep B0 hb1
  obtain ⟨cc, hcc⟩ : ∃ cc, cc = cod6 f A B C false := ⟨_, rfl⟩
  rw [← hcc] at hc ⊢
  have HCC := Lib.hid hcc
  clear hv hb1 B0 L0 L0c V0 V0c CG hcc
  go_wp2
  go_ret2
  exact LAns.bad HZ.out (by first | rfl | exact HCC.out) B1

end Go.Proofs.YtngpoaglildbnaaGreatDoor
