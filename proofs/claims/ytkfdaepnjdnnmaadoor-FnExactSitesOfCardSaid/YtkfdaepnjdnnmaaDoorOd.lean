/-
  Several of my texts in one: RgI, Og7, Ou7.
-/
import Derived.Test.YtkfdaepnjdnnmaaDoorGa
import Derived.OrdersIn
import Derived.TacticsIn
import Derived.Test.YtkfdaepnjdnnmaaDoorOb
import Derived.Test.YtkfdaepnjdnnmaaDoorCeS
import Derived.RangeFuncNested
import Derived.RangeFuncBound
import Derived.RangeFuncCalls
import Derived.RangeFuncLeaves
import Derived.RangeFuncBox
import Derived.Shelf.Abstract
import Derived.Shelf.RegionOpen
import Derived.WalkKit
import Derived.OwnWalkIn
import Derived.TacticsInMore
import Derived.LoopNIn
import Derived.LoopIn
import Derived.Laws.EntriesVeiled
import Derived.Laws.Rows
import Derived.Laws.ResultCell
import Derived.Laws.Tables
import Derived.Deep.RegionHeld3
import Derived.IntWalk
import Derived.Test.YtkfdaepnjdnnmaaDoorOc
namespace Go.Proofs.YtkfdaepnjdnnmaaDoor
section
open Go.RowKit
set_option linter.unusedSimpArgs false
set_option linter.unusedVariables false

/- how many have not come up yet -/
def leftN (L : Array Bool) : Nat := (L.toList.filter fun b => !b).length
theorem left_set : ∀ (L : List Bool) (i : Nat), L[i]? = some false → ((L.set i true).filter fun b => !b).length + 1 = (L.filter fun b => !b).length
  | [], i, h => by simp at h
  | b :: L, 0, h => by
    have e : b = false := by simpa using h
    subst e
    simp
  | b :: L, i + 1, h => by
    have ih := left_set L i (by simpa using h)
    rcases b with _ | _
    · simp only [List.set_cons_succ, List.filter_cons, Bool.not_false, if_true, List.length_cons]
      omega
    · simpa [List.set_cons_succ, List.filter_cons] using ih
theorem left_put {L : Array Bool} {i : Nat} (h : L.getD i true = false) : leftN (L.setIfInBounds i true) + 1 = leftN L := by
  have h1 : L.toList[i]? = some false := by
    rw [Array.getD_eq_getD_getElem?] at h
    rcases hx : L[i]? with _ | b
    · rw [hx] at h; simp at h
    · rw [hx] at h
      have e : b = false := by simpa using h
      rw [Array.getElem?_toList, hx, e]
  have h2 := left_set L.toList i h1
  unfold leftN
  rw [Array.toList_setIfInBounds]
  exact h2
theorem left_none {L : Array Bool} {i : Nat} (h : leftN L = 0) : L.getD i true = true := by
  rcases hx : L.getD i true with _ | _
  · have := left_put hx
    omega
  · rfl
theorem anyIn_inv {F : Fence} {n : Nat} {P : Program} {md : Region.Mode} {ops : Array Oper} {Q : Exit → Act → World → Prop} (Inv : Array Bool → Act → World → Prop)
    (hstep : ∀ (L : Array Bool) (a : Act) (w : World), Inv L a w → ∀ i ∈ Region.ready md ops L, wpOpIn F n P ops Q i (fun a' w' => Inv (L.setIfInBounds i true) a' w') a w)
    (hdone : ∀ (L : Array Bool) (a : Act) (w : World), Inv L a w → Region.ready md ops L = [] → Q .normal a w) :
    ∀ (fuel : Nat) (L : Array Bool) (a : Act) (w : World), leftN L ≤ fuel → Inv L a w → wpAnyIn F n P md ops Q fuel L a w
  | 0, L, a, w, hf, h => by
    have hr : Region.ready md ops L = [] := by
      refine List.eq_nil_iff_forall_not_mem.2 fun i hi => ?_
      have h1 := (mem_ready.1 hi).1
      rw [left_none (by omega)] at h1
      cases h1
    exact ⟨hr, hdone L a w h hr⟩
  | fuel + 1, L, a, w, hf, h => ⟨fun hr => hdone L a w h hr, fun i hi => wpOpIn_mono (fun a' w' h' => anyIn_inv Inv hstep hdone fuel _ a' w' (by have := left_put (mem_ready.1 hi).1; omega) h') (hstep L a w h i hi)⟩
end
end Go.Proofs.YtkfdaepnjdnnmaaDoor

namespace Go.Proofs.YtkfdaepnjdnnmaaDoor
section
open Go.RowKit Go.Shelf
attribute [local go_sem] Oper.semAt_some
set_option linter.unusedSimpArgs false
set_option linter.unusedVariables false

/- two cells have the same number just where one orbit holds both -/
def Same7 (Bs : List Nat) (W0 W : World) : Prop := ∀ b ∈ Bs, W.heap[b]? = W0.heap[b]?
theorem same_own7 {β : Type} (Bs : List Nat) (W0 : World) (h : ∀ b ∈ Bs, ∃ o : Obj, W0.heap[b]? = some o ∧ o.isCells = true) : Own (fun (_ : β) W => Same7 Bs W0 W) := fun s X Y row hs hg hrow b hb => by
  obtain ⟨o, h1, h2⟩ := h b hb
  have hx := hs b hb
  rw [h1] at hx
  exact ((hg.block b (Array.getElem?_eq_some_iff.1 hx).1 (fun e => by obtain ⟨o', k1, k2⟩ := hrow b e.symm; rw [hx] at k1; cases k1; rw [h2] at k2; cases k2)).trans hx).trans h1.symm
theorem same_cell7 {W W0 : World} {b i : Nat} {v : Value} (h : W.heap[b]? = W0.heap[b]?) (h0 : W0.cell? ⟨b, i, none⟩ = some v) : W.cell? ⟨b, i, none⟩ = some v := (World.cell?_of_block (w := W0) (w' := W) (a := ⟨b, i, none⟩) h).trans h0
theorem own_type7 {W : World} {base : Nat} {e : TypeId} {size n : Nat} {v : Value} {xs : List Value} {b : Nat} {cs : Array Value} {t : TypeId} (h : W.ownsRow base e size v n xs) (hb : W.heap[b]? = some (.cells cs t (0, 0))) (ht : t ≠ e) : some b ≠ v.ownBlock := by
  rcases h.2 with ⟨rfl, _⟩ | ⟨g, cap, cur, rfl, _, hg, _⟩
  · simp [Value.ownBlock]
  · intro e'
    obtain rfl : b = g := by simpa [Value.ownBlock] using e'
    rw [hb] at hg
    cases hg
    exact ht rfl
def gv (b : Bool) (v : Value) : Value := bif b then v else undef
theorem gv_t (v : Value) : gv true v = v := rfl
attribute [local go_sem] gv_t
theorem ready_no {md : Region.Mode} {ops : Array Oper} {L : Array Bool} (h : Region.ready md ops L = []) {i : Nat} {o : Oper} (ho : ops[i]? = some o) (hd : ∀ e ∈ o.after, Region.binds md e = true → L.getD e.on false = true) : L.getD i true = true := by
  rcases hx : L.getD i true with _ | _
  · have := mem_ready.2 ⟨hx, o, ho, hd⟩
    rw [h] at this
    cases this
  · rfl
end
end Go.Proofs.YtkfdaepnjdnnmaaDoor

namespace Go.Proofs.YtkfdaepnjdnnmaaDoor
section
open Go.RowKit
set_option linter.unusedSimpArgs false
set_option linter.unusedVariables false

def lsK (p q : Nat) (I : Nat → Int) (pre : List (CV p q)) (k : Nat) : List V2 := (pre.map Subtype.val).filter fun c => decide (I (nb (q : Int) c) = (k : Int))
theorem lsK_snoc (p q : Nat) (I : Nat → Int) (pre : List (CV p q)) (x : CV p q) (k : Nat) : lsK p q I (pre ++ [x]) k = lsK p q I pre k ++ if I (nb (q : Int) x.1) = (k : Int) then [x.1] else [] := by
  unfold lsK
  rw [List.map_append, List.filter_append]
  congr 1
  simp only [List.map_cons, List.map_nil, List.filter_cons, List.filter_nil, decide_eq_true_eq]
theorem lsK_len (p q : Nat) (I : Nat → Int) (pre : List (CV p q)) (k : Nat) : (lsK p q I pre k).length ≤ pre.length := by
  unfold lsK
  exact Nat.le_trans (List.length_filter_le _ _) (by rw [List.length_map]; exact Nat.le_refl _)
theorem lsK_mem {p q : Nat} {I : Nat → Int} {pre : List (CV p q)} {k : Nat} {c : V2} (h : c ∈ lsK p q I pre k) : I (nb (q : Int) c) = (k : Int) := by
  unfold lsK at h
  exact of_decide_eq_true (List.mem_filter.1 h).2
/- the rows at the end -/
theorem lsK_all {f : Int} {p q : Nat} {B : Int} {G : List M6} (hG : grpB f (p : Int) B (q : Int) G = true) {J : Nat → Bool} {I : Nat → Int} (hM : TMid (p : Int) B (q : Int) G (orbF p q B G) J I) {zs : List (CV p q)} (hz : zs.map Subtype.val = cellP q p) {k : Nat} (hk : k < (orbF p q B G).length) : lsK p q I zs k = osL (p : Int) B (q : Int) G k := by
  unfold lsK
  rw [hz, osL_at hk, orbL_cells hG]
  refine List.filter_congr fun v hv => ?_
  have hc := cellP_mem7.1 hv
  obtain ⟨h3, _⟩ := fst_cov hG (cellP q p) (fun v hv => cellP_mem7.1 hv)
  obtain ⟨a, ha, hoa⟩ := h3 _ hv
  obtain ⟨j, hj, hja⟩ := List.getElem_of_mem (show a ∈ orbF p q B G from ha)
  rw [← hja] at hoa
  rw [hM.i v hc j hj hoa]
  by_cases e : j = k
  · subst e
    simp [hoa]
  · have hno : ¬ Orb (p : Int) B (q : Int) G (orbF p q B G)[k] v := fun ho => by
      rcases Nat.lt_or_gt_of_ne e with h | h
      · exact orbF_sep hG hj hk h hoa ho
      · exact orbF_sep hG hk hj h ho hoa
    simp only [hno, decide_false, decide_eq_false_iff_not]
    omega
/- the index of a cell's row -/
theorem ix_lt {f : Int} {p q : Nat} {B : Int} {G : List M6} (hG : grpB f (p : Int) B (q : Int) G = true) {J : Nat → Bool} {I : Nat → Int} (hM : TMid (p : Int) B (q : Int) G (orbF p q B G) J I) {v : V2} (hv : celB (p : Int) (q : Int) v = true) : ∃ k, k < (orbF p q B G).length ∧ I (nb (q : Int) v) = (k : Int) := by
  obtain ⟨h3, _⟩ := fst_cov hG (cellP q p) (fun v hv => cellP_mem7.1 hv)
  obtain ⟨a, ha, hoa⟩ := h3 _ (cellP_mem7.2 hv)
  obtain ⟨k, hk, hka⟩ := List.getElem_of_mem (show a ∈ orbF p q B G from ha)
  rw [← hka] at hoa
  exact ⟨k, hk, hM.i v hv k hk hoa⟩
/- two rows in one block begin alike -/
theorem own_same {W : World} {b1 b2 g n n' : Nat} {e1 e2 : TypeId} {v v' : Value} {xs xs' : List Value} (h1 : W.ownsRow b1 e1 2 v n xs) (h2 : W.ownsRow b2 e2 2 v' n' xs') (hn : 0 < n) (hn' : 0 < n') (e : v.ownBlock = some g) (e' : v'.ownBlock = some g) : xs.take 2 = xs'.take 2 := by
  rcases h1.2 with ⟨_, h0⟩ | ⟨g1, c1, cur1, rfl, _, hg1, _, _, _, ht1⟩
  · omega
  rcases h2.2 with ⟨_, h0⟩ | ⟨g2, c2, cur2, rfl, _, hg2, _, _, _, ht2⟩
  · omega
  have e3 : g1 = g := by simpa [Value.ownBlock] using e
  have e4 : g2 = g := by simpa [Value.ownBlock] using e'
  subst e3
  subst e4
  rw [hg1] at hg2
  cases hg2
  rw [← ht1, ← ht2, List.take_take, List.take_take, Nat.min_eq_left (by omega), Nat.min_eq_left (by omega)]
theorem cells2_head {L L' : List V2} (h : (cells2 L).take 2 = (cells2 L').take 2) (h1 : L ≠ []) (h2 : L' ≠ []) : ∃ u, u ∈ L ∧ u ∈ L' := by
  rcases L with _ | ⟨⟨a, b⟩, L⟩
  · exact absurd rfl h1
  rcases L' with _ | ⟨⟨c, d⟩, L'⟩
  · exact absurd rfl h2
  have e : (Value.int .i64 a = Value.int .i64 c) ∧ (Value.int .i64 b = Value.int .i64 d) := by simpa [cells2] using h
  simp only [Value.int.injEq, true_and] at e
  obtain ⟨rfl, rfl⟩ := e
  exact ⟨(a, b), by simp, by simp⟩
theorem rows_apart {W : World} {n0 j k : Nat} {T : TypeId} {p q : Nat} {I : Nat → Int} {pre : List (CV p q)} {v v' : Value} (h1 : W.ownsRow n0 T 2 v (lsK p q I pre j).length (cells2 (lsK p q I pre j))) (h2 : W.ownsRow n0 T 2 v' (lsK p q I pre k).length (cells2 (lsK p q I pre k))) (hv : lsK p q I pre j = [] → v = .slice none 0 0) (hv' : lsK p q I pre k = [] → v' = .slice none 0 0) (hjk : j ≠ k) : v.ownBlock = none ∨ v.ownBlock ≠ v'.ownBlock := by
  by_cases hj : lsK p q I pre j = []
  · rw [hv hj]; exact .inl rfl
  rcases hb : v.ownBlock with _ | g
  · exact .inl rfl
  refine .inr fun e => ?_
  have hpj : 0 < (lsK p q I pre j).length := List.length_pos_iff.2 hj
  by_cases hk : lsK p q I pre k = []
  · rw [hv' hk] at e
    simp [Value.ownBlock] at e
  · have hpk : 0 < (lsK p q I pre k).length := List.length_pos_iff.2 hk
    obtain ⟨u, m1, m2⟩ := cells2_head (own_same h1 h2 hpj hpk hb e.symm) hj hk
    have a1 := lsK_mem m1
    have a2 := lsK_mem m2
    omega
/- a block of headers, each of a row that the call owns -/
def HdrAt (gr n n0 : Nat) (Ls : Nat → List V2) (vals : Nat → Value) (W : World) : Prop :=
  (∃ cs, W.heap[gr]? = some (.cells cs 87 (0, 0))) ∧ ∀ k, k < n → W.cell? ⟨gr, k, none⟩ = some (vals k) ∧ W.frozen? ⟨gr, k, none⟩ = false ∧ W.ownsRow n0 49 2 (vals k) (Ls k).length (cells2 (Ls k)) ∧ (Ls k = [] → vals k = .slice none 0 0)
theorem HdrAt.lt {gr n n0 : Nat} {Ls : Nat → List V2} {vals : Nat → Value} {W : World} (h : HdrAt gr n n0 Ls vals W) : gr < W.heap.size := by
  obtain ⟨⟨cs, h1⟩, _⟩ := h
  exact (Array.getElem?_eq_some_iff.1 h1).1
theorem HdrAt.call {gr n n0 : Nat} {Ls : Nat → List V2} {vals : Nat → Value} {W w1 : World} (h : HdrAt gr n n0 Ls vals W) (hb : Below W.heap.size W w1) : HdrAt gr n n0 Ls vals w1 := by
  have hl := h.lt
  obtain ⟨⟨cs, h1⟩, h2⟩ := h
  refine ⟨⟨cs, (hb.block _ hl).trans h1⟩, fun k hk => ?_⟩
  obtain ⟨a1, a2, a3, a4⟩ := h2 k hk
  exact ⟨(hb.cell (p := ⟨gr, k, none⟩) hl).trans a1, (hb.frozen (p := ⟨gr, k, none⟩) hl).trans a2, ownsRow_call a3 hb, a4⟩
theorem HdrAt.own {β : Type} (gr n n0 : Nat) (Ls : β → Nat → List V2) : Own (fun s W => ∃ vals, HdrAt gr n n0 (Ls s) vals W) := by
  rintro s X Y row ⟨vals, ⟨cs, h1⟩, h2⟩ hg hrow
  have hne : some gr ≠ row := fun e => by
    obtain ⟨o, ho, hc⟩ := hrow gr e.symm
    rw [h1] at ho; cases ho; cases hc
  have hb := hg.block gr (Array.getElem?_eq_some_iff.1 h1).1 hne
  refine ⟨vals, ⟨cs, hb.trans h1⟩, fun k hk => ?_⟩
  obtain ⟨a1, a2, a3, a4⟩ := h2 k hk
  refine ⟨(World.cell?_of_block (w := X) (a := ⟨gr, k, none⟩) hb).trans a1, (World.frozen?_of_block (w := X) (a := ⟨gr, k, none⟩) hb).trans a2, a3.kept hg ?_, a4⟩
  rcases a3.2 with ⟨e9, _⟩ | ⟨g, cap, cur, e9, _, hgb, _⟩
  · rw [e9]; exact .inl rfl
  · rw [e9]
    refine .inr fun e' => ?_
    obtain ⟨o, ho, hc⟩ := hrow g (by simpa [Value.ownBlock] using e'.symm)
    rw [hgb] at ho; cases ho; cases hc
end
end Go.Proofs.YtkfdaepnjdnnmaaDoor

