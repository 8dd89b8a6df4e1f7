/-
  The program's OrbitsOf. Conditions: the list's length is below the model's bound, and the program's variable unitMatrix holds the unit.
-/
import Derived.Test.YtkfdaepnjdnnmaaDoorOd
import Derived.Test.YtkfdaepnjdnnmaaDoorCeS
import Derived.RangeFuncNested
import Derived.RangeFuncBound
import Derived.RangeFuncCalls
import Derived.RangeFuncLeaves
import Derived.RangeFuncBox
import Derived.Shelf.Abstract
import Derived.Shelf.RegionOpen
import Derived.WalkKit
import Derived.OwnWalkIn
import Derived.TacticsInMore
import Derived.LoopNIn
import Derived.LoopIn
import Derived.Laws.EntriesVeiled
import Derived.Laws.Rows
import Derived.Laws.ResultCell
import Derived.Laws.Tables
import Derived.Deep.RegionHeld3
import Derived.IntWalk
namespace Go.Proofs.YtkfdaepnjdnnmaaDoor
open Go.RowKit Go.Shelf
attribute [local go_sem] Oper.semAt_some gv_t
set_option linter.unusedSimpArgs false
set_option linter.unusedVariables false

theorem wpListIn_make_full7 {Fc : Fence} {n : Nat} {P : Program} (w : World) {ops : Array Oper} {rest : List Oper} {o : Oper} {a : Act} {Q : Exit → Act → World → Prop}
    (hg : o.guard = none) (l c : Operand) (t : TypeId) (hop : o.op = Op.makeSlice t l c) (m : Nat) (v : Value) (w' : World) (hl : a.eval l = .int .i64 (m : Int)) (hc : a.eval c = .int .i64 (m : Int))
    (hrun : (Instr.makeSlice t (.int .i64 (m : Int)) (.int .i64 (m : Int))).run P w = .ok v w') (hK : wpListIn Fc n P ops Q rest (a.put o.dst v) w') :
    wpListIn Fc n P ops Q (o :: rest) a w := by
  refine wpListIn_plain hg fun K hK' => ?_
  unfold Oper.wpIn
  refine ⟨?_, ?_⟩
  · simp [Oper.about, hop]
  · rw [Oper.semAt_plain Fc _ _ (by rw [hop]; intro c hc'; cases hc')]
    simp [execOp, hop, hl, hc, hrun, Result.andThen]
    exact hK' _ _ hK
theorem hdr_new {g n n0 b : Nat} {W : World} (hown : W.ownsRow b 87 1 (.slice (some ⟨g, 0, none⟩) n n) n (madeCells (Value.cells (.slice none 0 0)) (n * 1)).toList) : HdrAt g n n0 (fun _ => []) (fun _ => .slice none 0 0) W := by
  refine ⟨?_, fun k hk => ⟨?_, hown.frozenAt k, ⟨rfl, .inl ⟨rfl, rfl⟩⟩, fun _ => rfl⟩⟩
  · rcases hown.2 with ⟨e, _⟩ | ⟨g', cap, cur, e, _, hg, _⟩
    · cases e
    · simp only [Value.slice.injEq, Option.some.injEq, Addr.mk.injEq, and_true, true_and] at e
      obtain ⟨rfl, _⟩ := e
      exact ⟨cur, hg⟩
  · rw [hown.cellAt k (by omega)]
    simp [madeCells, Value.cells, hk, Nat.mod_one]
theorem hdr_vrow {f : Int} {p q : Nat} {B : Int} {G : List M6} {gr n0 lo : Nat} {Ls : Nat → List V2} {vals : Nat → Value} {W : World} (hG : grpB f (p : Int) B (q : Int) G = true) (h : HdrAt gr (orbF p q B G).length n0 Ls vals W) (hg : lo ≤ gr) (hn0 : lo ≤ n0)
    (hLs : ∀ k, k < (orbF p q B G).length → Ls k = osL (p : Int) B (q : Int) G k) (hdis : ∀ i j u, i ≠ j → u ∈ Ls i → u ∈ Ls j → False) :
    VRowD lo W.heap.size (.slice (some ⟨gr, 0, none⟩) (orbF p q B G).length (orbF p q B G).length) (orbF p q B G).length (osLen (p : Int) B (q : Int) G) (osF (p : Int) B (q : Int) G) W := by
  have hl := h.lt
  obtain ⟨⟨cs, h1⟩, h2⟩ := h
  have hpos : ∀ k, k < (orbF p q B G).length → 0 < (Ls k).length := fun k hk => by
    rw [hLs k hk, osL_at hk]
    exact orbL_pos hG (orbF_cel hG hk)
  have hrow : ∀ k, k < (orbF p q B G).length → ∃ g cap cur, vals k = .slice (some ⟨g, 0, none⟩) (Ls k).length cap ∧ n0 ≤ g ∧ W.heap[g]? = some (.cells cur 49 (0, 0)) := fun k hk => by
    obtain ⟨_, _, a3, _⟩ := h2 k hk
    rcases a3.2 with ⟨_, h0⟩ | ⟨g, cap, cur, e, hb, hgb, _⟩
    · have := hpos k hk
      omega
    · exact ⟨g, cap, cur, e, hb, hgb⟩
  have hgs : ∀ k, k < (orbF p q B G).length → ∀ g cap, vals k = .slice (some ⟨g, 0, none⟩) (Ls k).length cap → ((vals k).ownBlock.getD 0) = g := fun k hk g cap e => by rw [e]; rfl
  refine ⟨Nat.le_refl _, orbF_64 hG, .inr ⟨gr, _, fun k => (vals k).ownBlock.getD 0, fun k => (match vals k with | .slice _ _ c => c | _ => 0), rfl, hg, hl, ⟨hl, fun k hk => ?_⟩, fun i j hij hj e9 => ?_⟩⟩
  · obtain ⟨a1, a2, a3, a4⟩ := h2 k hk
    obtain ⟨g, cap, cur, e, hb, hgb⟩ := hrow k hk
    have hlen : osLen (p : Int) B (q : Int) G k = (Ls k).length := by unfold osLen; rw [hLs k hk]
    have h768 : (Ls k).length ≤ 768 := by rw [hLs k hk, osL_at hk]; exact Nat.le_trans (orbL_len _ _ _ _ _) (grp_len hG)
    have hp := hpos k hk
    have hsr := SRow.of a3 (cells2_int _) (by omega)
    dsimp only
    rw [hgs k hk g cap e, hlen]
    rw [e] at a1 hsr ⊢
    refine ⟨a1, hp, h768, Nat.le_trans hn0 hb, (Array.getElem?_eq_some_iff.1 hgb).1, fun e7 => ?_, ?_⟩
    · subst e7
      rw [h1] at hgb
      cases hgb
    · obtain ⟨g', cap', e6, _, _, q9⟩ := hsr.2.2.resolve_left (fun h => by omega)
      simp only [Value.slice.injEq, Option.some.injEq, Addr.mk.injEq, and_true, true_and] at e6
      obtain ⟨e3, _⟩ := e6
      rw [← e3] at q9
      unfold osF
      rw [← hLs k hk]
      exact q9
  · have hi : i < (orbF p q B G).length := by omega
    obtain ⟨_, _, a3, _⟩ := h2 i hi
    obtain ⟨_, _, b3, _⟩ := h2 j hj
    obtain ⟨g, cap, cur, e, _, _⟩ := hrow i hi
    obtain ⟨g', cap', cur', e', _, _⟩ := hrow j hj
    dsimp only at e9
    rw [hgs i hi g cap e, hgs j hj g' cap' e'] at e9
    subst e9
    have pi := hpos i hi
    have pj := hpos j hj
    obtain ⟨u, m1, m2⟩ := cells2_head (own_same (g := g) a3 b3 pi pj (by rw [e]; rfl) (by rw [e']; rfl)) (List.length_pos_iff.1 pi) (List.length_pos_iff.1 pj)
    exact hdis i j u (by omega) m1 m2
theorem wpIn_append7 {Fc : Fence} {n : Nat} {P : Program} {w : World} {o : Oper} {a : Act} {K : Act → World → Prop} {Q : Exit → Act → World → Prop} (s x : Operand) (t : TypeId)
    (hop : o.op = Op.call { callee := Callee.builtin Builtin.append, args := #[s, x], argTypes := #[t, t] }) (base : Nat) (e : TypeId) (i : TypeInfo) (z : Value) (size bytes : Nat) (h1 : P.underlying t = some (.slice e)) (h2 : P.info? e = some i) (h3 : i.zero = some z) (h4 : i.size = size) (h5 : i.bytes = bytes) (h6 : z.cells.size = size) (h7 : 0 < size)
    (v : Value) (k : Nat) (xs : List Value) (hs : a.eval s = v) (hown : w.ownsRow base e size v k xs) (ad : Addr) (m c : Nat) (news : List Value) (hx : a.eval x = .slice (some ad) m c) (hn : news.length = m * size)
    (hc : ∀ j u, news[j]? = some u → w.cell? (ad.add j) = some u) (h1c : ∀ u ∈ news, u.oneCell' = true) (b1 : k + m ≤ maxLen) (b2 : (k + m) * bytes ≤ 140737488355328) (b3 : base ≤ w.heap.size)
    (hK : ∀ v' w', w'.ownsRow base e size v' (k + m) (xs ++ news) → w.grownBy w' v.ownBlock → K (a.put o.dst v') w') : o.wpIn Fc n P a w K Q := by
  obtain ⟨v', w', hrun, r1, r2, r3⟩ := run_append_own (P := P) w base t o.type e i z size bytes h1 h2 h3 h4 h5 h6 h7 v k xs hown ad m c news hn hc h1c b1 b2 b3
  unfold Oper.wpIn
  refine ⟨?_, ?_⟩
  · simp [Oper.about, hop, resolve, Target.leads, Sem.run_pure]
  · rw [Oper.semAt_plain Fc _ _ (by rw [hop]; intro c hc'; cases hc')]
    simp [execOp, hop, resolve, invoke, builtin, hs, hx, hrun, Result.andThen]
    exact hK v' w' r1 r2
/- what the append leaves -/
def AppV (W : World) (n0 : Nat) (ui v' : Value) (L : List V2) (x0 x1 : Int) (W' : World) : Prop :=
  ∃ Wa : World, Below W.heap.size W Wa ∧ Wa.grownBy W' ui.ownBlock ∧ W'.ownsRow n0 49 2 v' (L.length + 1) (cells2 L ++ [.int .i64 x0, .int .i64 x1])
theorem AppV.same {W W' : World} {n0 b : Nat} {ui v' : Value} {L : List V2} {x0 x1 : Int} (h : AppV W n0 ui v' L x0 x1 W') (hb : b < W.heap.size) (hn : some b ≠ ui.ownBlock) : W'.heap[b]? = W.heap[b]? := by
  obtain ⟨Wa, h1, h2, _⟩ := h
  exact (h2.block _ (Nat.lt_of_lt_of_le hb h1.size) hn).trans (h1.block _ hb)
theorem AppV.drew {W W' : World} {n0 : Nat} {ui v' : Value} {L : List V2} {x0 x1 : Int} (h : AppV W n0 ui v' L x0 x1 W') : AppV W n0 ui v' L x0 x1 W' := h
theorem setCell_heap7 {W : World} {g i : Nat} {cs : Array Value} {T : TypeId} {u : Value} (h : W.heap[g]? = some (.cells cs T (0, 0))) : (W.setCell ⟨g, i, none⟩ u).heap[g]? = some (.cells (cs.setIfInBounds i u) T (0, 0)) := by
  have hl := (Array.getElem?_eq_some_iff.1 h).1
  have he := (Array.getElem?_eq_some_iff.1 h).2
  simp [World.setCell, Array.getElem?_modify, h]
theorem own_set7 {W : World} {base : Nat} {e : TypeId} {size n b j : Nat} {v u : Value} {xs : List Value} (h : W.ownsRow base e size v n xs) (hne : some b ≠ v.ownBlock) : (W.setCell ⟨b, j, none⟩ u).ownsRow base e size v n xs := by
  rcases h.2 with h0 | ⟨g, cap, cur, e1, k1, k2, k3⟩
  · exact ⟨h.1, .inl h0⟩
  · refine ⟨h.1, .inr ⟨g, cap, cur, e1, k1, ?_, k3⟩⟩
    have hbg : b ≠ g := fun e2 => hne (by rw [e1, e2]; rfl)
    rw [Below.heap_setCell _ _ _ _ (by dsimp only; omega)]
    exact k2
theorem own_cells7 {W : World} {base : Nat} {e : TypeId} {size n j : Nat} {v : Value} {xs : List Value} {o : Obj} (h : W.ownsRow base e size v n xs) (ej : v.ownBlock = some j) (hj : W.heap[j]? = some o) : o.isCells = true := by
  rcases h.2 with ⟨e1, _⟩ | ⟨g, cap, cur, e1, _, k2, _⟩
  · rw [e1] at ej
    simp [Value.ownBlock] at ej
  · rw [e1] at ej
    obtain rfl : g = j := by simpa [Value.ownBlock] using ej
    rw [k2] at hj
    cases hj
    rfl
theorem HdrAt.stored {p q : Nat} {I : Nat → Int} {pre post : List (CV p q)} {gr n n0 i : Nat} {vals : Nat → Value} {v' : Value} {x0 x1 : Int} {W W'' : World} (h : HdrAt gr n n0 (lsK p q I pre) vals W) (hi : i < n) (hA : AppV W n0 (vals i) v' (lsK p q I pre i) x0 x1 W'')
    (hS : ∀ k, lsK p q I post k = lsK p q I pre k ++ if k = i then [(x0, x1)] else []) : HdrAt gr n n0 (lsK p q I post) (fun k => if k = i then v' else vals k) (W''.setCell ⟨gr, i, none⟩ v') := by
  have hl := h.lt
  obtain ⟨Wa, hb, hg, hv'⟩ := hA
  have ha := h.call hb
  have hla := ha.lt
  obtain ⟨⟨cs, h1⟩, h2⟩ := ha
  obtain ⟨_, _, ai, _⟩ := h2 i hi
  have hne := own_type7 ai h1 (by decide)
  have e2 : W''.heap[gr]? = some (.cells cs 87 (0, 0)) := (hg.block _ hla hne).trans h1
  have hne' := own_type7 hv' e2 (by decide)
  refine ⟨⟨cs.setIfInBounds i v', setCell_heap7 e2⟩, fun k hk => ?_⟩
  obtain ⟨a1, a2, a3, a4⟩ := h2 k hk
  have c1 : W''.cell? ⟨gr, k, none⟩ = some (vals k) := (World.cell?_of_block (w := Wa) (a := ⟨gr, k, none⟩) (hg.block _ hla hne)).trans a1
  have c2 : W''.frozen? ⟨gr, k, none⟩ = false := (World.frozen?_of_block (w := Wa) (a := ⟨gr, k, none⟩) (hg.block _ hla hne)).trans a2
  by_cases e : k = i
  · subst e
    refine ⟨?_, by rw [World.frozen?_setCell]; exact c2, ?_, fun h9 => ?_⟩
    · rw [World.cell?_setCell_same _ _ _ c1]; simp
    · simp only [if_true]
      rw [hS k, if_pos rfl, cells2_snoc, List.length_append]
      exact own_set7 hv' hne'
    · rw [hS k, if_pos rfl] at h9
      simp at h9
  · have hx : (⟨gr, i, none⟩ : Addr) ≠ ⟨gr, k, none⟩ := fun h' => e (congrArg Addr.off h').symm
    have hap := rows_apart a3 ai a4 (h2 i hi).2.2.2 e
    have hnk := own_type7 a3 h1 (by decide)
    rw [hS k, if_neg e, List.append_nil]
    simp only [e, if_false]
    exact ⟨by rw [World.cell?_setCell_other (w := W'') (a := ⟨gr, i, none⟩) (b := ⟨gr, k, none⟩) (h := hx)]; exact c1, by rw [World.frozen?_setCell]; exact c2, own_set7 (a3.kept hg hap) hnk, a4⟩
set_option maxRecDepth 100000 in
set_option maxHeartbeats 16000000 in
theorem orbits_any {xs : List M6} {w : World} {g1 cap1 : Nat} (f : Int) (p q : Nat) (B : Int) (hg : grpB f (p : Int) B (q : Int) xs = true) (r0 : IRow g1 (xs.length * 6) (fm xs) w) :
    Calls Tryd.prog 60 #[.agg #[.int .i64 ((p : Int)), .int .i64 B, .int .i64 ((q : Int))], .slice (some ⟨g1, 0, none⟩) xs.length cap1] w fun e w' => ∃ v', e = .returned v' ∧ VRowD w.heap.size w'.heap.size v' (orbF p q B xs).length (osLen (p : Int) B (q : Int) xs) (osF (p : Int) B (q : Int) xs) w' ∧ Below w.heap.size w w' := by
  obtain ⟨i0, hi0, hz0, hz1, hz2⟩ := info_parts infoVec
  obtain ⟨i1, hj0, hj1, hj2, hj3⟩ := info_parts infoVs
  have L1 : Kt w.heap.size (p : Int) B (q : Int) (w.alloc (.cells #[.int .i64 ((p : Int)), .int .i64 B, .int .i64 ((q : Int))] 31)) := Kt.at _ rfl
  have B1 : Below w.heap.size w (w.alloc (.cells #[.int .i64 ((p : Int)), .int .i64 B, .int .i64 ((q : Int))] 31)) := (Below.refl _ _).alloc (Nat.le_refl _) _
  have r1 := r0.grow B1 r0.1
  have HG := Lib.hid hg
  have HL := Lib.hid (grp_good HG.out).1
  have HB := Lib.hid (latI_bd HL.out)
  have HPQ := Lib.hid (show p * q ≤ 64 by have := latI_prod HL.out; exact_mod_cast this)
  have H64 := Lib.hid (orbF_64 HG.out)
  have h64 := H64.out
  clear hg r0
  refine (callsIn_wide (n := 3)).1 ?_
  refine callsIn_of_wp_marks Tryd.func60 rfl trivial ?_ rfl
  simp only [Tryd.ntmps60, List.size_toArray, List.length_cons, List.length_nil, Nat.reduceAdd, Nat.reduceSub, Array.replicate_succ, Array.replicate_zero, List.push_toArray, List.append_toArray, List.nil_append, List.cons_append]
  have L1c := L1.cells
  gi_wp2_with (first
    | (refine ⟨trivial, ?_⟩; gi_at_call 94; refine (callsIn_wide.2 (orbI_any (cap := cap1) HG.out r1)).mono ?_; rintro e w2 ⟨J, I, rfl, hM, hb2⟩; have hn0 : (w2.alloc (.cells #[.int .i64 0, .int .i64 0, .int .i64 0, .int .i64 0, .int .i64 0, .int .i64 0, .int .i64 0, .int .i64 0, .int .i64 0, .int .i64 0, .int .i64 0, .int .i64 0, .int .i64 0, .int .i64 0, .int .i64 0, .int .i64 0, .int .i64 0, .int .i64 0, .int .i64 0, .int .i64 0, .int .i64 0, .int .i64 0, .int .i64 0, .int .i64 0, .int .i64 0, .int .i64 0, .int .i64 0, .int .i64 0, .int .i64 0, .int .i64 0, .int .i64 0, .int .i64 0, .int .i64 0, .int .i64 0, .int .i64 0, .int .i64 0, .int .i64 0, .int .i64 0, .int .i64 0, .int .i64 0, .int .i64 0, .int .i64 0, .int .i64 0, .int .i64 0, .int .i64 0, .int .i64 0, .int .i64 0, .int .i64 0, .int .i64 0, .int .i64 0, .int .i64 0, .int .i64 0, .int .i64 0, .int .i64 0, .int .i64 0, .int .i64 0, .int .i64 0, .int .i64 0, .int .i64 0, .int .i64 0, .int .i64 0, .int .i64 0, .int .i64 0, .int .i64 0] 136)).heap[w2.heap.size]? = some (.cells (rowI fun _ => 0) 136 (0, 0)) := (by rw [show (#[.int .i64 0, .int .i64 0, .int .i64 0, .int .i64 0, .int .i64 0, .int .i64 0, .int .i64 0, .int .i64 0, .int .i64 0, .int .i64 0, .int .i64 0, .int .i64 0, .int .i64 0, .int .i64 0, .int .i64 0, .int .i64 0, .int .i64 0, .int .i64 0, .int .i64 0, .int .i64 0, .int .i64 0, .int .i64 0, .int .i64 0, .int .i64 0, .int .i64 0, .int .i64 0, .int .i64 0, .int .i64 0, .int .i64 0, .int .i64 0, .int .i64 0, .int .i64 0, .int .i64 0, .int .i64 0, .int .i64 0, .int .i64 0, .int .i64 0, .int .i64 0, .int .i64 0, .int .i64 0, .int .i64 0, .int .i64 0, .int .i64 0, .int .i64 0, .int .i64 0, .int .i64 0, .int .i64 0, .int .i64 0, .int .i64 0, .int .i64 0, .int .i64 0, .int .i64 0, .int .i64 0, .int .i64 0, .int .i64 0, .int .i64 0, .int .i64 0, .int .i64 0, .int .i64 0, .int .i64 0, .int .i64 0, .int .i64 0, .int .i64 0, .int .i64 0] : Array Value) = rowI (fun _ => 0) from rfl]; exact World.alloc_heap_new _ _); have hst : Sem.run Tryd.prog (storeCells ⟨w2.heap.size, 0, none⟩ (rowI I).toList 0) (w2.alloc (.cells #[.int .i64 0, .int .i64 0, .int .i64 0, .int .i64 0, .int .i64 0, .int .i64 0, .int .i64 0, .int .i64 0, .int .i64 0, .int .i64 0, .int .i64 0, .int .i64 0, .int .i64 0, .int .i64 0, .int .i64 0, .int .i64 0, .int .i64 0, .int .i64 0, .int .i64 0, .int .i64 0, .int .i64 0, .int .i64 0, .int .i64 0, .int .i64 0, .int .i64 0, .int .i64 0, .int .i64 0, .int .i64 0, .int .i64 0, .int .i64 0, .int .i64 0, .int .i64 0, .int .i64 0, .int .i64 0, .int .i64 0, .int .i64 0, .int .i64 0, .int .i64 0, .int .i64 0, .int .i64 0, .int .i64 0, .int .i64 0, .int .i64 0, .int .i64 0, .int .i64 0, .int .i64 0, .int .i64 0, .int .i64 0, .int .i64 0, .int .i64 0, .int .i64 0, .int .i64 0, .int .i64 0, .int .i64 0, .int .i64 0, .int .i64 0, .int .i64 0, .int .i64 0, .int .i64 0, .int .i64 0, .int .i64 0, .int .i64 0, .int .i64 0, .int .i64 0] 136)) = .ok () ((w2.alloc (.cells #[.int .i64 0, .int .i64 0, .int .i64 0, .int .i64 0, .int .i64 0, .int .i64 0, .int .i64 0, .int .i64 0, .int .i64 0, .int .i64 0, .int .i64 0, .int .i64 0, .int .i64 0, .int .i64 0, .int .i64 0, .int .i64 0, .int .i64 0, .int .i64 0, .int .i64 0, .int .i64 0, .int .i64 0, .int .i64 0, .int .i64 0, .int .i64 0, .int .i64 0, .int .i64 0, .int .i64 0, .int .i64 0, .int .i64 0, .int .i64 0, .int .i64 0, .int .i64 0, .int .i64 0, .int .i64 0, .int .i64 0, .int .i64 0, .int .i64 0, .int .i64 0, .int .i64 0, .int .i64 0, .int .i64 0, .int .i64 0, .int .i64 0, .int .i64 0, .int .i64 0, .int .i64 0, .int .i64 0, .int .i64 0, .int .i64 0, .int .i64 0, .int .i64 0, .int .i64 0, .int .i64 0, .int .i64 0, .int .i64 0, .int .i64 0, .int .i64 0, .int .i64 0, .int .i64 0, .int .i64 0, .int .i64 0, .int .i64 0, .int .i64 0, .int .i64 0] 136)).setRow w2.heap.size (rowI I)) := store64 hn0; have hA3 : ARI w2.heap.size I ((w2.alloc (.cells #[.int .i64 0, .int .i64 0, .int .i64 0, .int .i64 0, .int .i64 0, .int .i64 0, .int .i64 0, .int .i64 0, .int .i64 0, .int .i64 0, .int .i64 0, .int .i64 0, .int .i64 0, .int .i64 0, .int .i64 0, .int .i64 0, .int .i64 0, .int .i64 0, .int .i64 0, .int .i64 0, .int .i64 0, .int .i64 0, .int .i64 0, .int .i64 0, .int .i64 0, .int .i64 0, .int .i64 0, .int .i64 0, .int .i64 0, .int .i64 0, .int .i64 0, .int .i64 0, .int .i64 0, .int .i64 0, .int .i64 0, .int .i64 0, .int .i64 0, .int .i64 0, .int .i64 0, .int .i64 0, .int .i64 0, .int .i64 0, .int .i64 0, .int .i64 0, .int .i64 0, .int .i64 0, .int .i64 0, .int .i64 0, .int .i64 0, .int .i64 0, .int .i64 0, .int .i64 0, .int .i64 0, .int .i64 0, .int .i64 0, .int .i64 0, .int .i64 0, .int .i64 0, .int .i64 0, .int .i64 0, .int .i64 0, .int .i64 0, .int .i64 0, .int .i64 0] 136)).setRow w2.heap.size (rowI I)) := setRow_heap _ _ _ _ _ _ hn0; have hb3 : Below w2.heap.size w2 ((w2.alloc (.cells #[.int .i64 0, .int .i64 0, .int .i64 0, .int .i64 0, .int .i64 0, .int .i64 0, .int .i64 0, .int .i64 0, .int .i64 0, .int .i64 0, .int .i64 0, .int .i64 0, .int .i64 0, .int .i64 0, .int .i64 0, .int .i64 0, .int .i64 0, .int .i64 0, .int .i64 0, .int .i64 0, .int .i64 0, .int .i64 0, .int .i64 0, .int .i64 0, .int .i64 0, .int .i64 0, .int .i64 0, .int .i64 0, .int .i64 0, .int .i64 0, .int .i64 0, .int .i64 0, .int .i64 0, .int .i64 0, .int .i64 0, .int .i64 0, .int .i64 0, .int .i64 0, .int .i64 0, .int .i64 0, .int .i64 0, .int .i64 0, .int .i64 0, .int .i64 0, .int .i64 0, .int .i64 0, .int .i64 0, .int .i64 0, .int .i64 0, .int .i64 0, .int .i64 0, .int .i64 0, .int .i64 0, .int .i64 0, .int .i64 0, .int .i64 0, .int .i64 0, .int .i64 0, .int .i64 0, .int .i64 0, .int .i64 0, .int .i64 0, .int .i64 0, .int .i64 0] 136)).setRow w2.heap.size (rowI I)) := below_row ((Below.refl _ _).alloc (Nat.le_refl _) _) (Nat.le_refl _) _; have hs3 : ((w2.alloc (.cells #[.int .i64 0, .int .i64 0, .int .i64 0, .int .i64 0, .int .i64 0, .int .i64 0, .int .i64 0, .int .i64 0, .int .i64 0, .int .i64 0, .int .i64 0, .int .i64 0, .int .i64 0, .int .i64 0, .int .i64 0, .int .i64 0, .int .i64 0, .int .i64 0, .int .i64 0, .int .i64 0, .int .i64 0, .int .i64 0, .int .i64 0, .int .i64 0, .int .i64 0, .int .i64 0, .int .i64 0, .int .i64 0, .int .i64 0, .int .i64 0, .int .i64 0, .int .i64 0, .int .i64 0, .int .i64 0, .int .i64 0, .int .i64 0, .int .i64 0, .int .i64 0, .int .i64 0, .int .i64 0, .int .i64 0, .int .i64 0, .int .i64 0, .int .i64 0, .int .i64 0, .int .i64 0, .int .i64 0, .int .i64 0, .int .i64 0, .int .i64 0, .int .i64 0, .int .i64 0, .int .i64 0, .int .i64 0, .int .i64 0, .int .i64 0, .int .i64 0, .int .i64 0, .int .i64 0, .int .i64 0, .int .i64 0, .int .i64 0, .int .i64 0, .int .i64 0] 136)).setRow w2.heap.size (rowI I)).heap.size = w2.heap.size + 1 := (by simp [World.setRow]); obtain ⟨w4, hmk, hown4, hgr4⟩ := run_make_full (P := Tryd.prog) ((w2.alloc (.cells #[.int .i64 0, .int .i64 0, .int .i64 0, .int .i64 0, .int .i64 0, .int .i64 0, .int .i64 0, .int .i64 0, .int .i64 0, .int .i64 0, .int .i64 0, .int .i64 0, .int .i64 0, .int .i64 0, .int .i64 0, .int .i64 0, .int .i64 0, .int .i64 0, .int .i64 0, .int .i64 0, .int .i64 0, .int .i64 0, .int .i64 0, .int .i64 0, .int .i64 0, .int .i64 0, .int .i64 0, .int .i64 0, .int .i64 0, .int .i64 0, .int .i64 0, .int .i64 0, .int .i64 0, .int .i64 0, .int .i64 0, .int .i64 0, .int .i64 0, .int .i64 0, .int .i64 0, .int .i64 0, .int .i64 0, .int .i64 0, .int .i64 0, .int .i64 0, .int .i64 0, .int .i64 0, .int .i64 0, .int .i64 0, .int .i64 0, .int .i64 0, .int .i64 0, .int .i64 0, .int .i64 0, .int .i64 0, .int .i64 0, .int .i64 0, .int .i64 0, .int .i64 0, .int .i64 0, .int .i64 0, .int .i64 0, .int .i64 0, .int .i64 0, .int .i64 0] 136)).setRow w2.heap.size (rowI I)) (w2.heap.size + 1) 62 87 i1 (.slice none 0 0) 1 Tryd.underlying62 hj0 hj1 hj2 .i64 .i64 (orbF p q B xs).length (by rw [hj3]; omega) (by unfold maxLen; omega) (by omega); rw [hs3] at hmk hown4; have hb4 : Below ((w2.alloc (.cells #[.int .i64 0, .int .i64 0, .int .i64 0, .int .i64 0, .int .i64 0, .int .i64 0, .int .i64 0, .int .i64 0, .int .i64 0, .int .i64 0, .int .i64 0, .int .i64 0, .int .i64 0, .int .i64 0, .int .i64 0, .int .i64 0, .int .i64 0, .int .i64 0, .int .i64 0, .int .i64 0, .int .i64 0, .int .i64 0, .int .i64 0, .int .i64 0, .int .i64 0, .int .i64 0, .int .i64 0, .int .i64 0, .int .i64 0, .int .i64 0, .int .i64 0, .int .i64 0, .int .i64 0, .int .i64 0, .int .i64 0, .int .i64 0, .int .i64 0, .int .i64 0, .int .i64 0, .int .i64 0, .int .i64 0, .int .i64 0, .int .i64 0, .int .i64 0, .int .i64 0, .int .i64 0, .int .i64 0, .int .i64 0, .int .i64 0, .int .i64 0, .int .i64 0, .int .i64 0, .int .i64 0, .int .i64 0, .int .i64 0, .int .i64 0, .int .i64 0, .int .i64 0, .int .i64 0, .int .i64 0, .int .i64 0, .int .i64 0, .int .i64 0, .int .i64 0] 136)).setRow w2.heap.size (rowI I)).heap.size ((w2.alloc (.cells #[.int .i64 0, .int .i64 0, .int .i64 0, .int .i64 0, .int .i64 0, .int .i64 0, .int .i64 0, .int .i64 0, .int .i64 0, .int .i64 0, .int .i64 0, .int .i64 0, .int .i64 0, .int .i64 0, .int .i64 0, .int .i64 0, .int .i64 0, .int .i64 0, .int .i64 0, .int .i64 0, .int .i64 0, .int .i64 0, .int .i64 0, .int .i64 0, .int .i64 0, .int .i64 0, .int .i64 0, .int .i64 0, .int .i64 0, .int .i64 0, .int .i64 0, .int .i64 0, .int .i64 0, .int .i64 0, .int .i64 0, .int .i64 0, .int .i64 0, .int .i64 0, .int .i64 0, .int .i64 0, .int .i64 0, .int .i64 0, .int .i64 0, .int .i64 0, .int .i64 0, .int .i64 0, .int .i64 0, .int .i64 0, .int .i64 0, .int .i64 0, .int .i64 0, .int .i64 0, .int .i64 0, .int .i64 0, .int .i64 0, .int .i64 0, .int .i64 0, .int .i64 0, .int .i64 0, .int .i64 0, .int .i64 0, .int .i64 0, .int .i64 0, .int .i64 0] 136)).setRow w2.heap.size (rowI I)) w4 := Below.grown (Below.refl _ _) hgr4 (Nat.le_refl _) (fun r hr => by cases hr); have L4c := ((((L1.call hb2).call hb3).call hb4).alloc (.cells #[.slice (some ⟨w2.heap.size + 1, 0, none⟩) (orbF p q B xs).length (orbF p q B xs).length] 62)).cells; have L4d := (((L1.call hb2).call hb3).call hb4).cells; have L4l := (((L1.call hb2).call hb3).call hb4).1; clear hn0)
    | (gi_at_make; refine wpListIn_make_full7 _ rfl _ _ _ rfl (orbF p q B xs).length _ _ rfl rfl hmk ?_)
    | (refine ⟨trivial, ?_⟩; gi_at_call 95; refine (cellsS_in Fence.wide _ trivial rfl _ _ _ _).mono ?_; rintro e w5 ⟨rfl, rfl⟩))
  have z1 := B1.size
  have z13 : w.heap.size + 1 ≤ (w.alloc (.cells #[.int .i64 ((p : Int)), .int .i64 B, .int .i64 ((q : Int))] 31)).heap.size := by simp
  have B2 : Below w.heap.size w w2 := bstep B1 hb2
  have z12 := hb2.size
  have B3 := bstep B2 hb3
  have B4 := bstep B3 hb4
  have L4 := ((L1.call hb2).call hb3).call hb4
  have A4 := hA3.call hb4
  have HD4 : HdrAt (w2.heap.size + 1) (orbF p q B xs).length (w4.heap.size + 2) (fun _ => []) (fun _ => .slice none 0 0) w4 := hdr_new hown4
  have hg4 := HD4.lt
  have HM := Lib.hid hM
  clear hst hmk L1c hb2 hb3 r1 L1 B1 B2 hM L4c L4d hown4 hgr4 hb4 hA3 B3 hs3
  obtain ⟨W0, hW0⟩ : ∃ W0, (w4.alloc (.cells #[.slice (some ⟨w2.heap.size + 1, 0, none⟩) (orbF p q B xs).length (orbF p q B xs).length] 62)).alloc (.cells #[.int .i64 (p : Int), .int .i64 B, .int .i64 (q : Int)] 31) = W0 := ⟨_, rfl⟩
  have hsz : W0.heap.size = w4.heap.size + 2 := by rw [← hW0]; simp
  have z4 := B4.size
  have BW : Below w4.heap.size w4 W0 := by rw [← hW0]; exact ((Below.refl _ _).alloc (Nat.le_refl _) _).alloc (by simp) _
  have B0 := bstep B4 BW
  have LW := L4.call BW
  have AW := A4.call BW
  have HW := HD4.call BW
  have bO : W0.heap[w4.heap.size]? = some (.cells #[.slice (some ⟨w2.heap.size + 1, 0, none⟩) (orbF p q B xs).length (orbF p q B xs).length] 62 (0, 0)) := by rw [← hW0]; exact (Below.heap_alloc _ _ _ (by simp)).trans (World.alloc_heap_new w4 _)
  have bR : W0.heap[w4.heap.size + 1]? = some (.cells #[.int .i64 (p : Int), .int .i64 B, .int .i64 (q : Int)] 31 (0, 0)) := by rw [← hW0]; simpa using World.alloc_heap_new (w4.alloc (.cells #[.slice (some ⟨w2.heap.size + 1, 0, none⟩) (orbF p q B xs).length (orbF p q B xs).length] 62)) (.cells #[.int .i64 (p : Int), .int .i64 B, .int .i64 (q : Int)] 31)
  have cA : W0.cell? ⟨w4.heap.size + 1, 0, none⟩ = some (.int .i64 (p : Int)) := by simp [World.cell?, bR]
  have cC : W0.cell? ⟨w4.heap.size + 1, 2, none⟩ = some (.int .i64 (q : Int)) := by simp [World.cell?, bR]
  have HS : Hid (∀ bb ∈ [w.heap.size, w2.heap.size, w4.heap.size], ∃ o : Obj, W0.heap[bb]? = some o ∧ o.isCells = true) := Lib.hid (by
    intro bb hbb
    simp only [List.mem_cons, List.not_mem_nil, or_false] at hbb
    rcases hbb with rfl | rfl | rfl
    · exact cells_of7 LW.2.1
    · exact ⟨_, AW, rfl⟩
    · exact ⟨_, bO, rfl⟩)
  have HLW := Lib.hid LW
  have HAW := Lib.hid AW
  have HOW := Lib.hid bO
  rw [hW0]
  clear hW0 BW L4 A4 HD4 B4 LW AW bO
  have hz := B0.size
  refine wpIn_rangeFunc_ownH rfl (by omega) (gf := 126) (lb := #[.pointer (some ⟨w4.heap.size + 1, 0, none⟩)]) rfl trivial (enters_of Tryd.func126 (by kernel_rfl) rfl)
    (cellsS_stops Fence.wide (3 - 1) trivial rfl (by omega) (w4.heap.size + 1) p q (by have := HB.out.1; omega) (by have := HB.out.2; omega) W0 (by omega) cA cC) (fun h k => Eq.trans k h) (keepC_b (by omega)) (Below.refl _ _) (fun _ => rfl)
    (fun pre W => (((∃ vals, HdrAt (w2.heap.size + 1) (orbF p q B xs).length (w4.heap.size + 2) (lsK p q I pre) vals W) ∧ W.heap[w4.heap.size + 1]? = some (.cells #[.int .i64 (p : Int), .int .i64 B, .int .i64 (q : Int)] 31 (0, 0))) ∧ Same7 [w.heap.size, w2.heap.size, w4.heap.size] W0 W) ∧ Below w.heap.size w W)
    (fun _ _ _ => False)
    (OwnFrom.and (OwnFrom.and (OwnFrom.and (Own.from (HdrAt.own _ _ _ (fun pre => lsK p q I pre)) _) (Own.from (at_ownC _ _ rfl) _)) (Own.from (same_own7 _ W0 HS.out) _)) (ownFrom_below (Nat.le_refl _) hz))
    (fun _ _ _ _ _ hs _ _ => hs)
    ⟨⟨⟨⟨_, HW⟩, bR⟩, fun _ _ => rfl⟩, B0⟩
    (fun xx a' W => ∃ Bx, w4.heap.size + 1 < Bx ∧ W.heap[Bx]? = some (.cells #[.int .i64 xx.1.1, .int .i64 xx.1.2] 49 (0, 0)) ∧ a' = { tmps := #[.agg #[.int .i64 ((p : Int)), .int .i64 B, .int .i64 ((q : Int))], .slice (some ⟨g1, 0, none⟩) xs.length cap1, .pointer (some ⟨w.heap.size, 0, none⟩), undef, .slice none 0 0, .pointer (some ⟨w2.heap.size, 0, none⟩), .int .i64 ((orbF p q B xs).length : Nat), .pointer (some ⟨w4.heap.size, 0, none⟩), .pointer (some ⟨Bx, 0, none⟩), undef, .tuple #[.agg (rowI I), .int .i64 ((orbF p q B xs).length : Nat)], .agg #[.int .i64 ((p : Int)), .int .i64 B, .int .i64 ((q : Int))], .slice (some ⟨g1, 0, none⟩) xs.length cap1, .tuple #[.agg (rowI I), .int .i64 ((orbF p q B xs).length : Nat)], .agg (rowI I), .int .i64 ((orbF p q B xs).length : Nat), .int .i64 ((orbF p q B xs).length : Nat), .slice (some ⟨w2.heap.size + 1, 0, none⟩) (orbF p q B xs).length (orbF p q B xs).length, .agg #[.int .i64 ((p : Int)), .int .i64 B, .int .i64 ((q : Int))], .func (.func 126) #[] #[.pointer (some ⟨w4.heap.size + 1, 0, none⟩)], .agg #[.int .i64 xx.1.1, .int .i64 xx.1.2], undef, undef, undef, undef, undef, undef, undef, undef, undef, undef, undef, undef, undef, undef, undef, undef], defers := [] })
    (fun x a' _ X Y row hs hg hr => by obtain ⟨Bx, h1, h2, h3⟩ := hs; exact ⟨Bx, h1, at_ownC Bx _ rfl () X Y row h2 hg (fun r e => (hr r e).2), h3⟩)
    ?assign ?body ?done ?stop
  case assign =>
    rintro l pre xx W K ⟨⟨⟨⟨vals, hH⟩, hR⟩, hS⟩, hB1⟩ hK
    gi_wp2
    have hltR := (Array.getElem?_eq_some_iff.1 hR).1
    have hKB : KeepC (w4.heap.size + 1) W (W.alloc (.cells #[.int .i64 xx.1.1, .int .i64 xx.1.2] 49)) := Below.heap_alloc W _ _ hltR
    refine hK _ _ ((KeepsOthers.alloc _ _).from _) hKB ⟨⟨⟨⟨vals, hH.call ((Below.refl _ _).alloc (Nat.le_refl _) _)⟩, hKB.trans hR⟩, fun bb hbb => ?_⟩, hB1.alloc hB1.size _⟩ ⟨W.heap.size, hltR, World.alloc_heap_new W _, rfl⟩
    obtain ⟨o, h1, _⟩ := HS.out bb hbb
    have h2 := hS bb hbb
    rw [h1] at h2
    exact (Below.heap_alloc W _ _ (Array.getElem?_eq_some_iff.1 h2).1).trans (h2.trans h1.symm)
  case body =>
    rintro l pre xx a' W hl ⟨r, hr⟩ ⟨⟨⟨⟨vals, hH⟩, hR⟩, hS⟩, hB1⟩ ⟨Bx, hBx, bX, rfl⟩ hlt
    obtain ⟨⟨x0, x1⟩, hx⟩ := xx
    dsimp only at bX
    have hcel : celB (p : Int) (q : Int) (x0, x1) = true := celB_iff.2 hx
    have sL := hS (w.heap.size) (by simp)
    have sA := hS (w2.heap.size) (by simp)
    have sO := hS (w4.heap.size) (by simp)
    have lX := (Array.getElem?_eq_some_iff.1 bX).1
    have lR := (Array.getElem?_eq_some_iff.1 hR).1
    have zW := hB1.size
    have KL : Kt w.heap.size (p : Int) B (q : Int) W := ⟨by omega, same_cell7 sL HLW.out.2.1, same_cell7 sL HLW.out.2.2.1, same_cell7 sL HLW.out.2.2.2⟩
    have KA : ARI w2.heap.size I W := sA.trans HAW.out
    have KX : Kg Bx x0 x1 W := ⟨lX, by simp [World.cell?, bX], by simp [World.cell?, bX]⟩
    have hO : W.heap[w4.heap.size]? = some (.cells #[.slice (some ⟨w2.heap.size + 1, 0, none⟩) (orbF p q B xs).length (orbF p q B xs).length] 62 (0, 0)) := sO.trans HOW.out
    have kO : W.cell? ⟨w4.heap.size, 0, none⟩ = some (.slice (some ⟨w2.heap.size + 1, 0, none⟩) (orbF p q B xs).length (orbF p q B xs).length) := by simp [World.cell?, hO]
    have lO := (Array.getElem?_eq_some_iff.1 hO).1
    have hk := nb_64 HL.out hcel
    have CN := Lib.hid (fun W => number_any7 (p : Int) B (q : Int) x0 x1 W HL.out hcel)
    obtain ⟨i, hi, hIi⟩ := ix_lt HG.out HM.out hcel
    have HSN := Lib.hid (fun k => lsK_snoc p q I pre ⟨(x0, x1), hx⟩ k)
    dsimp only at HSN
    generalize nb (q : Int) (x0, x1) = kk at hk CN hIi HSN
    have ka : W.cell? ⟨w2.heap.size, kk, none⟩ = some (.int .i64 (i : Int)) := by rw [← hIi]; exact KA.at kk hk
    have lG := hH.lt
    have HHH := Lib.hid hH
    obtain ⟨⟨cs, hgr⟩, hrows⟩ := hH
    obtain ⟨a1, a2, a3, a4⟩ := hrows i hi
    have HLN := Lib.hid (show (lsK p q I pre i).length ≤ 64 from by have h1 := lsK_len p q I pre i; have h2 := HPQ.out; omega)
    generalize hui : vals i = ui at a1 a3 a4
    generalize hLL : lsK p q I pre i = LL at a3 a4 HLN
    have HUI := Lib.hid hui
    have HLL := Lib.hid hLL
    have HNO := Lib.hid (own_type7 a3 hO (by decide))
    have HNG := Lib.hid (own_type7 a3 hgr (by decide))
    have hk2 : (kk : Int) < 64 := by omega
    have hi3 : (i : Int) < ((orbF p q B xs).length : Int) := by omega
    have hn3 : ((orbF p q B xs).length : Int) ≤ 64 := by omega
    have hfo : Tryd.prog.follows Departure.mixedOrders = true := by kernel_rfl
    have HSS := Lib.hid hS
    have HB9 := Lib.hid hB1
    have HLR := Lib.hid hR
    have KLc := KL.cells
    have KXc := KX.cells
    have lA := KA.lt
    have HI := Lib.hid hIi
    clear hr hlt hl sL sA sO hS hcel hrows hui hLL hIi
    gi_wp2_with (first
      | (refine ⟨trivial, ?_⟩; gi_at_call 96; refine (CallsIn.inRound l (callsIn_wide.2 (CN.out _))).mono ?_; rintro e w5 ⟨rfl, hb5⟩; have ka5 : w5.cell? ⟨w2.heap.size, kk, none⟩ = some (.int .i64 (i : Int)) := (hb5.cell (p := ⟨w2.heap.size, kk, none⟩) lA).trans ka))
    refine wpIn_region_any hfo ?_
    try (change wpAnyIn _ _ _ _ _ _ _ _ _ (World.drew _))
    refine anyIn_inv (fun L a' W' => (∃ (lb : Nat) (v' : Value) (W'' : World), L = #[true, true, true, true, true, true, true, true, true, true, true] ∧ a' = { tmps := #[.agg #[.int .i64 ((p : Int)), .int .i64 B, .int .i64 ((q : Int))], .slice (some ⟨g1, 0, none⟩) xs.length cap1, .pointer (some ⟨w.heap.size, 0, none⟩), undef, .slice none 0 0, .pointer (some ⟨w2.heap.size, 0, none⟩), .int .i64 ((orbF p q B xs).length : Nat), .pointer (some ⟨w4.heap.size, 0, none⟩), .pointer (some ⟨Bx, 0, none⟩), .int .i64 (i : Int), .tuple #[.agg (rowI I), .int .i64 ((orbF p q B xs).length : Nat)], .agg #[.int .i64 ((p : Int)), .int .i64 B, .int .i64 ((q : Int))], .slice (some ⟨g1, 0, none⟩) xs.length cap1, .tuple #[.agg (rowI I), .int .i64 ((orbF p q B xs).length : Nat)], .agg (rowI I), .int .i64 ((orbF p q B xs).length : Nat), .int .i64 ((orbF p q B xs).length : Nat), .slice (some ⟨w2.heap.size + 1, 0, none⟩) (orbF p q B xs).length (orbF p q B xs).length, .agg #[.int .i64 ((p : Int)), .int .i64 B, .int .i64 ((q : Int))], .func (.func 126) #[] #[.pointer (some ⟨w4.heap.size + 1, 0, none⟩)], .agg #[.int .i64 x0, .int .i64 x1], .agg #[.int .i64 ((p : Int)), .int .i64 B, .int .i64 ((q : Int))], .agg #[.int .i64 x0, .int .i64 x1], .int .i64 ((kk : Nat) : Int), .pointer (some ⟨w2.heap.size, kk, none⟩), .int .i64 (i : Int), .slice (some ⟨w2.heap.size + 1, 0, none⟩) (orbF p q B xs).length (orbF p q B xs).length, .int .i64 (i : Int), .slice (some ⟨w2.heap.size + 1, 0, none⟩) (orbF p q B xs).length (orbF p q B xs).length, .int .i64 (i : Int), .pointer (some ⟨w2.heap.size + 1, i, none⟩), ui, .agg #[.int .i64 x0, .int .i64 x1], .slice (some ⟨lb, 0, none⟩) 1 1, v', .pointer (some ⟨w2.heap.size + 1, i, none⟩), undef], defers := [] } ∧ AppV W (w4.heap.size + 2) ui v' LL x0 x1 W'' ∧ W' = W''.setCell ⟨w2.heap.size + 1, i, none⟩ v') ∨ (∃ (b0 b1 b2 b3 b4 b5 b6 b7 b8 b9 : Bool) (lb : Nat) (v' : Value), L = #[b0, b1, b2, b3, b4, b5, b6, b7, b8, b9, false] ∧ a' = { tmps := #[.agg #[.int .i64 ((p : Int)), .int .i64 B, .int .i64 ((q : Int))], .slice (some ⟨g1, 0, none⟩) xs.length cap1, .pointer (some ⟨w.heap.size, 0, none⟩), undef, .slice none 0 0, .pointer (some ⟨w2.heap.size, 0, none⟩), .int .i64 ((orbF p q B xs).length : Nat), .pointer (some ⟨w4.heap.size, 0, none⟩), .pointer (some ⟨Bx, 0, none⟩), .int .i64 (i : Int), .tuple #[.agg (rowI I), .int .i64 ((orbF p q B xs).length : Nat)], .agg #[.int .i64 ((p : Int)), .int .i64 B, .int .i64 ((q : Int))], .slice (some ⟨g1, 0, none⟩) xs.length cap1, .tuple #[.agg (rowI I), .int .i64 ((orbF p q B xs).length : Nat)], .agg (rowI I), .int .i64 ((orbF p q B xs).length : Nat), .int .i64 ((orbF p q B xs).length : Nat), .slice (some ⟨w2.heap.size + 1, 0, none⟩) (orbF p q B xs).length (orbF p q B xs).length, .agg #[.int .i64 ((p : Int)), .int .i64 B, .int .i64 ((q : Int))], .func (.func 126) #[] #[.pointer (some ⟨w4.heap.size + 1, 0, none⟩)], .agg #[.int .i64 x0, .int .i64 x1], .agg #[.int .i64 ((p : Int)), .int .i64 B, .int .i64 ((q : Int))], .agg #[.int .i64 x0, .int .i64 x1], .int .i64 ((kk : Nat) : Int), .pointer (some ⟨w2.heap.size, kk, none⟩), .int .i64 (i : Int), gv b0 (.slice (some ⟨w2.heap.size + 1, 0, none⟩) (orbF p q B xs).length (orbF p q B xs).length), gv b1 (.int .i64 (i : Int)), gv b2 (.slice (some ⟨w2.heap.size + 1, 0, none⟩) (orbF p q B xs).length (orbF p q B xs).length), gv b3 (.int .i64 (i : Int)), gv b4 (.pointer (some ⟨w2.heap.size + 1, i, none⟩)), gv b5 (ui), gv b6 (.agg #[.int .i64 x0, .int .i64 x1]), gv b7 (.slice (some ⟨lb, 0, none⟩) 1 1), gv b8 (v'), gv b9 (.pointer (some ⟨w2.heap.size + 1, i, none⟩)), undef], defers := [] } ∧ ((b8 = false ∧ Below W.heap.size W W' ∧ (b7 = true → b6 = true ∧ lb < W'.heap.size ∧ W'.cell? ⟨lb, 0, none⟩ = some (.int .i64 x0) ∧ W'.cell? ⟨lb, 1, none⟩ = some (.int .i64 x1))) ∨ (b8 = true ∧ b7 = true ∧ b6 = true ∧ AppV W (w4.heap.size + 2) ui v' LL x0 x1 W')))) ?step ?dn _ _ _ _ (by simp [leftN]) (Or.inr ⟨false, false, false, false, false, false, false, false, false, false, 0, undef, rfl, rfl, Or.inl ⟨rfl, hb5.drew, fun h => by cases h⟩⟩)
    case step =>
      rintro L a' W' hInv i2 hi2
      obtain ⟨hun, o, ho, hall⟩ := mem_ready.1 hi2
      have hi11 : i2 < 11 := (Array.getElem?_eq_some_iff.1 ho).1
      rcases hInv with ⟨lb, v', W'', rfl, rfl, _, _⟩ | ⟨b0, b1, b2, b3, b4, b5, b6, b7, b8, b9, lb, v', rfl, rfl, hst⟩
      · rcases (show i2 = 0 ∨ i2 = 1 ∨ i2 = 2 ∨ i2 = 3 ∨ i2 = 4 ∨ i2 = 5 ∨ i2 = 6 ∨ i2 = 7 ∨ i2 = 8 ∨ i2 = 9 ∨ i2 = 10 by omega) with rfl | rfl | rfl | rfl | rfl | rfl | rfl | rfl | rfl | rfl | rfl <;> cases hun
      have same : ∀ b, b < W.heap.size → some b ≠ ui.ownBlock → W'.heap[b]? = W.heap[b]? := by
        rcases hst with ⟨_, h2, _⟩ | ⟨_, _, _, h2⟩
        · exact fun b hb _ => h2.block b hb
        · exact fun b hb hn => h2.same hb hn
      have kO' : W'.cell? ⟨w4.heap.size, 0, none⟩ = some (.slice (some ⟨w2.heap.size + 1, 0, none⟩) (orbF p q B xs).length (orbF p q B xs).length) := same_cell7 (same _ lO HNO.out) kO
      have kg : W'.cell? ⟨w2.heap.size + 1, i, none⟩ = some ui := same_cell7 (same _ lG HNG.out) a1
      have kf : W'.frozen? ⟨w2.heap.size + 1, i, none⟩ = false := (World.frozen?_of_block (w := W) (a := ⟨w2.heap.size + 1, i, none⟩) (same _ lG HNG.out)).trans a2
      rcases (show i2 = 0 ∨ i2 = 1 ∨ i2 = 2 ∨ i2 = 3 ∨ i2 = 4 ∨ i2 = 5 ∨ i2 = 6 ∨ i2 = 7 ∨ i2 = 8 ∨ i2 = 9 ∨ i2 = 10 by omega) with rfl | rfl | rfl | rfl | rfl | rfl | rfl | rfl | rfl | rfl | rfl
      · obtain rfl := Option.some.inj (show some _ = some o from ho)
        have dn : b0 = false := hun
        subst dn
        clear hall hun ho hi2
        refine wpOpIn_step rfl (fun K hK => ?_)
        go_simp
        exact hK _ _ (Or.inr ⟨true, b1, b2, b3, b4, b5, b6, b7, b8, b9, lb, v', rfl, rfl, hst⟩)
      · obtain rfl := Option.some.inj (show some _ = some o from ho)
        have dn : b1 = false := hun
        subst dn
        clear hall hun ho hi2
        refine wpOpIn_step rfl (fun K hK => ?_)
        go_simp
        exact hK _ _ (Or.inr ⟨b0, true, b2, b3, b4, b5, b6, b7, b8, b9, lb, v', rfl, rfl, hst⟩)
      · obtain rfl := Option.some.inj (show some _ = some o from ho)
        have dn : b2 = false := hun
        subst dn
        clear hall hun ho hi2
        refine wpOpIn_step rfl (fun K hK => ?_)
        go_simp
        exact hK _ _ (Or.inr ⟨b0, b1, true, b3, b4, b5, b6, b7, b8, b9, lb, v', rfl, rfl, hst⟩)
      · obtain rfl := Option.some.inj (show some _ = some o from ho)
        have dn : b3 = false := hun
        subst dn
        clear hall hun ho hi2
        refine wpOpIn_step rfl (fun K hK => ?_)
        go_simp
        exact hK _ _ (Or.inr ⟨b0, b1, b2, true, b4, b5, b6, b7, b8, b9, lb, v', rfl, rfl, hst⟩)
      · obtain rfl := Option.some.inj (show some _ = some o from ho)
        have d2 : b2 = true := hall ⟨2, .data⟩ (by simp) rfl
        have d3 : b3 = true := hall ⟨3, .data⟩ (by simp) rfl
        have dn : b4 = false := hun
        subst d2 d3 dn
        clear hall hun ho hi2
        refine wpOpIn_step rfl (fun K hK => ?_)
        go_simp
        exact hK _ _ (Or.inr ⟨b0, b1, true, true, true, b5, b6, b7, b8, b9, lb, v', rfl, rfl, hst⟩)
      · obtain rfl := Option.some.inj (show some _ = some o from ho)
        have d4 : b4 = true := hall ⟨4, .data⟩ (by simp) rfl
        have dn : b5 = false := hun
        subst d4 dn
        clear hall hun ho hi2
        refine wpOpIn_step rfl (fun K hK => ?_)
        go_simp
        exact hK _ _ (Or.inr ⟨b0, b1, b2, b3, true, true, b6, b7, b8, b9, lb, v', rfl, rfl, hst⟩)
      · obtain rfl := Option.some.inj (show some _ = some o from ho)
        have dn : b6 = false := hun
        subst dn
        clear hall hun ho hi2
        obtain ⟨e8, hB', hlit⟩ : b8 = false ∧ Below W.heap.size W W' ∧ (b7 = true → False) := by
          rcases hst with ⟨h1, h2, h3⟩ | ⟨_, _, h3, _⟩
          · exact ⟨h1, h2, fun h => by have := (h3 h).1; cases this⟩
          · cases h3
        rcases b7 with _ | _
        case true => exact (hlit rfl).elim
        clear hlit
        subst e8
        have kx := (KX.call hB').cells
        refine wpOpIn_step rfl (fun K hK => ?_)
        go_simp
        exact hK _ _ (Or.inr ⟨b0, b1, b2, b3, b4, b5, true, false, false, b9, lb, v', rfl, rfl, Or.inl ⟨rfl, hB', fun h => by cases h⟩⟩)
      · obtain rfl := Option.some.inj (show some _ = some o from ho)
        have d6 : b6 = true := hall ⟨6, .data⟩ (by simp) rfl
        have dn : b7 = false := hun
        subst d6 dn
        clear hall hun ho hi2
        obtain ⟨e8, hB'⟩ : b8 = false ∧ Below W.heap.size W W' := by
          rcases hst with ⟨h1, h2, h3⟩ | ⟨_, h3, _⟩
          · exact ⟨h1, h2⟩
          · cases h3
        subst e8
        refine wpOpIn_step rfl (fun K hK => ?_)
        go_simp
        refine hK _ _ (Or.inr ⟨b0, b1, b2, b3, b4, b5, true, true, false, b9, W'.heap.size, v', rfl, rfl, Or.inl ⟨rfl, hB'.alloc hB'.size _, fun _ => ⟨rfl, by simp, ?_, ?_⟩⟩⟩)
        · simp [go_sem]
        · simp [go_sem]
      · obtain rfl := Option.some.inj (show some _ = some o from ho)
        have d5 : b5 = true := hall ⟨5, .data⟩ (by simp) rfl
        have d7 : b7 = true := hall ⟨7, .data⟩ (by simp) rfl
        have dn : b8 = false := hun
        subst d5 d7 dn
        clear hall hun ho hi2
        obtain ⟨hB', hlit⟩ : Below W.heap.size W W' ∧ (b6 = true ∧ lb < W'.heap.size ∧ W'.cell? ⟨lb, 0, none⟩ = some (.int .i64 x0) ∧ W'.cell? ⟨lb, 1, none⟩ = some (.int .i64 x1)) := by
          rcases hst with ⟨_, h2, h3⟩ | ⟨h3, _⟩
          · exact ⟨h2, h3 rfl⟩
          · cases h3
        obtain ⟨e6, hlb, hc0, hc1⟩ := hlit
        subst e6
        refine wpOpIn_step rfl (fun K hK => ?_)
        rw [if_pos (by rfl)]
        refine wpIn_append7 _ _ _ rfl (w4.heap.size + 2) 49 i0 (.agg #[.int .i64 0, .int .i64 0]) 2 16 Tryd.underlying87 hi0 hz0 hz1 hz2 rfl (by decide) ui LL.length (cells2 LL) rfl (ownsRow_call a3 hB') ⟨lb, 0, none⟩ 1 1 [.int .i64 x0, .int .i64 x1] rfl rfl (by intro j u hu; match j, hu with | 0, hu => (cases hu; simpa [Addr.add] using hc0) | 1, hu => (cases hu; simpa [Addr.add] using hc1) | j + 2, hu => simp at hu) one_two (by have := HLN.out; unfold maxLen; omega) (by have := HLN.out; omega) (by have := hB'.size; omega) ?_
        intro v2 w9 r1 r2
        exact hK _ _ (Or.inr ⟨b0, b1, b2, b3, b4, true, true, true, true, b9, lb, v2, rfl, rfl, Or.inr ⟨rfl, rfl, rfl, W', hB', r2, r1⟩⟩)
      · obtain rfl := Option.some.inj (show some _ = some o from ho)
        have d0 : b0 = true := hall ⟨0, .data⟩ (by simp) rfl
        have d1 : b1 = true := hall ⟨1, .data⟩ (by simp) rfl
        have d2 : b2 = true := hall ⟨2, .phase⟩ (by simp) rfl
        have d3 : b3 = true := hall ⟨3, .phase⟩ (by simp) rfl
        have d4 : b4 = true := hall ⟨4, .phase⟩ (by simp) rfl
        have d5 : b5 = true := hall ⟨5, .phase⟩ (by simp) rfl
        have d6 : b6 = true := hall ⟨6, .phase⟩ (by simp) rfl
        have d7 : b7 = true := hall ⟨7, .phase⟩ (by simp) rfl
        have d8 : b8 = true := hall ⟨8, .phase⟩ (by simp) rfl
        have dn : b9 = false := hun
        subst d0 d1 d2 d3 d4 d5 d6 d7 d8 dn
        clear hall hun ho hi2
        refine wpOpIn_step rfl (fun K hK => ?_)
        go_simp
        exact hK _ _ (Or.inr ⟨true, true, true, true, true, true, true, true, true, true, lb, v', rfl, rfl, hst⟩)
      · obtain rfl := Option.some.inj (show some _ = some o from ho)
        have d9 : b9 = true := hall ⟨9, .data⟩ (by simp) rfl
        have d8 : b8 = true := hall ⟨8, .data⟩ (by simp) rfl
        have d0 : b0 = true := hall ⟨0, .phase⟩ (by simp) rfl
        have d1 : b1 = true := hall ⟨1, .phase⟩ (by simp) rfl
        have d2 : b2 = true := hall ⟨2, .phase⟩ (by simp) rfl
        have d3 : b3 = true := hall ⟨3, .phase⟩ (by simp) rfl
        have d4 : b4 = true := hall ⟨4, .phase⟩ (by simp) rfl
        have d5 : b5 = true := hall ⟨5, .phase⟩ (by simp) rfl
        have d6 : b6 = true := hall ⟨6, .phase⟩ (by simp) rfl
        have d7 : b7 = true := hall ⟨7, .phase⟩ (by simp) rfl
        subst d9 d8 d0 d1 d2 d3 d4 d5 d6 d7
        clear hall hun ho hi2
        have hA : AppV W (w4.heap.size + 2) ui v' LL x0 x1 W' := by
          rcases hst with ⟨h1, _⟩ | ⟨_, _, _, h4⟩
          · cases h1
          · exact h4
        obtain ⟨gg, cc, hv9⟩ := (by obtain ⟨Wa, q1, q2, q3⟩ := hA; exact ownsRow_succ q3 : ∃ g cap, v' = .slice (some ⟨g, 0, none⟩) (LL.length + 1) cap)
        subst hv9
        refine wpOpIn_step rfl (fun K hK => ?_)
        go_simp
        exact hK _ _ (Or.inl ⟨lb, _, W', rfl, rfl, hA, rfl⟩)
    case dn =>
      rintro L a' W' hInv hr
      rcases hInv with ⟨lb, v', W'', rfl, rfl, hA, rfl⟩ | ⟨b0, b1, b2, b3, b4, b5, b6, b7, b8, b9, lb, v', rfl, rfl, hst⟩
      case inr =>
        have d0 : b0 = true := ready_no hr (i := 0) rfl (by intro e he; simp at he)
        subst d0
        have d1 : b1 = true := ready_no hr (i := 1) rfl (by intro e he; simp at he)
        subst d1
        have d2 : b2 = true := ready_no hr (i := 2) rfl (by intro e he; simp at he)
        subst d2
        have d3 : b3 = true := ready_no hr (i := 3) rfl (by intro e he; simp at he)
        subst d3
        have d4 : b4 = true := ready_no hr (i := 4) rfl (by intro e he _; simp at he; (rcases he with rfl | rfl <;> rfl))
        subst d4
        have d5 : b5 = true := ready_no hr (i := 5) rfl (by intro e he _; simp at he; subst he; rfl)
        subst d5
        have d6 : b6 = true := ready_no hr (i := 6) rfl (by intro e he; simp at he)
        subst d6
        have d7 : b7 = true := ready_no hr (i := 7) rfl (by intro e he _; simp at he; subst he; rfl)
        subst d7
        have d8 : b8 = true := ready_no hr (i := 8) rfl (by intro e he _; simp at he; (rcases he with rfl | rfl <;> rfl))
        subst d8
        have d9 : b9 = true := ready_no hr (i := 9) rfl (by intro e he _; simp at he; (rcases he with rfl | rfl | rfl | rfl | rfl | rfl | rfl | rfl | rfl | rfl | rfl <;> rfl))
        subst d9
        have d10 : false = true := ready_no hr (i := 10) rfl (by intro e he _; simp at he; (rcases he with rfl | rfl | rfl | rfl | rfl | rfl | rfl | rfl | rfl | rfl | rfl | rfl <;> rfl))
        cases d10
      clear hr
      have HA := Lib.hid hA
      obtain ⟨Wa, q1, q2, q3⟩ := hA
      have hsz5 := q1.size
      have hsz6 := q2.size
      have ra := ownsRow_call a3 q1
      have hKO : KeepsOthers Wa W'' := KeepsOthers.of_grownBy q2 (fun j o ej hj => own_cells7 ra ej hj)
      have gbn : W''.heap[w4.heap.size + 1]? = W.heap[w4.heap.size + 1]? := HA.out.same lR (own_type7 a3 hR (by decide))
      have HST := Lib.hid (HdrAt.stored (post := pre ++ [⟨(x0, x1), hx⟩]) HHH.out hi (by rw [HUI.out, HLL.out]; exact HA.out) (fun k => by rw [HSN.out k, HI.out]; by_cases e : k = i <;> simp [e] <;> omega))
      have hsame : ∀ b, b < W.heap.size → some b ≠ ui.ownBlock → b ≠ w2.heap.size + 1 → (W''.setCell ⟨w2.heap.size + 1, i, none⟩ v').heap[b]? = W.heap[b]? := fun b hb hn hg => (Below.heap_setCell _ _ _ _ (by dsimp only; omega)).trans (HA.out.same hb hn)
      have HSM := Lib.hid hsame
      have hBfin : Below w.heap.size w (W''.setCell ⟨w2.heap.size + 1, i, none⟩ v') := by
        refine Below.setCell ?_ (by dsimp only; omega) _
        refine Below.grown ((HB9.out).trans (q1.mono zW)) q2 (by omega) (fun r hr => by have h7 := a3.lt r hr; omega)
      have HBF := Lib.hid hBfin
      have HKK := Lib.hid hKO
      clear hsame hBfin hKO ra
      gi_wp2
      refine ⟨((keepsF_below _ q1).trans (HKK.out.from _)).trans ((KeepsOthers.setCell _ _ _).from _), HSM.out _ lR (own_type7 a3 hR (by decide)) (by omega), ⟨⟨⟨⟨_, HST.out⟩, (HSM.out _ lR (own_type7 a3 hR (by decide)) (by omega)).trans HLR.out⟩, fun bb hbb => ?_⟩, HBF.out⟩⟩
      obtain ⟨o, h1, _⟩ := HS.out bb hbb
      have h2 := HSS.out bb hbb
      rw [h1] at h2
      have lb := (Array.getElem?_eq_some_iff.1 h2).1
      have hne : some bb ≠ ui.ownBlock ∧ bb ≠ w2.heap.size + 1 := by
        simp only [List.mem_cons, List.not_mem_nil, or_false] at hbb
        rcases hbb with rfl | rfl | rfl
        · exact ⟨fun e => by have := a3.lt _ e.symm; omega, by omega⟩
        · exact ⟨own_type7 a3 KA (by decide), by omega⟩
        · exact ⟨HNO.out, by omega⟩
      exact (HSM.out bb lb hne.1 hne.2).trans (h2.trans h1.symm)
  case done =>
    rintro D zs W hD hzs ⟨⟨⟨⟨vals, hH⟩, hR⟩, hS⟩, hB1⟩ hK
    have sO := hS (w4.heap.size) (by simp)
    have cS : W.cell? ⟨w4.heap.size, 0, none⟩ = some (.slice (some ⟨w2.heap.size + 1, 0, none⟩) (orbF p q B xs).length (orbF p q B xs).length) := same_cell7 sO (by simp [World.cell?, HOW.out])
    have HHH := Lib.hid hH
    clear hH
    gi_wp2
    refine ⟨by simp, .inl ⟨_, _, rfl, run_takeDeferred hK, ?_⟩⟩
    refine ⟨_, results_tmp rfl _ _ _, _, rfl, ?_, hB1.trans (belowK_b (w := w) (Nat.le_refl _) W D _ _ (by omega) hK rfl rfl)⟩
    obtain ⟨vals', hH'⟩ := HdrAt.own (w2.heap.size + 1) (orbF p q B xs).length (w4.heap.size + 2) (fun _ : Unit => lsK p q I zs) () W _ (some D) ⟨vals, HHH.out⟩ (grownBy_putObj' W D _) (by rintro r e; cases e; exact ⟨_, hK, rfl⟩)
    exact hdr_vrow HG.out hH' (by omega) (by omega) (fun k hk => lsK_all HG.out HM.out hzs hk) (fun i j u hij m1 m2 => by have a1 := lsK_mem m1; have a2 := lsK_mem m2; omega)
  case stop =>
    rintro D c pre W _ _ h _
    exact h.elim
end Go.Proofs.YtkfdaepnjdnnmaaDoor
