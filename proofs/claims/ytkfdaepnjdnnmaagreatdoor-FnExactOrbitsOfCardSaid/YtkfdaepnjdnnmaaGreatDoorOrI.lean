/-
  The program's orbitIndices: for each cell the index of its orbit, and the number of orbits. Conditions: a list that is a group modulo a valid lattice.
-/
import Derived.Test.YtkfdaepnjdnnmaaGreatDoorOrJ
import Derived.Test.YtkfdaepnjdnnmaaGreatDoorCeS
import Derived.RangeFuncNested
import Derived.RangeFuncBound
import Derived.RangeFuncCalls
import Derived.RangeFuncLeaves
import Derived.RangeFuncBox
import Derived.Shelf.Abstract
import Derived.Shelf.RegionOpen
import Derived.WalkKit
import Derived.OwnWalkIn
import Derived.TacticsInMore
import Derived.LoopNIn
import Derived.LoopIn
import Derived.Laws.EntriesVeiled
import Derived.Laws.Rows
import Derived.Laws.ResultCell
import Derived.Laws.Tables
import Derived.Deep.RegionHeld3
import Derived.IntWalk
namespace Go.Proofs.YtkfdaepnjdnnmaaGreatDoor
open Go.RowKit Go.Shelf
attribute [local go_sem] Oper.semAt_some
set_option linter.unusedSimpArgs false
set_option linter.unusedVariables false

/- the first cells of the orbits, in the order in which they are met -/
def fstF (A B C : Int) (G : List M6) (F : List V2) (v : V2) : List V2 := if ∃ u ∈ F, Orb A B C G u v then F else F ++ [v]
def fstL (A B C : Int) (G : List M6) (vs : List V2) : List V2 := vs.foldl (fstF A B C G) []
theorem fstL_snoc (A B C : Int) (G : List M6) (vs : List V2) (v : V2) : fstL A B C G (vs ++ [v]) = fstF A B C G (fstL A B C G vs) v := by simp [fstL, List.foldl_append]
theorem fstL_len (A B C : Int) (G : List M6) (vs : List V2) : (fstL A B C G vs).length ≤ vs.length := by
  unfold fstL
  have : ∀ (vs F : List V2), (vs.foldl (fstF A B C G) F).length ≤ F.length + vs.length := by
    intro vs
    induction vs with
    | nil => intro F; simp
    | cons v vs ih =>
      intro F
      have h1 := ih (fstF A B C G F v)
      have h2 : (fstF A B C G F v).length ≤ F.length + 1 := by
        unfold fstF
        split <;> simp
      simp only [List.foldl_cons, List.length_cons]
      omega
  have := this vs []
  simpa using this
structure TMid (A B C : Int) (G : List M6) (F : List V2) (J : Nat → Bool) (I : Nat → Int) : Prop where
  j : ∀ v, celB A C v = true → (J (nb C v) = true ↔ ∃ u ∈ F, Orb A B C G u v)
  i : ∀ v, celB A C v = true → ∀ k (h : k < F.length), Orb A B C G F[k] v → I (nb C v) = (k : Int)
  cel : ∀ u ∈ F, celB A C u = true
theorem TMid.start (A B C : Int) (G : List M6) : TMid A B C G [] (fun _ => false) (fun _ => 0) := ⟨fun v _ => by simp, fun v _ k h => absurd h (by simp), fun u h => absurd h (by simp)⟩
theorem TMid.skip {A B C : Int} {G : List M6} {F : List V2} {J : Nat → Bool} {I : Nat → Int} (h : TMid A B C G F J I) {u : V2} (hu : celB A C u = true) (hy : J (nb C u) = true) : fstF A B C G F u = F := if_pos ((h.j u hu).1 hy)
theorem TMid.join {f A B C : Int} {G : List M6} (hG : grpB f A B C G = true) {F : List V2} {J J' : Nat → Bool} {I I' : Nat → Int} (h : TMid A B C G F J I) {u : V2} (hu : celB A C u = true) (hy : J (nb C u) = false) (hp : JPost A B C G (F.length : Int) J I u J' I') :
    fstF A B C G F u = F ++ [u] ∧ TMid A B C G (F ++ [u]) J' I' := by
  have hl := (grp_good hG).1
  have hno : ¬ ∃ u' ∈ F, Orb A B C G u' u := fun e => by
    have := (h.j u hu).2 e
    rw [hy] at this; cases this
  have hcase : ∀ v, celB A C v = true → Orb A B C G u v → J (nb C v) = false := fun v hv ho => by
    rcases hj : J (nb C v) with _ | _
    · rfl
    · obtain ⟨u', hu', ho'⟩ := (h.j v hv).1 hj
      exact absurd ⟨u', hu', orb_trans hG ho' (orb_symm hG hu ho)⟩ hno
  refine ⟨if_neg hno, fun v hv => ⟨fun hj => ?_, fun he => ?_⟩, fun v hv k hk ho => ?_, fun x hx => ?_⟩
  · rcases h1 : J (nb C v) with _ | _
    · obtain ⟨v', hv', e, hr⟩ := hp.reach _ hj h1
      have := nb_inj hl hv' hv e
      subst this
      exact ⟨u, by simp, hr⟩
    · obtain ⟨u', h2, h3⟩ := (h.j v hv).1 h1
      exact ⟨u', by simp [h2], h3⟩
  · obtain ⟨u', h2, h3⟩ := he
    rcases List.mem_append.1 h2 with h4 | h4
    · exact hp.sub _ ((h.j v hv).2 ⟨u', h4, h3⟩)
    · have e : u' = u := by simpa using h4
      subst e
      obtain ⟨g, hg, rfl⟩ := h3
      exact hp.clos u' hu hp.me hy g hg
  · rw [hp.idx]
    by_cases hkF : k < F.length
    · have ho2 : Orb A B C G F[k] v := by rwa [List.getElem_append_left hkF] at ho
      have hj : J (nb C v) = true := (h.j v hv).2 ⟨F[k], List.getElem_mem hkF, ho2⟩
      rw [if_neg (by rintro ⟨_, h2⟩; rw [hj] at h2; cases h2)]
      exact h.i v hv k hkF ho2
    · have ek : k = F.length := by simp at hk; omega
      subst ek
      have ho2 : Orb A B C G u v := by simpa using ho
      have h1 := hcase v hv ho2
      have h2 : J' (nb C v) = true := by
        obtain ⟨g, hg, rfl⟩ := ho2
        exact hp.clos u hu hp.me hy g hg
      rw [if_pos ⟨h2, h1⟩]
  · rcases List.mem_append.1 hx with h4 | h4
    · exact h.cel x h4
    · have e : x = u := by simpa using h4
      rw [e]; exact hu
/- blocks of cells stay behind what an iterator writes -/
theorem cells_of7 {W : World} {g i : Nat} {v : Value} (h : W.cell? ⟨g, i, none⟩ = some v) : ∃ o : Obj, W.heap[g]? = some o ∧ o.isCells = true := by
  rcases ho : W.heap[g]? with _ | o
  · simp [World.cell?, ho] at h
  · refine ⟨o, rfl, ?_⟩
    rcases o <;> simp_all [World.cell?, Obj.isCells]
theorem own_blk {W X : World} {row : Option Nat} {b : Nat} {o : Obj} (h : W.heap[b]? = some o) (ho : o.isCells = true) (hg : W.grownBy X row) (hr : ∀ r, row = some r → ∃ o : Obj, W.heap[r]? = some o ∧ o.isCells = false) : X.heap[b]? = W.heap[b]? :=
  hg.block b (Array.getElem?_eq_some_iff.1 h).1 (fun e => by obtain ⟨o', h1, h2⟩ := hr b e.symm; rw [h] at h1; cases h1; rw [ho] at h2; cases h2)
theorem BRow.same {g N : Nat} {F : Nat → Bool} {W X : World} (h : BRow g N F W) (hs : W.heap.size ≤ X.heap.size) (e : X.heap[g]? = W.heap[g]?) : BRow g N F X :=
  ⟨Nat.lt_of_lt_of_le h.1 hs, fun t ht => ⟨(World.cell?_of_block (w := W) e).trans (h.2 t ht).1, (World.frozen?_of_block (w := W) e).trans (h.2 t ht).2⟩⟩
theorem keepsF_two {W W' : World} {bi bj : Nat} (B : Nat) (hT : Two bi bj W W') (hi : ∃ o : Obj, W.heap[bi]? = some o ∧ o.isCells = true) (hj : ∃ o : Obj, W.heap[bj]? = some o ∧ o.isCells = true) : KeepsFrom B W W' :=
  ⟨hT.size, fun k o _ hk ho => (hT.block k (Array.getElem?_eq_some_iff.1 hk).1 (fun e => by subst e; obtain ⟨o', h1, h2⟩ := hi; rw [hk] at h1; cases h1; rw [h2] at ho; cases ho) (fun e => by subst e; obtain ⟨o', h1, h2⟩ := hj; rw [hk] at h1; cases h1; rw [h2] at ho; cases ho)).trans hk⟩
theorem brow_new {g : Nat} {T : TypeId} {W : World} (h : W.heap[g]? = some (.cells #[.bool false, .bool false, .bool false, .bool false, .bool false, .bool false, .bool false, .bool false, .bool false, .bool false, .bool false, .bool false, .bool false, .bool false, .bool false, .bool false, .bool false, .bool false, .bool false, .bool false, .bool false, .bool false, .bool false, .bool false, .bool false, .bool false, .bool false, .bool false, .bool false, .bool false, .bool false, .bool false, .bool false, .bool false, .bool false, .bool false, .bool false, .bool false, .bool false, .bool false, .bool false, .bool false, .bool false, .bool false, .bool false, .bool false, .bool false, .bool false, .bool false, .bool false, .bool false, .bool false, .bool false, .bool false, .bool false, .bool false, .bool false, .bool false, .bool false, .bool false, .bool false, .bool false, .bool false, .bool false] T (0, 0))) : BRow g 64 (fun _ => false) W := by
  have e : (#[.bool false, .bool false, .bool false, .bool false, .bool false, .bool false, .bool false, .bool false, .bool false, .bool false, .bool false, .bool false, .bool false, .bool false, .bool false, .bool false, .bool false, .bool false, .bool false, .bool false, .bool false, .bool false, .bool false, .bool false, .bool false, .bool false, .bool false, .bool false, .bool false, .bool false, .bool false, .bool false, .bool false, .bool false, .bool false, .bool false, .bool false, .bool false, .bool false, .bool false, .bool false, .bool false, .bool false, .bool false, .bool false, .bool false, .bool false, .bool false, .bool false, .bool false, .bool false, .bool false, .bool false, .bool false, .bool false, .bool false, .bool false, .bool false, .bool false, .bool false, .bool false, .bool false, .bool false, .bool false] : Array Value) = ((List.range 64).map fun _ => Value.bool false).toArray := by rfl
  rw [e] at h
  refine ⟨(Array.getElem?_eq_some_iff.1 h).1, fun t ht => ⟨?_, by simp [World.frozen?, h]⟩⟩
  simp [World.cell?, h, ht]
theorem new7 {X : World} {z z' : Obj} {k : Nat} (hk : k = X.heap.size) (hz : z = z') : (X.alloc z).heap[k]? = some z' := by
  subst hk hz
  exact World.alloc_heap_new X z
/- the whole block read and written -/
theorem load64 {g : Nat} {I : Nat → Int} {W : World} {T : TypeId} (h : W.heap[g]? = some (.cells (rowI I) T (0, 0))) : (loadCellsFrom ⟨g, 0, none⟩ 0 64 #[]).run Tryz.prog W = .ok (rowI I) W := by
  have := run_loadCells_list (P := Tryz.prog) W ⟨g, 0, none⟩ (rowI I).toList (fun j v hv => by
    have hadd : (⟨g, 0, none⟩ : Addr).add j = ⟨g, j, none⟩ := by unfold Addr.add; split <;> simp_all
    rw [hadd, cell_of_row _ _ j _ T (0, 0) h]
    simpa using hv)
  simpa [loadCells, rowI_size] using this
theorem wpIn_load64 {F : Fence} {n : Nat} {o : Oper} {a : Act} {w : World} {K : Act → World → Prop} {Q : Exit → Act → World → Prop} (hro : F.round = none) (x : Operand) (ho : o.op = .load 126 x) (g : Nat) (I : Nat → Int) (hx : a.eval x = .pointer (some ⟨g, 0, none⟩)) (hg : ARI g I w) (h : K (a.put o.dst (.agg (rowI I))) w) : o.wpIn F n Tryz.prog a w K Q := by
  have hinf : (Tryz.prog.info? 126).map (·.size) = some 64 := by kernel_rfl
  unfold Oper.wpIn
  refine ⟨fun f hf => by simp [Oper.about, ho] at hf, ?_⟩
  rw [hro, Oper.semAt_none]
  unfold execOp
  simp only [ho, hx, Instr.loadAt, Instr.sureAddr, Sem.run_bind, Sem.run_pure, Result.andThen_ok, run_loadVar_row w g _ _ (rowI I) (0, 0) _ hg Tryz.underlying126 rfl (by rw [rowI_size]; exact hinf)]
  exact h
theorem wpIn_store64 {F : Fence} {n : Nat} {o : Oper} {a : Act} {w : World} {K : Act → World → Prop} {Q : Exit → Act → World → Prop} (hro : F.round = none) (x y : Operand) (ho : o.op = .store 126 x y) (g : Nat) (I I0 : Nat → Int) (hx : a.eval x = .pointer (some ⟨g, 0, none⟩)) (hy : a.eval y = .agg (rowI I)) (hg : ARI g I0 w) (h : K (a.put o.dst undef) (w.setRow g (rowI I))) : o.wpIn F n Tryz.prog a w K Q := by
  have hinf : (Tryz.prog.info? 126).map (·.size) = some 64 := by kernel_rfl
  unfold Oper.wpIn
  refine ⟨fun f hf => by simp [Oper.about, ho] at hf, ?_⟩
  rw [hro, Oper.semAt_none]
  unfold execOp
  simp only [ho, hx, hy, Instr.storeAt, Instr.sureAddr, Sem.run_bind, Sem.run_pure, Result.andThen_ok, run_storeVar_row w g _ _ _ (rowI I) hg (by rw [rowI_size]; exact hinf) (by rw [rowI_size, rowI_size]) (by simp [rowI, Value.oneCell'])]
  exact h
theorem below_row {B g : Nat} {a W : World} (h : Below B a W) (hg : B ≤ g) (cs : Array Value) : Below B a (W.setRow g cs) :=
  h.trans ⟨rfl, rfl, rfl, by simp [World.setRow], fun k hk => setRow_other W g k cs (by omega)⟩
theorem store64 {g : Nat} {I I0 : Nat → Int} {W : World} {T : TypeId} (h : W.heap[g]? = some (.cells (rowI I0) T (0, 0))) : (storeCells ⟨g, 0, none⟩ (rowI I).toList 0).run Tryz.prog W = .ok () (W.setRow g (rowI I)) := by
  have := run_storeCells_from (P := Tryz.prog) g T (rowI I).toList 0 (rowI I0) W h (by simp [rowI_size]) (fun v hv => by
    simp [rowI] at hv
    obtain ⟨n, _, rfl⟩ := hv
    rfl)
  simpa using this
/- what holds between the rounds -/
structure TInv (p q : Nat) (B : Int) (G : List M6) (bi bj bc bn : Nat) (Bs : List Nat) (W0 : World) (F : List V2) (W : World) : Prop where
  st : ∃ J I, TMid (p : Int) B (q : Int) G F J I ∧ ARI bi I W ∧ BRow bj 64 J W
  ct : W.heap[bc]? = some (.cells #[.int .i64 (F.length : Nat)] 2 (0, 0))
  nt : W.heap[bn]? = some (.cells #[.int .i64 (p : Int), .int .i64 B, .int .i64 (q : Int)] 33 (0, 0))
  bs : ∀ b ∈ Bs, W.heap[b]? = W0.heap[b]? ∧ ∃ o : Obj, W0.heap[b]? = some o ∧ o.isCells = true
theorem TInv.call {p q : Nat} {B : Int} {G : List M6} {bi bj bc bn : Nat} {Bs : List Nat} {W0 W w1 : World} {F : List V2} (h : TInv p q B G bi bj bc bn Bs W0 F W) (hb : Below W.heap.size W w1) : TInv p q B G bi bj bc bn Bs W0 F w1 := by
  obtain ⟨⟨J, I, h1, h2, h3⟩, h4, h5, h6⟩ := h
  refine ⟨⟨J, I, h1, h2.call hb, h3.call hb⟩, (hb.block _ (Array.getElem?_eq_some_iff.1 h4).1).trans h4, (hb.block _ (Array.getElem?_eq_some_iff.1 h5).1).trans h5, fun b hm => ?_⟩
  obtain ⟨e, o, k1, k2⟩ := h6 b hm
  exact ⟨(hb.block _ (by rw [k1] at e; exact (Array.getElem?_eq_some_iff.1 e).1)).trans e, o, k1, k2⟩
theorem TInv.own {p q : Nat} {B : Int} {G : List M6} {bi bj bc bn : Nat} {Bs : List Nat} {W0 : World} {β : Type} (Fs : β → List V2) (Bx : Nat) : OwnFrom Bx (fun s W => TInv p q B G bi bj bc bn Bs W0 (Fs s) W) := fun s W X row h hg hr => by
  have hr2 : ∀ r, row = some r → ∃ o : Obj, W.heap[r]? = some o ∧ o.isCells = false := fun r e => (hr r e).2
  obtain ⟨⟨J, I, h1, h2, h3⟩, h4, h5, h6⟩ := h
  obtain ⟨oj, j1, j2⟩ := cells_of7 (h3.at 0 (by omega))
  refine ⟨⟨J, I, h1, (own_blk h2 rfl hg hr2).trans h2, h3.same hg.size (own_blk j1 j2 hg hr2)⟩, (own_blk h4 rfl hg hr2).trans h4, (own_blk h5 rfl hg hr2).trans h5, fun b hm => ?_⟩
  obtain ⟨e, o, k1, k2⟩ := h6 b hm
  exact ⟨(own_blk (e.trans k1) k2 hg hr2).trans e, o, k1, k2⟩
def orbF (p q : Nat) (B : Int) (G : List M6) : List V2 := fstL (p : Int) B (q : Int) G (cellP q p)
def OrbAns (p q : Nat) (B : Int) (G : List M6) (w : World) (e : Ending) (w' : World) : Prop :=
  ∃ J I, e = .returned (.tuple #[.agg (rowI I), .int .i64 ((orbF p q B G).length : Nat)]) ∧ TMid (p : Int) B (q : Int) G (orbF p q B G) J I ∧ Below w.heap.size w w'
set_option maxRecDepth 100000 in
set_option maxHeartbeats 16000000 in
theorem orbI_any {f : Int} {p q : Nat} {B : Int} {G : List M6} {gm cap : Nat} {w : World} (hG : grpB f (p : Int) B (q : Int) G = true) (hg : IRow gm (G.length * 6) (fm G) w) :
    Calls Tryz.prog 90 #[.agg #[.int .i64 ((p : Int)), .int .i64 B, .int .i64 ((q : Int))], .slice (some ⟨gm, 0, none⟩) G.length cap] w (OrbAns p q B G w) := by
  have hl := (grp_good hG).1
  obtain ⟨hpb, hqb⟩ := latI_bd hl
  have hpq : p * q ≤ 64 := by have := latI_prod hl; exact_mod_cast this
  have HG := Lib.hid hG
  have HR := Lib.hid hg
  have HL := Lib.hid hl
  have HB := Lib.hid (show (p : Int) ≤ 64 ∧ (q : Int) ≤ 64 ∧ p * q ≤ 64 from ⟨hpb, hqb, hpq⟩)
  have hgm := hg.1
  clear hG hg hl hpb hqb hpq
  refine (callsIn_wide (n := 3)).1 ?_
  refine callsIn_of_wp_marks Tryz.func90 rfl trivial ?_ rfl
  simp only [Tryz.ntmps90, List.size_toArray, List.length_cons, List.length_nil, Nat.reduceAdd, Nat.reduceSub, Array.replicate_succ, Array.replicate_zero, List.push_toArray, List.append_toArray, List.nil_append, List.cons_append]
  gi_wp2_with (first
    | (refine ⟨trivial, ?_⟩; gi_at_call 91; refine (cellsS_in Fence.wide _ trivial rfl _ _ _ _).mono ?_; rintro e w4 ⟨rfl, rfl⟩))
  obtain ⟨W0, hW0⟩ : ∃ W0, ((((((((w.alloc (.cells #[.int .i64 (p : Int), .int .i64 B, .int .i64 (q : Int)] 33)).alloc (.cells #[.slice (some ⟨gm, 0, none⟩) G.length cap] 74)).alloc (.cells #[.int .i64 0, .int .i64 0, .int .i64 0, .int .i64 0, .int .i64 0, .int .i64 0, .int .i64 0, .int .i64 0, .int .i64 0, .int .i64 0, .int .i64 0, .int .i64 0, .int .i64 0, .int .i64 0, .int .i64 0, .int .i64 0, .int .i64 0, .int .i64 0, .int .i64 0, .int .i64 0, .int .i64 0, .int .i64 0, .int .i64 0, .int .i64 0, .int .i64 0, .int .i64 0, .int .i64 0, .int .i64 0, .int .i64 0, .int .i64 0, .int .i64 0, .int .i64 0, .int .i64 0, .int .i64 0, .int .i64 0, .int .i64 0, .int .i64 0, .int .i64 0, .int .i64 0, .int .i64 0, .int .i64 0, .int .i64 0, .int .i64 0, .int .i64 0, .int .i64 0, .int .i64 0, .int .i64 0, .int .i64 0, .int .i64 0, .int .i64 0, .int .i64 0, .int .i64 0, .int .i64 0, .int .i64 0, .int .i64 0, .int .i64 0, .int .i64 0, .int .i64 0, .int .i64 0, .int .i64 0, .int .i64 0, .int .i64 0, .int .i64 0, .int .i64 0] 126)).alloc (.cells #[.int .i64 0, .int .i64 0, .int .i64 0, .int .i64 0, .int .i64 0, .int .i64 0, .int .i64 0, .int .i64 0, .int .i64 0, .int .i64 0, .int .i64 0, .int .i64 0, .int .i64 0, .int .i64 0, .int .i64 0, .int .i64 0, .int .i64 0, .int .i64 0, .int .i64 0, .int .i64 0, .int .i64 0, .int .i64 0, .int .i64 0, .int .i64 0, .int .i64 0, .int .i64 0, .int .i64 0, .int .i64 0, .int .i64 0, .int .i64 0, .int .i64 0, .int .i64 0, .int .i64 0, .int .i64 0, .int .i64 0, .int .i64 0, .int .i64 0, .int .i64 0, .int .i64 0, .int .i64 0, .int .i64 0, .int .i64 0, .int .i64 0, .int .i64 0, .int .i64 0, .int .i64 0, .int .i64 0, .int .i64 0, .int .i64 0, .int .i64 0, .int .i64 0, .int .i64 0, .int .i64 0, .int .i64 0, .int .i64 0, .int .i64 0, .int .i64 0, .int .i64 0, .int .i64 0, .int .i64 0, .int .i64 0, .int .i64 0, .int .i64 0, .int .i64 0] 126)).alloc (.cells #[.bool false, .bool false, .bool false, .bool false, .bool false, .bool false, .bool false, .bool false, .bool false, .bool false, .bool false, .bool false, .bool false, .bool false, .bool false, .bool false, .bool false, .bool false, .bool false, .bool false, .bool false, .bool false, .bool false, .bool false, .bool false, .bool false, .bool false, .bool false, .bool false, .bool false, .bool false, .bool false, .bool false, .bool false, .bool false, .bool false, .bool false, .bool false, .bool false, .bool false, .bool false, .bool false, .bool false, .bool false, .bool false, .bool false, .bool false, .bool false, .bool false, .bool false, .bool false, .bool false, .bool false, .bool false, .bool false, .bool false, .bool false, .bool false, .bool false, .bool false, .bool false, .bool false, .bool false, .bool false] 169)).alloc (.cells #[.int .i64 0] 2)).alloc (.cells #[(.func (.func 133) #[] #[.pointer (some ⟨w.heap.size, 0, none⟩), .pointer (some ⟨w.heap.size + 1 + 1 + 1 + 1, 0, none⟩), .pointer (some ⟨w.heap.size + 1 + 1 + 1 + 1 + 1, 0, none⟩), .pointer (some ⟨w.heap.size + 1 + 1 + 1, 0, none⟩), .pointer (some ⟨w.heap.size + 1, 0, none⟩), .pointer (some ⟨w.heap.size + 1 + 1 + 1 + 1 + 1 + 1, 0, none⟩)])] 170)).alloc (.cells #[.int .i64 (p : Int), .int .i64 B, .int .i64 (q : Int)] 33)) = W0 := ⟨_, rfl⟩
  have hsz : W0.heap.size = w.heap.size + 1 + 1 + 1 + 1 + 1 + 1 + 1 + 1 := by rw [← hW0]; simp
  have BW : Below w.heap.size w W0 := by
    rw [← hW0]
    exact (((((((((Below.refl _ _).alloc (Nat.le_refl _) _).alloc (by simp) _).alloc (by simp; omega) _).alloc (by simp; omega) _).alloc (by simp; omega) _).alloc (by simp; omega) _).alloc (by simp; omega) _).alloc (by simp; omega) _)
  have hN : ∀ (X : World) (z : Obj), (X.alloc z).heap[X.heap.size]? = some z := fun X z => World.alloc_heap_new X z
  have b0 : W0.heap[w.heap.size]? = some (.cells #[.int .i64 (p : Int), .int .i64 B, .int .i64 (q : Int)] 33 (0, 0)) := by rw [← hW0]; refine (Below.heap_alloc _ _ _ (by simp <;> omega)).trans ?_; refine (Below.heap_alloc _ _ _ (by simp <;> omega)).trans ?_; refine (Below.heap_alloc _ _ _ (by simp <;> omega)).trans ?_; refine (Below.heap_alloc _ _ _ (by simp <;> omega)).trans ?_; refine (Below.heap_alloc _ _ _ (by simp <;> omega)).trans ?_; refine (Below.heap_alloc _ _ _ (by simp <;> omega)).trans ?_; refine (Below.heap_alloc _ _ _ (by simp <;> omega)).trans ?_; exact new7 (by simp) rfl
  have b1 : W0.heap[w.heap.size + 1]? = some (.cells #[.slice (some ⟨gm, 0, none⟩) G.length cap] 74 (0, 0)) := by rw [← hW0]; refine (Below.heap_alloc _ _ _ (by simp <;> omega)).trans ?_; refine (Below.heap_alloc _ _ _ (by simp <;> omega)).trans ?_; refine (Below.heap_alloc _ _ _ (by simp <;> omega)).trans ?_; refine (Below.heap_alloc _ _ _ (by simp <;> omega)).trans ?_; refine (Below.heap_alloc _ _ _ (by simp <;> omega)).trans ?_; refine (Below.heap_alloc _ _ _ (by simp <;> omega)).trans ?_; exact new7 (by simp) rfl
  have b2 : ARI (w.heap.size + 1 + 1) (fun _ => 0) W0 := by unfold ARI; rw [← hW0]; refine (Below.heap_alloc _ _ _ (by simp <;> omega)).trans ?_; refine (Below.heap_alloc _ _ _ (by simp <;> omega)).trans ?_; refine (Below.heap_alloc _ _ _ (by simp <;> omega)).trans ?_; refine (Below.heap_alloc _ _ _ (by simp <;> omega)).trans ?_; refine (Below.heap_alloc _ _ _ (by simp <;> omega)).trans ?_; exact new7 (by simp) rfl
  have b3 : ARI (w.heap.size + 1 + 1 + 1) (fun _ => 0) W0 := by unfold ARI; rw [← hW0]; refine (Below.heap_alloc _ _ _ (by simp <;> omega)).trans ?_; refine (Below.heap_alloc _ _ _ (by simp <;> omega)).trans ?_; refine (Below.heap_alloc _ _ _ (by simp <;> omega)).trans ?_; refine (Below.heap_alloc _ _ _ (by simp <;> omega)).trans ?_; exact new7 (by simp) rfl
  have b4 : W0.heap[w.heap.size + 1 + 1 + 1 + 1]? = some (.cells #[.bool false, .bool false, .bool false, .bool false, .bool false, .bool false, .bool false, .bool false, .bool false, .bool false, .bool false, .bool false, .bool false, .bool false, .bool false, .bool false, .bool false, .bool false, .bool false, .bool false, .bool false, .bool false, .bool false, .bool false, .bool false, .bool false, .bool false, .bool false, .bool false, .bool false, .bool false, .bool false, .bool false, .bool false, .bool false, .bool false, .bool false, .bool false, .bool false, .bool false, .bool false, .bool false, .bool false, .bool false, .bool false, .bool false, .bool false, .bool false, .bool false, .bool false, .bool false, .bool false, .bool false, .bool false, .bool false, .bool false, .bool false, .bool false, .bool false, .bool false, .bool false, .bool false, .bool false, .bool false] 169 (0, 0)) := by rw [← hW0]; refine (Below.heap_alloc _ _ _ (by simp <;> omega)).trans ?_; refine (Below.heap_alloc _ _ _ (by simp <;> omega)).trans ?_; refine (Below.heap_alloc _ _ _ (by simp <;> omega)).trans ?_; exact new7 (by simp) rfl
  have b5 : W0.heap[w.heap.size + 1 + 1 + 1 + 1 + 1]? = some (.cells #[.int .i64 (((fstL (p : Int) B (q : Int) G (([] : List (CV p q)).map Subtype.val)).length : Nat) : Int)] 2 (0, 0)) := by rw [← hW0]; refine (Below.heap_alloc _ _ _ (by simp <;> omega)).trans ?_; refine (Below.heap_alloc _ _ _ (by simp <;> omega)).trans ?_; exact new7 (by simp) rfl
  have b6 : W0.heap[w.heap.size + 1 + 1 + 1 + 1 + 1 + 1]? = some (.cells #[(.func (.func 133) #[] #[.pointer (some ⟨w.heap.size, 0, none⟩), .pointer (some ⟨w.heap.size + 1 + 1 + 1 + 1, 0, none⟩), .pointer (some ⟨w.heap.size + 1 + 1 + 1 + 1 + 1, 0, none⟩), .pointer (some ⟨w.heap.size + 1 + 1 + 1, 0, none⟩), .pointer (some ⟨w.heap.size + 1, 0, none⟩), .pointer (some ⟨w.heap.size + 1 + 1 + 1 + 1 + 1 + 1, 0, none⟩)])] 170 (0, 0)) := by rw [← hW0]; refine (Below.heap_alloc _ _ _ (by simp <;> omega)).trans ?_; exact new7 (by simp) rfl
  have b7 : W0.heap[w.heap.size + 1 + 1 + 1 + 1 + 1 + 1 + 1]? = some (.cells #[.int .i64 (p : Int), .int .i64 B, .int .i64 (q : Int)] 33 (0, 0)) := by rw [← hW0]; exact new7 (by simp) rfl
  have T0 : TInv p q B G (w.heap.size + 1 + 1 + 1) (w.heap.size + 1 + 1 + 1 + 1) (w.heap.size + 1 + 1 + 1 + 1 + 1) (w.heap.size + 1 + 1 + 1 + 1 + 1 + 1 + 1) [w.heap.size, w.heap.size + 1, w.heap.size + 1 + 1 + 1 + 1 + 1 + 1] W0 (fstL (p : Int) B (q : Int) G (([] : List (CV p q)).map Subtype.val)) W0 := by
    refine ⟨⟨fun _ => false, fun _ => 0, TMid.start _ _ _ _, b3, brow_new b4⟩, b5, b7, fun b hb => ⟨rfl, ?_⟩⟩
    simp only [List.mem_cons, List.not_mem_nil, or_false] at hb
    rcases hb with rfl | rfl | rfl
    · exact ⟨_, b0, rfl⟩
    · exact ⟨_, b1, rfl⟩
    · exact ⟨_, b6, rfl⟩
  have cA : W0.cell? ⟨w.heap.size + 1 + 1 + 1 + 1 + 1 + 1 + 1, 0, none⟩ = some (.int .i64 (p : Int)) := by simp [World.cell?, b7]
  have cC : W0.cell? ⟨w.heap.size + 1 + 1 + 1 + 1 + 1 + 1 + 1, 2, none⟩ = some (.int .i64 (q : Int)) := by simp [World.cell?, b7]
  have HB0 := Lib.hid b0
  have HB1 := Lib.hid b1
  have HB2 := Lib.hid b2
  have HB6 := Lib.hid b6
  rw [hW0]
  clear hW0 b0 b1 b2 b3 b4 b5 b6 b7 hN
  have hz := BW.size
  refine wpIn_rangeFunc_ownH rfl (by omega) (gf := 135) (lb := #[.pointer (some ⟨w.heap.size + 1 + 1 + 1 + 1 + 1 + 1 + 1, 0, none⟩)]) rfl trivial (enters_of Tryz.func135 (by kernel_rfl) rfl)
    (cellsS_stops Fence.wide (3 - 1) trivial rfl (by omega) (w.heap.size + 1 + 1 + 1 + 1 + 1 + 1 + 1) p q (by have := HB.out.1; omega) (by have := HB.out.2.1; omega) W0 (by omega) cA cC) (fun h k => Eq.trans k h) (keepC_b (by omega)) (Below.refl _ _) (fun _ => rfl)
    (fun pre W => (TInv p q B G (w.heap.size + 1 + 1 + 1) (w.heap.size + 1 + 1 + 1 + 1) (w.heap.size + 1 + 1 + 1 + 1 + 1) (w.heap.size + 1 + 1 + 1 + 1 + 1 + 1 + 1) [w.heap.size, w.heap.size + 1, w.heap.size + 1 + 1 + 1 + 1 + 1 + 1] W0 (fstL (p : Int) B (q : Int) G (pre.map Subtype.val)) W ∧ W.heap[w.heap.size + 1 + 1]? = W0.heap[w.heap.size + 1 + 1]?) ∧ Below w.heap.size w W)
    (fun _ _ _ => False)
    (OwnFrom.and (OwnFrom.and (TInv.own (fun pre : List (CV p q) => fstL (p : Int) B (q : Int) G (pre.map Subtype.val)) _) (fun s W X row (h : W.heap[w.heap.size + 1 + 1]? = W0.heap[w.heap.size + 1 + 1]?) hg hr => (own_blk (h.trans HB2.out) rfl hg (fun r e => (hr r e).2)).trans h)) (ownFrom_below (Nat.le_refl _) hz))
    (fun _ _ _ _ _ hs _ _ => hs)
    ⟨⟨T0, rfl⟩, BW⟩
    (fun xx a' W => ∃ Bx, w.heap.size + 1 + 1 + 1 + 1 + 1 + 1 + 1 < Bx ∧ W.heap[Bx]? = some (.cells #[.int .i64 xx.1.1, .int .i64 xx.1.2] 53 (0, 0)) ∧ a' = { tmps := #[.agg #[.int .i64 ((p : Int)), .int .i64 B, .int .i64 ((q : Int))], .slice (some ⟨gm, 0, none⟩) G.length cap, .pointer (some ⟨w.heap.size, 0, none⟩), .pointer (some ⟨w.heap.size + 1, 0, none⟩), .pointer (some ⟨w.heap.size + 1 + 1, 0, none⟩), .int .i64 0, .pointer (some ⟨w.heap.size + 1 + 1 + 1, 0, none⟩), .pointer (some ⟨w.heap.size + 1 + 1 + 1 + 1, 0, none⟩), .pointer (some ⟨w.heap.size + 1 + 1 + 1 + 1 + 1, 0, none⟩), .pointer (some ⟨w.heap.size + 1 + 1 + 1 + 1 + 1 + 1, 0, none⟩), .pointer (some ⟨Bx, 0, none⟩), .func (.func 133) #[] #[.pointer (some ⟨w.heap.size, 0, none⟩), .pointer (some ⟨w.heap.size + 1 + 1 + 1 + 1, 0, none⟩), .pointer (some ⟨w.heap.size + 1 + 1 + 1 + 1 + 1, 0, none⟩), .pointer (some ⟨w.heap.size + 1 + 1 + 1, 0, none⟩), .pointer (some ⟨w.heap.size + 1, 0, none⟩), .pointer (some ⟨w.heap.size + 1 + 1 + 1 + 1 + 1 + 1, 0, none⟩)], .agg #[.int .i64 ((p : Int)), .int .i64 B, .int .i64 ((q : Int))], .func (.func 135) #[] #[.pointer (some ⟨w.heap.size + 1 + 1 + 1 + 1 + 1 + 1 + 1, 0, none⟩)], .agg #[.int .i64 xx.1.1, .int .i64 xx.1.2], undef, undef, undef, undef, undef, undef, undef, undef, undef, undef, undef, undef, undef], defers := [] })
    (fun x a' _ X Y row hs hg hr => by obtain ⟨Bx, h1, h2, h3⟩ := hs; exact ⟨Bx, h1, at_ownC Bx _ rfl () X Y row h2 hg (fun r e => (hr r e).2), h3⟩)
    ?assign ?body ?done ?stop
  case assign =>
    rintro l pre xx W K ⟨⟨hT, hR⟩, hB1⟩ hK
    gi_wp2
    have hltN := (Array.getElem?_eq_some_iff.1 hT.nt).1
    have hBA : Below W.heap.size W (W.alloc (.cells #[.int .i64 xx.1.1, .int .i64 xx.1.2] 53)) := (Below.refl _ _).alloc (Nat.le_refl _) _
    refine hK _ _ ((KeepsOthers.alloc _ _).from _) (hBA.block _ hltN) ⟨⟨hT.call hBA, (hBA.block _ (by rw [HB2.out] at hR; exact (Array.getElem?_eq_some_iff.1 hR).1)).trans hR⟩, hB1.alloc hB1.size _⟩ ⟨W.heap.size, hltN, World.alloc_heap_new W _, rfl⟩
  case body =>
    rintro l pre xx a' W hl ⟨r, hr⟩ ⟨⟨hT, hR⟩, hB1⟩ ⟨Bx, hBx, bX, rfl⟩ hlt
    obtain ⟨⟨x0, x1⟩, hx⟩ := xx
    dsimp only at bX
    have hTT := Lib.hid hT
    obtain ⟨⟨J, I, hM, hI, hJ⟩, hC, hN, hS⟩ := hT
    have hcel : celB (p : Int) (q : Int) (x0, x1) = true := celB_iff.2 hx
    obtain ⟨s0, _⟩ := hS (w.heap.size) (by simp)
    obtain ⟨s1, _⟩ := hS (w.heap.size + 1) (by simp)
    obtain ⟨s2, _⟩ := hS (w.heap.size + 1 + 1 + 1 + 1 + 1 + 1) (by simp)
    rw [HB0.out] at s0
    rw [HB1.out] at s1
    rw [HB6.out] at s2
    have lX := (Array.getElem?_eq_some_iff.1 bX).1
    have lN := (Array.getElem?_eq_some_iff.1 hN).1
    have lC := (Array.getElem?_eq_some_iff.1 hC).1
    have KL : Kt (w.heap.size) (p : Int) B (q : Int) W := ⟨(Array.getElem?_eq_some_iff.1 s0).1, by simp [World.cell?, s0], by simp [World.cell?, s0], by simp [World.cell?, s0]⟩
    have KM : K1 (w.heap.size + 1) (.slice (some ⟨gm, 0, none⟩) G.length cap) W := ⟨(Array.getElem?_eq_some_iff.1 s1).1, by simp [World.cell?, s1]⟩
    have KF : K1 (w.heap.size + 1 + 1 + 1 + 1 + 1 + 1) (.func (.func 133) #[] #[.pointer (some ⟨w.heap.size, 0, none⟩), .pointer (some ⟨w.heap.size + 1 + 1 + 1 + 1, 0, none⟩), .pointer (some ⟨w.heap.size + 1 + 1 + 1 + 1 + 1, 0, none⟩), .pointer (some ⟨w.heap.size + 1 + 1 + 1, 0, none⟩), .pointer (some ⟨w.heap.size + 1, 0, none⟩), .pointer (some ⟨w.heap.size + 1 + 1 + 1 + 1 + 1 + 1, 0, none⟩)]) W := ⟨(Array.getElem?_eq_some_iff.1 s2).1, by simp [World.cell?, s2]⟩
    have KX : Kg Bx x0 x1 W := ⟨lX, by simp [World.cell?, bX], by simp [World.cell?, bX]⟩
    have KCc : K1 (w.heap.size + 1 + 1 + 1 + 1 + 1) (.int .i64 (((fstL (p : Int) B (q : Int) G (pre.map Subtype.val)).length : Nat) : Int)) W := ⟨lC, by simp [World.cell?, hC]⟩
    have kcf : W.frozen? ⟨w.heap.size + 1 + 1 + 1 + 1 + 1, 0, none⟩ = false := by simp [World.frozen?, hC]
    have KG : IRow gm (G.length * 6) (fm G) W := HR.out.grow hB1 hgm
    have hk := nb_64 HL.out hcel
    have CN := Lib.hid (fun W => number_any7 (p : Int) B (q : Int) x0 x1 W HL.out hcel)
    have hmp : ((pre ++ [(⟨(x0, x1), hx⟩ : CV p q)]).map Subtype.val) = pre.map Subtype.val ++ [(x0, x1)] := by simp
    have HSN := Lib.hid (show fstL (p : Int) B (q : Int) G ((pre ++ [(⟨(x0, x1), hx⟩ : CV p q)]).map Subtype.val) = fstF (p : Int) B (q : Int) G (fstL (p : Int) B (q : Int) G (pre.map Subtype.val)) (x0, x1) by rw [hmp, fstL_snoc])
    have HLN := Lib.hid (show (fstL (p : Int) B (q : Int) G (pre.map Subtype.val)).length ≤ 64 from Nat.le_trans (fstL_len _ _ _ _ _) (by rw [List.length_map]; have := HB.out.2.2; omega))
    have HCE := Lib.hid hcel
    have HMM := Lib.hid hM
    clear hmp s0 s1 s2 hS hM
    generalize fstL (p : Int) B (q : Int) G (pre.map Subtype.val) = Fp at *
    have hnn := HLN.out
    have HK := Lib.hid hk
    have HX7 := Lib.hid (show JFix (p : Int) B (q : Int) ((Fp.length : Nat) : Int) G (w.heap.size) (w.heap.size + 1 + 1 + 1 + 1 + 1) (w.heap.size + 1) (w.heap.size + 1 + 1 + 1 + 1 + 1 + 1) gm cap (.func (.func 133) #[] #[.pointer (some ⟨w.heap.size, 0, none⟩), .pointer (some ⟨w.heap.size + 1 + 1 + 1 + 1, 0, none⟩), .pointer (some ⟨w.heap.size + 1 + 1 + 1 + 1 + 1, 0, none⟩), .pointer (some ⟨w.heap.size + 1 + 1 + 1, 0, none⟩), .pointer (some ⟨w.heap.size + 1, 0, none⟩), .pointer (some ⟨w.heap.size + 1 + 1 + 1 + 1 + 1 + 1, 0, none⟩)]) W from ⟨KL, KCc, KM, KF, KG⟩)
    have HI7 := Lib.hid hI
    have HJ7 := Lib.hid hJ
    have HKX := Lib.hid KX
    have HC7 := Lib.hid hC
    have HR7 := Lib.hid hR
    obtain ⟨l0, l1, l2, l3⟩ := id KL
    obtain ⟨x00, x01, x02⟩ := id KX
    have kf := KF.c
    have hfo : Tryz.prog.follows Departure.mixedOrders = true := by kernel_rfl
    rcases hy : J (nb (q : Int) (x0, x1)) with _ | _
    · have CJ : Hid (∀ W', JFix (p : Int) B (q : Int) ((Fp.length : Nat) : Int) G (w.heap.size) (w.heap.size + 1 + 1 + 1 + 1 + 1) (w.heap.size + 1) (w.heap.size + 1 + 1 + 1 + 1 + 1 + 1) gm cap (.func (.func 133) #[] #[.pointer (some ⟨w.heap.size, 0, none⟩), .pointer (some ⟨w.heap.size + 1 + 1 + 1 + 1, 0, none⟩), .pointer (some ⟨w.heap.size + 1 + 1 + 1 + 1 + 1, 0, none⟩), .pointer (some ⟨w.heap.size + 1 + 1 + 1, 0, none⟩), .pointer (some ⟨w.heap.size + 1, 0, none⟩), .pointer (some ⟨w.heap.size + 1 + 1 + 1 + 1 + 1 + 1, 0, none⟩)]) W' → ARI (w.heap.size + 1 + 1 + 1) I W' → BRow (w.heap.size + 1 + 1 + 1 + 1) 64 J W' → Calls Tryz.prog 133 #[.agg #[.int .i64 x0, .int .i64 x1], .pointer (some ⟨w.heap.size, 0, none⟩), .pointer (some ⟨w.heap.size + 1 + 1 + 1 + 1, 0, none⟩), .pointer (some ⟨w.heap.size + 1 + 1 + 1 + 1 + 1, 0, none⟩), .pointer (some ⟨w.heap.size + 1 + 1 + 1, 0, none⟩), .pointer (some ⟨w.heap.size + 1, 0, none⟩), .pointer (some ⟨w.heap.size + 1 + 1 + 1 + 1 + 1 + 1, 0, none⟩)] W' (JAns (p : Int) B (q : Int) G ((Fp.length : Nat) : Int) (w.heap.size + 1 + 1 + 1) (w.heap.size + 1 + 1 + 1 + 1) J I (x0, x1) W')) := Lib.hid (fun W' h1 h2 h3 => join_any HG.out (by omega) _ J I x0 x1 W' (Nat.le_refl _) HCE.out h1 h2 h3)
      have HJN : Hid (∀ J2 I2, JPost (p : Int) B (q : Int) G ((Fp.length : Nat) : Int) J I (x0, x1) J2 I2 → fstF (p : Int) B (q : Int) G Fp (x0, x1) = Fp ++ [(x0, x1)] ∧ TMid (p : Int) B (q : Int) G (Fp ++ [(x0, x1)]) J2 I2) := Lib.hid (fun J2 I2 h => TMid.join HG.out HMM.out HCE.out hy h)
      generalize nb (q : Int) (x0, x1) = k at *
      have jc := HJ7.out.at k HK.out
      rw [hy] at jc
      clear hI hJ hr hlt hl hcel hy KL KM KF KX KCc KG bX
      have hk2 : (k : Int) < 64 := by have := HK.out; omega
      gi_wp2_with (first
        | (refine ⟨trivial, ?_⟩; gi_at_call 92; refine (CallsIn.inRound l (callsIn_wide.2 (CN.out _))).mono ?_; rintro e w5 ⟨rfl, hb5⟩; have jc5 : w5.cell? ⟨w.heap.size + 1 + 1 + 1 + 1, k, none⟩ = some (.bool false) := (hb5.cell (p := ⟨w.heap.size + 1 + 1 + 1 + 1, k, none⟩) HJ7.out.1).trans jc; have kf5 : w5.cell? ⟨w.heap.size + 1 + 1 + 1 + 1 + 1 + 1, 0, none⟩ = some (.func (.func 133) #[] #[.pointer (some ⟨w.heap.size, 0, none⟩), .pointer (some ⟨w.heap.size + 1 + 1 + 1 + 1, 0, none⟩), .pointer (some ⟨w.heap.size + 1 + 1 + 1 + 1 + 1, 0, none⟩), .pointer (some ⟨w.heap.size + 1 + 1 + 1, 0, none⟩), .pointer (some ⟨w.heap.size + 1, 0, none⟩), .pointer (some ⟨w.heap.size + 1 + 1 + 1 + 1 + 1 + 1, 0, none⟩)]) := (hb5.cell (p := ⟨w.heap.size + 1 + 1 + 1 + 1 + 1 + 1, 0, none⟩) HX7.out.f.1).trans kf; have x51 : w5.cell? ⟨Bx, 0, none⟩ = some (.int .i64 x0) := (hb5.cell (p := ⟨Bx, 0, none⟩) x00).trans x01; have x52 : w5.cell? ⟨Bx, 1, none⟩ = some (.int .i64 x1) := (hb5.cell (p := ⟨Bx, 1, none⟩) x00).trans x02)
        | (refine ⟨trivial, ?_⟩; gi_at_call 133; refine (CallsIn.inRound l (callsIn_wide.2 (CJ.out _ (HX7.out.call hb5) (HI7.out.call hb5) (HJ7.out.call hb5)))).mono ?_; rintro e w6 hh; unfold JAns at hh; obtain ⟨rfl, J2, I2, hp2, hI2, hJ2, hT2⟩ := hh; have hC6 : w6.heap[w.heap.size + 1 + 1 + 1 + 1 + 1]? = some (.cells #[.int .i64 ((Fp.length : Nat) : Int)] 2 (0, 0)) := (hT2.block _ (Nat.lt_of_lt_of_le lC hb5.size) (by omega) (by omega)).trans ((hb5.block _ lC).trans HC7.out); have kc6 : w6.cell? ⟨w.heap.size + 1 + 1 + 1 + 1 + 1, 0, none⟩ = some (.int .i64 ((Fp.length : Nat) : Int)) := (by simp [World.cell?, hC6]); have kf6 : w6.frozen? ⟨w.heap.size + 1 + 1 + 1 + 1 + 1, 0, none⟩ = false := (by simp [World.frozen?, hC6])))
      all_goals
        gi_wp2
        have z5 := hb5.size
        have z6 := hT2.size
        obtain ⟨hF2, hM2⟩ := HJN.out J2 I2 hp2
        have hI5 := HI7.out.call hb5
        have hJ5 := HJ7.out.call hb5
        have bq5 : Boxed w6 (w.heap.size + 1 + 1 + 1 + 1 + 1) 2 (.int .i64 ((Fp.length : Nat) : Int)) := hC6
        have e6 := bq5.set (.int .i64 (((Fp.length : Nat) : Int) + 1))
        have hBT : Below w.heap.size w w6 := Two.below hT2 (hB1.trans (hb5.mono hB1.size)) (Nat.le_refl _) (by omega) (by omega)
        have lR : w.heap.size + 1 + 1 < W.heap.size := by rw [HB2.out] at hR; exact (Array.getElem?_eq_some_iff.1 hR).1
        refine ⟨((keepsF_below _ hb5).trans (keepsF_two _ hT2 ⟨_, hI5, rfl⟩ (cells_of7 (hJ5.at 0 (by omega))))).trans ((KeepsOthers.setCell w6 ⟨w.heap.size + 1 + 1 + 1 + 1 + 1, 0, none⟩ _).from _), (Below.heap_setCell w6 ⟨w.heap.size + 1 + 1 + 1 + 1 + 1, 0, none⟩ _ (w.heap.size + 1 + 1 + 1 + 1 + 1 + 1 + 1) (by dsimp only; omega)).trans ((hT2.block _ (by omega) (by omega) (by omega)).trans (hb5.block _ lN)), ⟨⟨?_, (Below.heap_setCell w6 ⟨w.heap.size + 1 + 1 + 1 + 1 + 1, 0, none⟩ _ (w.heap.size + 1 + 1) (by dsimp only; omega)).trans ((hT2.block _ (by omega) (by omega) (by omega)).trans ((hb5.block _ lR).trans hR))⟩, hBT.setCell (by dsimp only; omega) _⟩⟩
        rw [HSN.out, hF2]
        refine ⟨⟨J2, I2, hM2, ARI.far (by dsimp only; omega) hI2, BRow.far (by dsimp only; omega) hJ2⟩, ?_, (Below.heap_setCell w6 ⟨w.heap.size + 1 + 1 + 1 + 1 + 1, 0, none⟩ _ (w.heap.size + 1 + 1 + 1 + 1 + 1 + 1 + 1) (by dsimp only; omega)).trans ((hT2.block _ (by omega) (by omega) (by omega)).trans ((hb5.block _ lN).trans hN)), fun b hb => ?_⟩
        · simpa [Boxed] using e6
        · obtain ⟨e, o, k1, k2⟩ := hTT.out.bs b hb
          have lb : b < W.heap.size := by rw [k1] at e; exact (Array.getElem?_eq_some_iff.1 e).1
          have hbb : b = w.heap.size ∨ b = w.heap.size + 1 ∨ b = w.heap.size + 1 + 1 + 1 + 1 + 1 + 1 := by simpa using hb
          refine ⟨?_, o, k1, k2⟩
          exact (Below.heap_setCell w6 ⟨w.heap.size + 1 + 1 + 1 + 1 + 1, 0, none⟩ _ b (by dsimp only; omega)).trans ((hT2.block _ (by omega) (by omega) (by omega)).trans ((hb5.block _ lb).trans e))
    · have HSK := Lib.hid (TMid.skip HMM.out HCE.out hy)
      generalize nb (q : Int) (x0, x1) = k at *
      have jc := HJ7.out.at k HK.out
      rw [hy] at jc
      clear hI hJ hr hlt hl hcel hy KL KM KF KX KCc KG bX
      have hk2 : (k : Int) < 64 := by have := HK.out; omega
      gi_wp2_with (refine ⟨trivial, ?_⟩; gi_at_call 92; refine (CallsIn.inRound l (callsIn_wide.2 (CN.out _))).mono ?_; rintro e w5 ⟨rfl, hb5⟩; have jc5 : w5.cell? ⟨w.heap.size + 1 + 1 + 1 + 1, k, none⟩ = some (.bool true) := (hb5.cell (p := ⟨w.heap.size + 1 + 1 + 1 + 1, k, none⟩) HJ7.out.1).trans jc)
      refine ⟨keepsF_below _ hb5, hb5.block _ lN, ⟨⟨?_, (hb5.block _ (by rw [HB2.out] at hR; exact (Array.getElem?_eq_some_iff.1 hR).1)).trans hR⟩, hB1.trans (hb5.mono hB1.size)⟩⟩
      rw [HSN.out, HSK.out]
      exact hTT.out.call hb5
  case done =>
    rintro D zs W hD hzs ⟨⟨hT, hR⟩, hB1⟩ hKD
    obtain ⟨⟨J, I, hM, hI, hJ⟩, hC, hN, hS⟩ := hT
    rw [hzs] at hM hC
    rw [HB2.out] at hR
    have hfo : Tryz.prog.follows Departure.mixedOrders = true := by kernel_rfl
    have hl1 : (loadCellsFrom ⟨w.heap.size + 1 + 1 + 1, 0, none⟩ 0 64 #[]).run Tryz.prog W.drew = .ok (rowI I) W.drew := load64 (W := W.drew) hI
    have hs1 : (storeCells ⟨w.heap.size + 1 + 1, 0, none⟩ (rowI I).toList 0).run Tryz.prog W.drew = .ok () (W.drew.setRow (w.heap.size + 1 + 1) (rowI I)) := store64 (W := W.drew) hR
    have hRR : (W.drew.setRow (w.heap.size + 1 + 1) (rowI I)).heap[w.heap.size + 1 + 1]? = some (.cells (rowI I) 126 (0, 0)) := setRow_heap W.drew _ _ _ _ _ hR
    have hl2 : (loadCellsFrom ⟨w.heap.size + 1 + 1, 0, none⟩ 0 64 #[]).run Tryz.prog (W.drew.setRow (w.heap.size + 1 + 1) (rowI I)) = .ok (rowI I) (W.drew.setRow (w.heap.size + 1 + 1) (rowI I)) := load64 hRR
    have kc1 : W.cell? ⟨w.heap.size + 1 + 1 + 1 + 1 + 1, 0, none⟩ = some (.int .i64 ((fstL (p : Int) B (q : Int) G (cellP q p)).length : Nat)) := by simp [World.cell?, hC]
    have kc2 : (W.drew.setRow (w.heap.size + 1 + 1) (rowI I)).cell? ⟨w.heap.size + 1 + 1 + 1 + 1 + 1, 0, none⟩ = some (.int .i64 ((fstL (p : Int) B (q : Int) G (cellP q p)).length : Nat)) := by rw [cell_setRow_other _ _ _ _ (by dsimp only; omega)]; exact kc1
    have hIW : ARI (w.heap.size + 1 + 1 + 1) I W.drew := hI
    have hRW : ARI (w.heap.size + 1 + 1) (fun _ => 0) W.drew := hR
    have kcd : W.drew.cell? ⟨w.heap.size + 1 + 1 + 1 + 1 + 1, 0, none⟩ = some (.int .i64 ((fstL (p : Int) B (q : Int) G (cellP q p)).length : Nat)) := kc1
    gi_wp2_with fail
    refine wpIn_region_any (by assumption) ?_
    try (change wpAnyIn _ _ _ _ _ _ _ _ _ (World.drew _))
    refine wpAnyIn_ready (rs := [0, 1]) (by kernel_rfl) (by simp) ?_
    refine AllReadyIn.cons rfl (fun K hK => ?_) ?_
    · rw [if_pos (by rfl)]
      refine wpIn_load64 rfl (.tmp 6) rfl _ I rfl hIW ?_
      refine hK _ _ ?_
      clear hK K
      refine wpAnyIn_ready (rs := [1, 2]) (by kernel_rfl) (by simp) ?_
      refine AllReadyIn.cons rfl (fun K hK => ?_) ?_
      · go_simp
        refine hK _ _ ?_
        clear hK K
        refine wpAnyIn_ready (rs := [2]) (by kernel_rfl) (by simp) ?_
        refine AllReadyIn.cons rfl (fun K hK => ?_) ?_
        · rw [if_pos (by rfl)]
          refine wpIn_store64 rfl (.tmp 4) (.tmp 26) rfl _ I _ rfl rfl hRW ?_
          refine hK _ _ ?_
          clear hK K
          refine wpAnyIn_ready (rs := [3]) (by kernel_rfl) (by simp) ?_
          refine AllReadyIn.cons rfl (fun K hK => ?_) ?_
          · go_simp
            refine hK _ _ ?_
            clear hK K
            refine wpAnyIn_done (by kernel_rfl) ?_ _
            gi_wp2
            have hDne : D ≠ w.heap.size + 1 + 1 := fun e => by
              rw [e, hR] at hKD
              cases hKD
            have hKD2 : (W.drew.setRow (w.heap.size + 1 + 1) (rowI I)).heap[D]? = some (.deferred (some [])) := (setRow_other W.drew _ _ _ hDne).trans hKD
            have hRD : ((W.drew.setRow (w.heap.size + 1 + 1) (rowI I)).putObj D (.deferred none)).heap[w.heap.size + 1 + 1]? = some (.cells (rowI I) 126 (0, 0)) := (World.putObj_heap_other (fun e => hDne e.symm)).trans hRR
            have hld := run_loadVar_row (P := Tryz.prog) _ (w.heap.size + 1 + 1) _ 126 (rowI I) (0, 0) _ hRD Tryz.underlying126 rfl (by rw [rowI_size]; kernel_rfl)
            refine ⟨by simp, .inl ⟨_, _, rfl, run_takeDeferred hKD2, ?_⟩⟩
            refine ⟨.tuple #[.agg (rowI I), .int .i64 ((fstL (p : Int) B (q : Int) G (cellP q p)).length : Nat)], ?_, J, I, rfl, hM, ?_⟩
            · rw [results_cell_tmp rfl]
              simp [asAddr, Result.andThen, hld]
            · exact (below_row hB1.drew (by omega) _).trans (belowK_b (w := w) (Nat.le_refl _) _ D _ _ (by omega) hKD2 rfl rfl)
          exact AllReadyIn.nil
        exact AllReadyIn.nil
      refine AllReadyIn.cons rfl (fun K hK => ?_) ?_
      · rw [if_pos (by rfl)]
        refine wpIn_store64 rfl (.tmp 4) (.tmp 26) rfl _ I _ rfl rfl hRW ?_
        refine hK _ _ ?_
        clear hK K
        refine wpAnyIn_ready (rs := [1]) (by kernel_rfl) (by simp) ?_
        refine AllReadyIn.cons rfl (fun K hK => ?_) ?_
        · go_simp
          refine hK _ _ ?_
          clear hK K
          refine wpAnyIn_ready (rs := [3]) (by kernel_rfl) (by simp) ?_
          refine AllReadyIn.cons rfl (fun K hK => ?_) ?_
          · go_simp
            refine hK _ _ ?_
            clear hK K
            refine wpAnyIn_done (by kernel_rfl) ?_ _
            gi_wp2
            have hDne : D ≠ w.heap.size + 1 + 1 := fun e => by
              rw [e, hR] at hKD
              cases hKD
            have hKD2 : (W.drew.setRow (w.heap.size + 1 + 1) (rowI I)).heap[D]? = some (.deferred (some [])) := (setRow_other W.drew _ _ _ hDne).trans hKD
            have hRD : ((W.drew.setRow (w.heap.size + 1 + 1) (rowI I)).putObj D (.deferred none)).heap[w.heap.size + 1 + 1]? = some (.cells (rowI I) 126 (0, 0)) := (World.putObj_heap_other (fun e => hDne e.symm)).trans hRR
            have hld := run_loadVar_row (P := Tryz.prog) _ (w.heap.size + 1 + 1) _ 126 (rowI I) (0, 0) _ hRD Tryz.underlying126 rfl (by rw [rowI_size]; kernel_rfl)
            refine ⟨by simp, .inl ⟨_, _, rfl, run_takeDeferred hKD2, ?_⟩⟩
            refine ⟨.tuple #[.agg (rowI I), .int .i64 ((fstL (p : Int) B (q : Int) G (cellP q p)).length : Nat)], ?_, J, I, rfl, hM, ?_⟩
            · rw [results_cell_tmp rfl]
              simp [asAddr, Result.andThen, hld]
            · exact (below_row hB1.drew (by omega) _).trans (belowK_b (w := w) (Nat.le_refl _) _ D _ _ (by omega) hKD2 rfl rfl)
          exact AllReadyIn.nil
        exact AllReadyIn.nil
      exact AllReadyIn.nil
    refine AllReadyIn.cons rfl (fun K hK => ?_) ?_
    · go_simp
      refine hK _ _ ?_
      clear hK K
      refine wpAnyIn_ready (rs := [0]) (by kernel_rfl) (by simp) ?_
      refine AllReadyIn.cons rfl (fun K hK => ?_) ?_
      · rw [if_pos (by rfl)]
        refine wpIn_load64 rfl (.tmp 6) rfl _ I rfl hIW ?_
        refine hK _ _ ?_
        clear hK K
        refine wpAnyIn_ready (rs := [2]) (by kernel_rfl) (by simp) ?_
        refine AllReadyIn.cons rfl (fun K hK => ?_) ?_
        · rw [if_pos (by rfl)]
          refine wpIn_store64 rfl (.tmp 4) (.tmp 26) rfl _ I _ rfl rfl hRW ?_
          refine hK _ _ ?_
          clear hK K
          refine wpAnyIn_ready (rs := [3]) (by kernel_rfl) (by simp) ?_
          refine AllReadyIn.cons rfl (fun K hK => ?_) ?_
          · go_simp
            refine hK _ _ ?_
            clear hK K
            refine wpAnyIn_done (by kernel_rfl) ?_ _
            gi_wp2
            have hDne : D ≠ w.heap.size + 1 + 1 := fun e => by
              rw [e, hR] at hKD
              cases hKD
            have hKD2 : (W.drew.setRow (w.heap.size + 1 + 1) (rowI I)).heap[D]? = some (.deferred (some [])) := (setRow_other W.drew _ _ _ hDne).trans hKD
            have hRD : ((W.drew.setRow (w.heap.size + 1 + 1) (rowI I)).putObj D (.deferred none)).heap[w.heap.size + 1 + 1]? = some (.cells (rowI I) 126 (0, 0)) := (World.putObj_heap_other (fun e => hDne e.symm)).trans hRR
            have hld := run_loadVar_row (P := Tryz.prog) _ (w.heap.size + 1 + 1) _ 126 (rowI I) (0, 0) _ hRD Tryz.underlying126 rfl (by rw [rowI_size]; kernel_rfl)
            refine ⟨by simp, .inl ⟨_, _, rfl, run_takeDeferred hKD2, ?_⟩⟩
            refine ⟨.tuple #[.agg (rowI I), .int .i64 ((fstL (p : Int) B (q : Int) G (cellP q p)).length : Nat)], ?_, J, I, rfl, hM, ?_⟩
            · rw [results_cell_tmp rfl]
              simp [asAddr, Result.andThen, hld]
            · exact (below_row hB1.drew (by omega) _).trans (belowK_b (w := w) (Nat.le_refl _) _ D _ _ (by omega) hKD2 rfl rfl)
          exact AllReadyIn.nil
        exact AllReadyIn.nil
      exact AllReadyIn.nil
    exact AllReadyIn.nil
  case stop =>
    rintro D c pre W _ _ h _
    exact h.elim
end Go.Proofs.YtkfdaepnjdnnmaaGreatDoor
