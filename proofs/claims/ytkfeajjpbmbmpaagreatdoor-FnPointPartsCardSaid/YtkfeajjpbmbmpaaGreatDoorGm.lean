/-
  Several of my texts in one: Ky6, As6, Cl6, Gp6, Cg6.
-/
import Derived.RangeFuncNested
import Derived.RangeFuncBound
import Derived.RangeFuncCalls
import Derived.RangeFuncLeaves
import Derived.RangeFuncBox
import Derived.Shelf.Abstract
import Derived.Shelf.RegionOpen
import Derived.WalkKit
import Derived.OwnWalkIn
import Derived.TacticsInMore
import Derived.LoopNIn
import Derived.LoopIn
import Derived.Maps.AppendAt
import Derived.Sort.KeysCollected
import Derived.Sort.MapsRangeIn
import Derived.Test.YtkfeajjpbmbmpaaGreatDoorGk
import Derived.Test.YtkfeajjpbmbmpaaGreatDoorGl
import Derived.Deep.RegionHeld3
import Derived.IntWalk
import Derived.Test.YtkfeajjpbmbmpaaGreatDoorGj
import Derived.Test.YtkfeajjpbmbmpaaGreatDoorMc6
namespace Go.Proofs.YtkfeajjpbmbmpaaGreatDoor
section
open Go.RowKit Go.Maps Go.Shelf
set_option linter.unusedSimpArgs false
set_option linter.unusedVariables false

theorem next6 {H : Type} {α : Type} {F : Fence} {n : Nat} {P : Program} {w : World} {ops : Array Oper} {rest : List Oper} {o : Oper} {a : Act} {Q : Exit → Act → World → Prop}
    (hg : o.guard = none) (it : Operand) (hop : o.op = Op.next it false) (k : TypeId) (K : Keyed P k) (R : Value → Option (DataW H × List MemPlace)) (mkK : α → Value)
    (b r nn : Nat) (D : DataW H) (left : Lit → Bool) (cnt : Nat) (invK : ∀ key kl, keyOf P k key = some kl → left kl = true → ∃ x, key = mkK x)
    (hit : a.eval it = .pointer (some ⟨r, 0, none⟩)) (h : w.ranges P k R b r nn D left cnt)
    (hDone : (∀ kl, left kl = false) → wpListIn F n P ops Q rest (a.put o.dst (.tuple #[.bool false])) w)
    (hMore : ∀ (x : α) (c : Value) (kl : Lit) (w' : World) (cnt' : Nat), keyOf P k (mkK x) = some kl → left kl = true → w'.ranges P k R b r nn D (fun z => left z && !z.sameKey kl) cnt' → cnt' < cnt →
      w.grownBy w' (some r) → w'.heap.size = w.heap.size → (Instr.entry (.pointer (some ⟨r, 0, none⟩))).run P w' = .ok (.tuple #[mkK x, c]) w' → wpListIn F n P ops Q rest (a.put o.dst (.tuple #[.bool true, mkK x, c])) w') :
    wpListIn F n P ops Q (o :: rest) a w := by
  refine wpListIn_plain hg fun K' hK' => ?_
  unfold Oper.wpIn
  refine ⟨by simp [Oper.about, hop], ?_⟩
  rw [Oper.semAt_plain F _ _ (by rw [hop]; intro c hc'; cases hc')]
  rcases h.next K o.type with ⟨h0, hl, hrun⟩ | ⟨key, v, kl, y, w', cnt', hkey, hlk, hv, hat, hrun, hrg, hlt, hgr, hsz, hen⟩
  · simp [execOp, hop, hit, hrun, Result.andThen]
    exact hK' _ _ (hDone hl)
  · obtain ⟨x, rfl⟩ := invK key kl hkey hlk
    simp [execOp, hop, hit, hrun, Result.andThen]
    exact hK' _ _ (hMore x v kl w' cnt' hkey hlk hrg hlt hgr hsz hen)
/- what has come, and what is still to come -/
structure Coll (Q : List M6) (left : Lit → Bool) (ss : List M6) : Prop where
  nodup : ss.Nodup
  sub : ∀ m ∈ ss, m ∈ Q ∧ left (kl m) = false
  rest : ∀ m ∈ Q, left (kl m) = true ∨ m ∈ ss
  from' : ∀ l, left l = true → ∃ m ∈ Q, kl m = l
theorem same_kl (m n : M6) : (kl m).sameKey (kl n) = true ↔ kl m = kl n := by
  constructor
  · intro h
    by_cases e : kl m = kl n
    · exact e
    · rw [sameKey_ne e] at h; cases h
  · intro h
    rw [h]
    simp [kl, Lit.sameKey]
theorem has_data {Q : List M6} (hQ : ∀ m ∈ Q, smM m) (l : Lit) : Maps.has (dataM Q) l = (Q.map kl).any (fun x => x.sameKey l) :=
  has_setOf _ _ _ (fun x hx => by obtain ⟨m, hm, rfl⟩ := List.mem_map.1 hx; exact kl_key (hQ m hm))
theorem Coll.start {Q : List M6} (hQ : ∀ m ∈ Q, smM m) : Coll Q (Maps.has (dataM Q)) [] := by
  refine ⟨by simp, by simp, fun m hm => .inl ?_, fun l hl => ?_⟩
  · rw [has_data hQ, List.any_eq_true]
    exact ⟨kl m, List.mem_map.2 ⟨m, hm, rfl⟩, (same_kl m m).2 rfl⟩
  · rw [has_data hQ, List.any_eq_true] at hl
    obtain ⟨x, hx, hs⟩ := hl
    obtain ⟨m, hm, rfl⟩ := List.mem_map.1 hx
    refine ⟨m, hm, ?_⟩
    by_cases e : kl m = l
    · exact e
    · rw [sameKey_ne e] at hs; cases hs
theorem Coll.step {Q : List M6} {left : Lit → Bool} {ss : List M6} (hQ : ∀ m ∈ Q, smM m) (h : Coll Q left ss) {x : M6} (hx : x ∈ Q) (hl : left (kl x) = true) : Coll Q (fun z => left z && !z.sameKey (kl x)) (ss ++ [x]) := by
  have hn : x ∉ ss := fun hm => by rw [(h.sub x hm).2] at hl; cases hl
  refine ⟨?_, ?_, ?_, ?_⟩
  · exact List.nodup_append.2 ⟨h.nodup, by simp, fun a ha b hb => by simp at hb; subst hb; exact fun e => hn (e ▸ ha)⟩
  · intro m hm
    rcases List.mem_append.1 hm with hm | hm
    · exact ⟨(h.sub m hm).1, by simp [(h.sub m hm).2]⟩
    · simp at hm; subst hm; exact ⟨hx, by simp [(same_kl m m).2 rfl]⟩
  · intro m hm
    by_cases e : m = x
    · exact .inr (by simp [e])
    · rcases h.rest m hm with h' | h'
      · refine .inl ?_
        have : (kl m).sameKey (kl x) = false := sameKey_ne (fun e' => e (kl_inj (hQ m hm) (hQ x hx) e'))
        simp [h', this]
      · exact .inr (by simp [h'])
  · intro l hl'
    simp only [Bool.and_eq_true] at hl'
    exact h.from' l hl'.1
theorem Coll.key {Q : List M6} {left : Lit → Bool} {ss : List M6} (hQ : ∀ m ∈ Q, smM m) (h : Coll Q left ss) {v : Value} {l : Lit} (hk : keyOf Tryz.prog 126 v = some l) (hl : left l = true) : ∃ x ∈ Q, v = encM x ∧ l = kl x := by
  obtain ⟨m, hm, rfl⟩ := h.from' l hl
  exact ⟨m, hm, lawKey.inj hk (kl_eq (hQ m hm)), rfl⟩
theorem Coll.len {Q : List M6} {left : Lit → Bool} {ss : List M6} (h : Coll Q left ss) {x : M6} (hx : x ∈ Q) (hl : left (kl x) = true) : ss.length < Q.length := by
  have hn : x ∉ ss := fun hm => by rw [(h.sub x hm).2] at hl; cases hl
  have := nodup_len (ss ++ [x]) Q (List.nodup_append.2 ⟨h.nodup, by simp, fun a ha b hb => by simp at hb; subst hb; exact fun e => hn (e ▸ ha)⟩) (fun m hm => by
    rcases List.mem_append.1 hm with hm | hm
    · exact (h.sub m hm).1
    · simp at hm; subst hm; exact hx)
  simp at this
  omega
theorem Coll.fin {Q : List M6} {left : Lit → Bool} {ss : List M6} (h : Coll Q left ss) (hl : ∀ l, left l = false) : ss.Nodup ∧ ∀ m, m ∈ ss ↔ m ∈ Q :=
  ⟨h.nodup, fun m => ⟨fun hm => (h.sub m hm).1, fun hm => (h.rest m hm).resolve_left (fun h' => by rw [hl] at h'; cases h')⟩⟩
theorem below_grown6 {W W' : World} (hb : Below W.heap.size W W') : W.grownBy W' none := ⟨hb.os, hb.tape, hb.output, hb.size, fun k hk _ => hb.block k hk⟩
theorem abides_below6 {β : Type} {B : Nat} {J : β → World → Prop} (h : AbidesFrom B J) {s : β} {W W' : World} (hJ : J s W) (hb : Below W.heap.size W W') : J s W' := h s W W' none hJ (below_grown6 hb) (fun r e => by cases e)
set_option maxRecDepth 100000 in
set_option maxHeartbeats 4000000 in
theorem keys_in (F : Fence) (n : Nat) (h5 : F.fn 250) (hro : F.round = none) (b : Nat) (w : World) :
    CallsIn F n Tryz.prog 250 #[.map (some b)] w fun e w' => e = .returned (.func (.func 304) #[] #[.pointer (some ⟨w.heap.size, 0, none⟩)]) ∧ w' = w.alloc (.cells #[.map (some b)] 257) := by
  refine callsIn_of_wp Tryz.func250 rfl h5 ?_ hro
  simp only [Tryz.ntmps250, List.size_toArray, List.length_cons, List.length_nil, Nat.reduceAdd, Nat.reduceSub, Array.replicate_succ, Array.replicate_zero, List.push_toArray, List.append_toArray, List.nil_append, List.cons_append]
  gi_wp2
  go_ret
  exact ⟨rfl, rfl⟩
set_option maxRecDepth 100000 in
set_option maxHeartbeats 8000000 in
theorem keys1_in (n : Nat) (hn : 1 ≤ n) (l Bm b nn : Nat) (Q : List M6) (hQ : ∀ m ∈ Q, smM m) (J Jx : List M6 → World → Prop) (W : World) (hJ : AbidesFrom W.heap.size J)
    (hY : ∀ pre x W1, J pre W1 → pre.length < Q.length → YieldAt Fence.wide (n - 1) Tryz.prog l #[encM x] W1 fun e W' =>
      (e = .returned (.bool true) ∧ J (pre ++ [x]) W' ∧ KeepsWalks W1 W') ∨ (e = .returned (.bool false) ∧ Jx (pre ++ [x]) W'))
    (hm : W.cell? ⟨Bm, 0, none⟩ = some (.map (some b))) (hown : MapIs W b nn Q) (h0 : J [] W) :
    CallsIn Fence.wide n Tryz.prog 304 #[.func (.yield l) #[] #[], .pointer (some ⟨Bm, 0, none⟩)] W fun e W' => (∃ v, e = .returned v) ∧
      ((∃ ss, (ss.Nodup ∧ ∀ m, m ∈ ss ↔ m ∈ Q) ∧ J ss W') ∨ (∃ pre, True ∧ Jx pre W')) := by
  refine callsIn_of_wp Tryz.func304 rfl trivial ?_ rfl
  simp only [Tryz.ntmps304, List.size_toArray, List.length_cons, List.length_nil, Nat.reduceAdd, Nat.reduceSub, Array.replicate_succ, Array.replicate_zero, List.push_toArray, List.append_toArray, List.nil_append, List.cons_append]
  gi_wp2_with (first
    | (gi_at_range; refine wpListIn_range_own _ rfl _ 257 rfl 126 4 lawKey Tryz.underlying257 _ b nn _ rfl hown ?_; intro w0 hrg0 hg0 hs0)
    | gi_in)
  go_frame
  gi_loopw [3] (fun _ wr => ∃ (left : Lit → Bool) (cnt : Nat) (ss : List M6), wr.ranges Tryz.prog 126 (plainElem (H := Unit) Tryz.prog 4) b W.heap.size nn (dataM Q) left cnt ∧ Coll Q left ss ∧ J ss wr)
    (fun _ wr => wr.rangeLeft b W.heap.size)
  case atStart =>
    exact ⟨_, _, [], hrg0, Coll.start hQ, hJ [] W w0 none h0 hg0 (fun r e => by cases e)⟩
  case round =>
    obtain ⟨left, cnt, ss, hrg, hC, hJs⟩ := hrel
    gi_wp2_with (first
      | (gi_at_next; refine next6 rfl _ rfl 126 lawKey _ encM b W.heap.size nn _ left cnt (fun key kl' hk hl => (hC.key hQ hk hl).imp fun x hx => hx.2.1) rfl hrg ?_ ?_)
      | gi_in)
    · intro hl0
      gi_wp2
      go_end0
      exact ⟨⟨_, rfl⟩, .inl ⟨ss, hC.fin hl0, hJs⟩⟩
    · intro p0 p1 p2 p3 p4 p5 c kl' w2 cnt2 hkey hlk hrg2 hlt hg2 hs2 hen
      obtain ⟨x', hx', ex, rfl⟩ := hC.key hQ hkey hlk
      obtain rfl : (p0, p1, p2, p3, p4, p5) = x' := encM_inj ex
      have hJ2 : J ss w2 := hJ ss wr w2 (some W.heap.size) hJs hg2 (fun r e => by cases e; exact ⟨Nat.le_refl _, hrg.iter_walk⟩)
      have hC2 := hC.step hQ hx' hlk
      have hCl := hC.len hx' hlk
      have hJ3 : J ss (w2.alloc (.cells #[.int .i64 p0, .int .i64 p1, .int .i64 p2, .int .i64 p3, .int .i64 p4, .int .i64 p5] 126)) := abides_below6 hJ hJ2 ((Below.refl _ _).alloc (Nat.le_refl _) _)
      have hrg3 := hrg2.alloc (.cells #[.int .i64 p0, .int .i64 p1, .int .i64 p2, .int .i64 p3, .int .i64 p4, .int .i64 p5] 126)
      obtain ⟨fn, tmps, assign, body, hy, hR⟩ := hY ss (p0, p1, p2, p3, p4, p5) _ hJ3 hCl
      clear hs2
      gi_wp2
      refine hR.mono ?_
      rintro e W3 (⟨rfl, hJ4, hk3⟩ | ⟨rfl, hJx3⟩)
      · gi_wp2
        have hrg4 := hrg3.of_walks hk3
        go_roundw
        case rel => exact ⟨_, cnt2, ss ++ [(p0, p1, p2, p3, p4, p5)], hrg4, hC2, hJ4⟩
        case measure => rw [hrg4.left_eq, hrg.left_eq]; exact hlt
      · gi_wp2
        refine bodyPost_ret (results_none rfl _ _ _) rfl ?_
        exact ⟨⟨_, rfl⟩, .inr ⟨ss ++ [(p0, p1, p2, p3, p4, p5)], trivial, hJx3⟩⟩
end
end Go.Proofs.YtkfeajjpbmbmpaaGreatDoor

namespace Go.Proofs.YtkfeajjpbmbmpaaGreatDoor
section
open Go.RowKit Go.Maps Go.Shelf
set_option linter.unusedSimpArgs false
set_option linter.unusedVariables false
attribute [local go_sem] Oper.semAt_some

theorem keys_stops (n : Nat) (hn : 1 ≤ n) (Bm b nn : Nat) (Q : List M6) (hQ : ∀ m ∈ Q, smM m) (w : World) (hBm : Bm < w.heap.size) (hm : w.cell? ⟨Bm, 0, none⟩ = some (.map (some b))) (hown : MapIs w b nn Q) :
    SeqStopsK Fence.wide n Tryz.prog 304 #[.pointer (some ⟨Bm, 0, none⟩)] (fun x : M6 => #[encM x]) KeepsWalks (fun ss => ss.Nodup ∧ ∀ m, m ∈ ss ↔ m ∈ Q) (fun _ => True) Q.length w := fun l J Jx W hW hJ _ hY h0 => by
  have hlt := hown.lt
  obtain ⟨es, clock, hb, Ft, hs, hD⟩ := hown
  have hown' : MapIs W b nn Q := ⟨es, clock, (hW.block b hlt).trans hb, Ft, hs, hD⟩
  exact keys1_in n hn l Bm b nn Q hQ J Jx W hJ hY ((hW.cell (p := ⟨Bm, 0, none⟩) hBm).trans hm) hown' h0
theorem at_own6 {β : Type} (B : Nat) (o : Obj) (ho : o.isCells = true) : Own (fun (_ : β) W => W.heap[B]? = some o) := fun s X Y row hs hg hrow => by
  have hlt := (Array.getElem?_eq_some_iff.1 hs).1
  refine (hg.block B hlt fun e => ?_).trans hs
  obtain ⟨o', ho', hc⟩ := hrow B e.symm
  rw [hs] at ho'
  cases ho'
  rw [ho] at hc
  cases hc
set_option maxRecDepth 100000 in
set_option maxHeartbeats 8000000 in
theorem appendSeq_any (gf : Nat) (lb : Array Value) (Sx Sp : List M6 → Prop) (N : Nat) (hN : N ≤ 768) (w : World) (eg : ∀ args w, (callFunc gf args).run Tryz.prog w = .ok (.enter gf args) w)
    (hseq : SeqStopsK Fence.wide (3 - 1) Tryz.prog gf lb (fun x : M6 => #[encM x]) KeepsWalks Sx Sp N w) :
    Calls Tryz.prog 330 #[.slice none 0 0, .func (.func gf) #[] lb] w fun e w' => ∃ (v : Value) (ss : List M6), e = .returned v ∧ Sx ss ∧ w'.ownsRow w.heap.size 126 6 v ss.length (cells6 ss) ∧ Below w.heap.size w w' := by
  obtain ⟨i0, hi0, hz0, hz1, hz2⟩ := info_parts infoMo
  refine (callsIn_wide (n := 3)).1 ?_
  refine callsIn_of_wp_marks Tryz.func330 rfl trivial ?_ rfl
  simp only [Tryz.ntmps330, List.size_toArray, List.length_cons, List.length_nil, Nat.reduceAdd, Nat.reduceSub, Array.replicate_succ, Array.replicate_zero, List.push_toArray, List.append_toArray, List.nil_append, List.cons_append]
  gi_wp2
  obtain ⟨W0, hW0⟩ : ∃ W0, w.alloc (.cells #[.slice none 0 0] 121) = W0 := ⟨_, rfl⟩
  have hsz : W0.heap.size = w.heap.size + 1 := by rw [← hW0]; simp
  have bL : Boxed W0 w.heap.size 121 (.slice none 0 0) := by rw [← hW0]; exact Boxed.new w _ _
  have B0 : Below w.heap.size w W0 := by rw [← hW0]; exact (Below.refl _ _).alloc (Nat.le_refl _) _
  rw [hW0]
  clear hW0
  have hz := B0.size
  refine wpIn_rangeFunc_ownH rfl (by omega) (gf := gf) (lb := lb) rfl trivial eg hseq (fun h k => walksK_t h k) (fun W l o o' => walksK_b W l o o') B0 (fun _ => rfl)
    (fun pre W => (∃ v, Boxed W w.heap.size 121 v ∧ W.ownsRow w.heap.size 126 6 v pre.length (cells6 pre) ∧ True) ∧ Below w.heap.size w W)
    (fun _ _ _ => False)
    (OwnFrom.and (Own.from (holdsRow_own w.heap.size w.heap.size 121 126 6 (fun pre : List M6 => pre.length) (fun pre => cells6 pre) (fun _ _ => True)) _) (ownFrom_below (Nat.le_refl _) hz))
    (fun _ _ _ _ _ hs _ _ => hs)
    ⟨⟨_, bL, World.ownsRow_nil _ _ _ _, trivial⟩, B0⟩
    (fun x a' W => ∃ Bx, w.heap.size < Bx ∧ W.heap[Bx]? = some (.cells #[.int .i64 x.1, .int .i64 x.2.1, .int .i64 x.2.2.1, .int .i64 x.2.2.2.1, .int .i64 x.2.2.2.2.1, .int .i64 x.2.2.2.2.2] 126 (0, 0)) ∧ a' = { tmps := #[.slice none 0 0, .func (.func gf) #[] lb, .pointer (some ⟨w.heap.size, 0, none⟩), undef, .slice none 0 0, .pointer (some ⟨Bx, 0, none⟩), .func (.func gf) #[] lb, encM x, undef, undef, undef, undef, undef], defers := [] })
    (fun x a' _ X Y row hs hg hr => by obtain ⟨Bx, h1, h2, h3⟩ := hs; exact ⟨Bx, h1, at_own6 Bx _ rfl () X Y row h2 hg (fun r e => (hr r e).2), h3⟩)
    ?assign ?body ?done ?stop
  case assign =>
    rintro l pre x W K ⟨⟨v, hv, hrow, _⟩, hB1⟩ hK
    gi_wp2
    exact hK _ _ ((KeepsOthers.alloc _ _).from _) (KeepsWalks.alloc _ _) ⟨⟨v, hv.alloc _, hrow.alloc _, trivial⟩, hB1.alloc hB1.size _⟩ ⟨W.heap.size, hv.lt, World.alloc_heap_new W _, rfl⟩
  case body =>
    rintro l pre x a' W hl ⟨r, hr⟩ ⟨⟨v, hv, hrow, _⟩, hB1⟩ ⟨Bx, hBx, bX, rfl⟩ hlt
    have hc := hv.cell
    have KX : Km Bx x.1 x.2.1 x.2.2.1 x.2.2.2.1 x.2.2.2.2.1 x.2.2.2.2.2 W := ⟨(Array.getElem?_eq_some_iff.1 bX).1, by simp [World.cell?, bX], by simp [World.cell?, bX], by simp [World.cell?, bX], by simp [World.cell?, bX], by simp [World.cell?, bX], by simp [World.cell?, bX]⟩
    obtain ⟨x0, x1, x2, x3, x4, x5, x6⟩ := id KX
    gi_wp2_with (gi_at_builtin; refine wpListIn_append_own _ rfl _ _ 121 rfl w.heap.size 126 i0 (.agg #[.int .i64 0, .int .i64 0, .int .i64 0, .int .i64 0, .int .i64 0, .int .i64 0]) 6 48 Tryz.underlying121 hi0 hz0 hz1 hz2 rfl (by decide) _ _ _ rfl (hrow.alloc _) ⟨W.heap.size, 0, none⟩ 1 1 [.int .i64 x.1, .int .i64 x.2.1, .int .i64 x.2.2.1, .int .i64 x.2.2.2.1, .int .i64 x.2.2.2.2.1, .int .i64 x.2.2.2.2.2] rfl rfl (new_six _ _ _ _ _ _ _ rfl) one_six (by unfold maxLen; omega) (by omega) (by have := hB1.size; simp; omega) ?_; intro v' w6 hown' hgrow _; obtain ⟨g', cap', rfl⟩ := ownsRow_succ hown'; obtain ⟨hv1, hv2, hr2, hk2, hb2⟩ := hv.appended (by decide) hrow hB1.size (Nat.le_refl _) hown' hgrow; have hc1 := hv1.cell; have hf1 := hv1.frozen)
    exact ⟨hk2.from _, hk2.walks, ⟨⟨_, hv2, by rw [cells6_snoc]; simpa using hr2, trivial⟩, hB1.trans hb2⟩⟩
  case done =>
    rintro D zs W hD hS ⟨⟨v, hv, hrow, _⟩, hB1⟩ hK
    have cS := hv.cell
    gi_wp2
    refine ⟨by simp, .inl ⟨_, _, rfl, run_takeDeferred hK, ?_⟩⟩
    exact ⟨_, results_tmp rfl _ _ _, v, zs, rfl, hS, ownsRow_putObj hrow _ hK rfl, hB1.trans (belowK_b (w := w) (Nat.le_refl _) W D _ _ (by omega) hK rfl rfl)⟩
  case stop =>
    rintro D c pre W _ _ h _
    exact h.elim
set_option maxRecDepth 100000 in
set_option maxHeartbeats 4000000 in
theorem collect_any (gf : Nat) (lb : Array Value) (Sx Sp : List M6 → Prop) (N : Nat) (hN : N ≤ 768) (w : World) (eg : ∀ args w, (callFunc gf args).run Tryz.prog w = .ok (.enter gf args) w)
    (hseq : SeqStopsK Fence.wide (3 - 1) Tryz.prog gf lb (fun x : M6 => #[encM x]) KeepsWalks Sx Sp N w) :
    Calls Tryz.prog 303 #[.func (.func gf) #[] lb] w fun e w' => ∃ (v : Value) (ss : List M6), e = .returned v ∧ Sx ss ∧ w'.ownsRow w.heap.size 126 6 v ss.length (cells6 ss) ∧ Below w.heap.size w w' := by
  go_enter Tryz.func303, Tryz.ntmps303
  go_wp2_with fail
  refine (appendSeq_any gf lb Sx Sp N hN w eg hseq).mono ?_
  rintro e w1 ⟨v, ss, rfl, hS, hr, hb⟩
  go_wp2
  go_ret
  exact ⟨v, ss, rfl, hS, hr, hb⟩
set_option maxRecDepth 100000 in
set_option maxHeartbeats 4000000 in
theorem sortedFunc_any (gf : Nat) (lb : Array Value) (Sx Sp : List M6 → Prop) (N : Nat) (hN : N ≤ 768) (w : World) (eg : ∀ args w, (callFunc gf args).run Tryz.prog w = .ok (.enter gf args) w)
    (hpos : ∀ ss, Sx ss → 0 < ss.length ∧ ss.length ≤ 768)
    (hseq : SeqStopsK Fence.wide (3 - 1) Tryz.prog gf lb (fun x : M6 => #[encM x]) KeepsWalks Sx Sp N w) :
    Calls Tryz.prog 249 #[.func (.func gf) #[] lb, .func (.func 168) #[] #[]] w fun e w' => ∃ (v : Value) (ss : List M6), e = .returned v ∧ Sx ss ∧ w'.ownsRow w.heap.size 126 6 v (ss.mergeSort fun x y => !ltM y x).length (cells6 (ss.mergeSort fun x y => !ltM y x)) ∧ Below w.heap.size w w' := by
  go_enter Tryz.func249, Tryz.ntmps249
  go_wp2_with fail
  refine (collect_any gf lb Sx Sp N hN w eg hseq).mono ?_
  rintro e w1 ⟨v, ss, rfl, hS, hr, hb⟩
  obtain ⟨h0, h1⟩ := hpos ss hS
  obtain ⟨g, cap, rfl, hO⟩ := KOw.of hr h0
  have hg := hO.lt
  have HS := Lib.hid hS
  clear hS hseq hpos hr
  go_wp2_with fail
  refine (sortMo_any hO (by omega)).mono ?_
  rintro e w2 ⟨rfl, hr2, hgw⟩
  have hb2 : Below w.heap.size w w2 := Below.grown hb hgw hb.size (fun r hr => by have := Option.some.inj hr; omega)
  clear hO hgw
  go_wp2
  go_ret
  exact ⟨_, ss, rfl, HS.out, by rw [sort_len]; exact hr2, hb2⟩
end
end Go.Proofs.YtkfeajjpbmbmpaaGreatDoor

namespace Go.Proofs.YtkfeajjpbmbmpaaGreatDoor
section
open Go.RowKit Go.Maps
set_option linter.unusedSimpArgs false
set_option linter.unusedVariables false

theorem SRow.big6 {lo : Nat} {xs : List M6} {e : TypeId} {v : Value} {W : World} (h : W.ownsRow lo e 6 v xs.length (cells6 xs)) (hn : xs.length ≤ 1048576) : SRow lo W.heap.size 6 v xs.length (fm xs) W := by
  refine ⟨Nat.le_refl _, Nat.le_trans hn (by omega), ?_⟩
  rcases h.2 with ⟨rfl, h0⟩ | ⟨g, cap, cur, rfl, _⟩
  · exact .inl ⟨h0, none, 0, rfl⟩
  · have hl := h.lt g rfl
    refine .inr ⟨g, cap, rfl, hl.1, hl.2, hl.2, fun t ht => ⟨?_, h.frozenAt t⟩⟩
    rw [h.cellAt t ht]
    exact intAt_eq (cells6_int xs) (by rw [h.1]; exact ht)
structure Mak (f A B C : Int) (R : List M6) (k : Nat) (Ms : List M6) : Prop where
  g : Gath A B C R k Ms
  nd : Ms.Nodup
theorem Mak.start (f A B C : Int) (R : List M6) : Mak f A B C R 0 [] := ⟨Gath.start A B C R, by simp⟩
theorem Mak.adds {f A B C : Int} (hl : latI A B C) {R Ms : List M6} (hR : GoodR f A B C R) {k : Nat} (h : Mak f A B C R k Ms) (hk : k < R.length) (hm : ¬ Reach A B C Ms R[k]) : Mak f A B C R (k + 1) (Ms ++ [R[k]]) :=
  ⟨h.g.adds hl hR hk, List.nodup_append.2 ⟨h.nd, by simp, fun a ha b hb => by simp at hb; subst hb; exact fun e => hm (reach_mem hl (h.g.good hR) (e ▸ ha))⟩⟩
theorem Mak.len {f A B C : Int} (hf : frB f = true) (hl : latI A B C) {R Ms : List M6} (hR : GoodR f A B C R) {k : Nat} (h : Mak f A B C R k Ms) : Ms.length ≤ 768 := good_len hf hl h.nd (h.g.good hR)
def ClosPost (A B C : Int) (R : List M6) (w : World) (e : Ending) (w' : World) : Prop :=
  ∃ (v : Value) (L : List M6), e = .returned v ∧ IsClos A B C R L ∧ w'.ownsRow w.heap.size 126 6 v L.length (cells6 L) ∧ Below w.heap.size w w'
theorem keysC_any (b : Nat) (w : World) :
    Calls Tryz.prog 250 #[.map (some b)] w fun e w' => e = .returned (.func (.func 304) #[] #[.pointer (some ⟨w.heap.size, 0, none⟩)]) ∧ w' = w.alloc (.cells #[.map (some b)] 257) :=
  (callsIn_wide (n := 3)).1 (keys_in Fence.wide 3 trivial rfl b w)
/- what the map holds between two rounds -/
structure Found (A B C : Int) (Ms Q : List M6) : Prop where
  nd : Q.Nodup
  mem : ∀ m, m ∈ Q ↔ Reach A B C Ms m
theorem Found.sm {f A B C : Int} (hf : frB f = true) (hl : latI A B C) {Ms Q : List M6} (hM : GoodR f A B C Ms) (h : Found A B C Ms Q) : ∀ m ∈ Q, smM m := fun m hm => (good_sm hf hl (reach_good hl hM ((h.mem m).1 hm))).1
theorem Found.len {f A B C : Int} (hf : frB f = true) (hl : latI A B C) {Ms Q : List M6} (hM : GoodR f A B C Ms) (h : Found A B C Ms Q) : Q.length ≤ 768 := good_len hf hl h.nd fun m hm => reach_good hl hM ((h.mem m).1 hm)
set_option maxRecDepth 100000 in
set_option maxHeartbeats 4000000 in
theorem sortKeys_any {f A B C : Int} (hf : frB f = true) (hl : latI A B C) {R Ms Q : List M6} (hR : GoodR f A B C R) (hM : Mak f A B C R R.length Ms) (hF : Found A B C Ms Q) (b n Bm : Nat) (w : World) (hBm : Bm < w.heap.size) (hc : w.cell? ⟨Bm, 0, none⟩ = some (.map (some b))) (hown : MapIs w b n Q) :
    Calls Tryz.prog 249 #[.func (.func 304) #[] #[.pointer (some ⟨Bm, 0, none⟩)], .func (.func 168) #[] #[]] w (ClosPost A B C R w) := by
  have hg := hM.g.good hR
  refine (sortedFunc_any _ _ _ _ Q.length (hF.len hf hl hg) w (enters_of Tryz.func304 (by kernel_rfl) rfl) ?_ (keys_stops (3 - 1) (by omega) Bm b n Q (hF.sm hf hl hg) w hBm hc hown)).mono ?_
  · rintro ss ⟨hn, hm⟩
    have h1 : oneM ∈ ss := (hm _).2 ((hF.mem _).2 (reach_one A B C Ms))
    exact ⟨List.length_pos_of_mem h1, Nat.le_trans (nodup_len ss Q hn fun m h => (hm m).1 h) (hF.len hf hl hg)⟩
  · rintro e w' ⟨v, ss, rfl, ⟨hn, hm⟩, hr, hb⟩
    exact ⟨v, _, rfl, sort_clos hn fun m => ((hm m).trans (hF.mem m)).trans (hM.g.fin hl hR m), hr, hb⟩
set_option maxRecDepth 100000 in
set_option maxHeartbeats 8000000 in
theorem closure_any {lo hi : Nat} {v : Value} {R : List M6} {w : World} (f A B C : Int) (hf : frB f = true) (hl : latI A B C) (hR : GoodR f A B C R) (h : SRow lo hi 6 v R.length (fm R) w) (hn : R.length ≤ 1048576) (hU : UnitOK w) :
    Calls Tryz.prog 156 #[.agg #[.int .i64 A, .int .i64 B, .int .i64 C], v] w (ClosPost A B C R w) := by
  obtain ⟨i0, hinf, hz0, hz1, hz2⟩ := info_parts infoMo
  have L0 : Kt w.heap.size A B C (w.alloc (.cells #[.int .i64 A, .int .i64 B, .int .i64 C] 25)) := Kt.at _ rfl
  have B0 : Below w.heap.size w (w.alloc (.cells #[.int .i64 A, .int .i64 B, .int .i64 C] 25)) := (Below.refl _ _).alloc (Nat.le_refl _) _
  have U0 : UnitOK (w.alloc (.cells #[.int .i64 A, .int .i64 B, .int .i64 C] 25)) := Kq.alloc hU _
  have HR := Lib.hid hR
  have HN := Lib.hid hn
  have HFr := Lib.hid hf
  have HL := Lib.hid hl
  have HA := Lib.hid h
  have HU := Lib.hid hU
  clear hR hn hf hl h hU
  have L0c := L0.cells
  go_enter Tryz.func156, Tryz.ntmps156
  go_wp2_with fail
  refine (products_any (R := []) f A B C HFr.out HL.out (fun r hr => by cases hr) (SRow.nil 0 6 _ _) (by simp) U0).mono ?_
  rintro e w1 ⟨b1, n1, Q1, rfl, hb1, hM1, hnd1, hmem1, hbl1⟩
  have L1 := L0.call hbl1
  have B1 := bstep B0 hbl1
  have hb1' : w.heap.size + 1 ≤ b1 := by simpa using hb1
  clear hbl1 L0 B0 U0 L0c hb1
  obtain ⟨_, _, h1⟩ := id HA.out
  by_cases hz : R.length = 0
  · obtain ⟨ao, cap', rfl⟩ : ∃ ao cap, v = .slice ao 0 cap := by
      rcases h1 with ⟨_, h⟩ | ⟨g', cap', h, _⟩
      · exact h
      · exact ⟨_, cap', by rw [h, hz]⟩
    have HMk : Hid (Mak f A B C R R.length []) := Lib.hid (by rw [hz]; exact Mak.start f A B C R)
    have HQ := Lib.hid (show Found A B C [] Q1 from ⟨hnd1, hmem1⟩)
    clear h1 hz hnd1 hmem1
    go_wp2_with fail
    go_loopw [5, 6, 14] (fun s5 s6 s14 W => s6 = .map (some b1) ∧ s14 = .int .i64 ((0 : Nat) : Int) ∧ W = w1) (fun _ _ _ _ => 0)
    case atStart => exact ⟨rfl, rfl, rfl⟩
    case round =>
      obtain ⟨rfl, rfl, rfl⟩ := hrel
      have hFd := HQ.out
      have hM2 : MapIs wr b1 n1 Q1 := hM1
      have hB := B1
      clear hM1 B1 L1 hb1'
      have HFd := Lib.hid hFd
      have hBl := hM2.lt
      clear hFd
      have zB := hB.size
      go_wp2_with fail
      refine (keysC_any _ _).mono ?_
      rintro e w5 ⟨rfl, rfl⟩
      have hS := sortKeys_any HFr.out HL.out HR.out HMk.out HFd.out b1 n1 wr.heap.size (wr.alloc (.cells #[.map (some b1)] 257)) (by simp) (by simp [go_sem]) (hM2.alloc _)
      have B5 := hB.alloc zB (.cells #[.map (some b1)] 257)
      clear hM2 hB
      go_wp2_with fail
      refine hS.mono ?_
      rintro e w6 ⟨v6, L6, rfl, hC6, hr6, hb6⟩
      have z5 := B5.size
      have B6 := bstep B5 hb6
      have HC6 := Lib.hid hC6
      clear hC6 hS B5 hb6
      go_wp2
      go_ret
      exact ⟨v6, L6, rfl, HC6.out, ownsRow_lower hr6 z5, B6⟩
  · obtain ⟨ga, cap', rfl, _, hga, RA⟩ := h1.resolve_left (fun h => hz h.1)
    have hRA := HA.out.1
    have HRA := Lib.hid (show IRow ga (R.length * 6) (fm R) w ∧ ga < w.heap.size from ⟨RA, by omega⟩)
    clear h1 hz RA hga hRA
    go_wp2_with fail
    go_loopw [5, 6, 14] (fun s5 s6 s14 W => ∃ k : Nat, s14 = .int .i64 (k : Int) ∧ k ≤ R.length ∧ ∃ (Ms Q : List M6) (b n : Nat), Mak f A B C R k Ms ∧ W.ownsRow (w.heap.size + 1) 126 6 s5 Ms.length (cells6 Ms) ∧ s6 = .map (some b) ∧ w.heap.size + 1 ≤ b ∧ MapIs W b n Q ∧ Found A B C Ms Q ∧ Kt w.heap.size A B C W ∧ Below w.heap.size w W) (fun _ _ s14 _ => R.length - (intOf s14).toNat)
    case atStart => exact ⟨0, rfl, by omega, [], Q1, b1, n1, Mak.start f A B C R, own_nil6 _ _ _, rfl, hb1', hM1, ⟨hnd1, hmem1⟩, L1, B1⟩
    case round =>
      clear hM1 hnd1 hmem1 hb1' L1 B1
      obtain ⟨k, rfl, hk, Ms, Q, b, n, hMk, hown, rfl, hbb, hM2, hFd, hL, hB⟩ := hrel
      by_cases hk1 : k < R.length
      · have hk2 : (k : Int) < (R.length : Int) := by omega
        have hn := HN.out
        have hk3 : (k : Int) ≤ 1048576 := by omega
        have q1 := (HRA.out.1.grow hB HRA.out.2).mo k hk1
        have hgM := hMk.g.good HR.out
        have hlen := hMk.len HFr.out HL.out HR.out
        have HQS := Lib.hid (hFd.sm HFr.out HL.out hgM)
        have HSM := Lib.hid (good_sm HFr.out HL.out (HR.out _ (List.getElem_mem hk1))).1
        have HH := Lib.hid (fun (h : R[k] ∈ Q) => (show Mak f A B C R (k + 1) Ms from ⟨hMk.g.has hk1 ((hFd.mem _).1 h), hMk.nd⟩))
        have HD := Lib.hid (fun (h : R[k] ∉ Q) => hMk.adds HL.out HR.out hk1 (fun h' => h ((hFd.mem _).2 h')))
        have HK := Lib.hid (show k < R.length ∧ Ms.length ≤ 768 from ⟨hk1, hlen⟩)
        clear hMk hgM hk hlen
        generalize R[k] = m at q1 HSM HH HD
        obtain ⟨a, b', c, d, x, y⟩ := m
        dsimp only at q1
        obtain ⟨q10, q11, q12, q13, q14, q15, q16⟩ := id q1
        have zB := hB.size
        have hLl := kt_lt hL
        have hml := hM2.lt
        have X0 : Km wr.heap.size a b' c d x y (wr.alloc (.cells #[.int .i64 a, .int .i64 b', .int .i64 c, .int .i64 d, .int .i64 x, .int .i64 y] 126)) := Km.at _ rfl
        have L3 : Kt w.heap.size A B C (wr.alloc (.cells #[.int .i64 a, .int .i64 b', .int .i64 c, .int .i64 d, .int .i64 x, .int .i64 y] 126)) := hL.alloc _
        have O3 : (wr.alloc (.cells #[.int .i64 a, .int .i64 b', .int .i64 c, .int .i64 d, .int .i64 x, .int .i64 y] 126)).ownsRow (w.heap.size + 1) 126 6 u5 Ms.length (cells6 Ms) := hown.alloc _
        have M3 : MapIs (wr.alloc (.cells #[.int .i64 a, .int .i64 b', .int .i64 c, .int .i64 d, .int .i64 x, .int .i64 y] 126)) b n Q := hM2.alloc _
        have B3 : Below w.heap.size w (wr.alloc (.cells #[.int .i64 a, .int .i64 b', .int .i64 c, .int .i64 d, .int .i64 x, .int .i64 y] 126)) := hB.alloc zB _
        have X0c := X0.cells
        have z3 := B3.size
        clear hL hown hM2 hB q1
        rcases hd : decide ((a, b', c, d, x, y) ∈ Q) with _ | _
        · have HG2 := Lib.hid (HD.out (of_decide_eq_false hd))
          clear HH HD
          have hQ9 : ∀ r, u5.ownBlock = some r → w.heap.size + 1 ≤ r ∧ r < wr.heap.size + 1 := fun r hr => by have := O3.lt r hr; simpa using this
          have HQ9 := Lib.hid hQ9
          clear hQ9
          go_wp2_with (first
            | (at_lookup; refine wpList_look6 rfl _ _ rfl b n Q (a, b', c, d, x, y) rfl rfl M3 HQS.out HSM.out false hd ?_)
            | (at_builtin; refine wpList_append_own _ rfl _ _ 121 rfl (w.heap.size + 1) 126 i0 (.agg #[.int .i64 0, .int .i64 0, .int .i64 0, .int .i64 0, .int .i64 0, .int .i64 0]) 6 48 Tryz.underlying121 hinf hz0 hz1 hz2 rfl (by decide) _ _ _ rfl (O3.alloc _) ⟨wr.heap.size + 1, 0, none⟩ 1 1 [.int .i64 a, .int .i64 b', .int .i64 c, .int .i64 d, .int .i64 x, .int .i64 y] rfl rfl (new_six _ _ _ _ _ _ _ (by simp)) one_six (by have := HK.out; unfold maxLen; omega) (by have := HK.out; omega) (by simp; omega) ?_; intro v9 w9 hown9 hgrow _; have hL9 : Kt w.heap.size A B C w9 := Kt.grown (L3.alloc _) hgrow (fun e => by have := HQ9.out _ e.symm; omega); have hL9c := hL9.cells))
          have O9 := own_next6 hown9
          have B9 : Below w.heap.size w w9 := Below.grown (B3.alloc z3 _) hgrow (by simp; omega) (fun r hr => by have := HQ9.out _ hr; omega)
          have z9 := B9.size
          have hl9 : (Ms ++ [(a, b', c, d, x, y)]).length ≤ 769 := by have := HK.out; simp; omega
          have S9 := SRow.big6 O9 (by omega)
          have g9 := HG2.out.g.good HR.out
          have U9 : UnitOK w9 := Kq.call HU.out B9
          clear hown9 hgrow X0 X0c L3 O3 M3 B3 z3
          refine (products_any f A B C HFr.out HL.out g9 S9 (by omega) U9).mono ?_
          rintro e w10 ⟨b10, n10, Q10, rfl, hb10, hM10, hnd10, hmem10, hbl10⟩
          have hL10 := hL9.call hbl10
          have O10 := ownsRow_call O9 hbl10
          have B10 := bstep B9 hbl10
          have hb11 : w.heap.size + 1 ≤ b10 := by have := kt_lt hL9; omega
          clear S9 g9 U9 O9 B9 hL9 hL9c hbl10 hb10
          go_wp2
          go_roundw
          case rel => exact ⟨k + 1, by go_num, by have := HK.out; omega, Ms ++ [(a, b', c, d, x, y)], Q10, b10, n10, HG2.out, O10, rfl, hb11, hM10, ⟨hnd10, hmem10⟩, hL10, B10⟩
          case measure => (have := HK.out); first | (simp [intOf]; done) | (simp [intOf]; omega)
        · have HG2 := Lib.hid (HH.out (of_decide_eq_true hd))
          clear HH HD
          go_wp2_with (at_lookup; refine wpList_look6 rfl _ _ rfl b n Q (a, b', c, d, x, y) rfl rfl M3 HQS.out HSM.out true hd ?_)
          go_roundw
          case rel => exact ⟨k + 1, by go_num, by have := HK.out; omega, Ms, Q, b, n, HG2.out, O3, rfl, hbb, M3, hFd, L3, B3⟩
          case measure => (have := HK.out); first | (simp [intOf]; done) | (simp [intOf]; omega)
      · obtain rfl : k = R.length := by omega
        have HMk := Lib.hid hMk
        clear hMk hk hk1 hown hL
        have HFd := Lib.hid hFd
        have hBl := hM2.lt
        clear hFd
        have zB := hB.size
        go_wp2_with fail
        refine (keysC_any _ _).mono ?_
        rintro e w5 ⟨rfl, rfl⟩
        have hS := sortKeys_any HFr.out HL.out HR.out HMk.out HFd.out b n wr.heap.size (wr.alloc (.cells #[.map (some b)] 257)) (by simp) (by simp [go_sem]) (hM2.alloc _)
        have B5 := hB.alloc zB (.cells #[.map (some b)] 257)
        clear hM2 hB
        go_wp2_with fail
        refine hS.mono ?_
        rintro e w6 ⟨v6, L6, rfl, hC6, hr6, hb6⟩
        have z5 := B5.size
        have B6 := bstep B5 hb6
        have HC6 := Lib.hid hC6
        clear hC6 hS B5 hb6
        go_wp2
        go_ret
        exact ⟨v6, L6, rfl, HC6.out, ownsRow_lower hr6 z5, B6⟩
end
end Go.Proofs.YtkfeajjpbmbmpaaGreatDoor

namespace Go.Proofs.YtkfeajjpbmbmpaaGreatDoor
section
open Go.RowKit Go.Maps
set_option linter.unusedSimpArgs false
set_option linter.unusedVariables false

attribute [local go_sem ↓] eqM6
set_option maxRecDepth 100000 in
set_option maxHeartbeats 4000000 in
theorem listed_any (m n : M6) (w : World) :
    Calls Tryz.prog 217 #[.agg #[.int .i64 (m.1), .int .i64 (m.2.1), .int .i64 (m.2.2.1), .int .i64 (m.2.2.2.1), .int .i64 (m.2.2.2.2.1), .int .i64 (m.2.2.2.2.2)], .agg #[.int .i64 (n.1), .int .i64 (n.2.1), .int .i64 (n.2.2.1), .int .i64 (n.2.2.2.1), .int .i64 (n.2.2.2.2.1), .int .i64 (n.2.2.2.2.2)]] w fun e w' => e = .returned (.bool (decide (m = n))) ∧ Below w.heap.size w w' := by
  have EA := Lib.hid (eqT6_dec m n)
  obtain ⟨a, b, c, d, x, y⟩ := m
  obtain ⟨a', b', c', d', x', y'⟩ := n
  dsimp only at EA ⊢
  have M0 : Km (w.heap.size) a b c d x y ((w.alloc (.cells #[.int .i64 a, .int .i64 b, .int .i64 c, .int .i64 d, .int .i64 x, .int .i64 y] 126)).alloc (.cells #[.int .i64 a', .int .i64 b', .int .i64 c', .int .i64 d', .int .i64 x', .int .i64 y'] 37)) := ((Km.at (w.heap.size) rfl).alloc _)
  have N0 : Km (w.heap.size + 1) a' b' c' d' x' y' ((w.alloc (.cells #[.int .i64 a, .int .i64 b, .int .i64 c, .int .i64 d, .int .i64 x, .int .i64 y] 126)).alloc (.cells #[.int .i64 a', .int .i64 b', .int .i64 c', .int .i64 d', .int .i64 x', .int .i64 y'] 37)) := (Km.at (w.heap.size + 1) (by simp))
  have B0 : Below w.heap.size w ((w.alloc (.cells #[.int .i64 a, .int .i64 b, .int .i64 c, .int .i64 d, .int .i64 x, .int .i64 y] 126)).alloc (.cells #[.int .i64 a', .int .i64 b', .int .i64 c', .int .i64 d', .int .i64 x', .int .i64 y'] 37)) := (Below.alloc (Below.alloc (Below.refl _ _) (by first | with_reducible exact Nat.le_refl _ | (simp <;> omega)) _) (by first | with_reducible exact Nat.le_refl _ | (simp <;> omega)) _)
  go_enter Tryz.func217, Tryz.ntmps217
  have M0lt := M0.1
  have N0lt := N0.1
  go_wp2_with fail
  go_region_held3 (fun W => (W.cell? ⟨w.heap.size, 0, none⟩ = some (.int .i64 a) ∧ W.cell? ⟨w.heap.size, 1, none⟩ = some (.int .i64 b) ∧ W.cell? ⟨w.heap.size, 2, none⟩ = some (.int .i64 c) ∧ W.cell? ⟨w.heap.size, 3, none⟩ = some (.int .i64 d) ∧ W.cell? ⟨w.heap.size, 4, none⟩ = some (.int .i64 x) ∧ W.cell? ⟨w.heap.size, 5, none⟩ = some (.int .i64 y)) ∧ (W.cell? ⟨w.heap.size + 1, 0, none⟩ = some (.int .i64 a') ∧ W.cell? ⟨w.heap.size + 1, 1, none⟩ = some (.int .i64 b') ∧ W.cell? ⟨w.heap.size + 1, 2, none⟩ = some (.int .i64 c') ∧ W.cell? ⟨w.heap.size + 1, 3, none⟩ = some (.int .i64 d') ∧ W.cell? ⟨w.heap.size + 1, 4, none⟩ = some (.int .i64 x') ∧ W.cell? ⟨w.heap.size + 1, 5, none⟩ = some (.int .i64 y'))) ((refine ⟨Km.cells ?_, Km.cells ?_⟩ <;> repeat (first | with_reducible assumption | with_reducible refine Km.drew ?_ | with_reducible refine Km.alloc ?_ _ | with_reducible refine Km.call ?_ (by with_reducible assumption) | ((with_reducible refine Km.put ?_ ?_); (first | omega | (dsimp only; omega))) | ((with_reducible refine Km.far ?_ ?_); (first | omega | (dsimp only; omega))))))
    (first
      | (go_at_call 108; ((with_reducible refine (asMo_any _ _ _ _ _ _ _).mono ?_); rintro e w1 ⟨rfl, hb1⟩; have M1 : Km (w.heap.size) a b c d x y w1 := (by repeat (first | with_reducible assumption | with_reducible refine Km.drew ?_ | with_reducible refine Km.alloc ?_ _ | with_reducible refine Km.call ?_ (by with_reducible assumption))); have N1 : Km (w.heap.size + 1) a' b' c' d' x' y' w1 := (by repeat (first | with_reducible assumption | with_reducible refine Km.drew ?_ | with_reducible refine Km.alloc ?_ _ | with_reducible refine Km.call ?_ (by with_reducible assumption))); have M1l := M1.1; have N1l := N1.1; have B1 : Below w.heap.size w w1 := (by repeat (first | with_reducible assumption | with_reducible refine Below.drew ?_ | with_reducible refine Below.alloc ?_ (by first | omega | (have := B0.size; simp <;> omega)) _ | with_reducible refine bstep ?_ (by with_reducible assumption))))))
  all_goals
    go_wp2
    go_ret
    refine ⟨ret_bool EA.out, ?_⟩
    repeat (first | with_reducible assumption | with_reducible exact Below.refl _ _ | with_reducible refine Below.setCell ?_ (by first | omega | (simp <;> omega)) _ | with_reducible refine Below.alloc ?_ (by first | omega | (simp <;> omega)) _ | with_reducible refine bstep ?_ (by with_reducible assumption) | with_reducible refine Below.drew ?_)

set_option maxRecDepth 100000 in
set_option maxHeartbeats 8000000 in
theorem equalFunc_any {lo hi base : Nat} {v v' : Value} {xs ys : List M6} {w : World} (h1 : w.ownsRow base 126 6 v xs.length (cells6 xs)) (hx : xs.length ≤ 768) (h0 : 0 < xs.length) (h2 : SRow lo hi 6 v' ys.length (fm ys) w) (hy : ys.length ≤ 1048576) :
    Calls Tryz.prog 218 #[v, v', .func (.func 217) #[] #[]] w fun e w' => e = .returned (.bool (decide (xs = ys))) ∧ Below w.heap.size w w' := by
  obtain ⟨g, cap, rfl, hO⟩ := KOw.of h1 h0
  obtain ⟨ga, capa, rfl⟩ : ∃ ga capa, v' = .slice ga ys.length capa := by
    rcases h2.2.2 with ⟨hz, ao, cap', rfl⟩ | ⟨g', cap', rfl, _⟩
    · exact ⟨ao, cap', by rw [hz]⟩
    · exact ⟨_, cap', rfl⟩
  have HX := Lib.hid (show xs.length ≤ 768 ∧ 0 < xs.length ∧ ys.length ≤ 1048576 from ⟨hx, h0, hy⟩)
  by_cases hl : xs.length = ys.length
  · have h2' := h2.2.2.resolve_left (fun h => by omega)
    obtain ⟨g', cap', he, _, hg', RA⟩ := h2'
    simp only [Value.slice.injEq] at he
    obtain ⟨rfl, _, rfl⟩ := he
    have hgw := hO.lt
    have hnw : ((xs.length : Int) != (ys.length : Int)) = false := by simp [hl]
    have h2s := h2.1
    have HR := Lib.hid (show KOw g base cap 126 xs w ∧ IRow g' (ys.length * 6) (fm ys) w ∧ g' < w.heap.size from ⟨hO, RA, by omega⟩)
    clear h1 h2 hO RA hx h0 hy hgw hg' h2s
    have HE := Lib.hid hl
    clear hl
    go_enter Tryz.func218, Tryz.ntmps218
    go_wp2_with fail
    go_loopw [17] (fun s17 W => ∃ k : Nat, s17 = .int .i64 (k : Int) ∧ k ≤ xs.length ∧ xs.take k = ys.take k ∧ Below w.heap.size w W) (fun s17 _ => xs.length - (intOf s17).toNat)
    case atStart => exact ⟨0, rfl, by omega, by simp, Below.refl _ _⟩
    case round =>
      obtain ⟨k, rfl, hk, hT, hB⟩ := hrel
      by_cases hk1 : k < xs.length
      · have hk2 : (k : Int) < (xs.length : Int) := by omega
        have hky : k < ys.length := by have := HE.out; omega
        have hk4 : (k : Int) < (ys.length : Int) := by omega
        have hk3 : (k : Int) ≤ 768 := by have := HX.out; omega
        have q1 := (SRow.of6 HR.out.1 (by have := HX.out; omega)).2.2.resolve_left (fun h => by omega)
        obtain ⟨g9, c9, e9, _, hg9, r9⟩ := q1
        simp only [Value.slice.injEq, Option.some.injEq, Addr.mk.injEq, and_true, true_and] at e9
        obtain ⟨rfl, e10⟩ := e9
        clear e10
        have p1 := (r9.grow hB hg9).mo k hk1
        have p2 := (HR.out.2.1.grow hB HR.out.2.2).mo k hky
        have HT1 := Lib.hid (fun (h : xs[k] = ys[k]) => (show xs.take (k + 1) = ys.take (k + 1) by rw [List.take_succ_eq_append_getElem hk1, List.take_succ_eq_append_getElem hky, hT, h]))
        have HT2 := Lib.hid (fun (h : ¬ xs[k] = ys[k]) => (show decide (xs = ys) = false from decide_eq_false (fun e => h (by subst e; rfl))))
        have HK := Lib.hid hk1
        clear r9 hT hk
        generalize xs[k] = m at p1 HT1 HT2
        generalize ys[k] = n at p2 HT1 HT2
        clear hk1 hky
        have CL := Lib.hid (fun W => listed_any m n W)
        obtain ⟨a, b, c, d, x, y⟩ := m
        obtain ⟨a', b', c', d', x', y'⟩ := n
        dsimp only at p1 p2 CL
        obtain ⟨p10, p11, p12, p13, p14, p15, p16⟩ := id p1
        obtain ⟨p20, p21, p22, p23, p24, p25, p26⟩ := id p2
        have zB := hB.size
        have X1 : Km wr.heap.size a b c d x y ((wr.alloc (.cells #[.int .i64 a, .int .i64 b, .int .i64 c, .int .i64 d, .int .i64 x, .int .i64 y] 126)).alloc (.cells #[.int .i64 a', .int .i64 b', .int .i64 c', .int .i64 d', .int .i64 x', .int .i64 y'] 37)) := (Km.at _ rfl).alloc _
        have X2 : Km (wr.heap.size + 1) a' b' c' d' x' y' ((wr.alloc (.cells #[.int .i64 a, .int .i64 b, .int .i64 c, .int .i64 d, .int .i64 x, .int .i64 y] 126)).alloc (.cells #[.int .i64 a', .int .i64 b', .int .i64 c', .int .i64 d', .int .i64 x', .int .i64 y'] 37)) := Km.at _ (by simp)
        have B3 : Below w.heap.size w ((wr.alloc (.cells #[.int .i64 a, .int .i64 b, .int .i64 c, .int .i64 d, .int .i64 x, .int .i64 y] 126)).alloc (.cells #[.int .i64 a', .int .i64 b', .int .i64 c', .int .i64 d', .int .i64 x', .int .i64 y'] 37)) := (hB.alloc zB _).alloc (by simp; omega) _
        have X1c := X1.cells
        have X2c := X2.cells
        rcases hd : decide (((a, b, c, d, x, y) : M6) = (a', b', c', d', x', y')) with _ | _
        · have HF := Lib.hid (HT2.out (of_decide_eq_false hd))
          rw [hd] at CL
          clear HT1 HT2 hd p1 p2
          go_wp2_with fail
          refine (CL.out _).mono ?_
          rintro e w5 ⟨rfl, hb5⟩
          have B5 := bstep B3 hb5
          clear hb5 B3 X1 X2 X1c X2c CL
          go_wp2
          go_ret
          exact ⟨ret_bool HF.out.symm, B5⟩
        · have HF := Lib.hid (HT1.out (of_decide_eq_true hd))
          rw [hd] at CL
          clear HT1 HT2 hd p1 p2
          go_wp2_with fail
          refine (CL.out _).mono ?_
          rintro e w5 ⟨rfl, hb5⟩
          have B5 := bstep B3 hb5
          clear hb5 B3 X1 X2 X1c X2c CL p10 p11 p12 p13 p14 p15 p16 p20 p21 p22 p23 p24 p25 p26
          go_wp2
          go_roundw
          case rel => exact ⟨k + 1, by go_num, by have := HK.out; omega, HF.out, B5⟩
          case measure => (have := HK.out); first | (simp [intOf]; done) | (simp [intOf]; omega)
      · obtain rfl : k = xs.length := by omega
        have HF := Lib.hid (show decide (xs = ys) = true from decide_eq_true (by rw [List.take_length, HE.out, List.take_length] at hT; exact hT))
        clear hT
        go_wp2
        go_ret
        exact ⟨ret_bool HF.out.symm, hB⟩
  · have hnw : ((xs.length : Int) != (ys.length : Int)) = true := by simp; omega
    have HF := Lib.hid (show decide (xs = ys) = false from decide_eq_false (fun e => hl (by rw [e])))
    clear h1 h2 hO hl
    go_enter Tryz.func218, Tryz.ntmps218
    go_wp2
    go_ret
    exact ⟨ret_bool HF.out.symm, Below.refl _ _⟩

def GrpPost (f A B C : Int) (xs : List M6) (w : World) (e : Ending) (w' : World) : Prop :=
  ∃ v : Value, e = .returned (.tuple #[v, .int .i64 (cod6 f A B C (grpB f A B C xs))]) ∧ (grpB f A B C xs = true → w'.ownsRow w.heap.size 126 6 v xs.length (cells6 xs)) ∧ (grpB f A B C xs = false → v = .slice none 0 0) ∧ Below w.heap.size w w'
set_option maxRecDepth 100000 in
set_option maxHeartbeats 8000000 in
theorem groupOf_any {lo hi : Nat} {v : Value} {xs : List M6} {w : World} (f A B C : Int) (h : SRow lo hi 6 v xs.length (fm xs) w) (hn : xs.length ≤ 1048576) (hU : UnitOK w) :
    Calls Tryz.prog 123 #[.int .i64 f, .agg #[.int .i64 A, .int .i64 B, .int .i64 C], v] w (GrpPost f A B C xs w) := by
  have HN := Lib.hid hn
  have L0 : Kt w.heap.size A B C (w.alloc (.cells #[.int .i64 A, .int .i64 B, .int .i64 C] 25)) := Kt.at _ rfl
  have B0 : Below w.heap.size w (w.alloc (.cells #[.int .i64 A, .int .i64 B, .int .i64 C] 25)) := (Below.refl _ _).alloc (Nat.le_refl _) _
  have A0 : SRow lo hi 6 v xs.length (fm xs) (w.alloc (.cells #[.int .i64 A, .int .i64 B, .int .i64 C] 25)) := h.grow ((Below.refl w.heap.size w).alloc (Nat.le_refl _) _) h.1
  have L0c := L0.cells
  rcases hF : flB f A B C with _ | _
  · have HG := Lib.hid (grp_fl (L := xs) hF)
    have HE := Lib.hid (show cod6 f A B C (grpB f A B C xs) = 1 by simp [cod6, hF])
    have HC := Lib.hid (show cod6 f A B C (allOk f A B C xs) = 1 by simp [cod6, hF])
    have HV := Lib.hid (show (flB f A B C && allOk f A B C xs) = false by simp [hF])
    clear hn
    go_enter Tryz.func123, Tryz.ntmps123
    go_wp2_with fail
    refine (redMs_any f A B C A0 HN.out).mono ?_
    rintro e w1 ⟨v1, he, hv, _, hb1⟩
    rw [HC.out] at he
    have hv1 : v1 = .slice none 0 0 := by simpa [HV.out] using hv
    subst hv1 he
    have B1 := bstep B0 hb1
    clear hv hb1 B0 A0 L0 L0c h
    go_wp2
    go_ret2
    exact ⟨_, ret_pair (by rfl) HE.out.symm, fun hh => (by rw [HG.out] at hh; cases hh), fun _ => rfl, B1⟩
  rcases hK : allOk f A B C xs with _ | _
  · have HG := Lib.hid (all_not hK)
    have HE := Lib.hid (show cod6 f A B C (grpB f A B C xs) = 2 by simp [cod6, hF, HG.out])
    have HC := Lib.hid (show cod6 f A B C (allOk f A B C xs) = 2 by simp [cod6, hF, hK])
    have HV := Lib.hid (show (flB f A B C && allOk f A B C xs) = false by simp [hK])
    clear hn
    go_enter Tryz.func123, Tryz.ntmps123
    go_wp2_with fail
    refine (redMs_any f A B C A0 HN.out).mono ?_
    rintro e w1 ⟨v1, he, hv, _, hb1⟩
    rw [HC.out] at he
    have hv1 : v1 = .slice none 0 0 := by simpa [HV.out] using hv
    subst hv1 he
    have B1 := bstep B0 hb1
    clear hv hb1 B0 A0 L0 L0c h
    go_wp2
    go_ret2
    exact ⟨_, ret_pair (by rfl) HE.out.symm, fun hh => (by rw [HG.out] at hh; cases hh), fun _ => rfl, B1⟩
  obtain ⟨hf, hl⟩ := flB_parts hF
  have HFr := Lib.hid hf
  have HL := Lib.hid hl
  have HR := Lib.hid (all_good hK)
  have HK := Lib.hid (show flB f A B C = true ∧ allOk f A B C xs = true from ⟨hF, hK⟩)
  have HC := Lib.hid (show cod6 f A B C (allOk f A B C xs) = 0 by simp [cod6, hF, hK])
  have HQ := Lib.hid (show ∀ L', IsClos A B C (xs.map (redM A B C)) L' → grpB f A B C xs = decide (L' = xs) from fun L' hL' => grp_eq hF (fun m hm => by unfold allOk at hK; rw [List.all_eq_true] at hK; exact hK m hm) hL')
  have HU := Lib.hid hU
  have HA := Lib.hid (show SRow lo hi 6 v xs.length (fm xs) w from h)
  clear hf hl hF hK hn hU h
  go_enter Tryz.func123, Tryz.ntmps123
  go_wp2_with fail
  refine (redMs_any f A B C A0 HN.out).mono ?_
  rintro e w1 ⟨v1, he, _, hr, hb1⟩
  rw [HC.out] at he
  subst he
  have O1 := hr HK.out.1 HK.out.2
  have L1 := L0.call hb1
  have B1 := bstep B0 hb1
  have U1 : UnitOK w1 := Kq.call HU.out B1
  clear hr hb1 B0 A0 L0 L0c
  have hml : (xs.map (redM A B C)).length = xs.length := List.length_map ..
  rw [← hml] at O1
  have S1 := SRow.big6 O1 (by rw [hml]; exact HN.out)
  have L1c := L1.cells
  have hml2 : (xs.map (redM A B C)).length ≤ 1048576 := by rw [hml]; exact HN.out
  clear hml O1
  go_wp2_with fail
  refine (closure_any f A B C HFr.out HL.out HR.out S1 hml2 U1).mono ?_
  rintro e w2 ⟨v2, L2, rfl, hC2, hr2, hb2⟩
  have B2 := bstep B1 hb2
  have hA2 := HA.out.grow B2 HA.out.1
  have h768 := clos_len HFr.out HL.out HR.out hC2
  have hpos := clos_pos hC2
  have HD := Lib.hid (HQ.out L2 hC2)
  have z1 := B1.size
  clear S1 U1 L1 L1c B1 hb2 hml2 hC2
  go_wp2_with fail
  refine (equalFunc_any hr2 h768 hpos hA2 HN.out).mono ?_
  rintro e w3 ⟨rfl, hb3⟩
  have hr3 := ownsRow_call hr2 hb3
  have B3 := bstep B2 hb3
  clear hr2 hA2 h768 hpos B2 hb3
  rcases hd : decide (L2 = xs) with _ | _
  · have HG := Lib.hid (HD.out.trans hd)
    have HE := Lib.hid (show cod6 f A B C (grpB f A B C xs) = 2 by simp [cod6, HK.out.1, HG.out])
    clear hd hr3
    go_wp2
    go_ret2
    exact ⟨_, ret_pair (by rfl) HE.out.symm, fun hh => (by rw [HG.out] at hh; cases hh), fun _ => rfl, B3⟩
  · have HG := Lib.hid (HD.out.trans hd)
    have HE := Lib.hid (show cod6 f A B C (grpB f A B C xs) = 0 by simp [cod6, HK.out.1, HG.out])
    have hr4 : w3.ownsRow w.heap.size 126 6 v2 xs.length (cells6 xs) := by
      have e := of_decide_eq_true hd
      have h5 := ownsRow_lower hr3 z1
      rw [e] at h5
      exact h5
    clear hd hr3
    go_wp2
    go_ret2
    exact ⟨_, ret_pair (by rfl) HE.out.symm, fun _ => hr4, fun hh => (by rw [HG.out] at hh; cases hh), B3⟩

end
end Go.Proofs.YtkfeajjpbmbmpaaGreatDoor

namespace Go.Proofs.YtkfeajjpbmbmpaaGreatDoor
section
open Go.RowKit
set_option linter.unusedSimpArgs false
set_option linter.unusedVariables false

theorem Ko6.grown {g o : Nat} {a b c d x y : Int} {W w1 : World} {row : Option Nat} (h : Ko6 g o a b c d x y W) (hg : W.grownBy w1 row) (hne : some g ≠ row) : Ko6 g o a b c d x y w1 :=
  ⟨Nat.lt_of_lt_of_le h.1 hg.size, hg.cell h.2.1 hne, hg.cell h.2.2.1 hne, hg.cell h.2.2.2.1 hne, hg.cell h.2.2.2.2.1 hne, hg.cell h.2.2.2.2.2.1 hne, hg.cell h.2.2.2.2.2.2 hne⟩
theorem srow_shape {lo hi K n : Nat} {v : Value} {F : Nat → Int} {W : World} (h : SRow lo hi K v n F W) : ∃ ao cap, v = .slice ao n cap := by
  rcases h.2.2 with ⟨rfl, ao, cap, rfl⟩ | ⟨g, cap, rfl, _⟩
  · exact ⟨ao, cap, rfl⟩
  · exact ⟨_, cap, rfl⟩
def LAns (K : Nat) (n : Nat) (F : Nat → Int) (c : Int) (w : World) (e : Ending) (w' : World) : Prop :=
  ∃ v : Value, e = .returned (.tuple #[v, .int .i64 c]) ∧ SRow w.heap.size w'.heap.size K v n F w' ∧ Below w.heap.size w w'
theorem LAns.nil {K : Nat} {F : Nat → Int} {c c' : Int} {w w' : World} (hc : c' = c) (hb : Below w.heap.size w w') : LAns K 0 F c w (.returned (.tuple #[.slice none 0 0, .int .i64 c'])) w' :=
  ⟨_, by rw [hc], ⟨Nat.le_refl _, Nat.zero_le _, .inl ⟨rfl, none, 0, rfl⟩⟩, hb⟩
end
end Go.Proofs.YtkfeajjpbmbmpaaGreatDoor

