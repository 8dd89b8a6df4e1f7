/-
  The program's iterator over the point matrices of a frame (a range over a function), and LatticeMats by it. Conditions: the frame and the lattice are valid.
-/
import Derived.RangeFuncNested
import Derived.RangeFuncBound
import Derived.RangeFuncCalls
import Derived.RangeFuncLeaves
import Derived.RangeFuncBox
import Derived.Shelf.Abstract
import Derived.Shelf.RegionOpen
import Derived.WalkKit
import Derived.OwnWalkIn
import Derived.TacticsInMore
import Derived.LoopNIn
import Derived.LoopIn
import Derived.Maps.AppendAt
import Derived.Test.YtapfjmmlogcmkaaFrM
import Derived.Test.YtapfjmmlogcmkaaMapL
namespace Go.Proofs.Ytapfjmmlogcmkaa
open Go.RowKit Go.Shelf
attribute [local go_sem] Oper.semAt_some
set_option linter.unusedSimpArgs false
set_option linter.unusedVariables false

def KeepP (Bn : Nat) (W W' : World) : Prop := W'.heap[Bn]? = W.heap[Bn]?
abbrev KM (f : Int) := {m : M4 // keepM f m = true}
theorem keepsFrom_below {W W' : World} (B : Nat) (hb : Below W.heap.size W W') : KeepsFrom B W W' :=
  ⟨hb.size, fun k o _ hk _ => (hb.block k (Array.getElem?_eq_some_iff.1 hk).1).trans hk⟩
theorem operIn_append_own {F : Fence} {n : Nat} {P : Program} (w : World) {o : Oper} {a : Act} {K : Act → World → Prop} {Q : Exit → Act → World → Prop}
    (s x : Operand) (t : TypeId) (hop : o.op = Op.call { callee := Callee.builtin Builtin.append, args := #[s, x], argTypes := #[t, t] })
    (base : Nat) (e : TypeId) (i : TypeInfo) (z : Value) (size bytes : Nat) (h1 : P.underlying t = some (.slice e)) (h2 : P.info? e = some i) (h3 : i.zero = some z) (h4 : i.size = size) (h5 : i.bytes = bytes) (h6 : z.cells.size = size) (h7 : 0 < size)
    (v : Value) (k : Nat) (xs : List Value) (hs : a.eval s = v) (hown : w.ownsRow base e size v k xs) (ad : Addr) (m c : Nat) (news : List Value) (hx : a.eval x = .slice (some ad) m c) (hn : news.length = m * size)
    (hc : ∀ j u, news[j]? = some u → w.cell? (ad.add j) = some u) (h1c : ∀ u ∈ news, u.oneCell' = true) (b1 : k + m ≤ maxLen) (b2 : (k + m) * bytes ≤ 140737488355328) (b3 : base ≤ w.heap.size)
    (hK : ∀ v' w', w'.ownsRow base e size v' (k + m) (xs ++ news) → w.grownBy w' v.ownBlock → (v' = .slice none 0 0 ↔ v = .slice none 0 0 ∧ m = 0) → K (a.put o.dst v') w') :
    Oper.wpIn F n P o a w K Q := by
  obtain ⟨v', w', hrun, r1, r2, r3⟩ := run_append_own (P := P) w base t o.type e i z size bytes h1 h2 h3 h4 h5 h6 h7 v k xs hown ad m c news hn hc h1c b1 b2 b3
  unfold Oper.wpIn
  refine ⟨?_, ?_⟩
  · simp [Oper.about, hop, resolve, Target.leads, Sem.run_pure]
  · rw [Oper.semAt_plain F _ _ (by rw [hop]; intro c hc'; cases hc')]
    simp [execOp, hop, resolve, invoke, builtin, hs, hx, hrun, Result.andThen, Oper.uponIn]
    exact hK v' w' r1 r2 r3
theorem below_grown {W W' : World} (hb : Below W.heap.size W W') : W.grownBy W' none := ⟨hb.os, hb.tape, hb.output, hb.size, fun k hk _ => hb.block k hk⟩
theorem abides_below {β : Type} {B : Nat} {J : β → World → Prop} (h : AbidesFrom B J) {s : β} {W W' : World} (hJ : J s W) (hb : Below W.heap.size W W') : J s W' := h s W W' none hJ (below_grown hb) (fun r e => by cases e)
set_option maxRecDepth 100000 in
set_option maxHeartbeats 4000000 in
theorem pm_in (F : Fence) (n : Nat) (h5 : F.fn 46) (hro : F.round = none) (f : Int) (w : World) :
    CallsIn F n Try.prog 46 #[.iface (planeT f) (.agg #[])] w fun e w' => e = .returned (.func (.func 79) #[] #[.pointer (some ⟨w.heap.size, 0, none⟩)]) ∧ w' = w.alloc (.cells #[.iface (planeT f) (.agg #[])] 60) := by
  refine callsIn_of_wp Try.func46 rfl h5 ?_ hro
  simp only [Try.ntmps46, List.size_toArray, List.length_cons, List.length_nil, Nat.reduceAdd, Nat.reduceSub, Array.replicate_succ, Array.replicate_zero, List.push_toArray, List.append_toArray, List.nil_append, List.cons_append]
  gi_wp2
  go_ret
  exact ⟨rfl, rfl⟩
set_option maxRecDepth 100000 in
set_option maxHeartbeats 8000000 in
theorem pm1_in (n : Nat) (hn : 1 ≤ n) (l Bn : Nat) (f : Int) (hf : frB f = true) (J Jx : List (KM f) → World → Prop) (W : World) (hBn : Bn < W.heap.size) (hJA : AbidesFrom W.heap.size J)
    (hY : ∀ pre x W, J pre W → pre.length < 81 → YieldAt Fence.wide (n - 1) Try.prog l #[.agg #[.int .i64 x.1.1, .int .i64 x.1.2.1, .int .i64 x.1.2.2.1, .int .i64 x.1.2.2.2]] W fun e W' =>
      (e = .returned (.bool true) ∧ J (pre ++ [x]) W' ∧ (KeepP Bn W W' ∧ W.heap.size ≤ W'.heap.size)) ∨ (e = .returned (.bool false) ∧ Jx (pre ++ [x]) W'))
    (hA : W.cell? ⟨Bn, 0, none⟩ = some (.iface (planeT f) (.agg #[]))) (h0 : J [] W) :
    CallsIn Fence.wide n Try.prog 79 #[.func (.yield l) #[] #[], .pointer (some ⟨Bn, 0, none⟩)] W fun e W' => (∃ v, e = .returned v) ∧
      ((∃ ys, ys.map Subtype.val = matsL f ∧ J ys W') ∨ (∃ pre, True ∧ Jx pre W')) := by
  refine callsIn_of_wp Try.func79 rfl trivial ?_ rfl
  simp only [Try.ntmps79, List.size_toArray, List.length_cons, List.length_nil, Nat.reduceAdd, Nat.reduceSub, Array.replicate_succ, Array.replicate_zero, List.push_toArray, List.append_toArray, List.nil_append, List.cons_append]
  gi_wp2
  gi_loopw [5] (fun i wr => ∃ k : Nat, i = .int .i64 (k : Int) ∧ k ≤ 81 ∧ (∃ ys : List (KM f), ys.map Subtype.val = matsP f k ∧ J ys wr) ∧ KeepP Bn W wr ∧ W.heap.size ≤ wr.heap.size) (fun i _ => 81 - (intOf i).toNat)
  case atStart => exact ⟨0, rfl, by omega, ⟨[], rfl, h0⟩, rfl, Nat.le_refl _⟩
  case round =>
    obtain ⟨k, rfl, hk, ⟨ys, hys, hJ⟩, hB, hz⟩ := hrel
    have HY := Lib.hid hys
    clear hys
    by_cases hk1 : k < 81
    · have hk2 : (k : Int) < 81 := by omega
      have hk3 : 0 ≤ (k : Int) := by omega
      have hC1 : wr.cell? ⟨Bn, 0, none⟩ = some (.iface (planeT f) (.agg #[])) := (World.cell?_of_block (w := W) (w' := wr) (a := ⟨Bn, 0, none⟩) hB).trans hA
      have HC : ∀ n W, CallsIn Fence.wide n Try.prog 66 #[.iface (planeT f) (.agg #[]), .agg #[.int .i64 ((k : Int) / 27 - 1), .int .i64 ((k : Int) / 9 % 3 - 1), .int .i64 ((k : Int) / 3 % 3 - 1), .int .i64 ((k : Int) % 3 - 1)]] W fun e w' => e = .returned (.bool (keepM f (decM k))) ∧ Below W.heap.size W w' := fun n W => callsIn_wide.2 (keeps_any f _ _ _ _ W hf (decM_lim hk1))
      have HK := Lib.hid hk1
      have HL := Lib.hid (matsP_len f k)
      have HS := Lib.hid (matsP_succ f k)
      clear hk hk1
      have hlt : Bn < wr.heap.size := by omega
      have ne1 : ¬ Bn = wr.heap.size := by omega
      have ne2 : ¬ wr.heap.size = Bn := by omega
      have B1 : Below wr.heap.size wr (wr.alloc (.cells #[.int .i64 ((k : Int) / 27 - 1), .int .i64 ((k : Int) / 9 % 3 - 1), .int .i64 ((k : Int) / 3 % 3 - 1), .int .i64 ((k : Int) % 3 - 1)] 80)) := (Below.refl _ _).alloc (Nat.le_refl _) _
      have C2 : (wr.alloc (.cells #[.int .i64 ((k : Int) / 27 - 1), .int .i64 ((k : Int) / 9 % 3 - 1), .int .i64 ((k : Int) / 3 % 3 - 1), .int .i64 ((k : Int) % 3 - 1)] 80)).cell? ⟨Bn, 0, none⟩ = some (.iface (planeT f) (.agg #[])) := (B1.cell (p := ⟨Bn, 0, none⟩) hlt).trans hC1
      have V1 : Kq wr.heap.size ((k : Int) / 27 - 1) ((k : Int) / 9 % 3 - 1) ((k : Int) / 3 % 3 - 1) ((k : Int) % 3 - 1) (wr.alloc (.cells #[.int .i64 ((k : Int) / 27 - 1), .int .i64 ((k : Int) / 9 % 3 - 1), .int .i64 ((k : Int) / 3 % 3 - 1), .int .i64 ((k : Int) % 3 - 1)] 80)) := Kq.at _ rfl
      have J1 := abides_below hJA hJ B1
      have P1 : KeepP Bn W (wr.alloc (.cells #[.int .i64 ((k : Int) / 27 - 1), .int .i64 ((k : Int) / 9 % 3 - 1), .int .i64 ((k : Int) / 3 % 3 - 1), .int .i64 ((k : Int) % 3 - 1)] 80)) := (B1.block Bn hlt).trans hB
      have z1 : W.heap.size ≤ (wr.alloc (.cells #[.int .i64 ((k : Int) / 27 - 1), .int .i64 ((k : Int) / 9 % 3 - 1), .int .i64 ((k : Int) / 3 % 3 - 1), .int .i64 ((k : Int) % 3 - 1)] 80)).heap.size := Nat.le_trans hz B1.size
      rcases hN : keepM f (decM k) with _ | _
      · rw [hN] at HC
        gi_wp2_with fail
        refine ⟨trivial, ?_⟩
        refine (HC _ _).mono ?_
        rintro e w1 ⟨rfl, hb1⟩
        have J2 := abides_below hJA J1 hb1
        have P2 : KeepP Bn W w1 := (hb1.block Bn (by simp; omega)).trans P1
        have z2 : W.heap.size ≤ w1.heap.size := Nat.le_trans z1 hb1.size
        have J3 : ∃ ys : List (KM f), ys.map Subtype.val = matsP f (k + 1) ∧ J ys w1 := ⟨ys, by rw [HY.out, HS.out, hN]; simp, J2⟩
        clear J1 J2 P1 z1 V1 B1 C2 hb1 hJ hB hC1 HC
        gi_wp2
        refine ⟨fun _ h => (by cases h), ?_⟩
        gi_wp2
        have hk1 := HK.out
        go_roundw
        case rel => exact ⟨k + 1, by go_num, by omega, J3, P2, z2⟩
        case measure => first | (simp [intOf]; done) | (simp [intOf]; omega)
      · rw [hN] at HC
        gi_wp2_with fail
        refine ⟨trivial, ?_⟩
        refine (HC _ _).mono ?_
        rintro e w1 ⟨rfl, hb1⟩
        have J2 := abides_below hJA J1 hb1
        have P2 : KeepP Bn W w1 := (hb1.block Bn (by simp; omega)).trans P1
        have z2 : W.heap.size ≤ w1.heap.size := Nat.le_trans z1 hb1.size
        have V2 := V1.call hb1
        obtain ⟨v0, v1, v2, v3, v4⟩ := id V2
        have hlen : ys.length < 81 := by have h1 := HL.out; have h2 := HK.out; rw [← HY.out, List.length_map] at h1; omega
        obtain ⟨fn, tmps, assign, body, hy, hR⟩ := hY _ ⟨decM k, hN⟩ _ J2 hlen
        dsimp only [decM] at hy
        clear J1 J2 P1 z1 V1 V2 B1 C2 hb1 hJ hB hC1 HC hlen
        gi_wp2
        refine hR.mono ?_
        rintro e W3 (⟨rfl, hJ3, hk3, hz3⟩ | ⟨rfl, hJx3⟩)
        · have J4 : ∃ ys : List (KM f), ys.map Subtype.val = matsP f (k + 1) ∧ J ys W3 := ⟨ys ++ [⟨decM k, hN⟩], by rw [List.map_append, HY.out, HS.out, hN]; simp, hJ3⟩
          gi_wp2
          have hk1 := HK.out
          go_roundw
          case rel => exact ⟨k + 1, by go_num, by omega, J4, Eq.trans hk3 P2, Nat.le_trans z2 hz3⟩
          case measure => first | (simp [intOf]; done) | (simp [intOf]; omega)
        · gi_wp2
          refine bodyPost_ret (results_none rfl _ _ _) rfl ?_
          exact ⟨⟨_, rfl⟩, .inr ⟨_, trivial, hJx3⟩⟩
    · obtain rfl : k = 81 := by omega
      gi_wp2
      go_end0
      exact ⟨⟨_, rfl⟩, .inl ⟨_, HY.out, hJ⟩⟩
theorem pm_stops (n : Nat) (hn : 1 ≤ n) (Bn : Nat) (f : Int) (hf : frB f = true) (w : World) (hBn : Bn < w.heap.size) (hA : w.cell? ⟨Bn, 0, none⟩ = some (.iface (planeT f) (.agg #[]))) :
    SeqStopsK Fence.wide n Try.prog 79 #[.pointer (some ⟨Bn, 0, none⟩)] (fun x : KM f => #[.agg #[.int .i64 x.1.1, .int .i64 x.1.2.1, .int .i64 x.1.2.2.1, .int .i64 x.1.2.2.2]]) (fun W W' => KeepP Bn W W' ∧ W.heap.size ≤ W'.heap.size) (fun ys => ys.map Subtype.val = matsL f) (fun _ => True) 81 w := fun l J Jx W hW hJA _ hY h0 =>
  pm1_in n hn l Bn f hf J Jx W (Nat.lt_of_lt_of_le hBn hW.size) hJA hY ((hW.cell (p := ⟨Bn, 0, none⟩) hBn).trans hA) h0
theorem keepP_b {Bn : Nat} {w : World} (hn : Bn < w.heap.size) (W : World) (l : Nat) (o o' : Obj) (hl : w.heap.size ≤ l) (h : W.heap[l]? = some o) (_ : o.isCells = false) (_ : o.isWalk = false) : KeepP Bn W (W.putObj l o') ∧ W.heap.size ≤ (W.putObj l o').heap.size :=
  ⟨World.putObj_heap_other (by omega), by simp⟩
theorem at_own4 {β : Type} (B : Nat) (o : Obj) (ho : o.isCells = true) : Own (fun (_ : β) W => W.heap[B]? = some o) := fun s X Y row hs hg hrow =>
  (hg.block B (Array.getElem?_eq_some_iff.1 hs).1 (fun e => by obtain ⟨o', h1, h2⟩ := hrow B e.symm; rw [hs] at h1; cases h1; rw [ho] at h2; cases h2)).trans hs
/- the matrices that keep a lattice -/
def stabB (A B C : Int) (m : M4) : Bool := eqT (mapI A B C m.1 m.2.1 m.2.2.1 m.2.2.2).1 (mapI A B C m.1 m.2.1 m.2.2.1 m.2.2.2).2.1 (mapI A B C m.1 m.2.1 m.2.2.1 m.2.2.2).2.2 A B C
def stabL (f A B C : Int) : List M4 := (matsL f).filter (stabB A B C)
def stabK {f : Int} (A B C : Int) (pre : List (KM f)) : List M4 := (pre.map Subtype.val).filter (stabB A B C)
theorem stabK_snoc {f : Int} (A B C : Int) (pre : List (KM f)) (x : KM f) : stabK A B C (pre ++ [x]) = stabK A B C pre ++ (if stabB A B C x.1 = true then [x.1] else []) := by
  unfold stabK
  rw [List.map_append, List.filter_append]
  congr 1
  rcases h : stabB A B C x.1 with _ | _ <;> simp [h]
theorem stabK_len {f : Int} (A B C : Int) (pre : List (KM f)) : (stabK A B C pre).length ≤ pre.length := by
  unfold stabK
  refine Nat.le_trans (List.length_filter_le _ _) ?_
  simp
theorem boxed_call {W w1 : World} {B : Nat} {t : TypeId} {v : Value} (h : Boxed W B t v) (hb : Below W.heap.size W w1) : Boxed w1 B t v := (hb.block B h.lt).trans h
def StabPost (f A B C : Int) (w : World) (e : Ending) (w' : World) : Prop :=
  ∃ v : Value, e = .returned (.tuple #[v, .int .i64 0]) ∧ w'.ownsRow w.heap.size 44 4 v (stabL f A B C).length (cells4 (stabL f A B C)) ∧ Below w.heap.size w w'
set_option maxRecDepth 100000 in
set_option maxHeartbeats 4000000 in
theorem implStab_good (f A B C : Int) (w : World) (hf : frB f = true) (h : latB A B C = true) :
    Calls Try.prog 11 #[.int .i64 f, .agg #[.int .i64 A, .int .i64 B, .int .i64 C]] w (StabPost f A B C w) := by
  have H := Lib.hid h
  have HI := Lib.hid (latB_iff.1 h)
  clear h
  obtain ⟨i0, hi0, hz0, hz1, hz2⟩ := info_parts infoMat
  refine (callsIn_wide (n := 3)).1 ?_
  refine callsIn_of_wp_marks Try.func11 rfl trivial ?_ rfl
  simp only [Try.ntmps11, List.size_toArray, List.length_cons, List.length_nil, Nat.reduceAdd, Nat.reduceSub, Array.replicate_succ, Array.replicate_zero, List.push_toArray, List.append_toArray, List.nil_append, List.cons_append]
  gi_wp2_with (first
    | (refine ⟨trivial, ?_⟩; gi_at_call 32; refine (callsIn_wide.2 (planeOf_yes _ _ hf)).mono ?_; rintro e w1 ⟨rfl, hb1⟩; have K1 : Kt w.heap.size A B C w1 := Kt.call (Kt.at _ rfl) hb1; have B1 : Below w.heap.size w w1 := bstep ((Below.refl _ _).alloc (Nat.le_refl _) _) hb1; obtain ⟨k10, k11, k12, k13⟩ := id K1)
    | (refine ⟨trivial, ?_⟩; gi_at_call 33; refine (callsIn_wide.2 (isValidL_any _ _ _ _)).mono ?_; rintro e w2 ⟨rfl, hb2⟩; rw [H.out]; have K2 := K1.call hb2; have B2 := bstep B1 hb2; obtain ⟨k20, k21, k22, k23⟩ := id K2)
    | (refine ⟨trivial, ?_⟩; gi_at_call 46; refine (pm_in Fence.wide _ trivial rfl _ _).mono ?_; rintro e w4 ⟨rfl, rfl⟩))
  have L0 : (w.alloc (.cells #[.int .i64 A, .int .i64 B, .int .i64 C] 25)).heap[w.heap.size]? = some (.cells #[.int .i64 A, .int .i64 B, .int .i64 C] 25 (0, 0)) := World.alloc_heap_new w _
  have L1 : w1.heap[w.heap.size]? = some (.cells #[.int .i64 A, .int .i64 B, .int .i64 C] 25 (0, 0)) := (hb1.block w.heap.size (by simp)).trans L0
  have L2 : w2.heap[w.heap.size]? = some (.cells #[.int .i64 A, .int .i64 B, .int .i64 C] 25 (0, 0)) := (hb2.block w.heap.size K1.1).trans L1
  have z2 := B2.size
  have lt2 := K2.1
  clear hb1 k10 k11 k12 k13 K1 B1 hb2 k20 k21 k22 k23 L0 L1 K2
  obtain ⟨W0, hW0⟩ : ∃ W0, (w2.alloc (.cells #[.slice none 0 0] 35)).alloc (.cells #[.iface (planeT f) (.agg #[])] 60) = W0 := ⟨_, rfl⟩
  have hsz : W0.heap.size = w2.heap.size + 2 := by rw [← hW0]; simp
  have bL : Boxed W0 w2.heap.size 35 (.slice none 0 0) := by rw [← hW0]; exact (Boxed.new w2 _ _).alloc _
  have bP : W0.heap[w2.heap.size + 1]? = some (.cells #[.iface (planeT f) (.agg #[])] 60 (0, 0)) := by rw [← hW0]; simpa using World.alloc_heap_new (w2.alloc (.cells #[.slice none 0 0] 35)) (.cells #[.iface (planeT f) (.agg #[])] 60)
  have bA : W0.heap[w.heap.size]? = some (.cells #[.int .i64 A, .int .i64 B, .int .i64 C] 25 (0, 0)) := by rw [← hW0]; exact (Below.heap_alloc _ _ _ (by simp; omega)).trans ((Below.heap_alloc _ _ _ lt2).trans L2)
  have B0 : Below w.heap.size w W0 := by rw [← hW0]; exact (B2.alloc B2.size _).alloc (by have := B2.size; simp; omega) _
  have cA : W0.cell? ⟨w2.heap.size + 1, 0, none⟩ = some (.iface (planeT f) (.agg #[])) := by simp [World.cell?, bP]
  rw [hW0]
  clear hW0 B2 L2
  have hz := B0.size
  refine wpIn_rangeFunc_ownH rfl (by omega) (gf := 79) (lb := #[.pointer (some ⟨w2.heap.size + 1, 0, none⟩)]) rfl trivial (enters_of Try.func79 (by kernel_rfl) rfl)
    (pm_stops (3 - 1) (by omega) (w2.heap.size + 1) f hf W0 (by omega) cA) (fun h k => ⟨Eq.trans k.1 h.1, Nat.le_trans h.2 k.2⟩) (keepP_b (by omega)) (Below.refl _ _) (fun _ => rfl)
    (fun pre W => (((∃ v, Boxed W w2.heap.size 35 v ∧ W.ownsRow (w.heap.size + 1) 44 4 v (stabK A B C pre).length (cells4 (stabK A B C pre)) ∧ True) ∧ W.heap[w2.heap.size + 1]? = some (.cells #[.iface (planeT f) (.agg #[])] 60 (0, 0))) ∧ W.heap[w.heap.size]? = some (.cells #[.int .i64 A, .int .i64 B, .int .i64 C] 25 (0, 0))) ∧ Below w.heap.size w W)
    (fun _ _ _ => False)
    (OwnFrom.and (OwnFrom.and (OwnFrom.and (Own.from (holdsRow_own (w.heap.size + 1) w2.heap.size 35 44 4 (fun pre => (stabK A B C pre).length) (fun pre => cells4 (stabK A B C pre)) (fun _ _ => True)) _) (Own.from (at_own4 _ _ rfl) _)) (Own.from (at_own4 _ _ rfl) _)) (ownFrom_below (Nat.le_refl _) hz))
    (fun _ _ _ _ _ hs _ _ => hs)
    ⟨⟨⟨⟨_, bL, World.ownsRow_nil _ _ _ _, trivial⟩, bP⟩, bA⟩, B0⟩
    (fun x a' W => ∃ Bx, w2.heap.size + 1 < Bx ∧ W.heap[Bx]? = some (.cells #[.int .i64 x.1.1, .int .i64 x.1.2.1, .int .i64 x.1.2.2.1, .int .i64 x.1.2.2.2] 80 (0, 0)) ∧ a' = { tmps := #[.int .i64 f, .agg #[.int .i64 A, .int .i64 B, .int .i64 C], undef, .pointer (some ⟨w.heap.size, 0, none⟩), .slice none 0 0, .int .i64 0, .iface (planeT f) (.agg #[]), .bool true, .pointer (some ⟨w2.heap.size, 0, none⟩), .pointer (some ⟨Bx, 0, none⟩), .tuple #[.iface (planeT f) (.agg #[]), .bool true], .int .i64 f, .tuple #[.iface (planeT f) (.agg #[]), .bool true], .iface (planeT f) (.agg #[]), .bool true, .bool true, .bool false, .bool false, .agg #[.int .i64 A, .int .i64 B, .int .i64 C], .bool true, .bool false, .bool false, .iface (planeT f) (.agg #[]), .func (.func 79) #[] #[.pointer (some ⟨w2.heap.size + 1, 0, none⟩)], .agg #[.int .i64 x.1.1, .int .i64 x.1.2.1, .int .i64 x.1.2.2.1, .int .i64 x.1.2.2.2], undef, undef, undef, undef, undef, undef, undef, undef, undef, undef, undef], defers := [] })
    (fun x a' _ X Y row hs hg hr => by obtain ⟨Bx, h1, h2, h3⟩ := hs; exact ⟨Bx, h1, at_own4 Bx _ rfl () X Y row h2 hg (fun r e => (hr r e).2), h3⟩)
    ?assign ?body ?done ?stop
  case assign =>
    rintro l pre x W K ⟨⟨⟨⟨v, hv, hrow, _⟩, hR⟩, hA⟩, hB1⟩ hK
    gi_wp2
    have hlt := (Array.getElem?_eq_some_iff.1 hR).1
    have hltA := (Array.getElem?_eq_some_iff.1 hA).1
    have hKB : KeepP (w2.heap.size + 1) W (W.alloc (.cells #[.int .i64 x.1.1, .int .i64 x.1.2.1, .int .i64 x.1.2.2.1, .int .i64 x.1.2.2.2] 80)) ∧ W.heap.size ≤ (W.alloc (.cells #[.int .i64 x.1.1, .int .i64 x.1.2.1, .int .i64 x.1.2.2.1, .int .i64 x.1.2.2.2] 80)).heap.size := ⟨Below.heap_alloc W _ _ hlt, by simp⟩
    exact hK _ _ ((KeepsOthers.alloc _ _).from _) hKB ⟨⟨⟨⟨v, hv.alloc _, hrow.alloc _, trivial⟩, hKB.1.trans hR⟩, (Below.heap_alloc W _ _ hltA).trans hA⟩, hB1.alloc hB1.size _⟩ ⟨W.heap.size, hlt, World.alloc_heap_new W _, rfl⟩
  case body =>
    rintro l pre x a' W hl ⟨r, hr⟩ ⟨⟨⟨⟨v, hv, hrow, _⟩, hR⟩, hA⟩, hB1⟩ ⟨Bx, hBx, bX, rfl⟩ hlt
    have hc := hv.cell
    have KA : Kt w.heap.size A B C W := ⟨(Array.getElem?_eq_some_iff.1 hA).1, by simp [World.cell?, hA], by simp [World.cell?, hA], by simp [World.cell?, hA]⟩
    obtain ⟨⟨a, b, c, d⟩, hkp⟩ := x
    dsimp only at bX
    have KX : Kq Bx a b c d W := ⟨(Array.getElem?_eq_some_iff.1 bX).1, by simp [World.cell?, bX], by simp [World.cell?, bX], by simp [World.cell?, bX], by simp [World.cell?, bX]⟩
    have HKB := Lib.hid (show keepB f a b c d = true from hkp)
    obtain ⟨x0, x1, x2, x3, x4⟩ := id KX
    obtain ⟨a0, a1, a2, a3⟩ := id KA
    -- BODY
    have hfn1 : Fence.wide.fn 47 := trivial
    have hfn2 : Fence.wide.fn 48 := trivial
    have hfo : Try.prog.follows Departure.mixedOrders = true := by kernel_rfl
    have HM := Lib.hid (fun W => mapped_any f A B C a b c d W hf HI.out HKB.out)
    have HSB := Lib.hid (show stabB A B C (a, b, c, d) = eqT (mapI A B C a b c d).1 (mapI A B C a b c d).2.1 (mapI A B C a b c d).2.2 A B C from rfl)
    have HSN := Lib.hid (stabK_snoc A B C pre ⟨(a, b, c, d), hkp⟩)
    have HLN := Lib.hid (Nat.lt_of_le_of_lt (stabK_len A B C pre) hlt)
    have ltR := (Array.getElem?_eq_some_iff.1 hR).1
    have ltA := (Array.getElem?_eq_some_iff.1 hA).1
    have ltX := KX.1
    generalize (mapI A B C a b c d).1 = t1 at HM HSB
    generalize (mapI A B C a b c d).2.1 = t2 at HM HSB
    generalize (mapI A B C a b c d).2.2 = t3 at HM HSB
    clear hr hlt hl
    rcases e1 : (t1 == A) with _ | _
    · have hst : stabB A B C (a, b, c, d) = false := by rw [HSB.out]; simp [eqT, *]
      gi_wp2_with fail
      gi_region_with_o (gi_at_call 47; refine (CallsIn.inRound l (callsIn_wide.2 (HM.out _))).mono ?_; rintro e w5 ⟨rfl, hb5⟩; have KA5 := KA.drew.call hb5; obtain ⟨b0, b1, b2, b3⟩ := id KA5; have HB5 : Below W.heap.size W w5 := bstep (Below.refl _ _).drew hb5)
      all_goals
        gi_wp2
        refine ⟨keepsFrom_below _ HB5, ⟨HB5.block _ ltR, HB5.size⟩, ⟨⟨⟨⟨v, boxed_call hv HB5, ?_, trivial⟩, (HB5.block _ ltR).trans hR⟩, (HB5.block _ ltA).trans hA⟩, hB1.trans (HB5.mono hB1.size)⟩⟩
        rw [HSN.out, hst]
        simpa using ownsRow_call hrow HB5
    rcases e2 : (t2 == B) with _ | _
    · have hst : stabB A B C (a, b, c, d) = false := by rw [HSB.out]; simp [eqT, *]
      gi_wp2_with fail
      gi_region_with_o (gi_at_call 47; refine (CallsIn.inRound l (callsIn_wide.2 (HM.out _))).mono ?_; rintro e w5 ⟨rfl, hb5⟩; have KA5 := KA.drew.call hb5; obtain ⟨b0, b1, b2, b3⟩ := id KA5; have HB5 : Below W.heap.size W w5 := bstep (Below.refl _ _).drew hb5)
      all_goals
        gi_wp2
        refine ⟨keepsFrom_below _ HB5, ⟨HB5.block _ ltR, HB5.size⟩, ⟨⟨⟨⟨v, boxed_call hv HB5, ?_, trivial⟩, (HB5.block _ ltR).trans hR⟩, (HB5.block _ ltA).trans hA⟩, hB1.trans (HB5.mono hB1.size)⟩⟩
        rw [HSN.out, hst]
        simpa using ownsRow_call hrow HB5
    rcases e3 : (t3 == C) with _ | _
    · have hst : stabB A B C (a, b, c, d) = false := by rw [HSB.out]; simp [eqT, *]
      gi_wp2_with fail
      gi_region_with_o (gi_at_call 47; refine (CallsIn.inRound l (callsIn_wide.2 (HM.out _))).mono ?_; rintro e w5 ⟨rfl, hb5⟩; have KA5 := KA.drew.call hb5; obtain ⟨b0, b1, b2, b3⟩ := id KA5; have HB5 : Below W.heap.size W w5 := bstep (Below.refl _ _).drew hb5)
      all_goals
        gi_wp2
        refine ⟨keepsFrom_below _ HB5, ⟨HB5.block _ ltR, HB5.size⟩, ⟨⟨⟨⟨v, boxed_call hv HB5, ?_, trivial⟩, (HB5.block _ ltR).trans hR⟩, (HB5.block _ ltA).trans hA⟩, hB1.trans (HB5.mono hB1.size)⟩⟩
        rw [HSN.out, hst]
        simpa using ownsRow_call hrow HB5
    have hst : stabB A B C (a, b, c, d) = true := by rw [HSB.out]; simp only [eqT, e1, e2, e3]; rfl
    gi_wp2_with fail
    gi_region_with_o (gi_at_call 47; refine (CallsIn.inRound l (callsIn_wide.2 (HM.out _))).mono ?_; rintro e w5 ⟨rfl, hb5⟩; have KA5 := KA.drew.call hb5; obtain ⟨b0, b1, b2, b3⟩ := id KA5; have HB5 : Below W.heap.size W w5 := bstep (Below.refl _ _).drew hb5)
    all_goals
      have hv5 := boxed_call hv HB5
      have hrow5 := ownsRow_call hrow HB5
      have KX5 := KX.drew.call hb5
      have B5 : Below w.heap.size w w5 := hB1.trans (HB5.mono hB1.size)
      have hc5 := hv5.cell
      have hR5 := (HB5.block _ ltR).trans hR
      have hA5 := (HB5.block _ ltA).trans hA
      have HB5' := Lib.hid HB5
      obtain ⟨y0, y1, y2, y3, y4⟩ := id KX5
      clear hb5 KA5 b0 b1 b2 b3 HB5 x0 x1 x2 x3 x4 a0 a1 a2 a3 hc
      gi_wp2_with fail
      refine wpIn_region_any (by kernel_rfl) ?_
      try (change wpAnyIn _ _ _ _ _ _ _ _ _ (World.drew _))
      refine wpAnyIn_ready (rs := [0, 1]) (by kernel_rfl) (by simp) ?_
      refine AllReadyIn.cons rfl (fun K hK => ?_) ?_
      · skip
        go_simp
        refine hK _ _ ?_
        clear hK K
        refine wpAnyIn_ready (rs := [1]) (by kernel_rfl) (by simp) ?_
        refine AllReadyIn.cons rfl (fun K hK => ?_) ?_
        · skip
          go_simp
          refine hK _ _ ?_
          clear hK K
          refine wpAnyIn_ready (rs := [2]) (by kernel_rfl) (by simp) ?_
          refine AllReadyIn.cons rfl (fun K hK => ?_) ?_
          · skip
            go_simp
            refine (CallsIn.inRound l (callsIn_wide.2 (mat_any _ _ _ _ _))).mono ?_
            rintro e w6 ⟨rfl, hb6⟩
            have HB6 : Below w5.heap.size w5 w6 := bstep (Below.refl _ _).drew hb6
            have hv6 := boxed_call hv5 HB6
            have hrow6 := ownsRow_call hrow5 HB6
            have hc6 := hv6.cell
            have hcA : (w6.alloc (.cells #[.int .i64 a, .int .i64 b, .int .i64 c, .int .i64 d] 44)).cell? ⟨w2.heap.size, 0, none⟩ = some v := (hv6.alloc _).cell
            have ne6 : ¬ w2.heap.size = w6.heap.size := by have := hv6.lt; omega
            have ne6' : ¬ w6.heap.size = w2.heap.size := by have := hv6.lt; omega
            have B6 : Below w.heap.size w w6 := B5.trans (HB6.mono B5.size)
            refine hK _ _ ?_
            clear hK K
            refine wpAnyIn_ready (rs := [3]) (by kernel_rfl) (by simp) ?_
            refine AllReadyIn.cons rfl (fun K hK => ?_) ?_
            · skip
              go_simp
              refine hK _ _ ?_
              clear hK K
              refine wpAnyIn_ready (rs := [4]) (by kernel_rfl) (by simp) ?_
              refine AllReadyIn.cons rfl (fun K hK => ?_) ?_
              · skip
                rw [if_pos (by kernel_rfl)]
                refine operIn_append_own _ _ _ 35 rfl (w.heap.size + 1) 44 i0 (.agg #[.int .i64 0, .int .i64 0, .int .i64 0, .int .i64 0]) 4 32 Try.underlying35 hi0 hz0 hz1 hz2 rfl (by decide) _ _ _ rfl (hrow6.alloc _) ⟨w6.heap.size, 0, none⟩ 1 1 [.int .i64 a, .int .i64 b, .int .i64 c, .int .i64 d] rfl rfl (new_four _ _ _ _ _ rfl) one_four (by have := HLN.out; unfold maxLen; omega) (by have := HLN.out; omega) (by have := B6.size; have := hv6.lt; simp; omega) ?_
                intro v' w7 hown' hgrow _
                obtain ⟨g', cap', rfl⟩ := ownsRow_succ hown'
                obtain ⟨hv1, hv2, hr2, hk2, hb2⟩ := hv6.appended (by decide) hrow6 (by have := hv6.lt; omega) (by omega) hown' hgrow
                have hc1 := hv1.cell
                have hf1 := hv1.frozen
                refine hK _ _ ?_
                clear hK K
                refine wpAnyIn_ready (rs := [5]) (by kernel_rfl) (by simp) ?_
                refine AllReadyIn.cons rfl (fun K hK => ?_) ?_
                · skip
                  go_simp
                  refine hK _ _ ?_
                  clear hK K
                  refine wpAnyIn_done (by kernel_rfl) ?_ _
                  gi_wp2
                  have hne : some (w2.heap.size + 1) ≠ v.ownBlock := by
                    rcases hrow6.2 with ⟨rfl, _⟩ | ⟨g, cap, cur, rfl, _, hgb, _⟩
                    · simp [Value.ownBlock]
                    · intro e'
                      obtain rfl : w2.heap.size + 1 = g := by simpa [Value.ownBlock] using e'
                      rw [(HB6.block _ (Array.getElem?_eq_some_iff.1 hR5).1).trans hR5] at hgb
                      simp at hgb
                  have hR6 := (HB6.block _ (Array.getElem?_eq_some_iff.1 hR5).1).trans hR5
                  have hA6 := (HB6.block _ (Array.getElem?_eq_some_iff.1 hA5).1).trans hA5
                  have ltR6 := (Array.getElem?_eq_some_iff.1 hR6).1
                  have hgR := (hgrow.block _ (by simp; omega) hne).trans (Below.heap_alloc w6 _ _ ltR6)
                  have hfR := (Below.heap_setCell w7 ⟨w2.heap.size, 0, none⟩ (.slice (some ⟨g', 0, none⟩) ((stabK A B C pre).length + 1) cap') (w2.heap.size + 1) (by simp)).trans hgR
                  have HB := HB5'.out
                  have hRW : (w7.setCell ⟨w2.heap.size, 0, none⟩ (.slice (some ⟨g', 0, none⟩) ((stabK A B C pre).length + 1) cap')).heap[w2.heap.size + 1]? = W.heap[w2.heap.size + 1]? := hfR.trans ((HB6.block _ (Array.getElem?_eq_some_iff.1 hR5).1).trans (HB.block _ ltR))
                  refine ⟨(keepsFrom_below _ HB).trans ((keepsFrom_below _ HB6).trans (hk2.from _)), ⟨hRW, ?_⟩, ⟨⟨⟨⟨_, hv2, ?_, trivial⟩, hRW.trans hR⟩, (hb2.block w.heap.size (by omega)).trans hA6⟩, B6.trans (hb2.mono (by omega))⟩⟩
                  · exact Nat.le_trans HB.size (Nat.le_trans HB6.size hb2.size)
                  · rw [HSN.out, hst, if_pos rfl, cells4_snoc]
                    simpa using hr2
                exact AllReadyIn.nil
              exact AllReadyIn.nil
            exact AllReadyIn.nil
          exact AllReadyIn.nil
        exact AllReadyIn.nil
      refine AllReadyIn.cons rfl (fun K hK => ?_) ?_
      · skip
        go_simp
        refine hK _ _ ?_
        clear hK K
        refine wpAnyIn_ready (rs := [0, 2]) (by kernel_rfl) (by simp) ?_
        refine AllReadyIn.cons rfl (fun K hK => ?_) ?_
        · skip
          go_simp
          refine hK _ _ ?_
          clear hK K
          refine wpAnyIn_ready (rs := [2]) (by kernel_rfl) (by simp) ?_
          refine AllReadyIn.cons rfl (fun K hK => ?_) ?_
          · skip
            go_simp
            refine (CallsIn.inRound l (callsIn_wide.2 (mat_any _ _ _ _ _))).mono ?_
            rintro e w6 ⟨rfl, hb6⟩
            have HB6 : Below w5.heap.size w5 w6 := bstep (Below.refl _ _).drew hb6
            have hv6 := boxed_call hv5 HB6
            have hrow6 := ownsRow_call hrow5 HB6
            have hc6 := hv6.cell
            have hcA : (w6.alloc (.cells #[.int .i64 a, .int .i64 b, .int .i64 c, .int .i64 d] 44)).cell? ⟨w2.heap.size, 0, none⟩ = some v := (hv6.alloc _).cell
            have ne6 : ¬ w2.heap.size = w6.heap.size := by have := hv6.lt; omega
            have ne6' : ¬ w6.heap.size = w2.heap.size := by have := hv6.lt; omega
            have B6 : Below w.heap.size w w6 := B5.trans (HB6.mono B5.size)
            refine hK _ _ ?_
            clear hK K
            refine wpAnyIn_ready (rs := [3]) (by kernel_rfl) (by simp) ?_
            refine AllReadyIn.cons rfl (fun K hK => ?_) ?_
            · skip
              go_simp
              refine hK _ _ ?_
              clear hK K
              refine wpAnyIn_ready (rs := [4]) (by kernel_rfl) (by simp) ?_
              refine AllReadyIn.cons rfl (fun K hK => ?_) ?_
              · skip
                rw [if_pos (by kernel_rfl)]
                refine operIn_append_own _ _ _ 35 rfl (w.heap.size + 1) 44 i0 (.agg #[.int .i64 0, .int .i64 0, .int .i64 0, .int .i64 0]) 4 32 Try.underlying35 hi0 hz0 hz1 hz2 rfl (by decide) _ _ _ rfl (hrow6.alloc _) ⟨w6.heap.size, 0, none⟩ 1 1 [.int .i64 a, .int .i64 b, .int .i64 c, .int .i64 d] rfl rfl (new_four _ _ _ _ _ rfl) one_four (by have := HLN.out; unfold maxLen; omega) (by have := HLN.out; omega) (by have := B6.size; have := hv6.lt; simp; omega) ?_
                intro v' w7 hown' hgrow _
                obtain ⟨g', cap', rfl⟩ := ownsRow_succ hown'
                obtain ⟨hv1, hv2, hr2, hk2, hb2⟩ := hv6.appended (by decide) hrow6 (by have := hv6.lt; omega) (by omega) hown' hgrow
                have hc1 := hv1.cell
                have hf1 := hv1.frozen
                refine hK _ _ ?_
                clear hK K
                refine wpAnyIn_ready (rs := [5]) (by kernel_rfl) (by simp) ?_
                refine AllReadyIn.cons rfl (fun K hK => ?_) ?_
                · skip
                  go_simp
                  refine hK _ _ ?_
                  clear hK K
                  refine wpAnyIn_done (by kernel_rfl) ?_ _
                  gi_wp2
                  have hne : some (w2.heap.size + 1) ≠ v.ownBlock := by
                    rcases hrow6.2 with ⟨rfl, _⟩ | ⟨g, cap, cur, rfl, _, hgb, _⟩
                    · simp [Value.ownBlock]
                    · intro e'
                      obtain rfl : w2.heap.size + 1 = g := by simpa [Value.ownBlock] using e'
                      rw [(HB6.block _ (Array.getElem?_eq_some_iff.1 hR5).1).trans hR5] at hgb
                      simp at hgb
                  have hR6 := (HB6.block _ (Array.getElem?_eq_some_iff.1 hR5).1).trans hR5
                  have hA6 := (HB6.block _ (Array.getElem?_eq_some_iff.1 hA5).1).trans hA5
                  have ltR6 := (Array.getElem?_eq_some_iff.1 hR6).1
                  have hgR := (hgrow.block _ (by simp; omega) hne).trans (Below.heap_alloc w6 _ _ ltR6)
                  have hfR := (Below.heap_setCell w7 ⟨w2.heap.size, 0, none⟩ (.slice (some ⟨g', 0, none⟩) ((stabK A B C pre).length + 1) cap') (w2.heap.size + 1) (by simp)).trans hgR
                  have HB := HB5'.out
                  have hRW : (w7.setCell ⟨w2.heap.size, 0, none⟩ (.slice (some ⟨g', 0, none⟩) ((stabK A B C pre).length + 1) cap')).heap[w2.heap.size + 1]? = W.heap[w2.heap.size + 1]? := hfR.trans ((HB6.block _ (Array.getElem?_eq_some_iff.1 hR5).1).trans (HB.block _ ltR))
                  refine ⟨(keepsFrom_below _ HB).trans ((keepsFrom_below _ HB6).trans (hk2.from _)), ⟨hRW, ?_⟩, ⟨⟨⟨⟨_, hv2, ?_, trivial⟩, hRW.trans hR⟩, (hb2.block w.heap.size (by omega)).trans hA6⟩, B6.trans (hb2.mono (by omega))⟩⟩
                  · exact Nat.le_trans HB.size (Nat.le_trans HB6.size hb2.size)
                  · rw [HSN.out, hst, if_pos rfl, cells4_snoc]
                    simpa using hr2
                exact AllReadyIn.nil
              exact AllReadyIn.nil
            exact AllReadyIn.nil
          exact AllReadyIn.nil
        refine AllReadyIn.cons rfl (fun K hK => ?_) ?_
        · skip
          go_simp
          refine (CallsIn.inRound l (callsIn_wide.2 (mat_any _ _ _ _ _))).mono ?_
          rintro e w6 ⟨rfl, hb6⟩
          have HB6 : Below w5.heap.size w5 w6 := bstep (Below.refl _ _).drew hb6
          have hv6 := boxed_call hv5 HB6
          have hrow6 := ownsRow_call hrow5 HB6
          have hc6 := hv6.cell
          have hcA : (w6.alloc (.cells #[.int .i64 a, .int .i64 b, .int .i64 c, .int .i64 d] 44)).cell? ⟨w2.heap.size, 0, none⟩ = some v := (hv6.alloc _).cell
          have ne6 : ¬ w2.heap.size = w6.heap.size := by have := hv6.lt; omega
          have ne6' : ¬ w6.heap.size = w2.heap.size := by have := hv6.lt; omega
          have B6 : Below w.heap.size w w6 := B5.trans (HB6.mono B5.size)
          refine hK _ _ ?_
          clear hK K
          refine wpAnyIn_ready (rs := [0, 3]) (by kernel_rfl) (by simp) ?_
          refine AllReadyIn.cons rfl (fun K hK => ?_) ?_
          · skip
            go_simp
            refine hK _ _ ?_
            clear hK K
            refine wpAnyIn_ready (rs := [3]) (by kernel_rfl) (by simp) ?_
            refine AllReadyIn.cons rfl (fun K hK => ?_) ?_
            · skip
              go_simp
              refine hK _ _ ?_
              clear hK K
              refine wpAnyIn_ready (rs := [4]) (by kernel_rfl) (by simp) ?_
              refine AllReadyIn.cons rfl (fun K hK => ?_) ?_
              · skip
                rw [if_pos (by kernel_rfl)]
                refine operIn_append_own _ _ _ 35 rfl (w.heap.size + 1) 44 i0 (.agg #[.int .i64 0, .int .i64 0, .int .i64 0, .int .i64 0]) 4 32 Try.underlying35 hi0 hz0 hz1 hz2 rfl (by decide) _ _ _ rfl (hrow6.alloc _) ⟨w6.heap.size, 0, none⟩ 1 1 [.int .i64 a, .int .i64 b, .int .i64 c, .int .i64 d] rfl rfl (new_four _ _ _ _ _ rfl) one_four (by have := HLN.out; unfold maxLen; omega) (by have := HLN.out; omega) (by have := B6.size; have := hv6.lt; simp; omega) ?_
                intro v' w7 hown' hgrow _
                obtain ⟨g', cap', rfl⟩ := ownsRow_succ hown'
                obtain ⟨hv1, hv2, hr2, hk2, hb2⟩ := hv6.appended (by decide) hrow6 (by have := hv6.lt; omega) (by omega) hown' hgrow
                have hc1 := hv1.cell
                have hf1 := hv1.frozen
                refine hK _ _ ?_
                clear hK K
                refine wpAnyIn_ready (rs := [5]) (by kernel_rfl) (by simp) ?_
                refine AllReadyIn.cons rfl (fun K hK => ?_) ?_
                · skip
                  go_simp
                  refine hK _ _ ?_
                  clear hK K
                  refine wpAnyIn_done (by kernel_rfl) ?_ _
                  gi_wp2
                  have hne : some (w2.heap.size + 1) ≠ v.ownBlock := by
                    rcases hrow6.2 with ⟨rfl, _⟩ | ⟨g, cap, cur, rfl, _, hgb, _⟩
                    · simp [Value.ownBlock]
                    · intro e'
                      obtain rfl : w2.heap.size + 1 = g := by simpa [Value.ownBlock] using e'
                      rw [(HB6.block _ (Array.getElem?_eq_some_iff.1 hR5).1).trans hR5] at hgb
                      simp at hgb
                  have hR6 := (HB6.block _ (Array.getElem?_eq_some_iff.1 hR5).1).trans hR5
                  have hA6 := (HB6.block _ (Array.getElem?_eq_some_iff.1 hA5).1).trans hA5
                  have ltR6 := (Array.getElem?_eq_some_iff.1 hR6).1
                  have hgR := (hgrow.block _ (by simp; omega) hne).trans (Below.heap_alloc w6 _ _ ltR6)
                  have hfR := (Below.heap_setCell w7 ⟨w2.heap.size, 0, none⟩ (.slice (some ⟨g', 0, none⟩) ((stabK A B C pre).length + 1) cap') (w2.heap.size + 1) (by simp)).trans hgR
                  have HB := HB5'.out
                  have hRW : (w7.setCell ⟨w2.heap.size, 0, none⟩ (.slice (some ⟨g', 0, none⟩) ((stabK A B C pre).length + 1) cap')).heap[w2.heap.size + 1]? = W.heap[w2.heap.size + 1]? := hfR.trans ((HB6.block _ (Array.getElem?_eq_some_iff.1 hR5).1).trans (HB.block _ ltR))
                  refine ⟨(keepsFrom_below _ HB).trans ((keepsFrom_below _ HB6).trans (hk2.from _)), ⟨hRW, ?_⟩, ⟨⟨⟨⟨_, hv2, ?_, trivial⟩, hRW.trans hR⟩, (hb2.block w.heap.size (by omega)).trans hA6⟩, B6.trans (hb2.mono (by omega))⟩⟩
                  · exact Nat.le_trans HB.size (Nat.le_trans HB6.size hb2.size)
                  · rw [HSN.out, hst, if_pos rfl, cells4_snoc]
                    simpa using hr2
                exact AllReadyIn.nil
              exact AllReadyIn.nil
            exact AllReadyIn.nil
          refine AllReadyIn.cons rfl (fun K hK => ?_) ?_
          · skip
            go_simp
            refine hK _ _ ?_
            clear hK K
            refine wpAnyIn_ready (rs := [0]) (by kernel_rfl) (by simp) ?_
            refine AllReadyIn.cons rfl (fun K hK => ?_) ?_
            · skip
              go_simp
              refine hK _ _ ?_
              clear hK K
              refine wpAnyIn_ready (rs := [4]) (by kernel_rfl) (by simp) ?_
              refine AllReadyIn.cons rfl (fun K hK => ?_) ?_
              · skip
                rw [if_pos (by kernel_rfl)]
                refine operIn_append_own _ _ _ 35 rfl (w.heap.size + 1) 44 i0 (.agg #[.int .i64 0, .int .i64 0, .int .i64 0, .int .i64 0]) 4 32 Try.underlying35 hi0 hz0 hz1 hz2 rfl (by decide) _ _ _ rfl (hrow6.alloc _) ⟨w6.heap.size, 0, none⟩ 1 1 [.int .i64 a, .int .i64 b, .int .i64 c, .int .i64 d] rfl rfl (new_four _ _ _ _ _ rfl) one_four (by have := HLN.out; unfold maxLen; omega) (by have := HLN.out; omega) (by have := B6.size; have := hv6.lt; simp; omega) ?_
                intro v' w7 hown' hgrow _
                obtain ⟨g', cap', rfl⟩ := ownsRow_succ hown'
                obtain ⟨hv1, hv2, hr2, hk2, hb2⟩ := hv6.appended (by decide) hrow6 (by have := hv6.lt; omega) (by omega) hown' hgrow
                have hc1 := hv1.cell
                have hf1 := hv1.frozen
                refine hK _ _ ?_
                clear hK K
                refine wpAnyIn_ready (rs := [5]) (by kernel_rfl) (by simp) ?_
                refine AllReadyIn.cons rfl (fun K hK => ?_) ?_
                · skip
                  go_simp
                  refine hK _ _ ?_
                  clear hK K
                  refine wpAnyIn_done (by kernel_rfl) ?_ _
                  gi_wp2
                  have hne : some (w2.heap.size + 1) ≠ v.ownBlock := by
                    rcases hrow6.2 with ⟨rfl, _⟩ | ⟨g, cap, cur, rfl, _, hgb, _⟩
                    · simp [Value.ownBlock]
                    · intro e'
                      obtain rfl : w2.heap.size + 1 = g := by simpa [Value.ownBlock] using e'
                      rw [(HB6.block _ (Array.getElem?_eq_some_iff.1 hR5).1).trans hR5] at hgb
                      simp at hgb
                  have hR6 := (HB6.block _ (Array.getElem?_eq_some_iff.1 hR5).1).trans hR5
                  have hA6 := (HB6.block _ (Array.getElem?_eq_some_iff.1 hA5).1).trans hA5
                  have ltR6 := (Array.getElem?_eq_some_iff.1 hR6).1
                  have hgR := (hgrow.block _ (by simp; omega) hne).trans (Below.heap_alloc w6 _ _ ltR6)
                  have hfR := (Below.heap_setCell w7 ⟨w2.heap.size, 0, none⟩ (.slice (some ⟨g', 0, none⟩) ((stabK A B C pre).length + 1) cap') (w2.heap.size + 1) (by simp)).trans hgR
                  have HB := HB5'.out
                  have hRW : (w7.setCell ⟨w2.heap.size, 0, none⟩ (.slice (some ⟨g', 0, none⟩) ((stabK A B C pre).length + 1) cap')).heap[w2.heap.size + 1]? = W.heap[w2.heap.size + 1]? := hfR.trans ((HB6.block _ (Array.getElem?_eq_some_iff.1 hR5).1).trans (HB.block _ ltR))
                  refine ⟨(keepsFrom_below _ HB).trans ((keepsFrom_below _ HB6).trans (hk2.from _)), ⟨hRW, ?_⟩, ⟨⟨⟨⟨_, hv2, ?_, trivial⟩, hRW.trans hR⟩, (hb2.block w.heap.size (by omega)).trans hA6⟩, B6.trans (hb2.mono (by omega))⟩⟩
                  · exact Nat.le_trans HB.size (Nat.le_trans HB6.size hb2.size)
                  · rw [HSN.out, hst, if_pos rfl, cells4_snoc]
                    simpa using hr2
                exact AllReadyIn.nil
              exact AllReadyIn.nil
            exact AllReadyIn.nil
          exact AllReadyIn.nil
        exact AllReadyIn.nil
      exact AllReadyIn.nil
  case done =>
    rintro D zs W hD hzs ⟨⟨⟨⟨v, hv, hrow, _⟩, hR⟩, hA⟩, hB1⟩ hK
    have cS := hv.cell
    have hst : stabK A B C zs = stabL f A B C := by unfold stabK stabL; rw [hzs]
    rw [hst] at hrow
    gi_wp2
    refine ⟨by simp, .inl ⟨_, _, rfl, run_takeDeferred hK, ?_⟩⟩
    exact ⟨_, results_tmp2 rfl _ _ _, v, rfl, ownsRow_lower (ownsRow_putObj hrow _ hK rfl) (by omega), hB1.trans (belowK_b (w := w) (Nat.le_refl _) W D _ _ (by omega) hK rfl rfl)⟩
  case stop =>
    rintro D c pre W _ _ h _
    exact h.elim
end Go.Proofs.Ytapfjmmlogcmkaa
