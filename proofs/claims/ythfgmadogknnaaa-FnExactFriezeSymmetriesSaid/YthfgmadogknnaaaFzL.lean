/-
  Contracts of the laws' helpers on lists of frieze motions: whether two lists hold the same, marks written into a list, and whether they are there still. No condition.
-/
import Derived.Test.YthfgmadogknnaaaFzS
import Derived.Laws.OwnMore
namespace Go.Proofs.Ythfgmadogknnaaa
open Go.RowKit
set_option linter.unusedSimpArgs false
set_option linter.unusedVariables false

def MCel (g k : Nat) (t : Bool × Bool × Int) (W : World) : Prop :=
  W.cell? ⟨g, k * 3, none⟩ = some (.bool t.1) ∧ W.cell? ⟨g, k * 3 + 1, none⟩ = some (.bool t.2.1) ∧ W.cell? ⟨g, k * 3 + 2, none⟩ = some (.int .i64 t.2.2) ∧
    W.frozen? ⟨g, k * 3, none⟩ = false ∧ W.frozen? ⟨g, k * 3 + 1, none⟩ = false ∧ W.frozen? ⟨g, k * 3 + 2, none⟩ = false
/- a list of motions in a block of its own -/
def MRow (lo hi : Nat) (v : Value) (n : Nat) (T : Nat → Bool × Bool × Int) (W : World) : Prop :=
  hi ≤ W.heap.size ∧ n ≤ 1000 ∧ ((n = 0 ∧ ∃ ao cap, v = .slice ao 0 cap) ∨ ∃ g cap, v = .slice (some ⟨g, 0, none⟩) n cap ∧ lo ≤ g ∧ g < hi ∧ ∀ k, k < n → MCel g k (T k) W)
theorem MCel.same {g k : Nat} {t : Bool × Bool × Int} {W w1 : World} (h : MCel g k t W) (hh : w1.heap[g]? = W.heap[g]?) : MCel g k t w1 := by
  obtain ⟨a, b, c, d, e, f⟩ := h
  exact ⟨(World.cell?_of_block (w := W) hh).trans a, (World.cell?_of_block (w := W) hh).trans b, (World.cell?_of_block (w := W) hh).trans c, (World.frozen?_of_block (w := W) hh).trans d, (World.frozen?_of_block (w := W) hh).trans e, (World.frozen?_of_block (w := W) hh).trans f⟩
theorem MRow.call {lo hi n : Nat} {v : Value} {T : Nat → Bool × Bool × Int} {W w1 : World} (h : MRow lo hi v n T W) (hb : Below W.heap.size W w1) : MRow lo hi v n T w1 := by
  obtain ⟨h1, h2, h3⟩ := h
  refine ⟨Nat.le_trans h1 hb.size, h2, h3.imp id ?_⟩
  rintro ⟨g, cap, e, a, b, c⟩
  exact ⟨g, cap, e, a, b, fun k hk => (c k hk).same (hb.block g (by omega))⟩
theorem MRow.keepV {lo hi n : Nat} {u v : Value} {T : Nat → Bool × Bool × Int} {W w1 : World} (h : MRow lo hi v n T W) (hk : KeepV u W w1) (ho : ∀ b, lo ≤ b → b < hi → offB u b) (hs : W.heap.size ≤ w1.heap.size) : MRow lo hi v n T w1 := by
  obtain ⟨h1, h2, h3⟩ := h
  refine ⟨Nat.le_trans h1 hs, h2, h3.imp id ?_⟩
  rintro ⟨g, cap, e, a, b, c⟩
  exact ⟨g, cap, e, a, b, fun k hk' => (c k hk').same (hk g (ho g a b) (by omega))⟩
theorem MRow.off {lo hi n b : Nat} {v : Value} {T : Nat → Bool × Bool × Int} {W : World} (h : MRow lo hi v n T W) (hb : b < lo ∨ hi ≤ b) : offB v b := by
  intro n' cap' e
  rcases h.2.2 with ⟨rfl, ao, cap, rfl⟩ | ⟨g, cap, rfl, h1, h2, _⟩
  · simp only [Value.slice.injEq] at e; exact e.2.1.symm
  · simp only [Value.slice.injEq, Option.some.injEq, Addr.mk.injEq] at e
    omega
theorem MRow.slice {lo hi n : Nat} {v : Value} {T : Nat → Bool × Bool × Int} {W : World} (h : MRow lo hi v n T W) : ∃ ao cap, v = .slice ao n cap := by
  rcases h.2.2 with ⟨rfl, ao, cap, rfl⟩ | ⟨g, cap, rfl, _⟩
  · exact ⟨ao, cap, rfl⟩
  · exact ⟨_, cap, rfl⟩
def fmT (l : List FMo) (k : Nat) : Bool × Bool × Int := match l[k]? with | some m => (m.1, m.2.1, ((m.2.2 : Nat) : Int)) | none => (false, false, 0)
theorem MRow.of {base : Nat} {v : Value} {l : List FMo} {W : World} (h : W.ownsRow base 48 3 v l.length (cellsM l)) (hl : l.length ≤ 1000) : MRow base W.heap.size v l.length (fmT l) W := by
  refine ⟨Nat.le_refl _, hl, ?_⟩
  rcases h.2 with ⟨rfl, h2⟩ | ⟨g, cap, cur, rfl, hb, _⟩
  · exact .inl ⟨h2, none, 0, rfl⟩
  · have hlt := h.lt g rfl
    refine .inr ⟨g, cap, rfl, hb, hlt.2, fun k hk => ?_⟩
    obtain ⟨a, b, c⟩ := cellsM_at hk
    have e : fmT l k = (l[k].1, l[k].2.1, ((l[k].2.2 : Nat) : Int)) := by unfold fmT; rw [List.getElem?_eq_getElem hk]
    rw [e]
    exact ⟨(h.cellAt (k * 3) (by omega)).trans a, (h.cellAt (k * 3 + 1) (by omega)).trans b, (h.cellAt (k * 3 + 2) (by omega)).trans c, h.frozenAt _, h.frozenAt _, h.frozenAt _⟩
theorem MCel.cells {g k : Nat} {x y : Bool} {z : Int} {W : World} (h : MCel g k (x, y, z) W) : W.cell? ⟨g, k * 3, none⟩ = some (.bool x) ∧ W.cell? ⟨g, k * 3 + 1, none⟩ = some (.bool y) ∧ W.cell? ⟨g, k * 3 + 2, none⟩ = some (.int .i64 z) := ⟨h.1, h.2.1, h.2.2.1⟩
theorem MCel.call {g k : Nat} {t : Bool × Bool × Int} {W w1 : World} (h : MCel g k t W) (hb : Below W.heap.size W w1) (hg : g < W.heap.size) : MCel g k t w1 := h.same (hb.block g hg)
/- a cell of a list with its block's bound -/
def MCe2 (g k : Nat) (x y : Bool) (z : Int) (W : World) : Prop := g < W.heap.size ∧ MCel g k (x, y, z) W
theorem MCe2.call {g k : Nat} {x y : Bool} {z : Int} {W w1 : World} (h : MCe2 g k x y z W) (hb : Below W.heap.size W w1) : MCe2 g k x y z w1 := ⟨Nat.lt_of_lt_of_le h.1 hb.size, h.2.call hb h.1⟩
theorem MCe2.drew {g k : Nat} {x y : Bool} {z : Int} {W : World} (h : MCe2 g k x y z W) : MCe2 g k x y z W.drew := h.call (Below.refl _ _).drew
theorem MCe2.cells {g k : Nat} {x y : Bool} {z : Int} {W : World} (h : MCe2 g k x y z W) : W.cell? ⟨g, k * 3, none⟩ = some (.bool x) ∧ W.cell? ⟨g, k * 3 + 1, none⟩ = some (.bool y) ∧ W.cell? ⟨g, k * 3 + 2, none⟩ = some (.int .i64 z) := h.2.cells
def markM (k : Nat) : Bool × Bool × Int := (false, false, ((k * 3 + 3 : Nat) : Int))
set_option maxHeartbeats 4000000 in
theorem eqFm_any (x y : Bool) (z : Int) (w : World) :
    Calls Try.prog 63 #[.agg #[.bool x, .bool y, .int .i64 z], .agg #[.bool x, .bool y, .int .i64 z]] w fun e w' => e = .returned (.bool true) ∧ Below w.heap.size w w' := by
  have hx : (x != x) = false := by simp
  have hy : (y != y) = false := by simp
  have hz : (z != z) = false := by simp
  go_enter Try.func63, Try.ntmps63
  go_wp2
  go_ret
  exact ⟨rfl, ((Below.refl _ _).alloc (Nat.le_refl _) _).alloc (by simp) _⟩
set_option maxRecDepth 100000 in
set_option maxHeartbeats 8000000 in
theorem eqFmS_any {lo hi lo' hi' n : Nat} {v v' : Value} {T : Nat → Bool × Bool × Int} {w : World} (h1 : MRow lo hi v n T w) (h2 : MRow lo' hi' v' n T w) :
    Calls Try.prog 29 #[v, v'] w fun e w' => e = .returned (.bool true) ∧ Below w.heap.size w w' := by
  have R1 := Lib.hid h1
  have R2 := Lib.hid h2
  have hm := h1.2.1
  obtain ⟨ao, cap, rfl⟩ := h1.slice
  obtain ⟨ao', cap', rfl⟩ := h2.slice
  clear h1 h2
  go_enter Try.func29, Try.ntmps29
  go_wp2_with fail
  go_loopw [5] (fun i W => ∃ k : Nat, i = .int .i64 (k : Int) ∧ k ≤ n ∧ Below w.heap.size w W) (fun i _ => n - (intOf i).toNat)
  case atStart => exact ⟨0, rfl, by omega, Below.refl _ _⟩
  case round =>
    obtain ⟨k, rfl, hk, hB⟩ := hrel
    by_cases hk1 : k < n
    · have hk2 : (k : Int) < (n : Int) := by omega
      have hk3 : (k : Int) ≤ 1000 := by omega
      have r1 := R1.out.call hB
      have r2 := R2.out.call hB
      obtain ⟨g, c9, e9, _, hg, hc⟩ := r1.2.2.resolve_left (fun h9 => by omega)
      obtain ⟨g', c8, e8, _, hg', hc'⟩ := r2.2.2.resolve_left (fun h9 => by omega)
      simp only [Value.slice.injEq] at e9 e8
      obtain ⟨rfl, _, rfl⟩ := e9
      obtain ⟨rfl, _, rfl⟩ := e8
      have m1 := hc k hk1
      have m2 := hc' k hk1
      have s1 := r1.1
      have s2 := r2.1
      obtain ⟨⟨x, y, z⟩, ht⟩ : ∃ t, t = T k := ⟨_, rfl⟩
      rw [← ht] at m1 m2
      have C1 : MCe2 g k x y z wr := ⟨by omega, m1⟩
      have C2 : MCe2 g' k x y z wr := ⟨by omega, m2⟩
      have hgl := C1.1
      have hgl2 := C2.1
      clear r1 r2 hc hc' m1 m2 ht
      go_wp2_with fail
      go_region_held3 (fun W => (W.cell? ⟨g, k * 3, none⟩ = some (.bool x) ∧ W.cell? ⟨g, k * 3 + 1, none⟩ = some (.bool y) ∧ W.cell? ⟨g, k * 3 + 2, none⟩ = some (.int .i64 z)) ∧ W.cell? ⟨g', k * 3, none⟩ = some (.bool x) ∧ W.cell? ⟨g', k * 3 + 1, none⟩ = some (.bool y) ∧ W.cell? ⟨g', k * 3 + 2, none⟩ = some (.int .i64 z)) ((refine And.intro (MCe2.cells ?_) (MCe2.cells ?_)) <;> (repeat (first | with_reducible assumption | with_reducible refine MCe2.drew ?_ | with_reducible refine MCe2.call ?_ (by with_reducible assumption))))
        ((go_at_call 63; with_reducible refine (eqFm_any _ _ _ _).mono ?_; rintro e w2 ⟨rfl, hb2⟩; have c2 : Below wr.heap.size wr w2 := bstep (by repeat (first | with_reducible exact Below.refl _ _ | with_reducible refine Below.drew ?_)) hb2))
      all_goals
        go_wp2
        go_roundw
        case rel => exact ⟨k + 1, by go_num, by omega, bstep hB c2⟩
        case measure => first | (simp [intOf]; done) | (simp [intOf]; omega)
    · obtain rfl : k = n := by omega
      go_wp2
      go_ret
      exact ⟨rfl, hB⟩
theorem MCel.put3 {g k : Nat} {t : Bool × Bool × Int} {W : World} (h : MCel g k t W) (a b : Bool) (c : Int) : MCel g k (a, b, c) (((W.setCell ⟨g, k * 3, none⟩ (.bool a)).setCell ⟨g, k * 3 + 1, none⟩ (.bool b)).setCell ⟨g, k * 3 + 2, none⟩ (.int .i64 c)) := by
  obtain ⟨h0, h1, h2, h3, h4, h5⟩ := h
  refine ⟨?_, ?_, ?_, ?_, ?_, ?_⟩ <;> simp [go_sem, *]
theorem MCel.other {g k j : Nat} {t : Bool × Bool × Int} {W : World} (hj : j ≠ k) (h : MCel g k t W) (u0 u1 u2 : Value) : MCel g k t (((W.setCell ⟨g, j * 3, none⟩ u0).setCell ⟨g, j * 3 + 1, none⟩ u1).setCell ⟨g, j * 3 + 2, none⟩ u2) := by
  have ne : ∀ a b, a ≠ b → (⟨g, a, none⟩ : Addr) ≠ ⟨g, b, none⟩ := fun a b hab e => hab (congrArg Addr.off e)
  have key : ∀ (X : World) (a : Nat) (u : Value), (a ≠ k * 3 ∧ a ≠ k * 3 + 1 ∧ a ≠ k * 3 + 2) → MCel g k t X → MCel g k t (X.setCell ⟨g, a, none⟩ u) := fun X a u hab hx => by
    obtain ⟨h0, h1, h2, h3, h4, h5⟩ := hx
    refine ⟨?_, ?_, ?_, ?_, ?_, ?_⟩
    · rw [World.cell?_setCell_other (h := ne _ _ hab.1)]; exact h0
    · rw [World.cell?_setCell_other (h := ne _ _ hab.2.1)]; exact h1
    · rw [World.cell?_setCell_other (h := ne _ _ hab.2.2)]; exact h2
    · rw [World.frozen?_setCell]; exact h3
    · rw [World.frozen?_setCell]; exact h4
    · rw [World.frozen?_setCell]; exact h5
  exact key _ _ _ (by omega) (key _ _ _ (by omega) (key _ _ _ (by omega) h))
set_option maxRecDepth 100000 in
set_option maxHeartbeats 8000000 in
theorem markFmS_any {lo hi n : Nat} {v : Value} {T : Nat → Bool × Bool × Int} {w : World} (h : MRow lo hi v n T w) :
    Calls Try.prog 30 #[v, .int .i64 1] w fun e w' => e = .returned (.int .i64 ((n : Int) * 3 + 1)) ∧ MRow lo hi v n markM w' ∧ Below lo w w' ∧ KeepV v w w' := by
  have hm := h.2.1
  by_cases hn : n = 0
  · subst hn
    obtain ⟨ao, cap, rfl⟩ := h.slice
    have H := Lib.hid h
    clear h
    go_enter Try.func30, Try.ntmps30
    go_wp2_with fail
    go_loopw [1, 5] (fun q i W => q = .int .i64 1 ∧ i = .int .i64 ((0 : Nat) : Int) ∧ W = w) (fun _ _ _ => 0)
    case atStart => exact ⟨rfl, rfl, rfl⟩
    case round =>
      obtain ⟨rfl, rfl, rfl⟩ := hrel
      go_wp2
      go_ret
      exact ⟨rfl, ⟨H.out.1, H.out.2.1, .inl ⟨rfl, ao, cap, rfl⟩⟩, Below.refl _ _, fun _ _ _ => rfl⟩
  · obtain ⟨g, cap, rfl, hlo, hhi, hc⟩ := h.2.2.resolve_left (fun h => hn h.1)
    have HH := Lib.hid (show hi ≤ w.heap.size ∧ lo ≤ g ∧ g < hi ∧ 0 < n from ⟨h.1, hlo, hhi, by omega⟩)
    have HC := Lib.hid hc
    clear h hlo hhi hc hn
    go_enter Try.func30, Try.ntmps30
    go_wp2_with fail
    go_loopw [1, 5] (fun q i W => ∃ k : Nat, q = .int .i64 ((k : Int) * 3 + 1) ∧ i = .int .i64 (k : Int) ∧ k ≤ n ∧ (∀ j, j < n → MCel g j (if j < k then markM j else T j) W) ∧ Below lo w W ∧ KeepV (.slice (some ⟨g, 0, none⟩) n cap) w W) (fun _ i _ => n - (intOf i).toNat)
    case atStart => exact ⟨0, rfl, rfl, by omega, fun j hj => by simpa using HC.out j hj, Below.refl _ _, fun _ _ _ => rfl⟩
    case round =>
      obtain ⟨k, rfl, rfl, hk, hcs, hB, hKH⟩ := hrel
      have HCS := Lib.hid hcs
      have HB := Lib.hid hB
      have HK := Lib.hid hKH
      clear hKH hB
      by_cases hk1 : k < n
      · have hk2 : (k : Int) < (n : Int) := by omega
        have hkx : (k : Int) ≤ 1000 := by omega
        obtain ⟨c0, c1, c2, f0, f1, f2⟩ := hcs k hk1
        have HK1 := Lib.hid hk1
        clear hcs
        generalize (if k < k then markM k else T k) = t0 at c0 c1 c2
        have q1 : ((k : Int) * 3 + 1).tmod 3 = 1 := by rw [Int.tmod_eq_emod_of_nonneg (by omega)]; omega
        have q2 : ((k : Int) * 3 + 1 + 1).tmod 3 = 2 := by rw [Int.tmod_eq_emod_of_nonneg (by omega)]; omega
        have q3 : ((k : Int) * 3 + 1) % 3 = 1 := by omega
        have q4 : ((k : Int) * 3 + 1 + 1) % 3 = 2 := by omega
        go_wp2
        go_roundw
        case rel =>
          refine ⟨k + 1, by go_num, by go_num, by have := HK1.out; omega, fun j hj => ?_, ((HB.out.setCell HH.out.2.1 _).setCell HH.out.2.1 _).setCell HH.out.2.1 _, fun b ho hb => ?_⟩
          · by_cases e : j = k
            · subst e
              rw [if_pos (by omega)]
              exact MCel.put3 (HCS.out j hj) false false ((j * 3 + 3 : Nat) : Int)
            · have h9 := HCS.out j hj
              have e2 : (if j < k + 1 then markM j else T j) = (if j < k then markM j else T j) := by
                by_cases h8 : j < k
                · rw [if_pos h8, if_pos (by omega)]
                · rw [if_neg h8, if_neg (by omega)]
              rw [e2]
              exact MCel.other (fun e9 => e e9.symm) h9 _ _ _
          · have hne : g ≠ b := fun e9 => by subst e9; have := ho n cap rfl; have := HH.out.2.2.2; omega
            exact (Below.heap_setCell _ _ _ _ (by dsimp only; omega)).trans ((Below.heap_setCell _ _ _ _ (by dsimp only; omega)).trans ((Below.heap_setCell _ _ _ _ (by dsimp only; omega)).trans (HK.out b ho hb)))
        case measure => (have := HK1.out); first | (simp [intOf]; done) | (simp [intOf]; omega)
      · obtain rfl : k = n := by omega
        go_wp2
        go_ret
        exact ⟨ret_int (by omega), ⟨Nat.le_trans HH.out.1 HB.out.size, hm, .inr ⟨g, cap, rfl, HH.out.2.1, HH.out.2.2.1, fun j hj => by have := HCS.out j hj; rwa [if_pos hj] at this⟩⟩, HB.out, HK.out⟩
set_option maxRecDepth 100000 in
set_option maxHeartbeats 8000000 in
theorem heldFmS_any {lo hi n : Nat} {v : Value} {w : World} (h : MRow lo hi v n markM w) :
    Calls Try.prog 31 #[v, .int .i64 1] w fun e w' => e = .returned (.int .i64 ((n : Int) * 3 + 1)) ∧ Below w.heap.size w w' := by
  have hm := h.2.1
  have H := Lib.hid h
  obtain ⟨ao, cap, rfl⟩ := h.slice
  clear h
  go_enter Try.func31, Try.ntmps31
  go_wp2_with fail
  go_loopw [1, 5] (fun q i W => ∃ k : Nat, q = .int .i64 ((k : Int) * 3 + 1) ∧ i = .int .i64 (k : Int) ∧ k ≤ n ∧ Below w.heap.size w W) (fun _ i _ => n - (intOf i).toNat)
  case atStart => exact ⟨0, rfl, rfl, by omega, Below.refl _ _⟩
  case round =>
    obtain ⟨k, rfl, rfl, hk, hB⟩ := hrel
    by_cases hk1 : k < n
    · have hk2 : (k : Int) < (n : Int) := by omega
      have hkx : (k : Int) ≤ 1000 := by omega
      have r := H.out.call hB
      obtain ⟨g, c9, e9, _, hg, hc⟩ := r.2.2.resolve_left (fun h9 => by omega)
      simp only [Value.slice.injEq] at e9
      obtain ⟨rfl, _, rfl⟩ := e9
      obtain ⟨c0, c1, c2⟩ := MCel.cells (hc k hk1)
      clear hc r
      have q1 : ((k : Int) * 3 + 1).tmod 3 = 1 := by rw [Int.tmod_eq_emod_of_nonneg (by omega)]; omega
      have q2 : ((k : Int) * 3 + 1 + 1).tmod 3 = 2 := by rw [Int.tmod_eq_emod_of_nonneg (by omega)]; omega
      have q3 : ((k : Int) * 3 + 1) % 3 = 1 := by omega
      have q4 : ((k : Int) * 3 + 1 + 1) % 3 = 2 := by omega
      have e3 : ((k * 3 + 3 : Nat) : Int) = (k : Int) * 3 + 1 + 1 + 1 := by omega
      rw [e3] at c2
      go_wp2
      go_roundw
      case rel => exact ⟨k + 1, by go_num, by go_num, by omega, hB⟩
      case measure => first | (simp [intOf]; done) | (simp [intOf]; omega)
    · obtain rfl : k = n := by omega
      go_wp2
      go_ret
      exact ⟨ret_int (by omega), hB⟩
end Go.Proofs.Ythfgmadogknnaaa
