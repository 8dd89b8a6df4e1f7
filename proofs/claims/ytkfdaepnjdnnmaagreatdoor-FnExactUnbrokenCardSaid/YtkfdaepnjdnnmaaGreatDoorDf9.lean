/-
  Contracts of slices.IndexFunc and slices.DeleteFunc on motions, for a closure that is known by what it answers. Conditions: at most 768 motions, and what the closure looks at lies in other blocks than the slice.
-/
import Derived.Test.YtkfdaepnjdnnmaaGreatDoorGc
import Derived.Test.YtkfdaepnjdnnmaaGreatDoorGg
import Derived.Deep.RegionHeld3
import Derived.IntWalk
import Derived.Laws.IdiomCopy
namespace Go.Proofs.YtkfdaepnjdnnmaaGreatDoor
open Go.RowKit
set_option linter.unusedSimpArgs false
set_option linter.unusedVariables false

/- what a closure on motions does: it answers O m in each world that keeps Inv, and leaves what was there -/
def Pred6 (gf : Nat) (lb : Array Value) (O : M6 → Bool) (L : List M6) (Inv : World → Prop) : Prop :=
  ∀ (a b c d x y : Int) (W : World), (a, b, c, d, x, y) ∈ L → Inv W → Calls Tryz.prog gf (#[.agg #[.int .i64 a, .int .i64 b, .int .i64 c, .int .i64 d, .int .i64 x, .int .i64 y]] ++ lb) W fun e w' => e = .returned (.bool (O (a, b, c, d, x, y))) ∧ Below W.heap.size W w'
/- an invariant that only looks at blocks other than g -/
def Stays (g : Nat) (Inv : World → Prop) : Prop := (∀ W w1, Inv W → Below W.heap.size W w1 → Inv w1) ∧ ∀ W p u, p.block = g → Inv W → Inv (W.setCell p u)
def firstOut6 (O : M6 → Bool) (L : List M6) (e : Ending) : Prop :=
  (∃ (k : Nat) (h : k < L.length), e = .returned (.int .i64 (k : Int)) ∧ O L[k] = true ∧ ∀ v ∈ L.take k, O v = false) ∨ (e = .returned (.int .i64 (-1)) ∧ ∀ v ∈ L, O v = false)
structure Cmp6 (O : M6 → Bool) (L N : List M6) (j : Nat) : Prop where
  ij : N.length < j
  pre : N = (L.take j).filter (fun v => !O v)
theorem Cmp6.start {O : M6 → Bool} {L : List M6} {k : Nat} (hk : k < L.length) (ho : O L[k] = true) (hb : ∀ v ∈ L.take k, O v = false) : Cmp6 O L (L.take k) (k + 1) := by
  refine ⟨by rw [List.length_take]; omega, ?_⟩
  rw [List.take_succ_eq_append_getElem hk, List.filter_append, List.filter_eq_self.2 (fun v hv => by rw [hb v hv]; rfl)]
  simp [ho]
theorem Cmp6.skip {O : M6 → Bool} {L N : List M6} {j : Nat} (h : Cmp6 O L N j) (hj : j < L.length) (ho : O L[j] = true) : Cmp6 O L N (j + 1) := by
  refine ⟨by have := h.ij; omega, ?_⟩
  rw [List.take_succ_eq_append_getElem hj, List.filter_append, ← h.pre]
  simp [ho]
theorem Cmp6.keep {O : M6 → Bool} {L N : List M6} {j : Nat} (h : Cmp6 O L N j) (hj : j < L.length) (ho : O L[j] = false) : Cmp6 O L (N ++ [L[j]]) (j + 1) := by
  refine ⟨by have := h.ij; simp; omega, ?_⟩
  rw [List.take_succ_eq_append_getElem hj, List.filter_append, ← h.pre]
  simp [ho]
theorem at6_take {L : List M6} {k c : Nat} (hk : k ≤ L.length) (hc : c < k * 6) : fm (L.take k) c = fm L c := by
  have h1 : c / 6 < (L.take k).length := by rw [List.length_take]; omega
  have h2 : c / 6 < L.length := by omega
  obtain ⟨a0, a1, a2, a3, a4, a5⟩ := fm_get (L.take k) (c / 6) h1
  obtain ⟨b0, b1, b2, b3, b4, b5⟩ := fm_get L (c / 6) h2
  have e : (L.take k)[c / 6] = L[c / 6] := List.getElem_take
  rw [e] at a0 a1 a2 a3 a4 a5
  have hm : c = c / 6 * 6 ∨ c = c / 6 * 6 + 1 ∨ c = c / 6 * 6 + 2 ∨ c = c / 6 * 6 + 3 ∨ c = c / 6 * 6 + 4 ∨ c = c / 6 * 6 + 5 := by omega
  rcases hm with h | h | h | h | h | h <;> rw [h] <;> simp only [a0, a1, a2, a3, a4, a5, b0, b1, b2, b3, b4, b5]
theorem at6_snoc {L : List M6} {m : M6} {c : Nat} (hc : c < L.length * 6) : fm (L ++ [m]) c = fm L c := by
  have h := at6_take (L := L ++ [m]) (k := L.length) (c := c) (by simp) hc
  rw [← h, List.take_left']
  rfl
theorem at6_last {L : List M6} {m : M6} : fm (L ++ [m]) (L.length * 6) = m.1 ∧ fm (L ++ [m]) (L.length * 6 + 1) = m.2.1 ∧ fm (L ++ [m]) (L.length * 6 + 2) = m.2.2.1 ∧ fm (L ++ [m]) (L.length * 6 + 3) = m.2.2.2.1 ∧ fm (L ++ [m]) (L.length * 6 + 4) = m.2.2.2.2.1 ∧ fm (L ++ [m]) (L.length * 6 + 5) = m.2.2.2.2.2 := by
  have h := fm_get (L ++ [m]) L.length (by simp)
  simpa using h
def delF (L N : List M6) (c : Nat) : Int := if c < N.length * 6 then fm N c else fm L c
theorem belowS6 {B : Nat} {a : World} (b : Nat) (hb : B ≤ b) : ∀ (vs : List Value) (o : Nat) {w : World}, Below B a w → Below B a (w.setCells b o vs)
  | [], _, _, h => h
  | v :: r, o, _, h => belowS6 b hb r (o + 1) (h.setCell (p := ⟨b, o, none⟩) hb v)
theorem staysS6 {g : Nat} {Inv : World → Prop} (hS : Stays g Inv) : ∀ (vs : List Value) (o : Nat) {w : World}, Inv w → Inv (w.setCells g o vs)
  | [], _, _, h => h
  | v :: r, o, _, h => staysS6 hS r (o + 1) (hS.2 _ ⟨g, o, none⟩ v rfl h)
theorem sizeS6 (b : Nat) : ∀ (vs : List Value) (o : Nat) (w : World), (w.setCells b o vs).heap.size = w.heap.size
  | [], _, _ => rfl
  | v :: r, o, w => by rw [World.setCells, sizeS6 b r]; simp
theorem zeros6 (n : Nat) : (Builtin.zeroCells (#[.int .i64 0, .int .i64 0, .int .i64 0, .int .i64 0, .int .i64 0, .int .i64 0] : Array Value) n).toList = List.replicate (n * 6) (.int .i64 0) := by
  simp [Builtin.zeroCells]
  apply List.ext_getElem
  · simp
  · intro t h1 h2
    have : t % 6 = 0 ∨ t % 6 = 1 ∨ t % 6 = 2 ∨ t % 6 = 3 ∨ t % 6 = 4 ∨ t % 6 = 5 := by omega
    rcases this with h | h | h | h | h | h <;> simp [h]
set_option maxRecDepth 100000 in
theorem clear6 {g i n c : Nat} {F : Nat → Int} {W : World} (hi : i < n) (h : IRow g (n * 6) F W) :
    Sem.run Tryz.prog (Builtin.clear_ #[74] 0 #[.slice (some ⟨g, i * 6, none⟩) (n - i) c]) W = .ok (.tuple #[]) (W.setCells g (i * 6) (List.replicate ((n - i) * 6) (.int .i64 0))) := by
  have hv : ∀ W, Sem.run Tryz.prog (zeroValue 82) W = .ok (.agg #[.int .i64 0, .int .i64 0, .int .i64 0, .int .i64 0, .int .i64 0, .int .i64 0]) W := fun W => rfl
  have hst := run_storeCells_cells (P := Tryz.prog) g (i * 6) (List.replicate ((n - i) * 6) (.int .i64 0)) 0 W
    (fun j hj => by rw [List.length_replicate] at hj; rw [h.at (i * 6 + 0 + j) (by omega)]; rfl)
    (fun j hj => by rw [List.length_replicate] at hj; exact h.free (i * 6 + 0 + j) (by omega))
    (fun v hv => by rw [List.eq_of_mem_replicate hv]; rfl)
  simp only [Nat.add_zero] at hst
  obtain ⟨m, hm⟩ : ∃ m, n - i = m + 1 := ⟨n - i - 1, by omega⟩
  rw [hm] at hst ⊢
  have hz := zeros6 (m + 1)
  have ht := Tryz.underlying74
  simp [Builtin.clear_, run_underlying ht, hv, Value.cells, hz, hst]
theorem row6_cut {g n : Nat} {L N : List M6} {W : World} (vs : List Value) (hn : N.length ≤ n) (h : IRow g (n * 6) (delF L N) W) : IRow g (N.length * 6) (fm N) (W.setCells g (N.length * 6) vs) := by
  refine ⟨by rw [sizeS6]; exact h.1, fun t ht => ?_⟩
  rw [World.cell?_setCells_out _ _ _ _ _ (fun _ _ => .inl ht), World.frozen?_setCells]
  refine ⟨?_, h.free t (by omega)⟩
  rw [h.at t (by omega), delF, if_pos ht]
theorem del_at {L N : List M6} {j : Nat} (hj : j < L.length) (hN : N.length ≤ j) : delF L N (j * 6) = L[j].1 ∧ delF L N (j * 6 + 1) = L[j].2.1 ∧ delF L N (j * 6 + 2) = L[j].2.2.1 ∧ delF L N (j * 6 + 3) = L[j].2.2.2.1 ∧ delF L N (j * 6 + 4) = L[j].2.2.2.2.1 ∧ delF L N (j * 6 + 5) = L[j].2.2.2.2.2 := by
  have h := fm_get L j hj
  unfold delF
  rw [if_neg (by omega), if_neg (by omega), if_neg (by omega), if_neg (by omega), if_neg (by omega), if_neg (by omega)]
  exact h
theorem Ko6.of {g o : Nat} {F : Nat → Int} {W : World} {N : Nat} {m : M6} (h : IRow g N F W) (ho : o + 5 < N) (e : F o = m.1 ∧ F (o + 1) = m.2.1 ∧ F (o + 2) = m.2.2.1 ∧ F (o + 3) = m.2.2.2.1 ∧ F (o + 4) = m.2.2.2.2.1 ∧ F (o + 5) = m.2.2.2.2.2) : Ko6 g o m.1 m.2.1 m.2.2.1 m.2.2.2.1 m.2.2.2.2.1 m.2.2.2.2.2 W := by
  have k := h.ko6 o ho
  rwa [e.1, e.2.1, e.2.2.1, e.2.2.2.1, e.2.2.2.2.1, e.2.2.2.2.2] at k
theorem del_put {L N : List M6} {a b c d x y : Int} (t : Nat) :
    (if t = N.length * 6 + 5 then y else if t = N.length * 6 + 4 then x else if t = N.length * 6 + 3 then d else if t = N.length * 6 + 2 then c else if t = N.length * 6 + 1 then b else if t = N.length * 6 then a else delF L N t) = delF L (N ++ [(a, b, c, d, x, y)]) t := by
  have hl : (N ++ [((a, b, c, d, x, y) : M6)]).length = N.length + 1 := by simp
  obtain ⟨z0, z1, z2, z3, z4, z5⟩ := at6_last (L := N) (m := (a, b, c, d, x, y))
  unfold delF
  rw [hl]
  by_cases e5 : t = N.length * 6 + 5
  · subst e5; rw [if_pos rfl, if_pos (by omega), z5]
  by_cases e4 : t = N.length * 6 + 4
  · subst e4; rw [if_neg e5, if_pos rfl, if_pos (by omega), z4]
  by_cases e3 : t = N.length * 6 + 3
  · subst e3; rw [if_neg e5, if_neg e4, if_pos rfl, if_pos (by omega), z3]
  by_cases e2 : t = N.length * 6 + 2
  · subst e2; rw [if_neg e5, if_neg e4, if_neg e3, if_pos rfl, if_pos (by omega), z2]
  by_cases e1 : t = N.length * 6 + 1
  · subst e1; rw [if_neg e5, if_neg e4, if_neg e3, if_neg e2, if_pos rfl, if_pos (by omega), z1]
  by_cases e0 : t = N.length * 6
  · subst e0; rw [if_neg e5, if_neg e4, if_neg e3, if_neg e2, if_neg e1, if_pos rfl, if_pos (by omega), z0]
  rw [if_neg e5, if_neg e4, if_neg e3, if_neg e2, if_neg e1, if_neg e0]
  by_cases el : t < N.length * 6
  · rw [if_pos el, if_pos (by omega), at6_snoc el]
  · rw [if_neg el, if_neg (by omega)]
/- what the closure does: it answers O m in each world that keeps Inv, and leaves what was there -/
def PredS (p q : Nat) (O : M6 → Bool) (L : List M6) (Inv : World → Prop) : Prop :=
  ∀ (a b c d x y : Int) (W : World), (a, b, c, d, x, y) ∈ L → Inv W → Calls Tryz.prog 95 #[.agg #[.int .i64 a, .int .i64 b, .int .i64 c, .int .i64 d, .int .i64 x, .int .i64 y], .pointer (some ⟨p, 0, none⟩), .pointer (some ⟨q, 0, none⟩)] W fun e w' => e = .returned (.bool (O (a, b, c, d, x, y))) ∧ Below W.heap.size W w'
set_option maxRecDepth 100000 in
set_option maxHeartbeats 8000000 in
theorem indexFS_any {g cap p q : Nat} {L : List M6} {O : M6 → Bool} {Inv : World → Prop} {w : World} (hP : PredS p q O L Inv) (hS : Stays g Inv) (hI : Inv w) (hR : IRow g (L.length * 6) (fm L) w) (hn : L.length ≤ 768) :
    Calls Tryz.prog 80 #[.slice (some ⟨g, 0, none⟩) L.length cap, .func (.func 95) #[] #[.pointer (some ⟨p, 0, none⟩), .pointer (some ⟨q, 0, none⟩)]] w fun e w' => firstOut6 O L e ∧ Below w.heap.size w w' := by
  have HRR := Lib.hid hR
  have HP := Lib.hid hP
  have HI := Lib.hid (show Stays g Inv ∧ Inv w from ⟨hS, hI⟩)
  have hn2 : (L.length : Int) ≤ 768 := by omega
  clear hR hP hS hI hn
  go_enter Tryz.func80, Tryz.ntmps80
  go_wp2_with fail
  go_loopw [8] (fun i W => ∃ k : Nat, i = .int .i64 (k : Int) ∧ k ≤ L.length ∧ Hid (∀ v ∈ L.take k, O v = false) ∧ Below w.heap.size w W) (fun i _ => L.length - (intOf i).toNat)
  case atStart => exact ⟨0, rfl, by omega, Lib.hid (by simp), Below.refl _ _⟩
  case round =>
    obtain ⟨k, rfl, hk, hN, hB⟩ := hrel
    by_cases hk1 : k < L.length
    · have hk2 : (k : Int) < (L.length : Int) := by omega
      have hk3 : (k : Int) ≤ 768 := by omega
      have q1 := (HRR.out.grow hB HRR.out.1).mo k hk1
      have hIn := HI.out.1.1 _ _ HI.out.2 hB
      have CL := Lib.hid (fun (a b c d x y : Int) (e : L[k] = (a, b, c, d, x, y)) => HP.out a b c d x y wr (by rw [← e]; exact List.getElem_mem hk1) hIn)
      have HT : Hid (O L[k] = true → firstOut6 O L (.returned (.int .i64 (k : Int)))) := Lib.hid (fun h => .inl ⟨k, hk1, rfl, h, hN.out⟩)
      have HF : Hid (O L[k] = false → ∀ v ∈ L.take (k + 1), O v = false) := Lib.hid (fun h v hv => by
        rw [List.take_succ_eq_append_getElem hk1, List.mem_append] at hv
        rcases hv with hv | hv
        · exact hN.out v hv
        · simp at hv; rw [hv]; exact h)
      have HK := Lib.hid hk1
      generalize L[k] = v at q1 CL HT HF
      obtain ⟨a, b, c, d, x, y⟩ := v
      dsimp only at q1
      have q1c := q1.cells
      have CC := Lib.hid (CL.out a b c d x y rfl)
      clear hk hk1 hIn CL
      go_wp2_with fail
      refine CC.out.mono ?_
      rintro e w2 ⟨rfl, hb2⟩
      have hB2 := bstep hB hb2
      generalize O (a, b, c, d, x, y) = ob at HT HF
      rcases ob with _ | _
      · have HF2 := Lib.hid (HF.out rfl)
        clear CC q1 q1c HT hb2
        go_wp2
        go_roundw
        case rel => exact ⟨k + 1, by go_num, by have := HK.out; omega, HF2, hB2⟩
        case measure => (have := HK.out); first | (simp [intOf]; done) | (simp [intOf]; omega)
      · have HT2 := Lib.hid (HT.out rfl)
        clear CC q1 q1c HF hb2
        go_wp2
        go_ret
        exact ⟨HT2.out, hB2⟩
    · obtain rfl : k = L.length := by omega
      have HE : Hid (firstOut6 O L (.returned (.int .i64 (-1)))) := Lib.hid (.inr ⟨rfl, by have := hN.out; rwa [List.take_length] at this⟩)
      clear hk hk1
      go_wp2
      go_ret
      exact ⟨HE.out, hB⟩
def DelPostS (O : M6 → Bool) (g : Nat) (L : List M6) (Inv : World → Prop) (w : World) (e : Ending) (w' : World) : Prop :=
  ∃ cap, e = .returned (.slice (some ⟨g, 0, none⟩) (L.filter (fun v => !O v)).length cap) ∧ IRow g ((L.filter (fun v => !O v)).length * 6) (fm (L.filter (fun v => !O v))) w' ∧ Inv w' ∧ Below g w w'
set_option maxRecDepth 100000 in
set_option maxHeartbeats 8000000 in
theorem deleteFS_any {g cap p q : Nat} {L : List M6} {O : M6 → Bool} {Inv : World → Prop} {w : World} (hP : PredS p q O L Inv) (hS : Stays g Inv) (hI : Inv w) (hR : IRow g (L.length * 6) (fm L) w) (hn : L.length ≤ 768) (hcap : L.length ≤ cap) (hcm : cap ≤ maxLen) :
    Calls Tryz.prog 39 #[.slice (some ⟨g, 0, none⟩) L.length cap, .func (.func 95) #[] #[.pointer (some ⟨p, 0, none⟩), .pointer (some ⟨q, 0, none⟩)]] w (DelPostS O g L Inv w) := by
  have HN := Lib.hid (show L.length ≤ 768 ∧ L.length ≤ cap ∧ cap ≤ maxLen from ⟨hn, hcap, hcm⟩)
  have hn2 : (L.length : Int) ≤ 768 := by omega
  have C0 := Lib.hid (indexFS_any (cap := cap) hP hS hI hR hn)
  have HP := Lib.hid hP
  have HI := Lib.hid hS
  have HI0 := Lib.hid hI
  have HR := Lib.hid hR
  clear hP hS hI hR hn hcap hcm
  go_enter Tryz.func39, Tryz.ntmps39
  go_wp2_with fail
  refine C0.out.mono ?_
  rintro e w2 ⟨⟨k, hk, rfl, ho, hb⟩ | ⟨rfl, ho⟩, hb2⟩
  · have hk2 : ¬ ((k : Int) = -1) := by omega
    have hk4 : (k : Int) ≤ 768 := by omega
    have hk5 : ((k : Int) == -1) = false := beq_eq_false_iff_ne.2 hk2
    have HC0 := Lib.hid (Cmp6.start hk ho hb)
    have R0 := HR.out.call hb2
    have I0 := HI.out.1 _ _ HI0.out hb2
    have B0 : Below g w w2 := hb2.mono (by have := HR.out.1; omega)
    have HK0 := Lib.hid hk
    have HTL := Lib.hid (show (L.take k).length = k by rw [List.length_take]; omega)
    have HEX := Lib.hid (show ∀ t, t < L.length * 6 → fm L t = delF L (L.take k) t from fun t _ => by
      unfold delF; split
      · (rename_i hh; rw [List.length_take] at hh; exact (at6_take (by omega) (by omega)).symm)
      · rfl)
    clear hb2 ho hb hk C0
    go_wp2_with fail
    go_loopw [5, 6] (fun si sj W => ∃ (j : Nat) (N : List M6), si = .int .i64 (N.length : Int) ∧ sj = .int .i64 (j : Int) ∧ j ≤ L.length ∧ Hid (Cmp6 O L N j) ∧ IRow g (L.length * 6) (delF L N) W ∧ Inv W ∧ Below g w W) (fun _ sj _ => L.length - (intOf sj).toNat)
    case atStart => exact ⟨k + 1, L.take k, by rw [HTL.out], by go_num, by have := HK0.out; omega, HC0, R0.ext HEX.out, I0, B0⟩
    case round =>
      clear R0 I0 B0 hk2 hk4 hk5
      obtain ⟨j, N, rfl, rfl, hj, hC, hR, hIn, hB⟩ := hrel
      have hNj : N.length < j := hC.out.ij
      have hNi : (N.length : Int) ≤ 768 := by omega
      by_cases hj1 : j < L.length
      · have hj2 : (j : Int) < (L.length : Int) := by omega
        have hj3 : (j : Int) ≤ 768 := by omega
        have q1 := Ko6.of hR (o := j * 6) (by omega) (del_at hj1 (by omega))
        have CL := Lib.hid (fun (a b c d x y : Int) (e : L[j] = (a, b, c, d, x, y)) (W : World) (hW : Inv W) => HP.out a b c d x y W (by rw [← e]; exact List.getElem_mem hj1) hW)
        have HSk : Hid (O L[j] = true → Cmp6 O L N (j + 1)) := Lib.hid (fun h => hC.out.skip hj1 h)
        have HKp : Hid (O L[j] = false → Cmp6 O L (N ++ [L[j]]) (j + 1)) := Lib.hid (fun h => hC.out.keep hj1 h)
        have HJ := Lib.hid (show j < L.length ∧ N.length < j from ⟨hj1, hNj⟩)
        generalize L[j] = v at q1 CL HSk HKp
        obtain ⟨a, b, c, d, x, y⟩ := v
        dsimp only at q1
        have CC := Lib.hid (CL.out a b c d x y rfl)
        have q1c := q1.cells
        have hgz := hR.1
        have X3 : KM wr.heap.size a b c d x y (wr.alloc (.cells #[.int .i64 a, .int .i64 b, .int .i64 c, .int .i64 d, .int .i64 x, .int .i64 y] 82)) := KM.at _ rfl
        have BA : Below wr.heap.size wr (wr.alloc (.cells #[.int .i64 a, .int .i64 b, .int .i64 c, .int .i64 d, .int .i64 x, .int .i64 y] 82)) := (Below.refl _ _).alloc (Nat.le_refl _) _
        have I3 := HI.out.1 _ _ hIn BA
        have R3 := hR.call BA
        have B3 : Below g w (wr.alloc (.cells #[.int .i64 a, .int .i64 b, .int .i64 c, .int .i64 d, .int .i64 x, .int .i64 y] 82)) := hB.alloc (by omega) _
        have X3c := X3.cells5
        clear hj hj1 hR hIn hB hC CL hNj BA
        go_wp2_with fail
        refine (CC.out _ I3).mono ?_
        rintro e w4 ⟨rfl, hb4⟩
        have X4 := X3.call hb4
        have I4 := HI.out.1 _ _ I3 hb4
        have R4 := R3.call hb4
        have B4 : Below g w w4 := B3.trans (hb4.mono (by simp; omega))
        have X4c := X4.cells5
        have hg4 := R4.1
        clear X3 I3 R3 B3 hb4 X3c CC q1 q1c
        generalize O (a, b, c, d, x, y) = ob at HSk HKp
        rcases ob with _ | _
        · have HQ := Lib.hid (HKp.out rfl)
          obtain ⟨hj8, hNj8⟩ := HJ.out
          have s0 := R4.at (N.length * 6) (by omega)
          have f0 := R4.free (N.length * 6) (by omega)
          have s1 := R4.at (N.length * 6 + 1) (by omega)
          have f1 := R4.free (N.length * 6 + 1) (by omega)
          have s2 := R4.at (N.length * 6 + 2) (by omega)
          have f2 := R4.free (N.length * 6 + 2) (by omega)
          have s3 := R4.at (N.length * 6 + 3) (by omega)
          have f3 := R4.free (N.length * 6 + 3) (by omega)
          have s4 := R4.at (N.length * 6 + 4) (by omega)
          have f4 := R4.free (N.length * 6 + 4) (by omega)
          have s5 := R4.at (N.length * 6 + 5) (by omega)
          have f5 := R4.free (N.length * 6 + 5) (by omega)
          have hN2 : (N.length : Int) < (L.length : Int) := by omega
          have RQ := Lib.hid R4
          have BQ := Lib.hid B4
          have IQ := Lib.hid I4
          clear HSk HKp X4 R4 B4 I4
          generalize delF L N (N.length * 6) = y0 at s0
          generalize delF L N (N.length * 6 + 1) = y1 at s1
          generalize delF L N (N.length * 6 + 2) = y2 at s2
          generalize delF L N (N.length * 6 + 3) = y3 at s3
          generalize delF L N (N.length * 6 + 4) = y4 at s4
          generalize delF L N (N.length * 6 + 5) = y5 at s5
          go_wp2
          go_roundw
          case rel => exact ⟨j + 1, N ++ [(a, b, c, d, x, y)], by simp, by go_num, by omega, HQ, ((((((RQ.out.put (N.length * 6) (by omega) _).put (N.length * 6 + 1) (by omega) _).put (N.length * 6 + 2) (by omega) _).put (N.length * 6 + 3) (by omega) _).put (N.length * 6 + 4) (by omega) _).put (N.length * 6 + 5) (by omega) _).ext (fun t _ => del_put t), (HI.out.2 _ ⟨g, N.length * 6 + 5, none⟩ _ rfl (HI.out.2 _ ⟨g, N.length * 6 + 4, none⟩ _ rfl (HI.out.2 _ ⟨g, N.length * 6 + 3, none⟩ _ rfl (HI.out.2 _ ⟨g, N.length * 6 + 2, none⟩ _ rfl (HI.out.2 _ ⟨g, N.length * 6 + 1, none⟩ _ rfl (HI.out.2 _ ⟨g, N.length * 6, none⟩ _ rfl IQ.out)))))), ((((((BQ.out.setCell (Nat.le_refl _) _).setCell (Nat.le_refl _) _).setCell (Nat.le_refl _) _).setCell (Nat.le_refl _) _).setCell (Nat.le_refl _) _).setCell (Nat.le_refl _) _)⟩
          case measure => first | (simp [intOf]; done) | (simp [intOf]; omega)
        · have HQ := Lib.hid (HSk.out rfl)
          obtain ⟨hj8, hNj8⟩ := HJ.out
          clear HSk HKp X4 X4c
          go_wp2
          go_roundw
          case rel => exact ⟨j + 1, N, rfl, by go_num, by omega, HQ, R4, I4, B4⟩
          case measure => first | (simp [intOf]; done) | (simp [intOf]; omega)
      · obtain rfl : j = L.length := by omega
        have hE : L.filter (fun v => !O v) = N := by rw [hC.out.pre, List.take_length]
        have HE := Lib.hid hE
        have hcl := fun c => clear6 (c := c) hNj hR
        have R5 := Lib.hid (row6_cut (List.replicate ((L.length - N.length) * 6) (.int .i64 0)) (Nat.le_of_lt hNj) hR)
        have B5 := Lib.hid (belowS6 (B := g) g (Nat.le_refl _) (List.replicate ((L.length - N.length) * 6) (.int .i64 0)) (N.length * 6) hB)
        have I5 := Lib.hid (staysS6 HI.out (List.replicate ((L.length - N.length) * 6) (.int .i64 0)) (N.length * 6) hIn)
        have hx1 : (N.length : Int) ≤ (L.length : Int) := by omega
        have hx2 : (N.length : Int) ≤ (cap : Int) := by have := HN.out; omega
        have hx3 : ¬ (cap = N.length) := by have := HN.out; omega
        clear hC hj hj1 hE hR hIn hB hNj
        go_wp2
        go_ret
        exact ⟨_, by rw [HE.out]; rfl, by rw [HE.out]; exact R5.out, I5.out, B5.out⟩
  · have HF : Hid (L.filter (fun v => !O v) = L) := Lib.hid (List.filter_eq_self.2 (fun v hv => by rw [ho v hv]; rfl))
    have R0 := Lib.hid (HR.out.call hb2)
    have I0 := Lib.hid (HI.out.1 _ _ HI0.out hb2)
    have B0 : Below g w w2 := hb2.mono (by have := HR.out.1; omega)
    clear ho hb2 C0
    go_wp2
    go_ret
    exact ⟨cap, by rw [HF.out]; rfl, by rw [HF.out]; exact R0.out, I0.out, B0⟩

end Go.Proofs.YtkfdaepnjdnnmaaGreatDoor
