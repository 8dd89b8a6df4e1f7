/-
  Several of my texts in one: Df6, Mt6, Wm6.
-/
import Derived.Test.YtmadgbbkkkibcaaGreatDoorGz6
import Derived.Deep.RegionHeld3
import Derived.IntWalk
import Derived.Laws.IdiomCopy
import Derived.Test.YtmadgbbkkkibcaaGreatDoorGy6
import Derived.Test.YtmadgbbkkkibcaaGreatDoorMg6
import Derived.Test.YtmadgbbkkkibcaaGreatDoorSh6
import Derived.Test.YtmadgbbkkkibcaaGreatDoorTms
namespace Go.Proofs.YtmadgbbkkkibcaaGreatDoor
section
open Go.RowKit
set_option linter.unusedSimpArgs false
set_option linter.unusedVariables false

/- what a closure on motions does: it answers O m in each world that keeps Inv, and leaves what was there -/
def Pred6 (gf : Nat) (lb : Array Value) (O : M6 → Bool) (L : List M6) (Inv : World → Prop) : Prop :=
  ∀ (a b c d x y : Int) (W : World), (a, b, c, d, x, y) ∈ L → Inv W → Calls Tryz.prog gf (#[.agg #[.int .i64 a, .int .i64 b, .int .i64 c, .int .i64 d, .int .i64 x, .int .i64 y]] ++ lb) W fun e w' => e = .returned (.bool (O (a, b, c, d, x, y))) ∧ Below W.heap.size W w'
/- an invariant that only looks at blocks other than g -/
def Stays (g : Nat) (Inv : World → Prop) : Prop := (∀ W w1, Inv W → Below W.heap.size W w1 → Inv w1) ∧ ∀ W p u, p.block = g → Inv W → Inv (W.setCell p u)
def firstOut6 (O : M6 → Bool) (L : List M6) (e : Ending) : Prop :=
  (∃ (k : Nat) (h : k < L.length), e = .returned (.int .i64 (k : Int)) ∧ O L[k] = true ∧ ∀ v ∈ L.take k, O v = false) ∨ (e = .returned (.int .i64 (-1)) ∧ ∀ v ∈ L, O v = false)
structure Cmp6 (O : M6 → Bool) (L N : List M6) (j : Nat) : Prop where
  ij : N.length < j
  pre : N = (L.take j).filter (fun v => !O v)
theorem Cmp6.start {O : M6 → Bool} {L : List M6} {k : Nat} (hk : k < L.length) (ho : O L[k] = true) (hb : ∀ v ∈ L.take k, O v = false) : Cmp6 O L (L.take k) (k + 1) := by
  refine ⟨by rw [List.length_take]; omega, ?_⟩
  rw [List.take_succ_eq_append_getElem hk, List.filter_append, List.filter_eq_self.2 (fun v hv => by rw [hb v hv]; rfl)]
  simp [ho]
theorem Cmp6.skip {O : M6 → Bool} {L N : List M6} {j : Nat} (h : Cmp6 O L N j) (hj : j < L.length) (ho : O L[j] = true) : Cmp6 O L N (j + 1) := by
  refine ⟨by have := h.ij; omega, ?_⟩
  rw [List.take_succ_eq_append_getElem hj, List.filter_append, ← h.pre]
  simp [ho]
theorem Cmp6.keep {O : M6 → Bool} {L N : List M6} {j : Nat} (h : Cmp6 O L N j) (hj : j < L.length) (ho : O L[j] = false) : Cmp6 O L (N ++ [L[j]]) (j + 1) := by
  refine ⟨by have := h.ij; simp; omega, ?_⟩
  rw [List.take_succ_eq_append_getElem hj, List.filter_append, ← h.pre]
  simp [ho]
theorem at6_take {L : List M6} {k c : Nat} (hk : k ≤ L.length) (hc : c < k * 6) : fm (L.take k) c = fm L c := by
  have h1 : c / 6 < (L.take k).length := by rw [List.length_take]; omega
  have h2 : c / 6 < L.length := by omega
  obtain ⟨a0, a1, a2, a3, a4, a5⟩ := fm_get (L.take k) (c / 6) h1
  obtain ⟨b0, b1, b2, b3, b4, b5⟩ := fm_get L (c / 6) h2
  have e : (L.take k)[c / 6] = L[c / 6] := List.getElem_take
  rw [e] at a0 a1 a2 a3 a4 a5
  have hm : c = c / 6 * 6 ∨ c = c / 6 * 6 + 1 ∨ c = c / 6 * 6 + 2 ∨ c = c / 6 * 6 + 3 ∨ c = c / 6 * 6 + 4 ∨ c = c / 6 * 6 + 5 := by omega
  rcases hm with h | h | h | h | h | h <;> rw [h] <;> simp only [a0, a1, a2, a3, a4, a5, b0, b1, b2, b3, b4, b5]
theorem at6_snoc {L : List M6} {m : M6} {c : Nat} (hc : c < L.length * 6) : fm (L ++ [m]) c = fm L c := by
  have h := at6_take (L := L ++ [m]) (k := L.length) (c := c) (by simp) hc
  rw [← h, List.take_left']
  rfl
theorem at6_last {L : List M6} {m : M6} : fm (L ++ [m]) (L.length * 6) = m.1 ∧ fm (L ++ [m]) (L.length * 6 + 1) = m.2.1 ∧ fm (L ++ [m]) (L.length * 6 + 2) = m.2.2.1 ∧ fm (L ++ [m]) (L.length * 6 + 3) = m.2.2.2.1 ∧ fm (L ++ [m]) (L.length * 6 + 4) = m.2.2.2.2.1 ∧ fm (L ++ [m]) (L.length * 6 + 5) = m.2.2.2.2.2 := by
  have h := fm_get (L ++ [m]) L.length (by simp)
  simpa using h
def delF (L N : List M6) (c : Nat) : Int := if c < N.length * 6 then fm N c else fm L c
theorem belowS6 {B : Nat} {a : World} (b : Nat) (hb : B ≤ b) : ∀ (vs : List Value) (o : Nat) {w : World}, Below B a w → Below B a (w.setCells b o vs)
  | [], _, _, h => h
  | v :: r, o, _, h => belowS6 b hb r (o + 1) (h.setCell (p := ⟨b, o, none⟩) hb v)
theorem staysS6 {g : Nat} {Inv : World → Prop} (hS : Stays g Inv) : ∀ (vs : List Value) (o : Nat) {w : World}, Inv w → Inv (w.setCells g o vs)
  | [], _, _, h => h
  | v :: r, o, _, h => staysS6 hS r (o + 1) (hS.2 _ ⟨g, o, none⟩ v rfl h)
theorem sizeS6 (b : Nat) : ∀ (vs : List Value) (o : Nat) (w : World), (w.setCells b o vs).heap.size = w.heap.size
  | [], _, _ => rfl
  | v :: r, o, w => by rw [World.setCells, sizeS6 b r]; simp
theorem zeros6 (n : Nat) : (Builtin.zeroCells (#[.int .i64 0, .int .i64 0, .int .i64 0, .int .i64 0, .int .i64 0, .int .i64 0] : Array Value) n).toList = List.replicate (n * 6) (.int .i64 0) := by
  simp [Builtin.zeroCells]
  apply List.ext_getElem
  · simp
  · intro t h1 h2
    have : t % 6 = 0 ∨ t % 6 = 1 ∨ t % 6 = 2 ∨ t % 6 = 3 ∨ t % 6 = 4 ∨ t % 6 = 5 := by omega
    rcases this with h | h | h | h | h | h <;> simp [h]
set_option maxRecDepth 100000 in
theorem clear6 {g i n c : Nat} {F : Nat → Int} {W : World} (hi : i < n) (h : IRow g (n * 6) F W) :
    Sem.run Tryz.prog (Builtin.clear_ #[104] 0 #[.slice (some ⟨g, i * 6, none⟩) (n - i) c]) W = .ok (.tuple #[]) (W.setCells g (i * 6) (List.replicate ((n - i) * 6) (.int .i64 0))) := by
  have hv : ∀ W, Sem.run Tryz.prog (zeroValue 115) W = .ok (.agg #[.int .i64 0, .int .i64 0, .int .i64 0, .int .i64 0, .int .i64 0, .int .i64 0]) W := fun W => rfl
  have hst := run_storeCells_cells (P := Tryz.prog) g (i * 6) (List.replicate ((n - i) * 6) (.int .i64 0)) 0 W
    (fun j hj => by rw [List.length_replicate] at hj; rw [h.at (i * 6 + 0 + j) (by omega)]; rfl)
    (fun j hj => by rw [List.length_replicate] at hj; exact h.free (i * 6 + 0 + j) (by omega))
    (fun v hv => by rw [List.eq_of_mem_replicate hv]; rfl)
  simp only [Nat.add_zero] at hst
  obtain ⟨m, hm⟩ : ∃ m, n - i = m + 1 := ⟨n - i - 1, by omega⟩
  rw [hm] at hst ⊢
  have hz := zeros6 (m + 1)
  have ht := Tryz.underlying104
  simp [Builtin.clear_, run_underlying ht, hv, Value.cells, hz, hst]
theorem row6_cut {g n : Nat} {L N : List M6} {W : World} (vs : List Value) (hn : N.length ≤ n) (h : IRow g (n * 6) (delF L N) W) : IRow g (N.length * 6) (fm N) (W.setCells g (N.length * 6) vs) := by
  refine ⟨by rw [sizeS6]; exact h.1, fun t ht => ?_⟩
  rw [World.cell?_setCells_out _ _ _ _ _ (fun _ _ => .inl ht), World.frozen?_setCells]
  refine ⟨?_, h.free t (by omega)⟩
  rw [h.at t (by omega), delF, if_pos ht]
theorem del_at {L N : List M6} {j : Nat} (hj : j < L.length) (hN : N.length ≤ j) : delF L N (j * 6) = L[j].1 ∧ delF L N (j * 6 + 1) = L[j].2.1 ∧ delF L N (j * 6 + 2) = L[j].2.2.1 ∧ delF L N (j * 6 + 3) = L[j].2.2.2.1 ∧ delF L N (j * 6 + 4) = L[j].2.2.2.2.1 ∧ delF L N (j * 6 + 5) = L[j].2.2.2.2.2 := by
  have h := fm_get L j hj
  unfold delF
  rw [if_neg (by omega), if_neg (by omega), if_neg (by omega), if_neg (by omega), if_neg (by omega), if_neg (by omega)]
  exact h
theorem Ko6.of {g o : Nat} {F : Nat → Int} {W : World} {N : Nat} {m : M6} (h : IRow g N F W) (ho : o + 5 < N) (e : F o = m.1 ∧ F (o + 1) = m.2.1 ∧ F (o + 2) = m.2.2.1 ∧ F (o + 3) = m.2.2.2.1 ∧ F (o + 4) = m.2.2.2.2.1 ∧ F (o + 5) = m.2.2.2.2.2) : Ko6 g o m.1 m.2.1 m.2.2.1 m.2.2.2.1 m.2.2.2.2.1 m.2.2.2.2.2 W := by
  have k := h.ko6 o ho
  rwa [e.1, e.2.1, e.2.2.1, e.2.2.2.1, e.2.2.2.2.1, e.2.2.2.2.2] at k
theorem del_put {L N : List M6} {a b c d x y : Int} (t : Nat) :
    (if t = N.length * 6 + 5 then y else if t = N.length * 6 + 4 then x else if t = N.length * 6 + 3 then d else if t = N.length * 6 + 2 then c else if t = N.length * 6 + 1 then b else if t = N.length * 6 then a else delF L N t) = delF L (N ++ [(a, b, c, d, x, y)]) t := by
  have hl : (N ++ [((a, b, c, d, x, y) : M6)]).length = N.length + 1 := by simp
  obtain ⟨z0, z1, z2, z3, z4, z5⟩ := at6_last (L := N) (m := (a, b, c, d, x, y))
  unfold delF
  rw [hl]
  by_cases e5 : t = N.length * 6 + 5
  · subst e5; rw [if_pos rfl, if_pos (by omega), z5]
  by_cases e4 : t = N.length * 6 + 4
  · subst e4; rw [if_neg e5, if_pos rfl, if_pos (by omega), z4]
  by_cases e3 : t = N.length * 6 + 3
  · subst e3; rw [if_neg e5, if_neg e4, if_pos rfl, if_pos (by omega), z3]
  by_cases e2 : t = N.length * 6 + 2
  · subst e2; rw [if_neg e5, if_neg e4, if_neg e3, if_pos rfl, if_pos (by omega), z2]
  by_cases e1 : t = N.length * 6 + 1
  · subst e1; rw [if_neg e5, if_neg e4, if_neg e3, if_neg e2, if_pos rfl, if_pos (by omega), z1]
  by_cases e0 : t = N.length * 6
  · subst e0; rw [if_neg e5, if_neg e4, if_neg e3, if_neg e2, if_neg e1, if_pos rfl, if_pos (by omega), z0]
  rw [if_neg e5, if_neg e4, if_neg e3, if_neg e2, if_neg e1, if_neg e0]
  by_cases el : t < N.length * 6
  · rw [if_pos el, if_pos (by omega), at6_snoc el]
  · rw [if_neg el, if_neg (by omega)]
/- what the closure does: it answers O m in each world that keeps Inv, and leaves what was there -/
def PredM (p : Nat) (O : M6 → Bool) (L : List M6) (Inv : World → Prop) : Prop :=
  ∀ (a b c d x y : Int) (W : World), (a, b, c, d, x, y) ∈ L → Inv W → Calls Tryz.prog 113 #[.agg #[.int .i64 a, .int .i64 b, .int .i64 c, .int .i64 d, .int .i64 x, .int .i64 y], .pointer (some ⟨p, 0, none⟩)] W fun e w' => e = .returned (.bool (O (a, b, c, d, x, y))) ∧ Below W.heap.size W w'
set_option maxRecDepth 100000 in
set_option maxHeartbeats 8000000 in
theorem indexFM_any {g cap p : Nat} {L : List M6} {O : M6 → Bool} {Inv : World → Prop} {w : World} (hP : PredM p O L Inv) (hS : Stays g Inv) (hI : Inv w) (hR : IRow g (L.length * 6) (fm L) w) (hn : L.length ≤ 768) :
    Calls Tryz.prog 188 #[.slice (some ⟨g, 0, none⟩) L.length cap, .func (.func 113) #[] #[.pointer (some ⟨p, 0, none⟩)]] w fun e w' => firstOut6 O L e ∧ Below w.heap.size w w' := by
  have HRR := Lib.hid hR
  have HP := Lib.hid hP
  have HI := Lib.hid (show Stays g Inv ∧ Inv w from ⟨hS, hI⟩)
  have hn2 : (L.length : Int) ≤ 768 := by omega
  clear hR hP hS hI hn
  go_enter Tryz.func188, Tryz.ntmps188
  go_wp2_with fail
  go_loopw [8] (fun i W => ∃ k : Nat, i = .int .i64 (k : Int) ∧ k ≤ L.length ∧ Hid (∀ v ∈ L.take k, O v = false) ∧ Below w.heap.size w W) (fun i _ => L.length - (intOf i).toNat)
  case atStart => exact ⟨0, rfl, by omega, Lib.hid (by simp), Below.refl _ _⟩
  case round =>
    obtain ⟨k, rfl, hk, hN, hB⟩ := hrel
    by_cases hk1 : k < L.length
    · have hk2 : (k : Int) < (L.length : Int) := by omega
      have hk3 : (k : Int) ≤ 768 := by omega
      have q1 := (HRR.out.grow hB HRR.out.1).mo k hk1
      have hIn := HI.out.1.1 _ _ HI.out.2 hB
      have CL := Lib.hid (fun (a b c d x y : Int) (e : L[k] = (a, b, c, d, x, y)) => HP.out a b c d x y wr (by rw [← e]; exact List.getElem_mem hk1) hIn)
      have HT : Hid (O L[k] = true → firstOut6 O L (.returned (.int .i64 (k : Int)))) := Lib.hid (fun h => .inl ⟨k, hk1, rfl, h, hN.out⟩)
      have HF : Hid (O L[k] = false → ∀ v ∈ L.take (k + 1), O v = false) := Lib.hid (fun h v hv => by
        rw [List.take_succ_eq_append_getElem hk1, List.mem_append] at hv
        rcases hv with hv | hv
        · exact hN.out v hv
        · simp at hv; rw [hv]; exact h)
      have HK := Lib.hid hk1
      generalize L[k] = v at q1 CL HT HF
      obtain ⟨a, b, c, d, x, y⟩ := v
      dsimp only at q1
      have q1c := q1.cells
      have CC := Lib.hid (CL.out a b c d x y rfl)
      clear hk hk1 hIn CL
      go_wp2_with fail
      refine CC.out.mono ?_
      rintro e w2 ⟨rfl, hb2⟩
      have hB2 := bstep hB hb2
      generalize O (a, b, c, d, x, y) = ob at HT HF
      rcases ob with _ | _
      · have HF2 := Lib.hid (HF.out rfl)
        clear CC q1 q1c HT hb2
        go_wp2
        go_roundw
        case rel => exact ⟨k + 1, by go_num, by have := HK.out; omega, HF2, hB2⟩
        case measure => (have := HK.out); first | (simp [intOf]; done) | (simp [intOf]; omega)
      · have HT2 := Lib.hid (HT.out rfl)
        clear CC q1 q1c HF hb2
        go_wp2
        go_ret
        exact ⟨HT2.out, hB2⟩
    · obtain rfl : k = L.length := by omega
      have HE : Hid (firstOut6 O L (.returned (.int .i64 (-1)))) := Lib.hid (.inr ⟨rfl, by have := hN.out; rwa [List.take_length] at this⟩)
      clear hk hk1
      go_wp2
      go_ret
      exact ⟨HE.out, hB⟩
def DelPostM (O : M6 → Bool) (g : Nat) (L : List M6) (Inv : World → Prop) (w : World) (e : Ending) (w' : World) : Prop :=
  ∃ cap, e = .returned (.slice (some ⟨g, 0, none⟩) (L.filter (fun v => !O v)).length cap) ∧ IRow g ((L.filter (fun v => !O v)).length * 6) (fm (L.filter (fun v => !O v))) w' ∧ Inv w' ∧ Below g w w'
set_option maxRecDepth 100000 in
set_option maxHeartbeats 8000000 in
theorem deleteFM_any {g cap p : Nat} {L : List M6} {O : M6 → Bool} {Inv : World → Prop} {w : World} (hP : PredM p O L Inv) (hS : Stays g Inv) (hI : Inv w) (hR : IRow g (L.length * 6) (fm L) w) (hn : L.length ≤ 768) (hcap : L.length ≤ cap) (hcm : cap ≤ maxLen) :
    Calls Tryz.prog 116 #[.slice (some ⟨g, 0, none⟩) L.length cap, .func (.func 113) #[] #[.pointer (some ⟨p, 0, none⟩)]] w (DelPostM O g L Inv w) := by
  have HN := Lib.hid (show L.length ≤ 768 ∧ L.length ≤ cap ∧ cap ≤ maxLen from ⟨hn, hcap, hcm⟩)
  have hn2 : (L.length : Int) ≤ 768 := by omega
  have C0 := Lib.hid (indexFM_any (cap := cap) hP hS hI hR hn)
  have HP := Lib.hid hP
  have HI := Lib.hid hS
  have HI0 := Lib.hid hI
  have HR := Lib.hid hR
  clear hP hS hI hR hn hcap hcm
  go_enter Tryz.func116, Tryz.ntmps116
  go_wp2_with fail
  refine C0.out.mono ?_
  rintro e w2 ⟨⟨k, hk, rfl, ho, hb⟩ | ⟨rfl, ho⟩, hb2⟩
  · have hk2 : ¬ ((k : Int) = -1) := by omega
    have hk4 : (k : Int) ≤ 768 := by omega
    have hk5 : ((k : Int) == -1) = false := beq_eq_false_iff_ne.2 hk2
    have HC0 := Lib.hid (Cmp6.start hk ho hb)
    have R0 := HR.out.call hb2
    have I0 := HI.out.1 _ _ HI0.out hb2
    have B0 : Below g w w2 := hb2.mono (by have := HR.out.1; omega)
    have HK0 := Lib.hid hk
    have HTL := Lib.hid (show (L.take k).length = k by rw [List.length_take]; omega)
    have HEX := Lib.hid (show ∀ t, t < L.length * 6 → fm L t = delF L (L.take k) t from fun t _ => by
      unfold delF; split
      · (rename_i hh; rw [List.length_take] at hh; exact (at6_take (by omega) (by omega)).symm)
      · rfl)
    clear hb2 ho hb hk C0
    go_wp2_with fail
    go_loopw [5, 6] (fun si sj W => ∃ (j : Nat) (N : List M6), si = .int .i64 (N.length : Int) ∧ sj = .int .i64 (j : Int) ∧ j ≤ L.length ∧ Hid (Cmp6 O L N j) ∧ IRow g (L.length * 6) (delF L N) W ∧ Inv W ∧ Below g w W) (fun _ sj _ => L.length - (intOf sj).toNat)
    case atStart => exact ⟨k + 1, L.take k, by rw [HTL.out], by go_num, by have := HK0.out; omega, HC0, R0.ext HEX.out, I0, B0⟩
    case round =>
      clear R0 I0 B0 hk2 hk4 hk5
      obtain ⟨j, N, rfl, rfl, hj, hC, hR, hIn, hB⟩ := hrel
      have hNj : N.length < j := hC.out.ij
      have hNi : (N.length : Int) ≤ 768 := by omega
      by_cases hj1 : j < L.length
      · have hj2 : (j : Int) < (L.length : Int) := by omega
        have hj3 : (j : Int) ≤ 768 := by omega
        have q1 := Ko6.of hR (o := j * 6) (by omega) (del_at hj1 (by omega))
        have CL := Lib.hid (fun (a b c d x y : Int) (e : L[j] = (a, b, c, d, x, y)) (W : World) (hW : Inv W) => HP.out a b c d x y W (by rw [← e]; exact List.getElem_mem hj1) hW)
        have HSk : Hid (O L[j] = true → Cmp6 O L N (j + 1)) := Lib.hid (fun h => hC.out.skip hj1 h)
        have HKp : Hid (O L[j] = false → Cmp6 O L (N ++ [L[j]]) (j + 1)) := Lib.hid (fun h => hC.out.keep hj1 h)
        have HJ := Lib.hid (show j < L.length ∧ N.length < j from ⟨hj1, hNj⟩)
        generalize L[j] = v at q1 CL HSk HKp
        obtain ⟨a, b, c, d, x, y⟩ := v
        dsimp only at q1
        have CC := Lib.hid (CL.out a b c d x y rfl)
        have q1c := q1.cells
        have hgz := hR.1
        have X3 : KM wr.heap.size a b c d x y (wr.alloc (.cells #[.int .i64 a, .int .i64 b, .int .i64 c, .int .i64 d, .int .i64 x, .int .i64 y] 115)) := KM.at _ rfl
        have BA : Below wr.heap.size wr (wr.alloc (.cells #[.int .i64 a, .int .i64 b, .int .i64 c, .int .i64 d, .int .i64 x, .int .i64 y] 115)) := (Below.refl _ _).alloc (Nat.le_refl _) _
        have I3 := HI.out.1 _ _ hIn BA
        have R3 := hR.call BA
        have B3 : Below g w (wr.alloc (.cells #[.int .i64 a, .int .i64 b, .int .i64 c, .int .i64 d, .int .i64 x, .int .i64 y] 115)) := hB.alloc (by omega) _
        have X3c := X3.cells5
        clear hj hj1 hR hIn hB hC CL hNj BA
        go_wp2_with fail
        refine (CC.out _ I3).mono ?_
        rintro e w4 ⟨rfl, hb4⟩
        have X4 := X3.call hb4
        have I4 := HI.out.1 _ _ I3 hb4
        have R4 := R3.call hb4
        have B4 : Below g w w4 := B3.trans (hb4.mono (by simp; omega))
        have X4c := X4.cells5
        have hg4 := R4.1
        clear X3 I3 R3 B3 hb4 X3c CC q1 q1c
        generalize O (a, b, c, d, x, y) = ob at HSk HKp
        rcases ob with _ | _
        · have HQ := Lib.hid (HKp.out rfl)
          obtain ⟨hj8, hNj8⟩ := HJ.out
          have s0 := R4.at (N.length * 6) (by omega)
          have f0 := R4.free (N.length * 6) (by omega)
          have s1 := R4.at (N.length * 6 + 1) (by omega)
          have f1 := R4.free (N.length * 6 + 1) (by omega)
          have s2 := R4.at (N.length * 6 + 2) (by omega)
          have f2 := R4.free (N.length * 6 + 2) (by omega)
          have s3 := R4.at (N.length * 6 + 3) (by omega)
          have f3 := R4.free (N.length * 6 + 3) (by omega)
          have s4 := R4.at (N.length * 6 + 4) (by omega)
          have f4 := R4.free (N.length * 6 + 4) (by omega)
          have s5 := R4.at (N.length * 6 + 5) (by omega)
          have f5 := R4.free (N.length * 6 + 5) (by omega)
          have hN2 : (N.length : Int) < (L.length : Int) := by omega
          have RQ := Lib.hid R4
          have BQ := Lib.hid B4
          have IQ := Lib.hid I4
          clear HSk HKp X4 R4 B4 I4
          generalize delF L N (N.length * 6) = y0 at s0
          generalize delF L N (N.length * 6 + 1) = y1 at s1
          generalize delF L N (N.length * 6 + 2) = y2 at s2
          generalize delF L N (N.length * 6 + 3) = y3 at s3
          generalize delF L N (N.length * 6 + 4) = y4 at s4
          generalize delF L N (N.length * 6 + 5) = y5 at s5
          go_wp2
          go_roundw
          case rel => exact ⟨j + 1, N ++ [(a, b, c, d, x, y)], by simp, by go_num, by omega, HQ, ((((((RQ.out.put (N.length * 6) (by omega) _).put (N.length * 6 + 1) (by omega) _).put (N.length * 6 + 2) (by omega) _).put (N.length * 6 + 3) (by omega) _).put (N.length * 6 + 4) (by omega) _).put (N.length * 6 + 5) (by omega) _).ext (fun t _ => del_put t), (HI.out.2 _ ⟨g, N.length * 6 + 5, none⟩ _ rfl (HI.out.2 _ ⟨g, N.length * 6 + 4, none⟩ _ rfl (HI.out.2 _ ⟨g, N.length * 6 + 3, none⟩ _ rfl (HI.out.2 _ ⟨g, N.length * 6 + 2, none⟩ _ rfl (HI.out.2 _ ⟨g, N.length * 6 + 1, none⟩ _ rfl (HI.out.2 _ ⟨g, N.length * 6, none⟩ _ rfl IQ.out)))))), ((((((BQ.out.setCell (Nat.le_refl _) _).setCell (Nat.le_refl _) _).setCell (Nat.le_refl _) _).setCell (Nat.le_refl _) _).setCell (Nat.le_refl _) _).setCell (Nat.le_refl _) _)⟩
          case measure => first | (simp [intOf]; done) | (simp [intOf]; omega)
        · have HQ := Lib.hid (HSk.out rfl)
          obtain ⟨hj8, hNj8⟩ := HJ.out
          clear HSk HKp X4 X4c
          go_wp2
          go_roundw
          case rel => exact ⟨j + 1, N, rfl, by go_num, by omega, HQ, R4, I4, B4⟩
          case measure => first | (simp [intOf]; done) | (simp [intOf]; omega)
      · obtain rfl : j = L.length := by omega
        have hE : L.filter (fun v => !O v) = N := by rw [hC.out.pre, List.take_length]
        have HE := Lib.hid hE
        have hcl := fun c => clear6 (c := c) hNj hR
        have R5 := Lib.hid (row6_cut (List.replicate ((L.length - N.length) * 6) (.int .i64 0)) (Nat.le_of_lt hNj) hR)
        have B5 := Lib.hid (belowS6 (B := g) g (Nat.le_refl _) (List.replicate ((L.length - N.length) * 6) (.int .i64 0)) (N.length * 6) hB)
        have I5 := Lib.hid (staysS6 HI.out (List.replicate ((L.length - N.length) * 6) (.int .i64 0)) (N.length * 6) hIn)
        have hx1 : (N.length : Int) ≤ (L.length : Int) := by omega
        have hx2 : (N.length : Int) ≤ (cap : Int) := by have := HN.out; omega
        have hx3 : ¬ (cap = N.length) := by have := HN.out; omega
        clear hC hj hj1 hE hR hIn hB hNj
        go_wp2
        go_ret
        exact ⟨_, by rw [HE.out]; rfl, by rw [HE.out]; exact R5.out, I5.out, B5.out⟩
  · have HF : Hid (L.filter (fun v => !O v) = L) := Lib.hid (List.filter_eq_self.2 (fun v hv => by rw [ho v hv]; rfl))
    have R0 := Lib.hid (HR.out.call hb2)
    have I0 := Lib.hid (HI.out.1 _ _ HI0.out hb2)
    have B0 : Below g w w2 := hb2.mono (by have := HR.out.1; omega)
    clear ho hb2 C0
    go_wp2
    go_ret
    exact ⟨cap, by rw [HF.out]; rfl, by rw [HF.out]; exact R0.out, I0.out, B0⟩

/- what the closure does: it answers O m in each world that keeps Inv, and leaves what was there -/
def PredS (p q : Nat) (O : M6 → Bool) (L : List M6) (Inv : World → Prop) : Prop :=
  ∀ (a b c d x y : Int) (W : World), (a, b, c, d, x, y) ∈ L → Inv W → Calls Tryz.prog 144 #[.agg #[.int .i64 a, .int .i64 b, .int .i64 c, .int .i64 d, .int .i64 x, .int .i64 y], .pointer (some ⟨p, 0, none⟩), .pointer (some ⟨q, 0, none⟩)] W fun e w' => e = .returned (.bool (O (a, b, c, d, x, y))) ∧ Below W.heap.size W w'
set_option maxRecDepth 100000 in
set_option maxHeartbeats 8000000 in
theorem indexFS_any {g cap p q : Nat} {L : List M6} {O : M6 → Bool} {Inv : World → Prop} {w : World} (hP : PredS p q O L Inv) (hS : Stays g Inv) (hI : Inv w) (hR : IRow g (L.length * 6) (fm L) w) (hn : L.length ≤ 768) :
    Calls Tryz.prog 188 #[.slice (some ⟨g, 0, none⟩) L.length cap, .func (.func 144) #[] #[.pointer (some ⟨p, 0, none⟩), .pointer (some ⟨q, 0, none⟩)]] w fun e w' => firstOut6 O L e ∧ Below w.heap.size w w' := by
  have HRR := Lib.hid hR
  have HP := Lib.hid hP
  have HI := Lib.hid (show Stays g Inv ∧ Inv w from ⟨hS, hI⟩)
  have hn2 : (L.length : Int) ≤ 768 := by omega
  clear hR hP hS hI hn
  go_enter Tryz.func188, Tryz.ntmps188
  go_wp2_with fail
  go_loopw [8] (fun i W => ∃ k : Nat, i = .int .i64 (k : Int) ∧ k ≤ L.length ∧ Hid (∀ v ∈ L.take k, O v = false) ∧ Below w.heap.size w W) (fun i _ => L.length - (intOf i).toNat)
  case atStart => exact ⟨0, rfl, by omega, Lib.hid (by simp), Below.refl _ _⟩
  case round =>
    obtain ⟨k, rfl, hk, hN, hB⟩ := hrel
    by_cases hk1 : k < L.length
    · have hk2 : (k : Int) < (L.length : Int) := by omega
      have hk3 : (k : Int) ≤ 768 := by omega
      have q1 := (HRR.out.grow hB HRR.out.1).mo k hk1
      have hIn := HI.out.1.1 _ _ HI.out.2 hB
      have CL := Lib.hid (fun (a b c d x y : Int) (e : L[k] = (a, b, c, d, x, y)) => HP.out a b c d x y wr (by rw [← e]; exact List.getElem_mem hk1) hIn)
      have HT : Hid (O L[k] = true → firstOut6 O L (.returned (.int .i64 (k : Int)))) := Lib.hid (fun h => .inl ⟨k, hk1, rfl, h, hN.out⟩)
      have HF : Hid (O L[k] = false → ∀ v ∈ L.take (k + 1), O v = false) := Lib.hid (fun h v hv => by
        rw [List.take_succ_eq_append_getElem hk1, List.mem_append] at hv
        rcases hv with hv | hv
        · exact hN.out v hv
        · simp at hv; rw [hv]; exact h)
      have HK := Lib.hid hk1
      generalize L[k] = v at q1 CL HT HF
      obtain ⟨a, b, c, d, x, y⟩ := v
      dsimp only at q1
      have q1c := q1.cells
      have CC := Lib.hid (CL.out a b c d x y rfl)
      clear hk hk1 hIn CL
      go_wp2_with fail
      refine CC.out.mono ?_
      rintro e w2 ⟨rfl, hb2⟩
      have hB2 := bstep hB hb2
      generalize O (a, b, c, d, x, y) = ob at HT HF
      rcases ob with _ | _
      · have HF2 := Lib.hid (HF.out rfl)
        clear CC q1 q1c HT hb2
        go_wp2
        go_roundw
        case rel => exact ⟨k + 1, by go_num, by have := HK.out; omega, HF2, hB2⟩
        case measure => (have := HK.out); first | (simp [intOf]; done) | (simp [intOf]; omega)
      · have HT2 := Lib.hid (HT.out rfl)
        clear CC q1 q1c HF hb2
        go_wp2
        go_ret
        exact ⟨HT2.out, hB2⟩
    · obtain rfl : k = L.length := by omega
      have HE : Hid (firstOut6 O L (.returned (.int .i64 (-1)))) := Lib.hid (.inr ⟨rfl, by have := hN.out; rwa [List.take_length] at this⟩)
      clear hk hk1
      go_wp2
      go_ret
      exact ⟨HE.out, hB⟩
def DelPostS (O : M6 → Bool) (g : Nat) (L : List M6) (Inv : World → Prop) (w : World) (e : Ending) (w' : World) : Prop :=
  ∃ cap, e = .returned (.slice (some ⟨g, 0, none⟩) (L.filter (fun v => !O v)).length cap) ∧ IRow g ((L.filter (fun v => !O v)).length * 6) (fm (L.filter (fun v => !O v))) w' ∧ Inv w' ∧ Below g w w'
set_option maxRecDepth 100000 in
set_option maxHeartbeats 8000000 in
theorem deleteFS_any {g cap p q : Nat} {L : List M6} {O : M6 → Bool} {Inv : World → Prop} {w : World} (hP : PredS p q O L Inv) (hS : Stays g Inv) (hI : Inv w) (hR : IRow g (L.length * 6) (fm L) w) (hn : L.length ≤ 768) (hcap : L.length ≤ cap) (hcm : cap ≤ maxLen) :
    Calls Tryz.prog 116 #[.slice (some ⟨g, 0, none⟩) L.length cap, .func (.func 144) #[] #[.pointer (some ⟨p, 0, none⟩), .pointer (some ⟨q, 0, none⟩)]] w (DelPostS O g L Inv w) := by
  have HN := Lib.hid (show L.length ≤ 768 ∧ L.length ≤ cap ∧ cap ≤ maxLen from ⟨hn, hcap, hcm⟩)
  have hn2 : (L.length : Int) ≤ 768 := by omega
  have C0 := Lib.hid (indexFS_any (cap := cap) hP hS hI hR hn)
  have HP := Lib.hid hP
  have HI := Lib.hid hS
  have HI0 := Lib.hid hI
  have HR := Lib.hid hR
  clear hP hS hI hR hn hcap hcm
  go_enter Tryz.func116, Tryz.ntmps116
  go_wp2_with fail
  refine C0.out.mono ?_
  rintro e w2 ⟨⟨k, hk, rfl, ho, hb⟩ | ⟨rfl, ho⟩, hb2⟩
  · have hk2 : ¬ ((k : Int) = -1) := by omega
    have hk4 : (k : Int) ≤ 768 := by omega
    have hk5 : ((k : Int) == -1) = false := beq_eq_false_iff_ne.2 hk2
    have HC0 := Lib.hid (Cmp6.start hk ho hb)
    have R0 := HR.out.call hb2
    have I0 := HI.out.1 _ _ HI0.out hb2
    have B0 : Below g w w2 := hb2.mono (by have := HR.out.1; omega)
    have HK0 := Lib.hid hk
    have HTL := Lib.hid (show (L.take k).length = k by rw [List.length_take]; omega)
    have HEX := Lib.hid (show ∀ t, t < L.length * 6 → fm L t = delF L (L.take k) t from fun t _ => by
      unfold delF; split
      · (rename_i hh; rw [List.length_take] at hh; exact (at6_take (by omega) (by omega)).symm)
      · rfl)
    clear hb2 ho hb hk C0
    go_wp2_with fail
    go_loopw [5, 6] (fun si sj W => ∃ (j : Nat) (N : List M6), si = .int .i64 (N.length : Int) ∧ sj = .int .i64 (j : Int) ∧ j ≤ L.length ∧ Hid (Cmp6 O L N j) ∧ IRow g (L.length * 6) (delF L N) W ∧ Inv W ∧ Below g w W) (fun _ sj _ => L.length - (intOf sj).toNat)
    case atStart => exact ⟨k + 1, L.take k, by rw [HTL.out], by go_num, by have := HK0.out; omega, HC0, R0.ext HEX.out, I0, B0⟩
    case round =>
      clear R0 I0 B0 hk2 hk4 hk5
      obtain ⟨j, N, rfl, rfl, hj, hC, hR, hIn, hB⟩ := hrel
      have hNj : N.length < j := hC.out.ij
      have hNi : (N.length : Int) ≤ 768 := by omega
      by_cases hj1 : j < L.length
      · have hj2 : (j : Int) < (L.length : Int) := by omega
        have hj3 : (j : Int) ≤ 768 := by omega
        have q1 := Ko6.of hR (o := j * 6) (by omega) (del_at hj1 (by omega))
        have CL := Lib.hid (fun (a b c d x y : Int) (e : L[j] = (a, b, c, d, x, y)) (W : World) (hW : Inv W) => HP.out a b c d x y W (by rw [← e]; exact List.getElem_mem hj1) hW)
        have HSk : Hid (O L[j] = true → Cmp6 O L N (j + 1)) := Lib.hid (fun h => hC.out.skip hj1 h)
        have HKp : Hid (O L[j] = false → Cmp6 O L (N ++ [L[j]]) (j + 1)) := Lib.hid (fun h => hC.out.keep hj1 h)
        have HJ := Lib.hid (show j < L.length ∧ N.length < j from ⟨hj1, hNj⟩)
        generalize L[j] = v at q1 CL HSk HKp
        obtain ⟨a, b, c, d, x, y⟩ := v
        dsimp only at q1
        have CC := Lib.hid (CL.out a b c d x y rfl)
        have q1c := q1.cells
        have hgz := hR.1
        have X3 : KM wr.heap.size a b c d x y (wr.alloc (.cells #[.int .i64 a, .int .i64 b, .int .i64 c, .int .i64 d, .int .i64 x, .int .i64 y] 115)) := KM.at _ rfl
        have BA : Below wr.heap.size wr (wr.alloc (.cells #[.int .i64 a, .int .i64 b, .int .i64 c, .int .i64 d, .int .i64 x, .int .i64 y] 115)) := (Below.refl _ _).alloc (Nat.le_refl _) _
        have I3 := HI.out.1 _ _ hIn BA
        have R3 := hR.call BA
        have B3 : Below g w (wr.alloc (.cells #[.int .i64 a, .int .i64 b, .int .i64 c, .int .i64 d, .int .i64 x, .int .i64 y] 115)) := hB.alloc (by omega) _
        have X3c := X3.cells5
        clear hj hj1 hR hIn hB hC CL hNj BA
        go_wp2_with fail
        refine (CC.out _ I3).mono ?_
        rintro e w4 ⟨rfl, hb4⟩
        have X4 := X3.call hb4
        have I4 := HI.out.1 _ _ I3 hb4
        have R4 := R3.call hb4
        have B4 : Below g w w4 := B3.trans (hb4.mono (by simp; omega))
        have X4c := X4.cells5
        have hg4 := R4.1
        clear X3 I3 R3 B3 hb4 X3c CC q1 q1c
        generalize O (a, b, c, d, x, y) = ob at HSk HKp
        rcases ob with _ | _
        · have HQ := Lib.hid (HKp.out rfl)
          obtain ⟨hj8, hNj8⟩ := HJ.out
          have s0 := R4.at (N.length * 6) (by omega)
          have f0 := R4.free (N.length * 6) (by omega)
          have s1 := R4.at (N.length * 6 + 1) (by omega)
          have f1 := R4.free (N.length * 6 + 1) (by omega)
          have s2 := R4.at (N.length * 6 + 2) (by omega)
          have f2 := R4.free (N.length * 6 + 2) (by omega)
          have s3 := R4.at (N.length * 6 + 3) (by omega)
          have f3 := R4.free (N.length * 6 + 3) (by omega)
          have s4 := R4.at (N.length * 6 + 4) (by omega)
          have f4 := R4.free (N.length * 6 + 4) (by omega)
          have s5 := R4.at (N.length * 6 + 5) (by omega)
          have f5 := R4.free (N.length * 6 + 5) (by omega)
          have hN2 : (N.length : Int) < (L.length : Int) := by omega
          have RQ := Lib.hid R4
          have BQ := Lib.hid B4
          have IQ := Lib.hid I4
          clear HSk HKp X4 R4 B4 I4
          generalize delF L N (N.length * 6) = y0 at s0
          generalize delF L N (N.length * 6 + 1) = y1 at s1
          generalize delF L N (N.length * 6 + 2) = y2 at s2
          generalize delF L N (N.length * 6 + 3) = y3 at s3
          generalize delF L N (N.length * 6 + 4) = y4 at s4
          generalize delF L N (N.length * 6 + 5) = y5 at s5
          go_wp2
          go_roundw
          case rel => exact ⟨j + 1, N ++ [(a, b, c, d, x, y)], by simp, by go_num, by omega, HQ, ((((((RQ.out.put (N.length * 6) (by omega) _).put (N.length * 6 + 1) (by omega) _).put (N.length * 6 + 2) (by omega) _).put (N.length * 6 + 3) (by omega) _).put (N.length * 6 + 4) (by omega) _).put (N.length * 6 + 5) (by omega) _).ext (fun t _ => del_put t), (HI.out.2 _ ⟨g, N.length * 6 + 5, none⟩ _ rfl (HI.out.2 _ ⟨g, N.length * 6 + 4, none⟩ _ rfl (HI.out.2 _ ⟨g, N.length * 6 + 3, none⟩ _ rfl (HI.out.2 _ ⟨g, N.length * 6 + 2, none⟩ _ rfl (HI.out.2 _ ⟨g, N.length * 6 + 1, none⟩ _ rfl (HI.out.2 _ ⟨g, N.length * 6, none⟩ _ rfl IQ.out)))))), ((((((BQ.out.setCell (Nat.le_refl _) _).setCell (Nat.le_refl _) _).setCell (Nat.le_refl _) _).setCell (Nat.le_refl _) _).setCell (Nat.le_refl _) _).setCell (Nat.le_refl _) _)⟩
          case measure => first | (simp [intOf]; done) | (simp [intOf]; omega)
        · have HQ := Lib.hid (HSk.out rfl)
          obtain ⟨hj8, hNj8⟩ := HJ.out
          clear HSk HKp X4 X4c
          go_wp2
          go_roundw
          case rel => exact ⟨j + 1, N, rfl, by go_num, by omega, HQ, R4, I4, B4⟩
          case measure => first | (simp [intOf]; done) | (simp [intOf]; omega)
      · obtain rfl : j = L.length := by omega
        have hE : L.filter (fun v => !O v) = N := by rw [hC.out.pre, List.take_length]
        have HE := Lib.hid hE
        have hcl := fun c => clear6 (c := c) hNj hR
        have R5 := Lib.hid (row6_cut (List.replicate ((L.length - N.length) * 6) (.int .i64 0)) (Nat.le_of_lt hNj) hR)
        have B5 := Lib.hid (belowS6 (B := g) g (Nat.le_refl _) (List.replicate ((L.length - N.length) * 6) (.int .i64 0)) (N.length * 6) hB)
        have I5 := Lib.hid (staysS6 HI.out (List.replicate ((L.length - N.length) * 6) (.int .i64 0)) (N.length * 6) hIn)
        have hx1 : (N.length : Int) ≤ (L.length : Int) := by omega
        have hx2 : (N.length : Int) ≤ (cap : Int) := by have := HN.out; omega
        have hx3 : ¬ (cap = N.length) := by have := HN.out; omega
        clear hC hj hj1 hE hR hIn hB hNj
        go_wp2
        go_ret
        exact ⟨_, by rw [HE.out]; rfl, by rw [HE.out]; exact R5.out, I5.out, B5.out⟩
  · have HF : Hid (L.filter (fun v => !O v) = L) := Lib.hid (List.filter_eq_self.2 (fun v hv => by rw [ho v hv]; rfl))
    have R0 := Lib.hid (HR.out.call hb2)
    have I0 := Lib.hid (HI.out.1 _ _ HI0.out hb2)
    have B0 : Below g w w2 := hb2.mono (by have := HR.out.1; omega)
    clear ho hb2 C0
    go_wp2
    go_ret
    exact ⟨cap, by rw [HF.out]; rfl, by rw [HF.out]; exact R0.out, I0.out, B0⟩
end
end Go.Proofs.YtmadgbbkkkibcaaGreatDoor

namespace Go.Proofs.YtmadgbbkkkibcaaGreatDoor
section
open Go.RowKit
set_option linter.unusedSimpArgs false
set_option linter.unusedVariables false

theorem cmpMZ_0 (m n : M6) : (cmpMZ m n == 0) = decide (m = n) := by
  obtain ⟨a, b, c, d, x, y⟩ := m
  obtain ⟨a', b', c', d', x', y'⟩ := n
  rw [Bool.eq_iff_iff, beq_iff_eq, decide_eq_true_eq]
  simp only [cmpMZ, cmp4Z, cmp2Z, Prod.mk.injEq]
  have hz : ∀ p q : Int, orZ p q = 0 ↔ p = 0 ∧ q = 0 := fun p q => by unfold orZ; split <;> omega
  rw [hz, hz, hz, hz, hz, cmpZ_0, cmpZ_0, cmpZ_0, cmpZ_0, cmpZ_0, cmpZ_0]
  constructor
  · rintro ⟨⟨rfl, rfl, rfl, rfl⟩, rfl, rfl⟩; exact ⟨rfl, rfl, rfl, rfl, rfl, rfl⟩
  · rintro ⟨rfl, rfl, rfl, rfl, rfl, rfl⟩; exact ⟨⟨rfl, rfl, rfl, rfl⟩, rfl, rfl⟩
set_option maxRecDepth 100000 in
set_option maxHeartbeats 8000000 in
theorem bsearch_any {g cap : Nat} {L : List M6} {w : World} (a b c d x y : Int) (hR : IRow g (L.length * 6) (fm L) w) (hU : Up L) (hn : L.length ≤ 768) :
    Calls Tryz.prog 114 #[.slice (some ⟨g, 0, none⟩) L.length cap, .agg #[.int .i64 a, .int .i64 b, .int .i64 c, .int .i64 d, .int .i64 x, .int .i64 y], .func (.func 115) #[] #[]] w fun e w' => e = .returned (.tuple #[.int .i64 (plM L (a, b, c, d, x, y) : Nat), .bool (decide ((a, b, c, d, x, y) ∈ L))]) ∧ Below w.heap.size w w' := by
  have X0 : Km w.heap.size a b c d x y (w.alloc (.cells #[.int .i64 a, .int .i64 b, .int .i64 c, .int .i64 d, .int .i64 x, .int .i64 y] 115)) := Km.at _ rfl
  have B0 : Below w.heap.size w (w.alloc (.cells #[.int .i64 a, .int .i64 b, .int .i64 c, .int .i64 d, .int .i64 x, .int .i64 y] 115)) := (Below.refl _ _).alloc (Nat.le_refl _) _
  have HRA := Lib.hid hR
  have HY := Lib.hid (fun hp => has_yes (m := (a, b, c, d, x, y)) hU hp)
  have HO := Lib.hid (fun hp => has_no (m := (a, b, c, d, x, y)) hU hp)
  have HP := Lib.hid (show plM L (a, b, c, d, x, y) ≤ L.length ∧ L.length ≤ 768 from ⟨plM_le L _, hn⟩)
  have HU := Lib.hid (fun i hi => plM_iff (a, b, c, d, x, y) L hU i hi)
  have hn2 : (L.length : Int) ≤ 768 := by omega
  clear hU hn hR
  generalize hp : plM L (a, b, c, d, x, y) = p at HP HU HY HO ⊢
  clear hp
  go_enter Tryz.func114, Tryz.ntmps114
  go_wp2_with fail
  go_loopw [9, 10] (fun s9 s10 W => ∃ l h : Nat, s9 = .int .i64 (l : Int) ∧ s10 = .int .i64 (h : Int) ∧ l ≤ p ∧ p ≤ h ∧ h ≤ L.length ∧ Km w.heap.size a b c d x y W ∧ Below w.heap.size w W) (fun s9 s10 _ => (intOf s10 - intOf s9).toNat)
  case atStart => exact ⟨0, L.length, rfl, rfl, by omega, HP.out.1, by omega, X0, B0⟩
  case round =>
    clear X0 B0
    obtain ⟨l, h, rfl, rfl, hlp, hph, hhl, hX, hB⟩ := hrel
    by_cases hlh : l < h
    · obtain ⟨hm1, hm2⟩ := mid_lt hlh
      have hlh2 : (l : Int) < (h : Int) := by omega
      have hh3 : (h : Int) ≤ 768 := by omega
      have hmid : (l + h) / 2 < L.length := by omega
      have q1 := (HRA.out.grow hB HRA.out.1).mo ((l + h) / 2) hmid
      have HQ := Lib.hid (HU.out ((l + h) / 2) hmid)
      have HK := Lib.hid (show l ≤ p ∧ p ≤ h ∧ h ≤ L.length ∧ l ≤ (l + h) / 2 ∧ (l + h) / 2 < h from ⟨hlp, hph, hhl, hm1, hm2⟩)
      have hmid2 : (((l + h) / 2 : Nat) : Int) < (L.length : Int) := by omega
      have hdiv : ((l : Int) + (h : Int)) / 2 = (((l + h) / 2 : Nat) : Int) := by omega
      generalize L[(l + h) / 2] = m at q1 HQ
      clear hlp hph hhl hm1 hm2 hmid hlh
      generalize hmi : (l + h) / 2 = mid at *
      have HM := Lib.hid hmi
      clear hmi
      obtain ⟨n0, n1, n2, n3, n4, n5⟩ := m
      dsimp only at q1
      have CL := Lib.hid (fun W => mcmp_any (n0, n1, n2, n3, n4, n5) (a, b, c, d, x, y) W)
      dsimp only at CL
      have HLT := Lib.hid (cmpMZ_lt (n0, n1, n2, n3, n4, n5) (a, b, c, d, x, y))
      generalize cmpMZ (n0, n1, n2, n3, n4, n5) (a, b, c, d, x, y) = t at CL HLT
      have q1c := q1.cells
      have hXc := hX.cells
      have hXl := km_lt hX
      have zB := hB.size
      by_cases ht : t < 0
      · have HG := Lib.hid (show mid < p by have := HQ.out; rw [← HLT.out] at this; simpa using this.1 (decide_eq_true ht))
        clear HQ HLT
        go_wp2_with fail
        go_region_held3 (fun W => (W.cell? ⟨w.heap.size, 0, none⟩ = some (.int .i64 a) ∧ W.cell? ⟨w.heap.size, 1, none⟩ = some (.int .i64 b) ∧ W.cell? ⟨w.heap.size, 2, none⟩ = some (.int .i64 c) ∧ W.cell? ⟨w.heap.size, 3, none⟩ = some (.int .i64 d) ∧ W.cell? ⟨w.heap.size, 4, none⟩ = some (.int .i64 x) ∧ W.cell? ⟨w.heap.size, 5, none⟩ = some (.int .i64 y)) ∧ (W.cell? ⟨g, mid * 6, none⟩ = some (.int .i64 n0) ∧ W.cell? ⟨g, mid * 6 + 1, none⟩ = some (.int .i64 n1) ∧ W.cell? ⟨g, mid * 6 + 2, none⟩ = some (.int .i64 n2) ∧ W.cell? ⟨g, mid * 6 + 3, none⟩ = some (.int .i64 n3) ∧ W.cell? ⟨g, mid * 6 + 4, none⟩ = some (.int .i64 n4) ∧ W.cell? ⟨g, mid * 6 + 5, none⟩ = some (.int .i64 n5))) ((refine And.intro (Km.cells ?_) (Ko6.cells ?_)) <;> repeat (first | with_reducible assumption | with_reducible refine Km.drew ?_ | with_reducible refine Km.alloc ?_ _ | with_reducible refine Km.call ?_ (by with_reducible assumption) | with_reducible refine Ko6.drew ?_ | with_reducible refine Ko6.alloc ?_ _ | with_reducible refine Ko6.call ?_ (by with_reducible assumption) | with_reducible refine Kt.drew ?_ | with_reducible refine Kt.alloc ?_ _ | with_reducible refine Kt.call ?_ (by with_reducible assumption)))
          (first
            | (go_at_call 115; with_reducible refine (CL.out _).mono ?_; rintro e u1 ⟨rfl, hb1, hd1⟩; have X1 : Km w.heap.size a b c d x y u1 := (by repeat (first | with_reducible assumption | with_reducible refine Km.drew ?_ | with_reducible refine Km.alloc ?_ _ | with_reducible refine Km.call ?_ (by with_reducible assumption) | with_reducible refine Ko6.drew ?_ | with_reducible refine Ko6.alloc ?_ _ | with_reducible refine Ko6.call ?_ (by with_reducible assumption) | with_reducible refine Kt.drew ?_ | with_reducible refine Kt.alloc ?_ _ | with_reducible refine Kt.call ?_ (by with_reducible assumption))); have q2 : Ko6 g (mid * 6) n0 n1 n2 n3 n4 n5 u1 := (by repeat (first | with_reducible assumption | with_reducible refine Km.drew ?_ | with_reducible refine Km.alloc ?_ _ | with_reducible refine Km.call ?_ (by with_reducible assumption) | with_reducible refine Ko6.drew ?_ | with_reducible refine Ko6.alloc ?_ _ | with_reducible refine Ko6.call ?_ (by with_reducible assumption) | with_reducible refine Kt.drew ?_ | with_reducible refine Kt.alloc ?_ _ | with_reducible refine Kt.call ?_ (by with_reducible assumption))); have B1 : Below w.heap.size w u1 := (by repeat (first | with_reducible assumption | with_reducible exact Below.refl _ _ | with_reducible refine Below.alloc ?_ (by first | omega | (simp <;> omega)) _ | with_reducible refine bstep ?_ (by with_reducible assumption) | with_reducible refine Below.drew ?_))))
        all_goals
          go_wp2
          go_roundw
          case rel => exact ⟨mid + 1, h, by go_num, rfl, by have := HG.out; omega, HK.out.2.1, HK.out.2.2.1, X1, B1⟩
          case measure => (have := HK.out); first | (simp [intOf]; done) | (simp [intOf]; omega)
      · have HG := Lib.hid (show p ≤ mid by have := HQ.out; rw [← HLT.out] at this; have h2 : ¬ mid < p := fun h3 => ht (of_decide_eq_true (this.2 h3)); omega)
        clear HQ HLT
        go_wp2_with fail
        go_region_held3 (fun W => (W.cell? ⟨w.heap.size, 0, none⟩ = some (.int .i64 a) ∧ W.cell? ⟨w.heap.size, 1, none⟩ = some (.int .i64 b) ∧ W.cell? ⟨w.heap.size, 2, none⟩ = some (.int .i64 c) ∧ W.cell? ⟨w.heap.size, 3, none⟩ = some (.int .i64 d) ∧ W.cell? ⟨w.heap.size, 4, none⟩ = some (.int .i64 x) ∧ W.cell? ⟨w.heap.size, 5, none⟩ = some (.int .i64 y)) ∧ (W.cell? ⟨g, mid * 6, none⟩ = some (.int .i64 n0) ∧ W.cell? ⟨g, mid * 6 + 1, none⟩ = some (.int .i64 n1) ∧ W.cell? ⟨g, mid * 6 + 2, none⟩ = some (.int .i64 n2) ∧ W.cell? ⟨g, mid * 6 + 3, none⟩ = some (.int .i64 n3) ∧ W.cell? ⟨g, mid * 6 + 4, none⟩ = some (.int .i64 n4) ∧ W.cell? ⟨g, mid * 6 + 5, none⟩ = some (.int .i64 n5))) ((refine And.intro (Km.cells ?_) (Ko6.cells ?_)) <;> repeat (first | with_reducible assumption | with_reducible refine Km.drew ?_ | with_reducible refine Km.alloc ?_ _ | with_reducible refine Km.call ?_ (by with_reducible assumption) | with_reducible refine Ko6.drew ?_ | with_reducible refine Ko6.alloc ?_ _ | with_reducible refine Ko6.call ?_ (by with_reducible assumption) | with_reducible refine Kt.drew ?_ | with_reducible refine Kt.alloc ?_ _ | with_reducible refine Kt.call ?_ (by with_reducible assumption)))
          (first
            | (go_at_call 115; with_reducible refine (CL.out _).mono ?_; rintro e u1 ⟨rfl, hb1, hd1⟩; have X1 : Km w.heap.size a b c d x y u1 := (by repeat (first | with_reducible assumption | with_reducible refine Km.drew ?_ | with_reducible refine Km.alloc ?_ _ | with_reducible refine Km.call ?_ (by with_reducible assumption) | with_reducible refine Ko6.drew ?_ | with_reducible refine Ko6.alloc ?_ _ | with_reducible refine Ko6.call ?_ (by with_reducible assumption) | with_reducible refine Kt.drew ?_ | with_reducible refine Kt.alloc ?_ _ | with_reducible refine Kt.call ?_ (by with_reducible assumption))); have q2 : Ko6 g (mid * 6) n0 n1 n2 n3 n4 n5 u1 := (by repeat (first | with_reducible assumption | with_reducible refine Km.drew ?_ | with_reducible refine Km.alloc ?_ _ | with_reducible refine Km.call ?_ (by with_reducible assumption) | with_reducible refine Ko6.drew ?_ | with_reducible refine Ko6.alloc ?_ _ | with_reducible refine Ko6.call ?_ (by with_reducible assumption) | with_reducible refine Kt.drew ?_ | with_reducible refine Kt.alloc ?_ _ | with_reducible refine Kt.call ?_ (by with_reducible assumption))); have B1 : Below w.heap.size w u1 := (by repeat (first | with_reducible assumption | with_reducible exact Below.refl _ _ | with_reducible refine Below.alloc ?_ (by first | omega | (simp <;> omega)) _ | with_reducible refine bstep ?_ (by with_reducible assumption) | with_reducible refine Below.drew ?_))))
        all_goals
          go_wp2
          go_roundw
          case rel => exact ⟨l, mid, rfl, rfl, HK.out.1, HG.out, by have := HK.out; omega, X1, B1⟩
          case measure => (have := HK.out); first | (simp [intOf]; done) | (simp [intOf]; omega)
    · obtain rfl : l = p := by omega
      have hXl := km_lt hX
      have hlh2 : ¬ ((l : Int) < (h : Int)) := by omega
      by_cases hpl : l < L.length
      · have hpl2 : (l : Int) < (L.length : Int) := by omega
        have q1 := (HRA.out.grow hB HRA.out.1).mo l hpl
        have HD := Lib.hid (HY.out hpl)
        clear HY HO HU hph hhl hlp hlh
        generalize L[l] = m at q1 HD
        clear hpl
        obtain ⟨n0, n1, n2, n3, n4, n5⟩ := m
        dsimp only at q1
        have CL := Lib.hid (fun W => mcmp_any (n0, n1, n2, n3, n4, n5) (a, b, c, d, x, y) W)
        dsimp only at CL
        have HZ := Lib.hid ((cmpMZ_0 (n0, n1, n2, n3, n4, n5) (a, b, c, d, x, y)).trans HD.out)
        generalize cmpMZ (n0, n1, n2, n3, n4, n5) (a, b, c, d, x, y) = t at CL HZ
        have q1c := q1.cells
        have hXc := hX.cells
        obtain ⟨r, hr⟩ : ∃ r, r = decide ((a, b, c, d, x, y) ∈ L) := ⟨_, rfl⟩
        rw [← hr] at HZ
        have HRR := Lib.hid hr
        have hz := HZ.out
        clear HD hr
        go_wp2_with fail
        go_region_held3 (fun W => (W.cell? ⟨w.heap.size, 0, none⟩ = some (.int .i64 a) ∧ W.cell? ⟨w.heap.size, 1, none⟩ = some (.int .i64 b) ∧ W.cell? ⟨w.heap.size, 2, none⟩ = some (.int .i64 c) ∧ W.cell? ⟨w.heap.size, 3, none⟩ = some (.int .i64 d) ∧ W.cell? ⟨w.heap.size, 4, none⟩ = some (.int .i64 x) ∧ W.cell? ⟨w.heap.size, 5, none⟩ = some (.int .i64 y)) ∧ (W.cell? ⟨g, l * 6, none⟩ = some (.int .i64 n0) ∧ W.cell? ⟨g, l * 6 + 1, none⟩ = some (.int .i64 n1) ∧ W.cell? ⟨g, l * 6 + 2, none⟩ = some (.int .i64 n2) ∧ W.cell? ⟨g, l * 6 + 3, none⟩ = some (.int .i64 n3) ∧ W.cell? ⟨g, l * 6 + 4, none⟩ = some (.int .i64 n4) ∧ W.cell? ⟨g, l * 6 + 5, none⟩ = some (.int .i64 n5))) ((refine And.intro (Km.cells ?_) (Ko6.cells ?_)) <;> repeat (first | with_reducible assumption | with_reducible refine Km.drew ?_ | with_reducible refine Km.alloc ?_ _ | with_reducible refine Km.call ?_ (by with_reducible assumption) | with_reducible refine Ko6.drew ?_ | with_reducible refine Ko6.alloc ?_ _ | with_reducible refine Ko6.call ?_ (by with_reducible assumption) | with_reducible refine Kt.drew ?_ | with_reducible refine Kt.alloc ?_ _ | with_reducible refine Kt.call ?_ (by with_reducible assumption)))
          (first
            | (go_at_call 115; with_reducible refine (CL.out _).mono ?_; rintro e u1 ⟨rfl, hb1, hd1⟩; have X1 : Km w.heap.size a b c d x y u1 := (by repeat (first | with_reducible assumption | with_reducible refine Km.drew ?_ | with_reducible refine Km.alloc ?_ _ | with_reducible refine Km.call ?_ (by with_reducible assumption) | with_reducible refine Ko6.drew ?_ | with_reducible refine Ko6.alloc ?_ _ | with_reducible refine Ko6.call ?_ (by with_reducible assumption) | with_reducible refine Kt.drew ?_ | with_reducible refine Kt.alloc ?_ _ | with_reducible refine Kt.call ?_ (by with_reducible assumption))); have q2 : Ko6 g (l * 6) n0 n1 n2 n3 n4 n5 u1 := (by repeat (first | with_reducible assumption | with_reducible refine Km.drew ?_ | with_reducible refine Km.alloc ?_ _ | with_reducible refine Km.call ?_ (by with_reducible assumption) | with_reducible refine Ko6.drew ?_ | with_reducible refine Ko6.alloc ?_ _ | with_reducible refine Ko6.call ?_ (by with_reducible assumption) | with_reducible refine Kt.drew ?_ | with_reducible refine Kt.alloc ?_ _ | with_reducible refine Kt.call ?_ (by with_reducible assumption))); have B1 : Below w.heap.size w u1 := (by repeat (first | with_reducible assumption | with_reducible exact Below.refl _ _ | with_reducible refine Below.alloc ?_ (by first | omega | (simp <;> omega)) _ | with_reducible refine bstep ?_ (by with_reducible assumption) | with_reducible refine Below.drew ?_))))
        all_goals
          go_wp2
          go_ret2
          exact ⟨by rw [← HRR.out]; rfl, by repeat (first | with_reducible assumption | with_reducible exact Below.refl _ _ | with_reducible refine Below.alloc ?_ (by first | omega | (simp <;> omega)) _ | with_reducible refine bstep ?_ (by with_reducible assumption) | with_reducible refine Below.drew ?_)⟩
      · have hpl2 : ¬ ((l : Int) < (L.length : Int)) := by omega
        have hpl3 : decide (l < L.length) = false := decide_eq_false hpl
        have HF := Lib.hid (HO.out hpl)
        clear HY HO HU hph hhl hlp hlh hpl
        go_wp2_with fail
        go_quiet (fail)
        go_wp2
        go_ret2
        exact ⟨by first | (rw [HF.out]; rfl) | rfl | rw [HF.out], by repeat (first | with_reducible assumption | with_reducible exact Below.refl _ _ | with_reducible refine Below.alloc ?_ (by first | omega | (simp <;> omega)) _ | with_reducible refine bstep ?_ (by with_reducible assumption) | with_reducible refine Below.drew ?_ | with_reducible refine below_drewN ?_ _)⟩

def meB (f A B C : Int) (xs ys : List M6) : Bool := grpB f A B C xs && grpB f A B C ys
def meL (f A B C : Int) (xs ys : List M6) : List M6 := bif meB f A B C xs ys then xs.filter (fun m => decide (m ∈ ys)) else []
theorem meL_len (f A B C : Int) (xs ys : List M6) : (meL f A B C xs ys).length ≤ 768 := by
  unfold meL meB
  rcases h : grpB f A B C xs with _ | _
  · simp
  · rcases grpB f A B C ys with _ | _
    · simp
    · exact Nat.le_trans (List.length_filter_le _ _) (grp_len h)
def MtInv (p g cap : Nat) (L : List M6) (W : World) : Prop := (p < W.heap.size ∧ W.cell? ⟨p, 0, none⟩ = some (.slice (some ⟨g, 0, none⟩) L.length cap)) ∧ IRow g (L.length * 6) (fm L) W
theorem IRow.far {g N : Nat} {F : Nat → Int} {W : World} {q : Addr} {u : Value} (h : IRow g N F W) (hq : q.block ≠ g) : IRow g N F (W.setCell q u) := by
  have hh : (W.setCell q u).heap[g]? = W.heap[g]? := Below.heap_setCell _ _ _ _ (by omega)
  exact ⟨by simpa [World.setCell] using h.1, fun t ht => ⟨(World.cell?_of_block (w := W) hh).trans (h.at t ht), (World.frozen?_of_block (w := W) hh).trans (h.free t ht)⟩⟩
theorem mt_stays {p g cap g1 : Nat} {L : List M6} (hp : g1 ≠ p) (hg : g1 ≠ g) : Stays g1 (MtInv p g cap L) := by
  refine ⟨fun W w1 h hb => ⟨⟨Nat.lt_of_lt_of_le h.1.1 hb.size, by rw [hb.cell (p := ⟨p, 0, none⟩) h.1.1]; exact h.1.2⟩, h.2.call hb⟩, fun W q u hq h => ?_⟩
  have hh : (W.setCell q u).heap[p]? = W.heap[p]? := Below.heap_setCell _ _ _ _ (by omega)
  exact ⟨⟨by simpa [World.setCell] using h.1.1, (World.cell?_of_block (w := W) hh).trans h.1.2⟩, h.2.far (by omega)⟩
set_option maxRecDepth 100000 in
set_option maxHeartbeats 4000000 in
theorem meetC_any {p g cap : Nat} {L L0 : List M6} (hU : Up L) (hn : L.length ≤ 768) : PredM p (fun m => !decide (m ∈ L)) L0 (MtInv p g cap L) := by
  intro a b c d x y w _ hI
  obtain ⟨⟨hp, hc⟩, hR⟩ := hI
  have BA : Below w.heap.size w (w.alloc (.cells #[.int .i64 a, .int .i64 b, .int .i64 c, .int .i64 d, .int .i64 x, .int .i64 y] 115)) := (Below.refl _ _).alloc (Nat.le_refl _) _
  have X0 : Km w.heap.size a b c d x y (w.alloc (.cells #[.int .i64 a, .int .i64 b, .int .i64 c, .int .i64 d, .int .i64 x, .int .i64 y] 115)) := Km.at _ rfl
  have X0c := X0.cells
  have CB := Lib.hid (bsearch_any (cap := cap) a b c d x y (hR.call BA) hU hn)
  obtain ⟨r, hr⟩ : ∃ r, r = decide ((a, b, c, d, x, y) ∈ L) := ⟨_, rfl⟩
  rw [← hr] at CB
  have HRR := Lib.hid hr
  clear hr
  generalize plM L (a, b, c, d, x, y) = pl at CB
  clear hR hU hn X0
  go_enter Tryz.func113, Tryz.ntmps113
  go_wp2_with fail
  refine CB.out.mono ?_
  rintro e w2 ⟨rfl, hb2⟩
  have B2 := bstep BA hb2
  clear hb2 CB X0c BA
  go_wp2
  go_ret
  exact ⟨by rw [← HRR.out]; rfl, B2⟩
set_option maxRecDepth 100000 in
set_option maxHeartbeats 8000000 in
theorem implMeet_any {lo hi lo' hi' : Nat} {v v' : Value} {xs ys : List M6} {w : World} (f A B C : Int) (h : SRow lo hi 6 v xs.length (fm xs) w) (h' : SRow lo' hi' 6 v' ys.length (fm ys) w) (hn : xs.length ≤ 1048576) (hn' : ys.length ≤ 1048576) (hU : UnitOK w) :
    Calls Tryz.prog 33 #[.int .i64 f, .agg #[.int .i64 A, .int .i64 B, .int .i64 C], v, v'] w (LAns 6 (meL f A B C xs ys).length (fm (meL f A B C xs ys)) (cod6 f A B C (meB f A B C xs ys)) w) := by
  have HN := Lib.hid (show xs.length ≤ 1048576 ∧ ys.length ≤ 1048576 from ⟨hn, hn'⟩)
  have L0 : Kt w.heap.size A B C (w.alloc (.cells #[.int .i64 A, .int .i64 B, .int .i64 C] 25)) := Kt.at _ rfl
  have B0 : Below w.heap.size w (w.alloc (.cells #[.int .i64 A, .int .i64 B, .int .i64 C] 25)) := (Below.refl _ _).alloc (Nat.le_refl _) _
  have A0 : SRow lo hi 6 v xs.length (fm xs) (w.alloc (.cells #[.int .i64 A, .int .i64 B, .int .i64 C] 25)) := h.grow ((Below.refl w.heap.size w).alloc (Nat.le_refl _) _) h.1
  have U0 : UnitOK (w.alloc (.cells #[.int .i64 A, .int .i64 B, .int .i64 C] 25)) := Kq.alloc hU _
  have L0c := L0.cells
  have HU := Lib.hid hU
  have HA' := Lib.hid h'
  have CG := Lib.hid (groupOf_any f A B C A0 hn U0)
  clear h h' hn hn' hU A0 U0
  rcases cod6_cases f A B C xs with ⟨hg, hc⟩ | ⟨hg, hc⟩
  case inr =>
    have HG := Lib.hid hg
    have HZ := Lib.hid (show (meL f A B C xs ys).length = 0 by simp [meL, meB, hg])
    have HC : Hid (cod6 f A B C (grpB f A B C xs) = cod6 f A B C (meB f A B C xs ys)) := Lib.hid (by simp [meB, hg])
    clear hg
    go_enter Tryz.func33, Tryz.ntmps33
    go_wp2_with fail
    refine CG.out.mono ?_
    rintro e w1 ⟨v1, rfl, _, hv, hb1⟩
    have hv1 := hv HG.out
    subst hv1
    have B1 := bstep B0 hb1
    clear hv hb1 B0 L0 L0c CG
    generalize cod6 f A B C (grpB f A B C xs) = cc at hc HC
    go_wp2
    go_ret2
    exact LAns.bad HZ.out HC.out B1
  have HG := Lib.hid hg
  have HC := Lib.hid hc
  clear hg hc
  rcases cod6_cases f A B C ys with ⟨hg, hc⟩ | ⟨hg, hc⟩
  case inr =>
    have HG2 := Lib.hid hg
    have HZ := Lib.hid (show (meL f A B C xs ys).length = 0 by simp [meL, meB, hg])
    have HC2 : Hid (cod6 f A B C (grpB f A B C ys) = cod6 f A B C (meB f A B C xs ys)) := Lib.hid (by simp [meB, hg, HG.out])
    clear hg
    go_enter Tryz.func33, Tryz.ntmps33
    go_wp2_with fail
    refine CG.out.mono ?_
    rintro e w1 ⟨v1, rfl, _, _, hb1⟩
    rw [HC.out]
    have B1 := bstep B0 hb1
    have L1 := L0.call hb1
    have U1 : UnitOK w1 := Kq.call HU.out B1
    have A1 := HA'.out.grow B1 HA'.out.1
    have L1c := L1.cells
    have CG2 := Lib.hid (groupOf_any f A B C A1 HN.out.2 U1)
    clear hb1 B0 L0 L0c CG U1 A1
    go_wp2_with fail
    refine CG2.out.mono ?_
    rintro e w2 ⟨v2, rfl, _, hv, hb2⟩
    have hv2 := hv HG2.out
    subst hv2
    have B2 := bstep B1 hb2
    have z2 := B2.size
    clear hv hb2 B1 L1 L1c CG2
    generalize cod6 f A B C (grpB f A B C ys) = cc at hc HC2
    go_wp2
    go_ret2
    exact LAns.bad HZ.out HC2.out (by repeat (first | with_reducible assumption | with_reducible exact Below.refl _ _ | with_reducible refine Below.setCell ?_ (by first | omega | (simp <;> omega)) _ | with_reducible refine Below.alloc ?_ (by first | omega | (simp <;> omega)) _ | with_reducible refine bstep ?_ (by with_reducible assumption) | with_reducible refine Below.drew ?_))
  have HG2 := Lib.hid hg
  have HC2 := Lib.hid hc
  have HCC : Hid (cod6 f A B C (meB f A B C xs ys) = 0) := Lib.hid (by simp [meB, HG.out, hg]; rw [← hc, hg])
  clear hg hc
  go_enter Tryz.func33, Tryz.ntmps33
  go_wp2_with fail
  refine CG.out.mono ?_
  rintro e w1 ⟨v1, rfl, hr, _, hb1⟩
  rw [HC.out]
  have O1 := hr HG.out
  have B1 := bstep B0 hb1
  have L1 := L0.call hb1
  have U1 : UnitOK w1 := Kq.call HU.out B1
  have A1 := HA'.out.grow B1 HA'.out.1
  have L1c := L1.cells
  have CG2 := Lib.hid (groupOf_any f A B C A1 HN.out.2 U1)
  clear hr hb1 B0 L0 L0c CG U1 A1
  go_wp2_with fail
  refine CG2.out.mono ?_
  rintro e w2 ⟨v2, rfl, hr2, _, hb2⟩
  rw [HC2.out]
  have O2 := hr2 HG2.out
  have B2 := bstep B1 hb2
  have O1b := ownsRow_call O1 hb2
  obtain ⟨g1, cap1, rfl, hb1g, hcl1, hcm1⟩ := own_block O1 (grp_pos HG.out)
  obtain ⟨g2, cap2, rfl, hb2g, hcl2, hcm2⟩ := own_block O2 (grp_pos HG2.out)
  have hg1 : g1 < w1.heap.size := (KOw.lt (show KOw g1 _ cap1 _ xs w1 from O1)).2
  have hg2 : g2 < w2.heap.size := (KOw.lt (show KOw g2 _ cap2 _ ys w2 from O2)).2
  obtain ⟨g1', c1', e1, _, _, r1⟩ := (SRow.big6 O1b HN.out.1).2.2.resolve_left (fun h => by have := grp_pos HG.out; omega)
  simp only [Value.slice.injEq, Option.some.injEq, Addr.mk.injEq, and_true, true_and] at e1
  obtain ⟨rfl, e1⟩ := e1
  clear e1
  obtain ⟨g2', c2', e2, _, _, r2⟩ := (SRow.big6 O2 HN.out.2).2.2.resolve_left (fun h => by have := grp_pos HG2.out; omega)
  simp only [Value.slice.injEq, Option.some.injEq, Addr.mk.injEq, and_true, true_and] at e2
  obtain ⟨rfl, e2⟩ := e2
  clear e2
  have z1 := hb2.size
  have HB := Lib.hid (show w.heap.size + 1 ≤ g1 ∧ g1 < w1.heap.size ∧ w1.heap.size ≤ g2 ∧ g2 < w2.heap.size ∧ w1.heap.size ≤ w2.heap.size from ⟨by simpa using hb1g, hg1, hb2g, hg2, z1⟩)
  have HCAP := Lib.hid (show xs.length ≤ cap1 ∧ cap1 ≤ maxLen from ⟨hcl1, hcm1⟩)
  have BP : Below w.heap.size w (w2.alloc (.cells #[.slice (some ⟨g2, 0, none⟩) ys.length cap2] 104)) := B2.alloc B2.size _
  have BW : Below w2.heap.size w2 (w2.alloc (.cells #[.slice (some ⟨g2, 0, none⟩) ys.length cap2] 104)) := (Below.refl _ _).alloc (Nat.le_refl _) _
  have R1 := r1.call BW
  have IV : MtInv w2.heap.size g2 cap2 ys (w2.alloc (.cells #[.slice (some ⟨g2, 0, none⟩) ys.length cap2] 104)) := ⟨⟨by simp, by simp [go_sem]⟩, r2.call BW⟩
  have CD := Lib.hid (deleteFM_any (cap := cap1) (meetC_any (p := w2.heap.size) (g := g2) (cap := cap2) (L0 := xs) (grp_ok HG2.out).2.2 (grp_len HG2.out)) (mt_stays (by omega) (by omega)) IV R1 (grp_len HG.out) hcl1 hcm1)
  clear hr2 hb2 B1 L1 L1c CG2 O1 O2 O1b hb1g hcl1 hcm1 hb2g hcl2 hcm2 hg1 hg2 r1 r2 z1 BW R1 IV B2
  go_wp2_with fail
  refine CD.out.mono ?_
  rintro e w5 ⟨cap5, rfl, r5, _, hb5⟩
  have B5 := BP.trans (hb5.mono (by have := HB.out; omega))
  have HE := Lib.hid (show meL f A B C xs ys = xs.filter (fun v => !!decide (v ∈ ys)) by simp [meL, meB, HG.out, HG2.out])
  have HLEN := Lib.hid (meL_len f A B C xs ys)
  have S5 : SRow g1 w5.heap.size 6 (.slice (some ⟨g1, 0, none⟩) (meL f A B C xs ys).length cap5) (meL f A B C xs ys).length (fm (meL f A B C xs ys)) w5 := by
    rw [HE.out]
    exact ⟨Nat.le_refl _, by have := HLEN.out; rw [HE.out] at this; omega, .inr ⟨g1, cap5, rfl, Nat.le_refl _, r5.1, r5⟩⟩
  rw [← HE.out]
  clear r5 hb5 CD BP
  go_wp2_with fail
  refine (asMotions_any S5 (by have := HLEN.out; omega)).mono ?_
  rintro e w6 ⟨v6, rfl, hr6, hb6⟩
  have z5 := B5.size
  have B6 := bstep B5 hb6
  have S6 : SRow w.heap.size w6.heap.size 6 v6 (meL f A B C xs ys).length (fm (meL f A B C xs ys)) w6 := SRow.big6 (ownsRow_lower hr6 z5) (by have := HLEN.out; omega)
  clear S5 hr6 hb6 B5 z5
  go_wp2
  go_ret2
  exact ⟨_, ret_pair (by rfl) HCC.out.symm, S6, B6⟩

set_option maxRecDepth 100000 in
set_option maxHeartbeats 16000000 in
theorem specMeet_any {lo hi lo' hi' : Nat} {v v' : Value} {xs ys : List M6} {w : World} (f A B C : Int) (h : SRow lo hi 6 v xs.length (fm xs) w) (h' : SRow lo' hi' 6 v' ys.length (fm ys) w) (hn : xs.length ≤ 1048576) (hn' : ys.length ≤ 1048576) :
    Calls Tryz.prog 34 #[.int .i64 f, .agg #[.int .i64 A, .int .i64 B, .int .i64 C], v, v'] w (LAns 6 (meL f A B C xs ys).length (fm (meL f A B C xs ys)) (cod6 f A B C (meB f A B C xs ys)) w) := by
  obtain ⟨i0, hinf, hz0, hz1, hz2⟩ := info_parts infoMo6
  have HN := Lib.hid (show xs.length ≤ 1048576 ∧ ys.length ≤ 1048576 from ⟨hn, hn'⟩)
  have HA := Lib.hid h
  have HA' := Lib.hid h'
  have L0 : Kt w.heap.size A B C (w.alloc (.cells #[.int .i64 A, .int .i64 B, .int .i64 C] 25)) := Kt.at _ rfl
  have B0 : Below w.heap.size w (w.alloc (.cells #[.int .i64 A, .int .i64 B, .int .i64 C] 25)) := (Below.refl _ _).alloc (Nat.le_refl _) _
  have L0c := L0.cells
  have CG : Hid (∀ W, Below w.heap.size w W → Calls Tryz.prog 30 #[.int .i64 f, .agg #[.int .i64 A, .int .i64 B, .int .i64 C], v] W fun e w' => e = .returned (.bool (grpB f A B C xs)) ∧ Below W.heap.size W w') := Lib.hid (fun W hW => specIsGroup_any f A B C (HA.out.grow hW HA.out.1) HN.out.1)
  have CH : Hid (∀ W, Below w.heap.size w W → Calls Tryz.prog 30 #[.int .i64 f, .agg #[.int .i64 A, .int .i64 B, .int .i64 C], v'] W fun e w' => e = .returned (.bool (grpB f A B C ys)) ∧ Below W.heap.size W w') := Lib.hid (fun W hW => specIsGroup_any f A B C (HA'.out.grow hW HA'.out.1) HN.out.2)
  have CC := Lib.hid (fun W => l06Code_any f A B C (meB f A B C xs ys) W)
  have hcc := cod6_cases f A B C xs
  have hcd := cod6_cases f A B C ys
  obtain ⟨ao, cap, rfl⟩ := srow_shape h
  obtain ⟨ao', cap', rfl⟩ := srow_shape h'
  clear h h' hn hn'
  rcases hcc with ⟨hg, hc⟩ | ⟨hg, hc⟩
  case inr =>
    have HZ := Lib.hid (show (meL f A B C xs ys).length = 0 by simp [meL, meB, hg])
    have HC : Hid (cod6 f A B C false = cod6 f A B C (meB f A B C xs ys)) := Lib.hid (by simp [meB, hg])
    rw [show meB f A B C xs ys = false by simp [meB, hg]] at CC
    rw [hg] at CG hc
    clear hg hcd CH
    generalize cod6 f A B C false = cc at CC HC hc
    go_enter Tryz.func34, Tryz.ntmps34
    go_wp2_with fail
    refine wp_region_held_drew (S := (fun W => (W.cell? ⟨w.heap.size, 0, none⟩ = some (.int .i64 A) ∧ W.cell? ⟨w.heap.size, 1, none⟩ = some (.int .i64 B) ∧ W.cell? ⟨w.heap.size, 2, none⟩ = some (.int .i64 C)))) (by kernel_rfl) ?_ (fun hHeld => ?_)
    · exact L0.cells
    refine wpAnyH_take (i := 0) (v := ?_) (by (simp only [List.getElem?_toArray, List.getElem?_cons_succ, List.getElem?_cons_zero]); rfl) (by kernel_rfl) (by kernel_rfl) (by kernel_rfl) (by exact fun _ _ _ h => h) (Or.inl ⟨by rfl, ?_⟩) (by assumption) ?_
    rotate_left 1
    · (intro w hSw; (try dsimp only at hSw); go_simp) <;> with_reducible rfl
    (try simp only [Act.put, List.setIfInBounds_toArray, List.set_cons_zero, List.set_cons_succ])
    refine wpAnyH_take (i := 1) (v := ?_) (by (simp only [List.getElem?_toArray, List.getElem?_cons_succ, List.getElem?_cons_zero]); rfl) (by kernel_rfl) (by kernel_rfl) (by kernel_rfl) (by exact fun _ _ _ h => h) (Or.inl ⟨by rfl, ?_⟩) (by assumption) ?_
    rotate_left 1
    · (intro w hSw; (try dsimp only at hSw); go_simp) <;> with_reducible rfl
    (try simp only [Act.put, List.setIfInBounds_toArray, List.set_cons_zero, List.set_cons_succ])
    refine wpAnyH_take (i := 2) (v := ?_) (by (simp only [List.getElem?_toArray, List.getElem?_cons_succ, List.getElem?_cons_zero]); rfl) (by kernel_rfl) (by kernel_rfl) (by kernel_rfl) (by exact fun _ _ _ h => h) (Or.inl ⟨by rfl, ?_⟩) (by assumption) ?_
    rotate_left 1
    · (intro w hSw; (try dsimp only at hSw); go_simp) <;> with_reducible rfl
    (try simp only [Act.put, List.setIfInBounds_toArray, List.set_cons_zero, List.set_cons_succ])
    refine wpAnyH_take (i := 3) (v := ?_) (by (simp only [List.getElem?_toArray, List.getElem?_cons_succ, List.getElem?_cons_zero]); rfl) (by kernel_rfl) (by kernel_rfl) (by kernel_rfl) (by exact fun _ _ _ h => h) (Or.inl ⟨by rfl, ?_⟩) (by assumption) ?_
    rotate_left 1
    · (intro w hSw; (try dsimp only at hSw); go_simp) <;> with_reducible rfl
    (try simp only [Act.put, List.setIfInBounds_toArray, List.set_cons_zero, List.set_cons_succ])
    refine wpAnyH_take (i := 4) (v := ?_) (by (simp only [List.getElem?_toArray, List.getElem?_cons_succ, List.getElem?_cons_zero]); rfl) (by kernel_rfl) (by kernel_rfl) (by kernel_rfl) (by exact fun _ _ _ h => h) (Or.inl ⟨by rfl, ?_⟩) (by assumption) ?_
    rotate_left 1
    · (intro w hSw; (try dsimp only at hSw); go_simp) <;> with_reducible rfl
    (try simp only [Act.put, List.setIfInBounds_toArray, List.set_cons_zero, List.set_cons_succ])
    refine wpAnyH_ready (rs := [5]) (by kernel_rfl) (by simp) ?_
    refine AllReadyH.cons (o := _) (by (simp only [List.getElem?_toArray, List.getElem?_cons_succ, List.getElem?_cons_zero]); rfl) (fun K hK => ?_) AllReadyH.nil
    go_simp
    go_at_call 30
    refine (CG.out _ (Below.drew B0)).mono ?_
    rintro e u1 ⟨rfl, hb1⟩
    have L1 : Kt (w.heap.size) A B C u1 := (by repeat (first | with_reducible assumption | with_reducible refine Kt.drew ?_ | with_reducible refine Kt.alloc ?_ _ | with_reducible refine Kt.call ?_ (by with_reducible assumption)))
    have B1 : Below w.heap.size w u1 := (by repeat (first | with_reducible assumption | with_reducible refine Below.drew ?_ | with_reducible refine bstep ?_ (by with_reducible assumption)))
    clear hb1
    go_wp2_with fail
    refine hK.out _ _ ?_ (fun hHeld => ?_)
    · (try dsimp only)
      exact L1.cells
    clear hK K
    (try simp only [Act.put, List.setIfInBounds_toArray, List.set_cons_zero, List.set_cons_succ])
    refine wpAnyH_take (i := 6) (v := ?_) (by (simp only [List.getElem?_toArray, List.getElem?_cons_succ, List.getElem?_cons_zero]); rfl) (by kernel_rfl) (by kernel_rfl) (by kernel_rfl) (by exact fun _ _ _ h => h) (Or.inl ⟨by rfl, ?_⟩) (by assumption) ?_
    rotate_left 1
    · (intro w hSw; (try dsimp only at hSw); go_simp) <;> with_reducible rfl
    (try simp only [Act.put, List.setIfInBounds_toArray, List.set_cons_zero, List.set_cons_succ])
    refine wpAnyH_take (i := 7) (v := undef) (by (simp only [List.getElem?_toArray, List.getElem?_cons_succ, List.getElem?_cons_zero]); rfl) (by kernel_rfl) (by kernel_rfl) (by kernel_rfl) (by exact fun _ _ _ h => h) (Or.inr ⟨by rfl, rfl⟩) (by assumption) ?_
    (try simp only [Act.put, List.setIfInBounds_toArray, List.set_cons_zero, List.set_cons_succ])
    refine wpAnyH_take (i := 8) (v := undef) (by (simp only [List.getElem?_toArray, List.getElem?_cons_succ, List.getElem?_cons_zero]); rfl) (by kernel_rfl) (by kernel_rfl) (by kernel_rfl) (by exact fun _ _ _ h => h) (Or.inr ⟨by rfl, rfl⟩) (by assumption) ?_
    (try simp only [Act.put, List.setIfInBounds_toArray, List.set_cons_zero, List.set_cons_succ])
    refine wpAnyH_take (i := 9) (v := undef) (by (simp only [List.getElem?_toArray, List.getElem?_cons_succ, List.getElem?_cons_zero]); rfl) (by kernel_rfl) (by kernel_rfl) (by kernel_rfl) (by exact fun _ _ _ h => h) (Or.inr ⟨by rfl, rfl⟩) (by assumption) ?_
    (try simp only [Act.put, List.setIfInBounds_toArray, List.set_cons_zero, List.set_cons_succ])
    refine wpAnyH_take (i := 10) (v := undef) (by (simp only [List.getElem?_toArray, List.getElem?_cons_succ, List.getElem?_cons_zero]); rfl) (by kernel_rfl) (by kernel_rfl) (by kernel_rfl) (by exact fun _ _ _ h => h) (Or.inr ⟨by rfl, rfl⟩) (by assumption) ?_
    (try simp only [Act.put, List.setIfInBounds_toArray, List.set_cons_zero, List.set_cons_succ])
    refine wpAnyH_take (i := 11) (v := ?_) (by (simp only [List.getElem?_toArray, List.getElem?_cons_succ, List.getElem?_cons_zero]); rfl) (by kernel_rfl) (by kernel_rfl) (by kernel_rfl) (by exact fun _ _ _ h => h) (Or.inl ⟨by rfl, ?_⟩) (by assumption) ?_
    rotate_left 1
    · (intro w hSw; (try dsimp only at hSw); go_simp) <;> with_reducible rfl
    (try simp only [Act.put, List.setIfInBounds_toArray, List.set_cons_zero, List.set_cons_succ])
    refine wpAnyH_ready (rs := [12]) (by kernel_rfl) (by simp) ?_
    refine AllReadyH.cons (o := _) (by (simp only [List.getElem?_toArray, List.getElem?_cons_succ, List.getElem?_cons_zero]); rfl) (fun K hK => ?_) AllReadyH.nil
    go_simp
    go_at_call 98
    refine (CC.out _).mono ?_
    rintro e u2 ⟨rfl, hb2⟩
    have L2 : Kt (w.heap.size) A B C u2 := (by repeat (first | with_reducible assumption | with_reducible refine Kt.drew ?_ | with_reducible refine Kt.alloc ?_ _ | with_reducible refine Kt.call ?_ (by with_reducible assumption)))
    have B2 : Below w.heap.size w u2 := (by repeat (first | with_reducible assumption | with_reducible refine Below.drew ?_ | with_reducible refine bstep ?_ (by with_reducible assumption)))
    clear hb2
    go_wp2_with fail
    refine hK.out _ _ ?_ (fun hHeld => ?_)
    · (try dsimp only)
      exact L2.cells
    clear hK K
    (try simp only [Act.put, List.setIfInBounds_toArray, List.set_cons_zero, List.set_cons_succ])
    refine wpAnyH_take (i := 13) (v := ?_) (by (simp only [List.getElem?_toArray, List.getElem?_cons_succ, List.getElem?_cons_zero]); rfl) (by kernel_rfl) (by kernel_rfl) (by kernel_rfl) (by exact fun _ _ _ h => h) (Or.inl ⟨by rfl, ?_⟩) (by assumption) ?_
    rotate_left 1
    · (intro w hSw; (try dsimp only at hSw); go_simp) <;> with_reducible rfl
    (try simp only [Act.put, List.setIfInBounds_toArray, List.set_cons_zero, List.set_cons_succ])
    refine wpAnyH_done (by kernel_rfl) ?_ _
    go_wp2
    go_ret2
    exact LAns.bad HZ.out HC.out (by repeat (first | with_reducible assumption | with_reducible exact Below.refl _ _ | with_reducible refine Below.alloc ?_ (by first | omega | (simp <;> omega)) _ | with_reducible refine bstep ?_ (by with_reducible assumption) | with_reducible refine Below.drew ?_))
  rcases hcd with ⟨hg2, hc2⟩ | ⟨hg2, hc2⟩
  case inr =>
    have HZ := Lib.hid (show (meL f A B C xs ys).length = 0 by simp [meL, meB, hg2])
    have HC : Hid (cod6 f A B C false = cod6 f A B C (meB f A B C xs ys)) := Lib.hid (by simp [meB, hg2])
    rw [show meB f A B C xs ys = false by simp [meB, hg2]] at CC
    rw [hg] at CG
    rw [hg2] at CH hc2
    clear hg hg2 hc
    generalize cod6 f A B C false = cc at CC HC hc2
    go_enter Tryz.func34, Tryz.ntmps34
    go_wp2_with fail
    go_region_held3 (fun W => (W.cell? ⟨w.heap.size, 0, none⟩ = some (.int .i64 A) ∧ W.cell? ⟨w.heap.size, 1, none⟩ = some (.int .i64 B) ∧ W.cell? ⟨w.heap.size, 2, none⟩ = some (.int .i64 C))) ((refine Kt.cells ?_) <;> repeat (first | with_reducible assumption | with_reducible refine Kt.drew ?_ | with_reducible refine Kt.alloc ?_ _ | with_reducible refine Kt.call ?_ (by with_reducible assumption)))
      (first
        | (go_at_call 30; with_reducible refine (CG.out _ (by repeat (first | with_reducible assumption | with_reducible exact Below.refl _ _ | with_reducible refine Below.alloc ?_ (by first | omega | (simp <;> omega)) _ | with_reducible refine bstep ?_ (by with_reducible assumption) | with_reducible refine Below.drew ?_))).mono ?_; rintro e u1 ⟨rfl, hb1⟩; have L1 : Kt w.heap.size A B C u1 := (by repeat (first | with_reducible assumption | with_reducible refine Kt.drew ?_ | with_reducible refine Kt.alloc ?_ _ | with_reducible refine Kt.call ?_ (by with_reducible assumption))); have B1 : Below w.heap.size w u1 := (by repeat (first | with_reducible assumption | with_reducible exact Below.refl _ _ | with_reducible refine Below.alloc ?_ (by first | omega | (simp <;> omega)) _ | with_reducible refine bstep ?_ (by with_reducible assumption) | with_reducible refine Below.drew ?_)))
        | (go_at_call 30; with_reducible refine (CH.out _ (by repeat (first | with_reducible assumption | with_reducible exact Below.refl _ _ | with_reducible refine Below.alloc ?_ (by first | omega | (simp <;> omega)) _ | with_reducible refine bstep ?_ (by with_reducible assumption) | with_reducible refine Below.drew ?_))).mono ?_; rintro e u2 ⟨rfl, hb2⟩; have L2 : Kt w.heap.size A B C u2 := (by repeat (first | with_reducible assumption | with_reducible refine Kt.drew ?_ | with_reducible refine Kt.alloc ?_ _ | with_reducible refine Kt.call ?_ (by with_reducible assumption))); have B2 : Below w.heap.size w u2 := (by repeat (first | with_reducible assumption | with_reducible exact Below.refl _ _ | with_reducible refine Below.alloc ?_ (by first | omega | (simp <;> omega)) _ | with_reducible refine bstep ?_ (by with_reducible assumption) | with_reducible refine Below.drew ?_)))
        | (go_at_call 98; with_reducible refine (CC.out _).mono ?_; rintro e u3 ⟨rfl, hb3⟩; have L3 : Kt w.heap.size A B C u3 := (by repeat (first | with_reducible assumption | with_reducible refine Kt.drew ?_ | with_reducible refine Kt.alloc ?_ _ | with_reducible refine Kt.call ?_ (by with_reducible assumption))); have B3 : Below w.heap.size w u3 := (by repeat (first | with_reducible assumption | with_reducible exact Below.refl _ _ | with_reducible refine Below.alloc ?_ (by first | omega | (simp <;> omega)) _ | with_reducible refine bstep ?_ (by with_reducible assumption) | with_reducible refine Below.drew ?_))))
    all_goals
      go_wp2
      go_ret2
      exact LAns.bad HZ.out HC.out (by repeat (first | with_reducible assumption | with_reducible exact Below.refl _ _ | with_reducible refine Below.alloc ?_ (by first | omega | (simp <;> omega)) _ | with_reducible refine bstep ?_ (by with_reducible assumption) | with_reducible refine Below.drew ?_))
  have HG := Lib.hid hg
  have HG2 := Lib.hid hg2
  have HM := Lib.hid (show meB f A B C xs ys = true by simp [meB, hg, hg2])
  have HC : Hid (cod6 f A B C (meB f A B C xs ys) = 0) := Lib.hid (by rw [HM.out, ← hg]; exact hc)
  rw [show cod6 f A B C (meB f A B C xs ys) = 0 from HC.out, HM.out] at CC
  rw [hg] at CG
  rw [hg2] at CH
  clear hg hg2 hc hc2
  have H768 := Lib.hid (grp_len HG.out)
  have h7 : (xs.length : Int) ≤ 768 := by have := H768.out; omega
  have HUP := Lib.hid (grp_ok HG2.out).2.2
  go_enter Tryz.func34, Tryz.ntmps34
  go_wp2_with fail
  go_region_held3 (fun W => (W.cell? ⟨w.heap.size, 0, none⟩ = some (.int .i64 A) ∧ W.cell? ⟨w.heap.size, 1, none⟩ = some (.int .i64 B) ∧ W.cell? ⟨w.heap.size, 2, none⟩ = some (.int .i64 C))) ((refine Kt.cells ?_) <;> repeat (first | with_reducible assumption | with_reducible refine Kt.drew ?_ | with_reducible refine Kt.alloc ?_ _ | with_reducible refine Kt.call ?_ (by with_reducible assumption)))
    (first
      | (go_at_call 30; with_reducible refine (CG.out _ (by repeat (first | with_reducible assumption | with_reducible exact Below.refl _ _ | with_reducible refine Below.alloc ?_ (by first | omega | (simp <;> omega)) _ | with_reducible refine bstep ?_ (by with_reducible assumption) | with_reducible refine Below.drew ?_))).mono ?_; rintro e u1 ⟨rfl, hb1⟩; have L1 : Kt w.heap.size A B C u1 := (by repeat (first | with_reducible assumption | with_reducible refine Kt.drew ?_ | with_reducible refine Kt.alloc ?_ _ | with_reducible refine Kt.call ?_ (by with_reducible assumption))); have B1 : Below w.heap.size w u1 := (by repeat (first | with_reducible assumption | with_reducible exact Below.refl _ _ | with_reducible refine Below.alloc ?_ (by first | omega | (simp <;> omega)) _ | with_reducible refine bstep ?_ (by with_reducible assumption) | with_reducible refine Below.drew ?_)))
      | (go_at_call 30; with_reducible refine (CH.out _ (by repeat (first | with_reducible assumption | with_reducible exact Below.refl _ _ | with_reducible refine Below.alloc ?_ (by first | omega | (simp <;> omega)) _ | with_reducible refine bstep ?_ (by with_reducible assumption) | with_reducible refine Below.drew ?_))).mono ?_; rintro e u2 ⟨rfl, hb2⟩; have L2 : Kt w.heap.size A B C u2 := (by repeat (first | with_reducible assumption | with_reducible refine Kt.drew ?_ | with_reducible refine Kt.alloc ?_ _ | with_reducible refine Kt.call ?_ (by with_reducible assumption))); have B2 : Below w.heap.size w u2 := (by repeat (first | with_reducible assumption | with_reducible exact Below.refl _ _ | with_reducible refine Below.alloc ?_ (by first | omega | (simp <;> omega)) _ | with_reducible refine bstep ?_ (by with_reducible assumption) | with_reducible refine Below.drew ?_)))
      | (go_at_call 98; with_reducible refine (CC.out _).mono ?_; rintro e u3 ⟨rfl, hb3⟩; have L3 : Kt w.heap.size A B C u3 := (by repeat (first | with_reducible assumption | with_reducible refine Kt.drew ?_ | with_reducible refine Kt.alloc ?_ _ | with_reducible refine Kt.call ?_ (by with_reducible assumption))); have B3 : Below w.heap.size w u3 := (by repeat (first | with_reducible assumption | with_reducible exact Below.refl _ _ | with_reducible refine Below.alloc ?_ (by first | omega | (simp <;> omega)) _ | with_reducible refine bstep ?_ (by with_reducible assumption) | with_reducible refine Below.drew ?_))))
  all_goals
    have BQ : Below w.heap.size w u3 := B3
    have zq := BQ.size
    have zk := L3.1
    clear L1 B1 L2 B2 L3 B3 L0 B0 L0c
    go_wp2_with fail
    go_loopw [11, 12] (fun s11 s12 W => ∃ k : Nat, s12 = .int .i64 (k : Int) ∧ k ≤ xs.length ∧ W.ownsRow (w.heap.size + 1) 36 6 s11 ((xs.take k).filter (fun m => decide (m ∈ ys))).length (cells6 ((xs.take k).filter (fun m => decide (m ∈ ys)))) ∧ Below w.heap.size w W) (fun _ s12 _ => xs.length - (intOf s12).toNat)
    case atStart => exact ⟨0, rfl, by omega, lit6 _ _ rfl (by omega), BQ.alloc zq _⟩
    case round =>
      clear BQ zq
      obtain ⟨k, rfl, hk, hown, hB⟩ := hrel
      by_cases hk1 : k < xs.length
      · have HPL := Lib.hid (show ((xs.take k).filter (fun m => decide (m ∈ ys))).length ≤ (xs.take k).length from List.length_filter_le _ _)
        have hk2 : (k : Int) < (xs.length : Int) := by omega
        have hk3 : (k : Int) ≤ 768 := by omega
        have hres := HA.out.2.2.resolve_left (fun h => by omega)
        have hhi := HA.out.1
        obtain ⟨g, cap', e9, _, hg, RA⟩ := hres
        simp only [Value.slice.injEq, true_and] at e9
        obtain ⟨rfl, rfl⟩ := e9
        have q1 := (RA.grow hB (by omega)).mo k hk1
        have HT := Lib.hid (show xs.take (k + 1) = xs.take k ++ [xs[k]] from List.take_succ_eq_append_getElem hk1)
        have HTL := Lib.hid (show (xs.take k).length ≤ 768 by rw [List.length_take]; omega)
        have HK := Lib.hid hk1
        clear RA hg hhi hk
        generalize xs[k] = m at q1 HT
        clear hk1
        obtain ⟨a, b, c, d, x, y⟩ := m
        dsimp only at q1
        have HPT := Lib.hid (Nat.le_trans HPL.out HTL.out)
        have HF := Lib.hid (show (xs.take (k + 1)).filter (fun m => decide (m ∈ ys)) = (xs.take k).filter (fun m => decide (m ∈ ys)) ++ if decide ((a, b, c, d, x, y) ∈ ys) = true then [(a, b, c, d, x, y)] else [] by rw [HT.out, List.filter_append]; congr 1; simp only [List.filter_cons, List.filter_nil])
        generalize (xs.take k).filter (fun m => decide (m ∈ ys)) = zs at hown HPT HF HPL
        clear HPL HTL
        have A1 := HA'.out.grow hB HA'.out.1
        have CHs := Lib.hid (l06Has_any a b c d x y A1 HUP.out HN.out.2)
        have q1c := q1.cells
        have zB := hB.size
        clear A1
        rcases hd : decide (((a, b, c, d, x, y) : M6) ∈ ys) with _ | _
        · rw [hd] at CHs HF
          clear hd
          go_wp2_with fail
          refine CHs.out.mono ?_
          rintro e w5 ⟨rfl, hb5⟩
          have O5 := ownsRow_call hown hb5
          have B5 := bstep hB hb5
          clear hb5 hown hB q1 q1c CHs
          go_wp2
          go_roundw
          case rel => exact ⟨k + 1, by go_num, by have := HK.out; omega, by rw [HF.out]; simpa using O5, B5⟩
          case measure => (have := HK.out); first | (simp [intOf]; done) | (simp [intOf]; omega)
        · rw [hd] at CHs HF
          clear hd
          go_wp2_with fail
          refine CHs.out.mono ?_
          rintro e w5 ⟨rfl, hb5⟩
          have O5 := ownsRow_call hown hb5
          have B5 := bstep hB hb5
          have q5c := (q1.call hb5).cells
          have z5 := B5.size
          clear hb5 hown hB q1 q1c CHs
          go_wp2_with (at_builtin; refine wpList_append_own _ rfl _ _ 26 rfl (w.heap.size + 1) 36 i0 (.agg #[.int .i64 0, .int .i64 0, .int .i64 0, .int .i64 0, .int .i64 0, .int .i64 0]) 6 48 Tryz.underlying26 hinf hz0 hz1 hz2 rfl (by decide) _ _ _ rfl (O5.alloc _) ⟨w5.heap.size, 0, none⟩ 1 1 [.int .i64 a, .int .i64 b, .int .i64 c, .int .i64 d, .int .i64 x, .int .i64 y] rfl rfl (new_six _ _ _ _ _ _ _ rfl) one_six (by have := HPT.out; unfold maxLen; omega) (by have := HPT.out; omega) (by (try simp); have := O5; omega) ?_; intro v9 w9 hown9 hgrow _)
          have O9 := own_next6 hown9
          have B9 : Below w.heap.size w w9 := Below.grown (Below.alloc B5 z5 _) hgrow (by simp; omega) (fun r hr => by have := (O5.lt r hr).1; omega)
          clear hown9 hgrow O5 B5
          go_wp2
          go_roundw
          case rel => exact ⟨k + 1, by go_num, by have := HK.out; omega, by rw [HF.out]; exact O9, B9⟩
          case measure => (have := HK.out); first | (simp [intOf]; done) | (simp [intOf]; omega)
      · obtain rfl : k = xs.length := by omega
        rw [List.take_length] at hown
        have e : meL f A B C xs ys = xs.filter (fun m => decide (m ∈ ys)) := by simp [meL, HM.out]
        have S9 : SRow w.heap.size wr.heap.size 6 u11 (meL f A B C xs ys).length (fm (meL f A B C xs ys)) wr := by rw [e]; exact SRow.big6 (ownsRow_lower hown (by omega)) (by have := List.length_filter_le (fun m => decide (m ∈ ys)) xs; have := H768.out; omega)
        have HS9 := Lib.hid S9
        clear hk hk1 hown e S9
        go_wp2
        go_ret2
        exact ⟨_, ret_pair (by rfl) HC.out.symm, HS9.out, hB⟩
end
end Go.Proofs.YtmadgbbkkkibcaaGreatDoor

namespace Go.Proofs.YtmadgbbkkkibcaaGreatDoor
section
open Go.RowKit
set_option linter.unusedSimpArgs false
set_option linter.unusedVariables false

set_option maxRecDepth 100000 in
set_option maxHeartbeats 8000000 in
theorem walkMeet (f A B C : Int) (v v' : Value) (xs ys : List M6) (w : World) (hA : ARow v xs w) (hm : xs.length ≤ 9223372036854775807) (hA' : ARow v' ys w) (hm' : ys.length ≤ 9223372036854775807) (hU : UnitOK w) :
    Calls Tryz.prog 9 #[.int .i64 f, .agg #[.int .i64 A, .int .i64 B, .int .i64 C], v, v'] w fun e w' => e = .returned (.bool true) ∧ Below w.heap.size w w' := by
  have L0 : Kt w.heap.size A B C (w.alloc (.cells #[.int .i64 A, .int .i64 B, .int .i64 C] 51)) := Kt.at _ rfl
  have B0 : Below w.heap.size w (w.alloc (.cells #[.int .i64 A, .int .i64 B, .int .i64 C] 51)) := (Below.refl _ _).alloc (Nat.le_refl _) _
  have HA := Lib.hid hA
  have HA' := Lib.hid hA'
  have HU := Lib.hid hU
  obtain ⟨ao, cap, rfl, _⟩ := hA
  obtain ⟨ao', cap', rfl, _⟩ := hA'
  clear hU
  by_cases hbig : xs.length ≤ 1048576
  · have hz : (if (xs.length : Int) ≤ 1048576 then 1048576 - (xs.length : Int) else -1) = 1048576 - (xs.length : Int) := if_pos (by omega)
    by_cases hbig2 : xs.length + ys.length ≤ 1048576
    · have hz2 : (if (ys.length : Int) ≤ 1048576 - (xs.length : Int) then 1048576 - (xs.length : Int) - (ys.length : Int) else -1) = 1048576 - (xs.length : Int) - (ys.length : Int) := if_pos (by omega)
      have HN := Lib.hid hbig
      have HN' := Lib.hid (show ys.length ≤ 1048576 by omega)
      have hn1 : (xs.length : Int) ≤ 1048576 := by omega
      have hn2 : 0 ≤ (xs.length : Int) := by omega
      have hn3 : (ys.length : Int) ≤ 1048576 - (xs.length : Int) := by omega
      have hn4 : 0 ≤ (ys.length : Int) := by omega
      have hk1 : ¬ ((ys.length : Int) * 6 + ((xs.length : Int) * 6 + 1) < 0) := by omega
      have hsm : (meL f A B C xs ys).length ≤ 1000000 := Nat.le_trans (meL_len f A B C xs ys) (by omega)
      have HSM := Lib.hid hsm
      have hk2 : ¬ ((((meL f A B C xs ys).length : Nat) : Int) * 6 + 1 < 0) := by omega
      have hq : (((((meL f A B C xs ys).length : Nat) : Int) * 6 + 1) != (((meL f A B C xs ys).length : Nat) : Int) * 6 + 1) = false := by simp
      clear hbig hbig2 hsm
      go_enter Tryz.func9, Tryz.ntmps9
      go_wp2_with fail
      refine (szMo_any ao xs.length cap 1048576 _ hm (by omega)).mono ?_
      rintro e w1 ⟨rfl, hb1⟩
      rw [hz]
      have L1 := L0.call hb1
      have B1 := bstep B0 hb1
      clear L0 B0 hb1
      go_wp2_with fail
      refine (szMo_any ao' ys.length cap' (1048576 - (xs.length : Int)) _ hm' (by omega)).mono ?_
      rintro e w2 ⟨rfl, hb2⟩
      rw [hz2]
      have L2 := L1.call hb2
      have B2 := bstep B1 hb2
      clear L1 B1 hb2
      have L2c := L2.cells
      go_wp2_with fail
      refine (toLat_any _ _ _ _).mono ?_
      rintro e w3 ⟨rfl, hb3⟩
      have L3 := L2.call hb3
      have B3 := bstep B2 hb3
      have A3 := HA.out.grow (w2 := w3) B3
      clear L2c
      clear L2 B2 hb3
      go_wp2_with fail
      refine (toMotionS_any A3 HN.out).mono ?_
      rintro e w4 ⟨v4, rfl, s4, hb4⟩
      have L4 := L3.call hb4
      have B4 := bstep B3 hb4
      have A'4 := HA'.out.grow (w2 := w4) B4
      clear A3
      clear L3 B3 hb4
      go_wp2_with fail
      refine (toMotionS_any A'4 HN'.out).mono ?_
      rintro e w5 ⟨v5, rfl, r5, hb5⟩
      have L5 := L4.call hb5
      have s5 := s4.call hb5
      have B5 := bstep B4 hb5
      clear A'4
      clear L4 s4 B4 hb5
      go_wp2_with fail
      refine (specMeet_any f A B C s5 r5 HN.out HN'.out).mono ?_
      rintro e w6 ⟨v6, rfl, t6, hb6⟩
      have L6 := L5.call hb6
      have B6 := bstep B5 hb6
      have A6 := HA.out.grow (w2 := w6) B6
      have L6l := Lib.hid (show w.heap.size < w6.heap.size from L6.1)
      clear L5 s5 r5 B5 hb6
      go_wp2_with fail
      refine (toMotionS_any A6 HN.out).mono ?_
      rintro e w7 ⟨v7, rfl, x7, hb7⟩
      have L7 := L6.call hb7
      have t7 := t6.call hb7
      have B7 := bstep B6 hb7
      have z7 := hb7.size
      have A'7 := HA'.out.grow (w2 := w7) B7
      clear A6
      clear L6 t6 B6 hb7
      go_wp2_with fail
      refine (toMotionS_any A'7 HN'.out).mono ?_
      rintro e w8 ⟨v8, rfl, y8, hb8⟩
      have L8 := L7.call hb8
      have t8 := t7.call hb8
      have x8 := x7.call hb8
      have B8 := bstep B7 hb8
      have z8 := hb8.size
      have L8c := L8.cells
      clear A'7
      clear L7 t7 x7 B7 hb8
      go_wp2_with fail
      refine (toLat_any _ _ _ _).mono ?_
      rintro e w9 ⟨rfl, hb9⟩
      have L9 := L8.call hb9
      have t9 := t8.call hb9
      have x9 := x8.call hb9
      have y9 := y8.call hb9
      have B9 := bstep B8 hb9
      have z9 := hb9.size
      have U9 : UnitOK w9 := Kq.call HU.out B9
      clear L8c
      clear L8 t8 x8 y8 B8 hb9
      go_wp2_with fail
      refine (implMeet_any f A B C x9 y9 HN.out HN'.out U9).mono ?_
      rintro e w10 ⟨v10, rfl, g10, hb10⟩
      have L10 := L9.call hb10
      have t10 := t9.call hb10
      have x10 := x9.call hb10
      have y10 := y9.call hb10
      have B10 := bstep B9 hb10
      have z10 := hb10.size
      clear U9
      clear L9 t9 x9 y9 B9 hb10
      go_wp2_with fail
      refine (eqMotionS_any g10 t10).mono ?_
      rintro e w11 ⟨rfl, hb11⟩
      have L11 := L10.call hb11
      have t11 := t10.call hb11
      have x11 := x10.call hb11
      have y11 := y10.call hb11
      have g11 := g10.call hb11
      have B11 := bstep B10 hb11
      have z11 := hb11.size
      have A11 := HA.out.grow (w2 := w11) B11
      clear L10 t10 x10 y10 g10 B10 hb11
      go_wp2_with fail
      refine (toMotionS_any A11 HN.out).mono ?_
      rintro e w12 ⟨v12, rfl, s12, hb12⟩
      have L12 := L11.call hb12
      have t12 := t11.call hb12
      have x12 := x11.call hb12
      have y12 := y11.call hb12
      have g12 := g11.call hb12
      have B12 := bstep B11 hb12
      have z12 := hb12.size
      clear A11
      clear L11 t11 x11 y11 g11 B11 hb12
      go_wp2_with fail
      refine (eqMotionS_any x12 s12).mono ?_
      rintro e w13 ⟨rfl, hb13⟩
      have L13 := L12.call hb13
      have t13 := t12.call hb13
      have x13 := x12.call hb13
      have y13 := y12.call hb13
      have g13 := g12.call hb13
      have B13 := bstep B12 hb13
      have z13 := hb13.size
      have A'13 := HA'.out.grow (w2 := w13) B13
      clear L12 t12 x12 y12 g12 s12 B12 hb13
      go_wp2_with fail
      refine (toMotionS_any A'13 HN'.out).mono ?_
      rintro e w14 ⟨v14, rfl, s14, hb14⟩
      have L14 := L13.call hb14
      have t14 := t13.call hb14
      have x14 := x13.call hb14
      have y14 := y13.call hb14
      have g14 := g13.call hb14
      have B14 := bstep B13 hb14
      have z14 := hb14.size
      clear A'13
      clear L13 t13 x13 y13 g13 B13 hb14
      go_wp2_with fail
      refine (eqMotionS_any y14 s14).mono ?_
      rintro e w15 ⟨rfl, hb15⟩
      have L15 := L14.call hb15
      have t15 := t14.call hb15
      have x15 := x14.call hb15
      have y15 := y14.call hb15
      have g15 := g14.call hb15
      have B15 := bstep B14 hb15
      have z15 := hb15.size
      have zB6 : w.heap.size ≤ w6.heap.size := Nat.le_of_lt L6l.out
      clear L14 t14 x14 y14 g14 s14 B14 hb15
      go_wp2_with fail
      refine (markMotionS_off 1 (by omega) (by omega) x15).mono ?_
      rintro e w16 ⟨rfl, xx, hb16, hk16⟩
      have L16 := L15.grow hb16 L6l.out
      have t16 := t15.grow hb16 (Nat.le_refl _)
      have y16 := y15.keepHi hk16 (Nat.le_refl _) hb16.size
      have g16 := g15.keepHi hk16 (by omega) hb16.size
      have B16 := B15.trans (hb16.mono zB6)
      have z16 := hb16.size
      clear xx hk16
      clear L15 t15 x15 y15 g15 B15 hb16
      go_wp2_with fail
      refine (markMotionS_off ((xs.length : Int) * 6 + 1) (by omega) (by omega) y16).mono ?_
      rintro e w17 ⟨rfl, xx, hb17, hk17⟩
      have L17 := L16.grow hb17 (by have := L6l.out; omega)
      have t17 := t16.grow hb17 (by omega)
      have g17 := g16.keepHi hk17 (by omega) hb17.size
      have B17 := B16.trans (hb17.mono (by omega))
      have z17 := hb17.size
      clear xx hk17
      clear L16 t16 y16 g16 B16 hb17
      go_wp2_with fail
      refine (eqMotionS_any g17 t17).mono ?_
      rintro e w18 ⟨rfl, hb18⟩
      have L18 := L17.call hb18
      have t18 := t17.call hb18
      have g18 := g17.call hb18
      have B18 := bstep B17 hb18
      clear L17 t17 g17 B17 hb18
      go_wp2_with fail
      refine (markMotionS_at 1 (by omega) (by omega) g18).mono ?_
      rintro e w19 ⟨rfl, gg, hb19⟩
      have L19 := L18.grow hb19 (by have := L6l.out; omega)
      have t19 := t18.grow hb19 (by omega)
      have B19 := B18.trans (hb19.mono (by omega))
      have m19 : SRow w9.heap.size w10.heap.size 6 v10 (meL f A B C xs ys).length mark6 w19 := gg
      clear gg
      clear L18 t18 g18 B18 hb19
      go_wp2_with fail
      refine (heldMotionS_any m19).mono ?_
      rintro e w20 ⟨rfl, hb20⟩
      have L20 := L19.call hb20
      have t20 := t19.call hb20
      have m20 := m19.call hb20
      have B20 := bstep B19 hb20
      have L20c := L20.cells
      clear L19 t19 m19 B19 hb20
      go_wp2_with fail
      refine (toLat_any _ _ _ _).mono ?_
      rintro e w21 ⟨rfl, hb21⟩
      have t21 := t20.call hb21
      have m21 := m20.call hb21
      have B21 := bstep B20 hb21
      have A21 := HA.out.grow (w2 := w21) B21
      clear L20c
      clear L20 t20 m20 B20 hb21
      go_wp2_with fail
      refine (toMotionS_any A21 HN.out).mono ?_
      rintro e w22 ⟨v22, rfl, s22, hb22⟩
      have t22 := t21.call hb22
      have m22 := m21.call hb22
      have B22 := bstep B21 hb22
      have A'22 := HA'.out.grow (w2 := w22) B22
      clear A21
      clear t21 m21 B21 hb22
      go_wp2_with fail
      refine (toMotionS_any A'22 HN'.out).mono ?_
      rintro e w23 ⟨v23, rfl, r23, hb23⟩
      have t23 := t22.call hb23
      have m23 := m22.call hb23
      have s23 := s22.call hb23
      have B23 := bstep B22 hb23
      have U23 : UnitOK w23 := Kq.call HU.out B23
      clear A'22
      clear t22 m22 s22 B22 hb23
      go_wp2_with fail
      refine (implMeet_any f A B C s23 r23 HN.out HN'.out U23).mono ?_
      rintro e w24 ⟨v24, rfl, h24, hb24⟩
      have t24 := t23.call hb24
      have m24 := m23.call hb24
      have B24 := bstep B23 hb24
      clear U23
      clear t23 m23 s23 r23 B23 hb24
      go_wp2_with fail
      refine (eqMotionS_any h24 t24).mono ?_
      rintro e w25 ⟨rfl, hb25⟩
      have m25 := m24.call hb25
      have B25 := bstep B24 hb25
      clear t24 m24 h24 B24 hb25
      go_wp2_with fail
      refine (heldMotionS_any m25).mono ?_
      rintro e w26 ⟨rfl, hb26⟩
      have B26 := bstep B25 hb26
      clear m25 B25 hb26
      go_wp2
      all_goals
        first
        | (go_ret; exact ⟨rfl, B26⟩)
        | (exfalso; simp_all)
    · have hz2 : (if (ys.length : Int) ≤ 1048576 - (xs.length : Int) then 1048576 - (xs.length : Int) - (ys.length : Int) else -1) = -1 := if_neg (by omega)
      have hn1 : (xs.length : Int) ≤ 1048576 := by omega
      have hn2 : 0 ≤ (xs.length : Int) := by omega
      clear L0
      go_enter Tryz.func9, Tryz.ntmps9
      go_wp2_with fail
      refine (szMo_any ao xs.length cap 1048576 _ hm (by omega)).mono ?_
      rintro e w1 ⟨rfl, hb1⟩
      rw [hz]
      have B1 := bstep B0 hb1
      clear B0 hb1
      go_wp2_with fail
      refine (szMo_any ao' ys.length cap' (1048576 - (xs.length : Int)) _ hm' (by omega)).mono ?_
      rintro e w2 ⟨rfl, hb2⟩
      rw [hz2]
      have B2 := bstep B1 hb2
      clear B1 hb2
      go_wp2
      go_ret
      exact ⟨rfl, B2⟩
  · have hz : (if (xs.length : Int) ≤ 1048576 then 1048576 - (xs.length : Int) else -1) = -1 := if_neg (by omega)
    clear L0
    go_enter Tryz.func9, Tryz.ntmps9
    go_wp2_with fail
    refine (szMo_any ao xs.length cap 1048576 _ hm (by omega)).mono ?_
    rintro e w1 ⟨rfl, hb1⟩
    rw [hz]
    have B1 := bstep B0 hb1
    clear B0 hb1
    go_wp2
    go_ret
    exact ⟨rfl, B1⟩
end
end Go.Proofs.YtmadgbbkkkibcaaGreatDoor

