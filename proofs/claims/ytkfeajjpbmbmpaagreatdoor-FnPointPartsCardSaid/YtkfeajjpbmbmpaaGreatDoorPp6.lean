/-
  Contracts of PointPart in the program and in the model, and of slices.Compact on matrices. Conditions: the list's length is below the model's bound, and the program's variable unitMatrix holds the unit.
-/
import Derived.Test.YtkfeajjpbmbmpaaGreatDoorGo
import Derived.Test.YtkfeajjpbmbmpaaGreatDoorSl4
import Derived.Deep.RegionHeld3
import Derived.IntWalk
import Derived.Laws.IdiomCopy
namespace Go.Proofs.YtkfeajjpbmbmpaaGreatDoor
open Go.RowKit
set_option linter.unusedSimpArgs false
set_option linter.unusedVariables false

def matM (m : M6) : M4 := (m.1, m.2.1, m.2.2.1, m.2.2.2.1)
def ddK (L : List M4) : Nat → List M4
  | 0 => []
  | k + 1 => ddK L k ++ (if k = 0 ∨ L[k]? ≠ L[k - 1]? then (L[k]?).toList else [])
theorem ddK_len (L : List M4) : ∀ k, (ddK L k).length ≤ k
  | 0 => by simp [ddK]
  | k + 1 => by
    have := ddK_len L k
    rw [ddK, List.length_append]
    split
    · rcases h : L[k]? with _ | _ <;> simp <;> omega
    · simp; omega
theorem ddK_keep {L : List M4} {k : Nat} (hk : k < L.length) (h : ∀ h0 : 0 < k, L[k] ≠ L[k - 1]'(by omega)) : ddK L (k + 1) = ddK L k ++ [L[k]] := by
  rw [ddK, if_pos]
  · rw [List.getElem?_eq_getElem hk]; rfl
  · by_cases h0 : k = 0
    · exact .inl h0
    · right
      rw [List.getElem?_eq_getElem hk, List.getElem?_eq_getElem (by omega)]
      exact fun e => h (by omega) (Option.some.inj e)
theorem ddK_skip {L : List M4} {k : Nat} (h0 : 0 < k) (hk : k < L.length) (h : L[k] = L[k - 1]'(by omega)) : ddK L (k + 1) = ddK L k := by
  rw [ddK, if_neg]
  · simp
  · rintro (h1 | h1)
    · omega
    · rw [List.getElem?_eq_getElem hk, List.getElem?_eq_getElem (by omega), h] at h1
      exact h1 rfl
theorem ddK_take {L : List M4} : ∀ k, k ≤ L.length → (∀ i (h : i < L.length), 0 < i → i < k → L[i] ≠ L[i - 1]'(by omega)) → ddK L k = L.take k
  | 0, _, _ => by simp [ddK]
  | k + 1, hk, h => by
    rw [ddK_keep (by omega) (fun h0 => h k (by omega) h0 (by omega)), ddK_take k (by omega) (fun i hi h0 hik => h i hi h0 (by omega)), List.take_succ_eq_append_getElem (by omega)]
theorem eqT4_neg {a b c d a' b' c' d' : Int} (h : eqT4 a b c d a' b' c' d' = false) : ((a, b, c, d) : M4) ≠ (a', b', c', d') := fun e => by
  simp only [Prod.mk.injEq] at e
  rw [(eqT4_iff ..).2 e] at h; cases h
theorem eqT4_pos {a b c d a' b' c' d' : Int} (h : eqT4 a b c d a' b' c' d' = true) : ((a, b, c, d) : M4) = (a', b', c', d') := by
  obtain ⟨rfl, rfl, rfl, rfl⟩ := (eqT4_iff ..).1 h; rfl
theorem at4 {L : List M4} {k : Nat} (h : k < L.length) : intAt (cells4 L) (k * 4) = L[k].1 ∧ intAt (cells4 L) (k * 4 + 1) = L[k].2.1 ∧ intAt (cells4 L) (k * 4 + 2) = L[k].2.2.1 ∧ intAt (cells4 L) (k * 4 + 3) = L[k].2.2.2 := by
  have hg := cells4_get L k h
  refine ⟨?_, ?_, ?_, ?_⟩ <;> simp [intAt, hg]
theorem at4_take {L : List M4} {k c : Nat} (hk : k ≤ L.length) (hc : c < k * 4) : intAt (cells4 (L.take k)) c = intAt (cells4 L) c := by
  have h1 : c / 4 < (L.take k).length := by rw [List.length_take]; omega
  have h2 : c / 4 < L.length := by omega
  obtain ⟨a0, a1, a2, a3⟩ := at4 h1
  obtain ⟨b0, b1, b2, b3⟩ := at4 h2
  have e : (L.take k)[c / 4] = L[c / 4] := List.getElem_take
  rw [e] at a0 a1 a2 a3
  have hm : c = c / 4 * 4 ∨ c = c / 4 * 4 + 1 ∨ c = c / 4 * 4 + 2 ∨ c = c / 4 * 4 + 3 := by omega
  rcases hm with h | h | h | h <;> rw [h] <;> simp only [a0, a1, a2, a3, b0, b1, b2, b3]
theorem at4_snoc {L : List M4} {m : M4} {c : Nat} (hc : c < L.length * 4) : intAt (cells4 (L ++ [m])) c = intAt (cells4 L) c := by
  have h := at4_take (L := L ++ [m]) (k := L.length) (c := c) (by simp) hc
  rw [← h, List.take_left']
  rfl
theorem at4_last {L : List M4} {m : M4} : intAt (cells4 (L ++ [m])) (L.length * 4) = m.1 ∧ intAt (cells4 (L ++ [m])) (L.length * 4 + 1) = m.2.1 ∧ intAt (cells4 (L ++ [m])) (L.length * 4 + 2) = m.2.2.1 ∧ intAt (cells4 (L ++ [m])) (L.length * 4 + 3) = m.2.2.2 := by
  have h := at4 (L := L ++ [m]) (k := L.length) (by simp)
  simpa using h
/- what lies in the block while the list is compacted: q matrices kept, the old ones behind them -/
def cmpF (L N : List M4) (c : Nat) : Int := if c < N.length * 4 then intAt (cells4 N) c else intAt (cells4 L) c
theorem belowS4 {B : Nat} {a : World} (b : Nat) (hb : B ≤ b) : ∀ (vs : List Value) (o : Nat) {w : World}, Below B a w → Below B a (w.setCells b o vs)
  | [], _, _, h => h
  | v :: r, o, _, h => belowS4 b hb r (o + 1) (h.setCell (p := ⟨b, o, none⟩) hb v)
theorem sizeS4 (b : Nat) : ∀ (vs : List Value) (o : Nat) (w : World), (w.setCells b o vs).heap.size = w.heap.size
  | [], _, _ => rfl
  | v :: r, o, w => by rw [World.setCells, sizeS4 b r]; simp
theorem zeros4 (n : Nat) : (Builtin.zeroCells (#[.int .i64 0, .int .i64 0, .int .i64 0, .int .i64 0] : Array Value) n).toList = List.replicate (n * 4) (.int .i64 0) := by
  simp [Builtin.zeroCells]
  apply List.ext_getElem
  · simp
  · intro t h1 h2
    have : t % 4 = 0 ∨ t % 4 = 1 ∨ t % 4 = 2 ∨ t % 4 = 3 := by omega
    rcases this with h | h | h | h <;> simp [h]
set_option maxRecDepth 100000 in
theorem clear4 {g i n c : Nat} {F : Nat → Int} {W : World} (hi : i < n) (h : IRow g (n * 4) F W) :
    Sem.run Tryz.prog (Builtin.clear_ #[59] 0 #[.slice (some ⟨g, i * 4, none⟩) (n - i) c]) W = .ok (.tuple #[]) (W.setCells g (i * 4) (List.replicate ((n - i) * 4) (.int .i64 0))) := by
  have hv : ∀ W, Sem.run Tryz.prog (zeroValue 27) W = .ok (.agg #[.int .i64 0, .int .i64 0, .int .i64 0, .int .i64 0]) W := fun W => rfl
  have hst := run_storeCells_cells (P := Tryz.prog) g (i * 4) (List.replicate ((n - i) * 4) (.int .i64 0)) 0 W
    (fun j hj => by rw [List.length_replicate] at hj; rw [h.at (i * 4 + 0 + j) (by omega)]; rfl)
    (fun j hj => by rw [List.length_replicate] at hj; exact h.free (i * 4 + 0 + j) (by omega))
    (fun v hv => by rw [List.eq_of_mem_replicate hv]; rfl)
  simp only [Nat.add_zero] at hst
  obtain ⟨m, hm⟩ : ∃ m, n - i = m + 1 := ⟨n - i - 1, by omega⟩
  rw [hm] at hst ⊢
  have hz := zeros4 (m + 1)
  have ht := Tryz.underlying59
  simp [Builtin.clear_, run_underlying ht, hv, Value.cells, hz, hst]
theorem row4_cut {g n : Nat} {L N : List M4} {W : World} (vs : List Value) (hn : N.length ≤ n) (h : IRow g (n * 4) (cmpF L N) W) : IRow g (N.length * 4) (intAt (cells4 N)) (W.setCells g (N.length * 4) vs) := by
  refine ⟨by rw [sizeS4]; exact h.1, fun t ht => ?_⟩
  rw [World.cell?_setCells_out _ _ _ _ _ (fun _ _ => .inl ht), World.frozen?_setCells]
  refine ⟨?_, h.free t (by omega)⟩
  rw [h.at t (by omega), cmpF, if_pos ht]
theorem Ko4.at {g o : Nat} {F : Nat → Int} {W : World} {N : Nat} {m : M4} (h : IRow g N F W) (ho : o + 3 < N) (e : F o = m.1 ∧ F (o + 1) = m.2.1 ∧ F (o + 2) = m.2.2.1 ∧ F (o + 3) = m.2.2.2) : Ko4 g o m.1 m.2.1 m.2.2.1 m.2.2.2 W := by
  have k := h.ko4 o ho
  rwa [e.1, e.2.1, e.2.2.1, e.2.2.2] at k
theorem cmp_at {L N : List M4} {j : Nat} (hj : j < L.length) (hN : N.length ≤ j) : cmpF L N (j * 4) = L[j].1 ∧ cmpF L N (j * 4 + 1) = L[j].2.1 ∧ cmpF L N (j * 4 + 2) = L[j].2.2.1 ∧ cmpF L N (j * 4 + 3) = L[j].2.2.2 := by
  have h := at4 hj
  unfold cmpF
  rw [if_neg (by omega), if_neg (by omega), if_neg (by omega), if_neg (by omega)]
  exact h
theorem cmp_take {L : List M4} {n : Nat} (hn : n ≤ L.length) (t : Nat) : cmpF L (L.take n) t = intAt (cells4 L) t := by
  unfold cmpF
  rw [List.length_take, Nat.min_eq_left hn]
  by_cases h : t < n * 4
  · rw [if_pos h, at4_take hn h]
  · rw [if_neg h]
theorem cmp_put {L N : List M4} {a b c d : Int} (hN : N.length < L.length) (t : Nat) :
    (if t = N.length * 4 + 3 then d else if t = N.length * 4 + 2 then c else if t = N.length * 4 + 1 then b else if t = N.length * 4 then a else cmpF L N t) = cmpF L (N ++ [(a, b, c, d)]) t := by
  have hl : (N ++ [((a, b, c, d) : M4)]).length = N.length + 1 := by simp
  obtain ⟨z0, z1, z2, z3⟩ := at4_last (L := N) (m := (a, b, c, d))
  unfold cmpF
  rw [hl]
  by_cases e3 : t = N.length * 4 + 3
  · subst e3; rw [if_pos rfl, if_pos (by omega), z3]
  by_cases e2 : t = N.length * 4 + 2
  · subst e2; rw [if_neg e3, if_pos rfl, if_pos (by omega), z2]
  by_cases e1 : t = N.length * 4 + 1
  · subst e1; rw [if_neg e3, if_neg e2, if_pos rfl, if_pos (by omega), z1]
  by_cases e0 : t = N.length * 4
  · subst e0; rw [if_neg e3, if_neg e2, if_neg e1, if_pos rfl, if_pos (by omega), z0]
  rw [if_neg e3, if_neg e2, if_neg e1, if_neg e0]
  by_cases el : t < N.length * 4
  · rw [if_pos el, if_pos (by omega), at4_snoc el]
  · rw [if_neg el, if_neg (by omega)]
attribute [local go_sem ↓] eqMa6
def CmPost (g base : Nat) (L : List M4) (w : World) (e : Ending) (w' : World) : Prop :=
  ∃ cap, e = .returned (.slice (some ⟨g, 0, none⟩) (ddK L L.length).length cap) ∧ IRow g ((ddK L L.length).length * 4) (intAt (cells4 (ddK L L.length))) w' ∧ Below base w w'
set_option maxRecDepth 100000 in
set_option maxHeartbeats 8000000 in
theorem compact_any {base g cap : Nat} {L : List M4} {w : World} (hR : IRow g (L.length * 4) (intAt (cells4 L)) w) (hg : base ≤ g) (h0 : 0 < L.length) (hn : L.length ≤ 768) (hcap : L.length ≤ cap) (hcm : cap ≤ maxLen) :
    Calls Tryz.prog 136 #[.slice (some ⟨g, 0, none⟩) L.length cap] w (CmPost g base L w) := by
  have HR := Lib.hid hR
  have HN := Lib.hid (show 0 < L.length ∧ L.length ≤ 768 ∧ L.length ≤ cap ∧ cap ≤ maxLen ∧ base ≤ g from ⟨h0, hn, hcap, hcm, hg⟩)
  have hn2 : (L.length : Int) ≤ 768 := by omega
  by_cases h1 : L.length = 1
  · have HE := Lib.hid (show ddK L L.length = L by rw [ddK_take L.length (Nat.le_refl _) (fun i _ h h' => by omega), List.take_length])
    have h1i : (L.length : Int) < 2 := by omega
    clear h1 hR hg h0 hn hcap hcm
    go_enter Tryz.func136, Tryz.ntmps136
    go_wp2
    go_ret
    exact ⟨cap, by rw [HE.out]; rfl, by rw [HE.out]; exact HR.out, Below.refl _ _⟩
  have h2i : ¬ ((L.length : Int) < 2) := by omega
  have HN2 := Lib.hid (show 1 < L.length by omega)
  clear h1 hR hg h0 hn hcap hcm
  go_enter Tryz.func136, Tryz.ntmps136
  go_wp2_with fail
  go_loopw [3] (fun s3 W => ∃ k : Nat, s3 = .int .i64 (k : Int) ∧ 1 ≤ k ∧ k ≤ L.length ∧ (∀ i (h : i < L.length), 0 < i → i < k → L[i] ≠ L[i - 1]'(by omega)) ∧ Below w.heap.size w W) (fun s3 _ => L.length - (intOf s3).toNat)
  case atStart => exact ⟨1, rfl, by omega, by have := HN2.out; omega, fun i _ h h' => by omega, Below.refl _ _⟩
  case round =>
    obtain ⟨k, rfl, hk0, hk, hP, hB⟩ := hrel
    by_cases hk1 : k < L.length
    · obtain ⟨j, rfl⟩ : ∃ j, k = j + 1 := ⟨k - 1, by omega⟩
      have hk2 : ((j : Int) + 1) < (L.length : Int) := by omega
      have hj2 : (j : Int) < (L.length : Int) := by omega
      have hj3 : (j : Int) ≤ 768 := by have := HN.out; omega
      have hj1 : j < L.length := by omega
      have rw1 := HR.out.call hB
      have q1 := Ko4.at rw1 (o := (j + 1) * 4) (by omega) (at4 hk1)
      have q2 := Ko4.at rw1 (o := j * 4) (by omega) (at4 hj1)
      have HK := Lib.hid hk1
      have HP := Lib.hid hP
      have HYES := Lib.hid (fun (h : L[j + 1] ≠ L[j]) => (show ∀ i (h : i < L.length), 0 < i → i < j + 1 + 1 → L[i] ≠ L[i - 1]'(by omega) from fun i hi h0 hi2 => by
        by_cases e : i = j + 1
        · subst e; exact h
        · exact hP i hi h0 (by omega)))
      have HNO := Lib.hid (fun (h : L[j + 1] = L[j]) => (show ddK L (j + 1 + 1) = L.take (j + 1) by rw [ddK_skip (by omega) hk1 h, ddK_take (j + 1) (by omega) hP]))
      clear rw1 hP hk hk0
      generalize L[j + 1] = m at q1 HYES HNO
      generalize L[j] = n at q2 HYES HNO
      clear hk1 hj1
      obtain ⟨a, b, c, d⟩ := m
      obtain ⟨p0, p1, p2, p3⟩ := n
      dsimp only at q1 q2
      have q1c := q1.cells
      have q2c := q2.cells
      rcases he : eqT4 a b c d p0 p1 p2 p3 with _ | _
      · have HQ := Lib.hid (HYES.out (eqT4_neg he))
        clear HYES HNO
        go_wp2_with fail
        go_quiet (fail)
        go_wp2
        go_roundw
        case rel => exact ⟨j + 1 + 1, by go_num, by omega, by have := HK.out; omega, HQ.out, by repeat (first | with_reducible assumption | with_reducible exact Below.refl _ _ | with_reducible refine Below.drew ?_ | with_reducible refine below_drewN ?_ _)⟩
        case measure => (have := HK.out); first | (simp [intOf]; done) | (simp [intOf]; omega)
      · have HQ := Lib.hid (HNO.out (eqT4_pos he))
        clear HYES HNO
        go_wp2_with fail
        go_quiet (fail)
        have HB0 := Lib.hid (show Below base w (wr.drewN nq) from Below.mono (show Below w.heap.size w (wr.drewN nq) from by repeat (first | with_reducible assumption | with_reducible exact Below.refl _ _ | with_reducible refine Below.drew ?_ | with_reducible refine below_drewN ?_ _)) (show base ≤ w.heap.size by have := HN.out; have := HR.out.1; omega))
        have HR0 := Lib.hid (HR.out.call (show Below w.heap.size w (wr.drewN nq) from by repeat (first | with_reducible assumption | with_reducible exact Below.refl _ _ | with_reducible refine Below.drew ?_ | with_reducible refine below_drewN ?_ _)))
        clear q1 q2 q1c q2c hB
        have hcp : (j : Int) + 1 ≤ (cap : Int) := by have := HN.out; have := HK.out; omega
        have hcp2 : ¬ (cap = 0) := by have := HN.out; have := HK.out; omega
        have hcp3 : ¬ (cap = j + 1) := by have := HN.out; have := HK.out; omega
        have hcm : (cap : Int) ≤ 9223372036854775807 := by have := HN.out; unfold maxLen at this; omega
        go_wp2_with fail
        go_loopw [3, 5] (fun s3 s5 W => ∃ (t : Nat) (N : List M4), s5 = .int .i64 (t : Int) ∧ 1 ≤ t ∧ j + 1 + t ≤ L.length ∧ s3 = .int .i64 (N.length : Int) ∧ N = ddK L (j + 1 + t) ∧ N.length < j + 1 + t ∧ IRow g (L.length * 4) (cmpF L N) W ∧ Below base w W) (fun _ s5 _ => L.length - (intOf s5).toNat)
        case atStart => exact ⟨1, L.take (j + 1), rfl, by omega, by have := HK.out; omega, by rw [List.length_take]; congr 1; have := HK.out; omega, HQ.out.symm, by rw [List.length_take]; omega, HR0.out.ext (fun t _ => (cmp_take (by have := HK.out; omega) t).symm), HB0.out⟩
        case round =>
          clear HB0 HR0 HQ
          obtain ⟨t, N, rfl, ht0, htL, rfl, hNd, hNl, hRR, hBB⟩ := hrel
          have hNi : (N.length : Int) ≤ 768 := by have := HN.out; omega
          have hti : (t : Int) ≤ 768 := by have := HN.out; omega
          by_cases ht1 : j + 1 + t < L.length
          · obtain ⟨s, rfl⟩ : ∃ s, t = s + 1 := ⟨t - 1, by omega⟩
            have e1 : j + 1 + (s + 1) = j + 1 + s + 1 := by omega
            have q1 := Ko4.at hRR (o := (j + 1 + (s + 1)) * 4) (by omega) (cmp_at ht1 (by omega))
            have q2 := Ko4.at hRR (o := (j + 1 + s) * 4) (by omega) (cmp_at (by omega : j + 1 + s < L.length) (by omega))
            have hg2 := hRR.1
            have HKEEP := Lib.hid (fun (h : L[j + 1 + (s + 1)] ≠ L[j + 1 + s]'(by omega)) => (show N ++ [L[j + 1 + (s + 1)]] = ddK L (j + 1 + (s + 1 + 1)) by rw [hNd, ← Nat.add_assoc (j + 1) (s + 1) 1, ddK_keep ht1 (fun _ => h)]))
            have HSKIP := Lib.hid (fun (h : L[j + 1 + (s + 1)] = L[j + 1 + s]'(by omega)) => (show N = ddK L (j + 1 + (s + 1 + 1)) by rw [hNd, ← Nat.add_assoc (j + 1) (s + 1) 1, ddK_skip (by omega) ht1 h]))
            have HT := Lib.hid (show j + 1 + (s + 1) < L.length ∧ N.length < j + 1 + (s + 1) from ⟨ht1, hNl⟩)
            have RR := Lib.hid hRR
            have hsl : ((s : Int) + 1) < ((L.length - (j + 1) : Nat) : Int) := by omega
            have hsl2 : (s : Int) < ((L.length - (j + 1) : Nat) : Int) := by omega
            clear hRR hNd hNl htL ht0
            generalize L[j + 1 + (s + 1)] = m at q1 HKEEP HSKIP
            generalize L[j + 1 + s] = n at q2 HKEEP HSKIP
            clear ht1
            obtain ⟨a, b, c, d⟩ := m
            obtain ⟨p0, p1, p2, p3⟩ := n
            dsimp only at q1 q2
            rw [show (j + 1 + (s + 1)) * 4 = (j + 1) * 4 + (s + 1) * 4 by omega] at q1
            rw [show (j + 1 + s) * 4 = (j + 1) * 4 + s * 4 by omega] at q2
            have q1c := q1.cells
            have q2c := q2.cells
            rcases he : eqT4 a b c d p0 p1 p2 p3 with _ | _
            · have HQ := Lib.hid (HKEEP.out (eqT4_neg he))
              clear HKEEP HSKIP
              go_wp2_with fail
              go_quiet (fail)
              have R2 := RR.out.call (show Below wr.heap.size wr (wr.drewN nq) from by repeat (first | with_reducible assumption | with_reducible exact Below.refl _ _ | with_reducible refine Below.drew ?_ | with_reducible refine below_drewN ?_ _))
              have B2 := Below.trans hBB (Below.mono (show Below wr.heap.size wr (wr.drewN nq) from by repeat (first | with_reducible assumption | with_reducible exact Below.refl _ _ | with_reducible refine Below.drew ?_ | with_reducible refine below_drewN ?_ _)) (show base ≤ wr.heap.size by have := HN.out; omega))
              have z1 := Ko4.call q1 (show Below wr.heap.size wr (wr.drewN nq) from by repeat (first | with_reducible assumption | with_reducible exact Below.refl _ _ | with_reducible refine Below.drew ?_ | with_reducible refine below_drewN ?_ _))
              have z1c := z1.cells
              have hNt := HT.out
              have s0 := R2.at (N.length * 4) (by omega)
              have s1 := R2.at (N.length * 4 + 1) (by omega)
              have s2 := R2.at (N.length * 4 + 2) (by omega)
              have s3 := R2.at (N.length * 4 + 3) (by omega)
              have f0 := R2.free (N.length * 4) (by omega)
              have f1 := R2.free (N.length * 4 + 1) (by omega)
              have f2 := R2.free (N.length * 4 + 2) (by omega)
              have f3 := R2.free (N.length * 4 + 3) (by omega)
              have hgz := R2.1
              have hNL : (N.length : Int) < (L.length : Int) := by omega
              have RQ := Lib.hid R2
              have BQ := Lib.hid B2
              clear R2 B2 RR hBB q1 q2 q1c q2c z1
              generalize cmpF L N (N.length * 4) = y0 at s0
              generalize cmpF L N (N.length * 4 + 1) = y1 at s1
              generalize cmpF L N (N.length * 4 + 2) = y2 at s2
              generalize cmpF L N (N.length * 4 + 3) = y3 at s3
              go_wp2
              go_roundw
              case rel => exact ⟨s + 1 + 1, N ++ [(a, b, c, d)], by go_num, by omega, by omega, by simp, HQ.out, by simp; omega, ((((RQ.out.put (N.length * 4) (by omega) _).put (N.length * 4 + 1) (by omega) _).put (N.length * 4 + 2) (by omega) _).put (N.length * 4 + 3) (by omega) _).ext (fun t _ => cmp_put (by omega) t), (((BQ.out.setCell (show base ≤ g from HN.out.2.2.2.2) _).setCell (show base ≤ g from HN.out.2.2.2.2) _).setCell (show base ≤ g from HN.out.2.2.2.2) _).setCell (show base ≤ g from HN.out.2.2.2.2) _⟩
              case measure => first | (simp [intOf]; done) | (simp [intOf]; omega)
            · have HQ := Lib.hid (HSKIP.out (eqT4_pos he))
              clear HKEEP HSKIP
              go_wp2_with fail
              go_quiet (fail)
              have R2 := RR.out.call (show Below wr.heap.size wr (wr.drewN nq) from by repeat (first | with_reducible assumption | with_reducible exact Below.refl _ _ | with_reducible refine Below.drew ?_ | with_reducible refine below_drewN ?_ _))
              have B2 := Below.trans hBB (Below.mono (show Below wr.heap.size wr (wr.drewN nq) from by repeat (first | with_reducible assumption | with_reducible exact Below.refl _ _ | with_reducible refine Below.drew ?_ | with_reducible refine below_drewN ?_ _)) (show base ≤ wr.heap.size by have := HN.out; omega))
              have RQ := Lib.hid R2
              have BQ := Lib.hid B2
              have hNt := HT.out
              clear R2 B2 RR hBB q1 q2 q1c q2c
              go_wp2
              go_roundw
              case rel => exact ⟨s + 1 + 1, N, by go_num, by omega, by omega, rfl, HQ.out, by omega, RQ.out, BQ.out⟩
              case measure => first | (simp [intOf]; done) | (simp [intOf]; omega)
          · have htl : t = L.length - (j + 1) := by omega
            have hE : ddK L L.length = N := by rw [hNd]; congr 1; omega
            have HE := Lib.hid hE
            have hNL : N.length < L.length := by omega
            have hcl := fun c => clear4 (c := c) hNL hRR
            have R5 := Lib.hid (row4_cut (List.replicate ((L.length - N.length) * 4) (.int .i64 0)) (Nat.le_of_lt hNL) hRR)
            have B5 := Lib.hid (belowS4 (B := base) g (by have := HN.out; omega) (List.replicate ((L.length - N.length) * 4) (.int .i64 0)) (N.length * 4) hBB)
            have hsl : ¬ ((t : Int) < ((L.length - (j + 1) : Nat) : Int)) := by omega
            have hx1 : (N.length : Int) ≤ (L.length : Int) := by omega
            have hx2 : (N.length : Int) ≤ (cap : Int) := by have := HN.out; omega
            have hx3 : ¬ (cap = N.length) := by have := HN.out; omega
            clear hNd hNl htL ht0 ht1 htl hE hRR hBB
            go_wp2
            go_ret
            exact ⟨_, by rw [HE.out]; rfl, by rw [HE.out]; exact R5.out, B5.out⟩
    · obtain rfl : k = L.length := by omega
      have HE := Lib.hid (show ddK L L.length = L by rw [ddK_take L.length (Nat.le_refl _) hP, List.take_length])
      have RR := Lib.hid (HR.out.call hB)
      have BB := Lib.hid (hB.mono (show base ≤ w.heap.size by have := HN.out; have := HR.out.1; omega))
      clear hk hk1 hk0 hP hB
      go_wp2
      go_ret
      exact ⟨cap, by rw [HE.out]; rfl, by rw [HE.out]; exact RR.out, BB.out⟩

def ptP (xs : List M6) : List M4 := ddK (xs.map matM) xs.length
def ptL (f A B C : Int) (xs : List M6) : List M4 := bif grpB f A B C xs then ptP xs else []
theorem ptP_len (xs : List M6) : (ptP xs).length ≤ xs.length := ddK_len _ _
theorem ptL_len (f A B C : Int) (xs : List M6) : (ptL f A B C xs).length ≤ 768 := by
  unfold ptL
  rcases h : grpB f A B C xs with _ | _
  · simp
  · exact Nat.le_trans (ptP_len xs) (grp_len h)
theorem SRow.big4 {lo : Nat} {xs : List M4} {e : TypeId} {v : Value} {W : World} (h : W.ownsRow lo e 4 v xs.length (cells4 xs)) (hn : xs.length ≤ 1000000) : SRow lo W.heap.size 4 v xs.length (intAt (cells4 xs)) W := SRow.of h (cells4_int xs) hn
theorem matM_take {xs : List M6} {k : Nat} {m : M6} (h : xs.take (k + 1) = xs.take k ++ [m]) : (xs.take (k + 1)).map matM = (xs.take k).map matM ++ [matM m] := by rw [h, List.map_append]; rfl
set_option maxRecDepth 100000 in
set_option maxHeartbeats 8000000 in
theorem implPoint_any {lo hi : Nat} {v : Value} {xs : List M6} {w : World} (f A B C : Int) (h : SRow lo hi 6 v xs.length (fm xs) w) (hn : xs.length ≤ 1048576) (hU : UnitOK w) :
    Calls Tryz.prog 34 #[.int .i64 f, .agg #[.int .i64 A, .int .i64 B, .int .i64 C], v] w (LAns 4 (ptL f A B C xs).length (intAt (cells4 (ptL f A B C xs))) (cod6 f A B C (grpB f A B C xs)) w) := by
  obtain ⟨i0, hinf, hz0, hz1, hz2⟩ := info_parts infoMat
  have HN := Lib.hid hn
  have L0 : Kt w.heap.size A B C (w.alloc (.cells #[.int .i64 A, .int .i64 B, .int .i64 C] 25)) := Kt.at _ rfl
  have B0 : Below w.heap.size w (w.alloc (.cells #[.int .i64 A, .int .i64 B, .int .i64 C] 25)) := (Below.refl _ _).alloc (Nat.le_refl _) _
  have A0 : SRow lo hi 6 v xs.length (fm xs) (w.alloc (.cells #[.int .i64 A, .int .i64 B, .int .i64 C] 25)) := h.grow ((Below.refl w.heap.size w).alloc (Nat.le_refl _) _) h.1
  have U0 : UnitOK (w.alloc (.cells #[.int .i64 A, .int .i64 B, .int .i64 C] 25)) := Kq.alloc hU _
  have L0c := L0.cells
  have HU := Lib.hid hU
  have CG := Lib.hid (groupOf_any f A B C A0 hn U0)
  clear h hn hU A0 U0
  rcases cod6_cases f A B C xs with ⟨hg, hc⟩ | ⟨hg, hc⟩
  case inr =>
    have HG := Lib.hid hg
    have HZ := Lib.hid (show (ptL f A B C xs).length = 0 by simp [ptL, hg])
    obtain ⟨cz, hcz⟩ : ∃ cz, cz = cod6 f A B C (grpB f A B C xs) := ⟨_, rfl⟩
    rw [← hcz]
    have HC := Lib.hid hcz.symm
    clear hg hcz
    go_enter Tryz.func34, Tryz.ntmps34
    go_wp2_with fail
    refine CG.out.mono ?_
    rintro e w1 ⟨v1, rfl, _, hv, hb1⟩
    have hv1 := hv HG.out
    subst hv1
    have B1 := bstep B0 hb1
    clear hv hb1 B0 L0 L0c CG
    generalize cod6 f A B C (grpB f A B C xs) = cc at hc HC
    go_wp2
    go_ret2
    exact LAns.bad HZ.out HC.out B1
  have HG := Lib.hid hg
  have HC := Lib.hid hc
  clear hg hc
  go_enter Tryz.func34, Tryz.ntmps34
  go_wp2_with fail
  refine CG.out.mono ?_
  rintro e w1 ⟨v1, rfl, hr, _, hb1⟩
  rw [HC.out]
  have O1 := hr HG.out
  have S1 : SRow w.heap.size w1.heap.size 6 v1 xs.length (fm xs) w1 := SRow.big6 (ownsRow_lower O1 (by simp)) HN.out
  have B1 := bstep B0 hb1
  have U1 : UnitOK w1 := Kq.call HU.out B1
  have L1 := L0.call hb1
  have HS1 := Lib.hid S1
  have H768 := Lib.hid (grp_len HG.out)
  have h7 : (xs.length : Int) ≤ 768 := by have := H768.out; omega
  obtain ⟨ao, cap, rfl⟩ := srow_shape S1
  clear hr hb1 B0 L0 L0c CG O1 S1
  go_wp2_with fail
  go_loopw [10, 25] (fun s10 s25 W => ∃ k : Nat, s25 = .int .i64 (k : Int) ∧ k ≤ xs.length ∧ W.ownsRow w1.heap.size 27 4 s10 ((xs.take k).map matM).length (cells4 ((xs.take k).map matM)) ∧ Below w1.heap.size w1 W) (fun _ s25 _ => xs.length - (intOf s25).toNat)
  case atStart => exact ⟨0, rfl, by omega, World.ownsRow_nil _ _ _ _, Below.refl _ _⟩
  case round =>
    obtain ⟨k, rfl, hk, hown, hB⟩ := hrel
    have l1 : w.heap.size < w1.heap.size := L1.1
    by_cases hk1 : k < xs.length
    · have HPL := Lib.hid (show ((xs.take k).map matM).length ≤ (xs.take k).length by simp)
      have hk2 : (k : Int) < (xs.length : Int) := by omega
      have hk3 : (k : Int) ≤ 768 := by omega
      have hres := HS1.out.2.2.resolve_left (fun h => by omega)
      have hhi := HS1.out.1
      obtain ⟨g, cap', e9, _, hg, RA⟩ := hres
      simp only [Value.slice.injEq, true_and] at e9
      obtain ⟨rfl, rfl⟩ := e9
      have q1 := (RA.grow hB (by omega)).mo k hk1
      have HT := Lib.hid (show xs.take (k + 1) = xs.take k ++ [xs[k]] from List.take_succ_eq_append_getElem hk1)
      have HTL := Lib.hid (show (xs.take k).length ≤ 768 by rw [List.length_take]; omega)
      have HK := Lib.hid hk1
      clear RA hg hhi hk
      generalize xs[k] = m at q1 HT
      clear hk1
      obtain ⟨a, b, c, d, x, y⟩ := m
      dsimp only at q1
      have HY := Lib.hid (matM_take HT.out)
      have HPT : Hid (((xs.take k).map matM).length ≤ 768) := Lib.hid (Nat.le_trans HPL.out HTL.out)
      generalize (xs.take k).map matM = ys at hown HY HPT
      clear HPL HTL
      have zB := hB.size
      have q1c := q1.cells
      have X0 : KM wr.heap.size a b c d x y (wr.alloc (.cells #[.int .i64 a, .int .i64 b, .int .i64 c, .int .i64 d, .int .i64 x, .int .i64 y] 126)) := KM.at _ rfl
      have O3 := World.ownsRow.alloc hown (.cells #[.int .i64 a, .int .i64 b, .int .i64 c, .int .i64 d, .int .i64 x, .int .i64 y] 126)
      have B3 : Below w1.heap.size w1 (wr.alloc (.cells #[.int .i64 a, .int .i64 b, .int .i64 c, .int .i64 d, .int .i64 x, .int .i64 y] 126)) := hB.alloc zB _
      have X0c := X0.cells5
      clear hown hB
      go_wp2_with fail
      refine (mat_any a b c d _).mono ?_
      rintro e w3 ⟨rfl, hb3⟩
      have O4 := ownsRow_call O3 hb3
      have B4 := bstep B3 hb3
      have z4 := B4.size
      clear hb3 X0 O3 B3 X0c q1 q1c
      go_wp2_with (at_builtin; refine wpList_append_own _ rfl _ _ 59 rfl w1.heap.size 27 i0 (.agg #[.int .i64 0, .int .i64 0, .int .i64 0, .int .i64 0]) 4 32 Tryz.underlying59 hinf hz0 hz1 hz2 rfl (by decide) _ _ _ rfl (O4.alloc _) ⟨w3.heap.size, 0, none⟩ 1 1 [.int .i64 a, .int .i64 b, .int .i64 c, .int .i64 d] rfl rfl (new_four _ _ _ _ _ rfl) one_four (by have := HPT.out; unfold maxLen; omega) (by have := HPT.out; omega) (by (try simp); omega) ?_; intro v9 w9 hown9 hgrow _)
      have O9 := own_next4 hown9
      have B9 : Below w1.heap.size w1 w9 := Below.grown (Below.alloc B4 (by omega) _) hgrow (by simp; omega) (fun r hr => by have := (O4.lt r hr).1; omega)
      clear hown9 hgrow O4 B4
      go_wp2
      go_roundw
      case rel => exact ⟨k + 1, by go_num, by have := HK.out; omega, by rw [HY.out]; exact O9, B9⟩
      case measure => (have := HK.out); first | (simp [intOf]; done) | (simp [intOf]; omega)
    · obtain rfl : k = xs.length := by omega
      rw [List.take_length] at hown
      have B9 := B1.trans (hB.mono (by omega))
      obtain ⟨ys, hys⟩ : ∃ ys, ys = xs.map matM := ⟨_, rfl⟩
      rw [← hys] at hown
      have hml : ys.length = xs.length := by rw [hys]; exact List.length_map ..
      obtain ⟨g, cap9, rfl, hgb, hcl, hcm⟩ := own_block hown (by rw [hml]; exact grp_pos HG.out)
      have R9 := (SRow.big4 hown (by rw [hml]; have := H768.out; omega)).2.2.resolve_left (fun h => by have := grp_pos HG.out; omega)
      obtain ⟨g9, c9, e9, hg9, hg9b, r9⟩ := R9
      simp only [Value.slice.injEq, Option.some.injEq, Addr.mk.injEq, and_true, true_and] at e9
      obtain ⟨rfl, e10⟩ := e9
      have HE := Lib.hid (show ptL f A B C xs = ddK ys ys.length by rw [hys]; simp [ptL, HG.out, ptP])
      have CM := Lib.hid (compact_any (base := w1.heap.size) r9 hgb (by rw [hml]; exact grp_pos HG.out) (by rw [hml]; exact H768.out) hcl hcm)
      have hgz := r9.1
      have hmi : (ys.length : Int) ≤ 768 := by rw [hml]; omega
      have HGB := Lib.hid (show w1.heap.size ≤ g from hgb)
      have HDL := Lib.hid (show (ddK ys ys.length).length ≤ 768 by have h1 := ddK_len ys ys.length; have := H768.out; omega)
      clear hk hk1 hB hown hml hys hgb hcl hcm e10 hg9 hg9b r9
      go_wp2_with fail
      refine CM.out.mono ?_
      rintro e w5 ⟨cap5, rfl, r5, hb5⟩
      have B5 := B9.trans (hb5.mono (by omega))
      have S5 : SRow w.heap.size w5.heap.size 4 (.slice (some ⟨g, 0, none⟩) (ptL f A B C xs).length cap5) (ptL f A B C xs).length (intAt (cells4 (ptL f A B C xs))) w5 := by
        rw [HE.out]
        exact ⟨Nat.le_refl _, by have := HDL.out; omega, .inr ⟨g, cap5, rfl, by have := HGB.out; omega, r5.1, r5⟩⟩
      rw [← HE.out]
      have HS5 := Lib.hid S5
      clear S5 r5 hb5 B9 CM
      go_wp2
      go_ret2
      exact ⟨_, ret_pair (by rfl) HC.out.symm, HS5.out, B5⟩

set_option maxRecDepth 100000 in
set_option maxHeartbeats 8000000 in
theorem l06Point_any {lo hi : Nat} {v : Value} {xs : List M6} {w : World} (h : SRow lo hi 6 v xs.length (fm xs) w) (hn : xs.length ≤ 768) :
    Calls Tryz.prog 137 #[v] w fun e w' => ∃ v' : Value, e = .returned v' ∧ w'.ownsRow w.heap.size 27 4 v' (ptP xs).length (cells4 (ptP xs)) ∧ Below w.heap.size w w' := by
  obtain ⟨i0, hinf, hz0, hz1, hz2⟩ := info_parts infoMat
  have HS1 := Lib.hid h
  have H768 := Lib.hid hn
  have h7 : (xs.length : Int) ≤ 768 := by omega
  obtain ⟨ao, cap, rfl⟩ := srow_shape h
  have B0 : Below w.heap.size w (w.alloc (.cells #[] 27)) := (Below.refl _ _).alloc (Nat.le_refl _) _
  have O0 : (w.alloc (.cells #[] 27)).ownsRow w.heap.size 27 4 (.slice (some ⟨w.heap.size, 0, none⟩) 0 0) (ddK (xs.map matM) 0).length (cells4 (ddK (xs.map matM) 0)) := World.ownsRow_lit (base := w.heap.size) (e := 27) (size := 4) w #[] 0 (Nat.le_refl _) (by unfold maxLen; omega) rfl
  clear h hn
  go_enter Tryz.func137, Tryz.ntmps137
  go_wp2_with fail
  go_loopw [3, 4] (fun s3 s4 W => ∃ k : Nat, s4 = .int .i64 (k : Int) ∧ k ≤ xs.length ∧ W.ownsRow w.heap.size 27 4 s3 (ddK (xs.map matM) k).length (cells4 (ddK (xs.map matM) k)) ∧ Below w.heap.size w W) (fun _ s4 _ => xs.length - (intOf s4).toNat)
  case atStart => exact ⟨0, rfl, by omega, O0, B0⟩
  case round =>
    clear O0 B0
    obtain ⟨k, rfl, hk, hown, hB⟩ := hrel
    by_cases hk1 : k < xs.length
    · have HPT := Lib.hid (show (ddK (xs.map matM) k).length ≤ 768 from Nat.le_trans (ddK_len _ _) (by have := H768.out; omega))
      have hkm : k < (xs.map matM).length := by rw [List.length_map]; exact hk1
      have ek : (xs.map matM)[k] = matM xs[k] := List.getElem_map ..
      have hk2 : (k : Int) < (xs.length : Int) := by omega
      have hk3 : (k : Int) ≤ 768 := by omega
      have hres := HS1.out.2.2.resolve_left (fun h => by omega)
      have hhi := HS1.out.1
      obtain ⟨g, cap', e9, _, hg, RA⟩ := hres
      simp only [Value.slice.injEq, true_and] at e9
      obtain ⟨rfl, rfl⟩ := e9
      have q1 := (RA.grow hB (by omega)).mo k hk1
      have HK := Lib.hid hk1
      have zB := hB.size
      rcases k with _ | j
      · have HQ := Lib.hid (show ddK (xs.map matM) (0 + 1) = ddK (xs.map matM) 0 ++ [matM xs[0]] by rw [ddK_keep hkm (fun h => by omega), ek]; rfl)
        clear RA hg hhi hk ek hkm
        generalize xs[0] = m at q1 HQ
        generalize ddK (xs.map matM) 0 = ys at hown HQ HPT
        clear hk1
        obtain ⟨a, b, c, d, x, y⟩ := m
        dsimp only at q1
        have q1c := q1.cells
        have O2 := hown
        have B2 := hB
        have z2 := B2.size
        clear hown hB
        go_wp2_with fail
        go_quiet (fail)
        have O3 := ownsRow_call O2 (show Below wr.heap.size wr (wr.drewN nq) from by repeat (first | with_reducible assumption | with_reducible exact Below.refl _ _ | with_reducible refine Below.drew ?_ | with_reducible refine below_drewN ?_ _))
        have B3 := bstep B2 (show Below wr.heap.size wr (wr.drewN nq) from by repeat (first | with_reducible assumption | with_reducible exact Below.refl _ _ | with_reducible refine Below.drew ?_ | with_reducible refine below_drewN ?_ _))
        have q3c := (Ko6.call q1 (show Below wr.heap.size wr (wr.drewN nq) from by repeat (first | with_reducible assumption | with_reducible exact Below.refl _ _ | with_reducible refine Below.drew ?_ | with_reducible refine below_drewN ?_ _))).cells
        have z3 := B3.size
        clear O2 B2 q1 q1c z2
        go_wp2_with (at_builtin; refine wpList_append_own _ rfl _ _ 59 rfl w.heap.size 27 i0 (.agg #[.int .i64 0, .int .i64 0, .int .i64 0, .int .i64 0]) 4 32 Tryz.underlying59 hinf hz0 hz1 hz2 rfl (by decide) _ _ _ rfl (O3.alloc _) ⟨_, 0, none⟩ 1 1 [.int .i64 a, .int .i64 b, .int .i64 c, .int .i64 d] rfl rfl (new_four _ _ _ _ _ (by first | rfl | simp)) one_four (by have := HPT.out; unfold maxLen; omega) (by have := HPT.out; omega) (by (try simp); omega) ?_; intro v9 w9 hown9 hgrow _)
        have O9 := own_next4 hown9
        have B9 : Below w.heap.size w w9 := Below.grown (Below.alloc B3 (by omega) _) hgrow (by simp; omega) (fun r hr => by have := (O3.lt r hr).1; omega)
        clear hown9 hgrow O3 B3
        go_wp2
        go_roundw
        case rel => exact ⟨0 + 1, by go_num, by have := HK.out; omega, by rw [HQ.out]; exact O9, B9⟩
        case measure => (have := HK.out); first | (simp [intOf]; done) | (simp [intOf]; omega)
      · have hj1 : j < xs.length := by omega
        have q2 := (RA.grow hB (by omega)).mo j hj1
        have ej : (xs.map matM)[j + 1 - 1]'(by rw [List.length_map]; omega) = matM xs[j] := by simp
        have HY := Lib.hid (fun (h : matM xs[j + 1] ≠ matM xs[j]) => (show ddK (xs.map matM) (j + 1 + 1) = ddK (xs.map matM) (j + 1) ++ [matM xs[j + 1]] by rw [ddK_keep hkm (fun _ => by rw [ek, ej]; exact h), ek]; rfl))
        have HN2 := Lib.hid (fun (h : matM xs[j + 1] = matM xs[j]) => (show ddK (xs.map matM) (j + 1 + 1) = ddK (xs.map matM) (j + 1) from ddK_skip (by omega) hkm (by rw [ek, ej]; exact h)))
        have hj2 : (j : Int) < (xs.length : Int) := by omega
        have hj3 : (j : Int) ≤ 768 := by omega
        have hj5 : ((j : Int) + 1 == 0) = false := beq_eq_false_iff_ne.2 (by omega)
        clear RA hg hhi hk ek ej hkm
        generalize xs[j + 1] = m at q1 HY HN2
        generalize xs[j] = n at q2 HY HN2
        generalize ddK (xs.map matM) (j + 1) = ys at hown HY HN2 HPT
        clear hk1 hj1
        obtain ⟨a, b, c, d, x, y⟩ := m
        obtain ⟨a', b', c', d', x', y'⟩ := n
        dsimp only at q1 q2
        have q1c := q1.cells
        have q2c := q2.cells
        rcases he : eqT4 a b c d a' b' c' d' with _ | _
        · have HQ := Lib.hid (HY.out (eqT4_neg he))
          clear HY HN2
          go_wp2_with fail
          go_quiet (fail)
          have O2 := ownsRow_call hown (show Below wr.heap.size wr (wr.drewN nq) from by repeat (first | with_reducible assumption | with_reducible exact Below.refl _ _ | with_reducible refine Below.drew ?_ | with_reducible refine below_drewN ?_ _))
          have B2 := bstep hB (show Below wr.heap.size wr (wr.drewN nq) from by repeat (first | with_reducible assumption | with_reducible exact Below.refl _ _ | with_reducible refine Below.drew ?_ | with_reducible refine below_drewN ?_ _))
          have q3c := (Ko6.call q1 (show Below wr.heap.size wr (wr.drewN nq) from by repeat (first | with_reducible assumption | with_reducible exact Below.refl _ _ | with_reducible refine Below.drew ?_ | with_reducible refine below_drewN ?_ _))).cells
          have z2 := B2.size
          clear hown hB q1 q2 q1c q2c
          go_wp2_with (at_builtin; refine wpList_append_own _ rfl _ _ 59 rfl w.heap.size 27 i0 (.agg #[.int .i64 0, .int .i64 0, .int .i64 0, .int .i64 0]) 4 32 Tryz.underlying59 hinf hz0 hz1 hz2 rfl (by decide) _ _ _ rfl (O2.alloc _) ⟨_, 0, none⟩ 1 1 [.int .i64 a, .int .i64 b, .int .i64 c, .int .i64 d] rfl rfl (new_four _ _ _ _ _ (by first | rfl | simp)) one_four (by have := HPT.out; unfold maxLen; omega) (by have := HPT.out; omega) (by (try simp); omega) ?_; intro v9 w9 hown9 hgrow _)
          have O9 := own_next4 hown9
          have B9 : Below w.heap.size w w9 := Below.grown (Below.alloc B2 (by omega) _) hgrow (by simp; omega) (fun r hr => by have := (O2.lt r hr).1; omega)
          clear hown9 hgrow O2 B2
          go_wp2
          go_roundw
          case rel => exact ⟨j + 1 + 1, by go_num, by have := HK.out; omega, by rw [HQ.out]; exact O9, B9⟩
          case measure => (have := HK.out); first | (simp [intOf]; done) | (simp [intOf]; omega)
        · have HQ := Lib.hid (HN2.out (eqT4_pos he))
          clear HY HN2
          go_wp2_with fail
          go_quiet (fail)
          have O2 := ownsRow_call hown (show Below wr.heap.size wr (wr.drewN nq) from by repeat (first | with_reducible assumption | with_reducible exact Below.refl _ _ | with_reducible refine Below.drew ?_ | with_reducible refine below_drewN ?_ _))
          have B2 := bstep hB (show Below wr.heap.size wr (wr.drewN nq) from by repeat (first | with_reducible assumption | with_reducible exact Below.refl _ _ | with_reducible refine Below.drew ?_ | with_reducible refine below_drewN ?_ _))
          clear hown hB q1 q2 q1c q2c
          go_wp2
          go_roundw
          case rel => exact ⟨j + 1 + 1, by go_num, by have := HK.out; omega, by rw [HQ.out]; exact O2, B2⟩
          case measure => (have := HK.out); first | (simp [intOf]; done) | (simp [intOf]; omega)
    · obtain rfl : k = xs.length := by omega
      have e : ddK (xs.map matM) xs.length = ptP xs := rfl
      rw [e] at hown
      clear hk hk1
      go_wp2
      go_ret
      exact ⟨_, rfl, hown, hB⟩

set_option maxRecDepth 100000 in
set_option maxHeartbeats 8000000 in
theorem specPoint_any {lo hi : Nat} {v : Value} {xs : List M6} {w : World} (f A B C : Int) (h : SRow lo hi 6 v xs.length (fm xs) w) (hn : xs.length ≤ 1048576) :
    Calls Tryz.prog 35 #[.int .i64 f, .agg #[.int .i64 A, .int .i64 B, .int .i64 C], v] w (LAns 4 (ptL f A B C xs).length (intAt (cells4 (ptL f A B C xs))) (cod6 f A B C (grpB f A B C xs)) w) := by
  have HN := Lib.hid hn
  have HA := Lib.hid h
  have L0 : Kt w.heap.size A B C (w.alloc (.cells #[.int .i64 A, .int .i64 B, .int .i64 C] 25)) := Kt.at _ rfl
  have B0 : Below w.heap.size w (w.alloc (.cells #[.int .i64 A, .int .i64 B, .int .i64 C] 25)) := (Below.refl _ _).alloc (Nat.le_refl _) _
  have L0c := L0.cells
  have CG : Hid (∀ W, Below w.heap.size w W → Calls Tryz.prog 61 #[.int .i64 f, .agg #[.int .i64 A, .int .i64 B, .int .i64 C], v] W fun e w' => e = .returned (.bool (grpB f A B C xs)) ∧ Below W.heap.size W w') := Lib.hid (fun W hW => specIsGroup_any f A B C (HA.out.grow hW HA.out.1) HN.out)
  have CC := Lib.hid (fun W => l06Code_any f A B C (grpB f A B C xs) W)
  clear h hn
  have hcc := cod6_cases f A B C xs
  obtain ⟨cz, hcz⟩ : ∃ cz, cz = cod6 f A B C (grpB f A B C xs) := ⟨_, rfl⟩
  rw [← hcz]
  have HC := Lib.hid hcz.symm
  clear hcz
  rcases hcc with ⟨hg, hc⟩ | ⟨hg, hc⟩
  case inr =>
    have HZ := Lib.hid (show (ptL f A B C xs).length = 0 by simp [ptL, hg])
    clear hg
    generalize grpB f A B C xs = gb at CG CC HC hc
    generalize cod6 f A B C gb = cc at CC HC hc
    go_enter Tryz.func35, Tryz.ntmps35
    go_wp2_with fail
    go_region_held3 (fun W => (W.cell? ⟨w.heap.size, 0, none⟩ = some (.int .i64 A) ∧ W.cell? ⟨w.heap.size, 1, none⟩ = some (.int .i64 B) ∧ W.cell? ⟨w.heap.size, 2, none⟩ = some (.int .i64 C))) ((refine Kt.cells ?_) <;> repeat (first | with_reducible assumption | with_reducible refine Kt.drew ?_ | with_reducible refine Kt.alloc ?_ _ | with_reducible refine Kt.call ?_ (by with_reducible assumption)))
      (first
        | (go_at_call 61; with_reducible refine (CG.out _ (by repeat (first | with_reducible assumption | with_reducible exact Below.refl _ _ | with_reducible refine Below.alloc ?_ (by first | omega | (simp <;> omega)) _ | with_reducible refine bstep ?_ (by with_reducible assumption) | with_reducible refine Below.drew ?_))).mono ?_; rintro e u1 ⟨rfl, hb1⟩; have L1 : Kt w.heap.size A B C u1 := (by repeat (first | with_reducible assumption | with_reducible refine Kt.drew ?_ | with_reducible refine Kt.alloc ?_ _ | with_reducible refine Kt.call ?_ (by with_reducible assumption))); have B1 : Below w.heap.size w u1 := (by repeat (first | with_reducible assumption | with_reducible exact Below.refl _ _ | with_reducible refine Below.alloc ?_ (by first | omega | (simp <;> omega)) _ | with_reducible refine bstep ?_ (by with_reducible assumption) | with_reducible refine Below.drew ?_)))
        | (go_at_call 97; with_reducible refine (CC.out _).mono ?_; rintro e u2 ⟨rfl, hb2⟩; have L2 : Kt w.heap.size A B C u2 := (by repeat (first | with_reducible assumption | with_reducible refine Kt.drew ?_ | with_reducible refine Kt.alloc ?_ _ | with_reducible refine Kt.call ?_ (by with_reducible assumption))); have B2 : Below w.heap.size w u2 := (by repeat (first | with_reducible assumption | with_reducible exact Below.refl _ _ | with_reducible refine Below.alloc ?_ (by first | omega | (simp <;> omega)) _ | with_reducible refine bstep ?_ (by with_reducible assumption) | with_reducible refine Below.drew ?_))))
    all_goals
      go_wp2
      go_ret2
      exact LAns.bad HZ.out HC.out (by repeat (first | with_reducible assumption | with_reducible exact Below.refl _ _ | with_reducible refine Below.alloc ?_ (by first | omega | (simp <;> omega)) _ | with_reducible refine bstep ?_ (by with_reducible assumption) | with_reducible refine Below.drew ?_))
  have HG := Lib.hid hg
  have HCZ : Hid (cz = 0) := Lib.hid (HC.out.symm.trans hc)
  rw [hc] at CC
  rw [hg] at CG CC
  clear hg hc HC
  go_enter Tryz.func35, Tryz.ntmps35
  go_wp2_with fail
  go_region_held3 (fun W => (W.cell? ⟨w.heap.size, 0, none⟩ = some (.int .i64 A) ∧ W.cell? ⟨w.heap.size, 1, none⟩ = some (.int .i64 B) ∧ W.cell? ⟨w.heap.size, 2, none⟩ = some (.int .i64 C))) ((refine Kt.cells ?_) <;> repeat (first | with_reducible assumption | with_reducible refine Kt.drew ?_ | with_reducible refine Kt.alloc ?_ _ | with_reducible refine Kt.call ?_ (by with_reducible assumption)))
    (first
      | (go_at_call 61; with_reducible refine (CG.out _ (by repeat (first | with_reducible assumption | with_reducible exact Below.refl _ _ | with_reducible refine Below.alloc ?_ (by first | omega | (simp <;> omega)) _ | with_reducible refine bstep ?_ (by with_reducible assumption) | with_reducible refine Below.drew ?_))).mono ?_; rintro e u1 ⟨rfl, hb1⟩; have L1 : Kt w.heap.size A B C u1 := (by repeat (first | with_reducible assumption | with_reducible refine Kt.drew ?_ | with_reducible refine Kt.alloc ?_ _ | with_reducible refine Kt.call ?_ (by with_reducible assumption))); have B1 : Below w.heap.size w u1 := (by repeat (first | with_reducible assumption | with_reducible exact Below.refl _ _ | with_reducible refine Below.alloc ?_ (by first | omega | (simp <;> omega)) _ | with_reducible refine bstep ?_ (by with_reducible assumption) | with_reducible refine Below.drew ?_)))
      | (go_at_call 97; with_reducible refine (CC.out _).mono ?_; rintro e u2 ⟨rfl, hb2⟩; have L2 : Kt w.heap.size A B C u2 := (by repeat (first | with_reducible assumption | with_reducible refine Kt.drew ?_ | with_reducible refine Kt.alloc ?_ _ | with_reducible refine Kt.call ?_ (by with_reducible assumption))); have B2 : Below w.heap.size w u2 := (by repeat (first | with_reducible assumption | with_reducible exact Below.refl _ _ | with_reducible refine Below.alloc ?_ (by first | omega | (simp <;> omega)) _ | with_reducible refine bstep ?_ (by with_reducible assumption) | with_reducible refine Below.drew ?_))))
  all_goals
    have B3 : Below w.heap.size w u2 := B2
    have S3 := HA.out.grow B3 HA.out.1
    clear L1 B1 L2 B2 L0 B0 L0c
    go_wp2_with fail
    refine (l06Point_any S3 (grp_len HG.out)).mono ?_
    rintro e w5 ⟨v5, rfl, hr5, hb5⟩
    have z3 := B3.size
    have B5 := bstep B3 hb5
    go_wp2
    go_ret2
    exact ⟨_, ret_pair (by rfl) HCZ.out.symm, (by rw [show ptL f A B C xs = ptP xs by simp [ptL, HG.out]]; exact SRow.big4 (ownsRow_lower hr5 z3) (by have := ptP_len xs; have := grp_len HG.out; omega)), B5⟩

end Go.Proofs.YtkfeajjpbmbmpaaGreatDoor
