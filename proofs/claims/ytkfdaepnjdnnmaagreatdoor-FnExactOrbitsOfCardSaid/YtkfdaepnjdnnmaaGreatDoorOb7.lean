/-
  The model's orbits of a group: the sorted list of a cell's orbit, and which cells are the first of theirs. Conditions: a list that is a group modulo a valid lattice.
-/
import Derived.Test.YtkfdaepnjdnnmaaGreatDoorIn7
import Derived.Test.YtkfdaepnjdnnmaaGreatDoorOrI
import Derived.Deep.RegionHeld3
import Derived.IntWalk
namespace Go.Proofs.YtkfdaepnjdnnmaaGreatDoor
open Go.RowKit
set_option linter.unusedSimpArgs false
set_option linter.unusedVariables false

def orbL (A B C : Int) (G : List M6) (u : V2) : List V2 := putAllV (G.map fun g => mv A B C g u)
theorem orbL_up (A B C : Int) (G : List M6) (u : V2) : UpV (orbL A B C G u) := putAllV_up _
theorem orbL_mem {A B C : Int} {G : List M6} {u v : V2} : v ∈ orbL A B C G u ↔ Orb A B C G u v := by
  unfold orbL Orb
  rw [putAllV_mem, List.mem_map]
theorem orbL_len (A B C : Int) (G : List M6) (u : V2) : (orbL A B C G u).length ≤ G.length := Nat.le_trans (putAllV_len _) (by rw [List.length_map]; exact Nat.le_refl _)
theorem orbL_next {A B C : Int} {G : List M6} {u : V2} {k : Nat} (hk : k < G.length) : putAllV ((G.take (k + 1)).map fun g => mv A B C g u) = putV (putAllV ((G.take k).map fun g => mv A B C g u)) (mv A B C G[k] u) := by
  rw [List.take_succ_eq_append_getElem hk, List.map_append, List.map_cons, List.map_nil, putAllV_snoc]
/- the cells in their order -/
theorem cellR_up (a j : Nat) : UpV (cellR a j) := by
  unfold cellR
  show List.Pairwise _ _
  rw [List.pairwise_map]
  refine List.pairwise_lt_range.imp ?_
  intro x y h
  simp [ltV, h]
theorem cellP_mem7 {p q : Nat} {v : V2} : v ∈ cellP q p ↔ celB (p : Int) (q : Int) v = true := by
  unfold cellP cellR
  rw [celB_iff]
  simp only [List.mem_flatMap, List.mem_map, List.mem_range]
  constructor
  · rintro ⟨a, ha, b, hb, rfl⟩
    simp only
    omega
  · rintro ⟨⟨h1, h2⟩, h3, h4⟩
    obtain ⟨x, y⟩ := v
    simp only at h1 h2 h3 h4
    exact ⟨x.toNat, by omega, y.toNat, by omega, by simp only [Prod.mk.injEq]; omega⟩
theorem cellP_up (q : Nat) : ∀ p, UpV (cellP q p)
  | 0 => by simp [cellP]
  | p + 1 => by
    rw [cellP_succ]
    show List.Pairwise _ _
    rw [List.pairwise_append]
    refine ⟨cellP_up q p, cellR_up p q, fun u hu v hv => ?_⟩
    have h1 := celB_iff.1 (cellP_mem7.1 hu)
    unfold cellR at hv
    obtain ⟨b, _, rfl⟩ := List.mem_map.1 hv
    show ltV _ _ = true
    simp only [ltV, decide_eq_true_eq]
    omega
theorem orbL_cells {f : Int} {p q : Nat} {B : Int} {G : List M6} (hG : grpB f (p : Int) B (q : Int) G = true) (u : V2) : orbL (p : Int) B (q : Int) G u = (cellP q p).filter fun v => decide (Orb (p : Int) B (q : Int) G u v) := by
  refine upV_unique (orbL_up _ _ _ _ _) ((cellP_up q p).filter _) fun v => ?_
  rw [orbL_mem, List.mem_filter, decide_eq_true_eq, cellP_mem7]
  exact ⟨fun h => ⟨orb_cel (grp_good hG).1 h, h⟩, fun h => h.2⟩
/- the first of an orbit -/
def Cov (A B C : Int) (G : List M6) (pre F : List V2) : Prop := (∀ v ∈ pre, ∃ u ∈ F, Orb A B C G u v) ∧ ∀ u ∈ F, u ∈ pre
theorem cov_step {f A B C : Int} {G : List M6} (hG : grpB f A B C G = true) {pre F : List V2} {v : V2} (hv : celB A C v = true) (h : Cov A B C G pre F) : Cov A B C G (pre ++ [v]) (fstF A B C G F v) := by
  obtain ⟨h1, h2⟩ := h
  unfold fstF
  split
  · rename_i he
    refine ⟨fun x hx => ?_, fun u hu => by simp [h2 u hu]⟩
    rcases List.mem_append.1 hx with hx | hx
    · exact h1 x hx
    · have e : x = v := by simpa using hx
      rw [e]; exact he
  · refine ⟨fun x hx => ?_, fun u hu => ?_⟩
    · rcases List.mem_append.1 hx with hx | hx
      · obtain ⟨u, k1, k2⟩ := h1 x hx
        exact ⟨u, by simp [k1], k2⟩
      · have e : x = v := by simpa using hx
        rw [e]
        exact ⟨v, by simp, orb_refl hG hv⟩
    · rcases List.mem_append.1 hu with hu | hu
      · simp [h2 u hu]
      · have e : u = v := by simpa using hu
        simp [e]
theorem cov_all {f A B C : Int} {G : List M6} (hG : grpB f A B C G = true) : ∀ (vs pre F : List V2), (∀ v ∈ vs, celB A C v = true) → Cov A B C G pre F → Cov A B C G (pre ++ vs) (vs.foldl (fstF A B C G) F)
  | [], pre, F, _, h => by simpa using h
  | v :: vs, pre, F, hc, h => by
    have h1 := cov_all hG vs (pre ++ [v]) (fstF A B C G F v) (fun x hx => hc x (by simp [hx])) (cov_step hG (hc v (by simp)) h)
    simpa using h1
theorem fst_cov {f A B C : Int} {G : List M6} (hG : grpB f A B C G = true) (vs : List V2) (hc : ∀ v ∈ vs, celB A C v = true) : (∀ v ∈ vs, ∃ u ∈ fstL A B C G vs, Orb A B C G u v) ∧ ∀ u ∈ fstL A B C G vs, u ∈ vs := by
  have h := cov_all hG vs [] [] hc ⟨fun v h => absurd h (by simp), fun u h => absurd h (by simp)⟩
  simpa [Cov, fstL] using h
theorem up_head {L : List V2} (hU : UpV L) {u : V2} (hu : u ∈ L) (h0 : 0 < L.length) : L[0] = u ↔ ∀ v ∈ L, ltV v u = false := by
  constructor
  · rintro e v hv
    obtain ⟨i, hi, rfl⟩ := List.getElem_of_mem hv
    rw [← e]
    rcases i with _ | j
    · exact ltV_irrefl _
    · exact ltV_asymm (List.pairwise_iff_getElem.1 hU 0 (j + 1) h0 hi (by omega))
  · intro h
    obtain ⟨i, hi, rfl⟩ := List.getElem_of_mem hu
    rcases i with _ | j
    · rfl
    · have h1 : ltV L[0] L[j + 1] = true := List.pairwise_iff_getElem.1 hU 0 (j + 1) h0 hi (by omega)
      rw [h _ (List.getElem_mem h0)] at h1; cases h1
theorem orbL_pos {f A B C : Int} {G : List M6} (hG : grpB f A B C G = true) {u : V2} (hu : celB A C u = true) : 0 < (orbL A B C G u).length := List.length_pos_of_mem (orbL_mem.2 (orb_refl hG hu))
theorem fst_step {f : Int} {p q : Nat} {B : Int} {G : List M6} (hG : grpB f (p : Int) B (q : Int) G = true) {k : Nat} (hk : k < (cellP q p).length) (h0 : 0 < (orbL (p : Int) B (q : Int) G (cellP q p)[k]).length) :
    fstL (p : Int) B (q : Int) G ((cellP q p).take (k + 1)) = if (orbL (p : Int) B (q : Int) G (cellP q p)[k])[0] = (cellP q p)[k] then fstL (p : Int) B (q : Int) G ((cellP q p).take k) ++ [(cellP q p)[k]] else fstL (p : Int) B (q : Int) G ((cellP q p).take k) := by
  rw [List.take_succ_eq_append_getElem hk, fstL_snoc]
  have hcel : ∀ v ∈ cellP q p, celB (p : Int) (q : Int) v = true := fun v hv => cellP_mem7.1 hv
  have hu := hcel _ (List.getElem_mem hk)
  obtain ⟨h1, h2⟩ := fst_cov hG ((cellP q p).take k) (fun v hv => hcel v (List.mem_of_mem_take hv))
  have hpre : ∀ v, v ∈ (cellP q p).take k ↔ v ∈ cellP q p ∧ ltV v (cellP q p)[k] = true := fun v => by
    constructor
    · intro hv
      obtain ⟨i, hi, rfl⟩ := List.getElem_of_mem hv
      rw [List.length_take] at hi
      rw [List.getElem_take]
      exact ⟨List.getElem_mem _, List.pairwise_iff_getElem.1 (cellP_up q p) i k (by omega) hk (by omega)⟩
    · rintro ⟨hv, hlt⟩
      obtain ⟨i, hi, rfl⟩ := List.getElem_of_mem hv
      have hik : i < k := by
        rcases Nat.lt_trichotomy i k with h | h | h
        · exact h
        · subst h; rw [ltV_irrefl] at hlt; cases hlt
        · have := List.pairwise_iff_getElem.1 (cellP_up q p) k i hk hi h
          rw [ltV_asymm this] at hlt; cases hlt
      exact List.mem_iff_getElem.2 ⟨i, by rw [List.length_take]; omega, by rw [List.getElem_take]⟩
  have key : (∃ u' ∈ fstL (p : Int) B (q : Int) G ((cellP q p).take k), Orb (p : Int) B (q : Int) G u' (cellP q p)[k]) ↔ ¬ (orbL (p : Int) B (q : Int) G (cellP q p)[k])[0] = (cellP q p)[k] := by
    rw [up_head (orbL_up _ _ _ _ _) (orbL_mem.2 (orb_refl hG hu)) h0]
    constructor
    · rintro ⟨u', m1, m2⟩ hall
      have m3 := h2 u' m1
      have m4 := (hpre u').1 m3
      have := hall u' (orbL_mem.2 (orb_symm hG (hcel _ m4.1) m2))
      rw [m4.2] at this; cases this
    · intro hn
      have : ∃ v ∈ orbL (p : Int) B (q : Int) G (cellP q p)[k], ltV v (cellP q p)[k] = true := by
        by_cases h : ∃ v ∈ orbL (p : Int) B (q : Int) G (cellP q p)[k], ltV v (cellP q p)[k] = true
        · exact h
        · exact absurd (fun v hv => by
            rcases hh : ltV v (cellP q p)[k] with _ | _
            · rfl
            · exact absurd ⟨v, hv, hh⟩ h) hn
      obtain ⟨v, m1, m2⟩ := this
      have m3 := orbL_mem.1 m1
      have m4 := orb_cel (grp_good hG).1 m3
      obtain ⟨u', k1, k2⟩ := h1 v ((hpre v).2 ⟨cellP_mem7.2 m4, m2⟩)
      exact ⟨u', k1, orb_trans hG k2 (orb_symm hG hu m3)⟩
  unfold fstF
  by_cases hh : (orbL (p : Int) B (q : Int) G (cellP q p)[k])[0] = (cellP q p)[k]
  · rw [if_pos hh, if_neg (fun e => key.1 e hh)]
  · rw [if_neg hh, if_pos (key.2 hh)]
theorem orb_fin (A B C : Int) (G : List M6) (u : V2) : putAllV ((G.take G.length).map fun g => mv A B C g u) = orbL A B C G u := by rw [List.take_length]; rfl
set_option maxRecDepth 100000 in
set_option maxHeartbeats 8000000 in
theorem l07Orbit_any {f A B C : Int} {lo hi : Nat} {v : Value} {G : List M6} {w : World} (p q : Int) (hG : grpB f A B C G = true) (hu : celB A C (p, q) = true) (h : SRow lo hi 6 v G.length (fm G) w) :
    Calls Tryz.prog 86 #[.agg #[.int .i64 A, .int .i64 B, .int .i64 C], v, .agg #[.int .i64 p, .int .i64 q]] w fun e w' => ∃ g cap, e = .returned (.slice (some ⟨g, 0, none⟩) (orbL A B C G (p, q)).length cap) ∧ KO2 g w.heap.size cap 53 (orbL A B C G (p, q)) w' ∧ Below w.heap.size w w' := by
  have HA := Lib.hid h
  have HGR := Lib.hid hG
  have HCL := Lib.hid hu
  have L0 : Kt w.heap.size A B C ((w.alloc (.cells #[.int .i64 A, .int .i64 B, .int .i64 C] 33)).alloc (.cells #[.int .i64 p, .int .i64 q] 53)) := Kt.alloc (Kt.at _ rfl) _
  have V0 : Kg (w.heap.size + 1) p q ((w.alloc (.cells #[.int .i64 A, .int .i64 B, .int .i64 C] 33)).alloc (.cells #[.int .i64 p, .int .i64 q] 53)) := Kg.at2 _ (by simp)
  have B0 : Below w.heap.size w ((w.alloc (.cells #[.int .i64 A, .int .i64 B, .int .i64 C] 33)).alloc (.cells #[.int .i64 p, .int .i64 q] 53)) := (((Below.refl _ _).alloc (Nat.le_refl _) _).alloc (by simp) _)
  obtain ⟨ao, cap, rfl⟩ := srow_shape h
  have H768 := Lib.hid (grp_len hG)
  have h7 : (G.length : Int) ≤ 768 := by have := grp_len hG; omega
  clear h hG hu
  have LQ := L0.alloc (.cells #[] 53)
  have VQ := V0.alloc (.cells #[] 53)
  have BR : Below w.heap.size w (((w.alloc (.cells #[.int .i64 A, .int .i64 B, .int .i64 C] 33)).alloc (.cells #[.int .i64 p, .int .i64 q] 53)).alloc (.cells #[] 53)) := B0.alloc (by simp; omega) _
  have OQ : KO2 (w.heap.size + 1 + 1) (w.heap.size + 1 + 1) 0 53 [] (((w.alloc (.cells #[.int .i64 A, .int .i64 B, .int .i64 C] 33)).alloc (.cells #[.int .i64 p, .int .i64 q] 53)).alloc (.cells #[] 53)) := lit2 _ _ (by simp) (by simp)
  clear L0 V0 B0
  go_enter Tryz.func86, Tryz.ntmps86
  go_wp2_with fail
  go_loopw [7, 8] (fun s7 s8 W => ∃ (k : Nat) (O : List V2) (go co : Nat), s8 = .int .i64 (k : Int) ∧ k ≤ G.length ∧ O = (putAllV ((G.take k).map fun g => mv A B C g (p, q))) ∧ s7 = .slice (some ⟨go, 0, none⟩) O.length co ∧ KO2 go (w.heap.size + 1 + 1) co 53 O W ∧ Kt w.heap.size A B C W ∧ Kg (w.heap.size + 1) p q W ∧ Below w.heap.size w W) (fun _ s8 _ => G.length - (intOf s8).toNat)
  case atStart => exact ⟨0, [], _, _, rfl, by omega, rfl, rfl, OQ, LQ, VQ, BR⟩
  case round =>
    clear OQ LQ VQ BR
    obtain ⟨k, O, go, co, rfl, hk, hOe, rfl, hO, hL, hV, hB⟩ := hrel
    by_cases hk1 : k < G.length
    · have HOU := Lib.hid (show UpV O by rw [hOe]; exact putAllV_up _)
      have HOL := Lib.hid (show O.length ≤ 768 by
        rw [hOe]
        exact Nat.le_trans (putAllV_len _) (by rw [List.length_map, List.length_take]; have := H768.out; omega))
      have HNX := Lib.hid (show putAllV ((G.take (k + 1)).map fun g => mv A B C g (p, q)) = putV O (mv A B C G[k] (p, q)) by rw [hOe]; exact orbL_next hk1)
      have HMEM := Lib.hid ((grp_ok HGR.out).2.1 G[k] (List.getElem_mem hk1))
      have hk2 : (k : Int) < (G.length : Int) := by omega
      have hk3 : (k : Int) ≤ 768 := by omega
      have hres := HA.out.2.2.resolve_left (fun h => by omega)
      have hhi := HA.out.1
      obtain ⟨g, cap', e9, _, hg, RA⟩ := hres
      simp only [Value.slice.injEq, true_and] at e9
      obtain ⟨rfl, rfl⟩ := e9
      have q1 := (RA.grow hB (by omega)).mo k hk1
      have HT := Lib.hid (show G.take (k + 1) = G.take k ++ [G[k]] from List.take_succ_eq_append_getElem hk1)
      have HTL := Lib.hid (show (G.take k).length ≤ 768 by rw [List.length_take]; omega)
      have HK := Lib.hid hk1
      clear RA hg hhi hk
      generalize G[k] = m at q1 HT HNX HMEM
      clear hk1
      obtain ⟨a, b, c, d, x, y⟩ := m
      dsimp only at q1
      clear HT HTL hOe
      obtain ⟨hl, hli, hv, hp, hx, hy⟩ := mv_mid HMEM.out.1 HMEM.out.2 HCL.out
      have CT : Hid (∀ W, Calls Tryz.prog 53 #[.agg #[.int .i64 A, .int .i64 B, .int .i64 C], .agg #[.int .i64 a, .int .i64 b, .int .i64 c, .int .i64 d, .int .i64 x, .int .i64 y], .agg #[.int .i64 p, .int .i64 q]] W fun e w' => e = .returned (.agg #[.int .i64 (redX A B C (a * p + b * q + x) (c * p + d * q + y)), .int .i64 (redY C (c * p + d * q + y))]) ∧ Below W.heap.size W w') := Lib.hid (fun W => l07Move_any A B C a b c d x y p q W hl hli hv hp hx hy)
      have HMV : Hid (mv A B C (a, b, c, d, x, y) (p, q) = (redX A B C (a * p + b * q + x) (c * p + d * q + y), redY C (c * p + d * q + y))) := Lib.hid rfl
      clear hl hli hv hp hx hy HMEM
      generalize redX A B C (a * p + b * q + x) (c * p + d * q + y) = rx at CT HMV
      generalize redY C (c * p + d * q + y) = ry at CT HMV
      rw [HMV.out] at HNX
      clear HMV
      have CI : Hid (∀ W, KO2 go (w.heap.size + 1 + 1) co 53 O W → w.heap.size + 1 + 1 ≤ W.heap.size → Calls Tryz.prog 129 #[.slice (some ⟨go, 0, none⟩) O.length co, .agg #[.int .i64 rx, .int .i64 ry]] W fun e w' => ∃ g cap, e = .returned (.slice (some ⟨g, 0, none⟩) (putV O (rx, ry)).length cap) ∧ KO2 g (w.heap.size + 1 + 1) cap 53 (putV O (rx, ry)) w' ∧ Below W.heap.size W w') := Lib.hid (fun W hW hs => l01Insert_any rx ry hW ⟨_, _, rfl⟩ hs HOU.out (by have := HOL.out; omega))
      have hgl := ko_lt q1
      have hgo := (KO2.lt hO).2
      have hLl := kt_lt hL
      have hVl := kg_lt7 hV
      have q1c := q1.cells
      have hLc := hL.cells
      have hVc := hV.cells
      have zB := hB.size
      go_wp2_with fail
      go_region_held3 (fun W => (W.cell? ⟨w.heap.size, 0, none⟩ = some (.int .i64 A) ∧ W.cell? ⟨w.heap.size, 1, none⟩ = some (.int .i64 B) ∧ W.cell? ⟨w.heap.size, 2, none⟩ = some (.int .i64 C)) ∧ (W.cell? ⟨w.heap.size + 1, 0, none⟩ = some (.int .i64 p) ∧ W.cell? ⟨w.heap.size + 1, 1, none⟩ = some (.int .i64 q)) ∧ (W.cell? ⟨g, k * 6, none⟩ = some (.int .i64 a) ∧ W.cell? ⟨g, k * 6 + 1, none⟩ = some (.int .i64 b) ∧ W.cell? ⟨g, k * 6 + 2, none⟩ = some (.int .i64 c) ∧ W.cell? ⟨g, k * 6 + 3, none⟩ = some (.int .i64 d) ∧ W.cell? ⟨g, k * 6 + 4, none⟩ = some (.int .i64 x) ∧ W.cell? ⟨g, k * 6 + 5, none⟩ = some (.int .i64 y))) ((refine ⟨Kt.cells ?_, Kg.cells ?_, Ko6.cells ?_⟩) <;> repeat (first | with_reducible assumption | with_reducible refine Kt.drew ?_ | with_reducible refine Kt.alloc ?_ _ | with_reducible refine Kt.call ?_ (by with_reducible assumption) | with_reducible refine Kg.drew ?_ | with_reducible refine Kg.alloc ?_ _ | with_reducible refine Kg.call ?_ (by with_reducible assumption) | with_reducible refine Ko6.drew ?_ | with_reducible refine Ko6.alloc ?_ _ | with_reducible refine Ko6.call ?_ (by with_reducible assumption) | with_reducible refine KO2.drew ?_ | with_reducible refine KO2.alloc ?_ _ | with_reducible refine KO2.call ?_ (by with_reducible assumption)))
        (first
          | (go_at_call 53; with_reducible refine (CT.out _).mono ?_; rintro e u7 ⟨rfl, hb7⟩; have L7 : Kt w.heap.size A B C u7 := (by repeat (first | with_reducible assumption | with_reducible refine Kt.drew ?_ | with_reducible refine Kt.alloc ?_ _ | with_reducible refine Kt.call ?_ (by with_reducible assumption) | with_reducible refine Kg.drew ?_ | with_reducible refine Kg.alloc ?_ _ | with_reducible refine Kg.call ?_ (by with_reducible assumption) | with_reducible refine Ko6.drew ?_ | with_reducible refine Ko6.alloc ?_ _ | with_reducible refine Ko6.call ?_ (by with_reducible assumption) | with_reducible refine KO2.drew ?_ | with_reducible refine KO2.alloc ?_ _ | with_reducible refine KO2.call ?_ (by with_reducible assumption))); have V7 : Kg (w.heap.size + 1) p q u7 := (by repeat (first | with_reducible assumption | with_reducible refine Kt.drew ?_ | with_reducible refine Kt.alloc ?_ _ | with_reducible refine Kt.call ?_ (by with_reducible assumption) | with_reducible refine Kg.drew ?_ | with_reducible refine Kg.alloc ?_ _ | with_reducible refine Kg.call ?_ (by with_reducible assumption) | with_reducible refine Ko6.drew ?_ | with_reducible refine Ko6.alloc ?_ _ | with_reducible refine Ko6.call ?_ (by with_reducible assumption) | with_reducible refine KO2.drew ?_ | with_reducible refine KO2.alloc ?_ _ | with_reducible refine KO2.call ?_ (by with_reducible assumption))); have Q7 : Ko6 g (k * 6) a b c d x y u7 := (by repeat (first | with_reducible assumption | with_reducible refine Kt.drew ?_ | with_reducible refine Kt.alloc ?_ _ | with_reducible refine Kt.call ?_ (by with_reducible assumption) | with_reducible refine Kg.drew ?_ | with_reducible refine Kg.alloc ?_ _ | with_reducible refine Kg.call ?_ (by with_reducible assumption) | with_reducible refine Ko6.drew ?_ | with_reducible refine Ko6.alloc ?_ _ | with_reducible refine Ko6.call ?_ (by with_reducible assumption) | with_reducible refine KO2.drew ?_ | with_reducible refine KO2.alloc ?_ _ | with_reducible refine KO2.call ?_ (by with_reducible assumption))); have O7 : KO2 go (w.heap.size + 1 + 1) co 53 O u7 := (by repeat (first | with_reducible assumption | with_reducible refine Kt.drew ?_ | with_reducible refine Kt.alloc ?_ _ | with_reducible refine Kt.call ?_ (by with_reducible assumption) | with_reducible refine Kg.drew ?_ | with_reducible refine Kg.alloc ?_ _ | with_reducible refine Kg.call ?_ (by with_reducible assumption) | with_reducible refine Ko6.drew ?_ | with_reducible refine Ko6.alloc ?_ _ | with_reducible refine Ko6.call ?_ (by with_reducible assumption) | with_reducible refine KO2.drew ?_ | with_reducible refine KO2.alloc ?_ _ | with_reducible refine KO2.call ?_ (by with_reducible assumption))); have B7 : Below w.heap.size w u7 := (by repeat (first | with_reducible assumption | with_reducible exact Below.refl _ _ | with_reducible refine Below.alloc ?_ (by first | omega | (simp <;> omega)) _ | with_reducible refine bstep ?_ (by with_reducible assumption) | with_reducible refine Below.drew ?_)))
          | (go_at_call 129; with_reducible refine (CI.out _ (by repeat (first | with_reducible assumption | with_reducible refine Kt.drew ?_ | with_reducible refine Kt.alloc ?_ _ | with_reducible refine Kt.call ?_ (by with_reducible assumption) | with_reducible refine Kg.drew ?_ | with_reducible refine Kg.alloc ?_ _ | with_reducible refine Kg.call ?_ (by with_reducible assumption) | with_reducible refine Ko6.drew ?_ | with_reducible refine Ko6.alloc ?_ _ | with_reducible refine Ko6.call ?_ (by with_reducible assumption) | with_reducible refine KO2.drew ?_ | with_reducible refine KO2.alloc ?_ _ | with_reducible refine KO2.call ?_ (by with_reducible assumption))) (by have := kg_lt7 V7; first | omega | (simp; omega))).mono ?_; rintro e u8 ⟨g6, cap6, rfl, O8, hb8⟩; have L8 : Kt w.heap.size A B C u8 := (by repeat (first | with_reducible assumption | with_reducible refine Kt.drew ?_ | with_reducible refine Kt.alloc ?_ _ | with_reducible refine Kt.call ?_ (by with_reducible assumption) | with_reducible refine Kg.drew ?_ | with_reducible refine Kg.alloc ?_ _ | with_reducible refine Kg.call ?_ (by with_reducible assumption) | with_reducible refine Ko6.drew ?_ | with_reducible refine Ko6.alloc ?_ _ | with_reducible refine Ko6.call ?_ (by with_reducible assumption) | with_reducible refine KO2.drew ?_ | with_reducible refine KO2.alloc ?_ _ | with_reducible refine KO2.call ?_ (by with_reducible assumption))); have V8 : Kg (w.heap.size + 1) p q u8 := (by repeat (first | with_reducible assumption | with_reducible refine Kt.drew ?_ | with_reducible refine Kt.alloc ?_ _ | with_reducible refine Kt.call ?_ (by with_reducible assumption) | with_reducible refine Kg.drew ?_ | with_reducible refine Kg.alloc ?_ _ | with_reducible refine Kg.call ?_ (by with_reducible assumption) | with_reducible refine Ko6.drew ?_ | with_reducible refine Ko6.alloc ?_ _ | with_reducible refine Ko6.call ?_ (by with_reducible assumption) | with_reducible refine KO2.drew ?_ | with_reducible refine KO2.alloc ?_ _ | with_reducible refine KO2.call ?_ (by with_reducible assumption))); have Q8 : Ko6 g (k * 6) a b c d x y u8 := (by repeat (first | with_reducible assumption | with_reducible refine Kt.drew ?_ | with_reducible refine Kt.alloc ?_ _ | with_reducible refine Kt.call ?_ (by with_reducible assumption) | with_reducible refine Kg.drew ?_ | with_reducible refine Kg.alloc ?_ _ | with_reducible refine Kg.call ?_ (by with_reducible assumption) | with_reducible refine Ko6.drew ?_ | with_reducible refine Ko6.alloc ?_ _ | with_reducible refine Ko6.call ?_ (by with_reducible assumption) | with_reducible refine KO2.drew ?_ | with_reducible refine KO2.alloc ?_ _ | with_reducible refine KO2.call ?_ (by with_reducible assumption))); have B8 : Below w.heap.size w u8 := (by repeat (first | with_reducible assumption | with_reducible exact Below.refl _ _ | with_reducible refine Below.alloc ?_ (by first | omega | (simp <;> omega)) _ | with_reducible refine bstep ?_ (by with_reducible assumption) | with_reducible refine Below.drew ?_))))
      all_goals
        clear hL hV hO hB q1 q1c hLc hVc L7 V7 Q7 O7 B7 hb7 hb8 Q8
        go_wp2
        go_roundw
        case rel => exact ⟨k + 1, putV O (rx, ry), g6, cap6, by go_num, by have := HK.out; omega, HNX.out.symm, rfl, O8, L8, V8, B8⟩
        case measure => (have := HK.out); first | (simp [intOf]; done) | (simp [intOf]; omega)
    · obtain rfl : k = G.length := by omega
      rw [orb_fin] at hOe
      subst hOe
      have K9 : KO2 go w.heap.size co 53 (orbL A B C G (p, q)) wr := ownsRow_lower hO (by omega)
      have HK9 := Lib.hid K9
      clear hk hk1 hO K9 hL hV
      go_wp2
      go_ret
      exact ⟨_, _, rfl, HK9.out, hB⟩

end Go.Proofs.YtkfdaepnjdnnmaaGreatDoor
