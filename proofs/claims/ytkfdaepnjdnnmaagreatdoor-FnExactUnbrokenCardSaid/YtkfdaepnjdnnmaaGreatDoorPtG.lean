/-
  The full lattice of a pattern as a list's reduced form, and the reduced form of a long list in the model. Conditions: those that are stated.
-/
import Derived.Test.YtkfdaepnjdnnmaaGreatDoorPtH
import Derived.Test.YtkfdaepnjdnnmaaGreatDoorPtS
import Derived.Test.YtkfdaepnjdnnmaaGreatDoorGf
namespace Go.Proofs.YtkfdaepnjdnnmaaGreatDoor
open Go.RowKit
set_option linter.unusedSimpArgs false
set_option linter.unusedVariables false

def kptA (A B C : Int) (F : Nat → Int) (v : V29) : Bool := kepS A B C F v.1 v.2 (cellP C.toNat A.toNat)
def basL (A B C : Int) : List (Int × Int) := [(A, 0), (B, C)]
/- the state behind some cells: those that keep the colours are taken in -/
def stS (A B C : Int) (F : Nat → Int) (pre : List V29) : Int × Int × Int := (pre.filter (kptA A B C F)).foldl spStep (B, C, A)
def nrmS (s : Int × Int × Int) : Int × Int × Int := nrm s.2.2 s.1 s.2.1
def fulP (A B C : Int) (F : Nat → Int) (pre : List V29) : Int × Int × Int := nrmS (stS A B C F pre)
def fulI (A B C : Int) (F : Nat → Int) : Int × Int × Int := fulP A B C F (cellP C.toNat A.toNat)
theorem basL_fold {A B C : Int} (h : latI A B C) : spFold (basL A B C) = (B, C, A) := by
  have h1 := h.1
  have h2 := h.2.1
  have e1 : spFold [(A, 0)] = (0, 0, A) := by
    rw [spFold_one, if_pos rfl, gcdI_z]
    rw [show ((A.natAbs : Nat) : Int) = A by omega]
  have e2 : spFold (basL A B C) = spStep (spFold [(A, 0)]) (B, C) := rfl
  rw [e2, e1]
  have e3 : eu 0 0 B C = (B, C, 0) := by
    rw [eu_step _ _ _ (by omega)]
    simp [eu_zero]
  unfold spStep
  simp only [e3]
  simp [gcdI]
  omega
theorem okS_start {A B C : Int} (h : latI A B C) : okS (B, C, A) := ⟨by have := h.1; dsimp only; omega, by have := h.2.1; dsimp only; omega⟩
theorem okS_fold (L : List (Int × Int)) : ∀ s, okS s → okS (L.foldl spStep s) := by
  induction L with
  | nil => exact fun s h => h
  | cons v L ih => exact fun s h => ih _ (okS_step v h)
theorem okS_st {A B C : Int} (h : latI A B C) (F : Nat → Int) (pre : List V29) : okS (stS A B C F pre) := okS_fold _ _ (okS_start h)
theorem st_le {s : Int × Int × Int} (v : Int × Int) (hs : okS s) : (spStep s v).2.2 ≤ s.2.2 ∧ (spStep s v).2.1.natAbs ≤ s.2.1.natAbs := by
  obtain ⟨h1, h2⟩ := okS_dvd (okS_step v hs) (fun x y h => Spn_old (s := s) v h)
  refine ⟨Int.le_of_dvd hs.1 h1, Nat.le_of_dvd (Int.natAbs_pos.2 hs.2) (Int.natAbs_dvd_natAbs.2 h2)⟩
theorem latI_nrm {s : Int × Int × Int} (hs : okS s) (h64 : s.2.2 * (s.2.1.natAbs : Int) ≤ 64) : latI (nrmS s).1 (nrmS s).2.1 (nrmS s).2.2 := by
  have h1 := nrm_A s.2.2 s.1 s.2.1
  have h2 := nrm_C s.2.2 s.1 s.2.1
  have h3 := nrm_B s.2.2 s.1 s.2.1 hs.1
  have h4 := hs.2
  have h5 := hs.1
  unfold nrmS
  unfold latI
  rw [h1, h2]
  exact ⟨by omega, by omega, h3.1, h3.2, h64⟩
def bdS (s : Int × Int × Int) : Prop := okS s ∧ s.2.2 * (s.2.1.natAbs : Int) ≤ 64
theorem bdS_step {s : Int × Int × Int} (v : Int × Int) (h : bdS s) : bdS (spStep s v) := by
  have h1 := st_le v h.1
  have h2 := okS_step v h.1
  refine ⟨h2, Int.le_trans (Int.mul_le_mul h1.1 (by omega) (by omega) (by have := h.1.1; omega)) h.2⟩
theorem bdS_fold (L : List (Int × Int)) : ∀ s, bdS s → bdS (L.foldl spStep s) := by
  induction L with
  | nil => exact fun s h => h
  | cons v L ih => exact fun s h => ih _ (bdS_step v h)
theorem bdS_start {A B C : Int} (h : latI A B C) : bdS (B, C, A) := ⟨okS_start h, by
  dsimp only
  rw [show ((C.natAbs : Nat) : Int) = C by have := h.2.1; omega]
  exact h.2.2.2.2⟩
theorem fulP_lat {A B C : Int} (h : latI A B C) (F : Nat → Int) (pre : List V29) : latI (fulP A B C F pre).1 (fulP A B C F pre).2.1 (fulP A B C F pre).2.2 := by
  have h1 := bdS_fold (pre.filter (kptA A B C F)) _ (bdS_start h)
  exact latI_nrm h1.1 h1.2
theorem has_nrm {s : Int × Int × Int} (hs : okS s) (x y : Int) : hasB (nrmS s).1 (nrmS s).2.1 (nrmS s).2.2 x y = true ↔ Spn s x y := by
  rw [hasB_iff]
  exact nrm_has hs.2
theorem nrm_lat {A B C : Int} (h : latI A B C) : nrm A B C = (A, B, C) := by
  unfold nrm
  rw [if_neg (by have := h.2.1; omega), Int.emod_eq_of_lt h.2.2.1 h.2.2.2.1]
theorem Spn_lat {A B C : Int} (h : latI A B C) (x y : Int) : Spn (B, C, A) x y ↔ hasI A B C x y := by
  have e := nrm_has (f := A) (sx := B) (x := x) (y := y) (show C ≠ 0 by have := h.2.1; omega)
  rw [nrm_lat h] at e
  exact e.symm
theorem stS_snoc (A B C : Int) (F : Nat → Int) (pre : List V29) (v : V29) : stS A B C F (pre ++ [v]) = if kptA A B C F v = true then spStep (stS A B C F pre) v else stS A B C F pre := by
  unfold stS
  rw [List.filter_append, List.foldl_append]
  by_cases h : kptA A B C F v = true
  · simp [h]
  · simp [h]
theorem fulP_out {A B C : Int} {F : Nat → Int} {pre : List V29} {v : V29} (h : kptA A B C F v = false) : fulP A B C F (pre ++ [v]) = fulP A B C F pre := by
  unfold fulP
  rw [stS_snoc, if_neg (by simp [h])]
theorem fulP_has {A B C : Int} (hl : latI A B C) {F : Nat → Int} {pre : List V29} {v : V29} (h : hasB (fulP A B C F pre).1 (fulP A B C F pre).2.1 (fulP A B C F pre).2.2 v.1 v.2 = true) : fulP A B C F (pre ++ [v]) = fulP A B C F pre := by
  have hs := okS_st hl F pre
  have hv := (has_nrm hs v.1 v.2).1 h
  rcases hk : kptA A B C F v with _ | _
  · exact fulP_out hk
  · unfold fulP
    rw [stS_snoc, if_pos hk]
    refine nrm_same (okS_step v hs) hs fun x y => ⟨fun h9 => ?_, fun h9 => Spn_old v h9⟩
    obtain ⟨n, k, h1, h2⟩ := (Spn_step _ v x y).1 h9
    obtain ⟨j, h3, h4⟩ := hv
    refine ⟨k + n * j, by rw [Int.add_mul]; have : n * v.2 = n * j * (stS A B C F pre).2.1 := by rw [h3, Int.mul_assoc]
                          omega, ?_⟩
    have e : x - (k + n * j) * (stS A B C F pre).1 = (x - n * v.1 - k * (stS A B C F pre).1) + n * (v.1 - j * (stS A B C F pre).1) := by grind
    rw [e]
    exact Int.dvd_add h2 (Int.dvd_mul_of_dvd_right h4)
theorem fulP_in {A B C : Int} (hl : latI A B C) {F : Nat → Int} {pre : List V29} {v : V29} (hk : kptA A B C F v = true) : latL [((fulP A B C F pre).1, 0), ((fulP A B C F pre).2.1, (fulP A B C F pre).2.2), v] = fulP A B C F (pre ++ [v]) := by
  have hs := okS_st hl F pre
  have h2 := fulP_lat hl F pre
  have hn := fun x y => (has_nrm hs x y).symm.trans (hasB_iff _ _ _ x y)
  unfold fulP at *
  rw [stS_snoc, if_pos hk]
  generalize stS A B C F pre = s at *
  generalize nrmS s = t at *
  obtain ⟨a, b, c⟩ := t
  dsimp only at *
  have e1 : latL [(a, 0), (b, c), v] = nrmS (spStep (b, c, a) v) := by
    have := basL_fold h2
    unfold latL nrmS
    rw [show spFold [(a, 0), (b, c), v] = spStep (spFold (basL a b c)) v from rfl, this]
  rw [e1]
  refine nrm_same (okS_step v (okS_start h2)) (okS_step v hs) fun x y => ?_
  rw [Spn_step, Spn_step]
  refine exists_congr fun n => ?_
  rw [Spn_lat h2, hn]
theorem span_pos {A B C : Int} (h : latI A B C) (v : V29) : 0 < (spFold [(A, 0), (B, C), v]).2.2 := by
  rw [show spFold [(A, 0), (B, C), v] = spStep (spFold (basL A B C)) v from rfl, basL_fold h]
  exact (okS_step v (okS_start h)).1
/- the model's list -/
def fulM (A B C : Int) (F : Nat → Int) : List (Int × Int) := basL A B C ++ (cellP C.toNat A.toNat).filter (kptA A B C F)
theorem fulM_lat {A B C : Int} (h : latI A B C) (F : Nat → Int) : latL (fulM A B C F) = fulI A B C F := by
  unfold latL fulI fulP nrmS stS fulM
  rw [show spFold (basL A B C ++ (cellP C.toNat A.toNat).filter (kptA A B C F)) = ((cellP C.toNat A.toNat).filter (kptA A B C F)).foldl spStep (spFold (basL A B C)) from List.foldl_append, basL_fold h]
def bdT (t : Int × Int × Int) : Prop := okS t ∧ 0 ≤ t.1 ∧ t.1 < t.2.2 ∧ t.2.2 ≤ 64 ∧ t.2.1.natAbs ≤ 64
theorem bdT_step {t : Int × Int × Int} (v : Int × Int) (h : bdT t) : bdT (hmStep t v) := by
  have h1 := okS_step v h.1
  have h2 := st_le v h.1
  have e := hm_pos (s := t) (v := v) h1.1
  rw [e]
  obtain ⟨h3, h4, h5, h6, h7⟩ := h
  refine ⟨h1, ?_, ?_, ?_, ?_⟩
  · exact Int.emod_nonneg _ (by have := h1.1; omega)
  · exact Int.emod_lt_of_pos _ h1.1
  · dsimp only; omega
  · dsimp only; omega
theorem bdT_fold (L : List (Int × Int)) : ∀ t, bdT t → bdT (L.foldl hmStep t) := by
  induction L with
  | nil => exact fun s h => h
  | cons v L ih => exact fun s h => ih _ (bdT_step v h)
theorem basL_hm {A B C : Int} (h : latI A B C) : hmFold (basL A B C) = (B, C, A) ∧ hmFold [(A, 0)] = (0, 0, A) := by
  have h1 := h.1
  have h2 := h.2.1
  have e1 : spFold [(A, 0)] = (0, 0, A) := by
    rw [spFold_one, if_pos rfl, gcdI_z]
    rw [show ((A.natAbs : Nat) : Int) = A by omega]
  have e2 : hmFold [(A, 0)] = (0, 0, A) := by
    have : hmFold [(A, 0)] = hmStep (0, 0, 0) (A, 0) := rfl
    rw [this]
    have e3 : spStep (0, 0, 0) (A, 0) = (0, 0, A) := e1
    rw [hm_pos (by rw [e3]; dsimp only; omega), e3]
    simp
  refine ⟨?_, e2⟩
  have e4 : hmFold (basL A B C) = hmStep (hmFold [(A, 0)]) (B, C) := rfl
  have e5 : spStep (0, 0, A) (B, C) = (B, C, A) := by
    have := basL_fold h
    rw [show spFold (basL A B C) = spStep (spFold [(A, 0)]) (B, C) from rfl, e1] at this
    exact this
  rw [e4, e2, hm_pos (by rw [e5]; dsimp only; omega), e5]
  simp only [Prod.mk.injEq, and_true]
  exact Int.emod_eq_of_lt h.2.2.1 h.2.2.2.1
theorem bdT_stB {t : Int × Int × Int} (h : bdT t) : stB 1000000 t := by
  obtain ⟨h1, h2, h3, h4, h5⟩ := h
  have := h1.1
  exact ⟨by omega, by omega, by omega, by omega⟩
theorem fulM_st {A B C : Int} (h : latI A B C) (M : List (Int × Int)) (i : Nat) : stB 1000000 (((basL A B C ++ M).take i).foldl hmStep (0, 0, 0)) := by
  have hb := latI_bd h
  have hbt : bdT (B, C, A) := ⟨okS_start h, h.2.2.1, h.2.2.2.1, hb.1, by have := h.2.1; dsimp only; omega⟩
  obtain ⟨e1, e2⟩ := basL_hm h
  match i with
  | 0 => exact stB_zero _
  | 1 =>
    rw [show (basL A B C ++ M).take 1 = [(A, 0)] from rfl, show [(A, 0)].foldl hmStep (0, 0, 0) = hmFold [(A, 0)] from rfl, e2]
    have := h.1
    exact ⟨by simp, by simp, by dsimp only; omega, by dsimp only; omega⟩
  | i + 2 =>
    rw [show (basL A B C ++ M).take (i + 2) = basL A B C ++ M.take i from rfl, List.foldl_append, show (basL A B C).foldl hmStep (0, 0, 0) = hmFold (basL A B C) from rfl, e1]
    exact bdT_stB (bdT_fold _ _ hbt)
theorem fulM_pos {A B C : Int} (h : latI A B C) (M : List (Int × Int)) : 0 < (hmFold (basL A B C ++ M)).2.2 := by
  have hb := latI_bd h
  have hbt : bdT (B, C, A) := ⟨okS_start h, h.2.2.1, h.2.2.2.1, hb.1, by have := h.2.1; dsimp only; omega⟩
  unfold hmFold
  rw [List.foldl_append, show (basL A B C).foldl hmStep (0, 0, 0) = hmFold (basL A B C) from rfl, (basL_hm h).1]
  exact (bdT_fold _ _ hbt).1.1
set_option maxHeartbeats 4000000 in
theorem hermite9_any (L : List (Int × Int)) (g cap : Nat) (w : World) (hV : VL g L w) (hL : vecsB L) (hn : L.length ≤ 100000) (h0 : 0 < (hmFold L).2.2) (hB9 : ∀ i, stB 1000000 ((L.take i).foldl hmStep (0, 0, 0))) :
    Calls Tryz.prog 101 #[.slice (some ⟨g, 0, none⟩) L.length cap] w fun e w' => e = .returned (.agg #[.int .i64 ((latL L).1), .int .i64 ((latL L).2.1), .int .i64 ((latL L).2.2)]) ∧ Below w.heap.size w w' := by
  have HV := Lib.hid hV
  have HL := Lib.hid hL
  have H0 := Lib.hid h0
  have H9 := Lib.hid hB9
  clear hV hL h0 hB9
  go_enter Tryz.func101, Tryz.ntmps101
  go_wp2_with fail
  go_loopw [4, 5] (fun f i W => ∃ (k : Nat) (s : Int × Int × Int), i = .int .i64 k ∧ f = .int .i64 s.2.2 ∧ k ≤ L.length ∧ Hid (s = (L.take k).foldl hmStep (0, 0, 0)) ∧ Hid (stB (1000000) s) ∧ KW (w.heap.size + 1) s.1 s.2.1 W ∧ KL w.heap.size 0 0 0 W ∧ Below w.heap.size w W) (fun _ i _ => L.length - (intOf i).toNat)
  case atStart => exact ⟨0, (0, 0, 0), rfl, rfl, Nat.zero_le _, rfl, stB_zero _, KW.at _ (by simp), (KL.at _ rfl).alloc _, Below.alloc (Below.alloc (Below.refl _ _) (Nat.le_refl _) _) (by simp) _⟩
  case round =>
    obtain ⟨k, ⟨sx, sy, f⟩, rfl, rfl, hk, hS, hT, K1, K2, hB⟩ := hrel
    simp only at K1
    by_cases h1 : k < L.length
    · have hk0 : (0 : Int) ≤ (k : Int) := by omega
      have hk1 : (k : Int) < (L.length : Int) := by omega
      have hBs := hB.size
      obtain ⟨c0, c1⟩ := (HV.out.grow hB HV.out.1).2 k h1
      have VB := Lib.hid (HL.out L[k] (List.getElem_mem h1))
      have J0 := Lib.hid (stB_J (Nat.le_refl _) hT.out VB.out.1 VB.out.2)
      have hK : 1001 * 1000000 ≤ 1100000000000000000 := by omega
      have HN := Lib.hid (H9.out (k + 1))
      have HF := Lib.hid (fold_take hmStep L k h1 (0, 0, 0))
      rename World => W1
      have fb : f.natAbs ≤ 1000000 ∧ 0 ≤ f := ⟨hT.out.2.2.2, hT.out.2.2.1⟩
      have ne : w.heap.size + 1 < W1.heap.size := K1.lt
      clear hT
      generalize L[k] = v at *
      obtain ⟨x, y⟩ := v
      simp only at c0 c1 VB J0 HN HF
      have hB1 : Below w.heap.size w (W1.alloc (.cells #[.int .i64 x, .int .i64 y] 53)) := hB.alloc hBs _
      go_wp2_with fail
      go_loopw [20] (fun _ W => ∃ px py vx vy : Int, Hid (eu px py vx vy = eu sx sy x y) ∧ Hid (euJ (1001 * 1000000) px py vx vy) ∧ KW (w.heap.size + 1) px py W ∧ KW W1.heap.size vx vy W ∧ KL w.heap.size 0 0 0 W ∧ Below w.heap.size w W) (fun _ W => cellAbs W1.heap.size W)
      case atStart => exact ⟨sx, sy, x, y, rfl, J0.out, K1.alloc _, KW.at _ rfl, K2.alloc _, hB1⟩
      case round =>
        clear c0 c1 K1 K2 hB hB1
        obtain ⟨px, py, vx, vy, hE, hJ, KS, KV, KR, BB⟩ := hrel
        obtain ⟨s0, s1, s2, s3, s4⟩ := id KS
        obtain ⟨v0, v1, v2, v3, v4⟩ := id KV
        have sz := BB.size
        have ne1 : ¬ w.heap.size + 1 = W1.heap.size := by omega
        have ne2 : ¬ W1.heap.size = w.heap.size + 1 := by omega
        by_cases h0 : vy = 0
        · subst h0
          have e0 := Lib.hid ((eu_zero px py vx).symm.trans hE.out)
          obtain ⟨f1, f2⟩ := fb
          obtain ⟨_, _, _, j4, j5⟩ := hJ.out
          have e1 : spStep (sx, sy, f) (x, y) = (px, py, gcdI f vx) := by simp [spStep, ← e0.out]
          have gb := gcdI_bd (a := f) (b := vx) (M := 1001 * 1000000) (by omega) (by omega)
          have gn := gcdI_nn f vx
          by_cases hg : 0 < gcdI f vx
          · have e2 := hm_pos (s := (sx, sy, f)) (v := (x, y)) (by rw [e1]; exact hg)
            rw [e1] at e2
            have E1 := Lib.hid (show (px % gcdI f vx, py, gcdI f vx) = (L.take (k + 1)).foldl hmStep (0, 0, 0) by rw [HF.out, ← hS.out, e2])
            have E2 := Lib.hid (show stB (1000000) (px % gcdI f vx, py, gcdI f vx) by rw [E1.out]; exact HN.out)
            clear e1 e2 HN HF VB J0 hJ hE
            go_wp2_with fail
            refine (divisorBigB_any f vx _ (by omega) (by omega) (by omega) (by omega)).mono ?_
            rintro e w2 ⟨rfl, hb2⟩
            have KS2 := KS.call hb2
            have KV2 := KV.call hb2
            have KR2 := KR.call hb2
            have BB2 := bstep BB hb2
            obtain ⟨t0, t1, t2, t3, t4⟩ := id KS2
            clear hb2 s0 s1 s2 s3 s4 KS KV KR BB
            go_wp2_with fail
            refine (l01Mod_any px (gcdI f vx) _ (by unfold bigI; omega) (by omega) (by unfold bigI; omega)).mono ?_
            rintro e w3 ⟨rfl, hb3⟩
            have KS3 := KS2.call hb3
            obtain ⟨t0, t1, t2, t3, t4⟩ := id KS3
            go_wp2
            go_roundw
            case rel => exact ⟨k + 1, (px % gcdI f vx, py, gcdI f vx), by go_num, rfl, by omega, E1.out, E2.out, KW.store0 KS3 _, KL.put (by show w.heap.size < w.heap.size + 1; omega) (KR2.call hb3), Below.setCell (bstep BB2 hb3) (by show w.heap.size ≤ w.heap.size + 1; omega) _⟩
            case measure => first | (simp [intOf]; done) | (simp [intOf]; omega)
          · have g0 : gcdI f vx = 0 := by omega
            have e2 := hm_zero (s := (sx, sy, f)) (v := (x, y)) (by rw [e1]; exact hg)
            rw [e1, g0] at e2
            have E1 := Lib.hid (show (px, py, (0 : Int)) = (L.take (k + 1)).foldl hmStep (0, 0, 0) by rw [HF.out, ← hS.out, e2])
            have E2 := Lib.hid (show stB (1000000) (px, py, (0 : Int)) by rw [E1.out]; exact HN.out)
            have G0 := Lib.hid g0
            clear e1 e2 HN HF VB J0 hJ hE hg g0
            go_wp2_with fail
            refine (divisorBigB_any f vx _ (by omega) (by omega) (by omega) (by omega)).mono ?_
            rintro e w2 ⟨rfl, hb2⟩
            rw [G0.out]
            have KS2 := KS.call hb2
            have KR2 := KR.call hb2
            have BB2 := bstep BB hb2
            go_wp2
            go_roundw
            case rel => exact ⟨k + 1, (px, py, 0), by go_num, rfl, by omega, E1.out, E2.out, KS2, KR2, BB2⟩
            case measure => first | (simp [intOf]; done) | (simp [intOf]; omega)
        · have hcA := cellAbs_of v2
          have h0' : (vy != 0) = true := by simp [h0]
          obtain ⟨r1, r2, r3, r4, r5, r6, r7⟩ := round_vals hK hJ.out h0
          have hw1 : IntKind.i64.wrap (py.tdiv vy) = py.tdiv vy := IntWalk.i64_in _ (by omega)
          obtain ⟨q1, q2⟩ := euJ_prod hJ.out
          obtain ⟨j1, j2, j3, j4, j5⟩ := hJ.out
          have m1 : -1100000000000000000 ≤ py.tdiv vy * vx ∧ py.tdiv vy * vx ≤ 1100000000000000000 := by omega
          have e7 : py.tdiv vy * vy = py - py.tmod vy := by have := Int.tmod_add_mul_tdiv py vy; have := Int.mul_comm vy (py.tdiv vy); omega
          have e8 := tmod_lt py vy h0
          have m2 : -2000 ≤ py.tdiv vy * vy ∧ py.tdiv vy * vy ≤ 2000 := by omega
          have m3 : -1100000000000000000 ≤ px ∧ px ≤ 1100000000000000000 := by omega
          have m4 : -1000 ≤ py ∧ py ≤ 1000 := by omega
          have E1 := Lib.hid (show eu vx vy (px - py.tdiv vy * vx) (py - py.tdiv vy * vy) = eu sx sy x y by rw [show py - py.tdiv vy * vy = py.tmod vy by omega, ← eu_step px py vx h0]; exact hE.out)
          have E2 := Lib.hid (show euJ (1001 * 1000000) vx vy (px - py.tdiv vy * vx) (py - py.tdiv vy * vy) by rw [show py - py.tdiv vy * vy = py.tmod vy by omega]; exact euJ_next hJ.out h0)
          have E3 := Lib.hid (show (py - py.tdiv vy * vy).natAbs < vy.natAbs by rw [show py - py.tdiv vy * vy = py.tmod vy by omega]; exact e8)
          clear r1 r2 r3 r4 r5 r6 e7 e8 hE hJ HN HF VB J0 j1 j2 j3 j4 j5
          go_wp2
          go_roundw
          case rel => exact ⟨vx, vy, _, _, E1.out, E2.out, (KW.far ne2 (KW.far ne2 (KW.store KS _ _))).alloc _, (KW.store (KW.far ne1 (KW.far ne1 KV)) _ _).alloc _, KL.alloc (KL.put (by show w.heap.size < W1.heap.size; omega) (KL.put (by show w.heap.size < W1.heap.size; omega) (KL.put (by show w.heap.size < w.heap.size + 1; omega) (KL.put (by show w.heap.size < w.heap.size + 1; omega) KR)))) _, Below.alloc (Below.setCell (Below.setCell (Below.setCell (Below.setCell BB (by show w.heap.size ≤ w.heap.size + 1; omega) _) (by show w.heap.size ≤ w.heap.size + 1; omega) _) (by show w.heap.size ≤ W1.heap.size; omega) _) (by show w.heap.size ≤ W1.heap.size; omega) _) (by simp; omega) _⟩
          case measure =>
            rw [hcA]
            exact Nat.lt_of_le_of_lt (Nat.le_of_eq (cellAbs_of ((KW.store (KW.far ne1 (KW.far ne1 KV)) _ _).alloc _).c1)) E3.out
    · obtain rfl : k = L.length := by omega
      have hS' : hmFold L = (sx, sy, f) := by have := hS.out; rw [List.take_length] at this; exact this.symm
      have hf : 0 < f := by have := H0.out; rw [hS'] at this; exact this
      obtain ⟨t1, t2, t3, t4⟩ := hT.out
      simp only at t1 t2 t3 t4
      obtain ⟨a0, a1, a2, a3, a4⟩ := id K1
      obtain ⟨b0, b1, b2, b3, b4, b5, b6⟩ := id K2
      have HSp := Lib.hid hS'
      clear hS' hS hT
      by_cases hs : sy < 0
      · have ea : latL L = (f, (-sx) % f, -sy) := by rw [latL_eq, HSp.out]; simp [nrm, hs]
        have EA := Lib.hid ea
        clear ea
        go_wp2_with fail
        refine (scaleBig_any sx sy (-1) _ (by unfold bigI; omega) (by unfold bigI; omega)).mono ?_
        rintro e w2 ⟨rfl, hb2⟩
        have KS2 := K1.call hb2
        have KR2 := K2.call hb2
        have BB2 := bstep hB hb2
        obtain ⟨a0, a1, a2, a3, a4⟩ := id KS2
        clear hb2 hB K1 K2 b0 b1 b2 b3 b4 b5 b6
        go_wp2_with fail
        refine (l01Mod_any (-sx) f _ (by unfold bigI; omega) (by omega) (by unfold bigI; omega)).mono ?_
        rintro e w3 ⟨rfl, hb3⟩
        have hlt := KS2.lt
        have KS3 : KW (w.heap.size + 1) (-sx) (-sy) w3 := KW.call (KW.store KS2 (-sx) (-sy)) hb3
        have KR3 : KL w.heap.size 0 0 0 w3 := KL.call (KL.put (by show w.heap.size < w.heap.size + 1; omega) (KL.put (by show w.heap.size < w.heap.size + 1; omega) KR2)) hb3
        have BB3 : Below w.heap.size w w3 := bstep (Below.setCell (Below.setCell BB2 (by show w.heap.size ≤ w.heap.size + 1; omega) _) (by show w.heap.size ≤ w.heap.size + 1; omega) _) hb3
        clear hb3 a0 a1 a2 a3 a4 KS2 KR2 BB2
        obtain ⟨a0, a1, a2, a3, a4⟩ := id KS3
        obtain ⟨b0, b1, b2, b3, b4, b5, b6⟩ := id KR3
        go_wp2
        refine bodyPost_ret (v := .agg #[.int .i64 f, .int .i64 ((-sx) % f), .int .i64 (-sy)]) (by simp [results, Tryz.results101, go_sem, a0, a1, a2, a3, a4, b0, b1, b2, b3, b4, b5, b6]) rfl ⟨ret_val (by rw [EA.out]), ?_⟩
        exact Below.setCell (Below.setCell (Below.setCell (Below.setCell BB3 (by show w.heap.size ≤ w.heap.size + 1; omega) _) (Nat.le_refl _) _) (Nat.le_refl _) _) (Nat.le_refl _) _
      · have ea : latL L = (f, sx % f, sy) := by rw [latL_eq, HSp.out]; simp [nrm, hs]
        have EA := Lib.hid ea
        clear ea
        go_wp2_with fail
        refine (l01Mod_any sx f _ (by unfold bigI; omega) (by omega) (by unfold bigI; omega)).mono ?_
        rintro e w3 ⟨rfl, hb3⟩
        have KS3 := K1.call hb3
        have KR3 := K2.call hb3
        have BB3 := bstep hB hb3
        obtain ⟨a0, a1, a2, a3, a4⟩ := id KS3
        obtain ⟨b0, b1, b2, b3, b4, b5, b6⟩ := id KR3
        clear hb3 K1 K2 hB
        go_wp2
        refine bodyPost_ret (v := .agg #[.int .i64 f, .int .i64 (sx % f), .int .i64 sy]) (by simp [results, Tryz.results101, go_sem, a0, a1, a2, a3, a4, b0, b1, b2, b3, b4, b5, b6]) rfl ⟨ret_val (by rw [EA.out]), ?_⟩
        exact Below.setCell (Below.setCell (Below.setCell (Below.setCell BB3 (by show w.heap.size ≤ w.heap.size + 1; omega) _) (Nat.le_refl _) _) (Nat.le_refl _) _) (Nat.le_refl _) _

end Go.Proofs.YtkfdaepnjdnnmaaGreatDoor
