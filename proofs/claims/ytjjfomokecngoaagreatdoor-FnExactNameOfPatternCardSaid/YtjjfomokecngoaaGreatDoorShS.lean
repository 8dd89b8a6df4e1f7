/-
 The model's l04Shortest: the shortest vectors of a lattice among all near ones. Conditions: the frame and the lattice are valid.
-/
import Derived.Test.YtjjfomokecngoaaGreatDoorGe
import Derived.Test.YtjjfomokecngoaaGreatDoorGg
import Derived.Test.YtjjfomokecngoaaGreatDoorGb
import Derived.Deep.RegionHeld3
import Derived.BigQuiet
import Derived.Deep.QuietTactic
namespace Go.Proofs.YtjjfomokecngoaaGreatDoor
open Go.RowKit
set_option linter.unusedSimpArgs false
set_option linter.unusedVariables false

theorem pkShS0 {P : Prop} (h : P := by repeat (first | assumption | with_reducible refine Ko2.drew ?_ | with_reducible refine Ko2.call ?_ (by assumption) | with_reducible refine Kt.drew ?_ | with_reducible refine Kt.call ?_ (by assumption))) : P := h
theorem pkShS1 {P : Prop} (h : P := by repeat (first | assumption | with_reducible refine Ko2.alloc ?_ _ | with_reducible refine Ko2.drew ?_ | with_reducible refine Ko2.call ?_ (by assumption))) : P := h
theorem pkShS2 {P : Prop} (h : P := by repeat (first | assumption | with_reducible refine Kt.alloc ?_ _ | with_reducible refine Kt.drew ?_ | with_reducible refine Kt.call ?_ (by assumption))) : P := h
theorem pkShS3 {P : Prop} (h : P := by repeat (first | exact Below.refl _ _ | with_reducible refine Below.drew ?_ | with_reducible refine bstep ?_ (by assumption))) : P := h
theorem cells2_gets : ∀ (xs : List (Int × Int)) (i : Nat) (h : i < xs.length), (cells2 xs)[i * 2]? = some (.int .i64 xs[i].1) ∧ (cells2 xs)[i * 2 + 1]? = some (.int .i64 xs[i].2)
 | [], i, h => by simp at h
 | t :: xs, 0, _ => by simp [cells2]
 | t :: xs, i + 1, h => by
  have ih := cells2_gets xs i (by simpa using h)
  have e : ∀ k, (cells2 (t :: xs))[k + 2]? = (cells2 xs)[k]? := fun k => by simp [cells2]
  rw [show (i + 1) * 2 = i * 2 + 2 by omega, show i * 2 + 2 + 1 = (i * 2 + 1) + 2 by omega, e, e]
  simpa using ih
theorem at2s {xs : List (Int × Int)} {i : Nat} (h : i < xs.length) : intAt (cells2 xs) (i * 2) = xs[i].1 ∧ intAt (cells2 xs) (i * 2 + 1) = xs[i].2 := by
 obtain ⟨h1, h2⟩ := cells2_gets xs i h
 exact ⟨by simp [intAt, h1], by simp [intAt, h2]⟩
theorem leastF_take {f A B C : Int} {L : List (Int × Int)} {k : Nat} (h : k < L.length) : leastF f A B C (L.take (k + 1)) = leastStep f A B C (leastF f A B C (L.take k)) L[k] := by
 rw [List.take_succ_eq_append_getElem h, leastF_snoc]
theorem least_no1 {f A B C m x y : Int} (h : ¬ 0 < nrmI f x y) : leastStep f A B C m (x, y) = m := by unfold leastStep; rw [if_neg (fun c => h c.1)]
theorem least_no2 {f A B C m x y : Int} (h : ¬ nrmI f x y < m) : leastStep f A B C m (x, y) = m := by unfold leastStep; rw [if_neg (fun c => h c.2.1)]
theorem least_no3 {f A B C m x y : Int} (h : hasB A B C x y = false) : leastStep f A B C m (x, y) = m := by unfold leastStep; rw [if_neg (fun c => by simp [h] at c)]
theorem least_yes {f A B C m x y : Int} (h1 : 0 < nrmI f x y) (h2 : nrmI f x y < m) (h3 : hasB A B C x y = true) : leastStep f A B C m (x, y) = nrmI f x y := by unfold leastStep; rw [if_pos ⟨h1, h2, h3⟩]; rfl
def fitP (f A B C m : Int) (L : List (Int × Int)) (k : Nat) : List (Int × Int) := (L.take k).filter (fits f A B C m)
theorem fitP_succ {f A B C m : Int} {L : List (Int × Int)} {k : Nat} (h : k < L.length) : fitP f A B C m L (k + 1) = fitP f A B C m L k ++ (if fits f A B C m L[k] = true then [L[k]] else []) := by
 unfold fitP
 rw [List.take_succ_eq_append_getElem h, List.filter_append]
 congr 1
 rcases hs : fits f A B C m L[k] with _ | _ <;> simp [hs]
theorem fitP_len (f A B C m : Int) (L : List (Int × Int)) (k : Nat) : (fitP f A B C m L k).length ≤ L.length := by
 unfold fitP
 refine Nat.le_trans (List.length_filter_le _ _) ?_
 rw [List.length_take]; omega
theorem fits_no1 {f A B C m x y : Int} (h : (nrmI f x y == m) = false) : fits f A B C m (x, y) = false := by
 unfold fits nrmV; simp at h; simp [h]
theorem fits_no2 {f A B C m x y : Int} (h : hasB A B C x y = false) : fits f A B C m (x, y) = false := by
 unfold fits; simp [h]
theorem fits_yes {f A B C m x y : Int} (h : (nrmI f x y == m) = true) (h2 : hasB A B C x y = true) : fits f A B C m (x, y) = true := by
 unfold fits nrmV; simp at h; simp [h, h2]
def ShSOwn (f A B C : Int) (w : World) (e : Ending) (w' : World) : Prop :=
 ∃ v : Value, e = .returned v ∧ w'.ownsRow w.heap.size 63 2 v (shortM f A B C).length (cells2 (shortM f A B C)) ∧ Below w.heap.size w w'
set_option maxRecDepth 100000 in
set_option maxHeartbeats 8000000 in
theorem l04Shortest_any (f A B C : Int) (w : World) (hf : frB f = true) (hl : latI A B C) :
  Calls Tryz.prog 146 #[.int .i64 f, .agg #[.int .i64 A, .int .i64 B, .int .i64 C]] w (ShSOwn f A B C w) := by
 obtain ⟨i0, hi, hz0, hz1, hz2⟩ := info_parts infoVec
 obtain ⟨bA, bC⟩ := latI_bd hl
 have hA1 := hl.1
 have hAA : A * A ≤ 4096 := by have := Int.mul_le_mul bA bA (by omega) (by omega); omega
 have hAA0 : 0 ≤ A * A := sq_nn A
 have HI := Lib.hid hl
 have K0 : Kt w.heap.size A B C (w.alloc (.cells #[.int .i64 A, .int .i64 B, .int .i64 C] 28)) := Kt.at _ rfl
 have B0 : Below w.heap.size w (w.alloc (.cells #[.int .i64 A, .int .i64 B, .int .i64 C] 28)) := (Below.refl _ _).alloc (Nat.le_refl _) _
 clear hl
 go_enter Tryz.func146, Tryz.ntmps146
 go_wp2_with fail
 refine (l04Near_any f (A * A) 128 _ hf (by omega)).mono ?_
 rintro e w1 ⟨vn, rfl, hown, hb1⟩
 have K1 := K0.call hb1
 have B1 := bstep B0 hb1
 have hlen : (nearL f (A * A) 128).length ≤ 66049 := by
  have := nearP_len f (A * A) 128 (2 * 128 + 1) (2 * 128 + 1)
  exact Nat.le_trans this (by omega)
 have S1 := SRow.of hown (cells2_int _) (by omega)
 have HE := Lib.hid (show shortM f A B C = fitP f A B C (leastF f A B C (nearL f (A * A) 128)) (nearL f (A * A) 128) (nearL f (A * A) 128).length by unfold shortM fitP; rw [List.take_length])
 have HM := Lib.hid (show ∀ v ∈ nearL f (A * A) 128, midI v.1 ∧ midI v.2 by
  intro v hv
  have := (nearL_mem.1 hv).1
  unfold midI; omega)
 have HNB := Lib.hid (show ∀ k, leastF f A B C ((nearL f (A * A) 128).take k) ≤ A * A from fun k => (leastF_spec f A B C _).1)
 have hne : nearL f (A * A) 128 ≠ [] := by
  have : (A, 0) ∈ nearL f (A * A) 128 := by rw [nearL_mem]; exact ⟨by dsimp only; omega, by dsimp only; rw [nrm_A0]; omega⟩
  intro e; rw [e] at this; simp at this
 have hpos : 0 < (nearL f (A * A) 128).length := List.length_pos_iff.2 hne
 generalize nearL f (A * A) 128 = NL at *
 obtain ⟨g, cap, rfl, hg1, hg2, RN⟩ := S1.2.2.resolve_left (fun h => by omega)
 have HG := Lib.hid hg2
 have K1lt := K1.1
 have HLN := Lib.hid hlen
 have hlen' : (NL.length : Int) ≤ 66049 := by omega
 obtain ⟨k0, k1, k2, k3⟩ := id K1
 clear S1 hown hb1 K0 B0 hne hpos hg1 hlen hg2
 go_wp2_with fail
 clear k0 k1 k2 k3
 go_loopw [6, 7] (fun m i W => ∃ k : Nat, i = .int .i64 (k : Int) ∧ k ≤ NL.length ∧ m = .int .i64 (leastF f A B C (NL.take k)) ∧ IRow g (NL.length * 2) (intAt (cells2 NL)) W ∧ Kt w.heap.size A B C W ∧ Below w.heap.size w W ∧ w1.heap.size ≤ W.heap.size) (fun _ i _ => NL.length - (intOf i).toNat)
 case atStart => exact ⟨0, rfl, by omega, rfl, RN, K1, B1, Nat.le_refl _⟩
 case round =>
  obtain ⟨k, rfl, hk, rfl, hR, hK, hB, hz⟩ := hrel
  by_cases hk1 : k < NL.length
  ·have hk2 : (k : Int) < (NL.length : Int) := by omega
   have hk3 : (0 : Int) ≤ (k : Int) := by omega
   have q1 := hR.ko2 (k * 2) (by omega)
   rw [(at2s hk1).1, (at2s hk1).2] at q1
   have HS := Lib.hid (leastF_take (f := f) (A := A) (B := B) (C := C) hk1)
   have HMv := Lib.hid (HM.out NL[k] (List.getElem_mem hk1))
   have HK := Lib.hid hk1
   have hb := HNB.out k
   generalize NL[k] = p at q1 HS HMv
   generalize hm0 : leastF f A B C (NL.take k) = m at HS hb
   obtain ⟨x, y⟩ := p
   simp only at q1
   obtain ⟨q10, q11, q12⟩ := id q1
   obtain ⟨k0, k1, k2, k3⟩ := id hK
   clear hk hk1 hm0
   go_wp2_with fail
   refine (l04Norm_any f x y _ hf HMv.out.1 HMv.out.2).mono ?_
   rintro e w2 ⟨rfl, hb2⟩
   have hR2 := hR.call hb2
   have hK2 := hK.call hb2
   have hB2 := bstep hB hb2
   have hz2' := Nat.le_trans hz hb2.size
   have q2 := q1.call hb2
   have hnn := nrm_big (f := f) (x := x) (y := y) hf HMv.out.1 HMv.out.2
   have HY := Lib.hid (fun (h1 : 0 < nrmI f x y) (h2 : nrmI f x y < m) (h3 : hasB A B C x y = true) => HS.out.trans (least_yes h1 h2 h3))
   have HN1 := Lib.hid (fun (h1 : ¬ 0 < nrmI f x y) => HS.out.trans (least_no1 h1))
   have HN2 := Lib.hid (fun (h1 : ¬ nrmI f x y < m) => HS.out.trans (least_no2 h1))
   have HN3 := Lib.hid (fun (h1 : hasB A B C x y = false) => HS.out.trans (least_no3 h1))
   have HHas := Lib.hid (fun W => l03Has_any A B C x y W HI.out HMv.out.1 HMv.out.2)
   clear HS
   generalize nrmI f x y = nv at *
   generalize hasB A B C x y = hq at HY HN3 HHas
   clear hR hK hB hz hb2 q1 q10 q11 q12 k0 k1 k2 k3
   obtain ⟨q10, q11, q12⟩ := id q2
   obtain ⟨k0, k1, k2, k3⟩ := id hK2
   have cq := q2.cells
   have ck := hK2.cells
   by_cases c1 : 0 < nv
   ·by_cases c2 : nv < m
    ·have d1 : decide (0 < nv) = true := decide_eq_true c1
     have d2 : decide (nv < m) = true := decide_eq_true c2
     have C1 := Lib.hid c1
     have C2 := Lib.hid c2
     rcases hhq : hq with _ | _
     ·subst hhq
      go_wp2_with fail
      go_region_held3 (fun W => (W.cell? ⟨g, k * 2, none⟩ = some (.int .i64 x) ∧ W.cell? ⟨g, k * 2 + 1, none⟩ = some (.int .i64 y)) ∧ (W.cell? ⟨w.heap.size, 0, none⟩ = some (.int .i64 A) ∧ W.cell? ⟨w.heap.size, 1, none⟩ = some (.int .i64 B) ∧ W.cell? ⟨w.heap.size, 2, none⟩ = some (.int .i64 C))) (((refine And.intro (Ko2.cells ?_) (Kt.cells ?_)) <;> exact pkShS0))
       (first | (go_at_call 157; refine (HHas.out _).mono ?_; rintro e u3 ⟨rfl, hb3⟩; have Q3 : Ko2 g (k * 2) x y u3 := (by exact pkShS1); have K3 : Kt w.heap.size A B C u3 := (by exact pkShS2); have HBu : Below w2.heap.size w2 u3 := (by exact pkShS3)))
      all_goals
       have E := Lib.hid (HN3.out trivial)
       have hR3 := hR2.call HBu
       have hK3 := hK2.call HBu
       have hB3 := bstep hB2 HBu
       have hz3 := Nat.le_trans hz2' HBu.size
       clear hR2 hK2 hB2 hz2' q2 HBu hb3 q10 q11 q12 k0 k1 k2 k3 cq ck Q3 K3
       go_wp2
       have hk1 := HK.out
       go_roundw
       case rel => exact ⟨k + 1, by go_num, by omega, by rw [E.out], hR3, hK3, hB3, hz3⟩
       case measure => first | (simp [intOf]; done) | (simp [intOf]; omega)
     ·subst hhq
      go_wp2_with fail
      go_region_held3 (fun W => (W.cell? ⟨g, k * 2, none⟩ = some (.int .i64 x) ∧ W.cell? ⟨g, k * 2 + 1, none⟩ = some (.int .i64 y)) ∧ (W.cell? ⟨w.heap.size, 0, none⟩ = some (.int .i64 A) ∧ W.cell? ⟨w.heap.size, 1, none⟩ = some (.int .i64 B) ∧ W.cell? ⟨w.heap.size, 2, none⟩ = some (.int .i64 C))) (((refine And.intro (Ko2.cells ?_) (Kt.cells ?_)) <;> exact pkShS0))
       (first | (go_at_call 157; refine (HHas.out _).mono ?_; rintro e u3 ⟨rfl, hb3⟩; have Q3 : Ko2 g (k * 2) x y u3 := (by exact pkShS1); have K3 : Kt w.heap.size A B C u3 := (by exact pkShS2); have HBu : Below w2.heap.size w2 u3 := (by exact pkShS3)))
      all_goals
       have E := Lib.hid (HY.out C1.out C2.out trivial)
       have hR3 := hR2.call HBu
       have hK3 := hK2.call HBu
       have hB3 := bstep hB2 HBu
       have hz3 := Nat.le_trans hz2' HBu.size
       clear hR2 hK2 hB2 hz2' q2 HBu hb3 q10 q11 q12 k0 k1 k2 k3 cq ck Q3 K3
       go_wp2
       have hk1 := HK.out
       go_roundw
       case rel => exact ⟨k + 1, by go_num, by omega, by rw [E.out], hR3, hK3, hB3, hz3⟩
       case measure => first | (simp [intOf]; done) | (simp [intOf]; omega)
    ·have d1 : decide (0 < nv) = true := decide_eq_true c1
     have d2 : decide (nv < m) = false := decide_eq_false c2
     have E := Lib.hid (HN2.out c2)
     go_wp2_with fail
     go_quiet (fail)
     go_wp2
     have hk1 := HK.out
     go_roundw
     case rel => exact ⟨k + 1, by go_num, by omega, by rw [E.out], hR2.call (below_drewN (Below.refl _ _) _), hK2.call (below_drewN (Below.refl _ _) _), below_drewN hB2 _, hz2'⟩
     case measure => first | (simp [intOf]; done) | (simp [intOf]; omega)
   ·have d1 : decide (0 < nv) = false := decide_eq_false c1
    have E := Lib.hid (HN1.out c1)
    go_wp2_with fail
    go_quiet (fail)
    go_wp2
    have hk1 := HK.out
    go_roundw
    case rel => exact ⟨k + 1, by go_num, by omega, by rw [E.out], hR2.call (below_drewN (Below.refl _ _) _), hK2.call (below_drewN (Below.refl _ _) _), below_drewN hB2 _, hz2'⟩
    case measure => first | (simp [intOf]; done) | (simp [intOf]; omega)
  ·obtain rfl : k = NL.length := by omega
   rw [List.take_length]
   have hb := HNB.out NL.length
   rw [List.take_length] at hb
   generalize leastF f A B C NL = m at *
   clear hk hk1 RN K1 B1
   have hlit : (wr.alloc (.cells #[] 63)).ownsRow w1.heap.size 63 2 (.slice (some ⟨wr.heap.size, 0, none⟩) 0 0) (fitP f A B C m NL 0).length (cells2 (fitP f A B C m NL 0)) := by
    have h := World.ownsRow_lit (base := w1.heap.size) (e := 63) (size := 2) wr #[] 0 hz (by unfold maxLen; omega) rfl
    simpa [fitP, cells2] using h
   have Bl : Below wr.heap.size wr (wr.alloc (.cells #[] 63)) := (Below.refl _ _).alloc (Nat.le_refl _) _
   have hR2 := hR.call Bl
   have hK2 := hK.call Bl
   have hB2 := bstep hB Bl
   have hz2' := Nat.le_trans hz Bl.size
   clear hR hK hB
   go_wp2_with fail
   go_loopw [9, 10] (fun v i W => ∃ k : Nat, i = .int .i64 (k : Int) ∧ k ≤ NL.length ∧ W.ownsRow w1.heap.size 63 2 v (fitP f A B C m NL k).length (cells2 (fitP f A B C m NL k)) ∧ IRow g (NL.length * 2) (intAt (cells2 NL)) W ∧ Kt w.heap.size A B C W ∧ Below w.heap.size w W ∧ w1.heap.size ≤ W.heap.size) (fun _ i _ => NL.length - (intOf i).toNat)
   case atStart => exact ⟨0, rfl, by omega, hlit, hR2, hK2, hB2, hz2'⟩
   case round =>
    clear hR2 hK2 hB2 hz2' hlit Bl hz
    obtain ⟨k, rfl, hk, hown, hR, hK, hB, hz⟩ := hrel
    by_cases hk1 : k < NL.length
    ·have hk2 : (k : Int) < (NL.length : Int) := by omega
     have hk3 : (0 : Int) ≤ (k : Int) := by omega
     have q1 := hR.ko2 (k * 2) (by omega)
     rw [(at2s hk1).1, (at2s hk1).2] at q1
     have HS := Lib.hid (fitP_succ (f := f) (A := A) (B := B) (C := C) (m := m) hk1)
     have HMv := Lib.hid (HM.out NL[k] (List.getElem_mem hk1))
     have HK := Lib.hid hk1
     have HFL := Lib.hid (Nat.le_trans (fitP_len f A B C m NL k) HLN.out)
     generalize NL[k] = p at q1 HS HMv
     obtain ⟨x, y⟩ := p
     simp only at q1
     obtain ⟨q10, q11, q12⟩ := id q1
     obtain ⟨k0, k1, k2, k3⟩ := id hK
     have cq := q1.cells
     have ck := hK.cells
     have HHas := Lib.hid (fun W => l03Has_any A B C x y W HI.out HMv.out.1 HMv.out.2)
     have HNo := Lib.hid (fun W => l04Norm_any f x y W hf HMv.out.1 HMv.out.2)
     have HF1 := Lib.hid (fun (h : (nrmI f x y == m) = false) => fits_no1 (A := A) (B := B) (C := C) h)
     have HF2 := Lib.hid (fun (h : hasB A B C x y = false) => fits_no2 (f := f) (m := m) h)
     have HF3 := Lib.hid (fun (h : (nrmI f x y == m) = true) (h2 : hasB A B C x y = true) => fits_yes h h2)
     generalize nrmI f x y = nv at HNo HF1 HF3
     generalize hasB A B C x y = hq at HHas HF2 HF3
     clear hk hk1
     rcases c1 : (nv == m) with _ | _
     ·have E := Lib.hid (HF1.out c1)
      have c1a : ¬ nv = m := by simpa using c1
      have c1b : decide (nv = m) = false := decide_eq_false c1a
      go_wp2_with fail
      first
       | (go_region_with (first
         | (go_at_call 145; refine (HNo.out _).mono ?_; rintro e u3 ⟨rfl, hb3⟩; have Q3 : Ko2 g (k * 2) x y u3 := (by exact pkShS1); have K3 : Kt w.heap.size A B C u3 := (by exact pkShS2); have HB3 : Below wr.heap.size wr u3 := (by exact pkShS3))))
       | fail
      all_goals
       have HBu := HB3
       have hR2 := hR.call HBu
       have hK2 := hK.call HBu
       have hB2 := bstep hB HBu
       have hz2' := Nat.le_trans hz HBu.size
       have hown2 := ownsRow_call hown HBu
       have hown3 := hown2
       rw [show fitP f A B C m NL k = fitP f A B C m NL (k + 1) by rw [HS.out, E.out]; simp] at hown3
       clear hR hK hB hz hown hown2 q1 HBu hb3 q10 q11 q12 k0 k1 k2 k3 cq ck
       go_wp2
       have hk1 := HK.out
       go_roundw
       case rel => exact ⟨k + 1, by go_num, by omega, hown3, hR2, hK2, hB2, hz2'⟩
       case measure => first | (simp [intOf]; done) | (simp [intOf]; omega)
     rcases hhq : hq with _ | _
     ·subst hhq
      have E := Lib.hid (HF2.out (by simp))
      go_wp2_with fail
      go_region_held3 (fun W => (W.cell? ⟨g, k * 2, none⟩ = some (.int .i64 x) ∧ W.cell? ⟨g, k * 2 + 1, none⟩ = some (.int .i64 y)) ∧ (W.cell? ⟨w.heap.size, 0, none⟩ = some (.int .i64 A) ∧ W.cell? ⟨w.heap.size, 1, none⟩ = some (.int .i64 B) ∧ W.cell? ⟨w.heap.size, 2, none⟩ = some (.int .i64 C))) (((refine And.intro (Ko2.cells ?_) (Kt.cells ?_)) <;> exact pkShS0))
       (first
        | (go_at_call 145; refine (HNo.out _).mono ?_; rintro e u3 ⟨rfl, hb3⟩; have Q3 : Ko2 g (k * 2) x y u3 := (by exact pkShS1); have K3 : Kt w.heap.size A B C u3 := (by exact pkShS2); have HB3 : Below wr.heap.size wr u3 := (by exact pkShS3))
        | (go_at_call 157; refine (HHas.out _).mono ?_; rintro e u4 ⟨rfl, hb4⟩; have Q4 : Ko2 g (k * 2) x y u4 := (by exact pkShS1); have K4 : Kt w.heap.size A B C u4 := (by exact pkShS2); have HB4 : Below wr.heap.size wr u4 := (by exact pkShS3)))
      all_goals
       have HBu := HB4
       have hR2 := hR.call HBu
       have hK2 := hK.call HBu
       have hB2 := bstep hB HBu
       have hz2' := Nat.le_trans hz HBu.size
       have hown2 := ownsRow_call hown HBu
       have hown3 := hown2
       rw [show fitP f A B C m NL k = fitP f A B C m NL (k + 1) by rw [HS.out, E.out]; simp] at hown3
       clear hR hK hB hz hown hown2 q1 HBu hb3 q10 q11 q12 k0 k1 k2 k3 cq ck
       go_wp2
       have hk1 := HK.out
       go_roundw
       case rel => exact ⟨k + 1, by go_num, by omega, hown3, hR2, hK2, hB2, hz2'⟩
       case measure => first | (simp [intOf]; done) | (simp [intOf]; omega)
     ·subst hhq
      have E := Lib.hid (HF3.out c1 (by simp))
      go_wp2_with fail
      go_region_held3 (fun W => (W.cell? ⟨g, k * 2, none⟩ = some (.int .i64 x) ∧ W.cell? ⟨g, k * 2 + 1, none⟩ = some (.int .i64 y)) ∧ (W.cell? ⟨w.heap.size, 0, none⟩ = some (.int .i64 A) ∧ W.cell? ⟨w.heap.size, 1, none⟩ = some (.int .i64 B) ∧ W.cell? ⟨w.heap.size, 2, none⟩ = some (.int .i64 C))) (((refine And.intro (Ko2.cells ?_) (Kt.cells ?_)) <;> exact pkShS0))
       (first
        | (go_at_call 145; refine (HNo.out _).mono ?_; rintro e u3 ⟨rfl, hb3⟩; have Q3 : Ko2 g (k * 2) x y u3 := (by exact pkShS1); have K3 : Kt w.heap.size A B C u3 := (by exact pkShS2); have HB3 : Below wr.heap.size wr u3 := (by exact pkShS3))
        | (go_at_call 157; refine (HHas.out _).mono ?_; rintro e u4 ⟨rfl, hb4⟩; have Q4 : Ko2 g (k * 2) x y u4 := (by exact pkShS1); have K4 : Kt w.heap.size A B C u4 := (by exact pkShS2); have HB4 : Below wr.heap.size wr u4 := (by exact pkShS3)))
      all_goals
       have hR2 := hR.call HB4
       have hK2 := hK.call HB4
       have hB2 := bstep hB HB4
       have hz2' := Nat.le_trans hz HB4.size
       have hown2 := ownsRow_call hown HB4
       clear hR hK hB hz hown q1 HB3 HB4 hb3 hb4 q10 q11 q12 k0 k1 k2 k3 cq ck Q3 K3 K4
       obtain ⟨q10, q11, q12⟩ := id Q4
       go_wp2_with (at_builtin; refine wpList_append_own _ rfl _ _ 83 rfl w1.heap.size 63 i0 (.agg #[.int .i64 0, .int .i64 0]) 2 16 Tryz.underlying83 hi hz0 hz1 hz2 rfl (by decide) _ _ _ rfl (hown2.alloc _) ⟨u4.heap.size, 0, none⟩ 1 1 [.int .i64 x, .int .i64 y] rfl rfl ?c1 ?c2 ?c3 ?c4 ?c5 ?_)
       case c1 => exact new_two _ _ _ rfl
       case c2 => exact one_two
       case c3 => have := HFL.out; unfold maxLen; omega
       case c4 => have := HFL.out; omega
       case c5 => simp; omega
       intro v' w9 hown' hgrow _
       have hBx : Below w1.heap.size u4 w9 := Below.grown (Below.alloc (Below.refl _ _) hz2' _) hgrow (by simp; omega) (fun q hq => (hown2.lt q hq).1)
       have hown9 : w9.ownsRow w1.heap.size 63 2 v' (fitP f A B C m NL (k + 1)).length (cells2 (fitP f A B C m NL (k + 1))) := by rw [HS.out, if_pos E.out]; exact own_next2 (by simpa using hown')
       have hR9 := hR2.grow hBx HG.out
       have hK9 := hK2.grow hBx (by have := hK2.1; have := K1lt; omega)
       have hB9 : Below w.heap.size w w9 := hB2.trans (hBx.mono (by have := K1lt; omega))
       have hz9 := Nat.le_trans hz2' hBx.size
       clear hR2 hK2 hB2 hz2' hown2 hBx hown' hgrow Q4 q10 q11 q12
       go_wp2
       have hk1 := HK.out
       go_roundw
       case rel => exact ⟨k + 1, by go_num, by omega, hown9, hR9, hK9, hB9, hz9⟩
       case measure => first | (simp [intOf]; done) | (simp [intOf]; omega)
    ·obtain rfl : k = NL.length := by omega
     rw [← HE.out] at hown
     clear hk hk1 hR hK
     go_wp2
     go_ret
     exact ⟨_, rfl, ownsRow_lower hown (by have := K1lt; omega), hB⟩
end Go.Proofs.YtjjfomokecngoaaGreatDoor
