/-
 The greatest order of the rotations of a list of motions in the program; RotationOrder in the program and in the model. Conditions: the motions are those of a group; the list's length is below the model's bound; the program's variable unitMatrix holds the unit.
-/
import Derived.Test.YtjjfomokecngoaaGreatDoorGo
import Derived.Test.YtjjfomokecngoaaGreatDoorSb8
import Derived.Test.YtjjfomokecngoaaGreatDoorFaF
import Derived.Deep.RegionHeld3
import Derived.IntWalk
namespace Go.Proofs.YtjjfomokecngoaaGreatDoor
open Go.RowKit
set_option linter.unusedSimpArgs false
set_option linter.unusedVariables false

def trnS (n : Int) (m : M6) : Int := if m.1 * m.2.2.2.1 - m.2.1 * m.2.2.1 = 1 then max n (ordI m.1 m.2.1 m.2.2.1 m.2.2.2.1) else n
def trnP (xs : List M6) : Int := xs.foldl trnS 1
theorem trnP_next {xs : List M6} {k : Nat} {m : M6} (h : xs.take (k + 1) = xs.take k ++ [m]) : trnP (xs.take (k + 1)) = trnS (trnP (xs.take k)) m := by
 unfold trnP
 rw [h, List.foldl_append]; rfl
theorem ordI_bd (a b c d : Int) : 0 ≤ ordI a b c d ∧ ordI a b c d ≤ 6 := by
 have h : ∀ (m n : Nat), 0 ≤ ordGo a b c d n m ∧ ordGo a b c d n m ≤ n + m := by
  intro m
  induction m with
  | zero => intro n; simp only [ordGo]; omega
  | succ m ih =>
   intro n
   have := ih (n + 1)
   simp only [ordGo]
   cases limP (pw a b c d n) <;> cases unitP (pw a b c d n) <;> simp only [cond_true, cond_false] <;> omega
 have h0 := h 6 1
 have h1 : ordI a b c d ≤ 6 := by
  unfold ordI
  have : ∀ (m n : Nat), ordGo a b c d n m ≤ 0 ∨ ordGo a b c d n m < n + m := by
   intro m
   induction m with
   | zero => intro n; left; simp [ordGo]
   | succ m ih =>
    intro n
    have := ih (n + 1)
    simp only [ordGo]
    cases limP (pw a b c d n) <;> cases unitP (pw a b c d n) <;> simp only [cond_true, cond_false] <;> omega
  have := this 6 1
  omega
 exact ⟨h0.1, h1⟩
theorem trnP_bd (xs : List M6) : 1 ≤ trnP xs ∧ trnP xs ≤ 6 := by
 unfold trnP
 have h : ∀ (L : List M6) (n : Int), (1 ≤ n ∧ n ≤ 6) → 1 ≤ L.foldl trnS n ∧ L.foldl trnS n ≤ 6 := by
  intro L
  induction L with
  | nil => intro n h; exact h
  | cons m L ih =>
   intro n h
   refine ih _ ?_
   have := ordI_bd m.1 m.2.1 m.2.2.1 m.2.2.2.1
   unfold trnS
   split <;> omega
 exact h xs 1 (by omega)
/- a motion of a group -/
theorem grp_mot {f A B C a b c d x y : Int} {xs : List M6} (h : grpB f A B C xs = true) (hm : (a, b, c, d, x, y) ∈ xs) : matB a b c d = true ∧ reflB a b c d = (a * d - b * c == -1) ∧ (a * d - b * c = 1 ∨ a * d - b * c = -1) ∧ okM f A B C (a, b, c, d, x, y) = true := by
 have hok := ((grp_ok h).2.1 _ hm).1
 obtain ⟨hl, hf, hk, hs, hmm, _⟩ := suit_parts hok
 exact ⟨hmm, keep_refl hf hk, keep_det hf hk, hok⟩
set_option maxRecDepth 100000 in
set_option maxHeartbeats 8000000 in
theorem turn_any {lo hi : Nat} {v : Value} {xs : List M6} {w1 : World} {f A B C : Int} (h : SRow lo hi 6 v xs.length (fm xs) w1) (hg : grpB f A B C xs = true) (hU : UnitOK w1) :
  Calls Tryz.prog 116 #[v] w1 fun e w' => e = .returned (.int .i64 (trnP xs)) ∧ Below w1.heap.size w1 w' := by
 have HS1 := Lib.hid h
 have HG := Lib.hid hg
 have h7 : (xs.length : Int) ≤ 768 := by have := grp_len hg; omega
 have U1 : UnitOK w1 := hU
 obtain ⟨ao, cap, rfl⟩ := srow_shape h
 clear h hg hU
 go_enter Tryz.func116, Tryz.ntmps116
 go_wp2_with fail
 go_loopw [3, 8] (fun s3 s8 W => ∃ k : Nat, s3 = .int .i64 (trnP (xs.take k)) ∧ s8 = .int .i64 (k : Int) ∧ k ≤ xs.length ∧ Below w1.heap.size w1 W) (fun _ s8 _ => xs.length - (intOf s8).toNat)
 case atStart => exact ⟨0, rfl, rfl, by omega, Below.refl _ _⟩
 case round =>
  obtain ⟨k, rfl, rfl, hk, hB⟩ := hrel
  by_cases hk1 : k < xs.length
  ·skip
   have HEL := Lib.hid (List.getElem_mem hk1)
   have hk2 : (k : Int) < (xs.length : Int) := by omega
   have hk3 : (k : Int) ≤ 768 := by omega
   have hres := HS1.out.2.2.resolve_left (fun h => by omega)
   have hhi := HS1.out.1
   obtain ⟨g, cap', e9, _, hg, RA⟩ := hres
   simp only [Value.slice.injEq, true_and] at e9
   obtain ⟨rfl, rfl⟩ := e9
   have q1 := (RA.grow hB (by omega)).mo k hk1
   have HT := Lib.hid (show xs.take (k + 1) = xs.take k ++ [xs[k]] from List.take_succ_eq_append_getElem hk1)
   have HTL := Lib.hid (show (xs.take k).length ≤ 768 by rw [List.length_take]; omega)
   have HK := Lib.hid hk1
   clear RA hg hhi hk
   generalize xs[k] = m at q1 HT HEL
   clear hk1
   obtain ⟨a, b, c, d, x, y⟩ := m
   dsimp only at q1
   obtain ⟨hmm, hrr, hdd, hok⟩ := grp_mot HG.out HEL.out
   have HMB := Lib.hid hmm
   have HLI := Lib.hid (matB_lim hmm)
   have HQ0 := trnP_next HT.out
   obtain ⟨n, hn⟩ : ∃ n, n = trnP (xs.take k) := ⟨_, rfl⟩
   rw [← hn] at HQ0
   have hnb := trnP_bd (xs.take k)
   rw [← hn] at hnb
   have U2 : UnitOK wr := Kq.call U1 hB
   have zB := hB.size
   have q1c := q1.cells
   have X0 : Km wr.heap.size a b c d x y (wr.alloc (.cells #[.int .i64 a, .int .i64 b, .int .i64 c, .int .i64 d, .int .i64 x, .int .i64 y] 145)) := Km.at _ rfl
   have U3 : UnitOK (wr.alloc (.cells #[.int .i64 a, .int .i64 b, .int .i64 c, .int .i64 d, .int .i64 x, .int .i64 y] 145)) := Kq.alloc U2 _
   have B3 : Below w1.heap.size w1 (wr.alloc (.cells #[.int .i64 a, .int .i64 b, .int .i64 c, .int .i64 d, .int .i64 x, .int .i64 y] 145)) := hB.alloc zB _
   rw [← hn]
   clear hB U2
   rcases hdd with hd | hd
   ·have HRB := Lib.hid (show reflB a b c d = false by rw [hrr, hd]; rfl)
    have HQ := Lib.hid (show trnP (xs.take (k + 1)) = max n (ordI a b c d) by rw [HQ0]; unfold trnS; dsimp only; rw [if_pos hd])
    have hob := ordI_bd a b c d
    obtain ⟨r, hr⟩ : ∃ r, r = ordI a b c d := ⟨_, rfl⟩
    rw [← hr] at HQ hob
    have HOQ := Lib.hid (show r = ordT a b c d by rw [hr, ord_eq hmm])
    clear hr hmm hrr hd hok HQ0 hn HEL HT
    have X1c := X0.cells
    go_wp2_with fail
    refine (isReflection_any a b c d _ HLI.out).mono ?_
    rintro e w4 ⟨rfl, hb4⟩
    rw [HRB.out]
    have X4 := Km.call X0 hb4
    have B4 := bstep B3 hb4
    have U4 : UnitOK w4 := Kq.call U3 hb4
    clear hb4 X0 B3 X1c U3
    have X4c := X4.cells
    go_wp2_with fail
    refine (order_any a b c d _ HMB.out U4).mono ?_
    rintro e w5 ⟨rfl, hb5⟩
    rw [← HOQ.out]
    have B5 := bstep B4 hb5
    clear hb5 X4 B4 X4c U4
    go_wp2
    all_goals
     go_roundw
     case rel => exact ⟨k + 1, by rw [HQ.out]; try (first | rw [show max n r = n by omega] | rw [show max n r = r by omega]), by go_num, by have := HK.out; omega, B5⟩
     case measure => (have := HK.out); first | (simp [intOf]; done) | (simp [intOf]; omega)
   ·have HRB := Lib.hid (show reflB a b c d = true by rw [hrr, hd]; rfl)
    have HQ := Lib.hid (show trnP (xs.take (k + 1)) = n by rw [HQ0]; unfold trnS; dsimp only; rw [if_neg (by omega)])
    clear hmm hrr hd hok HQ0 hn HEL HT
    have X1c := X0.cells
    go_wp2_with fail
    refine (isReflection_any a b c d _ HLI.out).mono ?_
    rintro e w4 ⟨rfl, hb4⟩
    rw [HRB.out]
    have X4 := Km.call X0 hb4
    have B4 := bstep B3 hb4
    clear hb4 X0 B3 X1c U3
    go_wp2
    go_roundw
    case rel => exact ⟨k + 1, by rw [HQ.out], by go_num, by have := HK.out; omega, B4⟩
    case measure => (have := HK.out); first | (simp [intOf]; done) | (simp [intOf]; omega)
  ·obtain rfl : k = xs.length := by omega
   have HE := Lib.hid (congrArg trnP (List.take_length (l := xs)))
   obtain ⟨r, hr⟩ : ∃ r, r = trnP (xs.take xs.length) := ⟨_, rfl⟩
   rw [← hr] at HE ⊢
   clear hk hk1 hr
   go_wp2
   go_ret
   exact ⟨ret_int HE.out, hB⟩
end Go.Proofs.YtjjfomokecngoaaGreatDoor
