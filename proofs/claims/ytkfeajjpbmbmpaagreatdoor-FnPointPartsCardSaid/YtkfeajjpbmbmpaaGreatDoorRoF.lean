/-
  The greatest order of the rotations of a list of motions in the program; RotationOrder in the program and in the model. Conditions: the motions are those of a group; the list's length is below the model's bound; the program's variable unitMatrix holds the unit.
-/
import Derived.Test.YtkfeajjpbmbmpaaGreatDoorGo
import Derived.Test.YtkfeajjpbmbmpaaGreatDoorSb8
import Derived.Test.YtkfeajjpbmbmpaaGreatDoorFaF
import Derived.Deep.RegionHeld3
import Derived.IntWalk
namespace Go.Proofs.YtkfeajjpbmbmpaaGreatDoor
open Go.RowKit
set_option linter.unusedSimpArgs false
set_option linter.unusedVariables false

def trnS (n : Int) (m : M6) : Int := if m.1 * m.2.2.2.1 - m.2.1 * m.2.2.1 = 1 then max n (ordI m.1 m.2.1 m.2.2.1 m.2.2.2.1) else n
def trnP (xs : List M6) : Int := xs.foldl trnS 1
theorem trnP_next {xs : List M6} {k : Nat} {m : M6} (h : xs.take (k + 1) = xs.take k ++ [m]) : trnP (xs.take (k + 1)) = trnS (trnP (xs.take k)) m := by
  unfold trnP
  rw [h, List.foldl_append]; rfl
theorem ordI_bd (a b c d : Int) : 0 ≤ ordI a b c d ∧ ordI a b c d ≤ 6 := by
  have h : ∀ (m n : Nat), 0 ≤ ordGo a b c d n m ∧ ordGo a b c d n m ≤ n + m := by
    intro m
    induction m with
    | zero => intro n; simp only [ordGo]; omega
    | succ m ih =>
      intro n
      have := ih (n + 1)
      simp only [ordGo]
      cases limP (pw a b c d n) <;> cases unitP (pw a b c d n) <;> simp only [cond_true, cond_false] <;> omega
  have h0 := h 6 1
  have h1 : ordI a b c d ≤ 6 := by
    unfold ordI
    have : ∀ (m n : Nat), ordGo a b c d n m ≤ 0 ∨ ordGo a b c d n m < n + m := by
      intro m
      induction m with
      | zero => intro n; left; simp [ordGo]
      | succ m ih =>
        intro n
        have := ih (n + 1)
        simp only [ordGo]
        cases limP (pw a b c d n) <;> cases unitP (pw a b c d n) <;> simp only [cond_true, cond_false] <;> omega
    have := this 6 1
    omega
  exact ⟨h0.1, h1⟩
theorem trnP_bd (xs : List M6) : 1 ≤ trnP xs ∧ trnP xs ≤ 6 := by
  unfold trnP
  have h : ∀ (L : List M6) (n : Int), (1 ≤ n ∧ n ≤ 6) → 1 ≤ L.foldl trnS n ∧ L.foldl trnS n ≤ 6 := by
    intro L
    induction L with
    | nil => intro n h; exact h
    | cons m L ih =>
      intro n h
      refine ih _ ?_
      have := ordI_bd m.1 m.2.1 m.2.2.1 m.2.2.2.1
      unfold trnS
      split <;> omega
  exact h xs 1 (by omega)
/- a motion of a group -/
theorem grp_mot {f A B C a b c d x y : Int} {xs : List M6} (h : grpB f A B C xs = true) (hm : (a, b, c, d, x, y) ∈ xs) : matB a b c d = true ∧ reflB a b c d = (a * d - b * c == -1) ∧ (a * d - b * c = 1 ∨ a * d - b * c = -1) ∧ okM f A B C (a, b, c, d, x, y) = true := by
  have hok := ((grp_ok h).2.1 _ hm).1
  obtain ⟨hl, hf, hk, hs, hmm, _⟩ := suit_parts hok
  exact ⟨hmm, keep_refl hf hk, keep_det hf hk, hok⟩
def rotR (f A B C : Int) (xs : List M6) : Int := bif grpB f A B C xs then trnP xs else 0
def rotT (f A B C : Int) (xs : List M6) : Value := .tuple #[.int .i64 (rotR f A B C xs), .int .i64 (cod6 f A B C (grpB f A B C xs))]
theorem rot_bad {f A B C : Int} {xs : List M6} (h : grpB f A B C xs = false) : rotT f A B C xs = .tuple #[.int .i64 0, .int .i64 (cod6 f A B C false)] := by simp [rotT, rotR, h]
theorem rot_good {f A B C : Int} {xs : List M6} (h : grpB f A B C xs = true) : rotT f A B C xs = .tuple #[.int .i64 (trnP xs), .int .i64 0] := by
  simp [rotT, rotR, h, cod6_ok h]
set_option maxRecDepth 100000 in
set_option maxHeartbeats 8000000 in
theorem turn_any {lo hi : Nat} {v : Value} {xs : List M6} {w1 : World} {f A B C : Int} (h : SRow lo hi 6 v xs.length (fm xs) w1) (hg : grpB f A B C xs = true) (hU : UnitOK w1) :
    Calls Tryz.prog 133 #[v] w1 fun e w' => e = .returned (.int .i64 (trnP xs)) ∧ Below w1.heap.size w1 w' := by
  have HS1 := Lib.hid h
  have HG := Lib.hid hg
  have h7 : (xs.length : Int) ≤ 768 := by have := grp_len hg; omega
  have U1 : UnitOK w1 := hU
  obtain ⟨ao, cap, rfl⟩ := srow_shape h
  clear h hg hU
  go_enter Tryz.func133, Tryz.ntmps133
  go_wp2_with fail
  go_loopw [3, 8] (fun s3 s8 W => ∃ k : Nat, s3 = .int .i64 (trnP (xs.take k)) ∧ s8 = .int .i64 (k : Int) ∧ k ≤ xs.length ∧ Below w1.heap.size w1 W) (fun _ s8 _ => xs.length - (intOf s8).toNat)
  case atStart => exact ⟨0, rfl, rfl, by omega, Below.refl _ _⟩
  case round =>
    obtain ⟨k, rfl, rfl, hk, hB⟩ := hrel
    by_cases hk1 : k < xs.length
    · skip
      have HEL := Lib.hid (List.getElem_mem hk1)
      have hk2 : (k : Int) < (xs.length : Int) := by omega
      have hk3 : (k : Int) ≤ 768 := by omega
      have hres := HS1.out.2.2.resolve_left (fun h => by omega)
      have hhi := HS1.out.1
      obtain ⟨g, cap', e9, _, hg, RA⟩ := hres
      simp only [Value.slice.injEq, true_and] at e9
      obtain ⟨rfl, rfl⟩ := e9
      have q1 := (RA.grow hB (by omega)).mo k hk1
      have HT := Lib.hid (show xs.take (k + 1) = xs.take k ++ [xs[k]] from List.take_succ_eq_append_getElem hk1)
      have HTL := Lib.hid (show (xs.take k).length ≤ 768 by rw [List.length_take]; omega)
      have HK := Lib.hid hk1
      clear RA hg hhi hk
      generalize xs[k] = m at q1 HT HEL
      clear hk1
      obtain ⟨a, b, c, d, x, y⟩ := m
      dsimp only at q1
      obtain ⟨hmm, hrr, hdd, hok⟩ := grp_mot HG.out HEL.out
      have HMB := Lib.hid hmm
      have HLI := Lib.hid (matB_lim hmm)
      have HQ0 := trnP_next HT.out
      obtain ⟨n, hn⟩ : ∃ n, n = trnP (xs.take k) := ⟨_, rfl⟩
      rw [← hn] at HQ0
      have hnb := trnP_bd (xs.take k)
      rw [← hn] at hnb
      have U2 : UnitOK wr := Kq.call U1 hB
      have zB := hB.size
      have q1c := q1.cells
      have X0 : Km wr.heap.size a b c d x y (wr.alloc (.cells #[.int .i64 a, .int .i64 b, .int .i64 c, .int .i64 d, .int .i64 x, .int .i64 y] 126)) := Km.at _ rfl
      have U3 : UnitOK (wr.alloc (.cells #[.int .i64 a, .int .i64 b, .int .i64 c, .int .i64 d, .int .i64 x, .int .i64 y] 126)) := Kq.alloc U2 _
      have B3 : Below w1.heap.size w1 (wr.alloc (.cells #[.int .i64 a, .int .i64 b, .int .i64 c, .int .i64 d, .int .i64 x, .int .i64 y] 126)) := hB.alloc zB _
      rw [← hn]
      clear hB U2
      rcases hdd with hd | hd
      · have HRB := Lib.hid (show reflB a b c d = false by rw [hrr, hd]; rfl)
        have HQ := Lib.hid (show trnP (xs.take (k + 1)) = max n (ordI a b c d) by rw [HQ0]; unfold trnS; dsimp only; rw [if_pos hd])
        have hob := ordI_bd a b c d
        obtain ⟨r, hr⟩ : ∃ r, r = ordI a b c d := ⟨_, rfl⟩
        rw [← hr] at HQ hob
        have HOQ := Lib.hid (show r = ordT a b c d by rw [hr, ord_eq hmm])
        clear hr hmm hrr hd hok HQ0 hn HEL HT
        have X1c := X0.cells
        go_wp2_with fail
        refine (isReflection_any a b c d _ HLI.out).mono ?_
        rintro e w4 ⟨rfl, hb4⟩
        rw [HRB.out]
        have X4 := Km.call X0 hb4
        have B4 := bstep B3 hb4
        have U4 : UnitOK w4 := Kq.call U3 hb4
        clear hb4 X0 B3 X1c U3
        have X4c := X4.cells
        go_wp2_with fail
        refine (order_any a b c d _ HMB.out U4).mono ?_
        rintro e w5 ⟨rfl, hb5⟩
        rw [← HOQ.out]
        have B5 := bstep B4 hb5
        clear hb5 X4 B4 X4c U4
        go_wp2
        all_goals
          go_roundw
          case rel => exact ⟨k + 1, by rw [HQ.out]; try (first | rw [show max n r = n by omega] | rw [show max n r = r by omega]), by go_num, by have := HK.out; omega, B5⟩
          case measure => (have := HK.out); first | (simp [intOf]; done) | (simp [intOf]; omega)
      · have HRB := Lib.hid (show reflB a b c d = true by rw [hrr, hd]; rfl)
        have HQ := Lib.hid (show trnP (xs.take (k + 1)) = n by rw [HQ0]; unfold trnS; dsimp only; rw [if_neg (by omega)])
        clear hmm hrr hd hok HQ0 hn HEL HT
        have X1c := X0.cells
        go_wp2_with fail
        refine (isReflection_any a b c d _ HLI.out).mono ?_
        rintro e w4 ⟨rfl, hb4⟩
        rw [HRB.out]
        have X4 := Km.call X0 hb4
        have B4 := bstep B3 hb4
        clear hb4 X0 B3 X1c U3
        go_wp2
        go_roundw
        case rel => exact ⟨k + 1, by rw [HQ.out], by go_num, by have := HK.out; omega, B4⟩
        case measure => (have := HK.out); first | (simp [intOf]; done) | (simp [intOf]; omega)
    · obtain rfl : k = xs.length := by omega
      have HE := Lib.hid (congrArg trnP (List.take_length (l := xs)))
      obtain ⟨r, hr⟩ : ∃ r, r = trnP (xs.take xs.length) := ⟨_, rfl⟩
      rw [← hr] at HE ⊢
      clear hk hk1 hr
      go_wp2
      go_ret
      exact ⟨ret_int HE.out, hB⟩
set_option maxRecDepth 100000 in
set_option maxHeartbeats 8000000 in
theorem implRot_any {lo hi : Nat} {v : Value} {xs : List M6} {w : World} (f A B C : Int) (h : SRow lo hi 6 v xs.length (fm xs) w) (hn : xs.length ≤ 1048576) (hU : UnitOK w) :
    Calls Tryz.prog 29 #[.int .i64 f, .agg #[.int .i64 A, .int .i64 B, .int .i64 C], v] w fun e w' => e = .returned (rotT f A B C xs) ∧ Below w.heap.size w w' := by
  have L0 : Kt w.heap.size A B C (w.alloc (.cells #[.int .i64 A, .int .i64 B, .int .i64 C] 25)) := Kt.at _ rfl
  have B0 : Below w.heap.size w (w.alloc (.cells #[.int .i64 A, .int .i64 B, .int .i64 C] 25)) := (Below.refl _ _).alloc (Nat.le_refl _) _
  have A0 : SRow lo hi 6 v xs.length (fm xs) (w.alloc (.cells #[.int .i64 A, .int .i64 B, .int .i64 C] 25)) := h.grow B0 h.1
  have U0 : UnitOK (w.alloc (.cells #[.int .i64 A, .int .i64 B, .int .i64 C] 25)) := Kq.call hU B0
  have L0c := L0.cells
  have HU := Lib.hid hU
  have CG := Lib.hid (groupOf_any f A B C A0 hn U0)
  have HN := Lib.hid hn
  clear h hn hU A0 U0
  unfold GrpPost at CG
  rcases hg : grpB f A B C xs with _ | _
  · have HV := Lib.hid (rot_bad hg)
    have hc := cod6_nz f A B C
    rw [hg] at CG
    clear hg
    generalize cod6 f A B C false = cc at CG hc HV
    have EA := Lib.hid (ret_val HV.out.symm)
    go_enter Tryz.func29, Tryz.ntmps29
    go_wp2_with fail
    refine CG.out.mono ?_
    rintro e w1 ⟨v1, rfl, _, hv, hb1⟩
    have hv1 := hv (by first | rfl | trivial)
    subst hv1
    have B1 := bstep B0 hb1
    clear hv hb1 B0 L0 L0c CG
    go_wp2
    go_ret2
    exact ⟨EA.out, B1⟩
  · have HV := Lib.hid (rot_good hg)
    have HG := Lib.hid hg
    have hck := cod6_ok hg
    rw [hg] at CG
    rw [hck] at CG
    clear hg hck
    have EA := Lib.hid (ret_val HV.out.symm)
    go_enter Tryz.func29, Tryz.ntmps29
    go_wp2_with fail
    refine CG.out.mono ?_
    rintro e w1 ⟨v1, rfl, hr, _, hb1⟩
    have O1 := hr (by first | rfl | trivial)
    have S1 : SRow w.heap.size w1.heap.size 6 v1 xs.length (fm xs) w1 := SRow.big6 (ownsRow_lower O1 (by simp)) HN.out
    have B1 := bstep B0 hb1
    have CT := Lib.hid (turn_any S1 HG.out (Kq.call HU.out B1))
    clear hr hb1 B0 L0 L0c CG O1 S1
    go_wp2_with fail
    refine CT.out.mono ?_
    rintro e w2 ⟨rfl, hb2⟩
    have B2 := bstep B1 hb2
    clear hb2 B1 CT
    go_wp2
    go_ret2
    exact ⟨EA.out, B2⟩
set_option maxRecDepth 100000 in
set_option maxHeartbeats 8000000 in
theorem specRot_any {lo hi : Nat} {v : Value} {xs : List M6} {w : World} (f A B C : Int) (h : SRow lo hi 6 v xs.length (fm xs) w) (hn : xs.length ≤ 1048576) :
    Calls Tryz.prog 30 #[.int .i64 f, .agg #[.int .i64 A, .int .i64 B, .int .i64 C], v] w fun e w' => e = .returned (rotT f A B C xs) ∧ Below w.heap.size w w' := by
  have HA := Lib.hid h
  have HN := Lib.hid hn
  have L0 : Kt w.heap.size A B C (w.alloc (.cells #[.int .i64 A, .int .i64 B, .int .i64 C] 25)) := Kt.at _ rfl
  have B0 : Below w.heap.size w (w.alloc (.cells #[.int .i64 A, .int .i64 B, .int .i64 C] 25)) := (Below.refl _ _).alloc (Nat.le_refl _) _
  have L0c := L0.cells
  have CC : Hid (∀ W, Below w.heap.size w W → Calls Tryz.prog 129 #[.int .i64 f, .agg #[.int .i64 A, .int .i64 B, .int .i64 C], v, .bool true] W fun e w' => e = .returned (.int .i64 (cod6 f A B C (true && grpB f A B C xs))) ∧ Below W.heap.size W w') := Lib.hid (fun W hW => l07Code_any f A B C true (HA.out.grow hW HA.out.1) HN.out)
  have HS1 := Lib.hid h
  obtain ⟨ao, cap, rfl⟩ := srow_shape h
  clear h hn
  rcases hg : grpB f A B C xs with _ | _
  · have HV := Lib.hid (rot_bad hg)
    have hc := cod6_nz f A B C
    rw [hg] at CC
    simp only [Bool.and_false] at CC
    clear hg
    generalize cod6 f A B C false = cc at CC hc HV
    have EA := Lib.hid (ret_val HV.out.symm)
    go_enter Tryz.func30, Tryz.ntmps30
    go_wp2_with fail
    refine (CC.out _ B0).mono ?_
    rintro e w1 ⟨rfl, hb1⟩
    have B1 := bstep B0 hb1
    clear hb1 B0 L0 L0c CC
    go_wp2
    go_ret2
    exact ⟨EA.out, B1⟩
  · have HV := Lib.hid (rot_good hg)
    have HG := Lib.hid hg
    have h7 : (xs.length : Int) ≤ 768 := by have := grp_len hg; omega
    rw [hg] at CC
    simp only [Bool.and_true] at CC
    have hck := cod6_ok hg
    rw [hck] at CC
    clear hg hck
    have EA := Lib.hid (ret_val HV.out.symm)
    go_enter Tryz.func30, Tryz.ntmps30
    go_wp2_with fail
    refine (CC.out _ B0).mono ?_
    rintro e w1 ⟨rfl, hb1⟩
    have B1 := bstep B0 hb1
    clear hb1 B0 L0 L0c CC
    go_wp2_with fail
    go_loopw [9, 10] (fun s9 s10 W => ∃ k : Nat, s9 = .int .i64 (trnP (xs.take k)) ∧ s10 = .int .i64 (k : Int) ∧ k ≤ xs.length ∧ Below w.heap.size w W) (fun _ s10 _ => xs.length - (intOf s10).toNat)
    case atStart => exact ⟨0, rfl, rfl, by omega, B1⟩
    case round =>
      clear B1
      obtain ⟨k, rfl, rfl, hk, hB⟩ := hrel
      by_cases hk1 : k < xs.length
      · skip
        have HEL := Lib.hid (List.getElem_mem hk1)
        have hk2 : (k : Int) < (xs.length : Int) := by omega
        have hk3 : (k : Int) ≤ 768 := by omega
        have hres := HS1.out.2.2.resolve_left (fun h => by omega)
        have hhi := HS1.out.1
        obtain ⟨g, cap', e9, _, hg, RA⟩ := hres
        simp only [Value.slice.injEq, true_and] at e9
        obtain ⟨rfl, rfl⟩ := e9
        have q1 := (RA.grow hB (by omega)).mo k hk1
        have HT := Lib.hid (show xs.take (k + 1) = xs.take k ++ [xs[k]] from List.take_succ_eq_append_getElem hk1)
        have HTL := Lib.hid (show (xs.take k).length ≤ 768 by rw [List.length_take]; omega)
        have HK := Lib.hid hk1
        clear RA hg hhi hk
        generalize xs[k] = m at q1 HT HEL
        clear hk1
        obtain ⟨a, b, c, d, x, y⟩ := m
        dsimp only at q1
        obtain ⟨hmm, hrr, hdd, hok⟩ := grp_mot HG.out HEL.out
        have HMB := Lib.hid hmm
        have HLI := Lib.hid (matB_lim hmm)
        have HQ0 := trnP_next HT.out
        obtain ⟨n, hn⟩ : ∃ n, n = trnP (xs.take k) := ⟨_, rfl⟩
        rw [← hn] at HQ0
        have hnb := trnP_bd (xs.take k)
        rw [← hn] at hnb
        rw [← hn]
        have q1c := q1.cells
        have hgl := ko_lt q1
        rcases hdd with hd | hd
        · have HQ := Lib.hid (show trnP (xs.take (k + 1)) = max n (ordI a b c d) by rw [HQ0]; unfold trnS; dsimp only; rw [if_pos hd])
          have hob := ordI_bd a b c d
          obtain ⟨r, hr⟩ : ∃ r, r = ordI a b c d := ⟨_, rfl⟩
          rw [← hr] at HQ hob
          have HOQ := Lib.hid hr
          have HDD := Lib.hid hd
          clear hr hmm hrr hd hok HQ0 hn HEL HT
          go_wp2_with fail
          refine (l02Det_any a b c d _ HLI.out).mono ?_
          rintro e w4 ⟨rfl, hb4⟩
          rw [HDD.out]
          have q4 := q1.call hb4
          have B4 := bstep hB hb4
          clear hb4 q1c q1 hB
          have q4c := q4.cells
          have hgl4 := ko_lt q4
          go_wp2_with fail
          refine (l02Order_any a b c d _ HLI.out).mono ?_
          rintro e w5 ⟨rfl, hb5⟩
          rw [← HOQ.out]
          have B5 := bstep B4 hb5
          clear hb5 q4 B4 q4c
          go_wp2
          all_goals
            go_roundw
            case rel => exact ⟨k + 1, by rw [HQ.out]; try (first | rw [show max n r = n by omega] | rw [show max n r = r by omega]), by go_num, by have := HK.out; omega, B5⟩
            case measure => (have := HK.out); first | (simp [intOf]; done) | (simp [intOf]; omega)
        · have HQ := Lib.hid (show trnP (xs.take (k + 1)) = n by rw [HQ0]; unfold trnS; dsimp only; rw [if_neg (by omega)])
          have HDD := Lib.hid hd
          clear hmm hrr hd hok HQ0 hn HEL HT
          go_wp2_with fail
          refine (l02Det_any a b c d _ HLI.out).mono ?_
          rintro e w4 ⟨rfl, hb4⟩
          rw [HDD.out]
          have B4 := bstep hB hb4
          clear hb4 q1c q1 hB
          go_wp2
          go_roundw
          case rel => exact ⟨k + 1, by rw [HQ.out], by go_num, by have := HK.out; omega, B4⟩
          case measure => (have := HK.out); first | (simp [intOf]; done) | (simp [intOf]; omega)
      · obtain rfl : k = xs.length := by omega
        have HE := Lib.hid (congrArg trnP (List.take_length (l := xs)))
        obtain ⟨r, hr⟩ : ∃ r, r = trnP (xs.take xs.length) := ⟨_, rfl⟩
        rw [← hr] at HE ⊢
        clear hk hk1 hr
        rw [← HE.out] at EA
        go_wp2
        go_ret2
        exact ⟨EA.out, hB⟩
end Go.Proofs.YtkfeajjpbmbmpaaGreatDoor
