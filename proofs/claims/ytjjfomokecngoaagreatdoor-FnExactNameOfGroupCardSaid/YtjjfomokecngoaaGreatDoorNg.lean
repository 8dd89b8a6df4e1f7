/-
  NameOfGroup in the program and in the model, and the walk of its exact law: the law returns true and writes nothing that was there. Conditions: the list's length is one that a slice can have, and the program's variable unitMatrix holds the unit.
-/
import Derived.Test.YtjjfomokecngoaaGreatDoorNmF
import Derived.Test.YtjjfomokecngoaaGreatDoorNm3
import Derived.Test.YtjjfomokecngoaaGreatDoorFtM
import Derived.Test.YtjjfomokecngoaaGreatDoorGq
namespace Go.Proofs.YtjjfomokecngoaaGreatDoor
open Go.RowKit
set_option linter.unusedSimpArgs false
set_option linter.unusedVariables false

def ngT (f A B C : Int) (xs : List M6) : Value := bif grpB f A B C xs then (bif decide (1 < (shP xs).length) then .tuple #[.string ⟨#[]⟩, .int .i64 5] else .tuple #[.string (nmB (nmI (trnP xs) (mrP f A B C xs).1 (mrP f A B C xs).2.1 (mrP f A B C xs).2.2.1 (mrP f A B C xs).2.2.2)), .int .i64 0]) else .tuple #[.string ⟨#[]⟩, .int .i64 (cod6 f A B C false)]
theorem ngT_form (f A B C : Int) (xs : List M6) : ∃ (s : ByteArray) (k : Int), ngT f A B C xs = .tuple #[.string s, .int .i64 k] := by
  unfold ngT
  rcases grpB f A B C xs with _ | _
  · exact ⟨_, _, rfl⟩
  · rcases decide (1 < (shP xs).length) with _ | _
    · exact ⟨_, _, rfl⟩
    · exact ⟨_, _, rfl⟩
theorem cod6_no (f A B C : Int) : (cod6 f A B C false == 0) = false := by
  rcases hF : flB f A B C with _ | _ <;> simp [cod6, hF]
set_option maxRecDepth 100000 in
set_option maxHeartbeats 8000000 in
theorem specNg_any {lo hi : Nat} {v : Value} {xs : List M6} {w : World} (f A B C : Int) (h : SRow lo hi 6 v xs.length (fm xs) w) (hn : xs.length ≤ 1048576) :
    Calls Tryz.prog 10 #[.int .i64 f, .agg #[.int .i64 A, .int .i64 B, .int .i64 C], v] w fun z w' => z = .returned (ngT f A B C xs) ∧ Below w.heap.size w w' := by
  have L0 : Kt w.heap.size A B C (w.alloc (.cells #[.int .i64 A, .int .i64 B, .int .i64 C] 28)) := Kt.at _ rfl
  have B0 : Below w.heap.size w (w.alloc (.cells #[.int .i64 A, .int .i64 B, .int .i64 C] 28)) := ab _ _
  have S0 := Lib.hid (h.call B0)
  have HN := Lib.hid hn

  clear h hn
  have L0c := L0.cells
  go_enter Tryz.func10, Tryz.ntmps10
  go_wp2_with fail
  with_reducible refine (specFacts_any f A B C S0.out HN.out).mono ?_
  rintro z1 w1 ⟨rfl, hb1⟩
  have B1 := bstep B0 hb1
  clear L0 L0c S0 hb1 B0
  rcases hg : grpB f A B C xs with _ | _
  · have hF : ftT f A B C xs = .tuple #[.agg #[.int .i64 0, .int .i64 0, .int .i64 0, .int .i64 0, .bool false], .int .i64 (cod6 f A B C false)] := by simp [ftT, hg]
    have HT := Lib.hid (show ngT f A B C xs = .tuple #[.string ⟨#[]⟩, .int .i64 (cod6 f A B C false)] by simp [ngT, hg])
    rw [hF]
    have hc := cod6_no f A B C
    generalize cod6 f A B C false = k at hc HT ⊢
    have hc2 : (k != 0) = true := by simp [bne, hc]
    clear hF hg
    go_wp2
    all_goals go_ret2
    all_goals exact ⟨ret_val HT.out.symm, B1.alloc B1.size _⟩
  · rcases hs : decide (1 < (shP xs).length) with _ | _
    · have hk := named hg (by simpa using hs)
      have hF : ftT f A B C xs = .tuple #[.agg #[.int .i64 (trnP xs), .int .i64 (mrP f A B C xs).1, .int .i64 (mrP f A B C xs).2.1, .int .i64 (mrP f A B C xs).2.2.1, .bool (mrP f A B C xs).2.2.2], .int .i64 0] := by simp only [ftT, hg, hs, cond_true, cond_false, ftV]
      have HT := Lib.hid (show ngT f A B C xs = .tuple #[.string (nmB (nmI (trnP xs) (mrP f A B C xs).1 (mrP f A B C xs).2.1 (mrP f A B C xs).2.2.1 (mrP f A B C xs).2.2.2)), .int .i64 0] by simp only [ngT, hg, hs, cond_true, cond_false])
      rw [hF]
      clear hF hg hs
      generalize trnP xs = r at hk HT ⊢
      generalize (mrP f A B C xs).1 = n at hk HT ⊢
      generalize (mrP f A B C xs).2.1 = e at hk HT ⊢
      generalize (mrP f A B C xs).2.2.1 = c at hk HT ⊢
      generalize (mrP f A B C xs).2.2.2 = al at hk HT ⊢
      have HG := Lib.hid hk
      clear hk
      go_wp2_with fail
      with_reducible refine (l12Name_any r n e c al _).mono ?_
      rintro z2 w2 ⟨rfl, hb2⟩
      have B2 := bstep (B1.alloc B1.size _) hb2
      clear B1 hb2
      generalize nmB (nmI r n e c al) = s at HT ⊢
      go_wp2
      all_goals go_ret2
      all_goals exact ⟨ret_val HT.out.symm, B2⟩
    · have hF : ftT f A B C xs = .tuple #[.agg #[.int .i64 0, .int .i64 0, .int .i64 0, .int .i64 0, .bool false], .int .i64 5] := by simp only [ftT, hg, hs, cond_true]
      have HT := Lib.hid (show ngT f A B C xs = .tuple #[.string ⟨#[]⟩, .int .i64 5] by simp only [ngT, hg, hs, cond_true])
      rw [hF]
      clear hg hs hF
      go_wp2
      all_goals go_ret2
      all_goals exact ⟨ret_val HT.out.symm, B1.alloc B1.size _⟩
set_option maxRecDepth 100000 in
set_option maxHeartbeats 8000000 in
theorem implNg_any {lo hi : Nat} {v : Value} {xs : List M6} {w : World} (f A B C : Int) (h : SRow lo hi 6 v xs.length (fm xs) w) (hn : xs.length ≤ 1048576) (hU : UnitOK w) :
    Calls Tryz.prog 13 #[.int .i64 f, .agg #[.int .i64 A, .int .i64 B, .int .i64 C], v] w fun z w' => z = .returned (ngT f A B C xs) ∧ Below w.heap.size w w' := by
  have L0 : Kt w.heap.size A B C (w.alloc (.cells #[.int .i64 A, .int .i64 B, .int .i64 C] 28)) := Kt.at _ rfl
  have B0 : Below w.heap.size w (w.alloc (.cells #[.int .i64 A, .int .i64 B, .int .i64 C] 28)) := ab _ _
  have S0 := Lib.hid (h.call B0)
  have HN := Lib.hid hn
  have U0 : UnitOK (w.alloc (.cells #[.int .i64 A, .int .i64 B, .int .i64 C] 28)) := Kq.call hU B0
  clear h hn
  have L0c := L0.cells
  go_enter Tryz.func13, Tryz.ntmps13
  go_wp2_with fail
  with_reducible refine (implFacts_any f A B C S0.out HN.out U0).mono ?_
  rintro z1 w1 ⟨rfl, hb1⟩
  have B1 := bstep B0 hb1
  clear L0 L0c S0 hb1 B0 U0 hU
  rcases hg : grpB f A B C xs with _ | _
  · have hF : ftT f A B C xs = .tuple #[.agg #[.int .i64 0, .int .i64 0, .int .i64 0, .int .i64 0, .bool false], .int .i64 (cod6 f A B C false)] := by simp [ftT, hg]
    have HT := Lib.hid (show ngT f A B C xs = .tuple #[.string ⟨#[]⟩, .int .i64 (cod6 f A B C false)] by simp [ngT, hg])
    rw [hF]
    have hc := cod6_no f A B C
    generalize cod6 f A B C false = k at hc HT ⊢
    have hc2 : (k != 0) = true := by simp [bne, hc]
    clear hF hg
    go_wp2
    all_goals go_ret2
    all_goals exact ⟨ret_val HT.out.symm, B1.alloc B1.size _⟩
  · rcases hs : decide (1 < (shP xs).length) with _ | _
    · have hk := named hg (by simpa using hs)
      have hF : ftT f A B C xs = .tuple #[.agg #[.int .i64 (trnP xs), .int .i64 (mrP f A B C xs).1, .int .i64 (mrP f A B C xs).2.1, .int .i64 (mrP f A B C xs).2.2.1, .bool (mrP f A B C xs).2.2.2], .int .i64 0] := by simp only [ftT, hg, hs, cond_true, cond_false, ftV]
      have HT := Lib.hid (show ngT f A B C xs = .tuple #[.string (nmB (nmI (trnP xs) (mrP f A B C xs).1 (mrP f A B C xs).2.1 (mrP f A B C xs).2.2.1 (mrP f A B C xs).2.2.2)), .int .i64 0] by simp only [ngT, hg, hs, cond_true, cond_false])
      rw [hF]
      clear hF hg hs
      generalize trnP xs = r at hk HT ⊢
      generalize (mrP f A B C xs).1 = n at hk HT ⊢
      generalize (mrP f A B C xs).2.1 = e at hk HT ⊢
      generalize (mrP f A B C xs).2.2.1 = c at hk HT ⊢
      generalize (mrP f A B C xs).2.2.2 = al at hk HT ⊢
      have HG := Lib.hid hk
      clear hk
      go_wp2_with fail
      with_reducible refine (implNof_any r n e c al _).mono ?_
      rintro z2 w2 ⟨rfl, hb2⟩
      have B2 := bstep (B1.alloc B1.size _) hb2
      clear B1 hb2
      have hq : nmR (nmI r n e c al) = .tuple #[.string (nmB (nmI r n e c al)), .int .i64 0] := by rw [nmR, if_neg HG.out]
      rw [hq]
      generalize nmB (nmI r n e c al) = s at HT ⊢
      go_wp2
      all_goals go_ret2
      all_goals exact ⟨ret_val HT.out.symm, B2⟩
    · have hF : ftT f A B C xs = .tuple #[.agg #[.int .i64 0, .int .i64 0, .int .i64 0, .int .i64 0, .bool false], .int .i64 5] := by simp only [ftT, hg, hs, cond_true]
      have HT := Lib.hid (show ngT f A B C xs = .tuple #[.string ⟨#[]⟩, .int .i64 5] by simp only [ngT, hg, hs, cond_true])
      rw [hF]
      clear hg hs hF
      go_wp2
      all_goals go_ret2
      all_goals exact ⟨ret_val HT.out.symm, B1.alloc B1.size _⟩
set_option maxRecDepth 100000 in
set_option maxHeartbeats 8000000 in
theorem walkNg (f A B C : Int) (v : Value) (xs : List M6) (w : World) (hA : ARow v xs w) (hm : xs.length ≤ 9223372036854775807) (hU : UnitOK w) :
    Calls Tryz.prog 3 #[.int .i64 f, .agg #[.int .i64 A, .int .i64 B, .int .i64 C], v] w fun e w' => e = .returned (.bool true) ∧ Below w.heap.size w w' := by
  have L0 : Kt w.heap.size A B C (w.alloc (.cells #[.int .i64 A, .int .i64 B, .int .i64 C] 23)) := Kt.at _ rfl
  have B0 : Below w.heap.size w (w.alloc (.cells #[.int .i64 A, .int .i64 B, .int .i64 C] 23)) := (Below.refl _ _).alloc (Nat.le_refl _) _
  have HA := Lib.hid hA
  have HU := Lib.hid hU
  obtain ⟨ao, cap, rfl, _⟩ := hA
  clear hU
  by_cases hbig : xs.length ≤ 1048576
  · have hz : (if (xs.length : Int) ≤ 1048576 then 1048576 - (xs.length : Int) else -1) = 1048576 - (xs.length : Int) := if_pos (by omega)
    have HN := Lib.hid hbig
    have hn1 : (xs.length : Int) ≤ 1048576 := by omega
    have hn2 : 0 ≤ (xs.length : Int) := by omega
    have CS : Hid (∀ (lo hi : Nat) (v : Value) (W : World), SRow lo hi 6 v xs.length (fm xs) W → Calls Tryz.prog 10 #[.int .i64 f, .agg #[.int .i64 A, .int .i64 B, .int .i64 C], v] W fun e w' => e = .returned (ngT f A B C xs) ∧ Below W.heap.size W w') := Lib.hid (fun lo hi v W h => specNg_any f A B C h HN.out)
    have CI : Hid (∀ (lo hi : Nat) (v : Value) (W : World), SRow lo hi 6 v xs.length (fm xs) W → UnitOK W → Calls Tryz.prog 13 #[.int .i64 f, .agg #[.int .i64 A, .int .i64 B, .int .i64 C], v] W fun e w' => e = .returned (ngT f A B C xs) ∧ Below W.heap.size W w') := Lib.hid (fun lo hi v W h hU => implNg_any f A B C h HN.out hU)
    obtain ⟨r0, r1, he⟩ := ngT_form f A B C xs
    rw [he] at CS CI
    clear he
    clear hbig
    go_enter Tryz.func3, Tryz.ntmps3
    go_wp2_with fail
    refine (szMo_any ao xs.length cap 1048576 _ hm (by omega)).mono ?_
    rintro e w1 ⟨rfl, hb1⟩
    rw [hz]
    have L1 := L0.call hb1
    have B1 := bstep B0 hb1
    have L1c := L1.cells
    clear L0 B0 hb1
    go_wp2_with fail
    refine (toLat_any _ _ _ _).mono ?_
    rintro e w2 ⟨rfl, hb2⟩
    have L2 := L1.call hb2
    have B2 := bstep B1 hb2
    have A2 := HA.out.grow (w2 := w2) B2
    clear L1c
    clear L1 B1 hb2
    go_wp2_with fail
    refine (toMotionS_any A2 HN.out).mono ?_
    rintro e w3 ⟨v3, rfl, s3, hb3⟩
    have L3 := L2.call hb3
    have B3 := bstep B2 hb3
    clear A2
    clear L2 B2 hb3
    go_wp2_with fail
    refine (CS.out _ _ _ _ s3).mono ?_
    rintro e w4 ⟨rfl, hb4⟩
    have L4 := L3.call hb4
    have B4 := bstep B3 hb4
    have A4 := HA.out.grow (w2 := w4) B4
    clear L3 s3 B3 hb4
    go_wp2_with fail
    refine (toMotionS_any A4 HN.out).mono ?_
    rintro e w5 ⟨v5, rfl, x5, hb5⟩
    have L5 := L4.call hb5
    have B5 := bstep B4 hb5
    clear A4
    have L5c := L5.cells
    clear L4 B4 hb5
    go_wp2_with fail
    refine (toLat_any _ _ _ _).mono ?_
    rintro e w6 ⟨rfl, hb6⟩
    have x6 := x5.call hb6
    have B6 := bstep B5 hb6
    have U6 : UnitOK w6 := Kq.call HU.out B6
    clear L5c
    clear L5 x5 B5 hb6
    go_wp2_with fail
    refine (CI.out _ _ _ _ x6 U6).mono ?_
    rintro e w7 ⟨rfl, hb7⟩
    have x7 := x6.call hb7
    have B7 := bstep B6 hb7
    have A7 := HA.out.grow (w2 := w7) B7
    clear U6
    clear x6 B6 hb7
    go_wp2_with fail
    refine (toMotionS_any A7 HN.out).mono ?_
    rintro e w8 ⟨v8, rfl, s8, hb8⟩
    have x8 := x7.call hb8
    have B8 := bstep B7 hb8
    clear A7
    clear x7 B7 hb8
    go_wp2_with fail
    refine (eqMotionS_any x8 s8).mono ?_
    rintro e w9 ⟨rfl, hb9⟩
    have B9 := bstep B8 hb9
    clear x8 s8 B8 hb9
    go_wp2
    all_goals
      first
      | (go_ret; exact ⟨rfl, B9⟩)
      | (exfalso; simp_all)
  · have hz : (if (xs.length : Int) ≤ 1048576 then 1048576 - (xs.length : Int) else -1) = -1 := if_neg (by omega)
    clear L0
    go_enter Tryz.func3, Tryz.ntmps3
    go_wp2_with fail
    refine (szMo_any ao xs.length cap 1048576 _ hm (by omega)).mono ?_
    rintro e w1 ⟨rfl, hb1⟩
    rw [hz]
    have B1 := bstep B0 hb1
    clear B0 hb1
    go_wp2
    go_ret
    exact ⟨rfl, B1⟩

end Go.Proofs.YtjjfomokecngoaaGreatDoor
