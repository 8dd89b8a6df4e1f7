/-
 The facts of a group and FactsOf in the program. Conditions: the list's length is below the model's bound; the program's variable unitMatrix holds the unit.
-/
import Derived.Test.YtjjfomokecngoaaGreatDoorFtA
import Derived.Deep.RegionHeld3
import Derived.IntWalk
namespace Go.Proofs.YtjjfomokecngoaaGreatDoor
open Go.RowKit
set_option linter.unusedSimpArgs false
set_option linter.unusedVariables false

def ftV (f A B C : Int) (xs : List M6) : Value := .agg #[.int .i64 (trnP xs), .int .i64 ((mrP f A B C xs).1), .int .i64 ((mrP f A B C xs).2.1), .int .i64 ((mrP f A B C xs).2.2.1), .bool (mrP f A B C xs).2.2.2]
theorem Below.two {g : Nat} {w W W' : World} (h : Below w.heap.size w W) (hb : Below g W W') (hg : w.heap.size ≤ g) : Below w.heap.size w W' := h.trans (hb.mono hg)
set_option maxRecDepth 100000 in
set_option maxHeartbeats 16000000 in
theorem facts_any {lo hi : Nat} {v : Value} {xs : List M6} {w : World} (f A B C : Int) (h : SRow lo hi 6 v xs.length (fm xs) w) (hg : grpB f A B C xs = true) (hU : UnitOK w) :
  Calls Tryz.prog 67 #[.agg #[.int .i64 A, .int .i64 B, .int .i64 C], .iface (planeT f) (.agg #[]), v] w fun e w' => e = .returned (ftV f A B C xs) ∧ Below w.heap.size w w' := by
 have HS1 := Lib.hid h
 have HG := Lib.hid hg
 have h7 : (xs.length : Int) ≤ 768 := by have := grp_len hg; omega
 have L0 : Bx w.heap.size [.int .i64 A, .int .i64 B, .int .i64 C] ((w.alloc (.cells #[.int .i64 A, .int .i64 B, .int .i64 C] 28)).alloc (.cells #[.int .i64 0, .int .i64 0, .int .i64 0, .int .i64 0, .bool false] 49)) := (Bx.at _ rfl).alloc _
 have R0 : BX (w.heap.size + 1) [.int .i64 0, .int .i64 0, .int .i64 0, .int .i64 0, .bool false] ((w.alloc (.cells #[.int .i64 A, .int .i64 B, .int .i64 C] 28)).alloc (.cells #[.int .i64 0, .int .i64 0, .int .i64 0, .int .i64 0, .bool false] 49)) := BX.at _ (by simp)
 have B0 : Below w.heap.size w ((w.alloc (.cells #[.int .i64 A, .int .i64 B, .int .i64 C] 28)).alloc (.cells #[.int .i64 0, .int .i64 0, .int .i64 0, .int .i64 0, .bool false] 49)) := ((Below.refl _ _).alloc (Nat.le_refl _) _).alloc (by simp) _
 have CT := Lib.hid (turn_any (HS1.out.grow B0 HS1.out.1) hg (Kq.call hU B0))
 obtain ⟨ao, cap, rfl⟩ := srow_shape h
 have HTB := Lib.hid (trnP_bd xs)
 obtain ⟨rt, hrt⟩ : ∃ z, z = trnP xs := ⟨_, rfl⟩
 rw [← hrt] at CT HTB
 have HRT := Lib.hid hrt
 clear h hg hU hrt
 go_enter Tryz.func67, Tryz.ntmps67
 go_wp2_with fail
 refine CT.out.mono ?_
 rintro e w1 ⟨rfl, hb1⟩
 have L1 := L0.call hb1
 have R1 := R0.call hb1
 have B1 := bstep B0 hb1
 clear hb1 L0 R0 B0 CT
 have zL := L1.lt
 have zR := R1.lt
 go_wp2_with fail
 have X2 : BX w1.heap.size [.int .i64 rt, .int .i64 0, .int .i64 0, .int .i64 0, .bool false] (w1.alloc (.cells #[.int .i64 rt, .int .i64 0, .int .i64 0, .int .i64 0, .bool false] 49)) := BX.at _ rfl
 have L2 := L1.alloc (.cells #[.int .i64 rt, .int .i64 0, .int .i64 0, .int .i64 0, .bool false] 49)
 have R2 := R1.alloc (.cells #[.int .i64 rt, .int .i64 0, .int .i64 0, .int .i64 0, .bool false] 49)
 have B2 : Below w.heap.size w (w1.alloc (.cells #[.int .i64 rt, .int .i64 0, .int .i64 0, .int .i64 0, .bool false] 49)) := Below.alloc B1 B1.size _
 obtain ⟨g9, hg9⟩ : ∃ z, z = w1.heap.size := ⟨_, rfl⟩
 rw [← hg9] at X2 zL zR ⊢
 clear L1 R1 B1
 go_loopw [15] (fun s15 W => ∃ k : Nat, s15 = .int .i64 (k : Int) ∧ k ≤ xs.length ∧ BX g9 [.int .i64 rt, .int .i64 ((mrP f A B C (xs.take k)).1), .int .i64 ((mrP f A B C (xs.take k)).2.1), .int .i64 ((mrP f A B C (xs.take k)).2.2.1), .bool (mrP f A B C (xs.take k)).2.2.2] W ∧ Bx w.heap.size [.int .i64 A, .int .i64 B, .int .i64 C] W ∧ BX (w.heap.size + 1) [.int .i64 0, .int .i64 0, .int .i64 0, .int .i64 0, .bool false] W ∧ Below w.heap.size w W) (fun s15 _ => xs.length - (intOf s15).toNat)
 case atStart => exact ⟨0, rfl, by omega, X2, L2, R2, B2⟩
 case round =>
  clear X2 L2 R2 B2 hg9
  obtain ⟨k, rfl, hk, hX, hL, hR, hB⟩ := hrel
  by_cases hk1 : k < xs.length
  ·have HEL := Lib.hid (List.getElem_mem hk1)
   have hk2 : (k : Int) < (xs.length : Int) := by omega
   have hk3 : (k : Int) ≤ 768 := by omega
   have hres := HS1.out.2.2.resolve_left (fun h => by omega)
   have hhi := HS1.out.1
   obtain ⟨g, cap', e9, _, hg, RA⟩ := hres
   simp only [Value.slice.injEq, true_and] at e9
   obtain ⟨rfl, rfl⟩ := e9
   have q1 := (RA.grow hB (by omega)).mo k hk1
   have HT := Lib.hid (show xs.take (k + 1) = xs.take k ++ [xs[k]] from List.take_succ_eq_append_getElem hk1)
   have HTL := Lib.hid (show (xs.take k).length ≤ 768 by rw [List.length_take]; omega)
   have HK := Lib.hid hk1
   clear RA hg hhi hk
   generalize xs[k] = m at q1 HT HEL
   clear hk1
   obtain ⟨a, b, c, d, x, y⟩ := m
   dsimp only at q1
   obtain ⟨hmm, hrr, hdd, hok⟩ := grp_mot HG.out HEL.out
   have HOK := Lib.hid hok
   have HLI := Lib.hid (matB_lim hmm)
   have HNX := Lib.hid (mrP_next (f := f) (A := A) (B := B) (C := C) HT.out)
   have hbd := mrP_bd f A B C (xs.take k)
   have htk : (xs.take k).length ≤ 768 := HTL.out
   obtain ⟨⟨n0, e0, c0, a0⟩, hs⟩ : ∃ s, s = mrP f A B C (xs.take k) := ⟨_, rfl⟩
   rw [← hs] at hX HNX hbd
   dsimp only at hX hbd
   have HBD := Lib.hid (show (0 ≤ n0 ∧ n0 ≤ 768) ∧ (0 ≤ e0 ∧ e0 ≤ 768) ∧ (0 ≤ c0 ∧ c0 ≤ 768) from by omega)
   have q1c := q1.cells
   have hgl := ko_lt q1
   have Q0 : Bx wr.heap.size [.int .i64 a, .int .i64 b, .int .i64 c, .int .i64 d, .int .i64 x, .int .i64 y] (wr.alloc (.cells #[.int .i64 a, .int .i64 b, .int .i64 c, .int .i64 d, .int .i64 x, .int .i64 y] 145)) := Bx.at _ rfl
   have X0 := hX.alloc (.cells #[.int .i64 a, .int .i64 b, .int .i64 c, .int .i64 d, .int .i64 x, .int .i64 y] 145)
   have L0 := hL.alloc (.cells #[.int .i64 a, .int .i64 b, .int .i64 c, .int .i64 d, .int .i64 x, .int .i64 y] 145)
   have R0 := hR.alloc (.cells #[.int .i64 a, .int .i64 b, .int .i64 c, .int .i64 d, .int .i64 x, .int .i64 y] 145)
   have B3 : Below w.heap.size w (wr.alloc (.cells #[.int .i64 a, .int .i64 b, .int .i64 c, .int .i64 d, .int .i64 x, .int .i64 y] 145)) := hB.alloc hB.size _
   clear hbd htk hs HT HTL hmm hdd hok
   rcases hr : reflB a b c d with _ | _
   ·have HRB := Lib.hid hr
    have HE := Lib.hid (show mrP f A B C (xs.take (k + 1)) = (n0, e0, c0, a0) from by rw [HNX.out]; unfold mrS; dsimp only; rw [if_neg (by rw [hr]; simp)])
    clear hr hrr hX hL hR hB HNX
    have Q0c0 := Q0.c0
    have Q0c1 := Q0.c1
    have Q0c2 := Q0.c2
    have Q0c3 := Q0.c3
    have Q0c4 := Q0.c4
    have Q0c5 := Q0.c5
    have Q0l := Q0.lt
    go_wp2_with fail
    refine (isReflection_any a b c d _ HLI.out).mono ?_
    rintro e w4 ⟨rfl, hb4⟩
    rw [HRB.out]
    have X4 := X0.call hb4
    have L4 := L0.call hb4
    have R4 := R0.call hb4
    have B4 := bstep B3 hb4
    clear hb4 X0 L0 R0 B3 Q0 Q0c0 Q0c1 Q0c2 Q0c3 Q0c4 Q0c5 Q0l
    go_wp2
    go_roundw
    case rel => exact ⟨k + 1, by go_num, by have := HK.out; omega, by rw [HE.out]; exact X4, L4, R4, B4⟩
    case measure => (have := HK.out); first | (simp [intOf]; done) | (simp [intOf]; omega)
   ·have HRB := Lib.hid hr
    have HE := Lib.hid (show mrP f A B C (xs.take (k + 1)) = (n0 + 1, e0 + bI (mayB A B C (a, b, c, d, x, y)), c0 + bI (cenB A B C a b c d), if n0 = 0 then alB f A B C a b c d else a0) from by rw [HNX.out]; unfold mrS; dsimp only; rw [if_pos hr])
    clear hr hrr hX hL hR hB HNX
    have Q0c0 := Q0.c0
    have Q0c1 := Q0.c1
    have Q0c2 := Q0.c2
    have Q0c3 := Q0.c3
    have Q0c4 := Q0.c4
    have Q0c5 := Q0.c5
    have Q0l := Q0.lt
    go_wp2_with fail
    refine (isReflection_any a b c d _ HLI.out).mono ?_
    rintro e w4 ⟨rfl, hb4⟩
    rw [HRB.out]
    have X4 := X0.call hb4
    have L4 := L0.call hb4
    have R4 := R0.call hb4
    have Q4 := Q0.call hb4
    have B4 := bstep B3 hb4
    clear hb4 X0 L0 R0 B3 Q0 Q0c0 Q0c1 Q0c2 Q0c3 Q0c4 Q0c5 Q0l
    have Q4c0 := Q4.c0
    have Q4c1 := Q4.c1
    have Q4c2 := Q4.c2
    have Q4c3 := Q4.c3
    have Q4c4 := Q4.c4
    have Q4c5 := Q4.c5
    have Q4l := Q4.lt
    have L4c0 := L4.c0
    have L4c1 := L4.c1
    have L4c2 := L4.c2
    have L4l := L4.lt
    go_wp2_with fail
    refine (addMir_any HOK.out HRB.out X4 HBD.out).mono ?_
    rintro e w5 ⟨rfl, X5, hb5⟩
    have L5 := L4.grow hb5 (by omega)
    have R5 := R4.grow hb5 (by omega)
    have B5 := Below.two B4 hb5 (by omega)
    clear hb5 X4 L4 R4 B4 Q4 Q4c0 Q4c1 Q4c2 Q4c3 Q4c4 Q4c5 Q4l L4c0 L4c1 L4c2 L4l
    have HX5 := Lib.hid X5
    clear X5
    go_wp2
    go_roundw
    case rel => exact ⟨k + 1, by go_num, by have := HK.out; omega, by rw [HE.out]; exact HX5.out, L5, R5, B5⟩
    case measure => (have := HK.out); first | (simp [intOf]; done) | (simp [intOf]; omega)
  ·obtain rfl : k = xs.length := by omega
   rw [List.take_length] at hX
   obtain ⟨⟨n0, e0, c0, a0⟩, hs⟩ : ∃ s, s = mrP f A B C xs := ⟨_, rfl⟩
   rw [← hs] at hX
   dsimp only at hX
   have HV := Lib.hid (show .agg #[.int .i64 rt, .int .i64 (n0), .int .i64 (e0), .int .i64 (c0), .bool a0] = ftV f A B C xs from by unfold ftV; rw [← hs, HRT.out])
   clear hs hk hk1
   have hXc0 := hX.c0
   have hXc1 := hX.c1
   have hXc2 := hX.c2
   have hXc3 := hX.c3
   have hXc4 := hX.c4
   have hXl := hX.lt
   have hRc0 := hR.c0
   have hRc1 := hR.c1
   have hRc2 := hR.c2
   have hRc3 := hR.c3
   have hRc4 := hR.c4
   have hRf0 := hR.f0
   have hRf1 := hR.f1
   have hRf2 := hR.f2
   have hRf3 := hR.f3
   have hRf4 := hR.f4
   have hRl := hR.lt
   go_wp2
   refine bodyPost_ret (v := .agg #[.int .i64 rt, .int .i64 n0, .int .i64 e0, .int .i64 c0, .bool a0]) (by simp [results, Tryz.results67, go_sem, *]) rfl ⟨by rw [HV.out], ?_⟩
   repeat (first | with_reducible assumption | with_reducible exact Below.refl _ _ | with_reducible refine Below.setCell ?_ (by first | omega | (simp <;> omega)) _ | with_reducible refine Below.alloc ?_ (by first | omega | (simp <;> omega)) _ | with_reducible refine bstep ?_ (by with_reducible assumption) | with_reducible refine Below.drew ?_)
end Go.Proofs.YtjjfomokecngoaaGreatDoor
