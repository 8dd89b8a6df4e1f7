/-
  The functions of the model that draw arguments for chapter 2: each returns some matrices, vectors or numbers and turns nothing that was there. Condition: the code's bytes can be read, at most 2^47 of them.
-/
import Derived.Test.YtcphadkgmchnfaaDrawsM2
import Derived.Test.YtcphadkgmchnfaaDraws1
namespace Go.Proofs.Ytcphadkgmchnfaa
open Go.RowKit
set_option linter.unusedSimpArgs false
set_option linter.unusedVariables false

theorem KF.far2 {R : Nat} {a b : Int} {W : World} {q : Addr} {u : Value} (hq : q.block ≠ R) (h : KF R a b W) : KF R a b (W.setCell q u) :=
  h.only ((Only.refl q.block W).setCell rfl u) (Ne.symm hq)
theorem KF.store {R : Nat} {a b : Int} {W : World} (h : KF R a b W) (a' b' : Int) : KF R a' b' ((W.setCell ⟨R, 0, none⟩ (.int .i64 a')).setCell ⟨R, 1, none⟩ (.int .i64 b')) := by
  obtain ⟨h0, h1, h2, h3, h4⟩ := h
  refine ⟨by simpa [World.setCell] using h0, ?_, ?_, ?_, ?_⟩ <;> simp [go_sem, *]

def OneMat (w : World) (e : Ending) (w' : World) : Prop := ∃ a b c d : Int, e = .returned (.agg #[.int .i64 a, .int .i64 b, .int .i64 c, .int .i64 d]) ∧ Below w.heap.size w w'
def TwoMats (w : World) (e : Ending) (w' : World) : Prop := ∃ a b c d a' b' c' d' : Int, e = .returned (.tuple #[.agg #[.int .i64 a, .int .i64 b, .int .i64 c, .int .i64 d], .agg #[.int .i64 a', .int .i64 b', .int .i64 c', .int .i64 d']]) ∧ Below w.heap.size w w'
def MatVec (w : World) (e : Ending) (w' : World) : Prop := ∃ a b c d x y : Int, e = .returned (.tuple #[.agg #[.int .i64 a, .int .i64 b, .int .i64 c, .int .i64 d], .agg #[.int .i64 x, .int .i64 y]]) ∧ Below w.heap.size w w'
def MatInt (w : World) (e : Ending) (w' : World) : Prop := ∃ a b c d n : Int, e = .returned (.tuple #[.agg #[.int .i64 a, .int .i64 b, .int .i64 c, .int .i64 d], .int .i64 n]) ∧ Below w.heap.size w w'

set_option maxHeartbeats 6000000 in
theorem drawInv_any (a0 : Option Addr) (len cap : Nat) (w : World) (hl : len ≤ 140737488355328) (hB : Bts a0 len w.heap.size w) :
    Calls Try.prog 13 #[.slice a0 len cap] w (OneMat w) := by
  go_enter Try.func13, Try.ntmps13
  go_wp2_with fail
  refine (from_at (w.heap.size + 1) a0 len cap _ (by simp) hl (hB.grow (Below.alloc (Below.refl _ _) (by first | omega | (simp <;> omega)) _) (by omega))).mono ?_
  rintro e w1 ⟨rfl, S1, H1⟩
  have B1 : Below w.heap.size w w1 := bstep (Below.alloc (Below.refl _ _) (by first | omega | (simp <;> omega)) _) H1
  have R1 : KR (w.heap.size) 0 0 0 0 w1 := KR.call (KR.at (w.heap.size) (by simp)) H1
  clear H1
  go_wp2_with fail
  refine (drawMat_any (w.heap.size + 1) a0 len cap _ (S1)).mono ?_
  rintro e w2 ⟨a, b, c, d, rfl, S2, O2⟩
  have R2 := (R1).only O2 (by omega)
  have B2 := bonly (B1) O2 (by omega)
  clear S1 O2 B1 R1
  obtain ⟨r0, r1, r2, r3, r4, r5, r6, r7, r8⟩ := id R2
  go_wp2
  refine bodyPost_ret (v := .agg #[.int .i64 a, .int .i64 b, .int .i64 c, .int .i64 d]) (by simp [results, Try.results13, go_sem, r1, r2, r3, r4]) rfl ⟨a, b, c, d, rfl, ?_⟩
  repeat (first | assumption | refine Below.setCell ?_ (by first | omega | (simp <;> omega)) _ | refine Below.alloc ?_ (by first | omega | (simp <;> omega)) _ | refine Below.drew ?_)

set_option maxHeartbeats 6000000 in
theorem drawMul_any (a0 : Option Addr) (len cap : Nat) (w : World) (hl : len ≤ 140737488355328) (hB : Bts a0 len w.heap.size w) :
    Calls Try.prog 10 #[.slice a0 len cap] w (TwoMats w) := by
  go_enter Try.func10, Try.ntmps10
  go_wp2_with fail
  refine (from_at (w.heap.size + 1 + 1) a0 len cap _ (by simp) hl (hB.grow (Below.alloc (Below.alloc (Below.refl _ _) (by first | omega | (simp <;> omega)) _) (by first | omega | (simp <;> omega)) _) (by omega))).mono ?_
  rintro e w1 ⟨rfl, S1, H1⟩
  have B1 : Below w.heap.size w w1 := bstep (Below.alloc (Below.alloc (Below.refl _ _) (by first | omega | (simp <;> omega)) _) (by first | omega | (simp <;> omega)) _) H1
  have R1 : KR (w.heap.size) 0 0 0 0 w1 := KR.call (KR.alloc (KR.at (w.heap.size) (by simp)) _) H1
  have Q1 : KR (w.heap.size + 1) 0 0 0 0 w1 := KR.call (KR.at (w.heap.size + 1) (by simp)) H1
  clear H1
  go_wp2_with fail
  refine (drawMat_any (w.heap.size + 1 + 1) a0 len cap _ (S1)).mono ?_
  rintro e w2 ⟨a, b, c, d, rfl, S2, O2⟩
  have R2 := (R1).only O2 (by omega)
  have Q2 := (Q1).only O2 (by omega)
  have B2 := bonly (B1) O2 (by omega)
  clear S1 O2 B1 R1 Q1
  go_wp2_with fail
  refine (drawMat_any (w.heap.size + 1 + 1) a0 len cap _ (S2)).mono ?_
  rintro e w3 ⟨a', b', c', d', rfl, S3, O3⟩
  have R3 := (R2).only O3 (by omega)
  have Q3 := (Q2).only O3 (by omega)
  have B3 := bonly (B2) O3 (by omega)
  clear S2 O3 B2 R2 Q2
  obtain ⟨r0, r1, r2, r3, r4, r5, r6, r7, r8⟩ := id R3
  obtain ⟨q0, q1, q2, q3, q4, q5, q6, q7, q8⟩ := id Q3
  go_wp2
  have n0 : w.heap.size + 1 ≠ w.heap.size := by omega
  have n1 : w.heap.size ≠ w.heap.size + 1 := by omega
  have RF : KR (w.heap.size) a b c d ((((((((w3.setCell ⟨w.heap.size, 0, none⟩ (.int .i64 a)).setCell ⟨w.heap.size, 1, none⟩ (.int .i64 b)).setCell ⟨w.heap.size, 2, none⟩ (.int .i64 c)).setCell ⟨w.heap.size, 3, none⟩ (.int .i64 d)).setCell ⟨w.heap.size + 1, 0, none⟩ (.int .i64 a')).setCell ⟨w.heap.size + 1, 1, none⟩ (.int .i64 b')).setCell ⟨w.heap.size + 1, 2, none⟩ (.int .i64 c')).setCell ⟨w.heap.size + 1, 3, none⟩ (.int .i64 d')) := KR.far (u := .int .i64 d') (q := ⟨w.heap.size + 1, 3, none⟩) n0 (KR.far (u := .int .i64 c') (q := ⟨w.heap.size + 1, 2, none⟩) n0 (KR.far (u := .int .i64 b') (q := ⟨w.heap.size + 1, 1, none⟩) n0 (KR.far (u := .int .i64 a') (q := ⟨w.heap.size + 1, 0, none⟩) n0 (KR.store R3 a b c d))))
  have QF : KR (w.heap.size + 1) a' b' c' d' ((((((((w3.setCell ⟨w.heap.size, 0, none⟩ (.int .i64 a)).setCell ⟨w.heap.size, 1, none⟩ (.int .i64 b)).setCell ⟨w.heap.size, 2, none⟩ (.int .i64 c)).setCell ⟨w.heap.size, 3, none⟩ (.int .i64 d)).setCell ⟨w.heap.size + 1, 0, none⟩ (.int .i64 a')).setCell ⟨w.heap.size + 1, 1, none⟩ (.int .i64 b')).setCell ⟨w.heap.size + 1, 2, none⟩ (.int .i64 c')).setCell ⟨w.heap.size + 1, 3, none⟩ (.int .i64 d')) := KR.store (KR.far (u := .int .i64 d) (q := ⟨w.heap.size, 3, none⟩) n1 (KR.far (u := .int .i64 c) (q := ⟨w.heap.size, 2, none⟩) n1 (KR.far (u := .int .i64 b) (q := ⟨w.heap.size, 1, none⟩) n1 (KR.far (u := .int .i64 a) (q := ⟨w.heap.size, 0, none⟩) n1 (Q3))))) a' b' c' d'
  have BF : Below w.heap.size w ((((((((w3.setCell ⟨w.heap.size, 0, none⟩ (.int .i64 a)).setCell ⟨w.heap.size, 1, none⟩ (.int .i64 b)).setCell ⟨w.heap.size, 2, none⟩ (.int .i64 c)).setCell ⟨w.heap.size, 3, none⟩ (.int .i64 d)).setCell ⟨w.heap.size + 1, 0, none⟩ (.int .i64 a')).setCell ⟨w.heap.size + 1, 1, none⟩ (.int .i64 b')).setCell ⟨w.heap.size + 1, 2, none⟩ (.int .i64 c')).setCell ⟨w.heap.size + 1, 3, none⟩ (.int .i64 d')) := Below.setCell (p := ⟨w.heap.size + 1, 3, none⟩) (Below.setCell (p := ⟨w.heap.size + 1, 2, none⟩) (Below.setCell (p := ⟨w.heap.size + 1, 1, none⟩) (Below.setCell (p := ⟨w.heap.size + 1, 0, none⟩) (Below.setCell (p := ⟨w.heap.size, 3, none⟩) (Below.setCell (p := ⟨w.heap.size, 2, none⟩) (Below.setCell (p := ⟨w.heap.size, 1, none⟩) (Below.setCell (p := ⟨w.heap.size, 0, none⟩) (B3) (Nat.le_refl _) _) (Nat.le_refl _) _) (Nat.le_refl _) _) (Nat.le_refl _) _) (Nat.le_succ _) _) (Nat.le_succ _) _) (Nat.le_succ _) _) (Nat.le_succ _) _
  clear r0 r1 r2 r3 r4 r5 r6 r7 r8 q0 q1 q2 q3 q4 q5 q6 q7 q8
  generalize ((((((((w3.setCell ⟨w.heap.size, 0, none⟩ (.int .i64 a)).setCell ⟨w.heap.size, 1, none⟩ (.int .i64 b)).setCell ⟨w.heap.size, 2, none⟩ (.int .i64 c)).setCell ⟨w.heap.size, 3, none⟩ (.int .i64 d)).setCell ⟨w.heap.size + 1, 0, none⟩ (.int .i64 a')).setCell ⟨w.heap.size + 1, 1, none⟩ (.int .i64 b')).setCell ⟨w.heap.size + 1, 2, none⟩ (.int .i64 c')).setCell ⟨w.heap.size + 1, 3, none⟩ (.int .i64 d')) = wf at RF QF BF ⊢
  obtain ⟨r0, r1, r2, r3, r4, r5, r6, r7, r8⟩ := id RF
  obtain ⟨q0, q1, q2, q3, q4, q5, q6, q7, q8⟩ := id QF
  exact bodyPost_ret (v := .tuple #[.agg #[.int .i64 a, .int .i64 b, .int .i64 c, .int .i64 d], .agg #[.int .i64 a', .int .i64 b', .int .i64 c', .int .i64 d']]) (by simp [results, Try.results10, go_sem, r1, r2, r3, r4, q1, q2, q3, q4]) rfl ⟨a, b, c, d, a', b', c', d', rfl, BF⟩

set_option maxHeartbeats 6000000 in
theorem drawApp_any (a0 : Option Addr) (len cap : Nat) (w : World) (hl : len ≤ 140737488355328) (hB : Bts a0 len w.heap.size w) :
    Calls Try.prog 16 #[.slice a0 len cap] w (MatVec w) := by
  go_enter Try.func16, Try.ntmps16
  go_wp2_with fail
  refine (from_at (w.heap.size + 1 + 1) a0 len cap _ (by simp) hl (hB.grow (Below.alloc (Below.alloc (Below.refl _ _) (by first | omega | (simp <;> omega)) _) (by first | omega | (simp <;> omega)) _) (by omega))).mono ?_
  rintro e w1 ⟨rfl, S1, H1⟩
  have B1 : Below w.heap.size w w1 := bstep (Below.alloc (Below.alloc (Below.refl _ _) (by first | omega | (simp <;> omega)) _) (by first | omega | (simp <;> omega)) _) H1
  have R1 : KR (w.heap.size) 0 0 0 0 w1 := KR.call (KR.alloc (KR.at (w.heap.size) (by simp)) _) H1
  have Q1 : KF (w.heap.size + 1) 0 0 w1 := KF.call (KF.at (w.heap.size + 1) (by simp)) H1
  clear H1
  go_wp2_with fail
  refine (drawMat_any (w.heap.size + 1 + 1) a0 len cap _ (S1)).mono ?_
  rintro e w2 ⟨a, b, c, d, rfl, S2, O2⟩
  have R2 := (R1).only O2 (by omega)
  have Q2 := (Q1).only O2 (by omega)
  have B2 := bonly (B1) O2 (by omega)
  clear S1 O2 B1 R1 Q1
  go_wp2_with fail
  refine (draw_any (w.heap.size + 1 + 1) a0 len cap _ (S2)).mono ?_
  rintro e w3 ⟨x, y, rfl, S3, O3⟩
  have R3 := (R2).only O3 (by omega)
  have Q3 := (Q2).only O3 (by omega)
  have B3 := bonly (B2) O3 (by omega)
  clear S2 O3 B2 R2 Q2
  obtain ⟨r0, r1, r2, r3, r4, r5, r6, r7, r8⟩ := id R3
  obtain ⟨q0, q1, q2, q3, q4⟩ := id Q3
  go_wp2
  have n0 : w.heap.size + 1 ≠ w.heap.size := by omega
  have n1 : w.heap.size ≠ w.heap.size + 1 := by omega
  have RF : KR (w.heap.size) a b c d ((((((w3.setCell ⟨w.heap.size, 0, none⟩ (.int .i64 a)).setCell ⟨w.heap.size, 1, none⟩ (.int .i64 b)).setCell ⟨w.heap.size, 2, none⟩ (.int .i64 c)).setCell ⟨w.heap.size, 3, none⟩ (.int .i64 d)).setCell ⟨w.heap.size + 1, 0, none⟩ (.int .i64 x)).setCell ⟨w.heap.size + 1, 1, none⟩ (.int .i64 y)) := KR.far (u := .int .i64 y) (q := ⟨w.heap.size + 1, 1, none⟩) n0 (KR.far (u := .int .i64 x) (q := ⟨w.heap.size + 1, 0, none⟩) n0 (KR.store R3 a b c d))
  have QF : KF (w.heap.size + 1) x y ((((((w3.setCell ⟨w.heap.size, 0, none⟩ (.int .i64 a)).setCell ⟨w.heap.size, 1, none⟩ (.int .i64 b)).setCell ⟨w.heap.size, 2, none⟩ (.int .i64 c)).setCell ⟨w.heap.size, 3, none⟩ (.int .i64 d)).setCell ⟨w.heap.size + 1, 0, none⟩ (.int .i64 x)).setCell ⟨w.heap.size + 1, 1, none⟩ (.int .i64 y)) := KF.store (KF.far2 (u := .int .i64 d) (q := ⟨w.heap.size, 3, none⟩) n1 (KF.far2 (u := .int .i64 c) (q := ⟨w.heap.size, 2, none⟩) n1 (KF.far2 (u := .int .i64 b) (q := ⟨w.heap.size, 1, none⟩) n1 (KF.far2 (u := .int .i64 a) (q := ⟨w.heap.size, 0, none⟩) n1 (Q3))))) x y
  have BF : Below w.heap.size w ((((((w3.setCell ⟨w.heap.size, 0, none⟩ (.int .i64 a)).setCell ⟨w.heap.size, 1, none⟩ (.int .i64 b)).setCell ⟨w.heap.size, 2, none⟩ (.int .i64 c)).setCell ⟨w.heap.size, 3, none⟩ (.int .i64 d)).setCell ⟨w.heap.size + 1, 0, none⟩ (.int .i64 x)).setCell ⟨w.heap.size + 1, 1, none⟩ (.int .i64 y)) := Below.setCell (p := ⟨w.heap.size + 1, 1, none⟩) (Below.setCell (p := ⟨w.heap.size + 1, 0, none⟩) (Below.setCell (p := ⟨w.heap.size, 3, none⟩) (Below.setCell (p := ⟨w.heap.size, 2, none⟩) (Below.setCell (p := ⟨w.heap.size, 1, none⟩) (Below.setCell (p := ⟨w.heap.size, 0, none⟩) (B3) (Nat.le_refl _) _) (Nat.le_refl _) _) (Nat.le_refl _) _) (Nat.le_refl _) _) (Nat.le_succ _) _) (Nat.le_succ _) _
  clear r0 r1 r2 r3 r4 r5 r6 r7 r8 q0 q1 q2 q3 q4
  generalize ((((((w3.setCell ⟨w.heap.size, 0, none⟩ (.int .i64 a)).setCell ⟨w.heap.size, 1, none⟩ (.int .i64 b)).setCell ⟨w.heap.size, 2, none⟩ (.int .i64 c)).setCell ⟨w.heap.size, 3, none⟩ (.int .i64 d)).setCell ⟨w.heap.size + 1, 0, none⟩ (.int .i64 x)).setCell ⟨w.heap.size + 1, 1, none⟩ (.int .i64 y)) = wf at RF QF BF ⊢
  obtain ⟨r0, r1, r2, r3, r4, r5, r6, r7, r8⟩ := id RF
  obtain ⟨q0, q1, q2, q3, q4⟩ := id QF
  exact bodyPost_ret (v := .tuple #[.agg #[.int .i64 a, .int .i64 b, .int .i64 c, .int .i64 d], .agg #[.int .i64 x, .int .i64 y]]) (by simp [results, Try.results16, go_sem, r1, r2, r3, r4, q1, q2]) rfl ⟨a, b, c, d, x, y, rfl, BF⟩

end Go.Proofs.Ytcphadkgmchnfaa
