/-
  The functions of the model that draw arguments for chapter 3: each returns some lattices, vectors or numbers and turns nothing that was there. Condition: the code's bytes can be read, at most 2^47 of them.
-/
import Derived.Test.YtlalibefmnenjaaDrawL1
import Derived.Test.YtlalibefmnenjaaDraws1
import Derived.Deep.RegionHeld3
import Derived.IntWalk
namespace Go.Proofs.Ytlalibefmnenjaa
open Go.RowKit
set_option linter.unusedSimpArgs false
set_option linter.unusedVariables false

theorem KF.far3 {R : Nat} {a b : Int} {W : World} {q : Addr} {u : Value} (hq : q.block ≠ R) (h : KF R a b W) : KF R a b (W.setCell q u) :=
  h.only ((Only.refl q.block W).setCell rfl u) (Ne.symm hq)
theorem KF.stor {R : Nat} {a b : Int} {W : World} (h : KF R a b W) (a' b' : Int) : KF R a' b' ((W.setCell ⟨R, 0, none⟩ (.int .i64 a')).setCell ⟨R, 1, none⟩ (.int .i64 b')) := by
  obtain ⟨h0, h1, h2, h3, h4⟩ := h
  refine ⟨by simpa [World.setCell] using h0, ?_, ?_, ?_, ?_⟩ <;> simp [go_sem, *]

def OneLat (w : World) (e : Ending) (w' : World) : Prop := ∃ a b c : Int, e = .returned (.agg #[.int .i64 a, .int .i64 b, .int .i64 c]) ∧ Below w.heap.size w w'
def TwoLats (w : World) (e : Ending) (w' : World) : Prop := ∃ a b c a' b' c' : Int, e = .returned (.tuple #[.agg #[.int .i64 a, .int .i64 b, .int .i64 c], .agg #[.int .i64 a', .int .i64 b', .int .i64 c']]) ∧ Below w.heap.size w w'
def LatVec (w : World) (e : Ending) (w' : World) : Prop := ∃ a b c x y : Int, e = .returned (.tuple #[.agg #[.int .i64 a, .int .i64 b, .int .i64 c], .agg #[.int .i64 x, .int .i64 y]]) ∧ Below w.heap.size w w'
def VecVec (w : World) (e : Ending) (w' : World) : Prop := ∃ x y x' y' : Int, e = .returned (.tuple #[.agg #[.int .i64 x, .int .i64 y], .agg #[.int .i64 x', .int .i64 y']]) ∧ Below w.heap.size w w'
def OneNum (w : World) (e : Ending) (w' : World) : Prop := ∃ n : Int, e = .returned (.int .i64 n) ∧ Below w.heap.size w w'

set_option maxHeartbeats 6000000 in
theorem drawRed_any (a0 : Option Addr) (len cap : Nat) (w : World) (hl : len ≤ 140737488355328) (hB : Bts a0 len w.heap.size w) :
    Calls Try.prog 14 #[.slice a0 len cap] w (LatVec w) := by
  go_enter Try.func14, Try.ntmps14
  go_wp2_with fail
  refine (from_at (w.heap.size + 1 + 1) a0 len cap _ (by simp) hl (hB.grow (Below.alloc (Below.alloc (Below.refl _ _) (by first | omega | (simp <;> omega)) _) (by first | omega | (simp <;> omega)) _) (by omega))).mono ?_
  rintro e w1 ⟨rfl, S1, H1⟩
  have B1 : Below w.heap.size w w1 := bstep (Below.alloc (Below.alloc (Below.refl _ _) (by first | omega | (simp <;> omega)) _) (by first | omega | (simp <;> omega)) _) H1
  have R1 : KL (w.heap.size) 0 0 0 w1 := KL.call (KL.alloc (KL.at (w.heap.size) (by simp)) _) H1
  have Q1 : KF (w.heap.size + 1) 0 0 w1 := KF.call (KF.at (w.heap.size + 1) (by simp)) H1
  clear H1
  go_wp2_with fail
  refine (drawLat_any (w.heap.size + 1 + 1) a0 len cap _ (S1)).mono ?_
  rintro e w2 ⟨a, b, c, rfl, S2, O2⟩
  have R2 := (R1).only O2 (by omega)
  have Q2 := (Q1).only O2 (by omega)
  have B2 := bonly (B1) O2 (by omega)
  clear S1 O2 B1 R1 Q1
  go_wp2_with fail
  refine (draw_any (w.heap.size + 1 + 1) a0 len cap _ (S2)).mono ?_
  rintro e w3 ⟨x, y, rfl, S3, O3⟩
  have R3 := (R2).only O3 (by omega)
  have Q3 := (Q2).only O3 (by omega)
  have B3 := bonly (B2) O3 (by omega)
  clear S2 O3 B2 R2 Q2
  obtain ⟨r0, r1, r2, r3, r4, r5, r6⟩ := id R3
  obtain ⟨q0, q1, q2, q3, q4⟩ := id Q3
  go_wp2
  have n0 : w.heap.size + 1 ≠ w.heap.size := by omega
  have n1 : w.heap.size ≠ w.heap.size + 1 := by omega
  have RF : KL (w.heap.size) a b c (((((w3.setCell ⟨w.heap.size, 0, none⟩ (.int .i64 a)).setCell ⟨w.heap.size, 1, none⟩ (.int .i64 b)).setCell ⟨w.heap.size, 2, none⟩ (.int .i64 c)).setCell ⟨w.heap.size + 1, 0, none⟩ (.int .i64 x)).setCell ⟨w.heap.size + 1, 1, none⟩ (.int .i64 y)) := KL.far (u := .int .i64 y) (q := ⟨w.heap.size + 1, 1, none⟩) n0 (KL.far (u := .int .i64 x) (q := ⟨w.heap.size + 1, 0, none⟩) n0 (KL.store R3 a b c))
  have QF : KF (w.heap.size + 1) x y (((((w3.setCell ⟨w.heap.size, 0, none⟩ (.int .i64 a)).setCell ⟨w.heap.size, 1, none⟩ (.int .i64 b)).setCell ⟨w.heap.size, 2, none⟩ (.int .i64 c)).setCell ⟨w.heap.size + 1, 0, none⟩ (.int .i64 x)).setCell ⟨w.heap.size + 1, 1, none⟩ (.int .i64 y)) := KF.stor (KF.far3 (u := .int .i64 c) (q := ⟨w.heap.size, 2, none⟩) n1 (KF.far3 (u := .int .i64 b) (q := ⟨w.heap.size, 1, none⟩) n1 (KF.far3 (u := .int .i64 a) (q := ⟨w.heap.size, 0, none⟩) n1 (Q3)))) x y
  have BF : Below w.heap.size w (((((w3.setCell ⟨w.heap.size, 0, none⟩ (.int .i64 a)).setCell ⟨w.heap.size, 1, none⟩ (.int .i64 b)).setCell ⟨w.heap.size, 2, none⟩ (.int .i64 c)).setCell ⟨w.heap.size + 1, 0, none⟩ (.int .i64 x)).setCell ⟨w.heap.size + 1, 1, none⟩ (.int .i64 y)) := Below.setCell (p := ⟨w.heap.size + 1, 1, none⟩) (Below.setCell (p := ⟨w.heap.size + 1, 0, none⟩) (Below.setCell (p := ⟨w.heap.size, 2, none⟩) (Below.setCell (p := ⟨w.heap.size, 1, none⟩) (Below.setCell (p := ⟨w.heap.size, 0, none⟩) (B3) (Nat.le_refl _) _) (Nat.le_refl _) _) (Nat.le_refl _) _) (Nat.le_succ _) _) (Nat.le_succ _) _
  clear r0 r1 r2 r3 r4 r5 r6 q0 q1 q2 q3 q4
  generalize (((((w3.setCell ⟨w.heap.size, 0, none⟩ (.int .i64 a)).setCell ⟨w.heap.size, 1, none⟩ (.int .i64 b)).setCell ⟨w.heap.size, 2, none⟩ (.int .i64 c)).setCell ⟨w.heap.size + 1, 0, none⟩ (.int .i64 x)).setCell ⟨w.heap.size + 1, 1, none⟩ (.int .i64 y)) = wf at RF QF BF ⊢
  obtain ⟨r0, r1, r2, r3, r4, r5, r6⟩ := id RF
  obtain ⟨q0, q1, q2, q3, q4⟩ := id QF
  exact bodyPost_ret (v := .tuple #[.agg #[.int .i64 a, .int .i64 b, .int .i64 c], .agg #[.int .i64 x, .int .i64 y]]) (by simp [results, Try.results14, go_sem, r1, r2, r3, q1, q2]) rfl ⟨a, b, c, x, y, rfl, BF⟩

set_option maxHeartbeats 6000000 in
theorem drawJoin_any (a0 : Option Addr) (len cap : Nat) (w : World) (hl : len ≤ 140737488355328) (hB : Bts a0 len w.heap.size w) :
    Calls Try.prog 72 #[.slice a0 len cap] w (TwoLats w) := by
  go_enter Try.func72, Try.ntmps72
  go_wp2_with fail
  refine (from_at (w.heap.size + 1 + 1) a0 len cap _ (by simp) hl (hB.grow (Below.alloc (Below.alloc (Below.refl _ _) (by first | omega | (simp <;> omega)) _) (by first | omega | (simp <;> omega)) _) (by omega))).mono ?_
  rintro e w1 ⟨rfl, S1, H1⟩
  have B1 : Below w.heap.size w w1 := bstep (Below.alloc (Below.alloc (Below.refl _ _) (by first | omega | (simp <;> omega)) _) (by first | omega | (simp <;> omega)) _) H1
  have R1 : KL (w.heap.size) 0 0 0 w1 := KL.call (KL.alloc (KL.at (w.heap.size) (by simp)) _) H1
  have Q1 : KL (w.heap.size + 1) 0 0 0 w1 := KL.call (KL.at (w.heap.size + 1) (by simp)) H1
  clear H1
  go_wp2_with fail
  refine (drawLat_any (w.heap.size + 1 + 1) a0 len cap _ (S1)).mono ?_
  rintro e w2 ⟨a, b, c, rfl, S2, O2⟩
  have R2 := (R1).only O2 (by omega)
  have Q2 := (Q1).only O2 (by omega)
  have B2 := bonly (B1) O2 (by omega)
  clear S1 O2 B1 R1 Q1
  go_wp2_with fail
  refine (drawLat_any (w.heap.size + 1 + 1) a0 len cap _ (S2)).mono ?_
  rintro e w3 ⟨a', b', c', rfl, S3, O3⟩
  have R3 := (R2).only O3 (by omega)
  have Q3 := (Q2).only O3 (by omega)
  have B3 := bonly (B2) O3 (by omega)
  clear S2 O3 B2 R2 Q2
  obtain ⟨r0, r1, r2, r3, r4, r5, r6⟩ := id R3
  obtain ⟨q0, q1, q2, q3, q4, q5, q6⟩ := id Q3
  go_wp2
  have n0 : w.heap.size + 1 ≠ w.heap.size := by omega
  have n1 : w.heap.size ≠ w.heap.size + 1 := by omega
  have RF : KL (w.heap.size) a b c ((((((w3.setCell ⟨w.heap.size, 0, none⟩ (.int .i64 a)).setCell ⟨w.heap.size, 1, none⟩ (.int .i64 b)).setCell ⟨w.heap.size, 2, none⟩ (.int .i64 c)).setCell ⟨w.heap.size + 1, 0, none⟩ (.int .i64 a')).setCell ⟨w.heap.size + 1, 1, none⟩ (.int .i64 b')).setCell ⟨w.heap.size + 1, 2, none⟩ (.int .i64 c')) := KL.far (u := .int .i64 c') (q := ⟨w.heap.size + 1, 2, none⟩) n0 (KL.far (u := .int .i64 b') (q := ⟨w.heap.size + 1, 1, none⟩) n0 (KL.far (u := .int .i64 a') (q := ⟨w.heap.size + 1, 0, none⟩) n0 (KL.store R3 a b c)))
  have QF : KL (w.heap.size + 1) a' b' c' ((((((w3.setCell ⟨w.heap.size, 0, none⟩ (.int .i64 a)).setCell ⟨w.heap.size, 1, none⟩ (.int .i64 b)).setCell ⟨w.heap.size, 2, none⟩ (.int .i64 c)).setCell ⟨w.heap.size + 1, 0, none⟩ (.int .i64 a')).setCell ⟨w.heap.size + 1, 1, none⟩ (.int .i64 b')).setCell ⟨w.heap.size + 1, 2, none⟩ (.int .i64 c')) := KL.store (KL.far (u := .int .i64 c) (q := ⟨w.heap.size, 2, none⟩) n1 (KL.far (u := .int .i64 b) (q := ⟨w.heap.size, 1, none⟩) n1 (KL.far (u := .int .i64 a) (q := ⟨w.heap.size, 0, none⟩) n1 (Q3)))) a' b' c'
  have BF : Below w.heap.size w ((((((w3.setCell ⟨w.heap.size, 0, none⟩ (.int .i64 a)).setCell ⟨w.heap.size, 1, none⟩ (.int .i64 b)).setCell ⟨w.heap.size, 2, none⟩ (.int .i64 c)).setCell ⟨w.heap.size + 1, 0, none⟩ (.int .i64 a')).setCell ⟨w.heap.size + 1, 1, none⟩ (.int .i64 b')).setCell ⟨w.heap.size + 1, 2, none⟩ (.int .i64 c')) := Below.setCell (p := ⟨w.heap.size + 1, 2, none⟩) (Below.setCell (p := ⟨w.heap.size + 1, 1, none⟩) (Below.setCell (p := ⟨w.heap.size + 1, 0, none⟩) (Below.setCell (p := ⟨w.heap.size, 2, none⟩) (Below.setCell (p := ⟨w.heap.size, 1, none⟩) (Below.setCell (p := ⟨w.heap.size, 0, none⟩) (B3) (Nat.le_refl _) _) (Nat.le_refl _) _) (Nat.le_refl _) _) (Nat.le_succ _) _) (Nat.le_succ _) _) (Nat.le_succ _) _
  clear r0 r1 r2 r3 r4 r5 r6 q0 q1 q2 q3 q4 q5 q6
  generalize ((((((w3.setCell ⟨w.heap.size, 0, none⟩ (.int .i64 a)).setCell ⟨w.heap.size, 1, none⟩ (.int .i64 b)).setCell ⟨w.heap.size, 2, none⟩ (.int .i64 c)).setCell ⟨w.heap.size + 1, 0, none⟩ (.int .i64 a')).setCell ⟨w.heap.size + 1, 1, none⟩ (.int .i64 b')).setCell ⟨w.heap.size + 1, 2, none⟩ (.int .i64 c')) = wf at RF QF BF ⊢
  obtain ⟨r0, r1, r2, r3, r4, r5, r6⟩ := id RF
  obtain ⟨q0, q1, q2, q3, q4, q5, q6⟩ := id QF
  exact bodyPost_ret (v := .tuple #[.agg #[.int .i64 a, .int .i64 b, .int .i64 c], .agg #[.int .i64 a', .int .i64 b', .int .i64 c']]) (by simp [results, Try.results72, go_sem, r1, r2, r3, q1, q2, q3]) rfl ⟨a, b, c, a', b', c', rfl, BF⟩

set_option maxHeartbeats 6000000 in
theorem drawMeet_any (a0 : Option Addr) (len cap : Nat) (w : World) (hl : len ≤ 140737488355328) (hB : Bts a0 len w.heap.size w) :
    Calls Try.prog 28 #[.slice a0 len cap] w (TwoLats w) := by
  go_enter Try.func28, Try.ntmps28
  go_wp2_with fail
  refine (drawJoin_any a0 len cap _ hl (hB.grow (Below.alloc (Below.alloc (Below.refl _ _) (by first | omega | (simp <;> omega)) _) (by first | omega | (simp <;> omega)) _) (by simp; omega))).mono ?_
  rintro e w3 ⟨a, b, c, a', b', c', rfl, H3⟩
  have B3 : Below w.heap.size w w3 := bstep (Below.alloc (Below.alloc (Below.refl _ _) (by first | omega | (simp <;> omega)) _) (by first | omega | (simp <;> omega)) _) H3
  have R3 : KL (w.heap.size) 0 0 0 w3 := KL.call (KL.alloc (KL.at (w.heap.size) (by simp)) _) H3
  have Q3 : KL (w.heap.size + 1) 0 0 0 w3 := KL.call (KL.at (w.heap.size + 1) (by simp)) H3
  clear H3
  obtain ⟨r0, r1, r2, r3, r4, r5, r6⟩ := id R3
  obtain ⟨q0, q1, q2, q3, q4, q5, q6⟩ := id Q3
  go_wp2
  have n0 : w.heap.size + 1 ≠ w.heap.size := by omega
  have n1 : w.heap.size ≠ w.heap.size + 1 := by omega
  have RF : KL (w.heap.size) a b c ((((((w3.setCell ⟨w.heap.size, 0, none⟩ (.int .i64 a)).setCell ⟨w.heap.size, 1, none⟩ (.int .i64 b)).setCell ⟨w.heap.size, 2, none⟩ (.int .i64 c)).setCell ⟨w.heap.size + 1, 0, none⟩ (.int .i64 a')).setCell ⟨w.heap.size + 1, 1, none⟩ (.int .i64 b')).setCell ⟨w.heap.size + 1, 2, none⟩ (.int .i64 c')) := KL.far (u := .int .i64 c') (q := ⟨w.heap.size + 1, 2, none⟩) n0 (KL.far (u := .int .i64 b') (q := ⟨w.heap.size + 1, 1, none⟩) n0 (KL.far (u := .int .i64 a') (q := ⟨w.heap.size + 1, 0, none⟩) n0 (KL.store R3 a b c)))
  have QF : KL (w.heap.size + 1) a' b' c' ((((((w3.setCell ⟨w.heap.size, 0, none⟩ (.int .i64 a)).setCell ⟨w.heap.size, 1, none⟩ (.int .i64 b)).setCell ⟨w.heap.size, 2, none⟩ (.int .i64 c)).setCell ⟨w.heap.size + 1, 0, none⟩ (.int .i64 a')).setCell ⟨w.heap.size + 1, 1, none⟩ (.int .i64 b')).setCell ⟨w.heap.size + 1, 2, none⟩ (.int .i64 c')) := KL.store (KL.far (u := .int .i64 c) (q := ⟨w.heap.size, 2, none⟩) n1 (KL.far (u := .int .i64 b) (q := ⟨w.heap.size, 1, none⟩) n1 (KL.far (u := .int .i64 a) (q := ⟨w.heap.size, 0, none⟩) n1 (Q3)))) a' b' c'
  have BF : Below w.heap.size w ((((((w3.setCell ⟨w.heap.size, 0, none⟩ (.int .i64 a)).setCell ⟨w.heap.size, 1, none⟩ (.int .i64 b)).setCell ⟨w.heap.size, 2, none⟩ (.int .i64 c)).setCell ⟨w.heap.size + 1, 0, none⟩ (.int .i64 a')).setCell ⟨w.heap.size + 1, 1, none⟩ (.int .i64 b')).setCell ⟨w.heap.size + 1, 2, none⟩ (.int .i64 c')) := Below.setCell (p := ⟨w.heap.size + 1, 2, none⟩) (Below.setCell (p := ⟨w.heap.size + 1, 1, none⟩) (Below.setCell (p := ⟨w.heap.size + 1, 0, none⟩) (Below.setCell (p := ⟨w.heap.size, 2, none⟩) (Below.setCell (p := ⟨w.heap.size, 1, none⟩) (Below.setCell (p := ⟨w.heap.size, 0, none⟩) (B3) (Nat.le_refl _) _) (Nat.le_refl _) _) (Nat.le_refl _) _) (Nat.le_succ _) _) (Nat.le_succ _) _) (Nat.le_succ _) _
  clear r0 r1 r2 r3 r4 r5 r6 q0 q1 q2 q3 q4 q5 q6
  generalize ((((((w3.setCell ⟨w.heap.size, 0, none⟩ (.int .i64 a)).setCell ⟨w.heap.size, 1, none⟩ (.int .i64 b)).setCell ⟨w.heap.size, 2, none⟩ (.int .i64 c)).setCell ⟨w.heap.size + 1, 0, none⟩ (.int .i64 a')).setCell ⟨w.heap.size + 1, 1, none⟩ (.int .i64 b')).setCell ⟨w.heap.size + 1, 2, none⟩ (.int .i64 c')) = wf at RF QF BF ⊢
  obtain ⟨r0, r1, r2, r3, r4, r5, r6⟩ := id RF
  obtain ⟨q0, q1, q2, q3, q4, q5, q6⟩ := id QF
  exact bodyPost_ret (v := .tuple #[.agg #[.int .i64 a, .int .i64 b, .int .i64 c], .agg #[.int .i64 a', .int .i64 b', .int .i64 c']]) (by simp [results, Try.results28, go_sem, r1, r2, r3, q1, q2, q3]) rfl ⟨a, b, c, a', b', c', rfl, BF⟩

set_option maxHeartbeats 6000000 in
theorem drawSub_any (a0 : Option Addr) (len cap : Nat) (w : World) (hl : len ≤ 140737488355328) (hB : Bts a0 len w.heap.size w) :
    Calls Try.prog 33 #[.slice a0 len cap] w (OneNum w) := by
  go_enter Try.func33, Try.ntmps33
  go_wp2_with fail
  refine (from_at (w.heap.size) a0 len cap _ (by simp) hl (hB.grow (Below.refl _ _) (by omega))).mono ?_
  rintro e w1 ⟨rfl, S1, H1⟩
  have B1 : Below w.heap.size w w1 := bstep (Below.refl _ _) H1
  clear H1
  go_wp2_with fail
  refine (next_any _ (w.heap.size) a0 len cap _ (S1)).mono ?_
  rintro e w2 ⟨x, rfl, x0, x1, S2, O2⟩
  have B2 := bonly (B1) O2 (by omega)
  clear S1 O2 B1 
  clear x0 x1
  rcases hx : x == 0 with _ | _
  · go_wp2_with fail
    refine (next_any _ (w.heap.size) a0 len cap _ (S2)).mono ?_
    rintro e w3 ⟨n, rfl, n0, n1, S3, O3⟩
    have B3 := bonly (B2) O3 (by omega)
    clear S2 O3 B2 
    have n2 : n < 20 := n1 (by omega)
    clear n1
    go_wp2
    go_ret
    exact ⟨_, rfl, B3⟩
  · go_wp2_with fail
    refine (pick_any (w.heap.size) _ 4 a0 len cap _ (S2.alloc _) (by omega) (by omega) (by simp) (by have := S2.lt; omega) (cells4 _ _ _ _ _ _)).mono ?_
    rintro e w3 ⟨n, rfl, S3, O3⟩
    have B3 := bonly (Below.alloc (B2) (by have := B2.size; first | omega | (simp <;> omega)) _) O3 (by omega)
    clear S2 O3 B2 
    go_wp2
    go_ret
    exact ⟨_, rfl, B3⟩

set_option maxHeartbeats 6000000 in
theorem drawLatOf_any (a0 : Option Addr) (len cap : Nat) (w : World) (hl : len ≤ 140737488355328) (hB : Bts a0 len w.heap.size w) :
    Calls Try.prog 20 #[.slice a0 len cap] w (VecVec w) := by
  go_enter Try.func20, Try.ntmps20
  go_wp2_with fail
  refine (from_at (w.heap.size + 1 + 1) a0 len cap _ (by simp) hl (hB.grow (Below.alloc (Below.alloc (Below.refl _ _) (by first | omega | (simp <;> omega)) _) (by first | omega | (simp <;> omega)) _) (by omega))).mono ?_
  rintro e w1 ⟨rfl, S1, H1⟩
  have B1 : Below w.heap.size w w1 := bstep (Below.alloc (Below.alloc (Below.refl _ _) (by first | omega | (simp <;> omega)) _) (by first | omega | (simp <;> omega)) _) H1
  have R1 : KF (w.heap.size) 0 0 w1 := KF.call (KF.alloc (KF.at (w.heap.size) (by simp)) _) H1
  have Q1 : KF (w.heap.size + 1) 0 0 w1 := KF.call (KF.at (w.heap.size + 1) (by simp)) H1
  clear H1
  go_wp2_with fail
  refine (next_any _ (w.heap.size + 1 + 1) a0 len cap _ (S1)).mono ?_
  rintro e w2 ⟨k, rfl, k0, k1, S2, O2⟩
  have R2 := (R1).only O2 (by omega)
  have Q2 := (Q1).only O2 (by omega)
  have B2 := bonly (B1) O2 (by omega)
  clear S1 O2 B1 R1 Q1
  clear k0 k1
  rcases hk : k == 0 with _ | _
  · go_wp2_with fail
    refine (next_any 11 (w.heap.size + 1 + 1) a0 len cap _ (S2)).mono ?_
    rintro e w3 ⟨x, rfl, x0, x1, S3, O3⟩
    have R3 := (R2).only O3 (by omega)
    have Q3 := (Q2).only O3 (by omega)
    have B3 := bonly (B2) O3 (by omega)
    clear S2 O3 B2 R2 Q2
    have x2 : x < 11 := x1 (by omega)
    clear x1
    go_wp2_with fail
    refine (next_any 11 (w.heap.size + 1 + 1) a0 len cap _ (S3)).mono ?_
    rintro e w4 ⟨y, rfl, y0, y1, S4, O4⟩
    have R4 := (R3).only O4 (by omega)
    have Q4 := (Q3).only O4 (by omega)
    have B4 := bonly (B3) O4 (by omega)
    clear S3 O4 B3 R3 Q3
    have y2 : y < 11 := y1 (by omega)
    clear y1
    go_wp2_with fail
    refine (next_any 11 (w.heap.size + 1 + 1) a0 len cap _ (S4)).mono ?_
    rintro e w5 ⟨z, rfl, z0, z1, S5, O5⟩
    have R5 := (R4).only O5 (by omega)
    have Q5 := (Q4).only O5 (by omega)
    have B5 := bonly (B4) O5 (by omega)
    clear S4 O5 B4 R4 Q4
    have z2 : z < 11 := z1 (by omega)
    clear z1
    go_wp2_with fail
    refine (next_any 11 (w.heap.size + 1 + 1) a0 len cap _ (S5)).mono ?_
    rintro e w6 ⟨u, rfl, u0, u1, S6, O6⟩
    have R6 := (R5).only O6 (by omega)
    have Q6 := (Q5).only O6 (by omega)
    have B6 := bonly (B5) O6 (by omega)
    clear S5 O6 B5 R5 Q5
    have u2 : u < 11 := u1 (by omega)
    clear u1
    obtain ⟨r0, r1, r2, r3, r4⟩ := id R6
    obtain ⟨q0, q1, q2, q3, q4⟩ := id Q6
    go_wp2
    have n0 : w.heap.size + 1 ≠ w.heap.size := by omega
    have n1 : w.heap.size ≠ w.heap.size + 1 := by omega
    have RF : KF (w.heap.size) (x - 5) (y - 5) ((((w6.setCell ⟨w.heap.size, 0, none⟩ (.int .i64 (x - 5))).setCell ⟨w.heap.size, 1, none⟩ (.int .i64 (y - 5))).setCell ⟨w.heap.size + 1, 0, none⟩ (.int .i64 (z - 5))).setCell ⟨w.heap.size + 1, 1, none⟩ (.int .i64 (u - 5))) := KF.far3 (u := .int .i64 (u - 5)) (q := ⟨w.heap.size + 1, 1, none⟩) n0 (KF.far3 (u := .int .i64 (z - 5)) (q := ⟨w.heap.size + 1, 0, none⟩) n0 (KF.stor R6 (x - 5) (y - 5)))
    have QF : KF (w.heap.size + 1) (z - 5) (u - 5) ((((w6.setCell ⟨w.heap.size, 0, none⟩ (.int .i64 (x - 5))).setCell ⟨w.heap.size, 1, none⟩ (.int .i64 (y - 5))).setCell ⟨w.heap.size + 1, 0, none⟩ (.int .i64 (z - 5))).setCell ⟨w.heap.size + 1, 1, none⟩ (.int .i64 (u - 5))) := KF.stor (KF.far3 (u := .int .i64 (y - 5)) (q := ⟨w.heap.size, 1, none⟩) n1 (KF.far3 (u := .int .i64 (x - 5)) (q := ⟨w.heap.size, 0, none⟩) n1 (Q6))) (z - 5) (u - 5)
    have BF : Below w.heap.size w ((((w6.setCell ⟨w.heap.size, 0, none⟩ (.int .i64 (x - 5))).setCell ⟨w.heap.size, 1, none⟩ (.int .i64 (y - 5))).setCell ⟨w.heap.size + 1, 0, none⟩ (.int .i64 (z - 5))).setCell ⟨w.heap.size + 1, 1, none⟩ (.int .i64 (u - 5))) := Below.setCell (p := ⟨w.heap.size + 1, 1, none⟩) (Below.setCell (p := ⟨w.heap.size + 1, 0, none⟩) (Below.setCell (p := ⟨w.heap.size, 1, none⟩) (Below.setCell (p := ⟨w.heap.size, 0, none⟩) (B6) (Nat.le_refl _) _) (Nat.le_refl _) _) (Nat.le_succ _) _) (Nat.le_succ _) _
    clear r0 r1 r2 r3 r4 q0 q1 q2 q3 q4
    generalize ((((w6.setCell ⟨w.heap.size, 0, none⟩ (.int .i64 (x - 5))).setCell ⟨w.heap.size, 1, none⟩ (.int .i64 (y - 5))).setCell ⟨w.heap.size + 1, 0, none⟩ (.int .i64 (z - 5))).setCell ⟨w.heap.size + 1, 1, none⟩ (.int .i64 (u - 5))) = wf at RF QF BF ⊢
    obtain ⟨r0, r1, r2, r3, r4⟩ := id RF
    obtain ⟨q0, q1, q2, q3, q4⟩ := id QF
    exact bodyPost_ret (v := .tuple #[.agg #[.int .i64 (x - 5), .int .i64 (y - 5)], .agg #[.int .i64 (z - 5), .int .i64 (u - 5)]]) (by simp [results, Try.results20, go_sem, r1, r2, q1, q2]) rfl ⟨x - 5, y - 5, z - 5, u - 5, rfl, BF⟩
  · go_wp2_with fail
    refine (draw_any (w.heap.size + 1 + 1) a0 len cap _ (S2)).mono ?_
    rintro e w3 ⟨x, y, rfl, S3, O3⟩
    have R3 := (R2).only O3 (by omega)
    have Q3 := (Q2).only O3 (by omega)
    have B3 := bonly (B2) O3 (by omega)
    clear S2 O3 B2 R2 Q2
    go_wp2_with fail
    refine (draw_any (w.heap.size + 1 + 1) a0 len cap _ (S3)).mono ?_
    rintro e w4 ⟨x', y', rfl, S4, O4⟩
    have R4 := (R3).only O4 (by omega)
    have Q4 := (Q3).only O4 (by omega)
    have B4 := bonly (B3) O4 (by omega)
    clear S3 O4 B3 R3 Q3
    obtain ⟨r0, r1, r2, r3, r4⟩ := id R4
    obtain ⟨q0, q1, q2, q3, q4⟩ := id Q4
    go_wp2
    have n0 : w.heap.size + 1 ≠ w.heap.size := by omega
    have n1 : w.heap.size ≠ w.heap.size + 1 := by omega
    have RF : KF (w.heap.size) x y ((((w4.setCell ⟨w.heap.size, 0, none⟩ (.int .i64 x)).setCell ⟨w.heap.size, 1, none⟩ (.int .i64 y)).setCell ⟨w.heap.size + 1, 0, none⟩ (.int .i64 x')).setCell ⟨w.heap.size + 1, 1, none⟩ (.int .i64 y')) := KF.far3 (u := .int .i64 y') (q := ⟨w.heap.size + 1, 1, none⟩) n0 (KF.far3 (u := .int .i64 x') (q := ⟨w.heap.size + 1, 0, none⟩) n0 (KF.stor R4 x y))
    have QF : KF (w.heap.size + 1) x' y' ((((w4.setCell ⟨w.heap.size, 0, none⟩ (.int .i64 x)).setCell ⟨w.heap.size, 1, none⟩ (.int .i64 y)).setCell ⟨w.heap.size + 1, 0, none⟩ (.int .i64 x')).setCell ⟨w.heap.size + 1, 1, none⟩ (.int .i64 y')) := KF.stor (KF.far3 (u := .int .i64 y) (q := ⟨w.heap.size, 1, none⟩) n1 (KF.far3 (u := .int .i64 x) (q := ⟨w.heap.size, 0, none⟩) n1 (Q4))) x' y'
    have BF : Below w.heap.size w ((((w4.setCell ⟨w.heap.size, 0, none⟩ (.int .i64 x)).setCell ⟨w.heap.size, 1, none⟩ (.int .i64 y)).setCell ⟨w.heap.size + 1, 0, none⟩ (.int .i64 x')).setCell ⟨w.heap.size + 1, 1, none⟩ (.int .i64 y')) := Below.setCell (p := ⟨w.heap.size + 1, 1, none⟩) (Below.setCell (p := ⟨w.heap.size + 1, 0, none⟩) (Below.setCell (p := ⟨w.heap.size, 1, none⟩) (Below.setCell (p := ⟨w.heap.size, 0, none⟩) (B4) (Nat.le_refl _) _) (Nat.le_refl _) _) (Nat.le_succ _) _) (Nat.le_succ _) _
    clear r0 r1 r2 r3 r4 q0 q1 q2 q3 q4
    generalize ((((w4.setCell ⟨w.heap.size, 0, none⟩ (.int .i64 x)).setCell ⟨w.heap.size, 1, none⟩ (.int .i64 y)).setCell ⟨w.heap.size + 1, 0, none⟩ (.int .i64 x')).setCell ⟨w.heap.size + 1, 1, none⟩ (.int .i64 y')) = wf at RF QF BF ⊢
    obtain ⟨r0, r1, r2, r3, r4⟩ := id RF
    obtain ⟨q0, q1, q2, q3, q4⟩ := id QF
    exact bodyPost_ret (v := .tuple #[.agg #[.int .i64 x, .int .i64 y], .agg #[.int .i64 x', .int .i64 y']]) (by simp [results, Try.results20, go_sem, r1, r2, q1, q2]) rfl ⟨x, y, x', y', rfl, BF⟩

set_option maxHeartbeats 6000000 in
theorem drawIn_any (a0 : Option Addr) (len cap : Nat) (w : World) (hl : len ≤ 140737488355328) (hB : Bts a0 len w.heap.size w) :
    Calls Try.prog 17 #[.slice a0 len cap] w (LatVec w) := by
  go_enter Try.func17, Try.ntmps17
  go_wp2_with fail
  refine (from_at (w.heap.size + 1 + 1) a0 len cap _ (by simp) hl (hB.grow (Below.alloc (Below.alloc (Below.refl _ _) (by first | omega | (simp <;> omega)) _) (by first | omega | (simp <;> omega)) _) (by omega))).mono ?_
  rintro e w1 ⟨rfl, S1, H1⟩
  have B1 : Below w.heap.size w w1 := bstep (Below.alloc (Below.alloc (Below.refl _ _) (by first | omega | (simp <;> omega)) _) (by first | omega | (simp <;> omega)) _) H1
  have R1 : KL (w.heap.size) 0 0 0 w1 := KL.call (KL.alloc (KL.at (w.heap.size) (by simp)) _) H1
  have Q1 : KF (w.heap.size + 1) 0 0 w1 := KF.call (KF.at (w.heap.size + 1) (by simp)) H1
  clear H1
  go_wp2_with fail
  refine (drawLat_any (w.heap.size + 1 + 1) a0 len cap _ (S1)).mono ?_
  rintro e w2 ⟨a, b, c, rfl, S2, O2⟩
  have R2 := (R1).only O2 (by omega)
  have Q2 := (Q1).only O2 (by omega)
  have B2 := bonly (B1) O2 (by omega)
  clear S1 O2 B1 R1 Q1
  have GB : w2.heap.size < w2.heap.size + 1 := Nat.lt_succ_self _
  have hgr : w.heap.size + 1 < w2.heap.size := Q2.lt
  have hgs : w.heap.size + 1 + 1 < w2.heap.size := S2.lt
  go_wp2_with fail
  refine (next_any _ (w.heap.size + 1 + 1) a0 len cap _ (S2.alloc _)).mono ?_
  rintro e w3 ⟨k, rfl, k0, k1, S3, O3⟩
  have G3 : KL w2.heap.size a b c w3 := KL.only (KL.at _ rfl) O3 (by omega)
  have R3 := (R2.alloc _).only O3 (by omega)
  have Q3 := (Q2.alloc _).only O3 (by omega)
  have B3 := bonly (Below.alloc B2 B2.size _) O3 (by omega)
  clear S2 O3 B2 R2 Q2 k0 k1
  rcases hk : k == 0 with _ | _
  · go_wp2_with fail
    refine (next_any _ (w.heap.size + 1 + 1) a0 len cap _ S3).mono ?_
    rintro e w4 ⟨m, rfl, m0, m1, S4, O4⟩
    have m2 : m < 9 := m1 (by omega)
    have G4 := G3.only O4 (by omega)
    have R4 := R3.only O4 (by omega)
    have Q4 := Q3.only O4 (by omega)
    have B4 := bonly B3 O4 (by omega)
    clear S3 O4 B3 R3 Q3 G3 m1
    go_wp2_with fail
    refine (next_any _ (w.heap.size + 1 + 1) a0 len cap _ S4).mono ?_
    rintro e w5 ⟨n, rfl, n0, n1, S5, O5⟩
    have n2 : n < 9 := n1 (by omega)
    have G5 := G4.only O5 (by omega)
    have R5 := R4.only O5 (by omega)
    have Q5 := Q4.only O5 (by omega)
    have B5 := bonly B4 O5 (by omega)
    clear S4 O5 B4 R4 Q4 G4 n1
    obtain ⟨g0, g1, g2, g3, g4, g5, g6⟩ := id G5
    obtain ⟨r0, r1, r2, r3, r4, r5, r6⟩ := id R5
    obtain ⟨q0, q1, q2, q3, q4⟩ := id Q5
    have n0' : ¬ w.heap.size = w2.heap.size := by omega
    have n1' : ¬ w.heap.size + 1 = w2.heap.size := by omega
    go_wp2_with fail
    go_region
    clear g0 g1 g2 g3 g4 g5 g6 n0' n1' 
    go_wp2
    have n0 : w.heap.size + 1 ≠ w.heap.size := by omega
    have n1 : w.heap.size ≠ w.heap.size + 1 := by omega
    have RF : KL (w.heap.size) a b c (((((((w5.setCell ⟨w.heap.size, 0, none⟩ (.int .i64 a)).setCell ⟨w.heap.size, 1, none⟩ (.int .i64 b)).setCell ⟨w.heap.size, 2, none⟩ (.int .i64 c)).setCell ⟨w.heap.size + 1, 0, none⟩ (.int .i64 (wrap64 (wrap64 ((m - 4) * a) + wrap64 ((n - 4) * b))))).setCell ⟨w.heap.size + 1, 1, none⟩ (.int .i64 (wrap64 ((n - 4) * c))))).drew) := (KL.far (u := .int .i64 (wrap64 ((n - 4) * c))) (q := ⟨w.heap.size + 1, 1, none⟩) n0 (KL.far (u := .int .i64 (wrap64 (wrap64 ((m - 4) * a) + wrap64 ((n - 4) * b)))) (q := ⟨w.heap.size + 1, 0, none⟩) n0 (KL.store R5 a b c))).drew
    have QF : KF (w.heap.size + 1) (wrap64 (wrap64 ((m - 4) * a) + wrap64 ((n - 4) * b))) (wrap64 ((n - 4) * c)) (((((((w5.setCell ⟨w.heap.size, 0, none⟩ (.int .i64 a)).setCell ⟨w.heap.size, 1, none⟩ (.int .i64 b)).setCell ⟨w.heap.size, 2, none⟩ (.int .i64 c)).setCell ⟨w.heap.size + 1, 0, none⟩ (.int .i64 (wrap64 (wrap64 ((m - 4) * a) + wrap64 ((n - 4) * b))))).setCell ⟨w.heap.size + 1, 1, none⟩ (.int .i64 (wrap64 ((n - 4) * c))))).drew) := (KF.stor (KF.far3 (u := .int .i64 c) (q := ⟨w.heap.size, 2, none⟩) n1 (KF.far3 (u := .int .i64 b) (q := ⟨w.heap.size, 1, none⟩) n1 (KF.far3 (u := .int .i64 a) (q := ⟨w.heap.size, 0, none⟩) n1 (Q5)))) (wrap64 (wrap64 ((m - 4) * a) + wrap64 ((n - 4) * b))) (wrap64 ((n - 4) * c))).drew
    have BF : Below w.heap.size w (((((((w5.setCell ⟨w.heap.size, 0, none⟩ (.int .i64 a)).setCell ⟨w.heap.size, 1, none⟩ (.int .i64 b)).setCell ⟨w.heap.size, 2, none⟩ (.int .i64 c)).setCell ⟨w.heap.size + 1, 0, none⟩ (.int .i64 (wrap64 (wrap64 ((m - 4) * a) + wrap64 ((n - 4) * b))))).setCell ⟨w.heap.size + 1, 1, none⟩ (.int .i64 (wrap64 ((n - 4) * c))))).drew) := (Below.setCell (p := ⟨w.heap.size + 1, 1, none⟩) (Below.setCell (p := ⟨w.heap.size + 1, 0, none⟩) (Below.setCell (p := ⟨w.heap.size, 2, none⟩) (Below.setCell (p := ⟨w.heap.size, 1, none⟩) (Below.setCell (p := ⟨w.heap.size, 0, none⟩) (B5) (Nat.le_refl _) _) (Nat.le_refl _) _) (Nat.le_refl _) _) (Nat.le_succ _) _) (Nat.le_succ _) _).drew
    clear r0 r1 r2 r3 r4 r5 r6 q0 q1 q2 q3 q4
    generalize ((((((w5.setCell ⟨w.heap.size, 0, none⟩ (.int .i64 a)).setCell ⟨w.heap.size, 1, none⟩ (.int .i64 b)).setCell ⟨w.heap.size, 2, none⟩ (.int .i64 c)).setCell ⟨w.heap.size + 1, 0, none⟩ (.int .i64 (wrap64 (wrap64 ((m - 4) * a) + wrap64 ((n - 4) * b))))).setCell ⟨w.heap.size + 1, 1, none⟩ (.int .i64 (wrap64 ((n - 4) * c))))).drew = wf at RF QF BF ⊢
    obtain ⟨r0, r1, r2, r3, r4, r5, r6⟩ := id RF
    obtain ⟨q0, q1, q2, q3, q4⟩ := id QF
    exact bodyPost_ret (v := .tuple #[.agg #[.int .i64 a, .int .i64 b, .int .i64 c], .agg #[.int .i64 ((wrap64 (wrap64 ((m - 4) * a) + wrap64 ((n - 4) * b)))), .int .i64 ((wrap64 ((n - 4) * c)))]]) (by simp [results, Try.results17, go_sem, r1, r2, r3, q1, q2]) rfl ⟨a, b, c, _, _, rfl, BF⟩

  · obtain ⟨g0, g1, g2, g3, g4, g5, g6⟩ := id G3
    have hw3 : w.heap.size ≤ w3.heap.size := B3.size
    go_wp2_with fail
    go_region_held3 (fun W => W.cell? ⟨w2.heap.size, 0, none⟩ = some (.int .i64 a) ∧ W.cell? ⟨w2.heap.size, 1, none⟩ = some (.int .i64 b) ∧ W.cell? ⟨w2.heap.size, 2, none⟩ = some (.int .i64 c)) ((refine Kt.cells (KL.kt ?_); repeat (first | assumption | with_reducible refine KL.drew ?_ | ((with_reducible refine KL.far ?_ ?_); (dsimp only; omega)))))
      (first | (go_at_call 51; refine (draw_any (w.heap.size + 1 + 1) a0 len cap _ ?_).mono ?_; (repeat (first | assumption | with_reducible refine Src.drew ?_)); rintro e w4 ⟨x, y, rfl, S4, O4⟩; have G4 : KL w2.heap.size a b c w4 := (KL.only (by repeat (first | assumption | with_reducible refine KL.drew ?_)) O4 (by omega)); have R4 : KL w.heap.size 0 0 0 w4 := (KL.only (by repeat (first | assumption | with_reducible refine KL.drew ?_)) O4 (by omega)); have Q4 : KF (w.heap.size + 1) 0 0 w4 := (KF.only (by repeat (first | assumption | with_reducible refine KF.drew ?_)) O4 (by omega)); have B4 : Below w.heap.size w w4 := (bonly (by repeat (first | assumption | with_reducible refine Below.drew ?_)) O4 (by omega)); obtain ⟨r0, r1, r2, r3, r4, r5, r6⟩ := id R4; obtain ⟨q0, q1, q2, q3, q4⟩ := id Q4))
    all_goals
      go_wp2
      have n0 : w.heap.size + 1 ≠ w.heap.size := by omega
      have n1 : w.heap.size ≠ w.heap.size + 1 := by omega
      have RF : KL (w.heap.size) a b c (((((w4.setCell ⟨w.heap.size, 0, none⟩ (.int .i64 a)).setCell ⟨w.heap.size, 1, none⟩ (.int .i64 b)).setCell ⟨w.heap.size, 2, none⟩ (.int .i64 c)).setCell ⟨w.heap.size + 1, 0, none⟩ (.int .i64 x)).setCell ⟨w.heap.size + 1, 1, none⟩ (.int .i64 y)) := KL.far (u := .int .i64 y) (q := ⟨w.heap.size + 1, 1, none⟩) n0 (KL.far (u := .int .i64 x) (q := ⟨w.heap.size + 1, 0, none⟩) n0 (KL.store R4 a b c))
      have QF : KF (w.heap.size + 1) x y (((((w4.setCell ⟨w.heap.size, 0, none⟩ (.int .i64 a)).setCell ⟨w.heap.size, 1, none⟩ (.int .i64 b)).setCell ⟨w.heap.size, 2, none⟩ (.int .i64 c)).setCell ⟨w.heap.size + 1, 0, none⟩ (.int .i64 x)).setCell ⟨w.heap.size + 1, 1, none⟩ (.int .i64 y)) := KF.stor (KF.far3 (u := .int .i64 c) (q := ⟨w.heap.size, 2, none⟩) n1 (KF.far3 (u := .int .i64 b) (q := ⟨w.heap.size, 1, none⟩) n1 (KF.far3 (u := .int .i64 a) (q := ⟨w.heap.size, 0, none⟩) n1 (Q4)))) x y
      have BF : Below w.heap.size w (((((w4.setCell ⟨w.heap.size, 0, none⟩ (.int .i64 a)).setCell ⟨w.heap.size, 1, none⟩ (.int .i64 b)).setCell ⟨w.heap.size, 2, none⟩ (.int .i64 c)).setCell ⟨w.heap.size + 1, 0, none⟩ (.int .i64 x)).setCell ⟨w.heap.size + 1, 1, none⟩ (.int .i64 y)) := Below.setCell (p := ⟨w.heap.size + 1, 1, none⟩) (Below.setCell (p := ⟨w.heap.size + 1, 0, none⟩) (Below.setCell (p := ⟨w.heap.size, 2, none⟩) (Below.setCell (p := ⟨w.heap.size, 1, none⟩) (Below.setCell (p := ⟨w.heap.size, 0, none⟩) (B4) (Nat.le_refl _) _) (Nat.le_refl _) _) (Nat.le_refl _) _) (Nat.le_succ _) _) (Nat.le_succ _) _
      clear r0 r1 r2 r3 r4 r5 r6 q0 q1 q2 q3 q4
      generalize (((((w4.setCell ⟨w.heap.size, 0, none⟩ (.int .i64 a)).setCell ⟨w.heap.size, 1, none⟩ (.int .i64 b)).setCell ⟨w.heap.size, 2, none⟩ (.int .i64 c)).setCell ⟨w.heap.size + 1, 0, none⟩ (.int .i64 x)).setCell ⟨w.heap.size + 1, 1, none⟩ (.int .i64 y)) = wf at RF QF BF ⊢
      obtain ⟨r0, r1, r2, r3, r4, r5, r6⟩ := id RF
      obtain ⟨q0, q1, q2, q3, q4⟩ := id QF
      exact bodyPost_ret (v := .tuple #[.agg #[.int .i64 a, .int .i64 b, .int .i64 c], .agg #[.int .i64 x, .int .i64 y]]) (by simp [results, Try.results17, go_sem, r1, r2, r3, q1, q2]) rfl ⟨a, b, c, x, y, rfl, BF⟩


end Go.Proofs.Ytlalibefmnenjaa
