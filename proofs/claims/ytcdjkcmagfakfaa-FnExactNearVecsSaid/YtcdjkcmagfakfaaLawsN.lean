/-
  The walk of the exact law of NearVecs: each law returns true and writes nothing that was there. No condition.
-/
import Derived.Test.YtcdjkcmagfakfaaFrNear
import Derived.Test.YtcdjkcmagfakfaaSl2
namespace Go.Proofs.Ytcdjkcmagfakfaa
open Go.RowKit
set_option linter.unusedSimpArgs false
set_option linter.unusedVariables false

theorem nrL_small (f n : Int) : (nrL f n).length ≤ 1000000 := by
  unfold nrL
  rcases frB f && nrB n with _ | _
  · simp
  · have := nearP_len f n 12 (2 * 12 + 1) (2 * 12 + 1)
    exact Nat.le_trans this (by omega)
set_option maxHeartbeats 4000000 in
theorem walkNear (f n : Int) (w : World) : Calls Try.prog 10 #[.int .i64 f, .int .i64 n] w fun e w' => e = .returned (.bool true) ∧ Below w.heap.size w w' := by
  have hn : (nrL f n).length ≤ 1000000 := nrL_small f n
  have q1 : ¬ ((((nrL f n).length : Nat) : Int) * 2 + 1 < 0) := by omega
  have hq : ((((nrL f n).length : Nat) : Int) * 2 + 1 != (((nrL f n).length : Nat) : Int) * 2 + 1) = false := by simp
  clear hn
  go_enter Try.func10, Try.ntmps10
  have C1 : Below w.heap.size w w := Below.refl _ _
  go_wp2_with fail
  refine (specNear_any f n _).mono ?_
  rintro e w1 ⟨v1, rfl, s1, b1⟩
  have B1 := bstep C1 b1
  clear C1 b1
  have t0 := s1
  have B2 := B1
  have z2 := Nat.le_refl w1.heap.size
  clear s1 B1
  go_wp2_with fail
  refine (implNear_any f n _).mono ?_
  rintro e w2 ⟨v2, rfl, s2, b2⟩
  have t1 := t0.call b2
  have B3 := bstep B2 b2
  have zb := B2.size
  clear t0 B2 b2
  go_wp2_with fail
  refine (eqVecS_any s2 t1).mono ?_
  rintro e w3 ⟨rfl, b3⟩
  have t2 := t1.call b3
  have s3 := s2.call b3
  have B4 := bstep B3 b3
  clear t1 s2 B3 b3
  go_wp2_with fail
  refine (markVecS_any s3).mono ?_
  rintro e w4 ⟨rfl, s4, b4⟩
  have t3 := t2.grow b4 z2
  have B5 := B4.trans (b4.mono zb)
  clear s3 t2 B4 b4 z2 zb
  go_wp2_with fail
  refine (heldVecS_any s4).mono ?_
  rintro e w5 ⟨rfl, b5⟩
  have s5 := s4.call b5
  have t4 := t3.call b5
  have B6 := bstep B5 b5
  clear s4 t3 B5 b5
  have s6 := s5
  have t5 := t4
  have B7 := B6
  clear s5 t4 B6
  go_wp2_with fail
  refine (implNear_any f n _).mono ?_
  rintro e w6 ⟨v6, rfl, u6, b6⟩
  have s7 := s6.call b6
  have t6 := t5.call b6
  have B8 := bstep B7 b6
  clear s6 t5 B7 b6
  go_wp2_with fail
  refine (eqVecS_any u6 t6).mono ?_
  rintro e w7 ⟨rfl, b7⟩
  have s8 := s7.call b7
  have B9 := bstep B8 b7
  clear s7 t6 u6 B8 b7
  go_wp2_with fail
  refine (heldVecS_any s8).mono ?_
  rintro e w8 ⟨rfl, b8⟩
  have Bx := bstep B9 b8
  clear s8 B9 b8
  go_wp2
  all_goals
    first
    | (go_ret; exact ⟨rfl, Bx⟩)
    | (exfalso; simp_all)
end Go.Proofs.Ytcdjkcmagfakfaa
