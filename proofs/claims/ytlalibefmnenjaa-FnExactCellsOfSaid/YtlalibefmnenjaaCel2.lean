/-
  CellsOf: one contract for the program's function and one for the model's, and the walk of its exact law: it returns true and writes nothing that was there. No condition.
-/
import Derived.Test.YtlalibefmnenjaaCelS
import Derived.Test.YtlalibefmnenjaaSl2
import Derived.Test.YtlalibefmnenjaaLat3
namespace Go.Proofs.Ytlalibefmnenjaa
open Go.RowKit
set_option linter.unusedSimpArgs false
set_option linter.unusedVariables false

def celL (A B C : Int) : List (Int × Int) := if latB A B C then cellP C.toNat A.toNat else []
def celC (A B C : Int) : Int := if latB A B C then 0 else 1
theorem celL_small (A B C : Int) : (celL A B C).length ≤ 1000000 := by
  unfold celL
  split
  · rename_i h
    have hi := latB_iff.1 h
    obtain ⟨bp, bq⟩ := latI_bd hi
    rw [cellP_len]
    have := Nat.mul_le_mul (show A.toNat ≤ 64 by omega) (show C.toNat ≤ 64 by omega)
    omega
  · simp
def CelAny (A B C : Int) (w : World) (e : Ending) (w' : World) : Prop :=
  ∃ v, e = .returned (.tuple #[v, .int .i64 (celC A B C)]) ∧ SRow w.heap.size w'.heap.size 2 v (celL A B C).length (intAt (cells2 (celL A B C))) w' ∧ Below w.heap.size w w'
set_option maxHeartbeats 4000000 in
theorem implCells_bad (A B C : Int) (w : World) (h : latB A B C = false) :
    Calls Try.prog 42 #[.agg #[.int .i64 A, .int .i64 B, .int .i64 C]] w fun e w' => e = .returned (.tuple #[.slice none 0 0, .int .i64 1]) ∧ Below w.heap.size w w' := by
  have H := Lib.hid h
  clear h
  go_enter Try.func42, Try.ntmps42
  go_wp2_with fail
  refine (isValidL_any _ _ _ _).mono ?_
  rintro e w1 ⟨rfl, hb1⟩
  rw [H.out]
  have B1 : Below w.heap.size w w1 := bstep ((Below.refl _ _).alloc (Nat.le_refl _) _) hb1
  clear hb1
  go_wp2
  go_ret2
  exact ⟨rfl, B1⟩
theorem implCells_any (A B C : Int) (w : World) : Calls Try.prog 42 #[.agg #[.int .i64 A, .int .i64 B, .int .i64 C]] w (CelAny A B C w) := by
  rcases h : latB A B C with _ | _
  · refine (implCells_bad A B C w h).mono ?_
    rintro e w1 ⟨rfl, hb⟩
    refine ⟨_, by rw [celC, h]; rfl, ?_, hb⟩
    rw [celL, h]
    exact ⟨Nat.le_refl _, by simp, .inl ⟨rfl, none, 0, rfl⟩⟩
  · have hi := latB_iff.1 h
    have hi1 := hi.1
    have hi2 := hi.2.1
    obtain ⟨p, rfl⟩ : ∃ m : Nat, A = (m : Int) := ⟨A.toNat, by omega⟩
    obtain ⟨q, rfl⟩ : ∃ m : Nat, C = (m : Int) := ⟨C.toNat, by omega⟩
    refine (implCells_good p q B w h).mono ?_
    rintro e w1 ⟨v, rfl, hown, hb⟩
    have hl : celL (p : Int) B (q : Int) = cellP q p := by rw [celL, h]; simp
    refine ⟨v, by rw [celC, h]; rfl, ?_, hb⟩
    have hs := celL_small (p : Int) B (q : Int)
    rw [hl] at hs ⊢
    exact SRow.of hown (cells2_int _) hs
set_option maxHeartbeats 4000000 in
theorem specCells_bad (A B C : Int) (w : World) (h : latB A B C = false) :
    Calls Try.prog 41 #[.agg #[.int .i64 A, .int .i64 B, .int .i64 C]] w fun e w' => e = .returned (.tuple #[.slice none 0 0, .int .i64 1]) ∧ Below w.heap.size w w' := by
  have H := Lib.hid h
  clear h
  go_enter Try.func41, Try.ntmps41
  go_wp2_with fail
  refine (specIsLattice_any _ _ _ _).mono ?_
  rintro e w1 ⟨rfl, hb1⟩
  rw [H.out]
  have B1 : Below w.heap.size w w1 := bstep ((Below.refl _ _).alloc (Nat.le_refl _) _) hb1
  clear hb1
  go_wp2
  go_ret2
  exact ⟨rfl, B1⟩
theorem specCells_any (A B C : Int) (w : World) : Calls Try.prog 41 #[.agg #[.int .i64 A, .int .i64 B, .int .i64 C]] w (CelAny A B C w) := by
  rcases h : latB A B C with _ | _
  · refine (specCells_bad A B C w h).mono ?_
    rintro e w1 ⟨rfl, hb⟩
    refine ⟨_, by rw [celC, h]; rfl, ?_, hb⟩
    rw [celL, h]
    exact ⟨Nat.le_refl _, by simp, .inl ⟨rfl, none, 0, rfl⟩⟩
  · have hi := latB_iff.1 h
    have hi1 := hi.1
    have hi2 := hi.2.1
    obtain ⟨p, rfl⟩ : ∃ m : Nat, A = (m : Int) := ⟨A.toNat, by omega⟩
    obtain ⟨q, rfl⟩ : ∃ m : Nat, C = (m : Int) := ⟨C.toNat, by omega⟩
    refine (specCells_good p q B w h).mono ?_
    rintro e w1 ⟨v, rfl, hown, hb⟩
    have hl : celL (p : Int) B (q : Int) = cellP q p := by rw [celL, h]; simp
    refine ⟨v, by rw [celC, h]; rfl, ?_, hb⟩
    have hs := celL_small (p : Int) B (q : Int)
    rw [hl] at hs ⊢
    exact SRow.of hown (cells2_int _) hs
set_option maxHeartbeats 4000000 in
theorem walkCells (A B C : Int) (w : World) : Calls Try.prog 9 #[.agg #[.int .i64 A, .int .i64 B, .int .i64 C]] w fun e w' => e = .returned (.bool true) ∧ Below w.heap.size w w' := by
  have hn : (celL A B C).length ≤ 1000000 := celL_small A B C
  have q1 : ¬ ((((celL A B C).length : Nat) : Int) * 2 + 1 < 0) := by omega
  have hq : ((((celL A B C).length : Nat) : Int) * 2 + 1 != (((celL A B C).length : Nat) : Int) * 2 + 1) = false := by simp
  clear hn
  go_enter Try.func9, Try.ntmps9
  go_wp2_with fail
  refine (toLat_any _ _ _ _).mono ?_
  rintro e x1 ⟨rfl, c1⟩
  have Kx1 : Kt w.heap.size A B C x1 := Kt.call (Kt.at _ rfl) c1
  have C1 : Below w.heap.size w x1 := bstep ((Below.refl _ _).alloc (Nat.le_refl _) _) c1
  clear c1
  go_wp2_with fail
  refine (specCells_any A B C _).mono ?_
  rintro e w1 ⟨v1, rfl, s1, b1⟩
  have K1 := Kx1.call b1
  have B1 := bstep C1 b1
  clear Kx1 C1 b1
  obtain ⟨k10, k11, k12, k13⟩ := id K1
  go_wp2_with fail
  refine (toLat_any _ _ _ _).mono ?_
  rintro e x2 ⟨rfl, c2⟩
  have t0 := s1.call c2
  have K2 := K1.call c2
  have B2 := bstep B1 c2
  have z2 := c2.size
  clear s1 K1 B1 c2
  clear k10 k11 k12 k13
  go_wp2_with fail
  refine (implCells_any A B C _).mono ?_
  rintro e w2 ⟨v2, rfl, s2, b2⟩
  have t1 := t0.call b2
  have K3 := K2.call b2
  have B3 := bstep B2 b2
  have zk := Nat.lt_of_lt_of_le K2.1 (Nat.le_refl _)
  have zb := B2.size
  clear t0 K2 B2 b2
  go_wp2_with fail
  refine (eqVecS_any s2 t1).mono ?_
  rintro e w3 ⟨rfl, b3⟩
  have t2 := t1.call b3
  have s3 := s2.call b3
  have K4 := K3.call b3
  have B4 := bstep B3 b3
  clear t1 s2 K3 B3 b3
  go_wp2_with fail
  refine (markVecS_any s3).mono ?_
  rintro e w4 ⟨rfl, s4, b4⟩
  have t3 := t2.grow b4 z2
  have K5 := K4.grow b4 zk
  have B5 := B4.trans (b4.mono zb)
  clear s3 t2 K4 B4 b4 z2 zk zb
  go_wp2_with fail
  refine (heldVecS_any s4).mono ?_
  rintro e w5 ⟨rfl, b5⟩
  have s5 := s4.call b5
  have t4 := t3.call b5
  have K6 := K5.call b5
  have B6 := bstep B5 b5
  clear s4 t3 K5 B5 b5
  obtain ⟨k60, k61, k62, k63⟩ := id K6
  go_wp2_with fail
  refine (toLat_any _ _ _ _).mono ?_
  rintro e x3 ⟨rfl, c3⟩
  have s6 := s5.call c3
  have t5 := t4.call c3
  have B7 := bstep B6 c3
  clear s5 t4 B6 c3 K6
  clear k60 k61 k62 k63
  go_wp2_with fail
  refine (implCells_any A B C _).mono ?_
  rintro e w6 ⟨v6, rfl, u6, b6⟩
  have s7 := s6.call b6
  have t6 := t5.call b6
  have B8 := bstep B7 b6
  clear s6 t5 B7 b6
  go_wp2_with fail
  refine (eqVecS_any u6 t6).mono ?_
  rintro e w7 ⟨rfl, b7⟩
  have s8 := s7.call b7
  have B9 := bstep B8 b7
  clear s7 t6 u6 B8 b7
  go_wp2_with fail
  refine (heldVecS_any s8).mono ?_
  rintro e w8 ⟨rfl, b8⟩
  have Bx := bstep B9 b8
  clear s8 B9 b8
  go_wp2
  go_ret
  exact ⟨rfl, Bx⟩

end Go.Proofs.Ytlalibefmnenjaa
