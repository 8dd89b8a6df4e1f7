/-
  SublatticesOf: one contract for the program's function and one for the model's, and the walk of its exact law: it returns true and writes nothing that was there. No condition.
-/
import Derived.Test.YtlalibefmnenjaaSub1
import Derived.Test.YtlalibefmnenjaaSl3
namespace Go.Proofs.Ytlalibefmnenjaa
open Go.RowKit
set_option linter.unusedSimpArgs false
set_option linter.unusedVariables false

def subL (n : Int) : List (Int × Int × Int) := if subN n then subP n.toNat n.toNat else []
def subC (n : Int) : Int := if subN n then 0 else 2
theorem cellsL3_int (xs : List (Int × Int × Int)) : ∀ u ∈ cellsL3 xs, ∃ z, u = .int .i64 z := by
  intro u hu
  simp only [cellsL3, List.mem_flatMap, List.mem_cons, List.not_mem_nil, or_false] at hu
  obtain ⟨t, _, h | h | h⟩ := hu <;> exact ⟨_, h⟩
theorem subL_small (n : Int) : (subL n).length ≤ 1000000 := by
  unfold subL
  split
  · rename_i h
    have hn : 1 ≤ n ∧ n ≤ 64 := by simp [subN, inB] at h; omega
    have := subP_len n.toNat n.toNat (by omega)
    omega
  · simp
def SubAny (n : Int) (w : World) (e : Ending) (w' : World) : Prop :=
  ∃ v, e = .returned (.tuple #[v, .int .i64 (subC n)]) ∧ SRow w.heap.size w'.heap.size 3 v (subL n).length (intAt (cellsL3 (subL n))) w' ∧ Below w.heap.size w w'
theorem implSub_any (n : Int) (w : World) : Calls Try.prog 34 #[.int .i64 n] w (SubAny n w) := by
  rcases h : subN n with _ | _
  · refine (implSub_bad n w h).mono ?_
    rintro e w1 ⟨rfl, hb⟩
    refine ⟨_, by rw [subC, h]; rfl, ?_, hb⟩
    rw [subL, h]
    exact ⟨Nat.le_refl _, by simp, .inl ⟨rfl, none, 0, rfl⟩⟩
  · have hn : 1 ≤ n ∧ n ≤ 64 := by simp [subN, inB] at h; omega
    obtain ⟨m, rfl⟩ : ∃ m : Nat, n = (m : Int) := ⟨n.toNat, by omega⟩
    refine (implSub_good m w h).mono ?_
    rintro e w1 ⟨v, rfl, hown, hb⟩
    have hl : subL (m : Int) = subP m m := by rw [subL, h]; simp
    refine ⟨v, by rw [subC, h]; rfl, ?_, hb⟩
    have hs := subL_small (m : Int)
    rw [hl] at hs ⊢
    exact SRow.of hown (cellsL3_int _) hs
theorem specSub_any (n : Int) (w : World) : Calls Try.prog 35 #[.int .i64 n] w (SubAny n w) := by
  rcases h : subN n with _ | _
  · refine (specSub_bad n w h).mono ?_
    rintro e w1 ⟨rfl, hb⟩
    refine ⟨_, by rw [subC, h]; rfl, ?_, hb⟩
    rw [subL, h]
    exact ⟨Nat.le_refl _, by simp, .inl ⟨rfl, none, 0, rfl⟩⟩
  · have hn : 1 ≤ n ∧ n ≤ 64 := by simp [subN, inB] at h; omega
    obtain ⟨m, rfl⟩ : ∃ m : Nat, n = (m : Int) := ⟨n.toNat, by omega⟩
    refine (specSub_good m w h).mono ?_
    rintro e w1 ⟨v, rfl, hown, hb⟩
    have hl : subL (m : Int) = subP m m := by rw [subL, h]; simp
    refine ⟨v, by rw [subC, h]; rfl, ?_, hb⟩
    have hs := subL_small (m : Int)
    rw [hl] at hs ⊢
    exact SRow.of hown (cellsL3_int _) hs
set_option maxHeartbeats 4000000 in
theorem walkSub (n : Int) (w : World) : Calls Try.prog 12 #[.int .i64 n] w fun e w' => e = .returned (.bool true) ∧ Below w.heap.size w w' := by
  have hn : (subL n).length ≤ 1000000 := subL_small n
  have q1 : ¬ ((((subL n).length : Nat) : Int) * 3 + 1 < 0) := by omega
  have hq : ((((subL n).length : Nat) : Int) * 3 + 1 != (((subL n).length : Nat) : Int) * 3 + 1) = false := by simp
  clear hn
  go_enter Try.func12, Try.ntmps12
  go_wp2_with fail
  refine (specSub_any n _).mono ?_
  rintro e w1 ⟨v1, rfl, s1, b1⟩
  go_wp2_with fail
  refine (implSub_any n _).mono ?_
  rintro e w2 ⟨v2, rfl, s2, b2⟩
  have t1 := s1.call b2
  go_wp2_with fail
  refine (eqLatticeS_any s2 t1).mono ?_
  rintro e w3 ⟨rfl, b3⟩
  have t2 := t1.call b3
  have s3 := s2.call b3
  have B3 := bstep (bstep b1 b2) b3
  have z3 : w1.heap.size ≤ w3.heap.size := Nat.le_trans b2.size b3.size
  clear s1 t1 s2 b2 b3
  go_wp2_with fail
  refine (markLatticeS_any s3).mono ?_
  rintro e w4 ⟨rfl, s4, b4⟩
  have t3 := t2.grow b4 (Nat.le_refl _)
  have B4 := B3.trans (b4.mono b1.size)
  clear s3 t2 b4 B3 b1
  go_wp2_with fail
  refine (heldLatticeS_any s4).mono ?_
  rintro e w5 ⟨rfl, b5⟩
  have s5 := s4.call b5
  have t4 := t3.call b5
  have B5 := bstep B4 b5
  clear s4 t3 B4 b5
  go_wp2_with fail
  refine (implSub_any n _).mono ?_
  rintro e w6 ⟨v6, rfl, u6, b6⟩
  have s6 := s5.call b6
  have t6 := t4.call b6
  have B6 := bstep B5 b6
  clear s5 t4 B5 b6
  go_wp2_with fail
  refine (eqLatticeS_any u6 t6).mono ?_
  rintro e w7 ⟨rfl, b7⟩
  have s7 := s6.call b7
  have B7 := bstep B6 b7
  clear s6 t6 u6 B6 b7
  go_wp2_with fail
  refine (heldLatticeS_any s7).mono ?_
  rintro e w8 ⟨rfl, b8⟩
  have B8 := bstep B7 b8
  clear s7 B7 b8
  go_wp2
  go_ret
  exact ⟨rfl, B8⟩

end Go.Proofs.Ytlalibefmnenjaa
