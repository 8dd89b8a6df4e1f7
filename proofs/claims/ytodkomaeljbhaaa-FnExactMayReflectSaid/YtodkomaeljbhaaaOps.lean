/-
  Contracts of chapter 1's functions on multiples and determinants: the program's function and the model's have one and the same answer.
-/
import Derived.Test.YtodkomaeljbhaaaChap1
namespace Go.Proofs.Ytodkomaeljbhaaa
open Go.RowKit
set_option linter.unusedSimpArgs false

theorem mul_bd {a b : Int} {A B : Int} (ha : -A ≤ a) (ha' : a ≤ A) (hb : -B ≤ b) (hb' : b ≤ B) : -(A * B) ≤ a * b ∧ a * b ≤ A * B := by
  have hA : 0 ≤ A := by omega
  have hB : 0 ≤ B := by omega
  have h1 : a.natAbs ≤ A.natAbs := by omega
  have h2 : b.natAbs ≤ B.natAbs := by omega
  have h3 : (a * b).natAbs ≤ (A * B).natAbs := by
    rw [Int.natAbs_mul, Int.natAbs_mul]; exact Nat.mul_le_mul h1 h2
  have h4 : 0 ≤ A * B := Int.mul_nonneg hA hB
  omega

theorem mul_1000 {a b : Int} (ha : -1000 ≤ a) (ha' : a ≤ 1000) (hb : -1000 ≤ b) (hb' : b ≤ 1000) : -1000000 ≤ a * b ∧ a * b ≤ 1000000 := by
  have := mul_bd ha ha' hb hb'
  omega

set_option maxHeartbeats 400000 in
theorem times_any (x y n : Int) (w : World) (h : vecB x y = true) (h' : inB n (-1000) 1000 = true) :
    Calls Try.prog 37 #[.agg #[.int .i64 x, .int .i64 y], .int .i64 n] w fun e w' => e = .returned (.agg #[.int .i64 (x * n), .int .i64 (y * n)]) ∧ Below w.heap.size w w' := by
  obtain ⟨⟨a1, a2⟩, a3, a4⟩ := vecB_bd h
  obtain ⟨a5, a6⟩ := inB_bd h'
  obtain ⟨b1, b2⟩ := mul_1000 a1 a2 a5 a6
  obtain ⟨b3, b4⟩ := mul_1000 a3 a4 a5 a6
  clear h h'
  go_enter Try.func37, Try.ntmps37
  go_wp2
  refine bodyPost_ret (v := .agg #[.int .i64 (x * n), .int .i64 (y * n)]) (by simp [results, Try.results37, go_sem]) rfl ⟨rfl, ?_⟩
  repeat (first | exact Below.refl _ _ | refine Below.setCell ?_ (by first | omega | (simp <;> omega)) _ | refine Below.alloc ?_ (by first | omega | (simp <;> omega)) _ | refine bstep ?_ (by assumption) | refine Below.drew ?_)

set_option maxHeartbeats 400000 in
theorem l01Scale_any (x y n : Int) (w : World) (h : vecB x y = true) (h' : inB n (-1000) 1000 = true) :
    Calls Try.prog 40 #[.agg #[.int .i64 x, .int .i64 y], .int .i64 n] w fun e w' => e = .returned (.agg #[.int .i64 (x * n), .int .i64 (y * n)]) ∧ Below w.heap.size w w' := by
  obtain ⟨⟨a1, a2⟩, a3, a4⟩ := vecB_bd h
  obtain ⟨a5, a6⟩ := inB_bd h'
  obtain ⟨b1, b2⟩ := mul_1000 a5 a6 a1 a2
  obtain ⟨b3, b4⟩ := mul_1000 a5 a6 a3 a4
  clear h h'
  go_enter Try.func40, Try.ntmps40
  go_wp2
  refine bodyPost_ret (v := .agg #[.int .i64 (n * x), .int .i64 (n * y)]) (by simp [results, Try.results40, go_sem]) rfl ⟨by rw [Int.mul_comm n x, Int.mul_comm n y], ?_⟩
  repeat (first | exact Below.refl _ _ | refine Below.setCell ?_ (by first | omega | (simp <;> omega)) _ | refine Below.alloc ?_ (by first | omega | (simp <;> omega)) _ | refine bstep ?_ (by assumption) | refine Below.drew ?_)

def scaleR (x y n : Int) : Int × Int × Int :=
  bif vecB x y then (bif inB n (-1000) 1000 then (bif vecB (x * n) (y * n) then (x * n, y * n, 0) else (0, 0, 3)) else (0, 0, 2)) else (0, 0, 1)
def scaleV (x y n : Int) : Value := .tuple #[.agg #[.int .i64 ((scaleR x y n).1), .int .i64 ((scaleR x y n).2.1)], .int .i64 (scaleR x y n).2.2]
def detR (x y x' y' : Int) : Int × Int := bif vecB x y && vecB x' y' then (x * y' - y * x', 0) else (0, 1)
def detV (x y x' y' : Int) : Value := .tuple #[.int .i64 (detR x y x' y').1, .int .i64 (detR x y x' y').2]

set_option maxHeartbeats 400000 in
theorem l01Det_any (x y x' y' : Int) (w : World) (h : vecB x y = true) (h' : vecB x' y' = true) :
    Calls Try.prog 30 #[.agg #[.int .i64 x, .int .i64 y], .agg #[.int .i64 x', .int .i64 y']] w fun e w' => e = .returned (.int .i64 (x * y' - y * x')) ∧ Below w.heap.size w w' := by
  obtain ⟨⟨a1, a2⟩, a3, a4⟩ := vecB_bd h
  obtain ⟨⟨a5, a6⟩, a7, a8⟩ := vecB_bd h'
  obtain ⟨b1, b2⟩ := mul_1000 a1 a2 a7 a8
  obtain ⟨b3, b4⟩ := mul_1000 a3 a4 a5 a6
  clear h h'
  go_enter Try.func30, Try.ntmps30
  go_wp2
  go_ret
  refine ⟨rfl, ?_⟩
  repeat (first | exact Below.refl _ _ | refine Below.setCell ?_ (by first | omega | (simp <;> omega)) _ | refine Below.alloc ?_ (by first | omega | (simp <;> omega)) _ | refine bstep ?_ (by assumption) | refine Below.drew ?_)

end Go.Proofs.Ytodkomaeljbhaaa
