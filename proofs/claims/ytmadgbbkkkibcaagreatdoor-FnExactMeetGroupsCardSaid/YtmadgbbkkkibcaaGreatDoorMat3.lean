/-
  Contracts of chapter 2's MultiplyMats, InverseMat and ApplyMat: the program's function and the model's have one and the same answer. No condition.
-/
import Derived.Test.YtmadgbbkkkibcaaGreatDoorMat2
import Derived.IntWalk
namespace Go.Proofs.YtmadgbbkkkibcaaGreatDoor
open Go.RowKit
set_option linter.unusedSimpArgs false
set_option linter.unusedVariables false

set_option maxHeartbeats 1000000 in
theorem l02Inverse_any (a b c d : Int) (w : World) (h : matB a b c d = true) :
    Calls Tryz.prog 205 #[.agg #[.int .i64 a, .int .i64 b, .int .i64 c, .int .i64 d]] w fun e w' => e = .returned (.agg #[.int .i64 (d * (a * d - b * c)), .int .i64 (-b * (a * d - b * c)), .int .i64 (-c * (a * d - b * c)), .int .i64 (a * (a * d - b * c))]) ∧ Below w.heap.size w w' := by
  have hl := matB_lim h
  have hD := matB_det h
  obtain ⟨⟨ha, hb⟩, hc, hd⟩ := limB_bd hl
  have ht : -1 ≤ a * d - b * c ∧ a * d - b * c ≤ 1 := by omega
  generalize htd : a * d - b * c = t at ht hD
  obtain ⟨b1, b2⟩ := mulBd ht.1 ht.2 hd.1 hd.2
  obtain ⟨b3, b4⟩ := mulBd (a := -t) (A := 1) (by omega) (by omega) hb.1 hb.2
  obtain ⟨b5, b6⟩ := mulBd (a := -t) (A := 1) (by omega) (by omega) hc.1 hc.2
  obtain ⟨b7, b8⟩ := mulBd ht.1 ht.2 ha.1 ha.2
  have HT := Lib.hid htd
  clear h hD
  go_enter Tryz.func205, Tryz.ntmps205
  go_wp2_with fail
  refine (l02Det_any _ _ _ _ _ hl).mono ?_
  rintro e w1 ⟨rfl, hb1⟩
  obtain ⟨hc1, hf1⟩ := bcell hb1
  obtain ⟨hz1a, hz1b⟩ : w.heap.size < w1.heap.size ∧ w.heap.size + 1 < w1.heap.size := by have := hb1.size; (try simp at this); omega
  rw [htd]
  clear htd
  go_wp2
  refine bodyPost_ret (v := .agg #[.int .i64 (t * d), .int .i64 (-t * b), .int .i64 (-t * c), .int .i64 (t * a)]) (by simp [results, Tryz.results205, go_sem, hc1, hz1a, hz1b]) rfl ⟨?_, ?_⟩
  · rw [Int.mul_comm t d, Int.mul_comm t a, Int.neg_mul, Int.mul_comm t b, ← Int.neg_mul, Int.neg_mul t c, Int.mul_comm t c, ← Int.neg_mul]
  repeat (first | exact Below.refl _ _ | refine Below.setCell ?_ (by first | omega | (simp <;> omega)) _ | refine Below.alloc ?_ (by first | omega | (simp <;> omega)) _ | refine bstep ?_ (by assumption) | refine Below.drew ?_)

def mulR (a b c d a' b' c' d' : Int) : Int × Int × Int × Int × Int :=
  bif matB a b c d && matB a' b' c' d' then (bif limB (a * a' + b * c') (a * b' + b * d') (c * a' + d * c') (c * b' + d * d') then (a * a' + b * c', a * b' + b * d', c * a' + d * c', c * b' + d * d', 0) else (0, 0, 0, 0, 3)) else (0, 0, 0, 0, 1)
def matV (r : Int × Int × Int × Int × Int) : Value := .tuple #[.agg #[.int .i64 (r.1), .int .i64 (r.2.1), .int .i64 (r.2.2.1), .int .i64 (r.2.2.2.1)], .int .i64 r.2.2.2.2]
def vecV (r : Int × Int × Int) : Value := .tuple #[.agg #[.int .i64 (r.1), .int .i64 (r.2.1)], .int .i64 r.2.2]
def invR (a b c d : Int) : Int × Int × Int × Int × Int :=
  bif matB a b c d then (d * (a * d - b * c), -b * (a * d - b * c), -c * (a * d - b * c), a * (a * d - b * c), 0) else (0, 0, 0, 0, 1)
def appR (a b c d x y : Int) : Int × Int × Int :=
  bif matB a b c d && vecB x y then (bif vecB (a * x + b * y) (c * x + d * y) then (a * x + b * y, c * x + d * y, 0) else (0, 0, 3)) else (0, 0, 1)
theorem inv_lim {a b c d : Int} (h : matB a b c d = true) : limB (d * (a * d - b * c)) (-b * (a * d - b * c)) (-c * (a * d - b * c)) (a * (a * d - b * c)) = true := by
  obtain ⟨⟨ha, hb⟩, hc, hd⟩ := limB_bd (matB_lim h)
  rcases matB_det h with e | e <;> rw [e] <;> simp [limB, vecB] <;> omega

end Go.Proofs.YtmadgbbkkkibcaaGreatDoor
