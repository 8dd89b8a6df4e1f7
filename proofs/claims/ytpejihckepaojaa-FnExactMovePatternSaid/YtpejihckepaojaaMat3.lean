/-
  Contracts of chapter 2's MultiplyMats, InverseMat and ApplyMat: the program's function and the model's have one and the same answer. No condition.
-/
import Derived.Test.YtpejihckepaojaaMat2
import Derived.IntWalk
namespace Go.Proofs.Ytpejihckepaojaa
open Go.RowKit
set_option linter.unusedSimpArgs false
set_option linter.unusedVariables false

set_option maxHeartbeats 1000000 in
theorem inverse_any (a b c d : Int) (w : World) (h : matB a b c d = true) :
    Calls Try.prog 98 #[.agg #[.int .i64 a, .int .i64 b, .int .i64 c, .int .i64 d]] w fun e w' => e = .returned (.agg #[.int .i64 (d * (a * d - b * c)), .int .i64 (-b * (a * d - b * c)), .int .i64 (-c * (a * d - b * c)), .int .i64 (a * (a * d - b * c))]) ∧ Below w.heap.size w w' := by
  have hl := matB_lim h
  have hl' : limB d (-b) (-c) a = true := by
    obtain ⟨⟨ha, hb⟩, hc, hd⟩ := limB_bd hl
    simp [limB, vecB]; omega
  have ht : inB (a * d - b * c) (-1000) 1000 = true := by
    have := matB_det h
    simp [inB]; omega
  have n1 : IntKind.i64.wrap (-b) = -b := IntWalk.i64_in _ (by have := limB_bd hl; omega)
  have n2 : IntKind.i64.wrap (-c) = -c := IntWalk.i64_in _ (by have := limB_bd hl; omega)
  have M0 : Kq w.heap.size a b c d ((w.alloc (.cells #[.int .i64 a, .int .i64 b, .int .i64 c, .int .i64 d] 76)).alloc (.cells #[.int .i64 0, .int .i64 0, .int .i64 0, .int .i64 0] 76)) := (Kq.at _ rfl).alloc _
  go_enter Try.func98, Try.ntmps98
  go_wp2_with fail
  go_region_held3 (fun W => W.cell? ⟨w.heap.size, 0, none⟩ = some (.int .i64 a) ∧ W.cell? ⟨w.heap.size, 1, none⟩ = some (.int .i64 b) ∧ W.cell? ⟨w.heap.size, 2, none⟩ = some (.int .i64 c) ∧ W.cell? ⟨w.heap.size, 3, none⟩ = some (.int .i64 d)) ((refine Kq.cells ?_; repeat (first | assumption | with_reducible refine Kq.alloc ?_ _ | with_reducible refine Kq.drew ?_ | ((with_reducible refine Kq.put ?_ ?_); (first | exact M0.1 | exact Nat.lt_succ_of_lt M0.1 | exact M1.1 | exact Nat.lt_succ_of_lt M1.1 | exact M2.1 | exact Nat.lt_succ_of_lt M2.1 | exact Nat.lt_succ_self _ | omega | (dsimp only; omega))) | with_reducible refine Kq.call ?_ (by assumption))))
    (first
      | (go_at_call 100; ((with_reducible refine (det_any _ _ _ _ _ hl).mono ?_); rintro e u1 ⟨rfl, hb1⟩; obtain ⟨hc1, hf1⟩ := bcell hb1; have M1 : Kq (w.heap.size) a b c d u1 := (by repeat (first | assumption | with_reducible refine Kq.alloc ?_ _ | with_reducible refine Kq.drew ?_ | with_reducible refine Kq.call ?_ (by assumption))); (try ((refine useIt (P := w.heap.size + 1 < u1.heap.size) ?_ ?_); (first | exact lt_alloc hb1 | (have := hb1.size; omega) | (have hthis := hb1.size; simp at hthis; first | done | omega)); intro hq1a))))
      | (go_at_call 101; ((with_reducible refine (timesM_any _ _ _ _ _ _ hl' ht).mono ?_); rintro e u2 ⟨rfl, hb2⟩; obtain ⟨hc2, hf2⟩ := bcell hb2; have M2 : Kq (w.heap.size) a b c d u2 := (by repeat (first | assumption | with_reducible refine Kq.alloc ?_ _ | with_reducible refine Kq.drew ?_ | with_reducible refine Kq.call ?_ (by assumption))); (try ((refine useIt (P := w.heap.size + 1 < u2.heap.size) ?_ ?_); (first | exact lt_alloc hb2 | (have := hb2.size; omega) | (have hthis := hb2.size; simp at hthis; first | done | omega)); intro hq2a)))))
  all_goals
    go_wp2
    refine bodyPost_ret (v := .agg #[.int .i64 (d * (a * d - b * c)), .int .i64 (-b * (a * d - b * c)), .int .i64 (-c * (a * d - b * c)), .int .i64 (a * (a * d - b * c))]) (by simp [results, Try.results98, go_sem, *]) rfl ⟨rfl, ?_⟩
    repeat (first | exact Below.refl _ _ | refine Below.setCell ?_ (by first | omega | (simp <;> omega)) _ | refine Below.alloc ?_ (by first | omega | (simp <;> omega)) _ | refine bstep ?_ (by assumption) | refine Below.drew ?_)

def mulR (a b c d a' b' c' d' : Int) : Int × Int × Int × Int × Int :=
  bif matB a b c d && matB a' b' c' d' then (bif limB (a * a' + b * c') (a * b' + b * d') (c * a' + d * c') (c * b' + d * d') then (a * a' + b * c', a * b' + b * d', c * a' + d * c', c * b' + d * d', 0) else (0, 0, 0, 0, 3)) else (0, 0, 0, 0, 1)
def matV (r : Int × Int × Int × Int × Int) : Value := .tuple #[.agg #[.int .i64 (r.1), .int .i64 (r.2.1), .int .i64 (r.2.2.1), .int .i64 (r.2.2.2.1)], .int .i64 r.2.2.2.2]
def vecV (r : Int × Int × Int) : Value := .tuple #[.agg #[.int .i64 (r.1), .int .i64 (r.2.1)], .int .i64 r.2.2]
def invR (a b c d : Int) : Int × Int × Int × Int × Int :=
  bif matB a b c d then (d * (a * d - b * c), -b * (a * d - b * c), -c * (a * d - b * c), a * (a * d - b * c), 0) else (0, 0, 0, 0, 1)
def appR (a b c d x y : Int) : Int × Int × Int :=
  bif matB a b c d && vecB x y then (bif vecB (a * x + b * y) (c * x + d * y) then (a * x + b * y, c * x + d * y, 0) else (0, 0, 3)) else (0, 0, 1)
theorem inv_lim {a b c d : Int} (h : matB a b c d = true) : limB (d * (a * d - b * c)) (-b * (a * d - b * c)) (-c * (a * d - b * c)) (a * (a * d - b * c)) = true := by
  obtain ⟨⟨ha, hb⟩, hc, hd⟩ := limB_bd (matB_lim h)
  rcases matB_det h with e | e <;> rw [e] <;> simp [limB, vecB] <;> omega

end Go.Proofs.Ytpejihckepaojaa
