/-
  Contracts of the small functions of chapter 2 (program and model): whether a matrix is valid, its determinant, products and images. Conditions: only the bounds that are stated.
-/
import Derived.Test.YtpejihckepaojaaDoorChap1
import Derived.LoopTactic
import Derived.Deep.RegionHeld3
namespace Go.Proofs.YtpejihckepaojaaDoor
open Go.RowKit
set_option linter.unusedSimpArgs false
set_option linter.unusedVariables false

def limB (a b c d : Int) : Bool := vecB a b && vecB c d
def matB (a b c d : Int) : Bool := limB a b c d && (a * d - b * c == 1 || a * d - b * c == -1)
theorem limB_bd {a b c d : Int} (h : limB a b c d = true) : ((-1000 ≤ a ∧ a ≤ 1000) ∧ (-1000 ≤ b ∧ b ≤ 1000)) ∧ ((-1000 ≤ c ∧ c ≤ 1000) ∧ (-1000 ≤ d ∧ d ≤ 1000)) := by
  simp [limB] at h
  exact ⟨vecB_bd h.1, vecB_bd h.2⟩
theorem limB_of {a b c d : Int} (ha : inB a (-1000) 1000 = true) (hb : inB b (-1000) 1000 = true) (hc : inB c (-1000) 1000 = true) (hd : inB d (-1000) 1000 = true) : limB a b c d = true := by
  simp [inB] at ha hb hc hd
  simp [limB, vecB]; omega
theorem limB_not {a b c d : Int} (h : inB a (-1000) 1000 = false ∨ inB b (-1000) 1000 = false ∨ inB c (-1000) 1000 = false ∨ inB d (-1000) 1000 = false) : limB a b c d = false := by
  simp [inB] at h
  simp [limB, vecB]; omega
theorem matB_lim {a b c d : Int} (h : matB a b c d = true) : limB a b c d = true := by simp [matB] at h; exact h.1
theorem matB_det {a b c d : Int} (h : matB a b c d = true) : a * d - b * c = 1 ∨ a * d - b * c = -1 := by simp [matB] at h; exact h.2
theorem mulBd {a b : Int} {A B : Int} (ha : -A ≤ a) (ha' : a ≤ A) (hb : -B ≤ b) (hb' : b ≤ B) : -(A * B) ≤ a * b ∧ a * b ≤ A * B := by
  have hA : 0 ≤ A := by omega
  have hB : 0 ≤ B := by omega
  have h1 : a.natAbs ≤ A.natAbs := by omega
  have h2 : b.natAbs ≤ B.natAbs := by omega
  have h3 : (a * b).natAbs ≤ (A * B).natAbs := by
    rw [Int.natAbs_mul, Int.natAbs_mul]; exact Nat.mul_le_mul h1 h2
  have h4 : 0 ≤ A * B := Int.mul_nonneg hA hB
  omega
theorem mul1000 {a b : Int} (ha : -1000 ≤ a ∧ a ≤ 1000) (hb : -1000 ≤ b ∧ b ≤ 1000) : -1000000 ≤ a * b ∧ a * b ≤ 1000000 := by
  have := mulBd ha.1 ha.2 hb.1 hb.2
  omega

/- which numbers of a matrix have been looked at -/
def LimAt (a b c d k : Int) : Prop :=
  k = 0 ∨ (k = 1 ∧ inB a (-1000) 1000 = true) ∨ (k = 2 ∧ inB a (-1000) 1000 = true ∧ inB b (-1000) 1000 = true) ∨
  (k = 3 ∧ inB a (-1000) 1000 = true ∧ inB b (-1000) 1000 = true ∧ inB c (-1000) 1000 = true) ∨
  (k = 4 ∧ limB a b c d = true)

def eqM (a b c d a' b' c' d' : Int) : Bool := a == a' && b == b' && c == c' && d == d'
theorem eqM_rfl (a b c d : Int) : eqM a b c d a b c d = true := by simp [eqM]

set_option maxHeartbeats 1000000 in
theorem apply_any (a b c d x y : Int) (w : World) (h : limB a b c d = true) (hv : vecB x y = true) :
    Calls Tryd.prog 107 #[.agg #[.int .i64 a, .int .i64 b, .int .i64 c, .int .i64 d], .agg #[.int .i64 x, .int .i64 y]] w fun e w' => e = .returned (.agg #[.int .i64 (a * x + b * y), .int .i64 (c * x + d * y)]) ∧ Below w.heap.size w w' := by
  obtain ⟨⟨ha, hb⟩, hc, hd⟩ := limB_bd h
  obtain ⟨hx, hy⟩ := vecB_bd hv
  obtain ⟨b1, b2⟩ := mul1000 ha hx
  obtain ⟨b3, b4⟩ := mul1000 hb hy
  obtain ⟨b5, b6⟩ := mul1000 hc hx
  obtain ⟨b7, b8⟩ := mul1000 hd hy
  clear h hv ha hb hc hd hx hy
  go_enter Tryd.func107, Tryd.ntmps107
  go_wp2
  refine bodyPost_ret (v := .agg #[.int .i64 (a * x + b * y), .int .i64 (c * x + d * y)]) (by simp [results, Tryd.results107, go_sem]) rfl ⟨rfl, ?_⟩
  repeat (first | exact Below.refl _ _ | refine Below.setCell ?_ (by first | omega | (simp <;> omega)) _ | refine Below.alloc ?_ (by first | omega | (simp <;> omega)) _ | refine bstep ?_ (by assumption) | refine Below.drew ?_)

set_option maxHeartbeats 1000000 in
theorem l02Apply_any (a b c d x y : Int) (w : World) (h : limB a b c d = true) (hv : vecB x y = true) :
    Calls Tryd.prog 106 #[.agg #[.int .i64 a, .int .i64 b, .int .i64 c, .int .i64 d], .agg #[.int .i64 x, .int .i64 y]] w fun e w' => e = .returned (.agg #[.int .i64 (a * x + b * y), .int .i64 (c * x + d * y)]) ∧ Below w.heap.size w w' := by
  obtain ⟨⟨ha, hb⟩, hc, hd⟩ := limB_bd h
  obtain ⟨hx, hy⟩ := vecB_bd hv
  obtain ⟨b1, b2⟩ := mul1000 ha hx
  obtain ⟨b3, b4⟩ := mul1000 hb hy
  obtain ⟨b5, b6⟩ := mul1000 hc hx
  obtain ⟨b7, b8⟩ := mul1000 hd hy
  clear h hv ha hb hc hd hx hy
  go_enter Tryd.func106, Tryd.ntmps106
  go_wp2
  refine bodyPost_ret (v := .agg #[.int .i64 (a * x + b * y), .int .i64 (c * x + d * y)]) (by simp [results, Tryd.results106, go_sem]) rfl ⟨rfl, ?_⟩
  repeat (first | exact Below.refl _ _ | refine Below.setCell ?_ (by first | omega | (simp <;> omega)) _ | refine Below.alloc ?_ (by first | omega | (simp <;> omega)) _ | refine bstep ?_ (by assumption) | refine Below.drew ?_)

set_option maxHeartbeats 1000000 in
theorem l02Unit_any (w : World) :
    Calls Tryd.prog 62 #[] w fun e w' => e = .returned (.agg #[.int .i64 1, .int .i64 0, .int .i64 0, .int .i64 1]) ∧ Below w.heap.size w w' := by
  go_enter Tryd.func62, Tryd.ntmps62
  go_wp2
  refine bodyPost_ret (v := .agg #[.int .i64 1, .int .i64 0, .int .i64 0, .int .i64 1]) (by simp [results, Tryd.results62, go_sem]) rfl ⟨rfl, ?_⟩
  repeat (first | exact Below.refl _ _ | refine Below.setCell ?_ (by first | omega | (simp <;> omega)) _ | refine Below.alloc ?_ (by first | omega | (simp <;> omega)) _ | refine bstep ?_ (by assumption) | refine Below.drew ?_)

end Go.Proofs.YtpejihckepaojaaDoor
