/-
  Contracts of chapter 4's small functions: frames, the plane behind a frame's number, norms in the program and in the model. Conditions: the numbers are bounded.
-/
import Derived.Test.YtpdekopmnchanabDoorFrF
import Derived.Test.YtpdekopmnchanabDoorLat2
namespace Go.Proofs.YtpdekopmnchanabDoor
open Go.RowKit
set_option linter.unusedSimpArgs false
set_option linter.unusedVariables false

theorem mid_mul {a b : Int} (ha : midI a) (hb : midI b) : -1000000000000 ≤ a * b ∧ a * b ≤ 1000000000000 := by
  have h1 : a.natAbs ≤ 1000000 := by unfold midI at ha; omega
  have h2 : b.natAbs ≤ 1000000 := by unfold midI at hb; omega
  have h3 : (a * b).natAbs ≤ 1000000 * 1000000 := by
    rw [Int.natAbs_mul]; exact Nat.mul_le_mul h1 h2
  omega
theorem nrm_big {f x y : Int} (hf : frB f = true) (hx : midI x) (hy : midI y) : 0 ≤ nrmI f x y ∧ nrmI f x y ≤ 3000000000000 := by
  refine ⟨nrm_nn hf x y, ?_⟩
  have h1 := mid_mul hx hx
  have h2 := mid_mul hy hy
  have h3 := mid_mul hx hy
  rcases frB_iff.1 hf with rfl | rfl <;> (unfold nrmI; omega)

set_option maxHeartbeats 1000000 in
theorem l04Norm_any (f x y : Int) (w : World) (hf : frB f = true) (hx : midI x) (hy : midI y) :
    Calls Tryd.prog 82 #[.int .i64 f, .agg #[.int .i64 x, .int .i64 y]] w fun e w' => e = .returned (.int .i64 (nrmI f x y)) ∧ Below w.heap.size w w' := by
  obtain ⟨b1, b2⟩ := mid_mul hx hx
  obtain ⟨b3, b4⟩ := mid_mul hy hy
  obtain ⟨b5, b6⟩ := mid_mul hx hy
  clear hx hy
  rcases frB_iff.1 hf with rfl | rfl
  · go_enter Tryd.func82, Tryd.ntmps82
    go_wp2
    go_ret
    refine ⟨ret_int (by simp [nrmI]), ?_⟩
    repeat (first | exact Below.refl _ _ | refine Below.setCell ?_ (by first | omega | (simp <;> omega)) _ | refine Below.alloc ?_ (by first | omega | (simp <;> omega)) _ | refine bstep ?_ (by assumption) | refine Below.drew ?_)
  · go_enter Tryd.func82, Tryd.ntmps82
    go_wp2
    go_ret
    refine ⟨ret_int (by simp [nrmI]), ?_⟩
    repeat (first | exact Below.refl _ _ | refine Below.setCell ?_ (by first | omega | (simp <;> omega)) _ | refine Below.alloc ?_ (by first | omega | (simp <;> omega)) _ | refine bstep ?_ (by assumption) | refine Below.drew ?_)

set_option maxHeartbeats 1000000 in
theorem specIsFrame_any (f : Int) (w : World) :
    Calls Tryd.prog 61 #[.int .i64 f] w fun e w' => e = .returned (.bool (frB f)) ∧ w = w' := by
  by_cases h0 : f = 0
  · subst h0
    go_enter Tryd.func61, Tryd.ntmps61
    go_wp2
    go_ret
    exact ⟨rfl, rfl⟩
  · have g0 : (f == 0) = false := by simpa using h0
    by_cases h1 : f = 1
    · subst h1
      go_enter Tryd.func61, Tryd.ntmps61
      go_wp2
      go_ret
      exact ⟨rfl, rfl⟩
    · have g1 : (f == 1) = false := by simpa using h1
      have h := frB_not.2 ⟨h0, h1⟩
      go_enter Tryd.func61, Tryd.ntmps61
      go_wp2
      go_ret
      exact ⟨ret_bool (by rw [h]), rfl⟩
/- norms -/
def norR (f x y : Int) : Int × Int := bif frB f && vecB x y then (nrmI f x y, 0) else (0, 1)
def norT (f x y : Int) : Value := .tuple #[.int .i64 (norR f x y).1, .int .i64 (norR f x y).2]
theorem vec_mid2 {x y : Int} (h : vecB x y = true) : midI x ∧ midI y := by
  have := vecB_bd h
  unfold midI; omega
end Go.Proofs.YtpdekopmnchanabDoor
