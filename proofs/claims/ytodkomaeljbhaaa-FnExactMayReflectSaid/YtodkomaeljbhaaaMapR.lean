/-
  Contracts of chapter 4's MapLattice: the program's function and the model's have one and the same answer; the walk of its exact law. No condition.
-/
import Derived.Test.YtodkomaeljbhaaaMapL
import Derived.Test.YtodkomaeljbhaaaLat3
namespace Go.Proofs.Ytodkomaeljbhaaa
open Go.RowKit
set_option linter.unusedSimpArgs false
set_option linter.unusedVariables false

def flB (f A B C : Int) : Bool := frB f && latB A B C
def flC (f A B C : Int) : Int := bif flB f A B C then 0 else 1
set_option maxHeartbeats 4000000 in
theorem l04Code_any (f A B C : Int) (w : World) :
    Calls Try.prog 29 #[.int .i64 f, .agg #[.int .i64 A, .int .i64 B, .int .i64 C]] w fun e w' => e = .returned (.int .i64 (flC f A B C)) ∧ Below w.heap.size w w' := by
  rcases h : frB f with _ | _
  · have E := Lib.hid (show flC f A B C = 1 by simp [flC, flB, h])
    go_enter Try.func29, Try.ntmps29
    go_wp2_with fail
    refine (specIsFrame_any _ _).mono ?_
    rintro e w1 ⟨rfl, rfl⟩
    rw [h]
    go_wp2
    go_ret
    exact ⟨ret_int E.out.symm, (Below.refl _ _).alloc (Nat.le_refl _) _⟩
  rcases hl : latB A B C with _ | _
  all_goals
    have E := Lib.hid (show flC f A B C = _ by simp only [flC, flB, h, hl, Bool.true_and]; rfl)
    go_enter Try.func29, Try.ntmps29
    go_wp2_with fail
    refine (specIsFrame_any _ _).mono ?_
    rintro e w1 ⟨rfl, rfl⟩
    rw [h]
    go_wp2_with fail
    refine (specIsLattice_any _ _ _ _).mono ?_
    rintro e w2 ⟨rfl, hb2⟩
    rw [hl]
    go_wp2
    go_ret
    exact ⟨ret_int E.out.symm, bstep ((Below.refl _ _).alloc (Nat.le_refl _) _) hb2⟩
def mapR (f a b c d A B C : Int) : Int × Int × Int × Int := bif flB f A B C then (bif pmB f a b c d then ((mapI A B C a b c d).1, (mapI A B C a b c d).2.1, (mapI A B C a b c d).2.2, 0) else (0, 0, 0, 2)) else (0, 0, 0, 1)
def mapT (f a b c d A B C : Int) : Value := latT (mapR f a b c d A B C)
theorem pm_keep {f a b c d : Int} (h : pmB f a b c d = true) : frB f = true ∧ matB a b c d = true ∧ keepB f a b c d = true := by
  simpa [pmB, and_assoc] using h
end Go.Proofs.Ytodkomaeljbhaaa
