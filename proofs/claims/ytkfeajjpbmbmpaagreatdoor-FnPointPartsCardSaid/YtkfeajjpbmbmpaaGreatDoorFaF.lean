/-
  Plain facts of reflections of a lattice (chapter 11): how far a shift leads along the axis, the least multiple of the axis in the lattice, and which lattices are centred. Conditions: those stated.
-/
import Derived.Test.YtkfeajjpbmbmpaaGreatDoorGh
import Derived.Test.YtkfeajjpbmbmpaaGreatDoorGd
namespace Go.Proofs.YtkfeajjpbmbmpaaGreatDoor
open Go.RowKit
set_option linter.unusedSimpArgs false
set_option linter.unusedVariables false

/- a reflection's base vector, its primitive vector with the right sign -/
/- a vector that runs along a primitive one is a multiple of it -/
/- two vectors that a reflection maps to themselves, or to their negatives, run along each other -/
/- the slide of a vector: how far it and its image lead along the axis -/
/- the least multiple of a vector in a lattice -/
/- what the model asks: the index that both invariant vectors span -/
/- the least multiple -/
def invGo (A B C p q : Int) : Nat → Nat → Nat
  | 0, k => k
  | n + 1, k => if hasB A B C ((k : Int) * p) ((k : Int) * q) = true then k else invGo A B C p q n (k + 1)
def invK (A B C p q : Int) : Nat := invGo A B C p q 64 1
/- suitable reflections -/
theorem suit_parts {f A B C a b c d x y : Int} (h : okM f A B C (a, b, c, d, x, y) = true) : latI A B C ∧ frB f = true ∧ keepB f a b c d = true ∧ stabQ A B C a b c d ∧ matB a b c d = true ∧ (((-1 ≤ a ∧ a ≤ 1) ∧ (-1 ≤ b ∧ b ≤ 1)) ∧ ((-1 ≤ c ∧ c ≤ 1) ∧ (-1 ≤ d ∧ d ≤ 1))) := by
  obtain ⟨h1, ⟨h2, h3⟩, _⟩ := okM_iff.1 h
  simp only [flB, Bool.and_eq_true] at h1
  exact ⟨latB_iff.1 h1.2, h1.1, h2, h3, keep_mat h1.1 h2, keep_small h1.1 h2⟩
/- a matrix of a frame with the determinant -1 is a reflection -/
def keepOk (f : Int) (m : M4) : Bool := !(keepB f m.1 m.2.1 m.2.2.1 m.2.2.2 && m.1 * m.2.2.2 - m.2.1 * m.2.2.1 == -1) || m.1 + m.2.2.2 == 0
theorem keep_dec : ((List.range 81).all fun j => [(0 : Int), 1].all fun f => keepOk f (decM j)) = true := by decide +kernel
theorem keep_refl {f a b c d : Int} (hf : frB f = true) (h : keepB f a b c d = true) : reflB a b c d = (a * d - b * c == -1) := by
  rcases hd : (a * d - b * c == -1) with _ | _
  · simp [reflB, hd]
  · obtain ⟨j, hj, ej⟩ := decM_of (keep_small hf h)
    have hff : f ∈ [(0 : Int), 1] := by simpa [frB] using hf
    have := keep_dec
    simp only [List.all_eq_true] at this
    have := this j (List.mem_range.2 hj) f hff
    rw [ej] at this
    have hd2 := (beq_iff_eq).1 hd
    simp [keepOk, h, hd2] at this
    simp [reflB, hd, this]
/- what both answer -/
/- whether a shift takes the slide of a reflection back -/
/- the model's way: the divisor of the vector of the motion done twice -/
end Go.Proofs.YtkfeajjpbmbmpaaGreatDoor
