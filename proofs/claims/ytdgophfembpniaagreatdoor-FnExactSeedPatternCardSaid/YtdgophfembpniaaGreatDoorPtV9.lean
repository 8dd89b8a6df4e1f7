/-
 Whether a pattern is valid, in the program and in the model. Condition: a slice that lies in a block of its own.
-/
import Derived.Test.YtdgophfembpniaaGreatDoorGv
import Derived.Test.YtdgophfembpniaaGreatDoorGe
import Derived.Deep.RegionHeld3
namespace Go.Proofs.YtdgophfembpniaaGreatDoor
open Go.RowKit
set_option linter.unusedSimpArgs false
set_option linter.unusedVariables false
def patB (f A B C : Int) (n : Nat) (F : Nat → Int) : Bool := frB f && (latB A B C && (decide ((n : Int) = A * C) && colB n F))
/- a valid pattern: p times q cells -/
structure PatI (f : Int) (p : Nat) (B : Int) (q n : Nat) (F : Nat → Int) : Prop where
 fr : frB f = true
 lat : latI (p : Int) B (q : Int)
 nn : n = p * q
 col : ∀ t, t < n → 0 ≤ F t ∧ F t ≤ 9
theorem PatI.bd {f B : Int} {p q n : Nat} {F : Nat → Int} (h : PatI f p B q n F) : 1 ≤ p ∧ p ≤ 64 ∧ 1 ≤ q ∧ q ≤ 64 ∧ n ≤ 64 ∧ 1 ≤ n := by
 obtain ⟨_, hl, rfl, _⟩ := h
 have h1 := latI_bd hl
 have h2 := hl.2.2.2.2
 have h3 := hl.1
 have h4 := hl.2.1
 have e : ((p * q : Nat) : Int) = (p : Int) * (q : Int) := by simp
 have h5 : 1 * 1 ≤ p * q := Nat.mul_le_mul (by omega) (by omega)
 omega
theorem PatI.b {f B : Int} {p q n : Nat} {F : Nat → Int} (h : PatI f p B q n F) : patB f (p : Int) B (q : Int) n F = true := by
 obtain ⟨a, b, c, d⟩ := h
 have hc : colB n F = true := colB_yes fun t ht => by have := d t ht; simp [inB]; omega
 have hn : ((n : Nat) : Int) = (p : Int) * (q : Int) := by exact_mod_cast c
 simp only [patB, Bool.and_eq_true, decide_eq_true_eq]
 exact ⟨a, latB_iff.2 b, hn, hc⟩
end Go.Proofs.YtdgophfembpniaaGreatDoor
