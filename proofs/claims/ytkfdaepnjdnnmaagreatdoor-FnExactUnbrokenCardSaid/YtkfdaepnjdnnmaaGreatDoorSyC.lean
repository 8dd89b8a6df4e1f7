/-
  Facts of the search for a witness, and the program's searchWitness, IsSymmetry and WitnessAgainst. Conditions: a slice that lies in a block of its own; the program's variable unitMatrix holds the unit.
-/
import Derived.Test.YtkfdaepnjdnnmaaGreatDoorSyB
import Derived.Test.YtkfdaepnjdnnmaaGreatDoorSu
import Derived.Test.YtkfdaepnjdnnmaaGreatDoorPtW
import Derived.Test.YtkfdaepnjdnnmaaGreatDoorMo3
import Derived.Test.YtkfdaepnjdnnmaaGreatDoorGd
namespace Go.Proofs.YtkfdaepnjdnnmaaGreatDoor
open Go.RowKit
set_option linter.unusedSimpArgs false
set_option linter.unusedVariables false

def syS (f A B C : Int) (F : Nat → Int) (a b c d x y : Int) : Bool := suitB f (leaP A B C F : Int) (fulI A B C F).2.1 (leaQ A B C F : Int) a b c d x y
def syW (A B C : Int) (F : Nat → Int) (a b c d x y : Int) : Option V29 := witR (leaP A B C F : Int) (fulI A B C F).2.1 (leaQ A B C F : Int) (onG A B C F (leaP A B C F) (leaQ A B C F)) a b c d x y (cellP (leaQ A B C F) (leaP A B C F))
def syA (f A B C : Int) (n : Nat) (F : Nat → Int) (a b c d x y : Int) : Option V29 × Int := if patB f A B C n F = true then (if syS f A B C F a b c d x y = true then (syW A B C F a b c d x y, 0) else (none, 2)) else (none, 1)
theorem suit_bd {f A B C a b c d x y : Int} (h : suitB f A B C a b c d x y = true) : limB a b c d = true ∧ vecB x y = true := by
  unfold suitB pmB matB at h
  simp only [Bool.and_eq_true] at h
  exact ⟨h.2.1.1.2.1, h.2.2.2⟩
/- what a drawn region leaves that sets a new vector from a call's answer, and a truth value -/
def McV (r : Option V29) (w : World) (s8 s9 : Value) (wx : World) : Prop :=
  ∃ bx : Nat, s8 = .pointer (some ⟨bx, 0, none⟩) ∧ s9 = .bool r.isSome ∧ Bx bx [.int .i64 (witV r).1, .int .i64 (witV r).2] wx ∧ w.heap.size ≤ bx ∧ Below w.heap.size w wx
theorem Bx.st2 {g : Nat} {u0 u1 : Value} {W : World} (h : BX g [.int .i64 0, .int .i64 0] W) : Bx g [u0, u1] ((W.setCell ⟨g, 0, none⟩ u0).setCell ⟨g, 1, none⟩ u1) := ((h.store 0 (by simp) u0).store 1 (by simp) u1).bx
/- IsSymmetry's answer -/
def isB (r : Option V29 × Int) : Bool := r.2 == 0 && !r.1.isSome
/- WitnessAgainst's answer -/
def waA (r : Option V29 × Int) : V29 × Int := if r.2 = 0 ∧ r.1.isSome = false then ((0, 0), 4) else (witV r.1, r.2)
end Go.Proofs.YtkfdaepnjdnnmaaGreatDoor
