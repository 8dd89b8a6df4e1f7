/-
  GroupOfPattern and CountSymmetries, in the program and in the model. Conditions: a slice that lies in a block of its own; the program's variable unitMatrix holds the unit.
-/
import Derived.Test.YtkfdaepnjdnnmaaDoorSyG
import Derived.Test.YtkfdaepnjdnnmaaDoorAmo
import Derived.Test.YtkfdaepnjdnnmaaDoorSyC
namespace Go.Proofs.YtkfdaepnjdnnmaaDoor
open Go.RowKit
set_option linter.unusedSimpArgs false
set_option linter.unusedVariables false

/- the group of a pattern, and the code -/
def sgL (f A B C : Int) (n : Nat) (F : Nat → Int) : List M6 := if patB f A B C n F = true then symL f (leaP A B C F) (fulI A B C F).2.1 (leaQ A B C F) (onG A B C F (leaP A B C F) (leaQ A B C F)) else []
def sgC (f A B C : Int) (n : Nat) (F : Nat → Int) : Int := if patB f A B C n F = true then 0 else 1
theorem symL_len {f B : Int} {p q : Nat} {F : Nat → Int} (h : p * q ≤ 64) : (symL f p B q F).length ≤ 5184 := by
  unfold symL motL
  refine Nat.le_trans (List.length_filter_le _ _) ?_
  rw [len_flat, cellP_len]
  exact Nat.le_trans (Nat.mul_le_mul (stabL_len _ _ _ _) h) (by omega)
theorem sgL_len (f A B C : Int) (n : Nat) (F : Nat → Int) : (sgL f A B C n F).length ≤ 5184 := by
  unfold sgL
  split
  · rename_i h
    obtain ⟨p, q, rfl, rfl, hp⟩ := patB_of h
    exact symL_len (by have := (lean_pat hp).bd; omega)
  · simp
theorem srow6 {lo : Nat} {xs : List M6} {e : TypeId} {v : Value} {W : World} (h : W.ownsRow lo e 6 v xs.length (cells6 xs)) (hn : xs.length ≤ 5184) : SRow lo W.heap.size 6 v xs.length (fm xs) W := SRow.of h (cells6_int _) (by omega)
end Go.Proofs.YtkfdaepnjdnnmaaDoor
