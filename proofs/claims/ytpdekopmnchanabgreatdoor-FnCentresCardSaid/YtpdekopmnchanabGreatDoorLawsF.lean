/-
  The walk of the law FnExactReadVec: it returns true at every text and writes nothing that was there. Conditions: the library's table, its two errors and its constant read as they are laid.
-/
import Derived.Test.YtpdekopmnchanabGreatDoorRead3
namespace Go.Proofs.YtpdekopmnchanabGreatDoor
open Go.RowKit
set_option linter.unusedSimpArgs false
set_option linter.unusedVariables false

theorem rd_same {l : List UInt8} {x y x' y' : Int} {b b' : Bool} (h1 : b = true → RdYes l x y) (h2 : b = false → RdNo l ∧ x = 0 ∧ y = 0) (h3 : b' = true → RdYes l x' y') (h4 : b' = false → RdNo l ∧ x' = 0 ∧ y' = 0) : b' = b ∧ x' = x ∧ y' = y := by
  cases b <;> cases b'
  · obtain ⟨_, rfl, rfl⟩ := h2 rfl
    obtain ⟨_, rfl, rfl⟩ := h4 rfl
    exact ⟨rfl, rfl, rfl⟩
  · exact (rd_not (h3 rfl) (h2 rfl).1).elim
  · exact (rd_not (h1 rfl) (h4 rfl).1).elim
  · obtain ⟨rfl, rfl⟩ := rd_one (h1 rfl) (h3 rfl)
    exact ⟨rfl, rfl, rfl⟩

end Go.Proofs.YtpdekopmnchanabGreatDoor
