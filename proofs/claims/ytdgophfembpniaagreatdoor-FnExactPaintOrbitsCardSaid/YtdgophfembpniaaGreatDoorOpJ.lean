/-
  A slice of numbers as a law's argument, opened: a row of numbers. Condition: the type is a slice of one-cell numbers.
-/
import Derived.Test.YtdgophfembpniaaGreatDoorGv
import Derived.Lib.SmallJoins
import Derived.Deep.Strs
namespace Go.Proofs.YtdgophfembpniaaGreatDoor
open Go.RowKit Go.ChangeShapes Go.WideShapes Go.ChangeAt Go.Joins Go.Deep Go.WideElems
set_option linter.unusedVariables false
section
variable {H : Type} {enc : TypeId × Value → H} {P : Program} {w : World} {base : Nat} {held : Bool}
theorem open_i64s {r : _} {b0 : Nat} {T e : TypeId} {v : Value} {d : DataW H} {p : List MemPlace} (hS : P.underlying T = some (.slice e)) (he : P.underlying e = some (.int .i64)) (hc : P.cellsOf e = 1)
    (hv : Value.okWide P w r b0 T v) (h : DataW.Trod enc P w base (fun _ => true) held T v d p) :
    ∃ (n : Nat) (F : Nat → Int), ARw v n F w ∧ n ≤ 9223372036854775807 := by
  obtain ⟨a, len, cap, rfl⟩ := okWide_slice hS hv
  obtain ⟨fuel, hf⟩ := h
  rcases open_ints hS he hc hf with ⟨hcs, _⟩ | ⟨x, l, cp, zs, hcs, _, hl, hm, hz, _, hcell, _⟩
  · simp [Value.cells] at hcs
    obtain ⟨rfl, rfl, rfl⟩ := hcs
    exact ⟨0, fun _ => 0, ⟨none, 0, rfl, fun t ht => by omega⟩, by omega⟩
  · simp [Value.cells] at hcs
    obtain ⟨rfl, rfl, rfl⟩ := hcs
    simp only [if_true] at hz
    refine ⟨len, fun t => zs.getD t 0, ⟨some x, cap, rfl, fun t ht => ?_⟩, ?_⟩
    · have h9 := hcell t (by omega)
      refine ⟨x, rfl, ?_, h9⟩
      have := World.block_lt_of_cell? _ _ h9
      rwa [add_block] at this
    · have : maxLen ≤ 9223372036854775807 := by unfold maxLen; omega
      omega
end
end Go.Proofs.YtdgophfembpniaaGreatDoor
