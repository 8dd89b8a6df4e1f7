/-
 What marks in a row leave of a block. No condition.
-/
import Derived.Test.YtdgophfembpniaaGreatDoorPtA
import Derived.Deep.RegionWith
import Derived.Deep.DeepCutAuto
namespace Go.Proofs.YtdgophfembpniaaGreatDoor
open Go.RowKit
set_option linter.unusedSimpArgs false
set_option linter.unusedVariables false

theorem Bx.keepV {g : Nat} {us : List Value} {u : Value} {W w1 : World} (h : Bx g us W) (hk : KeepV u W w1) (ho : offB u g) (hs : W.heap.size ≤ w1.heap.size) : Bx g us w1 := by
 have hh := hk g ho h.lt
 exact ⟨Nat.lt_of_lt_of_le h.lt hs, fun i v e => (World.cell?_of_block (w := W) hh).trans (h.cel i v e)⟩
end Go.Proofs.YtdgophfembpniaaGreatDoor
