/-
  The program's OrbitOf. Conditions: the list's length is below the model's bound, and the program's variable unitMatrix holds the unit.
-/
import Derived.Test.YtkfdaepnjdnnmaaGreatDoorOf7
import Derived.Test.YtkfdaepnjdnnmaaGreatDoorRgI
import Derived.Test.YtkfdaepnjdnnmaaGreatDoorNu7
import Derived.Test.YtkfdaepnjdnnmaaGreatDoorCeS
import Derived.RangeFuncNested
import Derived.RangeFuncBound
import Derived.RangeFuncCalls
import Derived.RangeFuncLeaves
import Derived.RangeFuncBox
import Derived.Shelf.Abstract
import Derived.Shelf.RegionOpen
import Derived.WalkKit
import Derived.OwnWalkIn
import Derived.TacticsInMore
import Derived.LoopNIn
import Derived.LoopIn
import Derived.Laws.EntriesVeiled
import Derived.Laws.Rows
import Derived.Laws.ResultCell
import Derived.Laws.Tables
import Derived.Deep.RegionHeld3
import Derived.IntWalk
namespace Go.Proofs.YtkfdaepnjdnnmaaGreatDoor
open Go.RowKit Go.Shelf
attribute [local go_sem] Oper.semAt_some
set_option linter.unusedSimpArgs false
set_option linter.unusedVariables false

/- two cells have the same number just where one orbit holds both -/
def Same7 (Bs : List Nat) (W0 W : World) : Prop := ∀ b ∈ Bs, W.heap[b]? = W0.heap[b]?
theorem same_own7 {β : Type} (Bs : List Nat) (W0 : World) (h : ∀ b ∈ Bs, ∃ o : Obj, W0.heap[b]? = some o ∧ o.isCells = true) : Own (fun (_ : β) W => Same7 Bs W0 W) := fun s X Y row hs hg hrow b hb => by
  obtain ⟨o, h1, h2⟩ := h b hb
  have hx := hs b hb
  rw [h1] at hx
  exact ((hg.block b (Array.getElem?_eq_some_iff.1 hx).1 (fun e => by obtain ⟨o', k1, k2⟩ := hrow b e.symm; rw [hx] at k1; cases k1; rw [h2] at k2; cases k2)).trans hx).trans h1.symm
theorem same_cell7 {W W0 : World} {b i : Nat} {v : Value} (h : W.heap[b]? = W0.heap[b]?) (h0 : W0.cell? ⟨b, i, none⟩ = some v) : W.cell? ⟨b, i, none⟩ = some v := (World.cell?_of_block (w := W0) (w' := W) (a := ⟨b, i, none⟩) h).trans h0
theorem own_type7 {W : World} {base : Nat} {e : TypeId} {size n : Nat} {v : Value} {xs : List Value} {b : Nat} {cs : Array Value} {t : TypeId} (h : W.ownsRow base e size v n xs) (hb : W.heap[b]? = some (.cells cs t (0, 0))) (ht : t ≠ e) : some b ≠ v.ownBlock := by
  rcases h.2 with ⟨rfl, _⟩ | ⟨g, cap, cur, rfl, _, hg, _⟩
  · simp [Value.ownBlock]
  · intro e'
    obtain rfl : b = g := by simpa [Value.ownBlock] using e'
    rw [hb] at hg
    cases hg
    exact ht rfl
def gv (b : Bool) (v : Value) : Value := bif b then v else undef
theorem gv_t (v : Value) : gv true v = v := rfl
attribute [local go_sem] gv_t
theorem ready_no {md : Region.Mode} {ops : Array Oper} {L : Array Bool} (h : Region.ready md ops L = []) {i : Nat} {o : Oper} (ho : ops[i]? = some o) (hd : ∀ e ∈ o.after, Region.binds md e = true → L.getD e.on false = true) : L.getD i true = true := by
  rcases hx : L.getD i true with _ | _
  · have := mem_ready.2 ⟨hx, o, ho, hd⟩
    rw [h] at this
    cases this
  · rfl
end Go.Proofs.YtkfdaepnjdnnmaaGreatDoor
