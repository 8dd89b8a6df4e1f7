/-
  How many cells have each colour, in the program and in the model. Condition: a slice that lies in a block of its own.
-/
import Derived.Test.YtkfdaepnjdnnmaaGreatDoorPtA
import Derived.BigRegion
namespace Go.Proofs.YtkfdaepnjdnnmaaGreatDoor
open Go.RowKit
set_option linter.unusedSimpArgs false
set_option linter.unusedVariables false

def cntF (F : Nat → Int) : Nat → Nat → Int
  | 0, _ => 0
  | n + 1, c => if F n = (c : Int) then cntF F n c + 1 else cntF F n c
theorem cntF_bd (F : Nat → Int) : ∀ (n c : Nat), 0 ≤ cntF F n c ∧ cntF F n c ≤ n
  | 0, _ => by simp [cntF]
  | n + 1, c => by
    have h := cntF_bd F n c
    simp only [cntF]
    split <;> omega
abbrev LR := Nat × (Nat → Int) × Int
/- a call's answer: a row of numbers in new memory, and a code -/
def LAns (r : LR) (W : World) (e : Ending) (w' : World) : Prop :=
  ∃ (m : Nat) (G : Nat → Int) (c : Int) (v : Value), r = (m, G, c) ∧ e = .returned (.tuple #[v, .int .i64 c]) ∧ SRow W.heap.size w'.heap.size 1 v m G w' ∧ Below W.heap.size W w'
def cntA (f A B C : Int) (n : Nat) (F : Nat → Int) : LR := if patB f A B C n F = true then (10, cntF F n, 0) else (0, fun _ => 0, 1)
theorem cntA_len (f A B C : Int) (n : Nat) (F : Nat → Int) : (cntA f A B C n F).1 ≤ 10 := by unfold cntA; split <;> simp
theorem SRow.nil9 {lo : Nat} (F : Nat → Int) (W : World) : SRow lo W.heap.size 1 (.slice none 0 0) 0 F W := SRow.nil lo 1 F W
theorem made_zero9 (n : Nat) : ∀ u ∈ (madeCells (Value.cells (.int .i64 0)) (n * 1)).toList, u = .int .i64 0 := by
  intro u hu
  unfold madeCells at hu
  simp only [Value.cells] at hu
  rw [Array.mem_toList_iff, Array.mem_map] at hu
  obtain ⟨i, _, rfl⟩ := hu
  have h : ∀ j, j < 1 → (#[Value.int .i64 0] : Array Value)[j]! = .int .i64 0 := by
    intro j hj
    have : j = 0 := by omega
    subst this
    rfl
  exact h _ (Nat.mod_lt _ (by simp))
theorem made10 {W w1 : World} (h : w1.ownsRow W.heap.size 2 1 (.slice (some ⟨W.heap.size, 0, none⟩) 10 10) 10 (madeCells (Value.cells (.int .i64 0)) (10 * 1)).toList) : IRow W.heap.size 10 (fun _ => 0) w1 := by
  have hl := h.lt W.heap.size rfl
  refine ⟨hl.2, fun t ht => ⟨?_, h.frozenAt t⟩⟩
  rw [h.cellAt t (by omega), List.getElem?_eq_getElem (by rw [h.1]; omega)]
  exact congrArg some (made_zero9 10 _ (List.getElem_mem _))
end Go.Proofs.YtkfdaepnjdnnmaaGreatDoor
