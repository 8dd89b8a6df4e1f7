/-
  Contracts of CountOrbits in the program and in the model. Conditions: the list's length is below the model's bound, and the program's variable unitMatrix holds the unit.
-/
import Derived.Test.YtkfdaepnjdnnmaaGreatDoorOs7
import Derived.Deep.RegionHeld3
import Derived.IntWalk
import Derived.Laws.Rows
import Derived.Laws.Tables
namespace Go.Proofs.YtkfdaepnjdnnmaaGreatDoor
open Go.RowKit
set_option linter.unusedSimpArgs false
set_option linter.unusedVariables false

theorem lat_nat7 {A B C : Int} (h : latI A B C) : ∃ p q : Nat, A = (p : Int) ∧ C = (q : Int) := by
  obtain ⟨h1, h2, _⟩ := h
  exact ⟨A.toNat, C.toNat, by omega, by omega⟩
theorem own_irow {W : World} {base n : Nat} {v : Value} {G : List M6} {T : TypeId} (h : W.ownsRow base T 6 v G.length (cells6 G)) (hn : 0 < G.length) (hn2 : G.length ≤ 1048576) : ∃ g cap, v = .slice (some ⟨g, 0, none⟩) G.length cap ∧ base ≤ g ∧ IRow g (G.length * 6) (fm G) W := by
  obtain ⟨g1, cap1, rfl, hb1g, hcl1, hcm1⟩ := own_block h hn
  obtain ⟨g1', c1', e1, _, _, r1⟩ := (SRow.big6 h hn2).2.2.resolve_left (fun h => by omega)
  simp only [Value.slice.injEq, Option.some.injEq, Addr.mk.injEq, and_true, true_and] at e1
  obtain ⟨rfl, e1⟩ := e1
  exact ⟨_, _, rfl, hb1g, r1⟩
end Go.Proofs.YtkfdaepnjdnnmaaGreatDoor
