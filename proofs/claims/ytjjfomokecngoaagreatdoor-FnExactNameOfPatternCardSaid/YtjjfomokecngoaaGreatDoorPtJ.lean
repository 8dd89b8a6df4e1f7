/-
 Whether a motion keeps a pattern, and the full lattice, in the model. Condition: the pattern is valid, the numbers small.
-/
import Derived.Test.YtjjfomokecngoaaGreatDoorPc
import Derived.Test.YtjjfomokecngoaaGreatDoorHg
namespace Go.Proofs.YtjjfomokecngoaaGreatDoor
open Go.RowKit
set_option linter.unusedSimpArgs false
set_option linter.unusedVariables false

theorem Bx.cells6 {g : Nat} {u0 u1 u2 u3 u4 u5 : Value} {W : World} (h : Bx g [u0, u1, u2, u3, u4, u5] W) : W.cell? ⟨g, 0, none⟩ = some u0 ∧ W.cell? ⟨g, 1, none⟩ = some u1 ∧ W.cell? ⟨g, 2, none⟩ = some u2 ∧ W.cell? ⟨g, 3, none⟩ = some u3 ∧ W.cell? ⟨g, 4, none⟩ = some u4 ∧ W.cell? ⟨g, 5, none⟩ = some u5 := ⟨h.c0, h.c1, h.c2, h.c3, h.c4, h.c5⟩
theorem bd9 {a t : Int} (ha : -1000 ≤ a ∧ a ≤ 1000) (ht : 0 ≤ t ∧ t ≤ 64) : -64000 ≤ a * t ∧ a * t ≤ 64000 := by
 have h1 := Int.mul_le_mul_of_nonneg_right ha.2 ht.1
 have h2 := Int.mul_le_mul_of_nonneg_right ha.1 ht.1
 omega
theorem cellP_mem9 {p q : Nat} {v : V29} (h : v ∈ cellP q p) : (0 ≤ v.1 ∧ v.1 < p) ∧ (0 ≤ v.2 ∧ v.2 < q) := by
 unfold cellP cellR at h
 obtain ⟨a, ha, h⟩ := List.mem_flatMap.1 h
 obtain ⟨b, hb, rfl⟩ := List.mem_map.1 h
 have h1 := List.mem_range.1 ha
 have h2 := List.mem_range.1 hb
 dsimp only
 omega
theorem ownsRow_call9 {W w1 : World} {base : Nat} {e : TypeId} {size : Nat} {v : Value} {n : Nat} {xs : List Value} (h : W.ownsRow base e size v n xs) (hb : Below W.heap.size W w1) : w1.ownsRow base e size v n xs := by
 obtain ⟨h1, h2⟩ := h
 refine ⟨h1, h2.imp id ?_⟩
 rintro ⟨g, cap, cur, rfl, hg, hb9, r⟩
 exact ⟨g, cap, cur, rfl, hg, (hb.block g (Array.getElem?_eq_some_iff.1 hb9).1).trans hb9, r⟩
theorem kepM_snoc (A B C : Int) (F : Nat → Int) (a b c d x y : Int) (L : List V29) : kepM A B C F a b c d x y L = true ↔ ∀ v ∈ L, (F (numP A B C (a * v.1 + b * v.2 + x) (c * v.1 + d * v.2 + y)) == F (numP A B C v.1 v.2)) = true := List.all_eq_true
end Go.Proofs.YtjjfomokecngoaaGreatDoor
