/-
 Whether a motion keeps a pattern, and the full lattice, in the model. Condition: the pattern is valid, the numbers small.
-/
import Derived.Test.YtdgophfembpniaaGreatDoorPtG
import Derived.Test.YtdgophfembpniaaGreatDoorMo3
namespace Go.Proofs.YtdgophfembpniaaGreatDoor
open Go.RowKit
set_option linter.unusedSimpArgs false
set_option linter.unusedVariables false
theorem Bx.cells6 {g : Nat} {u0 u1 u2 u3 u4 u5 : Value} {W : World} (h : Bx g [u0, u1, u2, u3, u4, u5] W) : W.cell? ⟨g, 0, none⟩ = some u0 ∧ W.cell? ⟨g, 1, none⟩ = some u1 ∧ W.cell? ⟨g, 2, none⟩ = some u2 ∧ W.cell? ⟨g, 3, none⟩ = some u3 ∧ W.cell? ⟨g, 4, none⟩ = some u4 ∧ W.cell? ⟨g, 5, none⟩ = some u5 := ⟨h.c0, h.c1, h.c2, h.c3, h.c4, h.c5⟩
theorem cells2_at9 : ∀ (xs : List V29) (i : Nat) (hi : i < xs.length), (cells2 xs)[i * 2]? = some (.int .i64 xs[i].1) ∧ (cells2 xs)[i * 2 + 1]? = some (.int .i64 xs[i].2)
 | [], i, hi => by simp at hi
 | t :: xs, 0, _ => by simp [cells2]
 | t :: xs, i + 1, hi => by
  have hs := cells2_at9 xs i (by simpa using hi)
  have e : cells2 (t :: xs) = [.int .i64 t.1, .int .i64 t.2] ++ cells2 xs := by simp [cells2]
  rw [e, List.getElem?_append_right (by simp; omega), List.getElem?_append_right (by simp; omega)]
  simp only [List.length_cons, List.length_nil, List.getElem_cons_succ]
  rw [show (i + 1) * 2 - (0 + 1 + 1) = i * 2 by omega, show (i + 1) * 2 + 1 - (0 + 1 + 1) = i * 2 + 1 by omega]
  exact hs
theorem IRow.v29 {g : Nat} {xs : List V29} {W : World} (h : IRow g (xs.length * 2) (intAt (cells2 xs)) W) (i : Nat) (hi : i < xs.length) : Ko2 g (i * 2) xs[i].1 xs[i].2 W := by
 have k := h.ko2 (i * 2) (by omega)
 obtain ⟨e0, e1⟩ := cells2_at9 xs i hi
 have z0 : intAt (cells2 xs) (i * 2) = xs[i].1 := by simp [intAt, e0]
 have z1 : intAt (cells2 xs) (i * 2 + 1) = xs[i].2 := by simp [intAt, e1]
 rwa [z0, z1] at k
theorem cellP_mem9 {p q : Nat} {v : V29} (h : v ∈ cellP q p) : (0 ≤ v.1 ∧ v.1 < p) ∧ (0 ≤ v.2 ∧ v.2 < q) := by
 unfold cellP cellR at h
 obtain ⟨a, ha, h⟩ := List.mem_flatMap.1 h
 obtain ⟨b, hb, rfl⟩ := List.mem_map.1 h
 have h1 := List.mem_range.1 ha
 have h2 := List.mem_range.1 hb
 dsimp only
 omega
theorem kepM_snoc (A B C : Int) (F : Nat → Int) (a b c d x y : Int) (L : List V29) : kepM A B C F a b c d x y L = true ↔ ∀ v ∈ L, (F (numP A B C (a * v.1 + b * v.2 + x) (c * v.1 + d * v.2 + y)) == F (numP A B C v.1 v.2)) = true := List.all_eq_true
end Go.Proofs.YtdgophfembpniaaGreatDoor
