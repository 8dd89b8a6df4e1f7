/-
 Which motions of a list fix a cell: fixing, in the program. Conditions: the motions are reduced and suitable, the cell is one, the list lies in a block of its own.
-/
import Derived.Test.YtdgophfembpniaaGreatDoorGo
import Derived.Test.YtdgophfembpniaaGreatDoorGp
import Derived.Deep.RegionHeld3
import Derived.IntWalk
namespace Go.Proofs.YtdgophfembpniaaGreatDoor
open Go.RowKit
set_option linter.unusedSimpArgs false
set_option linter.unusedVariables false

theorem bd_mul7 {a p : Int} (ha : -1 ≤ a ∧ a ≤ 1) (hp : 0 ≤ p ∧ p ≤ 64) : -64 ≤ a * p ∧ a * p ≤ 64 := by
 obtain rfl | rfl | rfl : a = -1 ∨ a = 0 ∨ a = 1 := by omega
 all_goals omega
theorem mv_mid {f A B C a b c d x y p q : Int} (h : okM f A B C (a, b, c, d, x, y) = true) (hr : redM A B C (a, b, c, d, x, y) = (a, b, c, d, x, y)) (hc : celB A C (p, q) = true) :
  latI A B C ∧ limB a b c d = true ∧ vecB x y = true ∧ vecB p q = true ∧ midI (a * p + b * q + x) ∧ midI (c * p + d * q + y) := by
 obtain ⟨hl, _, _⟩ := ok_mid h
 have h5 := okM_iff.1 h
 have hfl := h5.1
 simp only [flB, Bool.and_eq_true] at hfl
 have hgs := keep_small hfl.1 h5.2.1.1
 obtain ⟨b1, b2⟩ := latI_bd hl
 have h1 := celB_iff.1 hc
 have hv := red_vec hl hr
 have hv2 := vecB_bd hv
 dsimp only at hv hv2 h1 hgs
 have m1 := bd_mul7 hgs.1.1 (show 0 ≤ p ∧ p ≤ 64 by omega)
 have m2 := bd_mul7 hgs.1.2 (show 0 ≤ q ∧ q ≤ 64 by omega)
 have m3 := bd_mul7 hgs.2.1 (show 0 ≤ p ∧ p ≤ 64 by omega)
 have m4 := bd_mul7 hgs.2.2 (show 0 ≤ q ∧ q ≤ 64 by omega)
 exact ⟨hl, keep_lim hfl.1 h5.2.1.1, hv, cel_vec hl hc, by unfold midI; omega, by unfold midI; omega⟩
end Go.Proofs.YtdgophfembpniaaGreatDoor
