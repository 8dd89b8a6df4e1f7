/-
 A slice of numbers as a law's argument, and marks of any beginning in a row of numbers. No condition but those stated.
-/
import Derived.Test.YtdgophfembpniaaGreatDoorGv
import Derived.Test.YtdgophfembpniaaGreatDoorGq
namespace Go.Proofs.YtdgophfembpniaaGreatDoor
open Go.RowKit Go.ChangeShapes Go.WideShapes Go.ChangeAt Go.Joins Go.Deep Go.WideElems
set_option linter.unusedSimpArgs false
set_option linter.unusedVariables false

section
variable {H : Type} {enc : TypeId × Value → H} {P : Program} {w : World} {base : Nat} {held : Bool}
end
def mzK (z : Int) (t : Nat) : Int := (t : Int) + z
set_option maxHeartbeats 4000000 in
theorem markIntZ_any {lo hi n : Nat} {v : Value} {F : Nat → Int} {w : World} (z : Int) (hz0 : 1 ≤ z) (hz : z ≤ 100000000) (h : SRow lo hi 1 v n F w) :
  Calls Tryz.prog 23 #[v, .int .i64 z] w fun e w' => e = .returned (.int .i64 ((n : Int) * 1 + z)) ∧ SRow lo hi 1 v n (mzK z) w' ∧ Below lo w w' ∧ KeepV v w w' := by
 obtain ⟨hh, hm, h1⟩ := h
 by_cases hn : n = 0
 ·subst hn
  obtain ⟨ao, cap, rfl⟩ : ∃ ao cap, v = .slice ao 0 cap := by
   rcases h1 with ⟨_, ao, cap, rfl⟩ | ⟨g, cap, rfl, _⟩
   ·exact ⟨ao, cap, rfl⟩
   ·exact ⟨_, cap, rfl⟩
  clear h1
  go_enter Tryz.func23, Tryz.ntmps23
  go_wp2_with fail
  go_loopw [1, 5] (fun q i W => q = .int .i64 z ∧ i = .int .i64 ((0 : Nat) : Int) ∧ W = w) (fun _ _ _ => 0)
  case atStart => exact ⟨rfl, rfl, rfl⟩
  case round =>
   obtain ⟨rfl, rfl, rfl⟩ := hrel
   go_wp2
   go_ret
   exact ⟨ret_int (by omega), ⟨hh, hm, .inl ⟨rfl, ao, cap, rfl⟩⟩, Below.refl _ _, fun _ _ _ => rfl⟩
 ·obtain ⟨g, cap, rfl, hlo, hhi, r1⟩ := h1.resolve_left (fun h => hn h.1)
  clear h1
  have HM := Lib.hid hm
  clear hm hn
  have R1 := Lib.hid r1
  clear r1
  have HH := Lib.hid (show hi ≤ w.heap.size ∧ lo ≤ g ∧ g < hi from ⟨hh, hlo, hhi⟩)
  clear hh hlo hhi
  go_enter Tryz.func23, Tryz.ntmps23
  go_wp2_with fail
  go_loopw [1, 5] (fun q i W => ∃ k : Nat, q = .int .i64 ((k : Int) + z) ∧ i = .int .i64 (k : Int) ∧ k ≤ n ∧ IRow g (n * 1) (fun t => if t < k then (mzK z) t else F t) W ∧ Below lo w W ∧ KeepV (.slice (some ⟨g, 0, none⟩) n cap) w W) (fun _ i _ => n - (intOf i).toNat)
  case atStart => exact ⟨0, by simp, rfl, by omega, R1.out.ext (fun t _ => by simp), Below.refl _ _, fun _ _ _ => rfl⟩
  case round =>
   obtain ⟨k, rfl, rfl, hk, r1, hB, hKH⟩ := hrel
   by_cases hk1 : k < n
   ·have hk2 : (k : Int) < (n : Int) := by omega
    have hmx := HM.out
    have hkx : (k : Int) ≤ 2000000 := by omega
    have c0 := r1.at k (by omega)
    have f0 := r1.free k (by omega)
    generalize (fun t => if t < k then (mzK z) t else F t) k = x at c0
    have RR := Lib.hid r1
    clear r1
    go_wp2
    go_roundw
    case rel =>
     refine ⟨k + 1, by go_num, by go_num, by omega, (RR.out.put k (by omega) _).ext ?_, hB.setCell HH.out.2.1 _, fun b ho hb => (Below.heap_setCell _ _ _ _ (by intro e9; dsimp only at e9; subst e9; have := ho n cap rfl; omega)).trans (hKH b ho hb)⟩
     intro t ht
     simp only [mzK]
     repeat' split
     all_goals first | omega | rfl
    case measure => first | (simp [intOf]; done) | (simp [intOf]; omega)
   ·obtain rfl : k = n := by omega
    go_wp2
    go_ret
    exact ⟨ret_int (by omega), ⟨Nat.le_trans HH.out.1 hB.size, HM.out, .inr ⟨g, cap, rfl, HH.out.2.1, HH.out.2.2, r1.ext (fun t ht => by simp [show t < k by omega])⟩⟩, hB, hKH⟩
end Go.Proofs.YtdgophfembpniaaGreatDoor
