/-
  Contract of the laws' comparison of two slices of matrices by Go's own '=='. No condition.
-/
import Derived.Test.YtkfeajjpbmbmpaaGreatDoorLike9
import Derived.Test.YtkfeajjpbmbmpaaGreatDoorSl4
namespace Go.Proofs.YtkfeajjpbmbmpaaGreatDoor
open Go.RowKit
set_option linter.unusedSimpArgs false
set_option linter.unusedVariables false

set_option maxHeartbeats 4000000 in
theorem likeMats9_any {lo hi lo' hi' n : Nat} {v v' : Value} {F : Nat → Int} {w : World} (h1 : SRow lo hi 4 v n F w) (h2 : SRow lo' hi' 4 v' n F w) :
    Calls Tryz.prog 37 #[v, v'] w fun e w' => e = .returned (.bool true) ∧ Below w.heap.size w w' := by
  obtain ⟨_, hm, h1⟩ := h1
  obtain ⟨_, _, h2⟩ := h2
  by_cases hn : n = 0
  · subst hn
    obtain ⟨ao, cap, rfl⟩ : ∃ ao cap, v = .slice ao 0 cap := by
      rcases h1 with ⟨_, ao, cap, rfl⟩ | ⟨g, cap, rfl, _⟩
      · exact ⟨ao, cap, rfl⟩
      · exact ⟨_, cap, rfl⟩
    obtain ⟨ao', cap', rfl⟩ : ∃ ao cap, v' = .slice ao 0 cap := by
      rcases h2 with ⟨_, ao, cap, rfl⟩ | ⟨g, cap, rfl, _⟩
      · exact ⟨ao, cap, rfl⟩
      · exact ⟨_, cap, rfl⟩
    clear h1 h2
    go_enter Tryz.func37, Tryz.ntmps37
    go_wp2_with fail
    go_loopw [5] (fun i W => i = .int .i64 ((0 : Nat) : Int) ∧ W = w) (fun _ _ => 0)
    case atStart => exact ⟨rfl, rfl⟩
    case round =>
      obtain ⟨rfl, rfl⟩ := hrel
      go_wp2
      go_ret
      exact ⟨rfl, Below.refl _ _⟩
  · obtain ⟨g, cap, rfl, _, _, r1⟩ := h1.resolve_left (fun h => hn h.1)
    obtain ⟨g', cap', rfl, _, _, r2⟩ := h2.resolve_left (fun h => hn h.1)
    clear h1 h2
    have HM := Lib.hid hm
    clear hm hn
    have R1 := Lib.hid r1
    have R2 := Lib.hid r2
    clear r1 r2
    go_enter Tryz.func37, Tryz.ntmps37
    go_wp2_with fail
    go_loopw [5] (fun i W => ∃ k : Nat, i = .int .i64 (k : Int) ∧ k ≤ n ∧ Below w.heap.size w W) (fun i _ => n - (intOf i).toNat)
    case atStart => exact ⟨0, rfl, by omega, Below.refl _ _⟩
    case round =>
      obtain ⟨k, rfl, hk, hB⟩ := hrel
      by_cases hk1 : k < n
      · have hk2 : (k : Int) < (n : Int) := by omega
        have r1 := R1.out.grow hB R1.out.1
        have r2 := R2.out.grow hB R2.out.1
        have s1 := (r1.ko4 (k * 4) (by omega)).cells
        have s2 := (r2.ko4 (k * 4) (by omega)).cells
        have hmx := HM.out
        generalize F (k * 4) = x at *
        generalize F (k * 4 + 1) = y at *
        generalize F (k * 4 + 2) = z at *
        generalize F (k * 4 + 3) = t at *
        clear r1 r2
        obtain ⟨a0, a1, a2, a3⟩ := s1
        obtain ⟨b0, b1, b2, b3⟩ := s2
        go_wp2_with fail
        go_region
        all_goals
          go_wp2
          go_roundw
          case rel => exact ⟨k + 1, by go_num, by omega, by first | exact hB | exact hB.drew⟩
          case measure => first | (simp [intOf]; done) | (simp [intOf]; omega)
      · obtain rfl : k = n := by omega
        go_wp2
        go_ret
        exact ⟨rfl, hB⟩

end Go.Proofs.YtkfeajjpbmbmpaaGreatDoor
