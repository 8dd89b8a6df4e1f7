/-
  Contracts of the laws' helpers on []int64: whether two slices hold the same, marks written into a slice, and whether they are there still. No condition.
-/
import Derived.Test.YtpejihckepaojaaRowF
import Derived.Deep.RegionHeld3
import Derived.IntWalk
import Derived.BigQuiet
import Derived.Deep.QuietTactic
import Derived.Test.YtpejihckepaojaaBase
namespace Go.Proofs.Ytpejihckepaojaa
open Go.RowKit
set_option linter.unusedSimpArgs false
set_option linter.unusedVariables false

def mark1 (t : Nat) : Int := (t : Int) + 1
set_option maxHeartbeats 4000000 in
theorem eqInt64S_any {lo hi lo' hi' n : Nat} {v v' : Value} {F : Nat → Int} {w : World} (h1 : SRow lo hi 1 v n F w) (h2 : SRow lo' hi' 1 v' n F w) :
    Calls Try.prog 21 #[v, v'] w fun e w' => e = .returned (.bool true) ∧ Below w.heap.size w w' := by
  obtain ⟨_, hm, h1⟩ := h1
  obtain ⟨_, _, h2⟩ := h2
  by_cases hn : n = 0
  · subst hn
    obtain ⟨ao, cap, rfl⟩ : ∃ ao cap, v = .slice ao 0 cap := by
      rcases h1 with ⟨_, ao, cap, rfl⟩ | ⟨g, cap, rfl, _⟩
      · exact ⟨ao, cap, rfl⟩
      · exact ⟨_, cap, rfl⟩
    obtain ⟨ao', cap', rfl⟩ : ∃ ao cap, v' = .slice ao 0 cap := by
      rcases h2 with ⟨_, ao, cap, rfl⟩ | ⟨g, cap, rfl, _⟩
      · exact ⟨ao, cap, rfl⟩
      · exact ⟨_, cap, rfl⟩
    clear h1 h2
    go_enter Try.func21, Try.ntmps21
    go_wp2_with fail
    go_loopw [5] (fun i W => i = .int .i64 ((0 : Nat) : Int) ∧ W = w) (fun _ _ => 0)
    case atStart => exact ⟨rfl, rfl⟩
    case round =>
      obtain ⟨rfl, rfl⟩ := hrel
      go_wp2
      go_ret
      exact ⟨rfl, Below.refl _ _⟩
  · obtain ⟨g, cap, rfl, _, _, r1⟩ := h1.resolve_left (fun h => hn h.1)
    obtain ⟨g', cap', rfl, _, _, r2⟩ := h2.resolve_left (fun h => hn h.1)
    clear h1 h2
    have HM := Lib.hid hm
    clear hm hn
    have R1 := Lib.hid r1
    have R2 := Lib.hid r2
    clear r1 r2
    go_enter Try.func21, Try.ntmps21
    go_wp2_with fail
    go_loopw [5] (fun i W => ∃ k : Nat, i = .int .i64 (k : Int) ∧ k ≤ n ∧ Below w.heap.size w W) (fun i _ => n - (intOf i).toNat)
    case atStart => exact ⟨0, rfl, by omega, Below.refl _ _⟩
    case round =>
      obtain ⟨k, rfl, hk, hB⟩ := hrel
      by_cases hk1 : k < n
      · have hk2 : (k : Int) < (n : Int) := by omega
        have r1 := R1.out.grow hB R1.out.1
        have r2 := R2.out.grow hB R2.out.1
        have s1 := r1.at k (by omega)
        have s2 := r2.at k (by omega)
        have hmx := HM.out
        generalize F k = x at *
        clear r1 r2
        have hne : (x != x) = false := by simp
        go_wp2_with fail
        go_quiet (fail)
        go_wp2
        go_roundw
        case rel => exact ⟨k + 1, by go_num, by omega, below_drewN hB _⟩
        case measure => first | (simp [intOf]; done) | (simp [intOf]; omega)
      · obtain rfl : k = n := by omega
        go_wp2
        go_ret
        exact ⟨rfl, hB⟩

set_option maxHeartbeats 4000000 in
theorem markInt64S_any {lo hi n : Nat} {v : Value} {F : Nat → Int} {w : World} (h : SRow lo hi 1 v n F w) :
    Calls Try.prog 23 #[v, .int .i64 1] w fun e w' => e = .returned (.int .i64 ((n : Int) * 1 + 1)) ∧ SRow lo hi 1 v n mark1 w' ∧ Below lo w w' := by
  obtain ⟨hh, hm, h1⟩ := h
  by_cases hn : n = 0
  · subst hn
    obtain ⟨ao, cap, rfl⟩ : ∃ ao cap, v = .slice ao 0 cap := by
      rcases h1 with ⟨_, ao, cap, rfl⟩ | ⟨g, cap, rfl, _⟩
      · exact ⟨ao, cap, rfl⟩
      · exact ⟨_, cap, rfl⟩
    clear h1
    go_enter Try.func23, Try.ntmps23
    go_wp2_with fail
    go_loopw [1, 5] (fun q i W => q = .int .i64 1 ∧ i = .int .i64 ((0 : Nat) : Int) ∧ W = w) (fun _ _ _ => 0)
    case atStart => exact ⟨rfl, rfl, rfl⟩
    case round =>
      obtain ⟨rfl, rfl, rfl⟩ := hrel
      go_wp2
      go_ret
      exact ⟨rfl, ⟨hh, hm, .inl ⟨rfl, ao, cap, rfl⟩⟩, Below.refl _ _⟩
  · obtain ⟨g, cap, rfl, hlo, hhi, r1⟩ := h1.resolve_left (fun h => hn h.1)
    clear h1
    have HM := Lib.hid hm
    clear hm hn
    have R1 := Lib.hid r1
    clear r1
    have HH := Lib.hid (show hi ≤ w.heap.size ∧ lo ≤ g ∧ g < hi from ⟨hh, hlo, hhi⟩)
    clear hh hlo hhi
    go_enter Try.func23, Try.ntmps23
    go_wp2_with fail
    go_loopw [1, 5] (fun q i W => ∃ k : Nat, q = .int .i64 ((k : Int) + 1) ∧ i = .int .i64 (k : Int) ∧ k ≤ n ∧ IRow g (n * 1) (fun t => if t < k then mark1 t else F t) W ∧ Below lo w W) (fun _ i _ => n - (intOf i).toNat)
    case atStart => exact ⟨0, rfl, rfl, by omega, R1.out.ext (fun t _ => by simp), Below.refl _ _⟩
    case round =>
      obtain ⟨k, rfl, rfl, hk, r1, hB⟩ := hrel
      by_cases hk1 : k < n
      · have hk2 : (k : Int) < (n : Int) := by omega
        have hmx := HM.out
        have hkx : (k : Int) ≤ 2000000 := by omega
        have c0 := r1.at k (by omega)
        have f0 := r1.free k (by omega)
        generalize (fun t => if t < k then mark1 t else F t) k = x at c0
        have RR := Lib.hid r1
        clear r1
        go_wp2
        go_roundw
        case rel =>
          refine ⟨k + 1, by go_num, by go_num, by omega, (RR.out.put k (by omega) _).ext ?_, hB.setCell HH.out.2.1 _⟩
          intro t ht
          simp only [mark1]
          repeat' split
          all_goals first | omega | rfl
        case measure => first | (simp [intOf]; done) | (simp [intOf]; omega)
      · obtain rfl : k = n := by omega
        go_wp2
        go_ret
        exact ⟨ret_int (by omega), ⟨Nat.le_trans HH.out.1 hB.size, HM.out, .inr ⟨g, cap, rfl, HH.out.2.1, HH.out.2.2, r1.ext (fun t ht => by simp [show t < k by omega])⟩⟩, hB⟩

set_option maxHeartbeats 4000000 in
theorem heldInt64S_any {lo hi n : Nat} {v : Value} {w : World} (h : SRow lo hi 1 v n mark1 w) :
    Calls Try.prog 24 #[v, .int .i64 1] w fun e w' => e = .returned (.int .i64 ((n : Int) * 1 + 1)) ∧ Below w.heap.size w w' := by
  obtain ⟨hh, hm, h1⟩ := h
  by_cases hn : n = 0
  · subst hn
    obtain ⟨ao, cap, rfl⟩ : ∃ ao cap, v = .slice ao 0 cap := by
      rcases h1 with ⟨_, ao, cap, rfl⟩ | ⟨g, cap, rfl, _⟩
      · exact ⟨ao, cap, rfl⟩
      · exact ⟨_, cap, rfl⟩
    clear h1
    go_enter Try.func24, Try.ntmps24
    go_wp2_with fail
    go_loopw [1, 5] (fun q i W => q = .int .i64 1 ∧ i = .int .i64 ((0 : Nat) : Int) ∧ W = w) (fun _ _ _ => 0)
    case atStart => exact ⟨rfl, rfl, rfl⟩
    case round =>
      obtain ⟨rfl, rfl, rfl⟩ := hrel
      go_wp2
      go_ret
      exact ⟨rfl, Below.refl _ _⟩
  · obtain ⟨g, cap, rfl, hlo, hhi, r1⟩ := h1.resolve_left (fun h => hn h.1)
    clear h1
    have HM := Lib.hid hm
    clear hm hn hh hlo hhi
    have R1 := Lib.hid r1
    clear r1
    go_enter Try.func24, Try.ntmps24
    go_wp2_with fail
    go_loopw [1, 5] (fun q i W => ∃ k : Nat, q = .int .i64 ((k : Int) + 1) ∧ i = .int .i64 (k : Int) ∧ k ≤ n ∧ Below w.heap.size w W) (fun _ i _ => n - (intOf i).toNat)
    case atStart => exact ⟨0, rfl, rfl, by omega, Below.refl _ _⟩
    case round =>
      obtain ⟨k, rfl, rfl, hk, hB⟩ := hrel
      by_cases hk1 : k < n
      · have hk2 : (k : Int) < (n : Int) := by omega
        have hmx := HM.out
        have hkx : (k : Int) ≤ 2000000 := by omega
        have r1 := R1.out.grow hB R1.out.1
        have c0 : wr.cell? ⟨g, k, none⟩ = some (.int .i64 ((k : Int) + 1)) := by rw [r1.at k (by omega)]; rfl
        clear r1
        go_wp2
        go_roundw
        case rel => exact ⟨k + 1, by go_num, by go_num, by omega, hB⟩
        case measure => first | (simp [intOf]; done) | (simp [intOf]; omega)
      · obtain rfl : k = n := by omega
        go_wp2
        go_ret
        exact ⟨ret_int (by omega), hB⟩

end Go.Proofs.Ytpejihckepaojaa
