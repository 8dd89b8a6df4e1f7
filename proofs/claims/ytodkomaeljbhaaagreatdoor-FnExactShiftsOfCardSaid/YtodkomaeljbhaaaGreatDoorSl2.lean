/-
  Contracts of the laws' helpers on []impl.Vec: whether two slices hold the same, marks written into a slice, and whether they are there still. No condition.
-/
import Derived.Test.YtodkomaeljbhaaaGreatDoorGa
import Derived.Deep.RegionHeld3
import Derived.IntWalk
namespace Go.Proofs.YtodkomaeljbhaaaGreatDoor
open Go.RowKit
set_option linter.unusedSimpArgs false
set_option linter.unusedVariables false

def mark2 (t : Nat) : Int := (t : Int) + 1
set_option maxHeartbeats 4000000 in
theorem eqVecS_any {lo hi lo' hi' n : Nat} {v v' : Value} {F : Nat → Int} {w : World} (h1 : SRow lo hi 2 v n F w) (h2 : SRow lo' hi' 2 v' n F w) :
    Calls Tryz.prog 20 #[v, v'] w fun e w' => e = .returned (.bool true) ∧ Below w.heap.size w w' := by
  obtain ⟨_, hm, h1⟩ := h1
  obtain ⟨_, _, h2⟩ := h2
  by_cases hn : n = 0
  · subst hn
    obtain ⟨ao, cap, rfl⟩ : ∃ ao cap, v = .slice ao 0 cap := by
      rcases h1 with ⟨_, ao, cap, rfl⟩ | ⟨g, cap, rfl, _⟩
      · exact ⟨ao, cap, rfl⟩
      · exact ⟨_, cap, rfl⟩
    obtain ⟨ao', cap', rfl⟩ : ∃ ao cap, v' = .slice ao 0 cap := by
      rcases h2 with ⟨_, ao, cap, rfl⟩ | ⟨g, cap, rfl, _⟩
      · exact ⟨ao, cap, rfl⟩
      · exact ⟨_, cap, rfl⟩
    clear h1 h2
    go_enter Tryz.func20, Tryz.ntmps20
    go_wp2_with fail
    go_loopw [5] (fun i W => i = .int .i64 ((0 : Nat) : Int) ∧ W = w) (fun _ _ => 0)
    case atStart => exact ⟨rfl, rfl⟩
    case round =>
      obtain ⟨rfl, rfl⟩ := hrel
      go_wp2
      go_ret
      exact ⟨rfl, Below.refl _ _⟩
  · obtain ⟨g, cap, rfl, _, _, r1⟩ := h1.resolve_left (fun h => hn h.1)
    obtain ⟨g', cap', rfl, _, _, r2⟩ := h2.resolve_left (fun h => hn h.1)
    clear h1 h2
    have HM := Lib.hid hm
    clear hm hn
    have R1 := Lib.hid r1
    have R2 := Lib.hid r2
    clear r1 r2
    go_enter Tryz.func20, Tryz.ntmps20
    go_wp2_with fail
    go_loopw [5] (fun i W => ∃ k : Nat, i = .int .i64 (k : Int) ∧ k ≤ n ∧ Below w.heap.size w W) (fun i _ => n - (intOf i).toNat)
    case atStart => exact ⟨0, rfl, by omega, Below.refl _ _⟩
    case round =>
      obtain ⟨k, rfl, hk, hB⟩ := hrel
      by_cases hk1 : k < n
      · have hk2 : (k : Int) < (n : Int) := by omega
        have r1 := R1.out.grow hB R1.out.1
        have r2 := R2.out.grow hB R2.out.1
        have q1 := r1.ko2 (k * 2) (by omega)
        have q2 := r2.ko2 (k * 2) (by omega)
        have hmx := HM.out
        generalize F (k * 2) = x at *
        generalize F (k * 2 + 1) = y at *
        clear r1 r2
        have he : eqB x y x y = true := by simp [eqB]
        have s1 := q1.cells
        have s2 := q2.cells
        go_wp2_with fail
        go_region_held3 (fun W => (W.cell? ⟨g, k * 2, none⟩ = some (.int .i64 x) ∧ W.cell? ⟨g, k * 2 + 1, none⟩ = some (.int .i64 y)) ∧ (W.cell? ⟨g', k * 2, none⟩ = some (.int .i64 x) ∧ W.cell? ⟨g', k * 2 + 1, none⟩ = some (.int .i64 y))) ((refine And.intro (Ko2.cells ?_) (Ko2.cells ?_)) <;> repeat (first | assumption | with_reducible refine Ko2.drew ?_ | with_reducible refine Ko2.call ?_ (by assumption)))
          (first | (go_at_call 44; refine (eqVec_any _ _ _ _ _ ).mono ?_; rintro e u1 ⟨rfl, hb1⟩; have q1u : Ko2 g (k * 2) x y u1 := (by repeat (first | assumption | with_reducible refine Ko2.drew ?_ | with_reducible refine Ko2.call ?_ (by assumption))); have q2u : Ko2 g' (k * 2) x y u1 := (by repeat (first | assumption | with_reducible refine Ko2.drew ?_ | with_reducible refine Ko2.call ?_ (by assumption))); have B1 : Below w.heap.size w u1 := (by repeat (first | assumption | with_reducible refine Below.drew ?_ | with_reducible refine bstep ?_ (by assumption)))))
        all_goals
          clear s1 s2
          go_wp2
          go_roundw
          case rel => exact ⟨k + 1, by go_num, by omega, B1⟩
          case measure => first | (simp [intOf]; done) | (simp [intOf]; omega)
      · obtain rfl : k = n := by omega
        go_wp2
        go_ret
        exact ⟨rfl, hB⟩

set_option maxHeartbeats 4000000 in
theorem markVecS_any {lo hi n : Nat} {v : Value} {F : Nat → Int} {w : World} (h : SRow lo hi 2 v n F w) :
    Calls Tryz.prog 22 #[v, .int .i64 1] w fun e w' => e = .returned (.int .i64 ((n : Int) * 2 + 1)) ∧ SRow lo hi 2 v n mark2 w' ∧ Below lo w w' := by
  obtain ⟨hh, hm, h1⟩ := h
  by_cases hn : n = 0
  · subst hn
    obtain ⟨ao, cap, rfl⟩ : ∃ ao cap, v = .slice ao 0 cap := by
      rcases h1 with ⟨_, ao, cap, rfl⟩ | ⟨g, cap, rfl, _⟩
      · exact ⟨ao, cap, rfl⟩
      · exact ⟨_, cap, rfl⟩
    clear h1
    go_enter Tryz.func22, Tryz.ntmps22
    go_wp2_with fail
    go_loopw [1, 5] (fun q i W => q = .int .i64 1 ∧ i = .int .i64 ((0 : Nat) : Int) ∧ W = w) (fun _ _ _ => 0)
    case atStart => exact ⟨rfl, rfl, rfl⟩
    case round =>
      obtain ⟨rfl, rfl, rfl⟩ := hrel
      go_wp2
      go_ret
      exact ⟨rfl, ⟨hh, hm, .inl ⟨rfl, ao, cap, rfl⟩⟩, Below.refl _ _⟩
  · obtain ⟨g, cap, rfl, hlo, hhi, r1⟩ := h1.resolve_left (fun h => hn h.1)
    clear h1
    have HM := Lib.hid hm
    clear hm hn
    have R1 := Lib.hid r1
    clear r1
    have HH := Lib.hid (show hi ≤ w.heap.size ∧ lo ≤ g ∧ g < hi from ⟨hh, hlo, hhi⟩)
    clear hh hlo hhi
    go_enter Tryz.func22, Tryz.ntmps22
    go_wp2_with fail
    go_loopw [1, 5] (fun q i W => ∃ k : Nat, q = .int .i64 ((k : Int) * 2 + 1) ∧ i = .int .i64 (k : Int) ∧ k ≤ n ∧ IRow g (n * 2) (fun t => if t < k * 2 then mark2 t else F t) W ∧ Below lo w W) (fun _ i _ => n - (intOf i).toNat)
    case atStart => exact ⟨0, rfl, rfl, by omega, R1.out.ext (fun t _ => by simp), Below.refl _ _⟩
    case round =>
      obtain ⟨k, rfl, rfl, hk, r1, hB⟩ := hrel
      by_cases hk1 : k < n
      · have hk2 : (k : Int) < (n : Int) := by omega
        have hmx := HM.out
        have hkx : (k : Int) ≤ 2000000 := by omega
        have c0 := r1.at (k * 2) (by omega)
        have f0 := r1.free (k * 2) (by omega)
        have c1 := r1.at (k * 2 + 1) (by omega)
        have f1 := r1.free (k * 2 + 1) (by omega)
        generalize (fun t => if t < k * 2 then mark2 t else F t) (k * 2) = x at c0
        generalize (fun t => if t < k * 2 then mark2 t else F t) (k * 2 + 1) = y at c1
        have RR := Lib.hid r1
        clear r1
        go_wp2
        go_roundw
        case rel =>
          refine ⟨k + 1, by go_num, by go_num, by omega, ((RR.out.put (k * 2) (by omega) _).put (k * 2 + 1) (by omega) _).ext ?_, ((hB.setCell HH.out.2.1 _).setCell HH.out.2.1 _)⟩
          intro t ht
          simp only [mark2]
          repeat' split
          all_goals first | omega | rfl
        case measure => first | (simp [intOf]; done) | (simp [intOf]; omega)
      · obtain rfl : k = n := by omega
        go_wp2
        go_ret
        exact ⟨rfl, ⟨Nat.le_trans HH.out.1 hB.size, HM.out, .inr ⟨g, cap, rfl, HH.out.2.1, HH.out.2.2, r1.ext (fun t ht => by simp [ht])⟩⟩, hB⟩

set_option maxHeartbeats 4000000 in
theorem heldVecS_any {lo hi n : Nat} {v : Value} {w : World} (h : SRow lo hi 2 v n mark2 w) :
    Calls Tryz.prog 23 #[v, .int .i64 1] w fun e w' => e = .returned (.int .i64 ((n : Int) * 2 + 1)) ∧ Below w.heap.size w w' := by
  obtain ⟨hh, hm, h1⟩ := h
  by_cases hn : n = 0
  · subst hn
    obtain ⟨ao, cap, rfl⟩ : ∃ ao cap, v = .slice ao 0 cap := by
      rcases h1 with ⟨_, ao, cap, rfl⟩ | ⟨g, cap, rfl, _⟩
      · exact ⟨ao, cap, rfl⟩
      · exact ⟨_, cap, rfl⟩
    clear h1
    go_enter Tryz.func23, Tryz.ntmps23
    go_wp2_with fail
    go_loopw [1, 5] (fun q i W => q = .int .i64 1 ∧ i = .int .i64 ((0 : Nat) : Int) ∧ W = w) (fun _ _ _ => 0)
    case atStart => exact ⟨rfl, rfl, rfl⟩
    case round =>
      obtain ⟨rfl, rfl, rfl⟩ := hrel
      go_wp2
      go_ret
      exact ⟨rfl, Below.refl _ _⟩
  · obtain ⟨g, cap, rfl, hlo, hhi, r1⟩ := h1.resolve_left (fun h => hn h.1)
    clear h1
    have HM := Lib.hid hm
    clear hm hn hh hlo hhi
    have R1 := Lib.hid r1
    clear r1
    go_enter Tryz.func23, Tryz.ntmps23
    go_wp2_with fail
    go_loopw [1, 5] (fun q i W => ∃ k : Nat, q = .int .i64 ((k : Int) * 2 + 1) ∧ i = .int .i64 (k : Int) ∧ k ≤ n ∧ Below w.heap.size w W) (fun _ i _ => n - (intOf i).toNat)
    case atStart => exact ⟨0, rfl, rfl, by omega, Below.refl _ _⟩
    case round =>
      obtain ⟨k, rfl, rfl, hk, hB⟩ := hrel
      by_cases hk1 : k < n
      · have hk2 : (k : Int) < (n : Int) := by omega
        have hmx := HM.out
        have hkx : (k : Int) ≤ 2000000 := by omega
        have r1 := R1.out.grow hB R1.out.1
        have c0 : wr.cell? ⟨g, k * 2, none⟩ = some (.int .i64 ((k : Int) * 2 + 1)) := by rw [r1.at (k * 2) (by omega), show mark2 (k * 2) = (k : Int) * 2 + 1 by unfold mark2; omega]
        have c1 : wr.cell? ⟨g, k * 2 + 1, none⟩ = some (.int .i64 ((k : Int) * 2 + 1 + 1)) := by rw [r1.at (k * 2 + 1) (by omega), show mark2 (k * 2 + 1) = (k : Int) * 2 + 1 + 1 by unfold mark2; omega]
        clear r1
        go_wp2
        go_roundw
        case rel => exact ⟨k + 1, by go_num, by go_num, by omega, hB⟩
        case measure => first | (simp [intOf]; done) | (simp [intOf]; omega)
      · obtain rfl : k = n := by omega
        go_wp2
        go_ret
        exact ⟨rfl, hB⟩

end Go.Proofs.YtodkomaeljbhaaaGreatDoor
