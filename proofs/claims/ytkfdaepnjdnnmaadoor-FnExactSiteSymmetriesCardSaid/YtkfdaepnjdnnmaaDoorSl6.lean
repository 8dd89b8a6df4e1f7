/-
  Contracts of the laws' helpers on []impl.Motion: whether two slices hold the same, marks written into a slice, and whether they are there still. No condition.
-/
import Derived.Test.YtkfdaepnjdnnmaaDoorGc
namespace Go.Proofs.YtkfdaepnjdnnmaaDoor
open Go.RowKit
set_option linter.unusedSimpArgs false
set_option linter.unusedVariables false

def mark6 (t : Nat) : Int := (t : Int) + 1
set_option maxHeartbeats 8000000 in
theorem eqMotionS_any {lo hi lo' hi' n : Nat} {v v' : Value} {F : Nat → Int} {w : World} (h1 : SRow lo hi 6 v n F w) (h2 : SRow lo' hi' 6 v' n F w) :
    Calls Tryd.prog 13 #[v, v'] w fun e w' => e = .returned (.bool true) ∧ Below w.heap.size w w' := by
  obtain ⟨_, hm, h1⟩ := h1
  obtain ⟨_, _, h2⟩ := h2
  by_cases hn : n = 0
  · subst hn
    obtain ⟨ao, cap, rfl⟩ : ∃ ao cap, v = .slice ao 0 cap := by
      rcases h1 with ⟨_, ao, cap, rfl⟩ | ⟨g, cap, rfl, _⟩
      · exact ⟨ao, cap, rfl⟩
      · exact ⟨_, cap, rfl⟩
    obtain ⟨ao', cap', rfl⟩ : ∃ ao cap, v' = .slice ao 0 cap := by
      rcases h2 with ⟨_, ao', cap', rfl⟩ | ⟨g, cap', rfl, _⟩
      · exact ⟨ao', cap', rfl⟩
      · exact ⟨_, cap', rfl⟩
    clear h1 h2
    go_enter Tryd.func13, Tryd.ntmps13
    go_wp2_with fail
    go_loopw [5] (fun i W => i = .int .i64 ((0 : Nat) : Int) ∧ W = w) (fun _ _ => 0)
    case atStart => exact ⟨rfl, rfl⟩
    case round =>
      obtain ⟨rfl, rfl⟩ := hrel
      go_wp2
      go_ret
      exact ⟨rfl, Below.refl _ _⟩
  · obtain ⟨g, cap, rfl, _, _, r1⟩ := h1.resolve_left (fun h => hn h.1)
    obtain ⟨g', cap', rfl, _, _, r2⟩ := h2.resolve_left (fun h => hn h.1)
    clear h1 h2
    have HM := Lib.hid hm
    clear hm hn
    have R1 := Lib.hid r1
    have R2 := Lib.hid r2
    clear r1 r2
    go_enter Tryd.func13, Tryd.ntmps13
    go_wp2_with fail
    go_loopw [5] (fun i W => ∃ k : Nat, i = .int .i64 (k : Int) ∧ k ≤ n ∧ Below w.heap.size w W) (fun i _ => n - (intOf i).toNat)
    case atStart => exact ⟨0, rfl, by omega, Below.refl _ _⟩
    case round =>
      obtain ⟨k, rfl, hk, hB⟩ := hrel
      by_cases hk1 : k < n
      · have hk2 : (k : Int) < (n : Int) := by omega
        have r1 := R1.out.grow hB R1.out.1
        have r2 := R2.out.grow hB R2.out.1
        have q1 := r1.ko6 (k * 6) (by omega)
        have q2 := r2.ko6 (k * 6) (by omega)
        have hmx := HM.out
        generalize F (k * 6) = a at *
        generalize F (k * 6 + 1) = b at *
        generalize F (k * 6 + 2) = c at *
        generalize F (k * 6 + 3) = d at *
        generalize F (k * 6 + 4) = x at *
        generalize F (k * 6 + 5) = y at *
        clear r1 r2
        have s1 := q1.cells
        have s2 := q2.cells
        go_wp2_with fail
        go_region_held3 (fun W => (W.cell? ⟨g, k * 6, none⟩ = some (.int .i64 a) ∧ W.cell? ⟨g, k * 6 + 1, none⟩ = some (.int .i64 b) ∧ W.cell? ⟨g, k * 6 + 2, none⟩ = some (.int .i64 c) ∧ W.cell? ⟨g, k * 6 + 3, none⟩ = some (.int .i64 d) ∧ W.cell? ⟨g, k * 6 + 4, none⟩ = some (.int .i64 x) ∧ W.cell? ⟨g, k * 6 + 5, none⟩ = some (.int .i64 y)) ∧ (W.cell? ⟨g', k * 6, none⟩ = some (.int .i64 a) ∧ W.cell? ⟨g', k * 6 + 1, none⟩ = some (.int .i64 b) ∧ W.cell? ⟨g', k * 6 + 2, none⟩ = some (.int .i64 c) ∧ W.cell? ⟨g', k * 6 + 3, none⟩ = some (.int .i64 d) ∧ W.cell? ⟨g', k * 6 + 4, none⟩ = some (.int .i64 x) ∧ W.cell? ⟨g', k * 6 + 5, none⟩ = some (.int .i64 y))) ((refine And.intro (Ko6.cells ?_) (Ko6.cells ?_)) <;> repeat (first | assumption | with_reducible refine Ko6.drew ?_ | with_reducible refine Ko6.call ?_ (by assumption)))
          (first | (go_at_call 44; refine (eqMotion_any _ _ _ _ _ _ _).mono ?_; rintro e u1 ⟨rfl, hb1⟩; have q1u : Ko6 g (k * 6) a b c d x y u1 := (by repeat (first | assumption | with_reducible refine Ko6.drew ?_ | with_reducible refine Ko6.call ?_ (by assumption))); have q2u : Ko6 g' (k * 6) a b c d x y u1 := (by repeat (first | assumption | with_reducible refine Ko6.drew ?_ | with_reducible refine Ko6.call ?_ (by assumption))); have B1 : Below w.heap.size w u1 := (by repeat (first | assumption | with_reducible refine Below.drew ?_ | with_reducible refine bstep ?_ (by assumption)))))
        all_goals
          clear s1 s2
          go_wp2
          go_roundw
          case rel => exact ⟨k + 1, by go_num, by omega, B1⟩
          case measure => first | (simp [intOf]; done) | (simp [intOf]; omega)
      · obtain rfl : k = n := by omega
        go_wp2
        go_ret
        exact ⟨rfl, hB⟩

set_option maxHeartbeats 8000000 in
theorem markMotionS_at {lo hi n : Nat} {v : Value} {F : Nat → Int} {w : World} (z : Int) (hz0 : 1 ≤ z) (hz : z ≤ 100000000) (h : SRow lo hi 6 v n F w) :
    Calls Tryd.prog 16 #[v, .int .i64 z] w fun e w' => e = .returned (.int .i64 ((n : Int) * 6 + z)) ∧ SRow lo hi 6 v n (fun t => (t : Int) + z) w' ∧ Below lo w w' := by
  obtain ⟨hh, hm, h1⟩ := h
  by_cases hn : n = 0
  · subst hn
    obtain ⟨ao, cap, rfl⟩ : ∃ ao cap, v = .slice ao 0 cap := by
      rcases h1 with ⟨_, ao, cap, rfl⟩ | ⟨g, cap, rfl, _⟩
      · exact ⟨ao, cap, rfl⟩
      · exact ⟨_, cap, rfl⟩
    clear h1
    have e0 : (((0 : Nat) : Int) * 6 + z) = z := by omega
    rw [e0]
    go_enter Tryd.func16, Tryd.ntmps16
    go_wp2_with fail
    go_loopw [1, 5] (fun q i W => q = .int .i64 z ∧ i = .int .i64 ((0 : Nat) : Int) ∧ W = w) (fun _ _ _ => 0)
    case atStart => exact ⟨rfl, rfl, rfl⟩
    case round =>
      obtain ⟨rfl, rfl, rfl⟩ := hrel
      go_wp2
      go_ret
      exact ⟨rfl, ⟨hh, hm, .inl ⟨rfl, ao, cap, rfl⟩⟩, Below.refl _ _⟩
  · obtain ⟨g, cap, rfl, hlo, hhi, r1⟩ := h1.resolve_left (fun h => hn h.1)
    clear h1
    have HM := Lib.hid hm
    clear hm hn
    have R1 := Lib.hid r1
    clear r1
    have HH := Lib.hid (show hi ≤ w.heap.size ∧ lo ≤ g ∧ g < hi from ⟨hh, hlo, hhi⟩)
    clear hh hlo hhi
    go_enter Tryd.func16, Tryd.ntmps16
    go_wp2_with fail
    go_loopw [1, 5] (fun q i W => ∃ k : Nat, q = .int .i64 ((k : Int) * 6 + z) ∧ i = .int .i64 (k : Int) ∧ k ≤ n ∧ IRow g (n * 6) (fun t => if t < k * 6 then (t : Int) + z else F t) W ∧ Below lo w W) (fun _ i _ => n - (intOf i).toNat)
    case atStart => exact ⟨0, by simp, rfl, by omega, R1.out.ext (fun t _ => by simp), Below.refl _ _⟩
    case round =>
      obtain ⟨k, rfl, rfl, hk, r1, hB⟩ := hrel
      by_cases hk1 : k < n
      · have hk2 : (k : Int) < (n : Int) := by omega
        have hmx := HM.out
        have hkx : (k : Int) ≤ 2000000 := by omega
        have c0 := r1.at (k * 6) (by omega)
        have f0 := r1.free (k * 6) (by omega)
        have c1 := r1.at (k * 6 + 1) (by omega)
        have f1 := r1.free (k * 6 + 1) (by omega)
        have c2 := r1.at (k * 6 + 2) (by omega)
        have f2 := r1.free (k * 6 + 2) (by omega)
        have c3 := r1.at (k * 6 + 3) (by omega)
        have f3 := r1.free (k * 6 + 3) (by omega)
        have c4 := r1.at (k * 6 + 4) (by omega)
        have f4 := r1.free (k * 6 + 4) (by omega)
        have c5 := r1.at (k * 6 + 5) (by omega)
        have f5 := r1.free (k * 6 + 5) (by omega)
        generalize (fun t => if t < k * 6 then (t : Int) + z else F t) (k * 6) = a at c0
        generalize (fun t => if t < k * 6 then (t : Int) + z else F t) (k * 6 + 1) = b at c1
        generalize (fun t => if t < k * 6 then (t : Int) + z else F t) (k * 6 + 2) = c at c2
        generalize (fun t => if t < k * 6 then (t : Int) + z else F t) (k * 6 + 3) = d at c3
        generalize (fun t => if t < k * 6 then (t : Int) + z else F t) (k * 6 + 4) = x at c4
        generalize (fun t => if t < k * 6 then (t : Int) + z else F t) (k * 6 + 5) = y at c5
        have RR := Lib.hid r1
        clear r1
        go_wp2
        go_roundw
        case rel =>
          refine ⟨k + 1, by go_num, by go_num, by omega, (((((((RR.out.put (k * 6) (by omega) _).put (k * 6 + 1) (by omega) _).put (k * 6 + 2) (by omega) _).put (k * 6 + 3) (by omega) _).put (k * 6 + 4) (by omega) _).put (k * 6 + 5) (by omega) _)).ext ?_, ((((((hB.setCell HH.out.2.1 _).setCell HH.out.2.1 _).setCell HH.out.2.1 _).setCell HH.out.2.1 _).setCell HH.out.2.1 _).setCell HH.out.2.1 _)⟩
          intro t ht
          repeat' split
          all_goals first | omega | rfl
        case measure => first | (simp [intOf]; done) | (simp [intOf]; omega)
      · obtain rfl : k = n := by omega
        go_wp2
        go_ret
        exact ⟨rfl, ⟨Nat.le_trans HH.out.1 hB.size, HM.out, .inr ⟨g, cap, rfl, HH.out.2.1, HH.out.2.2, r1.ext (fun t ht => by simp [ht])⟩⟩, hB⟩

set_option maxHeartbeats 8000000 in
theorem heldMotionS_any {lo hi n : Nat} {v : Value} {w : World} (h : SRow lo hi 6 v n mark6 w) :
    Calls Tryd.prog 17 #[v, .int .i64 1] w fun e w' => e = .returned (.int .i64 ((n : Int) * 6 + 1)) ∧ Below w.heap.size w w' := by
  obtain ⟨hh, hm, h1⟩ := h
  by_cases hn : n = 0
  · subst hn
    obtain ⟨ao, cap, rfl⟩ : ∃ ao cap, v = .slice ao 0 cap := by
      rcases h1 with ⟨_, ao, cap, rfl⟩ | ⟨g, cap, rfl, _⟩
      · exact ⟨ao, cap, rfl⟩
      · exact ⟨_, cap, rfl⟩
    clear h1
    go_enter Tryd.func17, Tryd.ntmps17
    go_wp2_with fail
    go_loopw [1, 5] (fun q i W => q = .int .i64 1 ∧ i = .int .i64 ((0 : Nat) : Int) ∧ W = w) (fun _ _ _ => 0)
    case atStart => exact ⟨rfl, rfl, rfl⟩
    case round =>
      obtain ⟨rfl, rfl, rfl⟩ := hrel
      go_wp2
      go_ret
      exact ⟨rfl, Below.refl _ _⟩
  · obtain ⟨g, cap, rfl, hlo, hhi, r1⟩ := h1.resolve_left (fun h => hn h.1)
    clear h1
    have HM := Lib.hid hm
    clear hm hn hh hlo hhi
    have R1 := Lib.hid r1
    clear r1
    go_enter Tryd.func17, Tryd.ntmps17
    go_wp2_with fail
    go_loopw [1, 5] (fun q i W => ∃ k : Nat, q = .int .i64 ((k : Int) * 6 + 1) ∧ i = .int .i64 (k : Int) ∧ k ≤ n ∧ Below w.heap.size w W) (fun _ i _ => n - (intOf i).toNat)
    case atStart => exact ⟨0, rfl, rfl, by omega, Below.refl _ _⟩
    case round =>
      obtain ⟨k, rfl, rfl, hk, hB⟩ := hrel
      by_cases hk1 : k < n
      · have hk2 : (k : Int) < (n : Int) := by omega
        have hmx := HM.out
        have hkx : (k : Int) ≤ 2000000 := by omega
        have r1 := R1.out.grow hB R1.out.1
        have c0 : wr.cell? ⟨g, k * 6, none⟩ = some (.int .i64 ((k : Int) * 6 + 1)) := by rw [r1.at (k * 6) (by omega), show mark6 (k * 6) = (k : Int) * 6 + 1 by unfold mark6; omega]
        have c1 : wr.cell? ⟨g, k * 6 + 1, none⟩ = some (.int .i64 ((k : Int) * 6 + 1 + 1)) := by rw [r1.at (k * 6 + 1) (by omega), show mark6 (k * 6 + 1) = (k : Int) * 6 + 1 + 1 by unfold mark6; omega]
        have c2 : wr.cell? ⟨g, k * 6 + 2, none⟩ = some (.int .i64 ((k : Int) * 6 + 1 + 1 + 1)) := by rw [r1.at (k * 6 + 2) (by omega), show mark6 (k * 6 + 2) = (k : Int) * 6 + 1 + 1 + 1 by unfold mark6; omega]
        have c3 : wr.cell? ⟨g, k * 6 + 3, none⟩ = some (.int .i64 ((k : Int) * 6 + 1 + 1 + 1 + 1)) := by rw [r1.at (k * 6 + 3) (by omega), show mark6 (k * 6 + 3) = (k : Int) * 6 + 1 + 1 + 1 + 1 by unfold mark6; omega]
        have c4 : wr.cell? ⟨g, k * 6 + 4, none⟩ = some (.int .i64 ((k : Int) * 6 + 1 + 1 + 1 + 1 + 1)) := by rw [r1.at (k * 6 + 4) (by omega), show mark6 (k * 6 + 4) = (k : Int) * 6 + 1 + 1 + 1 + 1 + 1 by unfold mark6; omega]
        have c5 : wr.cell? ⟨g, k * 6 + 5, none⟩ = some (.int .i64 ((k : Int) * 6 + 1 + 1 + 1 + 1 + 1 + 1)) := by rw [r1.at (k * 6 + 5) (by omega), show mark6 (k * 6 + 5) = (k : Int) * 6 + 1 + 1 + 1 + 1 + 1 + 1 by unfold mark6; omega]
        clear r1
        go_wp2
        go_roundw
        case rel => exact ⟨k + 1, by go_num, by go_num, by omega, hB⟩
        case measure => first | (simp [intOf]; done) | (simp [intOf]; omega)
      · obtain rfl : k = n := by omega
        go_wp2
        go_ret
        exact ⟨rfl, hB⟩

end Go.Proofs.YtkfdaepnjdnnmaaDoor
