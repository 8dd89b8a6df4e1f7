/-
  Marks written into a slice of motions leave every other block as it is. No condition.
-/
import Derived.Test.YtkfdaepnjdnnmaaDoorSl6
namespace Go.Proofs.YtkfdaepnjdnnmaaDoor
open Go.RowKit
set_option linter.unusedSimpArgs false
set_option linter.unusedVariables false

/- all blocks from hi on are as they were -/
def KeepHi (hi : Nat) (W W' : World) : Prop := ∀ b, hi ≤ b → W'.heap[b]? = W.heap[b]?
theorem SRow.keepHi {hi lo' hi' K n : Nat} {v : Value} {F : Nat → Int} {W w1 : World} (h : SRow lo' hi' K v n F W) (hk : KeepHi hi W w1) (hl : hi ≤ lo') (hs : W.heap.size ≤ w1.heap.size) : SRow lo' hi' K v n F w1 := by
  obtain ⟨h1, h2, h3⟩ := h
  refine ⟨Nat.le_trans h1 hs, h2, ?_⟩
  rcases h3 with h3 | ⟨g, cap, rfl, hg, hg2, r⟩
  · exact .inl h3
  · have hh := hk g (by omega)
    refine .inr ⟨g, cap, rfl, hg, hg2, Nat.lt_of_lt_of_le r.1 hs, fun t ht => ⟨(World.cell?_of_block (w := W) hh).trans (r.at t ht), (World.frozen?_of_block (w := W) hh).trans (r.free t ht)⟩⟩
set_option maxHeartbeats 8000000 in
theorem markMotionS_off {lo hi n : Nat} {v : Value} {F : Nat → Int} {w : World} (z : Int) (hz0 : 1 ≤ z) (hz : z ≤ 100000000) (h : SRow lo hi 6 v n F w) :
    Calls Tryd.prog 16 #[v, .int .i64 z] w fun e w' => e = .returned (.int .i64 ((n : Int) * 6 + z)) ∧ SRow lo hi 6 v n (fun t => (t : Int) + z) w' ∧ Below lo w w' ∧ KeepHi hi w w' := by
  obtain ⟨hh, hm, h1⟩ := h
  by_cases hn : n = 0
  · subst hn
    obtain ⟨ao, cap, rfl⟩ : ∃ ao cap, v = .slice ao 0 cap := by
      rcases h1 with ⟨_, ao, cap, rfl⟩ | ⟨g, cap, rfl, _⟩
      · exact ⟨ao, cap, rfl⟩
      · exact ⟨_, cap, rfl⟩
    clear h1
    have e0 : (((0 : Nat) : Int) * 6 + z) = z := by omega
    rw [e0]
    go_enter Tryd.func16, Tryd.ntmps16
    go_wp2_with fail
    go_loopw [1, 5] (fun q i W => q = .int .i64 z ∧ i = .int .i64 ((0 : Nat) : Int) ∧ W = w) (fun _ _ _ => 0)
    case atStart => exact ⟨rfl, rfl, rfl⟩
    case round =>
      obtain ⟨rfl, rfl, rfl⟩ := hrel
      go_wp2
      go_ret
      exact ⟨rfl, ⟨hh, hm, .inl ⟨rfl, ao, cap, rfl⟩⟩, Below.refl _ _, fun _ _ => rfl⟩
  · obtain ⟨g, cap, rfl, hlo, hhi, r1⟩ := h1.resolve_left (fun h => hn h.1)
    clear h1
    have HM := Lib.hid hm
    clear hm hn
    have R1 := Lib.hid r1
    clear r1
    have HH := Lib.hid (show hi ≤ w.heap.size ∧ lo ≤ g ∧ g < hi from ⟨hh, hlo, hhi⟩)
    clear hh hlo hhi
    go_enter Tryd.func16, Tryd.ntmps16
    go_wp2_with fail
    go_loopw [1, 5] (fun q i W => ∃ k : Nat, q = .int .i64 ((k : Int) * 6 + z) ∧ i = .int .i64 (k : Int) ∧ k ≤ n ∧ IRow g (n * 6) (fun t => if t < k * 6 then (t : Int) + z else F t) W ∧ Below lo w W ∧ KeepHi hi w W) (fun _ i _ => n - (intOf i).toNat)
    case atStart => exact ⟨0, by simp, rfl, by omega, R1.out.ext (fun t _ => by simp), Below.refl _ _, fun _ _ => rfl⟩
    case round =>
      obtain ⟨k, rfl, rfl, hk, r1, hB, hKH⟩ := hrel
      by_cases hk1 : k < n
      · have hk2 : (k : Int) < (n : Int) := by omega
        have hmx := HM.out
        have hkx : (k : Int) ≤ 2000000 := by omega
        have c0 := r1.at (k * 6) (by omega)
        have f0 := r1.free (k * 6) (by omega)
        have c1 := r1.at (k * 6 + 1) (by omega)
        have f1 := r1.free (k * 6 + 1) (by omega)
        have c2 := r1.at (k * 6 + 2) (by omega)
        have f2 := r1.free (k * 6 + 2) (by omega)
        have c3 := r1.at (k * 6 + 3) (by omega)
        have f3 := r1.free (k * 6 + 3) (by omega)
        have c4 := r1.at (k * 6 + 4) (by omega)
        have f4 := r1.free (k * 6 + 4) (by omega)
        have c5 := r1.at (k * 6 + 5) (by omega)
        have f5 := r1.free (k * 6 + 5) (by omega)
        generalize (fun t => if t < k * 6 then (t : Int) + z else F t) (k * 6) = a at c0
        generalize (fun t => if t < k * 6 then (t : Int) + z else F t) (k * 6 + 1) = b at c1
        generalize (fun t => if t < k * 6 then (t : Int) + z else F t) (k * 6 + 2) = c at c2
        generalize (fun t => if t < k * 6 then (t : Int) + z else F t) (k * 6 + 3) = d at c3
        generalize (fun t => if t < k * 6 then (t : Int) + z else F t) (k * 6 + 4) = x at c4
        generalize (fun t => if t < k * 6 then (t : Int) + z else F t) (k * 6 + 5) = y at c5
        have RR := Lib.hid r1
        clear r1
        go_wp2
        go_roundw
        case rel =>
          refine ⟨k + 1, by go_num, by go_num, by omega, (((((((RR.out.put (k * 6) (by omega) _).put (k * 6 + 1) (by omega) _).put (k * 6 + 2) (by omega) _).put (k * 6 + 3) (by omega) _).put (k * 6 + 4) (by omega) _).put (k * 6 + 5) (by omega) _)).ext ?_, ((((((hB.setCell HH.out.2.1 _).setCell HH.out.2.1 _).setCell HH.out.2.1 _).setCell HH.out.2.1 _).setCell HH.out.2.1 _).setCell HH.out.2.1 _), fun b hb => by have hbg := HH.out.2.2; exact ((Below.heap_setCell _ _ _ _ (by dsimp only; omega)).trans ((Below.heap_setCell _ _ _ _ (by dsimp only; omega)).trans ((Below.heap_setCell _ _ _ _ (by dsimp only; omega)).trans ((Below.heap_setCell _ _ _ _ (by dsimp only; omega)).trans ((Below.heap_setCell _ _ _ _ (by dsimp only; omega)).trans ((Below.heap_setCell _ _ _ _ (by dsimp only; omega)).trans (hKH b hb)))))))⟩
          intro t ht
          repeat' split
          all_goals first | omega | rfl
        case measure => first | (simp [intOf]; done) | (simp [intOf]; omega)
      · obtain rfl : k = n := by omega
        go_wp2
        go_ret
        exact ⟨rfl, ⟨Nat.le_trans HH.out.1 hB.size, HM.out, .inr ⟨g, cap, rfl, HH.out.2.1, HH.out.2.2, r1.ext (fun t ht => by simp [ht])⟩⟩, hB, hKH⟩

end Go.Proofs.YtkfdaepnjdnnmaaDoor
