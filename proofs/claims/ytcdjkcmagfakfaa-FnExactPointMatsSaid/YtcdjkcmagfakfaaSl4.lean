/-
  Contracts of the laws' helpers on []impl.Mat: whether two slices hold the same, marks written into a slice, and whether they are there still. No condition.
-/
import Derived.Test.YtcdjkcmagfakfaaRowF
import Derived.Deep.RegionHeld3
import Derived.IntWalk
import Derived.Test.YtcdjkcmagfakfaaMat1
namespace Go.Proofs.Ytcdjkcmagfakfaa
open Go.RowKit
set_option linter.unusedSimpArgs false
set_option linter.unusedVariables false

def Ko4 (g o : Nat) (a b c d : Int) (W : World) : Prop := g < W.heap.size ∧ W.cell? ⟨g, o, none⟩ = some (.int .i64 a) ∧ W.cell? ⟨g, o + 1, none⟩ = some (.int .i64 b) ∧ W.cell? ⟨g, o + 2, none⟩ = some (.int .i64 c) ∧ W.cell? ⟨g, o + 3, none⟩ = some (.int .i64 d)
theorem Ko4.cells {g o : Nat} {a b c d : Int} {W : World} (h : Ko4 g o a b c d W) : W.cell? ⟨g, o, none⟩ = some (.int .i64 a) ∧ W.cell? ⟨g, o + 1, none⟩ = some (.int .i64 b) ∧ W.cell? ⟨g, o + 2, none⟩ = some (.int .i64 c) ∧ W.cell? ⟨g, o + 3, none⟩ = some (.int .i64 d) := h.2
theorem Ko4.call {g o : Nat} {a b c d : Int} {W w1 : World} (h : Ko4 g o a b c d W) (hb : Below W.heap.size W w1) : Ko4 g o a b c d w1 := ⟨Nat.lt_of_lt_of_le h.1 hb.size, by rw [hb.cell (p := ⟨g, o, none⟩) h.1]; exact h.2.1, by rw [hb.cell (p := ⟨g, o + 1, none⟩) h.1]; exact h.2.2.1, by rw [hb.cell (p := ⟨g, o + 2, none⟩) h.1]; exact h.2.2.2.1, by rw [hb.cell (p := ⟨g, o + 3, none⟩) h.1]; exact h.2.2.2.2⟩
theorem Ko4.alloc {g o : Nat} {a b c d : Int} {W : World} (h : Ko4 g o a b c d W) (x : Obj) : Ko4 g o a b c d (W.alloc x) := h.call ((Below.refl _ _).alloc (Nat.le_refl _) _)
theorem Ko4.drew {g o : Nat} {a b c d : Int} {W : World} (h : Ko4 g o a b c d W) : Ko4 g o a b c d W.drew := h.call (Below.refl _ _).drew
theorem IRow.ko4 {g N : Nat} {F : Nat → Int} {W : World} (h : IRow g N F W) (o : Nat) (ho : o + 3 < N) : Ko4 g o (F (o)) (F (o + 1)) (F (o + 2)) (F (o + 3)) W := ⟨h.1, h.at (o) (by omega), h.at (o + 1) (by omega), h.at (o + 2) (by omega), h.at (o + 3) (by omega)⟩
def mark4 (t : Nat) : Int := (t : Int) + 1
set_option maxHeartbeats 4000000 in
theorem eqMatS_any {lo hi lo' hi' n : Nat} {v v' : Value} {F : Nat → Int} {w : World} (h1 : SRow lo hi 4 v n F w) (h2 : SRow lo' hi' 4 v' n F w) :
    Calls Try.prog 47 #[v, v'] w fun e w' => e = .returned (.bool true) ∧ Below w.heap.size w w' := by
  obtain ⟨_, hm, h1⟩ := h1
  obtain ⟨_, _, h2⟩ := h2
  by_cases hn : n = 0
  · subst hn
    obtain ⟨ao, cap, rfl⟩ : ∃ ao cap, v = .slice ao 0 cap := by
      rcases h1 with ⟨_, ao, cap, rfl⟩ | ⟨g, cap, rfl, _⟩
      · exact ⟨ao, cap, rfl⟩
      · exact ⟨_, cap, rfl⟩
    obtain ⟨ao', cap', rfl⟩ : ∃ ao cap, v' = .slice ao 0 cap := by
      rcases h2 with ⟨_, ao, cap, rfl⟩ | ⟨g, cap, rfl, _⟩
      · exact ⟨ao, cap, rfl⟩
      · exact ⟨_, cap, rfl⟩
    clear h1 h2
    go_enter Try.func47, Try.ntmps47
    go_wp2_with fail
    go_loopw [5] (fun i W => i = .int .i64 ((0 : Nat) : Int) ∧ W = w) (fun _ _ => 0)
    case atStart => exact ⟨rfl, rfl⟩
    case round =>
      obtain ⟨rfl, rfl⟩ := hrel
      go_wp2
      go_ret
      exact ⟨rfl, Below.refl _ _⟩
  · obtain ⟨g, cap, rfl, _, _, r1⟩ := h1.resolve_left (fun h => hn h.1)
    obtain ⟨g', cap', rfl, _, _, r2⟩ := h2.resolve_left (fun h => hn h.1)
    clear h1 h2
    have HM := Lib.hid hm
    clear hm hn
    have R1 := Lib.hid r1
    have R2 := Lib.hid r2
    clear r1 r2
    go_enter Try.func47, Try.ntmps47
    go_wp2_with fail
    go_loopw [5] (fun i W => ∃ k : Nat, i = .int .i64 (k : Int) ∧ k ≤ n ∧ Below w.heap.size w W) (fun i _ => n - (intOf i).toNat)
    case atStart => exact ⟨0, rfl, by omega, Below.refl _ _⟩
    case round =>
      obtain ⟨k, rfl, hk, hB⟩ := hrel
      by_cases hk1 : k < n
      · have hk2 : (k : Int) < (n : Int) := by omega
        have r1 := R1.out.grow hB R1.out.1
        have r2 := R2.out.grow hB R2.out.1
        have q1 := r1.ko4 (k * 4) (by omega)
        have q2 := r2.ko4 (k * 4) (by omega)
        have hmx := HM.out
        generalize F (k * 4) = x at *
        generalize F (k * 4 + 1) = y at *
        generalize F (k * 4 + 2) = z at *
        generalize F (k * 4 + 3) = p at *
        clear r1 r2
        have he : eqM x y z p x y z p = true := by simp [eqM]
        have s1 := q1.cells
        have s2 := q2.cells
        go_wp2_with fail
        go_region_held3 (fun W => (W.cell? ⟨g, k * 4, none⟩ = some (.int .i64 x) ∧ W.cell? ⟨g, k * 4 + 1, none⟩ = some (.int .i64 y) ∧ W.cell? ⟨g, k * 4 + 2, none⟩ = some (.int .i64 z) ∧ W.cell? ⟨g, k * 4 + 3, none⟩ = some (.int .i64 p)) ∧ (W.cell? ⟨g', k * 4, none⟩ = some (.int .i64 x) ∧ W.cell? ⟨g', k * 4 + 1, none⟩ = some (.int .i64 y) ∧ W.cell? ⟨g', k * 4 + 2, none⟩ = some (.int .i64 z) ∧ W.cell? ⟨g', k * 4 + 3, none⟩ = some (.int .i64 p))) ((refine And.intro (Ko4.cells ?_) (Ko4.cells ?_)) <;> repeat (first | assumption | with_reducible refine Ko4.drew ?_ | with_reducible refine Ko4.call ?_ (by assumption)))
          (first | (go_at_call 101; refine (eqMat_any _ _ _ _ _ _ _ _ _ ).mono ?_; rintro e u1 ⟨rfl, hb1⟩; have q1u : Ko4 g (k * 4) x y z p u1 := (by repeat (first | assumption | with_reducible refine Ko4.drew ?_ | with_reducible refine Ko4.call ?_ (by assumption))); have q2u : Ko4 g' (k * 4) x y z p u1 := (by repeat (first | assumption | with_reducible refine Ko4.drew ?_ | with_reducible refine Ko4.call ?_ (by assumption))); have B1 : Below w.heap.size w u1 := (by repeat (first | assumption | with_reducible refine Below.drew ?_ | with_reducible refine bstep ?_ (by assumption)))))
        all_goals
          clear s1 s2
          go_wp2
          go_roundw
          case rel => exact ⟨k + 1, by go_num, by omega, B1⟩
          case measure => first | (simp [intOf]; done) | (simp [intOf]; omega)
      · obtain rfl : k = n := by omega
        go_wp2
        go_ret
        exact ⟨rfl, hB⟩

set_option maxHeartbeats 4000000 in
theorem markMatS_any {lo hi n : Nat} {v : Value} {F : Nat → Int} {w : World} (h : SRow lo hi 4 v n F w) :
    Calls Try.prog 48 #[v, .int .i64 1] w fun e w' => e = .returned (.int .i64 ((n : Int) * 4 + 1)) ∧ SRow lo hi 4 v n mark4 w' ∧ Below lo w w' := by
  obtain ⟨hh, hm, h1⟩ := h
  by_cases hn : n = 0
  · subst hn
    obtain ⟨ao, cap, rfl⟩ : ∃ ao cap, v = .slice ao 0 cap := by
      rcases h1 with ⟨_, ao, cap, rfl⟩ | ⟨g, cap, rfl, _⟩
      · exact ⟨ao, cap, rfl⟩
      · exact ⟨_, cap, rfl⟩
    clear h1
    go_enter Try.func48, Try.ntmps48
    go_wp2_with fail
    go_loopw [1, 5] (fun q i W => q = .int .i64 1 ∧ i = .int .i64 ((0 : Nat) : Int) ∧ W = w) (fun _ _ _ => 0)
    case atStart => exact ⟨rfl, rfl, rfl⟩
    case round =>
      obtain ⟨rfl, rfl, rfl⟩ := hrel
      go_wp2
      go_ret
      exact ⟨rfl, ⟨hh, hm, .inl ⟨rfl, ao, cap, rfl⟩⟩, Below.refl _ _⟩
  · obtain ⟨g, cap, rfl, hlo, hhi, r1⟩ := h1.resolve_left (fun h => hn h.1)
    clear h1
    have HM := Lib.hid hm
    clear hm hn
    have R1 := Lib.hid r1
    clear r1
    have HH := Lib.hid (show hi ≤ w.heap.size ∧ lo ≤ g ∧ g < hi from ⟨hh, hlo, hhi⟩)
    clear hh hlo hhi
    go_enter Try.func48, Try.ntmps48
    go_wp2_with fail
    go_loopw [1, 5] (fun q i W => ∃ k : Nat, q = .int .i64 ((k : Int) * 4 + 1) ∧ i = .int .i64 (k : Int) ∧ k ≤ n ∧ IRow g (n * 4) (fun t => if t < k * 4 then mark4 t else F t) W ∧ Below lo w W) (fun _ i _ => n - (intOf i).toNat)
    case atStart => exact ⟨0, rfl, rfl, by omega, R1.out.ext (fun t _ => by simp), Below.refl _ _⟩
    case round =>
      obtain ⟨k, rfl, rfl, hk, r1, hB⟩ := hrel
      by_cases hk1 : k < n
      · have hk2 : (k : Int) < (n : Int) := by omega
        have hmx := HM.out
        have hkx : (k : Int) ≤ 1000000 := by omega
        have c0 := r1.at (k * 4) (by omega)
        have f0 := r1.free (k * 4) (by omega)
        have c1 := r1.at (k * 4 + 1) (by omega)
        have f1 := r1.free (k * 4 + 1) (by omega)
        have c2 := r1.at (k * 4 + 2) (by omega)
        have f2 := r1.free (k * 4 + 2) (by omega)
        have c3 := r1.at (k * 4 + 3) (by omega)
        have f3 := r1.free (k * 4 + 3) (by omega)
        generalize (fun t => if t < k * 4 then mark4 t else F t) (k * 4) = x at c0
        generalize (fun t => if t < k * 4 then mark4 t else F t) (k * 4 + 1) = y at c1
        generalize (fun t => if t < k * 4 then mark4 t else F t) (k * 4 + 2) = z at c2
        generalize (fun t => if t < k * 4 then mark4 t else F t) (k * 4 + 3) = p at c3
        have RR := Lib.hid r1
        clear r1
        go_wp2
        go_roundw
        case rel =>
          refine ⟨k + 1, by go_num, by go_num, by omega, ((((RR.out.put (k * 4) (by omega) _).put (k * 4 + 1) (by omega) _).put (k * 4 + 2) (by omega) _).put (k * 4 + 3) (by omega) _).ext ?_, ((((hB.setCell HH.out.2.1 _).setCell HH.out.2.1 _).setCell HH.out.2.1 _).setCell HH.out.2.1 _)⟩
          intro t ht
          simp only [mark4]
          repeat' split
          all_goals first | omega | rfl
        case measure => first | (simp [intOf]; done) | (simp [intOf]; omega)
      · obtain rfl : k = n := by omega
        go_wp2
        go_ret
        exact ⟨rfl, ⟨Nat.le_trans HH.out.1 hB.size, HM.out, .inr ⟨g, cap, rfl, HH.out.2.1, HH.out.2.2, r1.ext (fun t ht => by simp [ht])⟩⟩, hB⟩

set_option maxHeartbeats 4000000 in
theorem heldMatS_any {lo hi n : Nat} {v : Value} {w : World} (h : SRow lo hi 4 v n mark4 w) :
    Calls Try.prog 49 #[v, .int .i64 1] w fun e w' => e = .returned (.int .i64 ((n : Int) * 4 + 1)) ∧ Below w.heap.size w w' := by
  obtain ⟨hh, hm, h1⟩ := h
  by_cases hn : n = 0
  · subst hn
    obtain ⟨ao, cap, rfl⟩ : ∃ ao cap, v = .slice ao 0 cap := by
      rcases h1 with ⟨_, ao, cap, rfl⟩ | ⟨g, cap, rfl, _⟩
      · exact ⟨ao, cap, rfl⟩
      · exact ⟨_, cap, rfl⟩
    clear h1
    go_enter Try.func49, Try.ntmps49
    go_wp2_with fail
    go_loopw [1, 5] (fun q i W => q = .int .i64 1 ∧ i = .int .i64 ((0 : Nat) : Int) ∧ W = w) (fun _ _ _ => 0)
    case atStart => exact ⟨rfl, rfl, rfl⟩
    case round =>
      obtain ⟨rfl, rfl, rfl⟩ := hrel
      go_wp2
      go_ret
      exact ⟨rfl, Below.refl _ _⟩
  · obtain ⟨g, cap, rfl, hlo, hhi, r1⟩ := h1.resolve_left (fun h => hn h.1)
    clear h1
    have HM := Lib.hid hm
    clear hm hn hh hlo hhi
    have R1 := Lib.hid r1
    clear r1
    go_enter Try.func49, Try.ntmps49
    go_wp2_with fail
    go_loopw [1, 5] (fun q i W => ∃ k : Nat, q = .int .i64 ((k : Int) * 4 + 1) ∧ i = .int .i64 (k : Int) ∧ k ≤ n ∧ Below w.heap.size w W) (fun _ i _ => n - (intOf i).toNat)
    case atStart => exact ⟨0, rfl, rfl, by omega, Below.refl _ _⟩
    case round =>
      obtain ⟨k, rfl, rfl, hk, hB⟩ := hrel
      by_cases hk1 : k < n
      · have hk2 : (k : Int) < (n : Int) := by omega
        have hmx := HM.out
        have hkx : (k : Int) ≤ 1000000 := by omega
        have r1 := R1.out.grow hB R1.out.1
        have c0 : wr.cell? ⟨g, k * 4, none⟩ = some (.int .i64 ((k : Int) * 4 + 1)) := by rw [r1.at (k * 4) (by omega), show mark4 (k * 4) = (k : Int) * 4 + 1 by unfold mark4; omega]
        have c1 : wr.cell? ⟨g, k * 4 + 1, none⟩ = some (.int .i64 ((k : Int) * 4 + 1 + 1)) := by rw [r1.at (k * 4 + 1) (by omega), show mark4 (k * 4 + 1) = (k : Int) * 4 + 1 + 1 by unfold mark4; omega]
        have c2 : wr.cell? ⟨g, k * 4 + 2, none⟩ = some (.int .i64 ((k : Int) * 4 + 1 + 1 + 1)) := by rw [r1.at (k * 4 + 2) (by omega), show mark4 (k * 4 + 2) = (k : Int) * 4 + 1 + 1 + 1 by unfold mark4; omega]
        have c3 : wr.cell? ⟨g, k * 4 + 3, none⟩ = some (.int .i64 ((k : Int) * 4 + 1 + 1 + 1 + 1)) := by rw [r1.at (k * 4 + 3) (by omega), show mark4 (k * 4 + 3) = (k : Int) * 4 + 1 + 1 + 1 + 1 by unfold mark4; omega]
        clear r1
        go_wp2
        go_roundw
        case rel => exact ⟨k + 1, by go_num, by go_num, by omega, hB⟩
        case measure => first | (simp [intOf]; done) | (simp [intOf]; omega)
      · obtain rfl : k = n := by omega
        go_wp2
        go_ret
        exact ⟨rfl, hB⟩

end Go.Proofs.Ytcdjkcmagfakfaa
