/-
  The model's cells of a lattice: a list in memory of its own. Conditions: the lattice is valid.
-/
import Derived.Test.YtpejihckepaojaaCelI
import Derived.OwnWalk
import Derived.LoopTactic
namespace Go.Proofs.Ytpejihckepaojaa
open Go.RowKit
set_option linter.unusedSimpArgs false
set_option linter.unusedVariables false

theorem own_next2 {w1 : World} {base : Nat} {e : TypeId} {v : Value} {xs : List (Int × Int)} {a b : Int} (h : w1.ownsRow base e 2 v (xs.length + 1) (cells2 xs ++ [.int .i64 a, .int .i64 b])) : w1.ownsRow base e 2 v (xs ++ [(a, b)]).length (cells2 (xs ++ [(a, b)])) := by
  rw [cells2_snoc]; simpa using h
def CelOwn (p q : Nat) (w : World) (e : Ending) (w' : World) : Prop :=
  ∃ v : Value, e = .returned v ∧ w'.ownsRow w.heap.size 39 2 v (cellP q p).length (cells2 (cellP q p)) ∧ Below w.heap.size w w'
set_option maxHeartbeats 4000000 in
theorem l03Cells_any (p q : Nat) (B : Int) (w : World) (hp : p ≤ 64) (hq : q ≤ 64) :
    Calls Try.prog 59 #[.agg #[.int .i64 ((p : Int)), .int .i64 B, .int .i64 ((q : Int))]] w (CelOwn p q w) := by
  obtain ⟨i0, hi, hz0, hz1, hz2⟩ := info_parts infoVec
  have HP := Lib.hid hp
  have HQ := Lib.hid hq
  clear hp hq
  go_enter Try.func59, Try.ntmps59
  go_wp2_with fail
  have hlit : ((w.alloc (.cells #[.int .i64 (p : Int), .int .i64 B, .int .i64 (q : Int)] 29)).alloc (.cells #[] 39)).ownsRow (w.heap.size + 1) 39 2 (.slice (some ⟨w.heap.size + 1, 0, none⟩) 0 0) (cellP q 0).length (cells2 (cellP q 0)) := by
    have h := World.ownsRow_lit (base := w.heap.size + 1) (e := 39) (size := 2) (w.alloc (.cells #[.int .i64 (p : Int), .int .i64 B, .int .i64 (q : Int)] 29)) #[] 0 (by simp) (by unfold maxLen; omega) rfl
    simpa [cellP, cells2] using h
  go_loopw [3, 4] (fun v i W => ∃ (a : Nat), i = .int .i64 (a : Int) ∧ a ≤ p ∧ W.ownsRow (w.heap.size + 1) 39 2 v (cellP q a).length (cells2 (cellP q a)) ∧ Kt w.heap.size (p : Int) B (q : Int) W ∧ Below w.heap.size w W) (fun _ i _ => p - (intOf i).toNat)
  case atStart => exact ⟨0, rfl, by omega, hlit, (Kt.at _ rfl).alloc _, ((Below.refl _ _).alloc (Nat.le_refl _) _).alloc (by simp) _⟩
  case round =>
    obtain ⟨a, rfl, ha1, hown, hK, hB⟩ := hrel
    obtain ⟨k0, k1, k2, k3⟩ := id hK
    by_cases ha3 : a < p
    · have ha4 : (a : Int) < (p : Int) := by omega
      have ha5 : (a : Int) ≤ 64 := by have := HP.out; omega
      have HA := Lib.hid ha3
      clear ha1 ha3
      go_wp2_with fail
      clear k0 k1 k2 k3
      go_loopw [3, 5] (fun v i W => ∃ (j : Nat), i = .int .i64 (j : Int) ∧ j ≤ q ∧ W.ownsRow (w.heap.size + 1) 39 2 v (cellP q a ++ cellR a j).length (cells2 (cellP q a ++ cellR a j)) ∧ Kt w.heap.size (p : Int) B (q : Int) W ∧ Below w.heap.size w W) (fun _ i _ => q - (intOf i).toNat)
      case atStart => exact ⟨0, rfl, by omega, by simpa [cellR] using hown, hK, hB⟩
      case round =>
        obtain ⟨j, rfl, hj, hown, hK, hB⟩ := hrel
        obtain ⟨k0, k1, k2, k3⟩ := id hK
        have hp := HP.out
        have hq := HQ.out
        by_cases hj1 : j < q
        · have hj2 : (j : Int) < (q : Int) := by omega
          have hj5 : (j : Int) ≤ 64 := by omega
          have hlen2 : (cellP q a ++ cellR a j).length ≤ 64 * 64 + 64 := by
            rw [List.length_append, cellP_len, cellR_len]
            have := Nat.mul_le_mul (show a ≤ 64 by omega) hq
            omega
          clear hp hq
          go_wp2_with (at_builtin; refine wpList_append_own _ rfl _ _ 88 rfl (w.heap.size + 1) 39 i0 (.agg #[.int .i64 0, .int .i64 0]) 2 16 Try.underlying88 hi hz0 hz1 hz2 rfl (by decide) _ _ _ rfl (hown.alloc _) ⟨wr.heap.size, 0, none⟩ 1 1 [.int .i64 (a : Int), .int .i64 (j : Int)] rfl rfl ?c1 ?c2 ?c3 ?c4 ?c5 ?_)
          case c1 => exact new_two _ _ _ rfl
          case c2 => exact one_two
          case c3 => unfold maxLen; omega
          case c4 => omega
          case c5 => have := hB.size; simp; omega
          intro v' w2 hown' hgrow _
          have hB1 : Below (w.heap.size + 1) wr w2 := Below.grown (Below.alloc (Below.refl _ _) (by omega) _) hgrow (by simp; omega) (fun k hk => (hown.lt k hk).1)
          have B2 : Below w.heap.size w w2 := hB.trans (hB1.mono (by omega))
          have K2 : Kt w.heap.size (p : Int) B (q : Int) w2 := hK.grow hB1 (by omega)
          have hown2 : w2.ownsRow (w.heap.size + 1) 39 2 v' (cellP q a ++ cellR a (j + 1)).length (cells2 (cellP q a ++ cellR a (j + 1))) := by rw [cellR_succ, ← List.append_assoc]; exact own_next2 (by simpa using hown')
          clear hown hB hgrow hown' hlen2 hK k0 k1 k2 k3
          go_wp2
          go_roundw
          case rel => exact ⟨j + 1, by go_num, by omega, hown2, K2, B2⟩
          case measure => first | (simp [intOf]; done) | (simp [intOf]; omega)
        · obtain rfl : j = q := by omega
          clear hj hj1 hp hq
          have hown2 : wr.ownsRow (w.heap.size + 1) 39 2 u3 (cellP j (a + 1)).length (cells2 (cellP j (a + 1))) := by rw [cellP_succ]; exact hown
          have B2 := hB
          have K2 := hK
          clear hown hB hK
          go_wp2
          have ha3 := HA.out
          go_roundw
          case rel => exact ⟨a + 1, by go_num, by omega, hown2, K2, B2⟩
          case measure => first | (simp [intOf]; done) | (simp [intOf]; omega)
    · obtain rfl : a = p := by omega
      clear ha1 ha3
      go_wp2
      go_ret
      exact ⟨_, rfl, ownsRow_lower hown (by omega), hB⟩
end Go.Proofs.Ytpejihckepaojaa
