/-
  asMotions in the program. Condition: the list's length is below the model's bound.
-/
import Derived.Test.YtkfdaepnjdnnmaaGreatDoorGc
import Derived.Test.YtkfdaepnjdnnmaaGreatDoorGg
import Derived.Test.YtkfdaepnjdnnmaaGreatDoorMo1a
import Derived.Deep.RegionHeld3
import Derived.IntWalk
import Derived.OwnWalk
namespace Go.Proofs.YtkfdaepnjdnnmaaGreatDoor
open Go.RowKit
set_option linter.unusedSimpArgs false
set_option linter.unusedVariables false

theorem infoAm6 : (Tryz.prog.info? 62).map (fun i => (i.zero, i.size, i.bytes)) = some (some (.agg #[.int .i64 0, .int .i64 0, .int .i64 0, .int .i64 0, .int .i64 0, .int .i64 0]), 6, 48) := by kernel_rfl
theorem srow_shA {lo hi K n : Nat} {v : Value} {F : Nat → Int} {W : World} (h : SRow lo hi K v n F W) : ∃ ao cap, v = .slice ao n cap := by
  rcases h.2.2 with ⟨rfl, ao, cap, rfl⟩ | ⟨g, cap, rfl, _⟩
  · exact ⟨ao, cap, rfl⟩
  · exact ⟨_, cap, rfl⟩
theorem ko_ltA {g o : Nat} {a b c d x y : Int} {W : World} (h : Ko6 g o a b c d x y W) : g < W.heap.size := h.1
set_option maxRecDepth 100000 in
set_option maxHeartbeats 8000000 in
theorem asMotions_any {lo hi : Nat} {v : Value} {xs : List M6} {w : World} (h : SRow lo hi 6 v xs.length (fm xs) w) (hn : xs.length ≤ 1048576) :
    Calls Tryz.prog 38 #[v] w fun e w' => ∃ v' : Value, e = .returned v' ∧ w'.ownsRow w.heap.size 62 6 v' xs.length (cells6 xs) ∧ Below w.heap.size w w' := by
  obtain ⟨i0, hinf, hz0, hz1, hz2⟩ := info_parts infoAm6
  have HN := Lib.hid hn
  have HA := Lib.hid h
  obtain ⟨ao, cap, rfl⟩ := srow_shA h
  have hnn : (xs.length : Int) ≤ 1048576 := by omega
  clear h hn
  go_enter Tryz.func38, Tryz.ntmps38
  go_wp2_with fail
  go_loopw [3, 8] (fun s3 s8 W => ∃ k : Nat, s8 = .int .i64 (k : Int) ∧ k ≤ xs.length ∧ W.ownsRow w.heap.size 62 6 s3 (xs.take k).length (cells6 (xs.take k)) ∧ Below w.heap.size w W) (fun _ s8 _ => xs.length - (intOf s8).toNat)
  case atStart => exact ⟨0, rfl, by omega, own_nil6 _ _ _, Below.refl _ _⟩
  case round =>
    obtain ⟨k, rfl, hk, hown, hB⟩ := hrel
    by_cases hk1 : k < xs.length
    · have hk2 : (k : Int) < (xs.length : Int) := by omega
      have hk3 : (k : Int) ≤ 1048576 := by omega
      have hres := HA.out.2.2.resolve_left (fun h => by omega)
      have hhi := HA.out.1
      obtain ⟨g, cap', e9, _, hg, RA⟩ := hres
      simp only [Value.slice.injEq, true_and] at e9
      obtain ⟨rfl, rfl⟩ := e9
      have q1 := (RA.grow hB (by omega)).mo k hk1
      have HT := Lib.hid (show xs.take (k + 1) = xs.take k ++ [xs[k]] from List.take_succ_eq_append_getElem hk1)
      have HTL := Lib.hid (show (xs.take k).length ≤ 1048576 by rw [List.length_take]; omega)
      have HK := Lib.hid hk1
      clear RA hg hhi hk
      generalize xs[k] = m at q1 HT
      clear hk1
      obtain ⟨a, b, c, d, x, y⟩ := m
      dsimp only at q1
      generalize xs.take k = ys at hown HT HTL
      have zB := hB.size
      have hgl := ko_ltA q1
      have q1c := q1.cells
      have X0 : KM wr.heap.size a b c d x y (wr.alloc (.cells #[.int .i64 a, .int .i64 b, .int .i64 c, .int .i64 d, .int .i64 x, .int .i64 y] 82)) := KM.at _ rfl
      have O3 := World.ownsRow.alloc hown (.cells #[.int .i64 a, .int .i64 b, .int .i64 c, .int .i64 d, .int .i64 x, .int .i64 y] 82)
      have B3 : Below w.heap.size w (wr.alloc (.cells #[.int .i64 a, .int .i64 b, .int .i64 c, .int .i64 d, .int .i64 x, .int .i64 y] 82)) := hB.alloc zB _
      have X0c := X0.cells5
      clear hown hB
      go_wp2_with fail
      refine (asMoA_any _ _ _ _ _ _ _).mono ?_
      rintro e w3 ⟨rfl, hb3⟩
      have O4 := ownsRow_call O3 hb3
      have B4 := bstep B3 hb3
      have z4 := B4.size
      clear hb3 X0 O3 B3 X0c q1 q1c
      go_wp2_with (at_builtin; refine wpList_append_own _ rfl _ _ 30 rfl w.heap.size 62 i0 (.agg #[.int .i64 0, .int .i64 0, .int .i64 0, .int .i64 0, .int .i64 0, .int .i64 0]) 6 48 Tryz.underlying30 hinf hz0 hz1 hz2 rfl (by decide) _ _ _ rfl (O4.alloc _) ⟨w3.heap.size, 0, none⟩ 1 1 [.int .i64 a, .int .i64 b, .int .i64 c, .int .i64 d, .int .i64 x, .int .i64 y] rfl rfl (new_six _ _ _ _ _ _ _ rfl) one_six (by have := HTL.out; unfold maxLen; omega) (by have := HTL.out; omega) (by (try simp); omega) ?_; intro v9 w9 hown9 hgrow _)
      have O9 := own_next6 hown9
      have B9 : Below w.heap.size w w9 := Below.grown (Below.alloc B4 (by omega) _) hgrow (by simp; omega) (fun r hr => by have := (O4.lt r hr).1; omega)
      clear hown9 hgrow O4 B4
      go_wp2
      go_roundw
      case rel => exact ⟨k + 1, by go_num, by have := HK.out; omega, by rw [HT.out]; exact O9, B9⟩
      case measure => (have := HK.out); first | (simp [intOf]; done) | (simp [intOf]; omega)
    · obtain rfl : k = xs.length := by omega
      rw [List.take_length] at hown
      clear hk hk1
      go_wp2
      go_ret
      exact ⟨_, rfl, hown, hB⟩

end Go.Proofs.YtkfdaepnjdnnmaaGreatDoor
