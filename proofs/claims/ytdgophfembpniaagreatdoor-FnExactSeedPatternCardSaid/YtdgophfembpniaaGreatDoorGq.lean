/-
 Several of my texts in one: Mk6, Tms.
-/
import Derived.Test.YtdgophfembpniaaGreatDoorGj
import Derived.Test.YtdgophfembpniaaGreatDoorOpS6
import Derived.Test.YtdgophfembpniaaGreatDoorGc
import Derived.Test.YtdgophfembpniaaGreatDoorRd6
import Derived.OwnWalk
import Derived.Deep.RegionHeld3
import Derived.IntWalk
namespace Go.Proofs.YtdgophfembpniaaGreatDoor
section
open Go.RowKit
set_option linter.unusedSimpArgs false
set_option linter.unusedVariables false

/- all blocks from hi on are as they were -/
def KeepHi (hi : Nat) (W W' : World) : Prop := ∀ b, hi ≤ b → W'.heap[b]? = W.heap[b]?
theorem SRow.keepHi {hi lo' hi' K n : Nat} {v : Value} {F : Nat → Int} {W w1 : World} (h : SRow lo' hi' K v n F W) (hk : KeepHi hi W w1) (hl : hi ≤ lo') (hs : W.heap.size ≤ w1.heap.size) : SRow lo' hi' K v n F w1 := by
 obtain ⟨h1, h2, h3⟩ := h
 refine ⟨Nat.le_trans h1 hs, h2, ?_⟩
 rcases h3 with h3 | ⟨g, cap, rfl, hg, hg2, r⟩
 ·exact .inl h3
 ·have hh := hk g (by omega)
  refine .inr ⟨g, cap, rfl, hg, hg2, Nat.lt_of_lt_of_le r.1 hs, fun t ht => ⟨(World.cell?_of_block (w := W) hh).trans (r.at t ht), (World.frozen?_of_block (w := W) hh).trans (r.free t ht)⟩⟩
set_option maxHeartbeats 8000000 in
theorem markMotionS_off {lo hi n : Nat} {v : Value} {F : Nat → Int} {w : World} (z : Int) (hz0 : 1 ≤ z) (hz : z ≤ 100000000) (h : SRow lo hi 6 v n F w) :
  Calls Tryz.prog 22 #[v, .int .i64 z] w fun e w' => e = .returned (.int .i64 ((n : Int) * 6 + z)) ∧ SRow lo hi 6 v n (fun t => (t : Int) + z) w' ∧ Below lo w w' ∧ KeepHi hi w w' := by
 obtain ⟨hh, hm, h1⟩ := h
 by_cases hn : n = 0
 ·subst hn
  obtain ⟨ao, cap, rfl⟩ : ∃ ao cap, v = .slice ao 0 cap := by
   rcases h1 with ⟨_, ao, cap, rfl⟩ | ⟨g, cap, rfl, _⟩
   ·exact ⟨ao, cap, rfl⟩
   ·exact ⟨_, cap, rfl⟩
  clear h1
  have e0 : (((0 : Nat) : Int) * 6 + z) = z := by omega
  rw [e0]
  go_enter Tryz.func22, Tryz.ntmps22
  go_wp2_with fail
  go_loopw [1, 5] (fun q i W => q = .int .i64 z ∧ i = .int .i64 ((0 : Nat) : Int) ∧ W = w) (fun _ _ _ => 0)
  case atStart => exact ⟨rfl, rfl, rfl⟩
  case round =>
   obtain ⟨rfl, rfl, rfl⟩ := hrel
   go_wp2
   go_ret
   exact ⟨rfl, ⟨hh, hm, .inl ⟨rfl, ao, cap, rfl⟩⟩, Below.refl _ _, fun _ _ => rfl⟩
 ·obtain ⟨g, cap, rfl, hlo, hhi, r1⟩ := h1.resolve_left (fun h => hn h.1)
  clear h1
  have HM := Lib.hid hm
  clear hm hn
  have R1 := Lib.hid r1
  clear r1
  have HH := Lib.hid (show hi ≤ w.heap.size ∧ lo ≤ g ∧ g < hi from ⟨hh, hlo, hhi⟩)
  clear hh hlo hhi
  go_enter Tryz.func22, Tryz.ntmps22
  go_wp2_with fail
  go_loopw [1, 5] (fun q i W => ∃ k : Nat, q = .int .i64 ((k : Int) * 6 + z) ∧ i = .int .i64 (k : Int) ∧ k ≤ n ∧ IRow g (n * 6) (fun t => if t < k * 6 then (t : Int) + z else F t) W ∧ Below lo w W ∧ KeepHi hi w W) (fun _ i _ => n - (intOf i).toNat)
  case atStart => exact ⟨0, by simp, rfl, by omega, R1.out.ext (fun t _ => by simp), Below.refl _ _, fun _ _ => rfl⟩
  case round =>
   obtain ⟨k, rfl, rfl, hk, r1, hB, hKH⟩ := hrel
   by_cases hk1 : k < n
   ·have hk2 : (k : Int) < (n : Int) := by omega
    have hmx := HM.out
    have hkx : (k : Int) ≤ 2000000 := by omega
    have c0 := r1.at (k * 6) (by omega)
    have f0 := r1.free (k * 6) (by omega)
    have c1 := r1.at (k * 6 + 1) (by omega)
    have f1 := r1.free (k * 6 + 1) (by omega)
    have c2 := r1.at (k * 6 + 2) (by omega)
    have f2 := r1.free (k * 6 + 2) (by omega)
    have c3 := r1.at (k * 6 + 3) (by omega)
    have f3 := r1.free (k * 6 + 3) (by omega)
    have c4 := r1.at (k * 6 + 4) (by omega)
    have f4 := r1.free (k * 6 + 4) (by omega)
    have c5 := r1.at (k * 6 + 5) (by omega)
    have f5 := r1.free (k * 6 + 5) (by omega)
    generalize (fun t => if t < k * 6 then (t : Int) + z else F t) (k * 6) = a at c0
    generalize (fun t => if t < k * 6 then (t : Int) + z else F t) (k * 6 + 1) = b at c1
    generalize (fun t => if t < k * 6 then (t : Int) + z else F t) (k * 6 + 2) = c at c2
    generalize (fun t => if t < k * 6 then (t : Int) + z else F t) (k * 6 + 3) = d at c3
    generalize (fun t => if t < k * 6 then (t : Int) + z else F t) (k * 6 + 4) = x at c4
    generalize (fun t => if t < k * 6 then (t : Int) + z else F t) (k * 6 + 5) = y at c5
    have RR := Lib.hid r1
    clear r1
    go_wp2
    go_roundw
    case rel =>
     refine ⟨k + 1, by go_num, by go_num, by omega, (((((((RR.out.put (k * 6) (by omega) _).put (k * 6 + 1) (by omega) _).put (k * 6 + 2) (by omega) _).put (k * 6 + 3) (by omega) _).put (k * 6 + 4) (by omega) _).put (k * 6 + 5) (by omega) _)).ext ?_, ((((((hB.setCell HH.out.2.1 _).setCell HH.out.2.1 _).setCell HH.out.2.1 _).setCell HH.out.2.1 _).setCell HH.out.2.1 _).setCell HH.out.2.1 _), fun b hb => by have hbg := HH.out.2.2; exact ((Below.heap_setCell _ _ _ _ (by dsimp only; omega)).trans ((Below.heap_setCell _ _ _ _ (by dsimp only; omega)).trans ((Below.heap_setCell _ _ _ _ (by dsimp only; omega)).trans ((Below.heap_setCell _ _ _ _ (by dsimp only; omega)).trans ((Below.heap_setCell _ _ _ _ (by dsimp only; omega)).trans ((Below.heap_setCell _ _ _ _ (by dsimp only; omega)).trans (hKH b hb)))))))⟩
     intro t ht
     repeat' split
     all_goals first | omega | rfl
    case measure => first | (simp [intOf]; done) | (simp [intOf]; omega)
   ·obtain rfl : k = n := by omega
    go_wp2
    go_ret
    exact ⟨rfl, ⟨Nat.le_trans HH.out.1 hB.size, HM.out, .inr ⟨g, cap, rfl, HH.out.2.1, HH.out.2.2, r1.ext (fun t ht => by simp [ht])⟩⟩, hB, hKH⟩
end
end Go.Proofs.YtdgophfembpniaaGreatDoor

namespace Go.Proofs.YtdgophfembpniaaGreatDoor
section
open Go.RowKit
set_option linter.unusedSimpArgs false
set_option linter.unusedVariables false

theorem add_posT (q : Addr) (j : Nat) (h : j ≠ 0) : q.add j = ⟨q.block, q.off + j, none⟩ := by unfold Addr.add; rw [if_neg h]
theorem SRow.small6 {lo : Nat} {F : Nat → Int} {v : Value} {W : World} {n hi : Nat} (h : SRow lo hi 6 v n F W) : ∃ ao cap, v = .slice ao n cap := by
 rcases h.2.2 with ⟨rfl, ao, cap, rfl⟩ | ⟨g, cap, rfl, _⟩
 ·exact ⟨ao, cap, rfl⟩
 ·exact ⟨_, cap, rfl⟩
set_option maxHeartbeats 1000000 in
theorem szMo_any (ao : Option Addr) (n cap : Nat) (z : Int) (w : World) (hn : n ≤ 9223372036854775807) (hz : 0 ≤ z ∧ z ≤ 1048576) :
  Calls Tryz.prog 11 #[.slice ao n cap, .int .i64 z] w fun e w' => e = .returned (.int .i64 (if (n : Int) ≤ z then z - n else -1)) ∧ Below w.heap.size w w' := by
 have hn2 : (n : Int) ≤ 9223372036854775807 := by omega
 by_cases h : (n : Int) ≤ z
 ·rw [if_pos h]
  go_enter Tryz.func11, Tryz.ntmps11
  go_wp2
  go_ret
  exact ⟨rfl, Below.refl _ _⟩
 ·rw [if_neg h]
  go_enter Tryz.func11, Tryz.ntmps11
  go_wp2
  go_ret
  exact ⟨rfl, Below.refl _ _⟩
theorem made6_int (n : Nat) : ∀ u ∈ (madeCells (Value.cells (.agg #[.int .i64 0, .int .i64 0, .int .i64 0, .int .i64 0, .int .i64 0, .int .i64 0])) (n * 6)).toList, ∃ z, u = .int .i64 z := by
 intro u hu
 unfold madeCells at hu
 simp only [Value.cells] at hu
 rw [Array.mem_toList_iff, Array.mem_map] at hu
 obtain ⟨i, _, rfl⟩ := hu
 have h : ∀ j, j < 6 → ∃ z, (#[Value.int .i64 0, .int .i64 0, .int .i64 0, .int .i64 0, .int .i64 0, .int .i64 0] : Array Value)[j]! = .int .i64 z := by
  intro j hj
  have : j = 0 ∨ j = 1 ∨ j = 2 ∨ j = 3 ∨ j = 4 ∨ j = 5 := by omega
  rcases this with rfl | rfl | rfl | rfl | rfl | rfl <;> exact ⟨0, rfl⟩
 exact h _ (Nat.mod_lt _ (by simp))
set_option maxRecDepth 100000 in
set_option maxHeartbeats 8000000 in
theorem toMotionS_any {v : Value} {xs : List M6} {w : World} (h : ARow v xs w) (hn : xs.length ≤ 1048576) :
  Calls Tryz.prog 14 #[v] w fun e w' => ∃ v' : Value, e = .returned v' ∧ SRow w.heap.size w'.heap.size 6 v' xs.length (fm xs) w' ∧ Below w.heap.size w w' := by
 obtain ⟨i0, hinf, hz0, hz1, hz2⟩ := info_parts infoMo6
 have HA := Lib.hid h
 obtain ⟨ao, cap, rfl, _⟩ := h
 have HN := Lib.hid hn
 have hn2 : (xs.length : Int) ≤ 1048576 := by omega
 clear hn
 go_enter Tryz.func14, Tryz.ntmps14
 go_wp2_with (refine wpList_make_full _ rfl _ _ _ rfl w.heap.size 81 i0 (.agg #[.int .i64 0, .int .i64 0, .int .i64 0, .int .i64 0, .int .i64 0, .int .i64 0]) 6 Tryz.underlying36 hinf hz0 hz1 .i64 .i64 _ _ xs.length rfl rfl rfl rfl (by rw [hz2]; have := HN.out; omega) (by have := HN.out; unfold maxLen; omega) (Nat.le_refl _) ?_; intro w1 hown1 hgr1)
 have B1 : Below w.heap.size w w1 := Below.grown (Below.refl _ _) hgr1 (by omega) (fun r hr => by cases hr)
 have S1 : ∃ F, IRow w.heap.size (xs.length * 6) F w1 ∧ w.heap.size < w1.heap.size := by
  have hl := hown1.lt w.heap.size rfl
  refine ⟨intAt (madeCells (Value.cells (.agg #[.int .i64 0, .int .i64 0, .int .i64 0, .int .i64 0, .int .i64 0, .int .i64 0])) (xs.length * 6)).toList, ⟨hl.2, fun t ht => ⟨?_, hown1.frozenAt t⟩⟩, hl.2⟩
  rw [hown1.cellAt t ht]
  exact intAt_eq (made6_int _) (by rw [hown1.1]; exact ht)
 obtain ⟨F0, R1, hg1⟩ := S1
 clear hown1 hgr1
 go_wp2_with fail
 go_loopw [4] (fun s4 W => ∃ k : Nat, s4 = .int .i64 (k : Int) ∧ k ≤ xs.length ∧ IRow w.heap.size (xs.length * 6) (fun t => if t < k * 6 then fm xs t else F0 t) W ∧ Below w.heap.size w W) (fun s4 _ => xs.length - (intOf s4).toNat)
 case atStart => exact ⟨0, rfl, by omega, R1.ext (fun t _ => by simp), B1⟩
 case round =>
  clear R1 B1 hg1
  obtain ⟨k, rfl, hk, r1, hB⟩ := hrel
  by_cases hk1 : k < xs.length
  ·have hk2 : (k : Int) < (xs.length : Int) := by omega
   have hkx : (k : Int) ≤ 1048576 := by omega
   have HAw := HA.out.call hB
   obtain ⟨ao', cap', e9, hcell⟩ := HAw
   simp only [Value.slice.injEq, true_and] at e9
   obtain ⟨rfl, rfl⟩ := e9
   obtain ⟨aa, rfl, hab, hx9⟩ := hcell (k * 6) (by omega)
   clear hx9
   have HC := Lib.hid (fun t ht => (show wr.cell? (aa.add t) = some (.int .i64 (fm xs t)) by obtain ⟨a', e, _, h⟩ := hcell t ht; cases e; exact h))
   have hc0 := HC.out (k * 6) (by omega)
   have hc1 := HC.out (k * 6 + 1) (by omega)
   rw [← Deep.add_add, add_posT _ _ (by omega)] at hc1
   have hc2 := HC.out (k * 6 + 2) (by omega)
   rw [← Deep.add_add, add_posT _ _ (by omega)] at hc2
   have hc3 := HC.out (k * 6 + 3) (by omega)
   rw [← Deep.add_add, add_posT _ _ (by omega)] at hc3
   have hc4 := HC.out (k * 6 + 4) (by omega)
   rw [← Deep.add_add, add_posT _ _ (by omega)] at hc4
   have hc5 := HC.out (k * 6 + 5) (by omega)
   rw [← Deep.add_add, add_posT _ _ (by omega)] at hc5
   clear hcell
   have HK := Lib.hid hk1
   have RR := Lib.hid r1
   have hgl := r1.1
   clear r1
   obtain ⟨a, ha⟩ : ∃ a, a = fm xs (k * 6) := ⟨_, rfl⟩
   rw [← ha] at hc0
   obtain ⟨b, hb⟩ : ∃ b, b = fm xs (k * 6 + 1) := ⟨_, rfl⟩
   rw [← hb] at hc1
   obtain ⟨c, hc⟩ : ∃ c, c = fm xs (k * 6 + 2) := ⟨_, rfl⟩
   rw [← hc] at hc2
   obtain ⟨d, hd⟩ : ∃ d, d = fm xs (k * 6 + 3) := ⟨_, rfl⟩
   rw [← hd] at hc3
   obtain ⟨x, hx⟩ : ∃ x, x = fm xs (k * 6 + 4) := ⟨_, rfl⟩
   rw [← hx] at hc4
   obtain ⟨y, hy⟩ : ∃ y, y = fm xs (k * 6 + 5) := ⟨_, rfl⟩
   rw [← hy] at hc5
   have HV := Lib.hid (show a = fm xs (k * 6) ∧ b = fm xs (k * 6 + 1) ∧ c = fm xs (k * 6 + 2) ∧ d = fm xs (k * 6 + 3) ∧ x = fm xs (k * 6 + 4) ∧ y = fm xs (k * 6 + 5) from ⟨ha, hb, hc, hd, hx, hy⟩)
   clear ha hb hc hd hx hy
   have zB := hB.size
   go_wp2_with fail
   refine (toMo_any a b c d x y _).mono ?_
   rintro e w2 ⟨rfl, hb2⟩
   have RR := Lib.hid (RR.out.call hb2)
   have hgl2 := RR.out.1
   have hB1 := bstep hB hb2
   clear hb2 hc0 hc1 hc2 hc3 hc4 hc5 hB
   have c0 := RR.out.at (k * 6) (by have := HK.out; omega)
   have f0 := RR.out.free (k * 6) (by have := HK.out; omega)
   have c1 := RR.out.at (k * 6 + 1) (by have := HK.out; omega)
   have f1 := RR.out.free (k * 6 + 1) (by have := HK.out; omega)
   have c2 := RR.out.at (k * 6 + 2) (by have := HK.out; omega)
   have f2 := RR.out.free (k * 6 + 2) (by have := HK.out; omega)
   have c3 := RR.out.at (k * 6 + 3) (by have := HK.out; omega)
   have f3 := RR.out.free (k * 6 + 3) (by have := HK.out; omega)
   have c4 := RR.out.at (k * 6 + 4) (by have := HK.out; omega)
   have f4 := RR.out.free (k * 6 + 4) (by have := HK.out; omega)
   have c5 := RR.out.at (k * 6 + 5) (by have := HK.out; omega)
   have f5 := RR.out.free (k * 6 + 5) (by have := HK.out; omega)
   generalize (fun t => if t < k * 6 then fm xs t else F0 t) (k * 6) = z0 at c0
   generalize (fun t => if t < k * 6 then fm xs t else F0 t) (k * 6 + 1) = z1 at c1
   generalize (fun t => if t < k * 6 then fm xs t else F0 t) (k * 6 + 2) = z2 at c2
   generalize (fun t => if t < k * 6 then fm xs t else F0 t) (k * 6 + 3) = z3 at c3
   generalize (fun t => if t < k * 6 then fm xs t else F0 t) (k * 6 + 4) = z4 at c4
   generalize (fun t => if t < k * 6 then fm xs t else F0 t) (k * 6 + 5) = z5 at c5
   go_wp2
   go_roundw
   case rel =>
    refine ⟨k + 1, by go_num, by have := HK.out; omega, (((((((RR.out.put (k * 6) (by have := HK.out; omega) _).put (k * 6 + 1) (by have := HK.out; omega) _).put (k * 6 + 2) (by have := HK.out; omega) _).put (k * 6 + 3) (by have := HK.out; omega) _).put (k * 6 + 4) (by have := HK.out; omega) _).put (k * 6 + 5) (by have := HK.out; omega) _)).ext ?_, ((((((hB1.setCell (Nat.le_refl _) _).setCell (Nat.le_refl _) _).setCell (Nat.le_refl _) _).setCell (Nat.le_refl _) _).setCell (Nat.le_refl _) _).setCell (Nat.le_refl _) _)⟩
    obtain ⟨v0, v1, v2, v3, v4, v5⟩ := HV.out
    intro t ht
    by_cases e0 : t = k * 6
    ·subst e0; simp [v0]; try omega
    by_cases e1 : t = k * 6 + 1
    ·subst e1; simp [v1]; try omega
    by_cases e2 : t = k * 6 + 2
    ·subst e2; simp [v2]; try omega
    by_cases e3 : t = k * 6 + 3
    ·subst e3; simp [v3]; try omega
    by_cases e4 : t = k * 6 + 4
    ·subst e4; simp [v4]; try omega
    by_cases e5 : t = k * 6 + 5
    ·subst e5; simp [v5]; try omega
    by_cases el : t < k * 6
    ·have el2 : t < (k + 1) * 6 := by omega
     simp [e0, e1, e2, e3, e4, e5, el, el2]
    ·have el2 : ¬ t < (k + 1) * 6 := by omega
     simp [e0, e1, e2, e3, e4, e5, el, el2]
   case measure => (have := HK.out); first | (simp [intOf]; done) | (simp [intOf]; omega)
  ·obtain rfl : k = xs.length := by omega
   go_wp2
   go_ret
   exact ⟨_, rfl, ⟨Nat.le_refl _, by have := HN.out; omega, .inr ⟨_, _, rfl, Nat.le_refl _, r1.1, r1.ext (fun t ht => by simp [ht])⟩⟩, hB⟩
end
end Go.Proofs.YtdgophfembpniaaGreatDoor

