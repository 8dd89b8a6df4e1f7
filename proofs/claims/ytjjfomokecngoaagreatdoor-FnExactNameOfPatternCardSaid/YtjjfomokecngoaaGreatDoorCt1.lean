/-
 slices.Contains and slices.Index at vectors. Condition: a list of at most 1,000,000 vectors in a block of its own.
-/
import Derived.Test.YtjjfomokecngoaaGreatDoorShortq
import Derived.Test.YtjjfomokecngoaaGreatDoorGa
import Derived.Test.YtjjfomokecngoaaGreatDoorSl2
import Derived.Test.YtjjfomokecngoaaGreatDoorFaP
import Derived.IntWalk
import Derived.LoopTactic
import Derived.BigQuiet
import Derived.Deep.QuietTactic
namespace Go.Proofs.YtjjfomokecngoaaGreatDoor
open Go.RowKit
set_option linter.unusedSimpArgs false
set_option linter.unusedVariables false

attribute [local go_sem ↓] eqVeF
theorem shortM_len (f A B C : Int) : (shortM f A B C).length ≤ 1000000 :=
 Nat.le_trans (List.length_filter_le _ _) (Nat.le_trans (nearP_len f (A * A) 128 (2 * 128 + 1) (2 * 128 + 1)) (by omega))
set_option maxRecDepth 100000 in
set_option maxHeartbeats 4000000 in
theorem indexV_any {bs : Nat} {v : Value} {L : List (Int × Int)} {w : World} (p q : Int) (ho : w.ownsRow bs 63 2 v L.length (cells2 L)) (hn : L.length ≤ 1000000) :
  Calls Tryz.prog 246 #[v, .agg #[.int .i64 p, .int .i64 q]] w fun e w' => (∃ i : Int, e = .returned (.int .i64 i) ∧ (0 ≤ i ∧ (p, q) ∈ L ∨ i = -1 ∧ (p, q) ∉ L)) ∧ Below w.heap.size w w' := by
 have HS := Lib.hid (SRow.of ho (cells2_int _) hn)
 obtain ⟨ao, cap, rfl⟩ : ∃ ao cap, v = .slice ao L.length cap := by
  rcases ho.2 with ⟨h1, h2⟩ | ⟨g, cap, cur, h', _⟩
  ·exact ⟨none, 0, by rw [h1]; rw [h2]⟩
  ·exact ⟨_, _, h'⟩
 have V0 : Kg w.heap.size p q (w.alloc (.cells #[.int .i64 p, .int .i64 q] 63)) := Kg.at2 _ rfl
 have B0 : Below w.heap.size w (w.alloc (.cells #[.int .i64 p, .int .i64 q] 63)) := (Below.refl _ _).alloc (Nat.le_refl _) _
 clear ho
 go_enter Tryz.func246, Tryz.ntmps246
 go_wp2_with fail
 go_loopw [8] (fun s W => ∃ k : Nat, s = .int .i64 (k : Int) ∧ k ≤ L.length ∧ (∀ i (h : i < L.length), i < k → L[i] ≠ (p, q)) ∧ Kg w.heap.size p q W ∧ Below w.heap.size w W) (fun s _ => L.length - (intOf s).toNat)
 case atStart => exact ⟨0, rfl, by omega, fun i _ h => absurd h (by omega), V0, B0⟩
 case round =>
  clear V0 B0
  obtain ⟨k, rfl, hk, hall, hV, hB⟩ := hrel
  have HALL := Lib.hid hall
  clear hall
  by_cases hk1 : k < L.length
  ·have hk2 : (k : Int) < (L.length : Int) := by omega
   have hk3 : (k : Int) ≤ 1000000 := by omega
   have HKK := Lib.hid hk1
   obtain ⟨g, cap', e9, _, hg, R⟩ := HS.out.2.2.resolve_left (fun h => by omega)
   simp only [Value.slice.injEq, true_and] at e9
   obtain ⟨rfl, rfl⟩ := e9
   have hgw : g < w.heap.size := by have := R.1; omega
   have RW := R.grow hB hgw
   have d0 := RW.at (k * 2) (by omega)
   have d1 := RW.at (k * 2 + 1) (by omega)
   obtain ⟨a1, a2⟩ := at2 hk1
   rw [a1] at d0
   rw [a2] at d1
   have c0 : wr.cell? ⟨g, k * 2, none⟩ = some (.int .i64 (L[k]'hk1).1) := d0
   have c1 : wr.cell? ⟨g, k * 2 + 1, none⟩ = some (.int .i64 (L[k]'hk1).2) := d1
   clear d0 d1
   have hgl : g < wr.heap.size := RW.1
   obtain ⟨z, hz⟩ : ∃ z : Int × Int, (L[k]'hk1) = z := ⟨_, rfl⟩
   rw [hz] at c0 c1
   have HZ := Lib.hid hz
   obtain ⟨z0, z1⟩ := z
   dsimp only at c0 c1
   have Vc := hV.cells
   have Vl := hV.1
   clear a1 a2 RW R hg hz
   rcases h0 : (p == z0) with _ | _
   ·have e0 : eqV2F p q z0 z1 = false := by simp [eqV2F, h0]
    have HN := Lib.hid (show (L[k]'HKK.out) ≠ (p, q) by
     rw [HZ.out]
     intro e
     simp only [Prod.mk.injEq] at e
     simp at h0; omega)
    go_wp2
    go_quiet (fail)
    go_wp2
    go_roundw
    case rel => exact ⟨k + 1, by go_num, by have := HKK.out; omega, fun i h hi => by
     by_cases e : i = k
     ·subst e; exact HN.out
     ·exact HALL.out i h (by omega), hV.call (below_drewN (Below.refl _ _) _), below_drewN hB _⟩
    case measure => (have := HKK.out); first | (simp [intOf]; done) | (simp [intOf]; omega)
   rcases h1 : (q == z1) with _ | _
   ·have e0 : eqV2F p q z0 z1 = false := by simp [eqV2F, h1]
    have HN := Lib.hid (show (L[k]'HKK.out) ≠ (p, q) by
     rw [HZ.out]
     intro e
     simp only [Prod.mk.injEq] at e
     simp at h1; omega)
    go_wp2
    go_quiet (fail)
    go_wp2
    go_roundw
    case rel => exact ⟨k + 1, by go_num, by have := HKK.out; omega, fun i h hi => by
     by_cases e : i = k
     ·subst e; exact HN.out
     ·exact HALL.out i h (by omega), hV.call (below_drewN (Below.refl _ _) _), below_drewN hB _⟩
    case measure => (have := HKK.out); first | (simp [intOf]; done) | (simp [intOf]; omega)
   ·have e0 : eqV2F p q z0 z1 = true := by simp [eqV2F, h0, h1]
    have HY := Lib.hid (show (p, q) ∈ L by
     have h2 := (beq_iff_eq).1 h0
     have h3 := (beq_iff_eq).1 h1
     rw [h2, h3, ← HZ.out]; exact List.getElem_mem _)
    go_wp2
    go_quiet (fail)
    go_wp2
    go_ret
    exact ⟨⟨_, rfl, .inl ⟨by omega, HY.out⟩⟩, below_drewN hB _⟩
  ·obtain rfl : k = L.length := by omega
   have HN := Lib.hid (show (p, q) ∉ L by
    intro hm
    obtain ⟨i, hi, e⟩ := List.getElem_of_mem hm
    exact HALL.out i hi hi e)
   clear hk hk1
   go_wp2
   go_ret
   exact ⟨⟨_, rfl, .inr ⟨rfl, HN.out⟩⟩, hB⟩
set_option maxHeartbeats 4000000 in
theorem containsV_any {bs : Nat} {v : Value} {L : List (Int × Int)} {w : World} (p q : Int) (ho : w.ownsRow bs 63 2 v L.length (cells2 L)) (hn : L.length ≤ 1000000) :
  Calls Tryz.prog 203 #[v, .agg #[.int .i64 p, .int .i64 q]] w fun e w' => e = .returned (.bool (decide ((p, q) ∈ L))) ∧ Below w.heap.size w w' := by
 have V0 : Kg w.heap.size p q (w.alloc (.cells #[.int .i64 p, .int .i64 q] 63)) := Kg.at2 _ rfl
 have B0 : Below w.heap.size w (w.alloc (.cells #[.int .i64 p, .int .i64 q] 63)) := (Below.refl _ _).alloc (Nat.le_refl _) _
 have HO := Lib.hid (indexV_any (w := (w.alloc (.cells #[.int .i64 p, .int .i64 q] 63))) p q (World.ownsRow.alloc ho _) hn)
 have Vc := V0.cells
 clear ho hn
 go_enter Tryz.func203, Tryz.ntmps203
 go_wp2_with fail
 refine HO.out.mono ?_
 rintro e w1 ⟨⟨i, rfl, hi⟩, hb1⟩
 have B1 := bstep B0 hb1
 rcases hi with ⟨h1, h2⟩ | ⟨rfl, h2⟩
 ·go_wp2
  go_ret
  exact ⟨ret_bool (by rw [decide_eq_true h2]; try simp [h1]), B1⟩
 ·go_wp2
  go_ret
  exact ⟨ret_bool (by rw [decide_eq_false h2]; try rfl), B1⟩
end Go.Proofs.YtjjfomokecngoaaGreatDoor
