/-
 Several of my texts in one: CelI, CelS, FrNear, FrM.
-/
import Derived.RangeFuncNested
import Derived.RangeFuncBound
import Derived.RangeFuncCalls
import Derived.RangeFuncLeaves
import Derived.RangeFuncBox
import Derived.Shelf.Abstract
import Derived.Shelf.RegionOpen
import Derived.WalkKit
import Derived.OwnWalkIn
import Derived.TacticsInMore
import Derived.LoopNIn
import Derived.LoopIn
import Derived.Maps.AppendAt
import Derived.Test.YtdgophfembpniaaGreatDoorGa
import Derived.Test.YtdgophfembpniaaGreatDoorGb
import Derived.OwnWalk
import Derived.LoopTactic
import Derived.Test.YtdgophfembpniaaGreatDoorGe
import Derived.Test.YtdgophfembpniaaGreatDoorGc
namespace Go.Proofs.YtdgophfembpniaaGreatDoor
section
open Go.RowKit Go.Shelf
attribute [local go_sem] Oper.semAt_some
set_option linter.unusedSimpArgs false
set_option linter.unusedVariables false

/- a list of vectors as cells -/
def cells2 (xs : List (Int × Int)) : List Value := xs.flatMap (fun t => [.int .i64 t.1, .int .i64 t.2])
theorem cells2_len (xs : List (Int × Int)) : (cells2 xs).length = xs.length * 2 := by
 induction xs with
 | nil => rfl
 | cons t xs ih => simp only [cells2, List.flatMap_cons, List.length_append, List.length_cons, List.length_nil] at *; omega
theorem cells2_snoc (xs : List (Int × Int)) (t : Int × Int) : cells2 (xs ++ [t]) = cells2 xs ++ [.int .i64 t.1, .int .i64 t.2] := by simp [cells2]
theorem cells2_int (xs : List (Int × Int)) : ∀ u ∈ cells2 xs, ∃ z, u = .int .i64 z := by
 intro u hu
 simp only [cells2, List.mem_flatMap, List.mem_cons, List.not_mem_nil, or_false] at hu
 obtain ⟨t, _, h | h⟩ := hu <;> exact ⟨_, h⟩
def cellR (a j : Nat) : List (Int × Int) := (List.range j).map (fun b : Nat => ((a : Int), (b : Int)))
def cellP (q k : Nat) : List (Int × Int) := (List.range k).flatMap (fun a => cellR a q)
theorem cellP_succ (q k : Nat) : cellP q (k + 1) = cellP q k ++ cellR k q := by unfold cellP; rw [List.range_succ, List.flatMap_append]; simp
theorem cellR_succ (a j : Nat) : cellR a (j + 1) = cellR a j ++ [((a : Int), (j : Int))] := by unfold cellR; rw [List.range_succ, List.map_append]; rfl
theorem cellR_len (a j : Nat) : (cellR a j).length = j := by simp [cellR]
theorem cellP_len (q : Nat) : ∀ k, (cellP q k).length = k * q
 | 0 => by simp [cellP]
 | k + 1 => by rw [cellP_succ, List.length_append, cellP_len q k, cellR_len, Nat.succ_mul]
theorem infoVec : (Tryz.prog.info? 55).map (fun i => (i.zero, i.size, i.bytes)) = some (some (.agg #[.int .i64 0, .int .i64 0]), 2, 16) := by kernel_rfl
theorem one_two {a b : Int} : ∀ u ∈ [Value.int .i64 a, .int .i64 b], u.oneCell' = true := by
 intro u hu
 simp only [List.mem_cons, List.not_mem_nil, or_false] at hu
 rcases hu with rfl | rfl <;> rfl
theorem new_two {W : World} {g : Nat} (T : TypeId) (a b : Value) (hg : g = W.heap.size) : ∀ (j : Nat) (u : Value), [a, b][j]? = some u → (W.alloc (.cells #[a, b] T)).cell? ((⟨g, 0, none⟩ : Addr).add j) = some u := by
 subst hg
 intro j u hj
 match j, hj with
 | 0, hj => simp at hj; subst hj; simp [Addr.add, go_sem]
 | 1, hj => simp at hj; subst hj; simp [Addr.add, go_sem]
 | j + 2, hj => simp at hj

theorem latI_prod {A B C : Int} (h : latI A B C) : A * C ≤ 64 := by
 exact h.2.2.2.2
end
end Go.Proofs.YtdgophfembpniaaGreatDoor

namespace Go.Proofs.YtdgophfembpniaaGreatDoor
section
open Go.RowKit
set_option linter.unusedSimpArgs false
set_option linter.unusedVariables false

theorem own_next2 {w1 : World} {base : Nat} {e : TypeId} {v : Value} {xs : List (Int × Int)} {a b : Int} (h : w1.ownsRow base e 2 v (xs.length + 1) (cells2 xs ++ [.int .i64 a, .int .i64 b])) : w1.ownsRow base e 2 v (xs ++ [(a, b)]).length (cells2 (xs ++ [(a, b)])) := by
 rw [cells2_snoc]; simpa using h
def CelOwn (p q : Nat) (w : World) (e : Ending) (w' : World) : Prop :=
 ∃ v : Value, e = .returned v ∧ w'.ownsRow w.heap.size 55 2 v (cellP q p).length (cells2 (cellP q p)) ∧ Below w.heap.size w w'
set_option maxHeartbeats 4000000 in
theorem l03Cells_any (p q : Nat) (B : Int) (w : World) (hp : p ≤ 64) (hq : q ≤ 64) :
  Calls Tryz.prog 83 #[.agg #[.int .i64 ((p : Int)), .int .i64 B, .int .i64 ((q : Int))]] w (CelOwn p q w) := by
 obtain ⟨i0, hi, hz0, hz1, hz2⟩ := info_parts infoVec
 have HP := Lib.hid hp
 have HQ := Lib.hid hq
 clear hp hq
 go_enter Tryz.func83, Tryz.ntmps83
 go_wp2_with fail
 have hlit : ((w.alloc (.cells #[.int .i64 (p : Int), .int .i64 B, .int .i64 (q : Int)] 32)).alloc (.cells #[] 55)).ownsRow (w.heap.size + 1) 55 2 (.slice (some ⟨w.heap.size + 1, 0, none⟩) 0 0) (cellP q 0).length (cells2 (cellP q 0)) := by
  have h := World.ownsRow_lit (base := w.heap.size + 1) (e := 55) (size := 2) (w.alloc (.cells #[.int .i64 (p : Int), .int .i64 B, .int .i64 (q : Int)] 32)) #[] 0 (by simp) (by unfold maxLen; omega) rfl
  simpa [cellP, cells2] using h
 go_loopw [3, 4] (fun v i W => ∃ (a : Nat), i = .int .i64 (a : Int) ∧ a ≤ p ∧ W.ownsRow (w.heap.size + 1) 55 2 v (cellP q a).length (cells2 (cellP q a)) ∧ Kt w.heap.size (p : Int) B (q : Int) W ∧ Below w.heap.size w W) (fun _ i _ => p - (intOf i).toNat)
 case atStart => exact ⟨0, rfl, by omega, hlit, (Kt.at _ rfl).alloc _, ((Below.refl _ _).alloc (Nat.le_refl _) _).alloc (by simp) _⟩
 case round =>
  obtain ⟨a, rfl, ha1, hown, hK, hB⟩ := hrel
  obtain ⟨k0, k1, k2, k3⟩ := id hK
  by_cases ha3 : a < p
  ·have ha4 : (a : Int) < (p : Int) := by omega
   have ha5 : (a : Int) ≤ 64 := by have := HP.out; omega
   have HA := Lib.hid ha3
   clear ha1 ha3
   go_wp2_with fail
   clear k0 k1 k2 k3
   go_loopw [3, 5] (fun v i W => ∃ (j : Nat), i = .int .i64 (j : Int) ∧ j ≤ q ∧ W.ownsRow (w.heap.size + 1) 55 2 v (cellP q a ++ cellR a j).length (cells2 (cellP q a ++ cellR a j)) ∧ Kt w.heap.size (p : Int) B (q : Int) W ∧ Below w.heap.size w W) (fun _ i _ => q - (intOf i).toNat)
   case atStart => exact ⟨0, rfl, by omega, by simpa [cellR] using hown, hK, hB⟩
   case round =>
    obtain ⟨j, rfl, hj, hown, hK, hB⟩ := hrel
    obtain ⟨k0, k1, k2, k3⟩ := id hK
    have hp := HP.out
    have hq := HQ.out
    by_cases hj1 : j < q
    ·have hj2 : (j : Int) < (q : Int) := by omega
     have hj5 : (j : Int) ≤ 64 := by omega
     have hlen2 : (cellP q a ++ cellR a j).length ≤ 64 * 64 + 64 := by
      rw [List.length_append, cellP_len, cellR_len]
      have := Nat.mul_le_mul (show a ≤ 64 by omega) hq
      omega
     clear hp hq
     go_wp2_with (at_builtin; refine wpList_append_own _ rfl _ _ 72 rfl (w.heap.size + 1) 55 i0 (.agg #[.int .i64 0, .int .i64 0]) 2 16 Tryz.underlying72 hi hz0 hz1 hz2 rfl (by decide) _ _ _ rfl (hown.alloc _) ⟨wr.heap.size, 0, none⟩ 1 1 [.int .i64 (a : Int), .int .i64 (j : Int)] rfl rfl ?c1 ?c2 ?c3 ?c4 ?c5 ?_)
     case c1 => exact new_two _ _ _ rfl
     case c2 => exact one_two
     case c3 => unfold maxLen; omega
     case c4 => omega
     case c5 => have := hB.size; simp; omega
     intro v' w2 hown' hgrow _
     have hB1 : Below (w.heap.size + 1) wr w2 := Below.grown (Below.alloc (Below.refl _ _) (by omega) _) hgrow (by simp; omega) (fun k hk => (hown.lt k hk).1)
     have B2 : Below w.heap.size w w2 := hB.trans (hB1.mono (by omega))
     have K2 : Kt w.heap.size (p : Int) B (q : Int) w2 := hK.grow hB1 (by omega)
     have hown2 : w2.ownsRow (w.heap.size + 1) 55 2 v' (cellP q a ++ cellR a (j + 1)).length (cells2 (cellP q a ++ cellR a (j + 1))) := by rw [cellR_succ, ← List.append_assoc]; exact own_next2 (by simpa using hown')
     clear hown hB hgrow hown' hlen2 hK k0 k1 k2 k3
     go_wp2
     go_roundw
     case rel => exact ⟨j + 1, by go_num, by omega, hown2, K2, B2⟩
     case measure => first | (simp [intOf]; done) | (simp [intOf]; omega)
    ·obtain rfl : j = q := by omega
     clear hj hj1 hp hq
     have hown2 : wr.ownsRow (w.heap.size + 1) 55 2 u3 (cellP j (a + 1)).length (cells2 (cellP j (a + 1))) := by rw [cellP_succ]; exact hown
     have B2 := hB
     have K2 := hK
     clear hown hB hK
     go_wp2
     have ha3 := HA.out
     go_roundw
     case rel => exact ⟨a + 1, by go_num, by omega, hown2, K2, B2⟩
     case measure => first | (simp [intOf]; done) | (simp [intOf]; omega)
  ·obtain rfl : a = p := by omega
   clear ha1 ha3
   go_wp2
   go_ret
   exact ⟨_, rfl, ownsRow_lower hown (by omega), hB⟩
end
end Go.Proofs.YtdgophfembpniaaGreatDoor

namespace Go.Proofs.YtdgophfembpniaaGreatDoor
section
open Go.RowKit
set_option linter.unusedSimpArgs false
set_option linter.unusedVariables false

theorem ownsRow_grow {B : Nat} {W w1 : World} {base : Nat} {e : TypeId} {size : Nat} {v : Value} {n : Nat} {xs : List Value} (h : W.ownsRow base e size v n xs) (hb : Below B W w1) (hB : W.heap.size ≤ B) : w1.ownsRow base e size v n xs := by
 obtain ⟨h1, h2⟩ := h
 refine ⟨h1, ?_⟩
 rcases h2 with h2 | ⟨g, cap, cur, rfl, hg, hgg, rest⟩
 ·exact .inl h2
 ·refine .inr ⟨g, cap, cur, rfl, hg, ?_, rest⟩
  rw [hb.block g (Nat.lt_of_lt_of_le (Array.getElem?_eq_some_iff.1 hgg).1 hB)]; exact hgg
theorem ownsRow_call {W w1 : World} {base : Nat} {e : TypeId} {size : Nat} {v : Value} {n : Nat} {xs : List Value} (h : W.ownsRow base e size v n xs) (hb : Below W.heap.size W w1) : w1.ownsRow base e size v n xs := ownsRow_grow h hb (Nat.le_refl _)
/- how far the program looks -/
end
end Go.Proofs.YtdgophfembpniaaGreatDoor

namespace Go.Proofs.YtdgophfembpniaaGreatDoor
section
open Go.RowKit
set_option linter.unusedSimpArgs false
set_option linter.unusedVariables false

def decM (k : Nat) : M4 := ((k : Int) / 27 - 1, (k : Int) / 9 % 3 - 1, (k : Int) / 3 % 3 - 1, (k : Int) % 3 - 1)
def keepM (f : Int) (m : M4) : Bool := keepB f m.1 m.2.1 m.2.2.1 m.2.2.2
def matsP (f : Int) (k : Nat) : List M4 := ((List.range k).map decM).filter (keepM f)
def matsL (f : Int) : List M4 := matsP f 81
end
end Go.Proofs.YtdgophfembpniaaGreatDoor

