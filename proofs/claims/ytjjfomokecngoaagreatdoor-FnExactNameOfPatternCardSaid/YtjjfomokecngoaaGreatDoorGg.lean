/-
 Several of my texts in one: CelI, CelS, FrNear, FrM.
-/
import Derived.RangeFuncNested
import Derived.RangeFuncBound
import Derived.RangeFuncCalls
import Derived.RangeFuncLeaves
import Derived.RangeFuncBox
import Derived.Shelf.Abstract
import Derived.Shelf.RegionOpen
import Derived.WalkKit
import Derived.OwnWalkIn
import Derived.TacticsInMore
import Derived.LoopNIn
import Derived.LoopIn
import Derived.Maps.AppendAt
import Derived.Test.YtjjfomokecngoaaGreatDoorGa
import Derived.Test.YtjjfomokecngoaaGreatDoorGb
import Derived.OwnWalk
import Derived.LoopTactic
import Derived.Test.YtjjfomokecngoaaGreatDoorGe
import Derived.Test.YtjjfomokecngoaaGreatDoorGc
namespace Go.Proofs.YtjjfomokecngoaaGreatDoor
section
open Go.RowKit Go.Shelf
attribute [local go_sem] Oper.semAt_some
set_option linter.unusedSimpArgs false
set_option linter.unusedVariables false

/- a list of vectors as cells -/
def cells2 (xs : List (Int × Int)) : List Value := xs.flatMap (fun t => [.int .i64 t.1, .int .i64 t.2])
theorem cells2_snoc (xs : List (Int × Int)) (t : Int × Int) : cells2 (xs ++ [t]) = cells2 xs ++ [.int .i64 t.1, .int .i64 t.2] := by simp [cells2]
theorem cells2_int (xs : List (Int × Int)) : ∀ u ∈ cells2 xs, ∃ z, u = .int .i64 z := by
 intro u hu
 simp only [cells2, List.mem_flatMap, List.mem_cons, List.not_mem_nil, or_false] at hu
 obtain ⟨t, _, h | h⟩ := hu <;> exact ⟨_, h⟩
def cellR (a j : Nat) : List (Int × Int) := (List.range j).map (fun b : Nat => ((a : Int), (b : Int)))
def cellP (q k : Nat) : List (Int × Int) := (List.range k).flatMap (fun a => cellR a q)
theorem cellP_succ (q k : Nat) : cellP q (k + 1) = cellP q k ++ cellR k q := by unfold cellP; rw [List.range_succ, List.flatMap_append]; simp
theorem cellR_succ (a j : Nat) : cellR a (j + 1) = cellR a j ++ [((a : Int), (j : Int))] := by unfold cellR; rw [List.range_succ, List.map_append]; rfl
theorem cellR_len (a j : Nat) : (cellR a j).length = j := by simp [cellR]
theorem cellP_len (q : Nat) : ∀ k, (cellP q k).length = k * q
 | 0 => by simp [cellP]
 | k + 1 => by rw [cellP_succ, List.length_append, cellP_len q k, cellR_len, Nat.succ_mul]
theorem infoVec : (Tryz.prog.info? 63).map (fun i => (i.zero, i.size, i.bytes)) = some (some (.agg #[.int .i64 0, .int .i64 0]), 2, 16) := by kernel_rfl
theorem one_two {a b : Int} : ∀ u ∈ [Value.int .i64 a, .int .i64 b], u.oneCell' = true := by
 intro u hu
 simp only [List.mem_cons, List.not_mem_nil, or_false] at hu
 rcases hu with rfl | rfl <;> rfl
theorem new_two {W : World} {g : Nat} (T : TypeId) (a b : Value) (hg : g = W.heap.size) : ∀ (j : Nat) (u : Value), [a, b][j]? = some u → (W.alloc (.cells #[a, b] T)).cell? ((⟨g, 0, none⟩ : Addr).add j) = some u := by
 subst hg
 intro j u hj
 match j, hj with
 | 0, hj => simp at hj; subst hj; simp [Addr.add, go_sem]
 | 1, hj => simp at hj; subst hj; simp [Addr.add, go_sem]
 | j + 2, hj => simp at hj

end
end Go.Proofs.YtjjfomokecngoaaGreatDoor

namespace Go.Proofs.YtjjfomokecngoaaGreatDoor
section
open Go.RowKit
set_option linter.unusedSimpArgs false
set_option linter.unusedVariables false

theorem own_next2 {w1 : World} {base : Nat} {e : TypeId} {v : Value} {xs : List (Int × Int)} {a b : Int} (h : w1.ownsRow base e 2 v (xs.length + 1) (cells2 xs ++ [.int .i64 a, .int .i64 b])) : w1.ownsRow base e 2 v (xs ++ [(a, b)]).length (cells2 (xs ++ [(a, b)])) := by
 rw [cells2_snoc]; simpa using h
end
end Go.Proofs.YtjjfomokecngoaaGreatDoor

namespace Go.Proofs.YtjjfomokecngoaaGreatDoor
section
open Go.RowKit
set_option linter.unusedSimpArgs false
set_option linter.unusedVariables false

theorem nearR_yes {f n b X : Int} {j : Nat} {Y : Int} (hY : Y = (j : Int) - b) (h : nrmI f X Y ≤ n) : nearR f n b X (j + 1) = nearR f n b X j ++ [(X, Y)] := by
 subst hY; rw [nearR_succ, if_pos h]
theorem nearR_no {f n b X : Int} {j : Nat} {Y : Int} (hY : Y = (j : Int) - b) (h : ¬ nrmI f X Y ≤ n) : nearR f n b X (j + 1) = nearR f n b X j := by
 subst hY; rw [nearR_succ, if_neg h, List.append_nil]
def NearOwn (f n : Int) (b : Nat) (w : World) (e : Ending) (w' : World) : Prop :=
 ∃ v : Value, e = .returned v ∧ w'.ownsRow w.heap.size 63 2 v (nearL f n b).length (cells2 (nearL f n b)) ∧ Below w.heap.size w w'
theorem ownsRow_grow {B : Nat} {W w1 : World} {base : Nat} {e : TypeId} {size : Nat} {v : Value} {n : Nat} {xs : List Value} (h : W.ownsRow base e size v n xs) (hb : Below B W w1) (hB : W.heap.size ≤ B) : w1.ownsRow base e size v n xs := by
 obtain ⟨h1, h2⟩ := h
 refine ⟨h1, ?_⟩
 rcases h2 with h2 | ⟨g, cap, cur, rfl, hg, hgg, rest⟩
 ·exact .inl h2
 ·refine .inr ⟨g, cap, cur, rfl, hg, ?_, rest⟩
  rw [hb.block g (Nat.lt_of_lt_of_le (Array.getElem?_eq_some_iff.1 hgg).1 hB)]; exact hgg
theorem ownsRow_call {W w1 : World} {base : Nat} {e : TypeId} {size : Nat} {v : Value} {n : Nat} {xs : List Value} (h : W.ownsRow base e size v n xs) (hb : Below W.heap.size W w1) : w1.ownsRow base e size v n xs := ownsRow_grow h hb (Nat.le_refl _)
set_option maxRecDepth 100000 in
set_option maxHeartbeats 4000000 in
theorem l04Near_any (f n : Int) (b : Nat) (w : World) (hf : frB f = true) (hb : b ≤ 128) :
  Calls Tryz.prog 214 #[.int .i64 f, .int .i64 n, .int .i64 (b : Int)] w (NearOwn f n b w) := by
 obtain ⟨i0, hi, hz0, hz1, hz2⟩ := info_parts infoVec
 have HB := Lib.hid hb
 have hb0 : (b : Int) ≤ 128 := by omega
 clear hb
 go_enter Tryz.func214, Tryz.ntmps214
 go_wp2_with fail
 go_loopw [7, 8] (fun v i W => ∃ (k : Nat) (X : Int), i = .int .i64 X ∧ X = (k : Int) - b ∧ k ≤ 2 * b + 1 ∧ W.ownsRow w.heap.size 63 2 v (nearP f n b (2 * b + 1) k).length (cells2 (nearP f n b (2 * b + 1) k)) ∧ Below w.heap.size w W) (fun _ i _ => (b + 1 - intOf i).toNat)
 case atStart => exact ⟨0, -(b : Int), rfl, by omega, by omega, by have h := World.ownsRow_lit (base := w.heap.size) (e := 63) (size := 2) w #[] 0 (Nat.le_refl _) (by unfold maxLen; omega) rfl; simpa [nearP, cells2] using h, (Below.refl _ _).alloc (Nat.le_refl _) _⟩
 case round =>
  obtain ⟨k, X, rfl, hX, hk, hown, hB⟩ := hrel
  have hb := HB.out
  by_cases hk1 : k < 2 * b + 1
  ·have hx1 : X ≤ (b : Int) := by omega
   have hx2 : -128 ≤ X := by omega
   have hx3 : X ≤ 128 := by omega
   have HK := Lib.hid (show k < 2 * b + 1 ∧ X = (k : Int) - b from ⟨hk1, hX⟩)
   have HP := Lib.hid (nearP_len f n b (2 * b + 1) k)
   clear hk hk1 hX
   go_wp2_with fail
   go_loopw [7, 9] (fun v i W => ∃ (j : Nat) (Y : Int), i = .int .i64 Y ∧ Y = (j : Int) - b ∧ j ≤ 2 * b + 1 ∧ W.ownsRow w.heap.size 63 2 v (nearP f n b (2 * b + 1) k ++ nearR f n b X j).length (cells2 (nearP f n b (2 * b + 1) k ++ nearR f n b X j)) ∧ Below w.heap.size w W) (fun _ i _ => (b + 1 - intOf i).toNat)
   case atStart => exact ⟨0, -(b : Int), rfl, by omega, by omega, by simpa [nearR] using hown, hB⟩
   case round =>
    clear hown hB
    obtain ⟨j, Y, rfl, hY, hj, hown, hB⟩ := hrel
    have hb := HB.out
    have hz := hB.size
    by_cases hj1 : j < 2 * b + 1
    ·have hy1 : Y ≤ (b : Int) := by omega
     have hy2 : -128 ≤ Y := by omega
     have hy3 : Y ≤ 128 := by omega
     have hlen2 : (nearP f n b (2 * b + 1) k ++ nearR f n b X j).length ≤ 257 * 257 + 257 := by
      have h1 := HP.out
      have h2 := nearR_len f n b X j
      have h3 := Nat.mul_le_mul (show k ≤ 257 by have := HK.out.1; omega) (show 2 * b + 1 ≤ 257 by omega)
      rw [List.length_append]; omega
     have HL := Lib.hid hlen2
     have HJ := Lib.hid (show j < 2 * b + 1 ∧ Y = (j : Int) - b from ⟨hj1, hY⟩)
     have V1 : Kg wr.heap.size X Y (wr.alloc (.cells #[.int .i64 X, .int .i64 Y] 63)) := Kg.at2 _ rfl
     have B1 : Below w.heap.size w (wr.alloc (.cells #[.int .i64 X, .int .i64 Y] 63)) := hB.alloc hz _
     have O1 : (wr.alloc (.cells #[.int .i64 X, .int .i64 Y] 63)).ownsRow w.heap.size 63 2 u7 (nearP f n b (2 * b + 1) k ++ nearR f n b X j).length (cells2 (nearP f n b (2 * b + 1) k ++ nearR f n b X j)) := hown.alloc _
     clear hlen2 hY hj hj1 hown hB
     go_wp2_with fail
     refine (l04Norm_any _ _ _ _ hf (by unfold midI; omega) (by unfold midI; omega)).mono ?_
     rintro e w1 ⟨rfl, hb1⟩
     have V2 := V1.call hb1
     have B2 := bstep B1 hb1
     have O2 := ownsRow_call O1 hb1
     clear V1 B1 O1 hb1
     obtain ⟨v0, v1, v2⟩ := id V2
     by_cases hN : nrmI f X Y ≤ n
     ·go_wp2_with (at_builtin; refine wpList_append_own _ rfl _ _ 83 rfl w.heap.size 63 i0 (.agg #[.int .i64 0, .int .i64 0]) 2 16 Tryz.underlying83 hi hz0 hz1 hz2 rfl (by decide) _ _ _ rfl (O2.alloc _) ⟨w1.heap.size, 0, none⟩ 1 1 [.int .i64 X, .int .i64 Y] rfl rfl ?c1 ?c2 ?c3 ?c4 ?c5 ?_)
      case c1 => exact new_two _ _ _ rfl
      case c2 => exact one_two
      case c3 => have := HL.out; unfold maxLen; omega
      case c4 => have := HL.out; omega
      case c5 => have := B2.size; simp; omega
      intro v' w2 hown' hgrow _
      have B3 : Below w.heap.size w w2 := Below.grown (Below.alloc B2 B2.size _) hgrow (by have := B2.size; simp; omega) (fun q hq => by have := (O2.lt q hq).1; omega)
      have hown2 : w2.ownsRow w.heap.size 63 2 v' (nearP f n b (2 * b + 1) k ++ nearR f n b X (j + 1)).length (cells2 (nearP f n b (2 * b + 1) k ++ nearR f n b X (j + 1))) := by rw [nearR_yes HJ.out.2 hN, ← List.append_assoc]; exact own_next2 (by simpa using hown')
      clear O2 B2 V2 hgrow hown' v0 v1 v2 hN
      go_wp2
      obtain ⟨hj1, hY⟩ := HJ.out
      go_roundw
      case rel => exact ⟨j + 1, Y + 1, rfl, by omega, by omega, hown2, B3⟩
      case measure => first | (simp [intOf]; done) | (simp [intOf]; omega)
     ·have hown2 : w1.ownsRow w.heap.size 63 2 u7 (nearP f n b (2 * b + 1) k ++ nearR f n b X (j + 1)).length (cells2 (nearP f n b (2 * b + 1) k ++ nearR f n b X (j + 1))) := by rw [nearR_no HJ.out.2 hN]; exact O2
      clear O2 V2 v0 v1 v2
      go_wp2
      obtain ⟨hj1, hY⟩ := HJ.out
      go_roundw
      case rel => exact ⟨j + 1, Y + 1, rfl, by omega, by omega, hown2, B2⟩
      case measure => first | (simp [intOf]; done) | (simp [intOf]; omega)
    ·obtain rfl : j = 2 * b + 1 := by omega
     have hy1 : ¬ (Y ≤ (b : Int)) := by omega
     have hy2 : Y ≤ 129 := by omega
     have hown2 : wr.ownsRow w.heap.size 63 2 u7 (nearP f n b (2 * b + 1) (k + 1)).length (cells2 (nearP f n b (2 * b + 1) (k + 1))) := by rw [nearP_succ, ← HK.out.2]; exact hown
     have B2 := hB
     clear hown hB hj hj1 hY
     go_wp2
     obtain ⟨hk1, hX⟩ := HK.out
     go_roundw
     case rel => exact ⟨k + 1, X + 1, rfl, by omega, by omega, hown2, B2⟩
     case measure => first | (simp [intOf]; done) | (simp [intOf]; omega)
  ·obtain rfl : k = 2 * b + 1 := by omega
   have hx1 : ¬ (X ≤ (b : Int)) := by omega
   have hx2 : X ≤ 129 := by omega
   clear hk hk1 hX
   go_wp2
   go_ret
   exact ⟨_, rfl, hown, hB⟩


/- how far the program looks -/
end
end Go.Proofs.YtjjfomokecngoaaGreatDoor

namespace Go.Proofs.YtjjfomokecngoaaGreatDoor
section
open Go.RowKit
set_option linter.unusedSimpArgs false
set_option linter.unusedVariables false

def decM (k : Nat) : M4 := ((k : Int) / 27 - 1, (k : Int) / 9 % 3 - 1, (k : Int) / 3 % 3 - 1, (k : Int) % 3 - 1)
def keepM (f : Int) (m : M4) : Bool := keepB f m.1 m.2.1 m.2.2.1 m.2.2.2
def matsP (f : Int) (k : Nat) : List M4 := ((List.range k).map decM).filter (keepM f)
def matsL (f : Int) : List M4 := matsP f 81
theorem matsP_succ (f : Int) (k : Nat) : matsP f (k + 1) = matsP f k ++ (if keepM f (decM k) = true then [decM k] else []) := by
 unfold matsP
 rw [List.range_succ, List.map_append, List.filter_append]
 congr 1
 rcases h : keepM f (decM k) with _ | _ <;> simp [h]
theorem matsP_len (f : Int) (k : Nat) : (matsP f k).length ≤ k := by
 unfold matsP
 refine Nat.le_trans (List.length_filter_le _ _) ?_
 simp
theorem decM_lim {k : Nat} (h : k < 81) : limB (decM k).1 (decM k).2.1 (decM k).2.2.1 (decM k).2.2.2 = true := by
 unfold decM
 dsimp only
 simp only [limB, vecB, Bool.and_eq_true, decide_eq_true_eq]
 omega
end
end Go.Proofs.YtjjfomokecngoaaGreatDoor

