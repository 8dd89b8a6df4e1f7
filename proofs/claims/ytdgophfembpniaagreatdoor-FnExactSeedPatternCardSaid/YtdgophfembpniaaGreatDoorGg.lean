/-
 Several of my texts in one: CelI, CelS, FrNear, FrM.
-/
import Derived.RangeFuncNested
import Derived.RangeFuncBound
import Derived.RangeFuncCalls
import Derived.RangeFuncLeaves
import Derived.RangeFuncBox
import Derived.Shelf.Abstract
import Derived.Shelf.RegionOpen
import Derived.WalkKit
import Derived.OwnWalkIn
import Derived.TacticsInMore
import Derived.LoopNIn
import Derived.LoopIn
import Derived.Maps.AppendAt
import Derived.Test.YtdgophfembpniaaGreatDoorGa
import Derived.Test.YtdgophfembpniaaGreatDoorGb
import Derived.OwnWalk
import Derived.LoopTactic
import Derived.Test.YtdgophfembpniaaGreatDoorGe
import Derived.Test.YtdgophfembpniaaGreatDoorGc
namespace Go.Proofs.YtdgophfembpniaaGreatDoor
section
open Go.RowKit Go.Shelf
attribute [local go_sem] Oper.semAt_some
set_option linter.unusedSimpArgs false
set_option linter.unusedVariables false

/- a list of vectors as cells -/
def cells2 (xs : List (Int × Int)) : List Value := xs.flatMap (fun t => [.int .i64 t.1, .int .i64 t.2])
theorem cells2_len (xs : List (Int × Int)) : (cells2 xs).length = xs.length * 2 := by
 induction xs with
 | nil => rfl
 | cons t xs ih => simp only [cells2, List.flatMap_cons, List.length_append, List.length_cons, List.length_nil] at *; omega
theorem cells2_snoc (xs : List (Int × Int)) (t : Int × Int) : cells2 (xs ++ [t]) = cells2 xs ++ [.int .i64 t.1, .int .i64 t.2] := by simp [cells2]
theorem cells2_int (xs : List (Int × Int)) : ∀ u ∈ cells2 xs, ∃ z, u = .int .i64 z := by
 intro u hu
 simp only [cells2, List.mem_flatMap, List.mem_cons, List.not_mem_nil, or_false] at hu
 obtain ⟨t, _, h | h⟩ := hu <;> exact ⟨_, h⟩
def cellR (a j : Nat) : List (Int × Int) := (List.range j).map (fun b : Nat => ((a : Int), (b : Int)))
def cellP (q k : Nat) : List (Int × Int) := (List.range k).flatMap (fun a => cellR a q)
theorem cellP_succ (q k : Nat) : cellP q (k + 1) = cellP q k ++ cellR k q := by unfold cellP; rw [List.range_succ, List.flatMap_append]; simp
theorem cellR_succ (a j : Nat) : cellR a (j + 1) = cellR a j ++ [((a : Int), (j : Int))] := by unfold cellR; rw [List.range_succ, List.map_append]; rfl
theorem cellR_len (a j : Nat) : (cellR a j).length = j := by simp [cellR]
theorem cellP_len (q : Nat) : ∀ k, (cellP q k).length = k * q
 | 0 => by simp [cellP]
 | k + 1 => by rw [cellP_succ, List.length_append, cellP_len q k, cellR_len, Nat.succ_mul]
theorem one_two {a b : Int} : ∀ u ∈ [Value.int .i64 a, .int .i64 b], u.oneCell' = true := by
 intro u hu
 simp only [List.mem_cons, List.not_mem_nil, or_false] at hu
 rcases hu with rfl | rfl <;> rfl
theorem latI_prod {A B C : Int} (h : latI A B C) : A * C ≤ 64 := by
 exact h.2.2.2.2
end
end Go.Proofs.YtdgophfembpniaaGreatDoor

namespace Go.Proofs.YtdgophfembpniaaGreatDoor
section
open Go.RowKit
set_option linter.unusedSimpArgs false
set_option linter.unusedVariables false

theorem own_next2 {w1 : World} {base : Nat} {e : TypeId} {v : Value} {xs : List (Int × Int)} {a b : Int} (h : w1.ownsRow base e 2 v (xs.length + 1) (cells2 xs ++ [.int .i64 a, .int .i64 b])) : w1.ownsRow base e 2 v (xs ++ [(a, b)]).length (cells2 (xs ++ [(a, b)])) := by
 rw [cells2_snoc]; simpa using h
end
end Go.Proofs.YtdgophfembpniaaGreatDoor

namespace Go.Proofs.YtdgophfembpniaaGreatDoor
section
open Go.RowKit
set_option linter.unusedSimpArgs false
set_option linter.unusedVariables false

theorem ownsRow_grow {B : Nat} {W w1 : World} {base : Nat} {e : TypeId} {size : Nat} {v : Value} {n : Nat} {xs : List Value} (h : W.ownsRow base e size v n xs) (hb : Below B W w1) (hB : W.heap.size ≤ B) : w1.ownsRow base e size v n xs := by
 obtain ⟨h1, h2⟩ := h
 refine ⟨h1, ?_⟩
 rcases h2 with h2 | ⟨g, cap, cur, rfl, hg, hgg, rest⟩
 ·exact .inl h2
 ·refine .inr ⟨g, cap, cur, rfl, hg, ?_, rest⟩
  rw [hb.block g (Nat.lt_of_lt_of_le (Array.getElem?_eq_some_iff.1 hgg).1 hB)]; exact hgg
theorem ownsRow_call {W w1 : World} {base : Nat} {e : TypeId} {size : Nat} {v : Value} {n : Nat} {xs : List Value} (h : W.ownsRow base e size v n xs) (hb : Below W.heap.size W w1) : w1.ownsRow base e size v n xs := ownsRow_grow h hb (Nat.le_refl _)
/- how far the program looks -/
end
end Go.Proofs.YtdgophfembpniaaGreatDoor

namespace Go.Proofs.YtdgophfembpniaaGreatDoor
section
open Go.RowKit
set_option linter.unusedSimpArgs false
set_option linter.unusedVariables false

def decM (k : Nat) : M4 := ((k : Int) / 27 - 1, (k : Int) / 9 % 3 - 1, (k : Int) / 3 % 3 - 1, (k : Int) % 3 - 1)
def keepM (f : Int) (m : M4) : Bool := keepB f m.1 m.2.1 m.2.2.1 m.2.2.2
def matsP (f : Int) (k : Nat) : List M4 := ((List.range k).map decM).filter (keepM f)
def matsL (f : Int) : List M4 := matsP f 81
end
end Go.Proofs.YtdgophfembpniaaGreatDoor

