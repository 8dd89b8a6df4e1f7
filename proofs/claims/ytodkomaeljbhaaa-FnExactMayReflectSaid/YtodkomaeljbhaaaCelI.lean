/-
  The program's iterator over the cells of a lattice (a range over a function), and CellsOf by it. Conditions: the lattice is valid.
-/
import Derived.RangeFuncNested
import Derived.RangeFuncBound
import Derived.RangeFuncCalls
import Derived.RangeFuncLeaves
import Derived.RangeFuncBox
import Derived.Shelf.Abstract
import Derived.Shelf.RegionOpen
import Derived.WalkKit
import Derived.OwnWalkIn
import Derived.TacticsInMore
import Derived.LoopNIn
import Derived.LoopIn
import Derived.Maps.AppendAt
import Derived.Test.YtodkomaeljbhaaaRowF
import Derived.Test.YtodkomaeljbhaaaLat1
namespace Go.Proofs.Ytodkomaeljbhaaa
open Go.RowKit Go.Shelf
attribute [local go_sem] Oper.semAt_some
set_option linter.unusedSimpArgs false
set_option linter.unusedVariables false

/- a list of vectors as cells -/
def cells2 (xs : List (Int × Int)) : List Value := xs.flatMap (fun t => [.int .i64 t.1, .int .i64 t.2])
theorem cells2_len (xs : List (Int × Int)) : (cells2 xs).length = xs.length * 2 := by
  induction xs with
  | nil => rfl
  | cons t xs ih => simp only [cells2, List.flatMap_cons, List.length_append, List.length_cons, List.length_nil] at *; omega
theorem cells2_snoc (xs : List (Int × Int)) (t : Int × Int) : cells2 (xs ++ [t]) = cells2 xs ++ [.int .i64 t.1, .int .i64 t.2] := by simp [cells2]
theorem cells2_int (xs : List (Int × Int)) : ∀ u ∈ cells2 xs, ∃ z, u = .int .i64 z := by
  intro u hu
  simp only [cells2, List.mem_flatMap, List.mem_cons, List.not_mem_nil, or_false] at hu
  obtain ⟨t, _, h | h⟩ := hu <;> exact ⟨_, h⟩
def cellR (a j : Nat) : List (Int × Int) := (List.range j).map (fun b : Nat => ((a : Int), (b : Int)))
def cellP (q k : Nat) : List (Int × Int) := (List.range k).flatMap (fun a => cellR a q)
theorem cellP_succ (q k : Nat) : cellP q (k + 1) = cellP q k ++ cellR k q := by unfold cellP; rw [List.range_succ, List.flatMap_append]; simp
theorem cellR_succ (a j : Nat) : cellR a (j + 1) = cellR a j ++ [((a : Int), (j : Int))] := by unfold cellR; rw [List.range_succ, List.map_append]; rfl
theorem cellR_len (a j : Nat) : (cellR a j).length = j := by simp [cellR]
theorem cellP_len (q : Nat) : ∀ k, (cellP q k).length = k * q
  | 0 => by simp [cellP]
  | k + 1 => by rw [cellP_succ, List.length_append, cellP_len q k, cellR_len, Nat.succ_mul]
theorem infoVec : (Try.prog.info? 34).map (fun i => (i.zero, i.size, i.bytes)) = some (some (.agg #[.int .i64 0, .int .i64 0]), 2, 16) := by kernel_rfl
theorem one_two {a b : Int} : ∀ u ∈ [Value.int .i64 a, .int .i64 b], u.oneCell' = true := by
  intro u hu
  simp only [List.mem_cons, List.not_mem_nil, or_false] at hu
  rcases hu with rfl | rfl <;> rfl
theorem new_two {W : World} {g : Nat} (T : TypeId) (a b : Value) (hg : g = W.heap.size) : ∀ (j : Nat) (u : Value), [a, b][j]? = some u → (W.alloc (.cells #[a, b] T)).cell? ((⟨g, 0, none⟩ : Addr).add j) = some u := by
  subst hg
  intro j u hj
  match j, hj with
  | 0, hj => simp at hj; subst hj; simp [Addr.add, go_sem]
  | 1, hj => simp at hj; subst hj; simp [Addr.add, go_sem]
  | j + 2, hj => simp at hj

theorem latI_prod {A B C : Int} (h : latI A B C) : A * C ≤ 64 := by
  exact h.2.2.2.2

end Go.Proofs.Ytodkomaeljbhaaa
