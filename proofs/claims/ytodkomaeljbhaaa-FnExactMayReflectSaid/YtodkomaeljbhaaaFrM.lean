/-
  Contracts of chapter 4: the model's list of point matrices of a frame. Conditions: those stated.
-/
import Derived.Test.YtodkomaeljbhaaaFrP
import Derived.Test.YtodkomaeljbhaaaFrNear
import Derived.Test.YtodkomaeljbhaaaM4
namespace Go.Proofs.Ytodkomaeljbhaaa
open Go.RowKit
set_option linter.unusedSimpArgs false
set_option linter.unusedVariables false

def cells4 (xs : List M4) : List Value := xs.flatMap (fun t => [.int .i64 t.1, .int .i64 t.2.1, .int .i64 t.2.2.1, .int .i64 t.2.2.2])
theorem cells4_len (xs : List M4) : (cells4 xs).length = xs.length * 4 := by
  induction xs with
  | nil => rfl
  | cons t xs ih => simp only [cells4, List.flatMap_cons, List.length_append, List.length_cons, List.length_nil] at *; omega
theorem cells4_snoc (xs : List M4) (t : M4) : cells4 (xs ++ [t]) = cells4 xs ++ [.int .i64 t.1, .int .i64 t.2.1, .int .i64 t.2.2.1, .int .i64 t.2.2.2] := by simp [cells4]
theorem cells4_int (xs : List M4) : ∀ u ∈ cells4 xs, ∃ z, u = .int .i64 z := by
  intro u hu
  simp only [cells4, List.mem_flatMap, List.mem_cons, List.not_mem_nil, or_false] at hu
  obtain ⟨t, _, h | h | h | h⟩ := hu <;> exact ⟨_, h⟩
theorem cells4_get : ∀ (xs : List M4) (i : Nat) (h : i < xs.length), (cells4 xs)[i * 4]? = some (.int .i64 xs[i].1) ∧ (cells4 xs)[i * 4 + 1]? = some (.int .i64 xs[i].2.1) ∧ (cells4 xs)[i * 4 + 2]? = some (.int .i64 xs[i].2.2.1) ∧ (cells4 xs)[i * 4 + 3]? = some (.int .i64 xs[i].2.2.2)
  | [], i, h => by simp at h
  | t :: xs, 0, _ => by simp [cells4]
  | t :: xs, i + 1, h => by
    have ih := cells4_get xs i (by simpa using h)
    have e : ∀ k, (cells4 (t :: xs))[k + 4]? = (cells4 xs)[k]? := fun k => by simp [cells4]
    rw [show (i + 1) * 4 = i * 4 + 4 by omega, show i * 4 + 4 + 1 = (i * 4 + 1) + 4 by omega, show i * 4 + 4 + 2 = (i * 4 + 2) + 4 by omega, show i * 4 + 4 + 3 = (i * 4 + 3) + 4 by omega, e, e, e, e]
    simpa using ih
theorem infoMat : (Try.prog.info? 30).map (fun i => (i.zero, i.size, i.bytes)) = some (some (.agg #[.int .i64 0, .int .i64 0, .int .i64 0, .int .i64 0]), 4, 32) := by kernel_rfl
theorem one_four {a b c d : Int} : ∀ u ∈ [Value.int .i64 a, .int .i64 b, .int .i64 c, .int .i64 d], u.oneCell' = true := by
  intro u hu
  simp only [List.mem_cons, List.not_mem_nil, or_false] at hu
  rcases hu with rfl | rfl | rfl | rfl <;> rfl
theorem new_four {W : World} {g : Nat} (T : TypeId) (a b c d : Value) (hg : g = W.heap.size) : ∀ (j : Nat) (u : Value), [a, b, c, d][j]? = some u → (W.alloc (.cells #[a, b, c, d] T)).cell? ((⟨g, 0, none⟩ : Addr).add j) = some u := by
  subst hg
  intro j u hj
  match j, hj with
  | 0, hj => simp at hj; subst hj; simp [Addr.add, go_sem]
  | 1, hj => simp at hj; subst hj; simp [Addr.add, go_sem]
  | 2, hj => simp at hj; subst hj; simp [Addr.add, go_sem]
  | 3, hj => simp at hj; subst hj; simp [Addr.add, go_sem]
  | j + 4, hj => simp at hj
theorem own_next4 {w1 : World} {base : Nat} {e : TypeId} {v : Value} {xs : List M4} {a b c d : Int} (h : w1.ownsRow base e 4 v (xs.length + 1) (cells4 xs ++ [.int .i64 a, .int .i64 b, .int .i64 c, .int .i64 d])) : w1.ownsRow base e 4 v (xs ++ [(a, b, c, d)]).length (cells4 (xs ++ [(a, b, c, d)])) := by
  rw [cells4_snoc]; simpa using h
def decM (k : Nat) : M4 := ((k : Int) / 27 - 1, (k : Int) / 9 % 3 - 1, (k : Int) / 3 % 3 - 1, (k : Int) % 3 - 1)
def keepM (f : Int) (m : M4) : Bool := keepB f m.1 m.2.1 m.2.2.1 m.2.2.2
def matsP (f : Int) (k : Nat) : List M4 := ((List.range k).map decM).filter (keepM f)
def matsL (f : Int) : List M4 := matsP f 81
theorem matsP_succ (f : Int) (k : Nat) : matsP f (k + 1) = matsP f k ++ (if keepM f (decM k) = true then [decM k] else []) := by
  unfold matsP
  rw [List.range_succ, List.map_append, List.filter_append]
  congr 1
  rcases h : keepM f (decM k) with _ | _ <;> simp [h]
theorem matsP_yes {f : Int} {k : Nat} {a b c d : Int} (hd : decM k = (a, b, c, d)) (h : keepB f a b c d = true) : matsP f (k + 1) = matsP f k ++ [(a, b, c, d)] := by
  rw [matsP_succ, hd, if_pos (show keepM f (a, b, c, d) = true from h)]
theorem matsP_no {f : Int} {k : Nat} {a b c d : Int} (hd : decM k = (a, b, c, d)) (h : keepB f a b c d = false) : matsP f (k + 1) = matsP f k := by
  rw [matsP_succ, hd, if_neg (by rw [show keepM f (a, b, c, d) = false from h]; simp), List.append_nil]
theorem matsP_len (f : Int) (k : Nat) : (matsP f k).length ≤ k := by
  unfold matsP
  refine Nat.le_trans (List.length_filter_le _ _) ?_
  simp
theorem decM_lim {k : Nat} (h : k < 81) : limB (decM k).1 (decM k).2.1 (decM k).2.2.1 (decM k).2.2.2 = true := by
  unfold decM
  dsimp only
  simp only [limB, vecB, Bool.and_eq_true, decide_eq_true_eq]
  omega
def MatsOwn (f : Int) (w : World) (e : Ending) (w' : World) : Prop :=
  ∃ v : Value, e = .returned v ∧ w'.ownsRow w.heap.size 30 4 v (matsL f).length (cells4 (matsL f)) ∧ Below w.heap.size w w'
end Go.Proofs.Ytodkomaeljbhaaa
