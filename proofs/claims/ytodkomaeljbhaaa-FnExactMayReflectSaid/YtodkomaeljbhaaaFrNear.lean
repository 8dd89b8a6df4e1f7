/-
  Contracts of chapter 4: near vectors, in the model and in the program. Conditions: those stated.
-/
import Derived.Test.YtodkomaeljbhaaaCelS
import Derived.Test.YtodkomaeljbhaaaFrK
namespace Go.Proofs.Ytodkomaeljbhaaa
open Go.RowKit
set_option linter.unusedSimpArgs false
set_option linter.unusedVariables false

theorem nearL_same2 {f n : Int} {b b' : Nat} (h : ∀ x y : Int, nrmI f x y ≤ n → (-(b : Int) ≤ x ∧ x ≤ b) ∧ (-(b : Int) ≤ y ∧ y ≤ b)) (h' : ∀ x y : Int, nrmI f x y ≤ n → (-(b' : Int) ≤ x ∧ x ≤ b') ∧ (-(b' : Int) ≤ y ∧ y ≤ b')) : nearL f n b = nearL f n b' := by
  refine sorted_ext (nearL_sorted f n b) (nearL_sorted f n b') (fun w => ?_)
  rw [nearL_mem, nearL_mem]
  constructor
  · rintro ⟨_, hn⟩; exact ⟨h' _ _ hn, hn⟩
  · rintro ⟨_, hn⟩; exact ⟨h _ _ hn, hn⟩
theorem nearR_yes {f n b X : Int} {j : Nat} {Y : Int} (hY : Y = (j : Int) - b) (h : nrmI f X Y ≤ n) : nearR f n b X (j + 1) = nearR f n b X j ++ [(X, Y)] := by
  subst hY; rw [nearR_succ, if_pos h]
theorem nearR_no {f n b X : Int} {j : Nat} {Y : Int} (hY : Y = (j : Int) - b) (h : ¬ nrmI f X Y ≤ n) : nearR f n b X (j + 1) = nearR f n b X j := by
  subst hY; rw [nearR_succ, if_neg h, List.append_nil]
def NearOwn (f n : Int) (b : Nat) (w : World) (e : Ending) (w' : World) : Prop :=
  ∃ v : Value, e = .returned v ∧ w'.ownsRow w.heap.size 34 2 v (nearL f n b).length (cells2 (nearL f n b)) ∧ Below w.heap.size w w'
def NearOwn2 (f n : Int) (b : Nat) (w : World) (e : Ending) (w' : World) : Prop :=
  ∃ v : Value, e = .returned (.tuple #[v, .int .i64 0]) ∧ w'.ownsRow w.heap.size 34 2 v (nearL f n b).length (cells2 (nearL f n b)) ∧ Below w.heap.size w w'
theorem int_same {a b : Int} (h : a = b) : Value.int .i64 a = .int .i64 b := by rw [h]
theorem ownsRow_grow {B : Nat} {W w1 : World} {base : Nat} {e : TypeId} {size : Nat} {v : Value} {n : Nat} {xs : List Value} (h : W.ownsRow base e size v n xs) (hb : Below B W w1) (hB : W.heap.size ≤ B) : w1.ownsRow base e size v n xs := by
  obtain ⟨h1, h2⟩ := h
  refine ⟨h1, ?_⟩
  rcases h2 with h2 | ⟨g, cap, cur, rfl, hg, hgg, rest⟩
  · exact .inl h2
  · refine .inr ⟨g, cap, cur, rfl, hg, ?_, rest⟩
    rw [hb.block g (Nat.lt_of_lt_of_le (Array.getElem?_eq_some_iff.1 hgg).1 hB)]; exact hgg
theorem ownsRow_call {W w1 : World} {base : Nat} {e : TypeId} {size : Nat} {v : Value} {n : Nat} {xs : List Value} (h : W.ownsRow base e size v n xs) (hb : Below W.heap.size W w1) : w1.ownsRow base e size v n xs := ownsRow_grow h hb (Nat.le_refl _)
/- how far the program looks -/
end Go.Proofs.Ytodkomaeljbhaaa
