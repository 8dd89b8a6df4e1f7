/-
  Contracts of chapter 2's orders and kinds: the model's loop over six powers, and what the program reads from trace and determinant. Condition: the matrix is valid (for the model's order: its numbers lie from -1000 to 1000).
-/
import Derived.Test.YtodkomaeljbhaaaMatO
import Derived.Test.YtodkomaeljbhaaaKeep2
import Derived.Deep.DeepCutAuto
namespace Go.Proofs.Ytodkomaeljbhaaa
open Go.RowKit
set_option linter.unusedSimpArgs false
set_option linter.unusedVariables false

theorem Kg.far {g : Nat} {a b : Int} {W : World} {p : Addr} {u : Value} (hp : p.block ≠ g) (h : Kg g a b W) : Kg g a b (W.setCell p u) := by
  obtain ⟨h0, h1, h2⟩ := h
  have e : (W.setCell p u).heap[g]? = W.heap[g]? := Below.heap_setCell _ _ _ _ (by omega)
  exact ⟨by simpa [World.setCell] using h0, by rw [World.cell?_of_block (w := W) e]; exact h1, by rw [World.cell?_of_block (w := W) e]; exact h2⟩
theorem Kq.far {g : Nat} {a b c d : Int} {W : World} {p : Addr} {u : Value} (hp : p.block ≠ g) (h : Kq g a b c d W) : Kq g a b c d (W.setCell p u) := by
  obtain ⟨h0, h1, h2, h3, h4⟩ := h
  have e : (W.setCell p u).heap[g]? = W.heap[g]? := Below.heap_setCell _ _ _ _ (by omega)
  exact ⟨by simpa [World.setCell] using h0, by rw [World.cell?_of_block (w := W) e]; exact h1, by rw [World.cell?_of_block (w := W) e]; exact h2, by rw [World.cell?_of_block (w := W) e]; exact h3, by rw [World.cell?_of_block (w := W) e]; exact h4⟩

theorem KR.store {R : Nat} {a b c d : Int} {W : World} (h : KR R a b c d W) (a' b' c' d' : Int) :
    KR R a' b' c' d' ((((W.setCell ⟨R, 0, none⟩ (.int .i64 a')).setCell ⟨R, 1, none⟩ (.int .i64 b')).setCell ⟨R, 2, none⟩ (.int .i64 c')).setCell ⟨R, 3, none⟩ (.int .i64 d')) := by
  obtain ⟨h0, h1, h2, h3, h4, h5, h6, h7, h8⟩ := h
  refine ⟨by simpa [World.setCell] using h0, ?_, ?_, ?_, ?_, ?_, ?_, ?_, ?_⟩ <;> simp [go_sem, *]

def OrdRel (w : World) (g : Nat) (a b c d : Int) (i : Value) (W : World) : Prop :=
  ∃ (k : Nat) (p q r s : Int), i = .int .i64 ((k : Int) + 1) ∧ k ≤ 6 ∧ Kq w.heap.size a b c d W ∧ KR g p q r s W ∧ limB p q r s = true ∧ pw a b c d k = (p, q, r, s) ∧ ordI a b c d = ordGo a b c d (k + 1) (6 - k) ∧ Below w.heap.size w W

end Go.Proofs.Ytodkomaeljbhaaa
