/-
  What a growing world keeps behind stores: a matrix's block elsewhere, a matrix's block stored whole. No condition.
-/
import Derived.Test.YtapfjmmlogcmkaaKeep2
import Derived.Deep.DeepCutAuto
namespace Go.Proofs.Ytapfjmmlogcmkaa
open Go.RowKit

theorem Kq.farp {g : Nat} {a b c d : Int} {W : World} {p : Addr} {u : Value} (hp : p.block ≠ g) (h : Kq g a b c d W) : Kq g a b c d (W.setCell p u) := by
  obtain ⟨h0, h1, h2, h3, h4⟩ := h
  have e : (W.setCell p u).heap[g]? = W.heap[g]? := Below.heap_setCell _ _ _ _ (by omega)
  exact ⟨by simpa [World.setCell] using h0, by rw [World.cell?_of_block (w := W) e]; exact h1, by rw [World.cell?_of_block (w := W) e]; exact h2, by rw [World.cell?_of_block (w := W) e]; exact h3, by rw [World.cell?_of_block (w := W) e]; exact h4⟩

theorem KR.store {R : Nat} {a b c d : Int} {W : World} (h : KR R a b c d W) (a' b' c' d' : Int) :
    KR R a' b' c' d' ((((W.setCell ⟨R, 0, none⟩ (.int .i64 a')).setCell ⟨R, 1, none⟩ (.int .i64 b')).setCell ⟨R, 2, none⟩ (.int .i64 c')).setCell ⟨R, 3, none⟩ (.int .i64 d')) := by
  obtain ⟨h0, h1, h2, h3, h4, h5, h6, h7, h8⟩ := h
  refine ⟨by simpa [World.setCell] using h0, ?_, ?_, ?_, ?_, ?_, ?_, ?_, ?_⟩ <;> simp [go_sem, *]
end Go.Proofs.Ytapfjmmlogcmkaa
