/-
  Plain facts for the draws of groups: a motion drawn for a valid frame and lattice is suitable, and reduced it may make a group; what a growing world leaves of "only the source has turned". Conditions: those stated.
-/
import Derived.Test.YtkfeajjpbmbmpaaGreatDoorD6f
import Derived.Test.YtkfeajjpbmbmpaaGreatDoorGh
import Derived.Test.YtkfeajjpbmbmpaaGreatDoorSrc
namespace Go.Proofs.YtkfeajjpbmbmpaaGreatDoor
open Go.RowKit
set_option linter.unusedSimpArgs false
set_option linter.unusedVariables false

theorem drawn_ok {f A B C a b c d x y : Int} (h : flB f A B C = true) (hm : (a, b, c, d) ∈ stabL f A B C) (hv : vecB x y = true) : okM f A B C (a, b, c, d, x, y) = true := by
  obtain ⟨h1, h2⟩ := List.mem_filter.1 hm
  have hf : frB f = true := by simp only [flB, Bool.and_eq_true] at h; exact h.1
  have hk : keepB f a b c d = true := matsL_keep h1
  have hmB : matB a b c d = true := by
    have := keep_det hf hk
    simp only [matB, keep_lim hf hk, Bool.true_and, Bool.or_eq_true, beq_iff_eq]
    exact this
  have hp : pmB f a b c d = true := by simp [pmB, hf, hmB, hk]
  unfold stabB at h2
  simp only [okM, h, hp, Bool.true_and, Bool.and_eq_true]
  exact ⟨h2, hv⟩
theorem drawn_good {f A B C : Int} {m : M6} (hl : latI A B C) (h : okM f A B C m = true) : suiQ f A B C (redM A B C m) ∧ redM A B C (redM A B C m) = redM A B C m :=
  ⟨(okM_iff.1 h).2.1, redM_redM hl m⟩
theorem drawn_mid {x y : Int} (h : vecB x y = true) : midI x ∧ midI y := by
  simp only [vecB, Bool.and_eq_true, decide_eq_true_eq] at h
  unfold midI
  omega
theorem good_snoc {f A B C : Int} {R : List M6} {m : M6} (hR : ∀ r ∈ R, suiQ f A B C r ∧ redM A B C r = r) (h : suiQ f A B C m ∧ redM A B C m = m) : ∀ r ∈ R ++ [m], suiQ f A B C r ∧ redM A B C r = r := by
  intro r hr
  rcases List.mem_append.1 hr with h1 | h1
  · exact hR r h1
  · simp only [List.mem_singleton] at h1
    subst h1
    exact h
theorem Only.thenB {p B : Nat} {a b c : World} (h : Only p a b) (hB : a.heap.size ≤ B) (k : Below B b c) : Only p a c :=
  ⟨k.os.trans h.os, k.tape.trans h.tape, k.output.trans h.output, Nat.le_trans h.size k.size, fun i hi hp => (k.block i (by omega)).trans (h.block i hi hp)⟩
theorem Src.grow {p B : Nat} {a0 : Option Addr} {len cap : Nat} {W w1 : World} (h : Src p a0 len cap W) (hb : Below B W w1) (hl : p < B) : Src p a0 len cap w1 := by
  obtain ⟨k, s, h1, h2, h3, h4, h5, h6⟩ := h.cells
  exact ⟨Nat.lt_of_lt_of_le h.lt hb.size, h.len_le, ⟨k, s, h1, h2, h3, by rw [hb.cell hl]; exact h4, by rw [hb.cell hl]; exact h5, by rw [hb.cell hl]; exact h6⟩, by rw [hb.frozen hl]; exact h.free1, by rw [hb.frozen hl]; exact h.free2, h.bytes.call hb (by omega)⟩
end Go.Proofs.YtkfeajjpbmbmpaaGreatDoor
