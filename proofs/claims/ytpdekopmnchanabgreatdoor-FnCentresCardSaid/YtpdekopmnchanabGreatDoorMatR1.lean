/-
  What strings.Split answers at a comma: words without a comma, which joined by commas are the text. Plain facts, no condition.
-/
import Derived.Test.YtpdekopmnchanabGreatDoorNumbers
import Derived.Lib.SplitLaws
import Derived.Lib.CountLaws
namespace Go.Proofs.YtpdekopmnchanabGreatDoor
open Go.RowKit
set_option linter.unusedSimpArgs false
set_option linter.unusedVariables false

theorem joinC_cons (x : List UInt8) (ws : List (List UInt8)) : joinC (x :: ws) = x ++ 44 :: joinC ws := by
  simp [joinC]
theorem ext_list (s : ByteArray) (i j : Nat) (hj : j ≤ s.size) : (s.extract i j).data.toList = (s.data.toList.take j).drop i := by
  have h := ext_str s i j hj
  unfold strV at h
  rw [Value.string.inj h]
theorem split_words : ∀ (k : Nat) (s : ByteArray), Lib.countB s ⟨#[44]⟩ = k → SplitOf s.data.toList ((Lib.splitB ⟨#[44]⟩ 0 k s).map (·.data.toList)) := by
  intro k
  induction k with
  | zero =>
    intro s h
    rw [Lib.splitB_zero]
    rcases index_comma s.data.toList with ⟨h1, h2⟩ | ⟨l, r, h1, h2, h3⟩
    · exact ⟨by simp [joinC], by simpa using h2⟩
    · have hi : Lib.indexB s ⟨#[44]⟩ = (l.length : Int) := h3
      rw [Lib.countB_hit s ⟨#[44]⟩ l.length (by decide) hi] at h
      omega
  | succ k ih =>
    intro s h
    rcases index_comma s.data.toList with ⟨h1, h2⟩ | ⟨l, r, h1, h2, h3⟩
    · have hi : Lib.indexB s ⟨#[44]⟩ = -1 := h1
      rw [Lib.countB_miss s ⟨#[44]⟩ hi] at h
      omega
    · have hi : Lib.indexB s ⟨#[44]⟩ = (l.length : Int) := h3
      rw [Lib.countB_hit s ⟨#[44]⟩ l.length (by decide) hi] at h
      have hsz : (⟨#[44]⟩ : ByteArray).size = 1 := rfl
      have hlen : s.size = l.length + 1 + r.length := by
        have : s.data.toList.length = s.size := Array.length_toList
        rw [← this, h1]; simp; omega
      have e1 : (s.extract 0 (l.length + 0)).data.toList = l := by
        rw [ext_list _ _ _ (by omega), h1]; simp
      have e2 : (s.extract (l.length + (⟨#[44]⟩ : ByteArray).size) s.size).data.toList = r := by
        rw [ext_list _ _ _ (Nat.le_refl _), hsz, List.take_of_length_le (by rw [h1]; simp; omega), h1]
        simp
      obtain ⟨g1, g2⟩ := ih (s.extract (l.length + (⟨#[44]⟩ : ByteArray).size) s.size) (by omega)
      rw [e2] at g1
      rw [Lib.splitB_hit _ 0 k s l.length hi, List.map_cons, e1]
      refine ⟨?_, ?_⟩
      · rw [joinC_cons, ← g1, h1]; simp
      · intro x hx
        rcases List.mem_cons.1 hx with rfl | hx
        · exact h2
        · exact g2 x hx
theorem split_one {l : List UInt8} {a b : List (List UInt8)} (h : SplitOf l a) (h' : SplitOf l b) : a = b := joinC_inj h.2 h'.2 (h.1.symm.trans h'.1)

end Go.Proofs.YtpdekopmnchanabGreatDoor
