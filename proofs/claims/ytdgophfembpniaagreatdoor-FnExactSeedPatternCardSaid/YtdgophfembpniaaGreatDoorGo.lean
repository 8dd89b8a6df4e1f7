/-
 Several of my texts in one: Sh6, Df8.
-/
import Derived.Test.YtdgophfembpniaaGreatDoorGm
import Derived.Test.YtdgophfembpniaaGreatDoorMg6
import Derived.Deep.RegionHeld3
import Derived.IntWalk
import Derived.Test.YtdgophfembpniaaGreatDoorPl6
import Derived.Laws.IdiomCopy
namespace Go.Proofs.YtdgophfembpniaaGreatDoor
section
open Go.RowKit
set_option linter.unusedSimpArgs false
set_option linter.unusedVariables false

theorem own_block {W : World} {base n K : Nat} {T : TypeId} {v : Value} {l : List Value} (h : W.ownsRow base T K v n l) (hn : 0 < n) : ∃ g cap, v = .slice (some ⟨g, 0, none⟩) n cap ∧ base ≤ g ∧ n ≤ cap ∧ cap ≤ maxLen := by
 rcases h.2 with ⟨_, hz⟩ | ⟨g, cap, cur, h', hb, _, hc, hm, _⟩
 ·omega
 ·exact ⟨g, cap, h', hb, hc, hm⟩
theorem grp_pos {f A B C : Int} {xs : List M6} (h : grpB f A B C xs = true) : 0 < xs.length := List.length_pos_of_mem (grp_mem h).1
theorem cod6_cases (f A B C : Int) (xs : List M6) : (grpB f A B C xs = true ∧ cod6 f A B C (grpB f A B C xs) = 0) ∨ (grpB f A B C xs = false ∧ (cod6 f A B C (grpB f A B C xs) != 0) = true) := by
 rcases hG : grpB f A B C xs with _ | _
 ·right
  refine ⟨rfl, ?_⟩
  rcases hF : flB f A B C with _ | _ <;> simp [cod6, hF]
 ·left
  exact ⟨rfl, by simp [cod6, (grp_ok hG).1]⟩
attribute [local go_sem ↓] eqArr eqMa6
end
end Go.Proofs.YtdgophfembpniaaGreatDoor

namespace Go.Proofs.YtdgophfembpniaaGreatDoor
section
open Go.RowKit
set_option linter.unusedSimpArgs false
set_option linter.unusedVariables false

/- what a closure on motions does: it answers O m in each world that keeps Inv, and leaves what was there -/
/- an invariant that only looks at blocks other than g -/
structure Cmp6 (O : M6 → Bool) (L N : List M6) (j : Nat) : Prop where
 ij : N.length < j
 pre : N = (L.take j).filter (fun v => !O v)
theorem Cmp6.start {O : M6 → Bool} {L : List M6} {k : Nat} (hk : k < L.length) (ho : O L[k] = true) (hb : ∀ v ∈ L.take k, O v = false) : Cmp6 O L (L.take k) (k + 1) := by
 refine ⟨by rw [List.length_take]; omega, ?_⟩
 rw [List.take_succ_eq_append_getElem hk, List.filter_append, List.filter_eq_self.2 (fun v hv => by rw [hb v hv]; rfl)]
 simp [ho]
theorem Cmp6.skip {O : M6 → Bool} {L N : List M6} {j : Nat} (h : Cmp6 O L N j) (hj : j < L.length) (ho : O L[j] = true) : Cmp6 O L N (j + 1) := by
 refine ⟨by have := h.ij; omega, ?_⟩
 rw [List.take_succ_eq_append_getElem hj, List.filter_append, ← h.pre]
 simp [ho]
theorem Cmp6.keep {O : M6 → Bool} {L N : List M6} {j : Nat} (h : Cmp6 O L N j) (hj : j < L.length) (ho : O L[j] = false) : Cmp6 O L (N ++ [L[j]]) (j + 1) := by
 refine ⟨by have := h.ij; simp; omega, ?_⟩
 rw [List.take_succ_eq_append_getElem hj, List.filter_append, ← h.pre]
 simp [ho]
theorem Ko6.of {g o : Nat} {F : Nat → Int} {W : World} {N : Nat} {m : M6} (h : IRow g N F W) (ho : o + 5 < N) (e : F o = m.1 ∧ F (o + 1) = m.2.1 ∧ F (o + 2) = m.2.2.1 ∧ F (o + 3) = m.2.2.2.1 ∧ F (o + 4) = m.2.2.2.2.1 ∧ F (o + 5) = m.2.2.2.2.2) : Ko6 g o m.1 m.2.1 m.2.2.1 m.2.2.2.1 m.2.2.2.2.1 m.2.2.2.2.2 W := by
 have k := h.ko6 o ho
 rwa [e.1, e.2.1, e.2.2.1, e.2.2.2.1, e.2.2.2.2.1, e.2.2.2.2.2] at k
end
end Go.Proofs.YtdgophfembpniaaGreatDoor

