/-
  Plain facts of witnesses: the first cell whose colour is not that of its image; the lean pattern is valid. Conditions: those that are stated.
-/
import Derived.Test.YtkfdaepnjdnnmaaGreatDoorPtJ
import Derived.Test.YtkfdaepnjdnnmaaGreatDoorVb
namespace Go.Proofs.YtkfdaepnjdnnmaaGreatDoor
open Go.RowKit
set_option linter.unusedSimpArgs false
set_option linter.unusedVariables false

def brk (A B C : Int) (F : Nat → Int) (a b c d x y : Int) (v : V29) : Bool := !(F (numP A B C (a * v.1 + b * v.2 + x) (c * v.1 + d * v.2 + y)) == F (numP A B C v.1 v.2))
def witR (A B C : Int) (F : Nat → Int) (a b c d x y : Int) (L : List V29) : Option V29 := L.find? (brk A B C F a b c d x y)
def witV (r : Option V29) : V29 := r.getD (0, 0)
theorem wit_some (A B C : Int) (F : Nat → Int) (a b c d x y : Int) (L : List V29) : (witR A B C F a b c d x y L).isSome = !(kepM A B C F a b c d x y L) := by
  unfold witR kepM
  rw [Bool.eq_iff_iff, List.find?_isSome]
  simp [brk]
theorem cellP_pre (q : Nat) {i : Nat} : ∀ {p : Nat}, i ≤ p → ∃ r, cellP q p = cellP q i ++ r := by
  intro p
  induction p with
  | zero => intro h; obtain rfl : i = 0 := by omega
            exact ⟨[], by simp⟩
  | succ p ih =>
    intro h
    by_cases e : i = p + 1
    · subst e; exact ⟨[], by simp⟩
    · obtain ⟨r, hr⟩ := ih (by omega)
      exact ⟨r ++ cellR p q, by rw [cellP_succ, hr, List.append_assoc]⟩
theorem cellR_pre (a : Nat) {i : Nat} : ∀ {q : Nat}, i ≤ q → ∃ r, cellR a q = cellR a i ++ r := by
  intro p
  induction p with
  | zero => intro h; obtain rfl : i = 0 := by omega
            exact ⟨[], by simp⟩
  | succ p ih =>
    intro h
    by_cases e : i = p + 1
    · subst e; exact ⟨[], by simp⟩
    · obtain ⟨r, hr⟩ := ih (by omega)
      exact ⟨r ++ [((a : Int), (p : Int))], by rw [cellR_succ, hr, List.append_assoc]⟩
theorem find_cell {br : V29 → Bool} {p q i j : Nat} (hi : i < p) (hj : j < q) (h : ∀ v ∈ cellP q i ++ cellR i j, br v = false) (hb : br ((i : Int), (j : Int)) = true) : (cellP q p).find? br = some ((i : Int), (j : Int)) := by
  obtain ⟨r1, e1⟩ := cellP_pre q (show i + 1 ≤ p from hi)
  obtain ⟨r2, e2⟩ := cellR_pre i (show j + 1 ≤ q from hj)
  rw [e1, cellP_succ, e2, cellR_succ, List.find?_eq_some_iff_append]
  refine ⟨hb, cellP q i ++ cellR i j, r2 ++ r1, by simp, fun v hv => by simp [h v hv]⟩
theorem find_none {br : V29 → Bool} {L : List V29} (h : ∀ v ∈ L, br v = false) : L.find? br = none := List.find?_eq_none.2 fun v hv => by simp [h v hv]
theorem lean_pat {f B : Int} {p q n : Nat} {F : Nat → Int} (h : PatI f p B q n F) : PatI f (leaP (p : Int) B (q : Int) F) (fulI (p : Int) B (q : Int) F).2.1 (leaQ (p : Int) B (q : Int) F) (leaP (p : Int) B (q : Int) F * leaQ (p : Int) B (q : Int) F) (onG (p : Int) B (q : Int) F (leaP (p : Int) B (q : Int) F) (leaQ (p : Int) B (q : Int) F)) := by
  refine ⟨h.fr, (fulI_at h.lat).2, rfl, fun t ht => ?_⟩
  unfold onG cpyG
  rw [cpyL_unit]
  have hl : t < ((cellP (leaQ (p : Int) B (q : Int) F) (leaP (p : Int) B (q : Int) F)).map fun v => F (numP (p : Int) B (q : Int) v.1 v.2)).length := by rw [List.length_map, cellP_len]; exact ht
  rw [intAt_intsV hl, List.getElem_map]
  exact h.col _ (numP_lt h _ _)
end Go.Proofs.YtkfdaepnjdnnmaaGreatDoor
