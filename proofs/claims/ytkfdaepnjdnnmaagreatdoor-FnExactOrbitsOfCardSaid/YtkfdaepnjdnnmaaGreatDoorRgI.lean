/-
  A region that draws its order, by a condition that every operation keeps: it need not be walked order by order. No condition.
-/
import Derived.Test.YtkfdaepnjdnnmaaGreatDoorGa
import Derived.OrdersIn
import Derived.TacticsIn
namespace Go.Proofs.YtkfdaepnjdnnmaaGreatDoor
open Go.RowKit
set_option linter.unusedSimpArgs false
set_option linter.unusedVariables false

/- how many have not come up yet -/
def leftN (L : Array Bool) : Nat := (L.toList.filter fun b => !b).length
theorem left_set : ∀ (L : List Bool) (i : Nat), L[i]? = some false → ((L.set i true).filter fun b => !b).length + 1 = (L.filter fun b => !b).length
  | [], i, h => by simp at h
  | b :: L, 0, h => by
    have e : b = false := by simpa using h
    subst e
    simp
  | b :: L, i + 1, h => by
    have ih := left_set L i (by simpa using h)
    rcases b with _ | _
    · simp only [List.set_cons_succ, List.filter_cons, Bool.not_false, if_true, List.length_cons]
      omega
    · simpa [List.set_cons_succ, List.filter_cons] using ih
theorem left_put {L : Array Bool} {i : Nat} (h : L.getD i true = false) : leftN (L.setIfInBounds i true) + 1 = leftN L := by
  have h1 : L.toList[i]? = some false := by
    rw [Array.getD_eq_getD_getElem?] at h
    rcases hx : L[i]? with _ | b
    · rw [hx] at h; simp at h
    · rw [hx] at h
      have e : b = false := by simpa using h
      rw [Array.getElem?_toList, hx, e]
  have h2 := left_set L.toList i h1
  unfold leftN
  rw [Array.toList_setIfInBounds]
  exact h2
theorem left_none {L : Array Bool} {i : Nat} (h : leftN L = 0) : L.getD i true = true := by
  rcases hx : L.getD i true with _ | _
  · have := left_put hx
    omega
  · rfl
theorem anyIn_inv {F : Fence} {n : Nat} {P : Program} {md : Region.Mode} {ops : Array Oper} {Q : Exit → Act → World → Prop} (Inv : Array Bool → Act → World → Prop)
    (hstep : ∀ (L : Array Bool) (a : Act) (w : World), Inv L a w → ∀ i ∈ Region.ready md ops L, wpOpIn F n P ops Q i (fun a' w' => Inv (L.setIfInBounds i true) a' w') a w)
    (hdone : ∀ (L : Array Bool) (a : Act) (w : World), Inv L a w → Region.ready md ops L = [] → Q .normal a w) :
    ∀ (fuel : Nat) (L : Array Bool) (a : Act) (w : World), leftN L ≤ fuel → Inv L a w → wpAnyIn F n P md ops Q fuel L a w
  | 0, L, a, w, hf, h => by
    have hr : Region.ready md ops L = [] := by
      refine List.eq_nil_iff_forall_not_mem.2 fun i hi => ?_
      have h1 := (mem_ready.1 hi).1
      rw [left_none (by omega)] at h1
      cases h1
    exact ⟨hr, hdone L a w h hr⟩
  | fuel + 1, L, a, w, hf, h => ⟨fun hr => hdone L a w h hr, fun i hi => wpOpIn_mono (fun a' w' h' => anyIn_inv Inv hstep hdone fuel _ a' w' (by have := left_put (mem_ready.1 hi).1; omega) h') (hstep L a w h i hi)⟩
end Go.Proofs.YtkfdaepnjdnnmaaGreatDoor
