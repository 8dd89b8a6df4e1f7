/-
  The model's list of all orbits: a slice of slices. Conditions: a list that is a group modulo a valid lattice.
-/
import Derived.Test.YtngpoaglildbnaaGreatDoorOb7
import Derived.Deep.RegionHeld3
import Derived.IntWalk
namespace Go.Proofs.YtngpoaglildbnaaGreatDoor
open Go.RowKit
set_option linter.unusedSimpArgs false
set_option linter.unusedVariables false

theorem own_ne7 {W : World} {b1 b2 K1 K2 g g' n n' cap cap' : Nat} {e1 e2 : TypeId} {xs ys : List Value} (h1 : W.ownsRow b1 e1 K1 (.slice (some ⟨g, 0, none⟩) n cap) n xs) (h2 : W.ownsRow b2 e2 K2 (.slice (some ⟨g', 0, none⟩) n' cap') n' ys) (he : e1 ≠ e2) : g ≠ g' := by
  rcases h1.2 with ⟨h, _⟩ | ⟨a, c, cur, e, _, hg, _⟩
  · simp at h
  rcases h2.2 with ⟨h, _⟩ | ⟨a', c', cur', e', _, hg', _⟩
  · simp at h
  simp only [Value.slice.injEq, Option.some.injEq, Addr.mk.injEq, and_true, true_and] at e e'
  obtain ⟨rfl, rfl⟩ := e
  obtain ⟨rfl, rfl⟩ := e'
  rintro rfl
  rw [hg] at hg'
  cases hg'
  exact he rfl
/- a row of values of one cell that the call owns, by its block -/
def KOs (g base cap : Nat) (T : TypeId) (vs : List Value) (W : World) : Prop := W.ownsRow base T 1 (.slice (some ⟨g, 0, none⟩) vs.length cap) vs.length vs
theorem KOs.call {g base cap : Nat} {T : TypeId} {vs : List Value} {W w1 : World} (h : KOs g base cap T vs W) (hb : Below W.heap.size W w1) : KOs g base cap T vs w1 := ownsRow_call h hb
theorem KOs.alloc {g base cap : Nat} {T : TypeId} {vs : List Value} {W : World} (h : KOs g base cap T vs W) (z : Obj) : KOs g base cap T vs (W.alloc z) := h.call ((Below.refl _ _).alloc (Nat.le_refl _) _)
theorem KOs.drew {g base cap : Nat} {T : TypeId} {vs : List Value} {W : World} (h : KOs g base cap T vs W) : KOs g base cap T vs W.drew := h.call (Below.refl _ _).drew
theorem KOs.lt {g base cap : Nat} {T : TypeId} {vs : List Value} {W : World} (h : KOs g base cap T vs W) : base ≤ g ∧ g < W.heap.size := World.ownsRow.lt h g rfl
theorem KOs.of {base : Nat} {T : TypeId} {v : Value} {vs : List Value} {W : World} (h : W.ownsRow base T 1 v vs.length vs) (hn : 0 < vs.length) : ∃ g cap, v = .slice (some ⟨g, 0, none⟩) vs.length cap ∧ KOs g base cap T vs W := by
  rcases h.2 with ⟨_, h0⟩ | ⟨g, cap, cur, rfl, r⟩
  · omega
  · exact ⟨g, cap, rfl, h⟩
/- the orbits of some first cells, each in a row of its own -/
def OrbV (A B C : Int) (G : List M6) (lo : Nat) (F : List V2) (vs : List Value) (W : World) : Prop :=
  vs.length = F.length ∧ ∀ k (h : k < F.length), ∃ g cap, vs[k]? = some (.slice (some ⟨g, 0, none⟩) (orbL A B C G F[k]).length cap) ∧ KO2 g lo cap 34 (orbL A B C G F[k]) W
theorem OrbV.call {A B C : Int} {G : List M6} {lo : Nat} {F : List V2} {vs : List Value} {W w1 : World} (h : OrbV A B C G lo F vs W) (hb : Below W.heap.size W w1) : OrbV A B C G lo F vs w1 :=
  ⟨h.1, fun k hk => by obtain ⟨g, cap, h1, h2⟩ := h.2 k hk; exact ⟨g, cap, h1, h2.call hb⟩⟩
theorem OrbV.alloc {A B C : Int} {G : List M6} {lo : Nat} {F : List V2} {vs : List Value} {W : World} (h : OrbV A B C G lo F vs W) (z : Obj) : OrbV A B C G lo F vs (W.alloc z) := h.call ((Below.refl _ _).alloc (Nat.le_refl _) _)
theorem OrbV.drew {A B C : Int} {G : List M6} {lo : Nat} {F : List V2} {vs : List Value} {W : World} (h : OrbV A B C G lo F vs W) : OrbV A B C G lo F vs W.drew := h.call (Below.refl _ _).drew
theorem OrbV.grown {A B C : Int} {G : List M6} {lo go base co : Nat} {F : List V2} {vs ws : List Value} {W w1 : World} (h : OrbV A B C G lo F vs W) (ho : KOs go base co 47 ws W) (hg : W.grownBy w1 (some go)) : OrbV A B C G lo F vs w1 :=
  ⟨h.1, fun k hk => by
    obtain ⟨g, cap, h1, h2⟩ := h.2 k hk
    exact ⟨g, cap, h1, h2.kept hg (fun e => own_ne7 h2 ho (by decide) (Option.some.inj e))⟩⟩
theorem OrbV.snoc {A B C : Int} {G : List M6} {lo g cap : Nat} {F : List V2} {u : V2} {vs : List Value} {W : World} (h : OrbV A B C G lo F vs W) (hk : KO2 g lo cap 34 (orbL A B C G u) W) : OrbV A B C G lo (F ++ [u]) (vs ++ [Value.slice (some ⟨g, 0, none⟩) (orbL A B C G u).length cap]) W := by
  refine ⟨by simp [h.1], fun k hk2 => ?_⟩
  by_cases e : k < F.length
  · obtain ⟨g', cap', h1, h2⟩ := h.2 k e
    refine ⟨g', cap', ?_, ?_⟩
    · rw [List.getElem?_append_left (by rw [h.1]; exact e), List.getElem_append_left e]; exact h1
    · rw [List.getElem_append_left e]; exact h2
  · have ek : k = F.length := by simp at hk2; omega
    subst ek
    refine ⟨g, cap, ?_, ?_⟩
    · rw [List.getElem?_append_right (by rw [h.1]; omega), h.1]; simp
    · simpa using hk
attribute [local go_sem ↓] eqVe7
end Go.Proofs.YtngpoaglildbnaaGreatDoor
