/-
 The program's orbitColours: the colour of each orbit, and whether the motions keep the pattern. Conditions: a valid pattern and a group modulo its lattice.
-/
import Derived.Test.YtdgophfembpniaaGreatDoorKpF
import Derived.Test.YtdgophfembpniaaGreatDoorOb
import Derived.Test.YtdgophfembpniaaGreatDoorPtA
import Derived.Deep.RegionHeld3
import Derived.IntWalk
import Derived.Laws.Rows
import Derived.Laws.Tables
import Derived.Laws.MakeOwn
import Derived.Laws.OwnMore
namespace Go.Proofs.YtdgophfembpniaaGreatDoor
open Go.RowKit
set_option linter.unusedSimpArgs false
set_option linter.unusedVariables false

def inV (zs : List Int) : List Value := zs.map (Value.int .i64)
theorem inV_snoc (zs : List Int) (z : Int) : inV (zs ++ [z]) = inV zs ++ [.int .i64 z] := by simp [inV]
theorem inV_int (zs : List Int) : ∀ u ∈ inV zs, ∃ z, u = .int .i64 z := by
 intro u hu
 obtain ⟨z, _, rfl⟩ := List.mem_map.1 hu
 exact ⟨z, rfl⟩
theorem inV_at {zs : List Int} {t : Nat} (ht : t < zs.length) : (inV zs)[t]? = some (.int .i64 zs[t]) := by simp [inV, ht]
theorem new_oneK {W : World} {g : Nat} (T : TypeId) (a : Value) (hg : g = W.heap.size) : ∀ (j : Nat) (u : Value), [a][j]? = some u → (W.alloc (.cells #[a] T)).cell? ((⟨g, 0, none⟩ : Addr).add j) = some u := by
 intro j u hu
 subst hg
 match j, hu with
 | 0, hu => simp at hu; subst hu; simp [Addr.add]
theorem infoI64K : (Tryz.prog.info? 2).map (fun i => (i.zero, i.size, i.bytes)) = some (some (.int .i64 0), 1, 8) := by kernel_rfl
theorem own_shK {W : World} {base n : Nat} {e : TypeId} {size : Nat} {v : Value} {xs : List Value} (h : W.ownsRow base e size v n xs) : ∃ ao cap, v = .slice ao n cap := by
 rcases h.2 with ⟨rfl, h2, _⟩ | ⟨g, cap, cur, rfl, _⟩
 ·exact ⟨none, 0, by simp⟩
 ·exact ⟨_, cap, rfl⟩
theorem own_callK {W w1 : World} {base : Nat} {e : TypeId} {size : Nat} {v : Value} {n : Nat} {xs : List Value} (h : W.ownsRow base e size v n xs) (hb : Below W.heap.size W w1) : w1.ownsRow base e size v n xs := by
 obtain ⟨h1, h2⟩ := h
 refine ⟨h1, h2.imp id ?_⟩
 rintro ⟨g, cap, cur, rfl, hg, hb9, r⟩
 exact ⟨g, cap, cur, rfl, hg, (hb.block g (Array.getElem?_eq_some_iff.1 hb9).1).trans hb9, r⟩
/- the answer -/
def ocF (p q : Nat) (B : Int) (G : List M6) (F : Nat → Int) : Nat → Int := intAt (inV (ocL p q B G F))
def OcPost (p q : Nat) (B : Int) (G : List M6) (F : Nat → Int) (W : World) (e : Ending) (w' : World) : Prop :=
 ∃ v' : Value, e = .returned (.tuple #[v', .bool (kpG p B q F G)]) ∧ (kpG p B q F G = true → SRow W.heap.size w'.heap.size 1 v' (ocL p q B G F).length (ocF p q B G F) w') ∧ (kpG p B q F G = false → v' = .slice none 0 0) ∧ Below W.heap.size W w'
theorem OcPost.no {p q : Nat} {B : Int} {G : List M6} {F : Nat → Int} {W w' : World} (h : kpG p B q F G = false) (hb : Below W.heap.size W w') : OcPost p q B G F W (.returned (.tuple #[.slice none 0 0, .bool false])) w' :=
 ⟨_, by rw [h], (fun e => by rw [h] at e; cases e), fun _ => rfl, hb⟩
end Go.Proofs.YtdgophfembpniaaGreatDoor
