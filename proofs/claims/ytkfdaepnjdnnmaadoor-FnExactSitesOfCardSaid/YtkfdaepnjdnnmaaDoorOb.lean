/-
  Several of my texts in one: Co7, Nu9, Of7.
-/
import Derived.Test.YtkfdaepnjdnnmaaDoorOa
import Derived.Deep.RegionHeld3
import Derived.IntWalk
import Derived.Laws.Rows
import Derived.Laws.Tables
import Derived.Test.YtkfdaepnjdnnmaaDoorSb9
namespace Go.Proofs.YtkfdaepnjdnnmaaDoor
section
open Go.RowKit
set_option linter.unusedSimpArgs false
set_option linter.unusedVariables false

end
end Go.Proofs.YtkfdaepnjdnnmaaDoor

namespace Go.Proofs.YtkfdaepnjdnnmaaDoor
section
open Go.RowKit
set_option linter.unusedSimpArgs false
set_option linter.unusedVariables false

/- the numbers of the orbits -/
def NumIs (p q : Nat) (B : Int) (G : List M6) (N : Nat → Int) : Prop := ∀ v, celB (p : Int) (q : Int) v = true → ∀ k (h : k < (orbF p q B G).length), Orb (p : Int) B (q : Int) G (orbF p q B G)[k] v → N (nb (q : Int) v) = (k : Int)
open Classical in
theorem fst_pw (A B C : Int) (G : List M6) : ∀ (vs F : List V2), F.Pairwise (fun u v => ¬ Orb A B C G u v) → (vs.foldl (fstF A B C G) F).Pairwise (fun u v => ¬ Orb A B C G u v)
  | [], _, h => h
  | v :: vs, F, h => by
    rw [List.foldl_cons]
    refine fst_pw A B C G vs _ ?_
    unfold fstF
    split
    · exact h
    · rename_i hn
      rw [List.pairwise_append]
      refine ⟨h, by simp, fun u hu x hx => ?_⟩
      have e : x = v := by simpa using hx
      rw [e]
      exact fun ho => hn ⟨u, hu, ho⟩
theorem orbF_cel {f : Int} {p q : Nat} {B : Int} {G : List M6} (hG : grpB f (p : Int) B (q : Int) G = true) {k : Nat} (hk : k < (orbF p q B G).length) : celB (p : Int) (q : Int) (orbF p q B G)[k] = true :=
  cellP_mem7.1 ((fst_cov hG (cellP q p) (fun v hv => cellP_mem7.1 hv)).2 _ (show (orbF p q B G)[k] ∈ orbF p q B G from List.getElem_mem hk))
theorem orbF_sep {f : Int} {p q : Nat} {B : Int} {G : List M6} (hG : grpB f (p : Int) B (q : Int) G = true) {j k : Nat} (hj : j < (orbF p q B G).length) (hk : k < (orbF p q B G).length) (hjk : j < k) {v : V2} (h1 : Orb (p : Int) B (q : Int) G (orbF p q B G)[j] v) (h2 : Orb (p : Int) B (q : Int) G (orbF p q B G)[k] v) : False :=
  List.pairwise_iff_getElem.1 (fst_pw (p : Int) B (q : Int) G (cellP q p) [] List.Pairwise.nil) j k hj hk hjk (orb_trans hG h1 (orb_symm hG (orbF_cel hG hk) h2))
structure NMid (p q : Nat) (B : Int) (G : List M6) (k i : Nat) (N : Nat → Int) : Prop where
  a : ∀ v, celB (p : Int) (q : Int) v = true → ∀ j (h : j < (orbF p q B G).length), j < k → Orb (p : Int) B (q : Int) G (orbF p q B G)[j] v → N (nb (q : Int) v) = (j : Int)
  b : ∀ (h : k < (orbF p q B G).length) i' (h' : i' < (orbL (p : Int) B (q : Int) G (orbF p q B G)[k]).length), i' < i → N (nb (q : Int) (orbL (p : Int) B (q : Int) G (orbF p q B G)[k])[i']) = (k : Int)
theorem NMid.start (p q : Nat) (B : Int) (G : List M6) (N : Nat → Int) : NMid p q B G 0 0 N := ⟨fun v _ j _ hj => by omega, fun _ i' _ hi => by omega⟩
theorem NMid.step {f : Int} {p q : Nat} {B : Int} {G : List M6} (hG : grpB f (p : Int) B (q : Int) G = true) {k i : Nat} {N : Nat → Int} (hk : k < (orbF p q B G).length) (hi : i < (orbL (p : Int) B (q : Int) G (orbF p q B G)[k]).length) (h : NMid p q B G k i N) :
    NMid p q B G k (i + 1) (fun n => if n = nb (q : Int) (orbL (p : Int) B (q : Int) G (orbF p q B G)[k])[i] then (k : Int) else N n) := by
  have hl := (grp_good hG).1
  have ho := orbL_mem.1 (List.getElem_mem hi)
  refine ⟨fun v hv j hj hjk hjo => ?_, fun _ i' h' hi' => ?_⟩
  · by_cases e : nb (q : Int) v = nb (q : Int) (orbL (p : Int) B (q : Int) G (orbF p q B G)[k])[i]
    · have e2 := nb_inj hl hv (orb_cel hl ho) e
      rw [← e2] at ho
      exact (orbF_sep hG hj hk hjk hjo ho).elim
    · simp only [e, if_false]
      exact h.a v hv j hj hjk hjo
  · by_cases e : nb (q : Int) (orbL (p : Int) B (q : Int) G (orbF p q B G)[k])[i'] = nb (q : Int) (orbL (p : Int) B (q : Int) G (orbF p q B G)[k])[i]
    · simp only [e, if_true]
    · simp only [e, if_false]
      refine h.b hk i' h' ?_
      rcases Nat.lt_or_ge i' i with h9 | h9
      · exact h9
      · obtain rfl : i' = i := by omega
        exact absurd rfl e
theorem NMid.next {p q : Nat} {B : Int} {G : List M6} {k : Nat} {N : Nat → Int} (hk : k < (orbF p q B G).length) (h : NMid p q B G k (orbL (p : Int) B (q : Int) G (orbF p q B G)[k]).length N) : NMid p q B G (k + 1) 0 N := by
  refine ⟨fun v hv j hj hjk hjo => ?_, fun _ i' _ hi => by omega⟩
  by_cases e : j < k
  · exact h.a v hv j hj e hjo
  · obtain rfl : j = k := by omega
    obtain ⟨i', h', e'⟩ := List.getElem_of_mem (orbL_mem.2 hjo)
    have := h.b hk i' h' h'
    rw [e'] at this
    exact this
theorem NMid.done {p q : Nat} {B : Int} {G : List M6} {N : Nat → Int} (h : NMid p q B G (orbF p q B G).length 0 N) : NumIs p q B G N := fun v hv k hk ho => h.a v hv k hk hk ho
/- the answers of both sides -/
def KQ7 (g o : Nat) (v : Value) (W : World) : Prop := g < W.heap.size ∧ W.cell? ⟨g, o, none⟩ = some v
theorem KQ7.cells {g o : Nat} {v : Value} {W : World} (h : KQ7 g o v W) : W.cell? ⟨g, o, none⟩ = some v := h.2
theorem KQ7.call {g o : Nat} {v : Value} {W w1 : World} (h : KQ7 g o v W) (hb : Below W.heap.size W w1) : KQ7 g o v w1 := ⟨Nat.lt_of_lt_of_le h.1 hb.size, (hb.cell (p := ⟨g, o, none⟩) h.1).trans h.2⟩
theorem KQ7.alloc {g o : Nat} {v : Value} {W : World} (h : KQ7 g o v W) (z : Obj) : KQ7 g o v (W.alloc z) := h.call ((Below.refl _ _).alloc (Nat.le_refl _) _)
theorem KQ7.drew {g o : Nat} {v : Value} {W : World} (h : KQ7 g o v W) : KQ7 g o v W.drew := h.call (Below.refl _ _).drew
theorem KQ7.two {r g o : Nat} {v : Value} {W w1 : World} (h : KQ7 g o v W) (hT : Two r r W w1) (h1 : g ≠ r) : KQ7 g o v w1 := ⟨Nat.lt_of_lt_of_le h.1 hT.size, (hT.cell (r := ⟨g, o, none⟩) h.1 h1 h1).trans h.2⟩
theorem Ko2.two7 {r g o : Nat} {a b : Int} {W w1 : World} (h : Ko2 g o a b W) (hT : Two r r W w1) (h1 : g ≠ r) : Ko2 g o a b w1 := ⟨Nat.lt_of_lt_of_le h.1 hT.size, (hT.cell (r := ⟨g, o, none⟩) h.1 h1 h1).trans h.2.1, (hT.cell (r := ⟨g, o + 1, none⟩) h.1 h1 h1).trans h.2.2⟩
end
end Go.Proofs.YtkfdaepnjdnnmaaDoor

namespace Go.Proofs.YtkfdaepnjdnnmaaDoor
section
open Go.RowKit
set_option linter.unusedSimpArgs false
set_option linter.unusedVariables false

end
end Go.Proofs.YtkfdaepnjdnnmaaDoor

