/-
 Plain facts of chapter 13: when a group keeps a pattern, the colours of its orbits in order, cells painted by orbits, powers with a bound. No conditions.
-/
import Derived.Test.YtdgophfembpniaaGreatDoorOb
import Derived.Test.YtdgophfembpniaaGreatDoorPtJ
namespace Go.Proofs.YtdgophfembpniaaGreatDoor
open Go.RowKit
set_option linter.unusedSimpArgs false
set_option linter.unusedVariables false


/- the cell with a number -/
def clK (q j : Nat) : V2 := (((j / q : Nat) : Int), ((j % q : Nat) : Int))
theorem cl_cel {p q n : Nat} (hn : n < p * q) : celB (p : Int) (q : Int) (clK q n) = true ∧ nb (q : Int) (clK q n) = n := nu_cel hn
/- whether a motion, and a group, keeps a pattern -/
def kpM (p : Nat) (B : Int) (q : Nat) (F : Nat → Int) (m : M6) : Bool := kepM (p : Int) B (q : Int) F m.1 m.2.1 m.2.2.1 m.2.2.2.1 m.2.2.2.2.1 m.2.2.2.2.2 (cellP q p)
def kpG (p : Nat) (B : Int) (q : Nat) (F : Nat → Int) (G : List M6) : Bool := G.all (kpM p B q F)
theorem kpM_iff {B : Int} {p q : Nat} {F : Nat → Int} {m : M6} : kpM p B q F m = true ↔ ∀ v ∈ cellP q p, F (nb (q : Int) (mv (p : Int) B (q : Int) m v)) = F (nb (q : Int) v) := by
 unfold kpM
 rw [kepM_snoc]
 refine forall_congr' fun v => forall_congr' fun hv => ?_
 have hb := cellP_mem9 hv
 have hr := red_cell (A := (p : Int)) (B := B) (C := (q : Int)) hb.1.1 hb.1.2 hb.2.1 hb.2.2
 rw [beq_iff_eq]
 unfold numP
 rw [hr.1, hr.2]
 exact Iff.rfl
theorem kpG_iff {p q : Nat} {B : Int} {F : Nat → Int} {G : List M6} : kpG p B q F G = true ↔ ∀ u v, celB (p : Int) (q : Int) u = true → Orb (p : Int) B (q : Int) G u v → F (nb (q : Int) u) = F (nb (q : Int) v) := by
 unfold kpG
 rw [List.all_eq_true]
 constructor
 ·rintro h u v hu ⟨g, hg, rfl⟩
  exact (kpM_iff.1 (h g hg) u (cellP_mem7.2 hu)).symm
 ·intro h g hg
  exact kpM_iff.2 fun v hv => (h v _ (cellP_mem7.1 hv) ⟨g, hg, rfl⟩).symm
/- the colours of the orbits that have begun by the k-th cell -/
def fsK (p q : Nat) (B : Int) (G : List M6) (k : Nat) : List V2 := fstL (p : Int) B (q : Int) G ((cellP q p).take k)
def ocL (p q : Nat) (B : Int) (G : List M6) (F : Nat → Int) : List Int := (orbF p q B G).map fun u => F (nb (q : Int) u)
theorem fst_pre (A B C : Int) (G : List M6) : ∀ (vs F : List V2), ∃ t, vs.foldl (fstF A B C G) F = F ++ t
 | [], F => ⟨[], by simp⟩
 | v :: vs, F => by
  rw [List.foldl_cons]
  obtain ⟨t, ht⟩ := fst_pre A B C G vs (fstF A B C G F v)
  rw [ht]
  unfold fstF
  split
  ·exact ⟨t, rfl⟩
  ·exact ⟨v :: t, by simp⟩
theorem fsK_pre (p q : Nat) (B : Int) (G : List M6) (k : Nat) : ∃ t, orbF p q B G = fsK p q B G k ++ t := by
 have h : orbF p q B G = fstL (p : Int) B (q : Int) G ((cellP q p).take k ++ (cellP q p).drop k) := by rw [List.take_append_drop]; rfl
 rw [h]
 unfold fstL fsK fstL
 rw [List.foldl_append]
 exact fst_pre _ _ _ _ _ _
theorem fsK_len (p q : Nat) (B : Int) (G : List M6) (k : Nat) : (fsK p q B G k).length ≤ (orbF p q B G).length := by
 obtain ⟨t, ht⟩ := fsK_pre p q B G k
 rw [ht, List.length_append]
 omega
theorem orbF_len64 {p q : Nat} (B : Int) (G : List M6) (h : p * q ≤ 64) : (orbF p q B G).length ≤ 64 := by
 have h1 := fstL_len (p : Int) B (q : Int) G (cellP q p)
 rw [cellP_len] at h1
 have h3 : (orbF p q B G).length = (fstL (p : Int) B (q : Int) G (cellP q p)).length := rfl
 omega
theorem tm_idx {p q : Nat} {B : Int} {G : List M6} {J : Nat → Bool} {I : Nat → Int} (T : TMid (p : Int) B (q : Int) G (orbF p q B G) J I) {k n : Nat} (hn : n < p * q) {i : Nat} (hi : i < (fsK p q B G k).length) (ho : Orb (p : Int) B (q : Int) G (fsK p q B G k)[i] (clK q n)) : I n = (i : Int) := by
 obtain ⟨t, ht⟩ := fsK_pre p q B G k
 have hi' : i < (orbF p q B G).length := Nat.lt_of_lt_of_le hi (fsK_len p q B G k)
 have e : (orbF p q B G)[i] = (fsK p q B G k)[i] := by simp only [ht, List.getElem_append_left hi]
 have h := T.i (clK q n) (cl_cel hn).1 i hi' (by rw [e]; exact ho)
 rwa [(cl_cel hn).2] at h
/- one cell more -/
def KpI (p q : Nat) (B : Int) (G : List M6) (F : Nat → Int) (k : Nat) : Prop :=
 ∀ j, j < k → ∃ (i : Nat) (hi : i < (fsK p q B G k).length), Orb (p : Int) B (q : Int) G (fsK p q B G k)[i] (clK q j) ∧ F (nb (q : Int) (fsK p q B G k)[i]) = F j
theorem KpI.start (p q : Nat) (B : Int) (G : List M6) (F : Nat → Int) : KpI p q B G F 0 := fun j hj => by omega
theorem KpI.old {p q : Nat} {B : Int} {G : List M6} {F : Nat → Int} {k i : Nat} (h : KpI p q B G F k) (hi : i < (fsK p q B G k).length) (e : fsK p q B G (k + 1) = fsK p q B G k) (ho : Orb (p : Int) B (q : Int) G (fsK p q B G k)[i] (clK q k)) (hc : F (nb (q : Int) (fsK p q B G k)[i]) = F k) : KpI p q B G F (k + 1) := by
 intro j hj
 simp only [e]
 by_cases hjk : j = k
 ·subst hjk
  exact ⟨i, hi, ho, hc⟩
 ·exact h j (by omega)
theorem KpI.new {f : Int} {p q : Nat} {B : Int} {G : List M6} (hG : grpB f (p : Int) B (q : Int) G = true) {F : Nat → Int} {k : Nat} (hk : k < p * q) (h : KpI p q B G F k) (e : fsK p q B G (k + 1) = fsK p q B G k ++ [clK q k]) : KpI p q B G F (k + 1) := by
 intro j hj
 simp only [e]
 by_cases hjk : j = k
 ·subst hjk
  refine ⟨(fsK p q B G j).length, by simp, ?_, ?_⟩
  ·simp only [List.getElem_append_right (Nat.le_refl _), Nat.sub_self, List.getElem_cons_zero]
   exact orb_refl hG (cl_cel hk).1
  ·simp only [List.getElem_append_right (Nat.le_refl _), Nat.sub_self, List.getElem_cons_zero]
   rw [(cl_cel hk).2]
 ·obtain ⟨i, hi, h1, h2⟩ := h j (by omega)
  refine ⟨i, by simp; omega, ?_, ?_⟩
  ·simp only [List.getElem_append_left hi]; exact h1
  ·simp only [List.getElem_append_left hi]; exact h2
theorem KpI.fin {f : Int} {p q : Nat} {B : Int} {G : List M6} (hG : grpB f (p : Int) B (q : Int) G = true) {J : Nat → Bool} {I : Nat → Int} (T : TMid (p : Int) B (q : Int) G (orbF p q B G) J I) {F : Nat → Int} (h : KpI p q B G F (p * q)) : kpG p B q F G = true := by
 have hl := (grp_good hG).1
 refine kpG_iff.2 fun u v hu ho => ?_
 have hv := orb_cel hl ho
 have lt : ∀ x, celB (p : Int) (q : Int) x = true → nb (q : Int) x < p * q ∧ clK q (nb (q : Int) x) = x := fun x hx => by
  have h1 := nb_lt hl hx
  have h2 := nb_int hl hx
  have h3 : nb (q : Int) x < p * q := by
   have : ((nb (q : Int) x : Nat) : Int) < ((p * q : Nat) : Int) := by rw [h2]; push_cast; exact h1.2.1
   omega
  exact ⟨h3, nb_inj hl (cl_cel h3).1 hx (cl_cel h3).2⟩
 obtain ⟨i, hi, h1, h2⟩ := h _ (lt u hu).1
 obtain ⟨j, hj, h3, h4⟩ := h _ (lt v hv).1
 rw [(lt u hu).2] at h1
 have e1 := tm_idx T (lt v hv).1 hi (by rw [(lt v hv).2]; exact orb_trans hG h1 ho)
 have e2 := tm_idx T (lt v hv).1 hj h3
 have e : i = j := by have := e1.symm.trans e2; omega
 subst e
 rw [← h2, ← h4]
/- powers with a bound -/
end Go.Proofs.YtdgophfembpniaaGreatDoor
