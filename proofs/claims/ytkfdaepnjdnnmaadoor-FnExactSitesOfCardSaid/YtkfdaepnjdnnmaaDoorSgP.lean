/-
  Plain facts: the motions that keep a pattern are a group, in order. Condition: the pattern is valid.
-/
import Derived.Test.YtkfdaepnjdnnmaaDoorSyH
import Derived.Test.YtkfdaepnjdnnmaaDoorGh
namespace Go.Proofs.YtkfdaepnjdnnmaaDoor
open Go.RowKit
set_option linter.unusedSimpArgs false
set_option linter.unusedVariables false

def lt4S (m n : M4) : Prop := m.1 < n.1 ∨ m.1 = n.1 ∧ (m.2.1 < n.2.1 ∨ m.2.1 = n.2.1 ∧ (m.2.2.1 < n.2.2.1 ∨ m.2.2.1 = n.2.2.1 ∧ m.2.2.2 < n.2.2.2))
theorem decM_ltS {j k : Nat} (h : j < k) (hk : k < 81) : lt4S (decM j) (decM k) := by
  unfold lt4S decM
  simp only
  omega
theorem mats_upS (f : Int) : (matsL f).Pairwise lt4S := by
  unfold matsL matsP
  refine List.Pairwise.filter _ ?_
  rw [List.pairwise_map]
  exact List.Pairwise.imp_of_mem (fun {a b} _ hb h => decM_ltS h (List.mem_range.1 hb)) List.pairwise_lt_range
def lt2S (u v : Int × Int) : Prop := u.1 < v.1 ∨ u.1 = v.1 ∧ u.2 < v.2
theorem cellR_upS (a j : Nat) : (cellR a j).Pairwise lt2S := by
  unfold cellR
  rw [List.pairwise_map]
  exact List.Pairwise.imp (fun {x y} h => Or.inr ⟨rfl, by dsimp only; exact_mod_cast h⟩) List.pairwise_lt_range
theorem cellP_upS (q : Nat) : ∀ k, (cellP q k).Pairwise lt2S := by
  intro k
  induction k with
  | zero => simp [cellP]
  | succ k ih =>
    rw [cellP_succ, List.pairwise_append]
    refine ⟨ih, cellR_upS k q, fun u hu v hv => Or.inl ?_⟩
    have h1 := (cellP_mem9 hu).1.2
    unfold cellR at hv
    obtain ⟨b, _, rfl⟩ := List.mem_map.1 hv
    exact h1
theorem mot_upS (f : Int) (p : Nat) (B : Int) (q : Nat) : Up (motL f p B q) := by
  unfold motL Up
  rw [List.pairwise_flatMap]
  refine ⟨fun m _ => ?_, ((mats_upS f).filter (stabB (p : Int) B (q : Int))).imp ?_⟩
  · unfold rowM
    rw [List.pairwise_map]
    refine (cellP_upS q p).imp ?_
    intro u v h
    simp only [ltM, decide_eq_true_eq]
    unfold lt2S at h
    exact Or.inr ⟨trivial, Or.inr ⟨trivial, Or.inr ⟨trivial, Or.inr ⟨trivial, h⟩⟩⟩⟩
  · intro m n h x hx y hy
    unfold rowM at hx hy
    obtain ⟨u, _, rfl⟩ := List.mem_map.1 hx
    obtain ⟨v, _, rfl⟩ := List.mem_map.1 hy
    simp only [ltM, decide_eq_true_eq]
    unfold lt4S at h
    omega
theorem mot_memS {f B : Int} {p q : Nat} (hf : frB f = true) (hl : latI (p : Int) B (q : Int)) {m : M6} : m ∈ motL f p B q ↔ suiQ f (p : Int) B (q : Int) m ∧ redM (p : Int) B (q : Int) m = m := by
  obtain ⟨a, b, c, d, x, y⟩ := m
  unfold motL
  rw [List.mem_flatMap]
  constructor
  · rintro ⟨k, hk, hm⟩
    obtain ⟨h1, h2⟩ := stab_kee hk
    unfold rowM at hm
    obtain ⟨v, hv, e⟩ := List.mem_map.1 hm
    simp only [Prod.mk.injEq] at e
    obtain ⟨rfl, rfl, rfl, rfl, rfl, rfl⟩ := e
    have hb := cellP_mem9 hv
    refine ⟨⟨h1, (map_stab hf hl h1).1 h2⟩, ?_⟩
    have hr := red_cell (A := (p : Int)) (B := B) (C := (q : Int)) hb.1.1 hb.1.2 hb.2.1 hb.2.2
    simp only [redM]
    rw [hr.1, hr.2]
  · rintro ⟨⟨h1, h2⟩, h3⟩
    have hb := redM_bd hl (a, b, c, d, x, y)
    rw [h3] at hb
    simp only at hb h1 h2
    refine ⟨(a, b, c, d), ?_, ?_⟩
    · unfold stabL
      exact List.mem_filter.2 ⟨matsL_mem hf h1, (map_stab hf hl h1).2 h2⟩
    · unfold rowM
      exact List.mem_map.2 ⟨(x, y), mem_cellP hb, rfl⟩
theorem kep_iffS {B : Int} {p q : Nat} {F : Nat → Int} {m : M6} : kepB p B q F m = true ↔ ∀ v ∈ cellP q p, F ((mv (p : Int) B (q : Int) m v).1 * (q : Int) + (mv (p : Int) B (q : Int) m v).2).toNat = F (v.1 * (q : Int) + v.2).toNat := by
  unfold kepB
  rw [kepM_snoc]
  refine forall_congr' fun v => forall_congr' fun hv => ?_
  have hb := cellP_mem9 hv
  have hr := red_cell (A := (p : Int)) (B := B) (C := (q : Int)) hb.1.1 hb.1.2 hb.2.1 hb.2.2
  rw [beq_iff_eq]
  unfold numP
  rw [hr.1, hr.2]
  exact Iff.rfl
theorem symL_memS {f B : Int} {p q : Nat} {F : Nat → Int} (hf : frB f = true) (hl : latI (p : Int) B (q : Int)) {m : M6} : m ∈ symL f p B q F ↔ (suiQ f (p : Int) B (q : Int) m ∧ redM (p : Int) B (q : Int) m = m) ∧ kepB p B q F m = true := by
  unfold symL
  rw [List.mem_filter, mot_memS hf hl]
theorem symL_grp {f B : Int} {p q n : Nat} {F : Nat → Int} (h : PatI f p B q n F) : grpB f (p : Int) B (q : Int) (symL f p B q F) = true := by
  have hf := h.fr
  have hl := h.lat
  have hfl : flB f (p : Int) B (q : Int) = true := by simp [flB, hf, latB_iff.2 hl]
  unfold grpB
  simp only [Bool.and_eq_true, decide_eq_true_eq, List.all_eq_true, List.contains_iff_mem, beq_iff_eq]
  refine ⟨hfl, fun m hm => ?_, List.Pairwise.filter _ (mot_upS f p B q), ?_, fun m hm n hn => ?_⟩
  · obtain ⟨⟨h1, h2⟩, _⟩ := (symL_memS hf hl).1 hm
    exact ⟨okM_iff.2 ⟨hfl, h1, red_vec hl h2⟩, h2⟩
  · refine (symL_memS hf hl).2 ⟨⟨oneM_sui f _ _ _, oneM_red hl⟩, kep_iffS.2 fun v hv => ?_⟩
    have hb := cellP_mem9 hv
    rw [mv_one hl (celB_iff.2 hb)]
  · obtain ⟨⟨m1, m2⟩, m3⟩ := (symL_memS hf hl).1 hm
    obtain ⟨⟨n1, n2⟩, n3⟩ := (symL_memS hf hl).1 hn
    refine (symL_memS hf hl).2 ⟨⟨mul_sui m1 n1, mul_red hl m n⟩, kep_iffS.2 fun v hv => ?_⟩
    rw [mv_mul hl m1]
    have hc := celB_iff.1 (mv_cel hl n v)
    rw [kep_iffS.1 m3 _ (mem_cellP hc)]
    exact kep_iffS.1 n3 v hv
end Go.Proofs.YtkfdaepnjdnnmaaDoor
