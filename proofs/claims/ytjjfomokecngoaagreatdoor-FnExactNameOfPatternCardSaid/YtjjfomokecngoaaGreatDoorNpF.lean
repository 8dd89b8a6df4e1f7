/-
  Plain facts: the motions that keep a lean pattern are a group without shifts. Condition: the pattern is valid.
-/
import Derived.Test.YtjjfomokecngoaaGreatDoorSg
import Derived.Test.YtjjfomokecngoaaGreatDoorNmF
import Derived.Test.YtjjfomokecngoaaGreatDoorVb
namespace Go.Proofs.YtjjfomokecngoaaGreatDoor
open Go.RowKit
set_option linter.unusedSimpArgs false
set_option linter.unusedVariables false

theorem num_inL {A B C x y x' y' : Int} (hl : latI A B C) (h : inL A B C (x - x') (y - y')) : numP A B C x y = numP A B C x' y' := by
  obtain ⟨e1, e2⟩ := (red_same hl).2 h
  unfold numP
  rw [e1, e2]
/- a shift that keeps the colours everywhere -/
def InvP (A B C : Int) (F : Nat → Int) (x y : Int) : Prop := ∀ u v, F (numP A B C (u + x) (v + y)) = F (numP A B C u v)
theorem InvP.of {A B C x y : Int} {F : Nat → Int} (hl : latI A B C) (h : inL A B C x y) : InvP A B C F x y := fun u v => by
  rw [num_inL hl (x' := u) (y' := v)]
  rw [show u + x - u = x by omega, show v + y - v = y by omega]
  exact h
theorem InvP.add {A B C x y x' y' : Int} {F : Nat → Int} (h : InvP A B C F x y) (h' : InvP A B C F x' y') : InvP A B C F (x + x') (y + y') := fun u v => by
  have h1 := h' (u + x) (v + y)
  rw [h u v] at h1
  rw [show u + (x + x') = u + x + x' by omega, show v + (y + y') = v + y + y' by omega]
  exact h1
theorem InvP.neg {A B C x y : Int} {F : Nat → Int} (h : InvP A B C F x y) : InvP A B C F (-x) (-y) := fun u v => by
  have h1 := h (u + -x) (v + -y)
  rw [show u + -x + x = u by omega, show v + -y + y = v by omega] at h1
  exact h1.symm
theorem InvP.nat {A B C x y : Int} {F : Nat → Int} (hl : latI A B C) (h : InvP A B C F x y) : ∀ n : Nat, InvP A B C F ((n : Int) * x) ((n : Int) * y)
  | 0 => InvP.of hl ⟨0, 0, by simp, by simp⟩
  | n + 1 => by
    have h1 := (InvP.nat hl h n).add h
    have e1 : (n : Int) * x + x = ((n + 1 : Nat) : Int) * x := by grind
    have e2 : (n : Int) * y + y = ((n + 1 : Nat) : Int) * y := by grind
    rwa [e1, e2] at h1
theorem InvP.mul {A B C x y : Int} {F : Nat → Int} (hl : latI A B C) (h : InvP A B C F x y) (n : Int) : InvP A B C F (n * x) (n * y) := by
  rcases Int.le_total 0 n with hn | hn
  · obtain ⟨k, rfl⟩ := Int.eq_ofNat_of_zero_le hn
    exact h.nat hl k
  · obtain ⟨k, hk⟩ := Int.eq_ofNat_of_zero_le (show 0 ≤ -n by omega)
    have := (h.nat hl k).neg
    rw [← hk] at this
    have e1 : -(-n * x) = n * x := by grind
    have e2 : -(-n * y) = n * y := by grind
    rwa [e1, e2] at this
theorem kpt_inv {A B C : Int} {F : Nat → Int} (hl : latI A B C) {x y : Int} : kptA A B C F (x, y) = true ↔ InvP A B C F x y := by
  have hA := hl.1
  have hC := hl.2.1
  unfold kptA kepS
  rw [List.all_eq_true]
  constructor
  · intro h u v
    have hb : (0 ≤ redX A B C u v ∧ redX A B C u v < A) ∧ (0 ≤ redY C v ∧ redY C v < C) := ⟨redX_bd hl, redY_bd hl⟩
    have hm : ((redX A B C u v, redY C v) : V29) ∈ cellP C.toNat A.toNat := mem_cellP ⟨⟨hb.1.1, by omega⟩, hb.2.1, by omega⟩
    have h1 := h _ hm
    rw [beq_iff_eq] at h1
    dsimp only at h1
    have ho := red_off hl u v
    have e1 : numP A B C (redX A B C u v + x) (redY C v + y) = numP A B C (u + x) (v + y) := num_inL hl (by
      have e2 : redX A B C u v + x - (u + x) = redX A B C u v - u := by omega
      have e3 : redY C v + y - (v + y) = redY C v - v := by omega
      rw [e2, e3]; exact ho)
    have e4 : numP A B C (redX A B C u v) (redY C v) = numP A B C u v := num_inL hl ho
    rw [e1, e4] at h1
    exact h1
  · intro h v hv
    rw [beq_iff_eq]
    exact h v.1 v.2
/- the lattice of the shifts that keep the colours -/
theorem fold_inv {A B C : Int} {F : Nat → Int} (hl : latI A B C) : ∀ (M : List (Int × Int)) (s : Int × Int × Int), (∀ v ∈ M, InvP A B C F v.1 v.2) → (∀ x y, Spn s x y → InvP A B C F x y) → ∀ x y, Spn (M.foldl spStep s) x y → InvP A B C F x y
  | [], s, _, hs, x, y, h => hs x y h
  | v :: M, s, hM, hs, x, y, h => by
    refine fold_inv hl M (spStep s v) (fun u hu => hM u (List.mem_cons_of_mem _ hu)) (fun a b hab => ?_) x y h
    obtain ⟨n, hn⟩ := (Spn_step s v a b).1 hab
    have h1 := (hs _ _ hn).add ((hM v (List.mem_cons_self ..)).mul hl n)
    have e1 : a - n * v.1 + n * v.1 = a := by omega
    have e2 : b - n * v.2 + n * v.2 = b := by omega
    rwa [e1, e2] at h1
theorem fold_old : ∀ (M : List (Int × Int)) (s : Int × Int × Int) (x y : Int), Spn s x y → Spn (M.foldl spStep s) x y
  | [], _, _, _, h => h
  | v :: M, s, x, y, h => fold_old M (spStep s v) x y (Spn_old v h)
theorem fold_in : ∀ (M : List (Int × Int)) (s : Int × Int × Int) (v : Int × Int), v ∈ M → Spn (M.foldl spStep s) v.1 v.2
  | [], _, _, h => by cases h
  | u :: M, s, v, h => by
    rcases List.mem_cons.1 h with rfl | h
    · refine fold_old M _ _ _ ((Spn_step s v _ _).2 ⟨1, ?_⟩)
      rw [show v.1 - 1 * v.1 = 0 by omega, show v.2 - 1 * v.2 = 0 by omega]
      exact Spn_zero s
    · exact fold_in M _ v h
theorem ful_inv {A B C : Int} {F : Nat → Int} (hl : latI A B C) {x y : Int} : hasB (fulI A B C F).1 (fulI A B C F).2.1 (fulI A B C F).2.2 x y = true ↔ InvP A B C F x y := by
  have hC : C ≠ 0 := by have := hl.2.1; omega
  have hA := hl.1
  have hs := okS_st hl F (cellP C.toNat A.toNat)
  have e : hasB (fulI A B C F).1 (fulI A B C F).2.1 (fulI A B C F).2.2 x y = true ↔ Spn (stS A B C F (cellP C.toNat A.toNat)) x y := has_nrm hs x y
  rw [e]
  unfold stS
  constructor
  · refine fold_inv hl _ _ (fun v hv => ?_) (fun a b hab => ?_) x y
    · exact (kpt_inv hl).1 (List.mem_filter.1 hv).2
    · exact InvP.of hl ((inL_iff hC _ _).1 ((Spn_lat hl a b).1 hab))
  · intro h
    have hb : (0 ≤ redX A B C x y ∧ redX A B C x y < A) ∧ (0 ≤ redY C y ∧ redY C y < C) := ⟨redX_bd hl, redY_bd hl⟩
    have hm : ((redX A B C x y, redY C y) : V29) ∈ cellP C.toNat A.toNat := mem_cellP ⟨⟨hb.1.1, by have := hl.1; omega⟩, hb.2.1, by have := hl.2.1; omega⟩
    have ho := red_off hl x y
    have h0 : InvP A B C F (redX A B C x y) (redY C y) := by
      have := h.add (InvP.of (F := F) hl ho)
      rwa [show x + (redX A B C x y - x) = redX A B C x y by omega, show y + (redY C y - y) = redY C y by omega] at this
    have h1 := fold_in _ (B, C, A) _ (List.mem_filter.2 ⟨hm, (kpt_inv hl).2 h0⟩)
    have h2 : Spn (((cellP C.toNat A.toNat).filter (kptA A B C F)).foldl spStep (B, C, A)) (x - redX A B C x y) (y - redY C y) := fold_old _ _ _ _ ((Spn_lat hl _ _).2 ((inL_iff hC _ _).2 (by
      have := inL_neg ho
      rwa [show -(redX A B C x y - x) = x - redX A B C x y by omega, show -(redY C y - y) = y - redY C y by omega] at this)))
    have h3 := (e.2 : _)
    have hh := has_nrm (s := ((cellP C.toNat A.toNat).filter (kptA A B C F)).foldl spStep (B, C, A)) (okS_fold _ _ (okS_start hl))
    have hl2 : latI (fulI A B C F).1 (fulI A B C F).2.1 (fulI A B C F).2.2 := fulP_lat hl F _
    have hC2 : (fulI A B C F).2.2 ≠ 0 := by have := hl2.2.1; omega
    have i1 := (inL_iff hC2 _ _).1 ((hasB_iff _ _ _ _ _).1 ((hh _ _).2 h1))
    have i2 := (inL_iff hC2 _ _).1 ((hasB_iff _ _ _ _ _).1 ((hh _ _).2 h2))
    have i3 := inL_add i1 i2
    dsimp only at i3
    rw [show redX A B C x y + (x - redX A B C x y) = x by omega, show redY C y + (y - redY C y) = y by omega] at i3
    exact (hh _ _).1 ((hasB_iff _ _ _ _ _).2 ((inL_iff hC2 _ _).2 i3))
/- the colours of the lean pattern -/
theorem cell_getN (q : Nat) : ∀ (p k : Nat) (h : k < (cellP q p).length), (cellP q p)[k] = (((k / q : Nat) : Int), ((k % q : Nat) : Int))
  | 0, k, h => by rw [cellP_len] at h; omega
  | p + 1, k, h => by
    have hl := cellP_len q (p + 1)
    rw [hl, Nat.succ_mul] at h
    simp only [cellP_succ]
    by_cases hk : k < (cellP q p).length
    · rw [List.getElem_append_left hk]
      exact cell_getN q p k hk
    · rw [List.getElem_append_right (by omega)]
      rw [cellP_len] at hk
      have hq : 0 < q := by omega
      have e1 : k / q = p := Nat.div_eq_of_lt_le (by omega) (by rw [Nat.succ_mul]; omega)
      have e2 : k % q = k - p * q := by
        have := Nat.div_add_mod k q
        rw [e1, Nat.mul_comm q p] at this
        omega
      rw [e1, e2]
      simp [cellR, cellP_len]
theorem onG_cell {A B C : Int} {F : Nat → Int} {p q : Nat} {v : V29} (hv : v ∈ cellP q p) : onG A B C F p q (v.1 * (q : Int) + v.2).toNat = F (numP A B C v.1 v.2) := by
  obtain ⟨k, hk, rfl⟩ := List.getElem_of_mem hv
  have e : ((cellP q p)[k].1 * (q : Int) + (cellP q p)[k].2).toNat = k := by
    rw [cell_getN q p k hk]
    dsimp only
    have := Nat.div_add_mod k q
    rw [Nat.mul_comm] at this
    have e3 : (((k / q : Nat) : Int) * (q : Int) + ((k % q : Nat) : Int)) = ((k / q * q + k % q : Nat) : Int) := by simp
    rw [e3, this]
    simp
  rw [e]
  unfold onG cpyG
  rw [cpyL_unit]
  have hl : k < ((cellP q p).map fun v => F (numP A B C v.1 v.2)).length := by rw [List.length_map]; exact hk
  rw [intAt_intsV hl, List.getElem_map]
def npL (f A B C : Int) (F : Nat → Int) : List M6 := symL f (leaP A B C F) (fulI A B C F).2.1 (leaQ A B C F) (onG A B C F (leaP A B C F) (leaQ A B C F))
theorem np_fr {f A B C : Int} {n : Nat} {F : Nat → Int} (h : patB f A B C n F = true) : frB f = true := by
  obtain ⟨p, q, rfl, rfl, hp⟩ := patB_of h
  exact hp.fr
theorem np_grp {f A B C : Int} {n : Nat} {F : Nat → Int} (h : patB f A B C n F = true) : grpB f (leaP A B C F : Int) (fulI A B C F).2.1 (leaQ A B C F : Int) (npL f A B C F) = true := by
  obtain ⟨p, q, rfl, rfl, hp⟩ := patB_of h
  exact symL_grp (lean_pat hp)
theorem np_len {f A B C : Int} {n : Nat} {F : Nat → Int} (h : patB f A B C n F = true) : (npL f A B C F).length ≤ 768 := grp_len (np_grp h)
theorem np_shift {f A B C x y : Int} {n : Nat} {F : Nat → Int} (h : patB f A B C n F = true) (hm : (1, 0, 0, 1, x, y) ∈ npL f A B C F) : x = 0 ∧ y = 0 := by
  obtain ⟨p, q, rfl, rfl, hp⟩ := patB_of h
  have hl := hp.lat
  have hL := (fulI_at (F := F) hl).2
  have hE := (fulI_at (F := F) hl).1
  unfold npL at hm
  obtain ⟨⟨_, h2⟩, h3⟩ := (symL_memS hp.fr hL).1 hm
  have hC2 : ((leaQ (p : Int) B (q : Int) F : Nat) : Int) ≠ 0 := by have := hL.2.1; omega
  have ful : ∀ a b, inL (leaP (p : Int) B (q : Int) F : Int) (fulI (p : Int) B (q : Int) F).2.1 (leaQ (p : Int) B (q : Int) F : Int) a b ↔ InvP (p : Int) B (q : Int) F a b := by
    intro a b
    rw [← ful_inv hl, ← inL_iff hC2, ← hasB_iff]
    have e1 : (fulI (p : Int) B (q : Int) F).1 = (leaP (p : Int) B (q : Int) F : Int) := congrArg (·.1) hE
    have e2 : (fulI (p : Int) B (q : Int) F).2.2 = (leaQ (p : Int) B (q : Int) F : Int) := congrArg (·.2.2) hE
    rw [e1, e2]
  have hk := kep_iffS.1 h3
  have hI : InvP (p : Int) B (q : Int) F x y := by
    intro u v
    generalize leaP (p : Int) B (q : Int) F = P at *
    generalize leaQ (p : Int) B (q : Int) F = Q at *
    generalize (fulI (p : Int) B (q : Int) F).2.1 = B' at *
    have hb : (0 ≤ redX (P : Int) B' (Q : Int) u v ∧ redX (P : Int) B' (Q : Int) u v < (P : Int)) ∧ (0 ≤ redY (Q : Int) v ∧ redY (Q : Int) v < (Q : Int)) := ⟨redX_bd hL, redY_bd hL⟩
    have hc : ((redX (P : Int) B' (Q : Int) u v, redY (Q : Int) v) : V29) ∈ cellP Q P := mem_cellP hb
    have h5 := hk _ hc
    have hcm := celB_iff.1 (mv_cel hL ((1, 0, 0, 1, x, y) : M6) ((redX (P : Int) B' (Q : Int) u v, redY (Q : Int) v) : V29))
    rw [onG_cell hc, onG_cell (mem_cellP hcm)] at h5
    simp only [mv, Int.one_mul, Int.zero_mul, Int.add_zero, Int.zero_add] at h5
    have o1 := red_off hL u v
    have o2 := red_off hL (redX (P : Int) B' (Q : Int) u v + x) (redY (Q : Int) v + y)
    have i1 := (ful _ _).1 o1
    have i2 := (ful _ _).1 o2
    have k1 := i1 u v
    rw [show u + (redX (P : Int) B' (Q : Int) u v - u) = redX (P : Int) B' (Q : Int) u v by omega, show v + (redY (Q : Int) v - v) = redY (Q : Int) v by omega] at k1
    have k2 := i2 (redX (P : Int) B' (Q : Int) u v + x) (redY (Q : Int) v + y)
    have k3 := i1 (u + x) (v + y)
    rw [show ∀ a b : Int, a + (b - a) = b by intros; omega, show ∀ a b : Int, a + (b - a) = b by intros; omega] at k2
    rw [show u + x + (redX (P : Int) B' (Q : Int) u v - u) = redX (P : Int) B' (Q : Int) u v + x by omega, show v + y + (redY (Q : Int) v - v) = redY (Q : Int) v + y by omega] at k3
    rw [← k3, ← k2, h5, k1]
  have hx := (ful x y).2 hI
  have hr := (red_same hL (x := x) (y := y) (x' := 0) (y' := 0)).2 (by rw [Int.sub_zero, Int.sub_zero]; exact hx)
  simp only [redM, Prod.mk.injEq, true_and] at h2
  rw [h2.1, h2.2] at hr
  have z := red_cell (A := (leaP (p : Int) B (q : Int) F : Int)) (B := (fulI (p : Int) B (q : Int) F).2.1) (C := (leaQ (p : Int) B (q : Int) F : Int)) (x := 0) (y := 0) (by omega) (by have := hL.1; omega) (by omega) (by have := hL.2.1; omega)
  rw [z.1, z.2] at hr
  exact hr
theorem np_one {f A B C : Int} {n : Nat} {F : Nat → Int} (h : patB f A B C n F = true) : (shP (npL f A B C F)).length ≤ 1 := by
  have hg := np_grp h
  have hn := (grp_ok hg).2.2.nodup
  unfold shP
  rw [List.length_map]
  have ha : ∀ m ∈ (npL f A B C F).filter isOne, m = oneM := by
    intro m hm
    obtain ⟨h1, h2⟩ := List.mem_filter.1 hm
    obtain ⟨a, b, c, d, x, y⟩ := m
    have e : a = 1 ∧ b = 0 ∧ c = 0 ∧ d = 1 := by
      simp [isOne, eqM] at h2
      omega
    obtain ⟨rfl, rfl, rfl, rfl⟩ := e
    obtain ⟨rfl, rfl⟩ := np_shift h h1
    rfl
  have hd := hn.filter isOne
  match hL : (npL f A B C F).filter isOne with
  | [] => simp
  | [z] => simp
  | z :: z' :: L =>
    rw [hL] at ha hd
    have e1 := ha z (by simp)
    have e2 := ha z' (by simp)
    rw [e1, e2] at hd
    simp at hd
end Go.Proofs.YtjjfomokecngoaaGreatDoor
