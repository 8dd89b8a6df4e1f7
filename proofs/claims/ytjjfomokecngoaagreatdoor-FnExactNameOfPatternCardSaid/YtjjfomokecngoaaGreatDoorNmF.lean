/-
 Plain facts of the names of groups (chapter 12): the facts of each group without shifts have a name. The point parts of squares and hexagons and the lattices that they keep are looked through. Conditions: those stated.
-/
import Derived.Test.YtjjfomokecngoaaGreatDoorFtF
import Derived.Test.YtjjfomokecngoaaGreatDoorNmI
import Derived.Test.YtjjfomokecngoaaGreatDoorHg
namespace Go.Proofs.YtjjfomokecngoaaGreatDoor
open Go.RowKit
set_option linter.unusedSimpArgs false
set_option linter.unusedVariables false

/- lattices -/
def latAll (P : Int → Int → Int → Bool) : Bool := (List.range 64).all fun i => (List.range 64).all fun k => decide (64 < (i + 1) * (k + 1)) || (List.range (i + 1)).all fun b => P ((i + 1 : Nat) : Int) (b : Int) ((k + 1 : Nat) : Int)
theorem latAll_of {P : Int → Int → Int → Bool} (h : latAll P = true) {A B C : Int} (hl : latI A B C) : P A B C = true := by
 obtain ⟨hA, hC, hB, hBA, h64⟩ := hl
 obtain ⟨i, hi⟩ := Int.eq_ofNat_of_zero_le (show 0 ≤ A - 1 by omega)
 obtain ⟨k, hk⟩ := Int.eq_ofNat_of_zero_le (show 0 ≤ C - 1 by omega)
 obtain ⟨b, hb⟩ := Int.eq_ofNat_of_zero_le hB
 obtain rfl : A = ((i + 1 : Nat) : Int) := by omega
 obtain rfl : C = ((k + 1 : Nat) : Int) := by omega
 subst hb
 have hp : (i + 1) * (k + 1) ≤ 64 := by
  have : (((i + 1) * (k + 1) : Nat) : Int) ≤ 64 := by rw [Int.natCast_mul]; exact h64
  omega
 have h1 : i + 1 ≤ (i + 1) * (k + 1) := Nat.le_mul_of_pos_right _ (by omega)
 have h2 : k + 1 ≤ (i + 1) * (k + 1) := Nat.le_mul_of_pos_left _ (by omega)
 unfold latAll at h
 simp only [List.all_eq_true, List.mem_range, Bool.or_eq_true, decide_eq_true_eq] at h
 rcases h i (by omega) k (by omega) with h3 | h3
 ·omega
 ·exact h3 b (by omega)
def stabD (A B C : Int) (m : M4) : Bool := hasB A B C (m.1 * A) (m.2.2.1 * A) && hasB A B C (m.1 * B + m.2.1 * C) (m.2.2.1 * B + m.2.2.2 * C)
theorem stabD_of {A B C a b c d : Int} (hl : latI A B C) (h : stabQ A B C a b c d) : stabD A B C (a, b, c, d) = true := by
 have hC : C ≠ 0 := by have := hl.2.1; omega
 unfold stabD
 rw [Bool.and_eq_true, hasB_iff, hasB_iff, inL_iff hC, inL_iff hC]
 exact h
def cenM (A B C : Int) (m : M4) : Bool := cenB A B C m.1 m.2.1 m.2.2.1 m.2.2.2
def rotM4 (f : Int) : M4 := if f = 0 then (0, -1, 1, 0) else (-1, -1, 1, 0)
def negM4 (m : M4) : M4 := (-m.1, -m.2.1, -m.2.2.1, -m.2.2.2)
def mir0 : List M4 := [(-1, 0, 0, 1), (0, -1, -1, 0), (0, 1, 1, 0), (1, 0, 0, -1)]
def mir1 : List M4 := [(-1, -1, 0, 1), (-1, 0, 1, 1), (0, -1, -1, 0), (0, 1, 1, 0), (1, 0, -1, -1), (1, 1, 0, -1)]
/- what holds of the mirrors of a lattice: opposite ones are centred together; with quarter turns just one pair is; with third turns all are -/
def latOk0 (A B C : Int) : Bool := mir0.all fun m => !(stabD A B C m) ||
 ((cenM A B C (negM4 m) == cenM A B C m) && (!(stabD A B C (0, -1, 1, 0)) || (mir0.all fun n => n == m || n == negM4 m || (cenM A B C n == !(cenM A B C m)))))
def latOk1 (A B C : Int) : Bool := mir1.all fun m => !(stabD A B C m) ||
 ((cenM A B C (negM4 m) == cenM A B C m) && (!(stabD A B C (-1, -1, 1, 0)) || cenM A B C m))
set_option maxRecDepth 100000 in
theorem lat_dec0 : latAll latOk0 = true := by decide +kernel
set_option maxRecDepth 100000 in
theorem lat_dec1 : latAll latOk1 = true := by decide +kernel
/- point parts -/
def sq4 : List M4 := [(-1, 0, 0, -1), (-1, 0, 0, 1), (0, -1, -1, 0), (0, -1, 1, 0), (0, 1, -1, 0), (0, 1, 1, 0), (1, 0, 0, -1), (1, 0, 0, 1)]
def hx4 : List M4 := [(-1, -1, 0, 1), (-1, -1, 1, 0), (-1, 0, 0, -1), (-1, 0, 1, 1), (0, -1, -1, 0), (0, -1, 1, 1), (0, 1, -1, -1), (0, 1, 1, 0), (1, 0, -1, -1), (1, 0, 0, 1), (1, 1, -1, 0), (1, 1, 0, -1)]
def mul4 (m n : M4) : M4 := mulP m.1 m.2.1 m.2.2.1 m.2.2.2 n
def det4 (m : M4) : Int := m.1 * m.2.2.2 - m.2.1 * m.2.2.1
def trn4 (n : Int) (m : M4) : Int := if det4 m = 1 then max n (ordI m.1 m.2.1 m.2.2.1 m.2.2.2) else n
abbrev T4 := M4 × Bool × Bool
def allS : List M4 → (List M4 → Bool) → Bool
 | [], P => P []
 | m :: L, P => allS L P && allS L fun l => P (m :: l)
def allT : List M4 → (List T4 → Bool) → Bool
 | [], P => P []
 | m :: L, P => allT L (fun l => P ((m, false, false) :: l)) && (allT L (fun l => P ((m, false, true) :: l)) && (allT L (fun l => P ((m, true, false) :: l)) && allT L fun l => P ((m, true, true) :: l)))
theorem allS_of (p : M4 → Bool) : ∀ (L : List M4) (P : List M4 → Bool), allS L P = true → P (L.filter p) = true
 | [], P, h => h
 | m :: L, P, h => by
  unfold allS at h
  rw [Bool.and_eq_true] at h
  rw [List.filter_cons]
  split
  ·exact allS_of p L _ h.2
  ·exact allS_of p L _ h.1
theorem allT_of (e c : M4 → Bool) : ∀ (L : List M4) (P : List T4 → Bool), allT L P = true → P (L.map fun m => (m, e m, c m)) = true
 | [], P, h => h
 | m :: L, P, h => by
  unfold allT at h
  simp only [Bool.and_eq_true] at h
  obtain ⟨h1, h2, h3, h4⟩ := h
  rw [List.map_cons]
  rcases e m with _ | _ <;> rcases c m with _ | _
  ·exact allT_of e c L _ h1
  ·exact allT_of e c L _ h2
  ·exact allT_of e c L _ h3
  ·exact allT_of e c L _ h4
/- of each mirror: whether some motion with it reflects, whether the lattice is centred for it -/
def trOk (f : Int) (ms : List M4) (tr : List T4) : Bool :=
 tr.all (fun t => (!t.2.2 || t.2.1)) && (tr.all fun t => tr.all fun s =>
  (if s.1 == negM4 t.1 then (s.2.2 == t.2.2) && (!(f == 0 && ms.contains (rotM4 0)) || (s.2.1 == t.2.1)) else (s.1 == t.1 || !(f == 0 && ms.contains (rotM4 0)) || (s.2.2 == !t.2.2))) && (!(f == 1 && ms.contains (rotM4 1)) || t.2.2))
def eSum (tr : List T4) : Int := tr.foldl (fun k t => k + bI t.2.1) 0
def cSum (tr : List T4) : Int := tr.foldl (fun k t => k + bI t.2.2) 0
def grpOk (f : Int) (ms : List M4) : Bool :=
 !(ms.contains (1, 0, 0, 1) && ms.all fun m => ms.all fun n => ms.contains (mul4 m n)) ||
 allT (ms.filter fun m => det4 m == -1) fun tr => !(trOk f ms tr) ||
  (nmI (ms.foldl trn4 1) tr.length (eSum tr) (cSum tr) true != 0 || tr == []) && nmI (ms.foldl trn4 1) tr.length (eSum tr) (cSum tr) false != 0
set_option maxRecDepth 100000 in
theorem pts_dec0 : allS sq4 (grpOk 0) = true := by decide +kernel
set_option maxRecDepth 100000 in
theorem pts_dec1 : allS hx4 (grpOk 1) = true := by decide +kernel
def ptsL (f : Int) : List M4 := if f = 0 then sq4 else hx4
theorem pts_dec {f : Int} (hf : frB f = true) (p : M4 → Bool) : grpOk f ((ptsL f).filter p) = true := by
 have : f = 0 ∨ f = 1 := by simpa [frB] using hf
 rcases this with rfl | rfl
 ·exact allS_of p _ _ pts_dec0
 ·exact allS_of p _ _ pts_dec1
def ltB4 (m n : M4) : Bool := decide (m.1 < n.1 ∨ m.1 = n.1 ∧ (m.2.1 < n.2.1 ∨ m.2.1 = n.2.1 ∧ (m.2.2.1 < n.2.2.1 ∨ m.2.2.1 = n.2.2.1 ∧ m.2.2.2 < n.2.2.2)))
theorem mats_eq {f : Int} (hf : frB f = true) : matsL f = ptsL f ∧ (ptsL f).Pairwise fun m n => ltB4 m n = true := by
 have : f = 0 ∨ f = 1 := by simpa [frB] using hf
 rcases this with rfl | rfl <;> exact ⟨by decide +kernel, by decide +kernel⟩
theorem ltB4_asymm {m n : M4} (h : ltB4 m n = true) (h' : ltB4 n m = true) : False := by
 simp only [ltB4, decide_eq_true_eq] at h h'
 omega
theorem ltB4_irr (m : M4) : ltB4 m m = false := by simp [ltB4]
theorem srt4_unique {L L' : List M4} (h : L.Pairwise fun m n => ltB4 m n = true) (h' : L'.Pairwise fun m n => ltB4 m n = true) (hm : ∀ m, m ∈ L ↔ m ∈ L') : L = L' :=
 List.Perm.eq_of_pairwise (le := fun m n => ltB4 m n = true) (fun a b _ _ h1 h2 => absurd h2 (fun h2 => ltB4_asymm h1 h2)) h h' ((List.perm_ext_iff_of_nodup (h.imp fun {a b} hab e => by subst e; rw [ltB4_irr] at hab; cases hab) (h'.imp fun {a b} hab e => by subst e; rw [ltB4_irr] at hab; cases hab)).2 hm)
/- groups without shifts: a matrix has one motion -/
def mt (k : M6) : M4 := (k.1, k.2.1, k.2.2.1, k.2.2.2.1)
theorem mt_mul (A B C : Int) (m n : M6) : mt (mulM A B C m n) = mul4 (mt m) (mt n) := rfl
theorem one_uni {xs : List M6} (h1 : (shP xs).length ≤ 1) {k k' : M6} (hk : k ∈ xs) (hk' : k' ∈ xs) (e : mt k = (1, 0, 0, 1)) (e' : mt k' = (1, 0, 0, 1)) : k = k' := by
 have ho : ∀ j : M6, mt j = (1, 0, 0, 1) → isOne j = true := by
  intro j hj
  simp only [mt, Prod.mk.injEq] at hj
  obtain ⟨e1, e2, e3, e4⟩ := hj
  simp [isOne, eqM, e1, e2, e3, e4]
 have m1 : k ∈ xs.filter isOne := List.mem_filter.2 ⟨hk, ho k e⟩
 have m2 : k' ∈ xs.filter isOne := List.mem_filter.2 ⟨hk', ho k' e'⟩
 unfold shP at h1
 rw [List.length_map] at h1
 match hL : xs.filter isOne with
 | [] => rw [hL] at m1; cases m1
 | [z] => rw [hL] at m1 m2; simp at m1 m2; rw [m1, m2]
 | _ :: _ :: _ => rw [hL] at h1; simp at h1
theorem grp_uni {f A B C : Int} {xs : List M6} (hg : grpB f A B C xs = true) (h1 : (shP xs).length ≤ 1) {k k' : M6} (hk : k ∈ xs) (hk' : k' ∈ xs) (e : mt k = mt k') : k = k' := by
 obtain ⟨hl, hf, hG⟩ := grp_good hg
 obtain ⟨o1, o2⟩ := grp_mem2 hg
 obtain ⟨n, hn, en⟩ := grp_inv hg hk
 obtain ⟨j, hj, ej⟩ := grp_inv hg hn
 have e2 : mulM A B C n k = mulM A B C n k' := one_uni h1 (o2 n hn k hk) (o2 n hn k' hk') (by rw [en]; rfl) (by rw [mt_mul, ← e, ← mt_mul A B C, en]; rfl)
 have e3 := congrArg (mulM A B C j) e2
 rw [← mul_assoc6 hl (hG j hj).1, ← mul_assoc6 hl (hG j hj).1, ej, one_mul (hG k hk).2, one_mul (hG k' hk').2] at e3
 exact e3
theorem map_srt {f A B C : Int} {xs : List M6} (hg : grpB f A B C xs = true) (h1 : (shP xs).length ≤ 1) : xs.map mt = (ptsL f).filter fun m => decide (m ∈ xs.map mt) := by
 obtain ⟨hl, hf, hG⟩ := grp_good hg
 have hU := (grp_ok hg).2.2
 obtain ⟨e1, e2⟩ := mats_eq hf
 refine srt4_unique ?_ (e2.filter _) fun m => ?_
 ·rw [List.pairwise_map]
  refine List.Pairwise.imp_of_mem (fun {a b} ha hb h => ?_) hU
  have hne : mt a ≠ mt b := fun e => by
   have := grp_uni hg h1 ha hb e
   subst this
   rw [ltM_irrefl] at h; cases h
  have h := of_decide_eq_true h
  simp only [mt, ne_eq, Prod.mk.injEq] at hne
  refine decide_eq_true ?_
  dsimp only [mt]
  omega
 ·rw [List.mem_filter]
  constructor
  ·intro h
   refine ⟨?_, by simpa using h⟩
   obtain ⟨k, hk, rfl⟩ := List.mem_map.1 h
   rw [← e1]
   exact matsL_mem hf (hG k hk).1.1
  ·rintro ⟨_, h⟩
   simpa using h
/- reflections -/
theorem cen_may {f A B C a b c d x y : Int} {xs : List M6} (hg : grpB f A B C xs = true) (h1 : (shP xs).length ≤ 1) (hm : (a, b, c, d, x, y) ∈ xs) (hr : reflB a b c d = true) (hc : cenB A B C a b c d = true) : mayB A B C (a, b, c, d, x, y) = true := by
 obtain ⟨hl, hf, hG⟩ := grp_good hg
 obtain ⟨o1, o2⟩ := grp_mem2 hg
 obtain ⟨hd, ht⟩ := refl_facts hr
 obtain rfl : d = -a := by omega
 have hR := axP_rax hr (refl_neg hr)
 have e := one_uni h1 (o2 _ hm _ hm) o1 (by
  rw [mt_mul]
  simp only [mul4, mulP, mt, Prod.mk.injEq]
  refine ⟨by grind, by grind, by grind, by grind⟩) rfl
 have hL : inL A B C (a * x + b * y + x) (c * x + -a * y + y) := by
  have hC : C ≠ 0 := by have := hl.2.1; omega
  rw [← inL_iff hC, ← hasB_iff]
  simp only [mulM, cmpM, cmpI, redM, oneM, Prod.mk.injEq] at e
  unfold hasB
  rw [e.2.2.2.2.1, e.2.2.2.2.2]; rfl
 obtain ⟨s1, s2⟩ := sld_eq hR x y
 rw [s1, s2] at hL
 have hk := lst_dvd (invK_lst _ _ hl) hL
 have hc2 := of_decide_eq_true hc
 unfold mayB
 rw [hr, Bool.true_and, decide_eq_true_eq, hc2]
 exact hk
theorem may_iff {A B C a b c d x y : Int} (hl : latI A B C) (hr : reflB a b c d = true) : mayB A B C (a, b, c, d, x, y) = true ↔ ∃ u v, inL A B C u v ∧ a * (x + u) + b * (y + v) + (x + u) = 0 ∧ c * (x + u) + d * (y + v) + (y + v) = 0 := by
 have hR := axP_rax hr (refl_neg hr)
 constructor
 ·intro h
  unfold mayB at h
  rw [hr, Bool.true_and, decide_eq_true_eq] at h
  obtain ⟨k, hk⟩ := h
  obtain ⟨p, q, hb⟩ := bez _ (sld a b c d (axP a b c d).1 (axP a b c d).2 A 0) (sld a b c d (axP a b c d).1 (axP a b c d).2 B C) (Nat.le_refl _)
  have e0 := sld_lin hR (-(k * p)) (-(k * q)) A 0 B C
  have e1 := sld_lin hR 1 1 x y (-(k * p) * A + -(k * q) * B) (-(k * p) * 0 + -(k * q) * C)
  have z : sld a b c d (axP a b c d).1 (axP a b c d).2 (1 * x + 1 * (-(k * p) * A + -(k * q) * B)) (1 * y + 1 * (-(k * p) * 0 + -(k * q) * C)) = 0 := by
   rw [e1, e0, hk]
   have hb : p * sld a b c d (axP a b c d).1 (axP a b c d).2 A 0 + q * sld a b c d (axP a b c d).1 (axP a b c d).2 B C = stepG A B C a b c d (axP a b c d).1 (axP a b c d).2 := hb
   rw [← hb]; grind
  obtain ⟨f1, f2⟩ := sld_eq hR (1 * x + 1 * (-(k * p) * A + -(k * q) * B)) (1 * y + 1 * (-(k * p) * 0 + -(k * q) * C))
  rw [z, Int.zero_mul] at f1 f2
  refine ⟨-(k * p) * A + -(k * q) * B, -(k * q) * C, ⟨-(k * p), -(k * q), rfl, rfl⟩, ?_, ?_⟩
  ·rw [← f1]; simp only [Int.one_mul, Int.mul_zero, Int.zero_add]
  ·rw [← f2]; simp only [Int.one_mul, Int.mul_zero, Int.zero_add]
 ·rintro ⟨u, v, hL, e1, e2⟩
  have hs := may_same (A := A) (B := B) (C := C) (a := a) (b := b) (c := c) (d := d) (x := x + u) (y := y + v) (x' := x) (y' := y) (by rw [show x + u - x = u by omega, show y + v - y = v by omega]; exact hL)
  rw [← hs]
  unfold mayB
  rw [hr, Bool.true_and, decide_eq_true_eq]
  simp only
  have : sld a b c d (axP a b c d).1 (axP a b c d).2 (x + u) (y + v) = 0 := by
   unfold sld
   rw [e1, e2]
   unfold slI
   cases (axP a b c d).1 == 0 <;> simp
  rw [this]; exact Int.dvd_zero _
/- a quarter turn takes the motions of one mirror to those of the opposite one -/
theorem may_turn {A B C a b a' b' c' d' x y x' y' s u : Int} {xs : List M6} (hg : grpB 0 A B C xs = true) (h1 : (shP xs).length ≤ 1) (hR : (0, -1, 1, 0, s, u) ∈ xs) (hm : (a, b, b, -a, x, y) ∈ xs) (hn : (a', b', c', d', x', y') ∈ xs) (e1 : a' = -a) (e2 : b' = -b) (e3 : c' = -b) (e4 : d' = a) (hr : reflB a b b (-a) = true) (h : mayB A B C (a, b, b, -a, x, y) = true) : mayB A B C (a', b', c', d', x', y') = true := by
 obtain ⟨hl, hf, hG⟩ := grp_good hg
 obtain ⟨o1, o2⟩ := grp_mem2 hg
 obtain ⟨hd, _⟩ := refl_facts hr
 subst e1 e2 e3 e4
 have hr' : reflB (-d') (-b) (-b) d' = true := by
  have := refl_neg hr
  rwa [Int.neg_neg] at this
 have e := grp_uni hg h1 (o2 _ hR _ hm) (o2 _ hn _ hR) (by
  rw [mt_mul, mt_mul]
  simp only [mul4, mulP, mt, Prod.mk.injEq]
  refine ⟨by grind, by grind, by grind, by grind⟩)
 have hsR := (hG _ hR).1.2
 simp only at hsR
 simp only [mulM, cmpM, cmpI, redM, Prod.mk.injEq] at e
 have hi := (red_same hl).1 e.2.2.2.2
 obtain ⟨v, w, hL, f1, f2⟩ := (may_iff hl hr).1 h
 have hv := stab_all hsR hL
 have hw := inL_add hi hv
 refine (may_iff hl hr').2 ⟨_, _, hw, ?_, ?_⟩
 ·have hq : d' * d' + b * b = 1 := by grind
  grind
 ·have hq : d' * d' + b * b = 1 := by grind
  grind
/- the facts, by the list of mirrors -/
def trL (A B C : Int) (xs L : List M6) : List T4 := ((L.map mt).filter fun m => det4 m == -1).map fun m => (m, xs.any (fun k => mt k == m && mayB A B C k), cenM A B C m)
theorem e_uni {f A B C : Int} {xs : List M6} (hg : grpB f A B C xs = true) (h1 : (shP xs).length ≤ 1) {k : M6} (hk : k ∈ xs) : xs.any (fun j => mt j == mt k && mayB A B C j) = mayB A B C k := by
 rw [Bool.eq_iff_iff, List.any_eq_true]
 constructor
 ·rintro ⟨j, hj, h⟩
  rw [Bool.and_eq_true, beq_iff_eq] at h
  have := grp_uni hg h1 hj hk h.1
  subst this
  exact h.2
 ·intro h
  exact ⟨k, hk, by simp [h]⟩
theorem sum_from (φ : T4 → Int) : ∀ (L : List T4) (s : Int), L.foldl (fun k t => k + φ t) s = s + L.foldl (fun k t => k + φ t) 0
 | [], s => by simp
 | t :: L, s => by
  rw [List.foldl_cons, List.foldl_cons, sum_from φ L (s + φ t), sum_from φ L (0 + φ t)]; omega
theorem mrP_tr {f A B C : Int} {xs : List M6} (hg : grpB f A B C xs = true) (h1 : (shP xs).length ≤ 1) : ∀ (L : List M6) (s : R4), (∀ k ∈ L, k ∈ xs) →
  (L.foldl (mrS f A B C) s).1 = s.1 + ((trL A B C xs L).length : Int) ∧ (L.foldl (mrS f A B C) s).2.1 = s.2.1 + eSum (trL A B C xs L) ∧ (L.foldl (mrS f A B C) s).2.2.1 = s.2.2.1 + cSum (trL A B C xs L) ∧ (trL A B C xs L = [] → (L.foldl (mrS f A B C) s).2.2.2 = s.2.2.2)
 | [], s, _ => by simp [trL, eSum, cSum]
 | m :: L, s, hs => by
  obtain ⟨a, b, c, d, x, y⟩ := m
  have hm := hs _ (List.mem_cons_self ..)
  obtain ⟨_, hrr, _, _⟩ := grp_mot hg hm
  obtain ⟨i1, i2, i3, i4⟩ := mrP_tr hg h1 L (mrS f A B C s (a, b, c, d, x, y)) fun k hk => hs k (List.mem_cons_of_mem _ hk)
  rw [List.foldl_cons, i1, i2, i3]
  have eu := e_uni hg h1 hm
  rcases hd : (a * d - b * c == -1) with _ | _
  ·have hr : reflB a b c d = false := by rw [hrr, hd]
   have ht : trL A B C xs ((a, b, c, d, x, y) :: L) = trL A B C xs L := by
    unfold trL
    rw [List.map_cons, List.filter_cons]
    simp only [mt, det4, hd]
    rfl
   have hS : mrS f A B C s (a, b, c, d, x, y) = s := by unfold mrS; simp [hr]
   rw [hS] at i4 ⊢
   rw [ht]
   exact ⟨rfl, rfl, rfl, i4⟩
  ·have hr : reflB a b c d = true := by rw [hrr, hd]
   have ht : trL A B C xs ((a, b, c, d, x, y) :: L) = (mt (a, b, c, d, x, y), mayB A B C (a, b, c, d, x, y), cenM A B C (a, b, c, d)) :: trL A B C xs L := by
    unfold trL
    rw [List.map_cons, List.filter_cons]
    have : (det4 (mt (a, b, c, d, x, y)) == -1) = true := hd
    rw [this, if_pos rfl, List.map_cons, eu]
    rfl
   rw [ht]
   unfold eSum cSum
   rw [List.foldl_cons, List.foldl_cons, sum_from (fun t => bI t.2.1) _ (0 + _), sum_from (fun t => bI t.2.2) _ (0 + _)]
   unfold mrS
   simp only [hr, if_true, List.length_cons, cenM]
   refine ⟨by omega, by omega, by omega, fun h => absurd h (by simp)⟩
theorem trL_ok {f A B C : Int} {xs : List M6} (hg : grpB f A B C xs = true) (h1 : (shP xs).length ≤ 1) : trOk f (xs.map mt) (trL A B C xs xs) = true := by
 obtain ⟨hl, hf, hG⟩ := grp_good hg
 have hmem : ∀ t ∈ trL A B C xs xs, ∃ k ∈ xs, t = (mt k, mayB A B C k, cenM A B C (mt k)) ∧ reflB k.1 k.2.1 k.2.2.1 k.2.2.2.1 = true ∧ stabD A B C (mt k) = true := by
  intro t ht
  unfold trL at ht
  obtain ⟨m, hm, rfl⟩ := List.mem_map.1 ht
  obtain ⟨h2, h3⟩ := List.mem_filter.1 hm
  obtain ⟨k, hk, rfl⟩ := List.mem_map.1 h2
  obtain ⟨a, b, c, d, x, y⟩ := k
  obtain ⟨_, hrr, _, _⟩ := grp_mot hg hk
  exact ⟨_, hk, by rw [e_uni hg h1 hk], by rw [hrr]; exact h3, stabD_of hl (hG _ hk).1.2⟩
 have hrot : ∀ m : M4, (xs.map mt).contains m = true → stabD A B C m = true ∧ ∃ x y, (m.1, m.2.1, m.2.2.1, m.2.2.2, x, y) ∈ xs := by
  intro m h
  obtain ⟨k, hk, rfl⟩ := List.mem_map.1 (List.contains_iff_mem.1 h)
  exact ⟨stabD_of hl (hG _ hk).1.2, k.2.2.2.2.1, k.2.2.2.2.2, hk⟩
 have hf2 : f = 0 ∨ f = 1 := by simpa [frB] using hf
 have hmir : ∀ k ∈ xs, reflB k.1 k.2.1 k.2.2.1 k.2.2.2.1 = true → (f = 0 → mt k ∈ mir0) ∧ (f = 1 → mt k ∈ mir1) := by
  intro k hk hr
  have h2 : mt k ∈ (ptsL f).filter fun m => reflB m.1 m.2.1 m.2.2.1 m.2.2.2 := by
   refine List.mem_filter.2 ⟨?_, hr⟩
   rw [← (mats_eq hf).1]
   exact matsL_mem hf (hG k hk).1.1
  constructor
  ·rintro rfl
   rwa [show ((ptsL 0).filter fun m => reflB m.1 m.2.1 m.2.2.1 m.2.2.2) = mir0 from by decide +kernel] at h2
  ·rintro rfl
   rwa [show ((ptsL 1).filter fun m => reflB m.1 m.2.1 m.2.2.1 m.2.2.2) = mir1 from by decide +kernel] at h2
 unfold trOk
 rw [Bool.and_eq_true, List.all_eq_true, List.all_eq_true]
 refine ⟨fun t ht => ?_, fun t ht => List.all_eq_true.2 fun s hs => ?_⟩
 ·obtain ⟨k, hk, rfl, hr, _⟩ := hmem t ht
  obtain ⟨a, b, c, d, x, y⟩ := k
  rcases hc : cenM A B C (mt (a, b, c, d, x, y)) with _ | _
  ·rfl
  ·simp only [Bool.not_true, Bool.false_or]
   exact cen_may hg h1 hk hr hc
 ·obtain ⟨k, hk, rfl, hr, hsk⟩ := hmem t ht
  obtain ⟨j, hj, rfl, hrj, hsj⟩ := hmem s hs
  simp only
  obtain ⟨m0, m1⟩ := hmir k hk hr
  obtain ⟨j0, j1⟩ := hmir j hj hrj
  rcases hf2 with rfl | rfl
  ·have hL := latAll_of lat_dec0 hl
   unfold latOk0 at hL
   rw [List.all_eq_true] at hL
   have hL := hL _ (m0 rfl)
   rw [hsk] at hL
   simp only [Bool.not_true, Bool.false_or, Bool.and_eq_true, beq_iff_eq] at hL
   obtain ⟨c1, c2⟩ := hL
   have hz : ((0 : Int) == 1) = false := rfl
   rw [hz, Bool.false_and, Bool.not_false, Bool.true_or, Bool.and_true]
   rcases hq : (xs.map mt).contains (rotM4 0) with _ | _
   ·split
    ·rename_i h
     rw [beq_iff_eq] at h
     rw [h, c1]; simp
    ·simp
   ·obtain ⟨r1, r2, r3, r4⟩ := hrot _ hq
    have r1 : stabD A B C (0, -1, 1, 0) = true := r1
    rw [r1] at c2
    simp only [Bool.not_true, Bool.false_or] at c2
    split
    ·rename_i h
     rw [beq_iff_eq] at h
     have c3 := c1
     rw [← h] at c3
     rw [c3]
     obtain ⟨a, b, c, d, x, y⟩ := k
     obtain ⟨a', b', c', d', x', y'⟩ := j
     have hcd : c = b ∧ d = -a := by
      have := m0 rfl
      simp only [mir0, mt, List.mem_cons, List.not_mem_nil, or_false, Prod.mk.injEq] at this
      omega
     obtain ⟨rfl, rfl⟩ := hcd
     simp only [mt, negM4, Prod.mk.injEq] at h
     obtain ⟨q1, q2, q3, q4⟩ := h
     have hrj : reflB a' b' c' d' = true := hrj
     have : mayB A B C (a', b', c', d', x', y') = mayB A B C (a, c, c, -a, x, y) := by
      rw [Bool.eq_iff_iff]
      constructor
      ·intro h
       subst q1 q2 q3
       obtain rfl : d' = a := by omega
       have hj2 : (-d', -c, -c, - -d', x', y') ∈ xs := by rw [Int.neg_neg]; exact hj
       refine may_turn hg h1 r4 hj2 hk (by omega) (by omega) (by omega) rfl (by rw [Int.neg_neg]; exact hrj) (by rw [Int.neg_neg]; exact h)
      ·exact may_turn hg h1 r4 hk hj q1 q2 q3 (by omega) hr
     rw [this]; simp
    ·rename_i h
     rw [List.all_eq_true] at c2
     have := c2 _ (j0 rfl)
     rw [Bool.or_eq_true, Bool.or_eq_true] at this
     rcases this with (h2 | h2) | h2
     ·rw [h2]; rfl
     ·exact absurd h2 h
     ·rw [h2]; simp
  ·have hL := latAll_of lat_dec1 hl
   unfold latOk1 at hL
   rw [List.all_eq_true] at hL
   have hL := hL _ (m1 rfl)
   rw [hsk] at hL
   simp only [Bool.not_true, Bool.false_or, Bool.and_eq_true, beq_iff_eq] at hL
   obtain ⟨c1, c2⟩ := hL
   have hz : ((1 : Int) == 0) = false := rfl
   rw [hz, Bool.false_and, Bool.not_false, Bool.true_or, Bool.or_true, Bool.true_or, Bool.and_true]
   rw [Bool.and_eq_true]
   constructor
   ·split
    ·rename_i h
     rw [beq_iff_eq] at h
     rw [h, c1]; simp
    ·rfl
   ·rcases hq : (xs.map mt).contains (rotM4 1) with _ | _
    ·rfl
    ·obtain ⟨r1, _⟩ := hrot _ hq
     have r1 : stabD A B C (-1, -1, 1, 0) = true := r1
     rw [r1] at c2
     simp only [Bool.not_true, Bool.false_or] at c2
     rw [c2]; simp
theorem named {f A B C : Int} {xs : List M6} (hg : grpB f A B C xs = true) (h1 : (shP xs).length ≤ 1) : nmI (trnP xs) (mrP f A B C xs).1 (mrP f A B C xs).2.1 (mrP f A B C xs).2.2.1 (mrP f A B C xs).2.2.2 ≠ 0 := by
 obtain ⟨hl, hf, hG⟩ := grp_good hg
 obtain ⟨o1, o2⟩ := grp_mem2 hg
 have hp := pts_dec hf fun m => decide (m ∈ xs.map mt)
 rw [← map_srt hg h1] at hp
 unfold grpOk at hp
 have hcl : ((xs.map mt).contains (1, 0, 0, 1) && (xs.map mt).all fun m => (xs.map mt).all fun n => (xs.map mt).contains (mul4 m n)) = true := by
  simp only [Bool.and_eq_true, List.all_eq_true, List.contains_iff_mem]
  refine ⟨List.mem_map.2 ⟨_, o1, rfl⟩, fun m hm n hn => ?_⟩
  obtain ⟨k, hk, rfl⟩ := List.mem_map.1 hm
  obtain ⟨j, hj, rfl⟩ := List.mem_map.1 hn
  exact List.mem_map.2 ⟨_, o2 k hk j hj, mt_mul A B C k j⟩
 rw [hcl, Bool.not_true, Bool.false_or] at hp
 have hq := allT_of (fun m => xs.any fun k => mt k == m && mayB A B C k) (cenM A B C) _ _ hp
 have hq : (!(trOk f (xs.map mt) (trL A B C xs xs)) || (nmI ((xs.map mt).foldl trn4 1) (trL A B C xs xs).length (eSum (trL A B C xs xs)) (cSum (trL A B C xs xs)) true != 0 || trL A B C xs xs == []) && nmI ((xs.map mt).foldl trn4 1) (trL A B C xs xs).length (eSum (trL A B C xs xs)) (cSum (trL A B C xs xs)) false != 0) = true := hq
 rw [trL_ok hg h1, Bool.not_true, Bool.false_or, Bool.and_eq_true, Bool.or_eq_true] at hq
 have ht : trnP xs = (xs.map mt).foldl trn4 1 := by
  unfold trnP
  rw [List.foldl_map]; rfl
 obtain ⟨i1, i2, i3, i4⟩ := mrP_tr hg h1 xs (0, 0, 0, false) fun k hk => hk
 have i1 : (mrP f A B C xs).1 = ((trL A B C xs xs).length : Int) := by unfold mrP; rw [i1]; omega
 have i2 : (mrP f A B C xs).2.1 = eSum (trL A B C xs xs) := by unfold mrP; rw [i2]; exact Int.zero_add _
 have i3 : (mrP f A B C xs).2.2.1 = cSum (trL A B C xs xs) := by unfold mrP; rw [i3]; exact Int.zero_add _
 rw [ht, i1, i2, i3]
 rcases hal : (mrP f A B C xs).2.2.2 with _ | _
 ·simpa using hq.2
 ·rcases hq.1 with h | h
  ·simpa using h
  ·have := i4 (by simpa using h)
   unfold mrP at hal
   rw [this] at hal; cases hal
end Go.Proofs.YtjjfomokecngoaaGreatDoor
