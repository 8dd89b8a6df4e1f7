/-
  The walk of the law FnOrders: it returns true at every code and writes nothing that was there. Conditions: the code's bytes can be read; the program's variable unitMatrix holds the unit.
-/
import Derived.Test.YtcphadkgmchnfaaDoorDrawsM3
import Derived.Test.YtcphadkgmchnfaaDoorMat3
import Derived.Test.YtcphadkgmchnfaaDoorOrd2
import Derived.Test.YtcphadkgmchnfaaDoorPow
import Derived.ProofKit
import Derived.OpenShut
namespace Go.Proofs.YtcphadkgmchnfaaDoor
open Go.RowKit Go.ChangeShapes Go.WideShapes Go.ChangeAt
set_option linter.unusedSimpArgs false
set_option linter.unusedVariables false

def IsRow (k : IntKind) (w : World) (a : Option Addr) (len cap : Nat) (zs : List Int) : Prop :=
  (a = none ∧ len = 0 ∧ cap = 0 ∧ zs = []) ∨
  ∃ x, a = some x ∧ len ≤ cap ∧ cap ≤ maxLen ∧ zs.length = cap ∧ (∀ i, i < zs.length → w.cell? (x.add i) = some (.int k (zs.getD i 0))) ∧ ∀ n ∈ zs, (Lit.int k n).wf = true

theorem rowBts {w : World} {a0 : Option Addr} {len cap : Nat} {zs : List Int} (h : IsRow .u8 w a0 len cap zs) : Bts a0 len w.heap.size w := by
  rcases h with ⟨_, h, _, _⟩ | ⟨x, rfl, h1, h2, h3, h4, h5⟩
  · exact .inl h
  · by_cases h0 : len = 0
    · exact .inl h0
    · obtain ⟨b, off, rfl, hc⟩ := ints_at h4 (by omega)
      refine .inr ⟨b, off, rfl, World.block_lt_of_cell? _ _ (hc 0 (by omega)), fun i hi => ?_⟩
      have hb := bounds_u8 (h5 (zs.getD i 0) (by
        rw [List.getD_eq_getElem?_getD, List.getElem?_eq_getElem (by omega)]
        exact List.getElem_mem _))
      exact ⟨_, hb.1, hb.2, hc i (by omega)⟩

theorem pw_det {a b c d : Int} (hD : a * d - b * c = 1 ∨ a * d - b * c = -1) : ∀ k, (pw a b c d k).1 * (pw a b c d k).2.2.2 - (pw a b c d k).2.1 * (pw a b c d k).2.2.1 = 1 ∨ (pw a b c d k).1 * (pw a b c d k).2.2.2 - (pw a b c d k).2.1 * (pw a b c d k).2.2.1 = -1 := by
  intro k
  induction k with
  | zero => left; rfl
  | succ k ih =>
    have e0 : pw a b c d (k + 1) = mulP a b c d (pw a b c d k) := rfl
    rw [e0]
    simp only [mulP]
    clear e0
    generalize (pw a b c d k).1 = p at *
    generalize (pw a b c d k).2.1 = q at *
    generalize (pw a b c d k).2.2.1 = r at *
    generalize (pw a b c d k).2.2.2 = s at *
    have e : (a * p + b * r) * (c * q + d * s) - (a * q + b * s) * (c * p + d * r) = (a * d - b * c) * (p * s - q * r) := by grind
    show (a * p + b * r) * (c * q + d * s) - (a * q + b * s) * (c * p + d * r) = 1 ∨ (a * p + b * r) * (c * q + d * s) - (a * q + b * s) * (c * p + d * r) = -1
    rw [e]
    rcases hD with e1 | e1 <;> rcases ih with e2 | e2 <;> rw [e1, e2] <;> simp
theorem pow_parts {a b c d k : Int} (h : (powR a b c d k).2.2.2.2 = 0) : matB a b c d = true ∧ inB k 0 100 = true ∧ okP a b c d k.toNat = true := by
  unfold powR at h
  cases h1 : matB a b c d
  · simp [h1] at h
  cases h2 : inB k 0 100
  · simp [h1, h2] at h
  cases h3 : okP a b c d k.toNat
  · simp [h1, h2, h3] at h
  exact ⟨rfl, rfl, rfl⟩
theorem pow_eq {a b c d : Int} {n : Nat} (h1 : matB a b c d = true) (h2 : inB (n : Int) 0 100 = true) (h3 : okP a b c d n = true) : powR a b c d n = ((pw a b c d n).1, (pw a b c d n).2.1, (pw a b c d n).2.2.1, (pw a b c d n).2.2.2, 0) := by
  simp [powR, h1, h2, h3]
theorem pow_step {a b c d k : Int} (h : (powR a b c d k).2.2.2.2 = 0) (hk : 0 < k) :
    (powR a b c d (k - 1)).2.2.2.2 = 0 ∧ mulR a b c d (powR a b c d (k - 1)).1 (powR a b c d (k - 1)).2.1 (powR a b c d (k - 1)).2.2.1 (powR a b c d (k - 1)).2.2.2.1 = powR a b c d k := by
  obtain ⟨h1, h2, h3⟩ := pow_parts h
  have hb := inB_bd h2
  obtain ⟨n, rfl⟩ : ∃ n : Nat, k = ((n + 1 : Nat) : Int) := ⟨k.toNat - 1, by omega⟩
  have e : ((n + 1 : Nat) : Int) - 1 = (n : Int) := by omega
  have h3' : okP a b c d (n + 1) = true := by simpa using h3
  have h4 : okP a b c d n = true := okP_le (Nat.le_succ n) h3'
  have h5 : inB (n : Int) 0 100 = true := by simp [inB]; omega
  rw [e, pow_eq h1 h5 h4, pow_eq h1 h2 h3']
  refine ⟨rfl, ?_⟩
  have l1 : limP (pw a b c d n) = true := okP_lim h4
  have l2 : limP (pw a b c d (n + 1)) = true := okP_lim h3'
  have hd := pw_det (matB_det h1) n
  have m2 : matB (pw a b c d n).1 (pw a b c d n).2.1 (pw a b c d n).2.2.1 (pw a b c d n).2.2.2 = true := by
    have l1' : limB (pw a b c d n).1 (pw a b c d n).2.1 (pw a b c d n).2.2.1 (pw a b c d n).2.2.2 = true := l1
    simp only [matB, l1', Bool.true_and]
    rcases hd with e | e <;> rw [e] <;> rfl
  have l2' : limB (a * (pw a b c d n).1 + b * (pw a b c d n).2.2.1) (a * (pw a b c d n).2.1 + b * (pw a b c d n).2.2.2) (c * (pw a b c d n).1 + d * (pw a b c d n).2.2.1) (c * (pw a b c d n).2.1 + d * (pw a b c d n).2.2.2) = true := l2
  unfold mulR
  rw [h1, m2, l2']
  rfl
theorem ord_pow {a b c d : Int} (h : (ordR a b c d).2 = 0) (hn : (ordR a b c d).1 ≠ 0) : powR a b c d (ordR a b c d).1 = (1, 0, 0, 1, 0) := by
  unfold ordR at *
  cases h1 : matB a b c d
  · simp [h1] at h
  simp only [h1, cond_true] at hn ⊢
  obtain ⟨k, hk, k1, k2, k3, k4⟩ := ordGo_found 6 1 (ordI a b c d) rfl hn
  rw [hk, pow_eq h1 (by simp [inB]; omega) (okP_of k k4)]
  simp [unitP, unitB] at k3
  obtain ⟨⟨⟨e1, e2⟩, e3⟩, e4⟩ := k3
  rw [e1, e2, e3, e4]

set_option maxRecDepth 100000 in
set_option maxHeartbeats 16000000 in
theorem walkOrders (a0 : Option Addr) (len cap : Nat) (zs : List Int) (w : World) (w0 : IsRow .u8 w a0 len cap zs) (hU : UnitOK w) :
    Calls Tryd.prog 3 #[.slice a0 len cap] w fun e w' => e = .returned (.bool true) ∧ Below w.heap.size w w' := by
  by_cases hbig : 4096 < len
  · have hb1 : (4096 : Int) < (len : Int) := by omega
    have hb2 : len ≤ 9223372036854775807 := by
      rcases w0 with ⟨_, h, _, _⟩ | ⟨x, rfl, h1, h2, h3, h4, h5⟩
      · omega
      · unfold maxLen at h2; omega
    go_enter Tryd.func3, Tryd.ntmps3
    go_wp2
    go_ret
    exact ⟨rfl, Below.refl _ _⟩
  have hB := rowBts w0
  have hl : len ≤ 4096 := by omega
  clear w0
  go_enter Tryd.func3, Tryd.ntmps3
  go_wp2_with (go_at_call 8; go_in)
  refine (drawOrder_any a0 len cap _ (by omega) (hB.grow (Below.refl _ _) (by first | omega | (simp <;> omega)))).mono ?_
  rintro e w1 ⟨a, b, c, d, rfl, hb1⟩
  have B1 : Below w.heap.size w w1 := bstep (Below.refl _ _) hb1
  clear hb1
  go_wp2_with fail
  refine (implOrder_any _ _ _ _ _ (UnitOK.alloc (UnitOK.call hU B1) _)).mono ?_
  rintro e w2 ⟨he, hb2⟩
  unfold intV at he
  subst he
  have M_2 : Kq (w1.heap.size) a b c d w2 := Kq.call (Kq.at (w1.heap.size) (by simp) : Kq (w1.heap.size) a b c d _) hb2
  have B2 : Below w.heap.size w w2 := bstep (Below.alloc (B1) (by have := B1.size; first | omega | (simp <;> omega)) _) hb2
  clear hb2 B1
  have M_2c0 := M_2.c0
  have M_2c1 := M_2.c1
  have M_2c2 := M_2.c2
  have M_2c3 := M_2.c3
  have M_2l : w1.heap.size < w2.heap.size := M_2.1
  have M_2n : ¬ w1.heap.size = w2.heap.size := by omega
  go_wp2_with fail
  refine (specOrder_any _ _ _ _ _).mono ?_
  rintro e w3 ⟨he, hb3⟩
  unfold intV at he
  subst he
  have M_3 : Kq (w1.heap.size) a b c d w3 := Kq.call M_2 hb3
  have B3 : Below w.heap.size w w3 := bstep (B2) hb3
  clear hb3 M_2 B2 M_2c0 M_2c1 M_2c2 M_2c3 M_2l M_2n
  have M_3c0 := M_3.c0
  have M_3c1 := M_3.c1
  have M_3c2 := M_3.c2
  have M_3c3 := M_3.c3
  have M_3l : w1.heap.size < w3.heap.size := M_3.1
  have M_3n : ¬ w1.heap.size = w3.heap.size := by omega
  go_wp2_with fail
  refine (drawPow_any a0 len cap _ (by omega) (hB.grow (B3) (by have := B3.size; first | omega | (simp <;> omega)))).mono ?_
  rintro e w4 ⟨p, q, r, s, k, rfl, hb4⟩
  have M_4 : Kq (w1.heap.size) a b c d w4 := Kq.call M_3 hb4
  have B4 : Below w.heap.size w w4 := bstep (B3) hb4
  clear hb4 M_3 B3 M_3c0 M_3c1 M_3c2 M_3c3 M_3l M_3n
  have M_4c0 := M_4.c0
  have M_4c1 := M_4.c1
  have M_4c2 := M_4.c2
  have M_4c3 := M_4.c3
  have M_4l : w1.heap.size < w4.heap.size := M_4.1
  have M_4n : ¬ w1.heap.size = w4.heap.size := by omega
  go_wp2_with fail
  refine (implPow_any _ _ _ _ _ _ (UnitOK.alloc (UnitOK.call hU B4) _)).mono ?_
  rintro e w5 ⟨he, hb5⟩
  unfold powV at he
  subst he
  have M_5 : Kq (w1.heap.size) a b c d w5 := Kq.call (Kq.alloc M_4 _) hb5
  have A_5 : Kq (w4.heap.size) p q r s w5 := Kq.call (Kq.at (w4.heap.size) (by simp) : Kq (w4.heap.size) p q r s _) hb5
  have B5 : Below w.heap.size w w5 := bstep (Below.alloc (B4) (by have := B4.size; first | omega | (simp <;> omega)) _) hb5
  clear hb5 M_4 B4 M_4c0 M_4c1 M_4c2 M_4c3 M_4l M_4n
  have M_5c0 := M_5.c0
  have M_5c1 := M_5.c1
  have M_5c2 := M_5.c2
  have M_5c3 := M_5.c3
  have M_5l : w1.heap.size < w5.heap.size := M_5.1
  have M_5n : ¬ w1.heap.size = w5.heap.size := by omega
  have A_5c0 := A_5.c0
  have A_5c1 := A_5.c1
  have A_5c2 := A_5.c2
  have A_5c3 := A_5.c3
  have A_5l : w4.heap.size < w5.heap.size := A_5.1
  have A_5n : ¬ w4.heap.size = w5.heap.size := by omega
  go_wp2_with fail
  refine (specPow_any _ _ _ _ _ _).mono ?_
  rintro e w6 ⟨he, hb6⟩
  unfold powV at he
  subst he
  have M_6 : Kq (w1.heap.size) a b c d w6 := Kq.call (Kq.alloc M_5 _) hb6
  have A_6 : Kq (w4.heap.size) p q r s w6 := Kq.call (Kq.alloc A_5 _) hb6
  have P_6 : Kq (w5.heap.size) (powR p q r s k).1 (powR p q r s k).2.1 (powR p q r s k).2.2.1 (powR p q r s k).2.2.2.1 w6 := Kq.call (Kq.at (w5.heap.size) (by simp) : Kq (w5.heap.size) (powR p q r s k).1 (powR p q r s k).2.1 (powR p q r s k).2.2.1 (powR p q r s k).2.2.2.1 _) hb6
  have B6 : Below w.heap.size w w6 := bstep (Below.alloc (B5) (by have := B5.size; first | omega | (simp <;> omega)) _) hb6
  clear hb6 M_5 A_5 B5 M_5c0 M_5c1 M_5c2 M_5c3 M_5l M_5n A_5c0 A_5c1 A_5c2 A_5c3 A_5l A_5n
  have M_6c0 := M_6.c0
  have M_6c1 := M_6.c1
  have M_6c2 := M_6.c2
  have M_6c3 := M_6.c3
  have M_6l : w1.heap.size < w6.heap.size := M_6.1
  have M_6n : ¬ w1.heap.size = w6.heap.size := by omega
  have A_6c0 := A_6.c0
  have A_6c1 := A_6.c1
  have A_6c2 := A_6.c2
  have A_6c3 := A_6.c3
  have A_6l : w4.heap.size < w6.heap.size := A_6.1
  have A_6n : ¬ w4.heap.size = w6.heap.size := by omega
  have P_6c0 := P_6.c0
  have P_6c1 := P_6.c1
  have P_6c2 := P_6.c2
  have P_6c3 := P_6.c3
  have P_6l : w5.heap.size < w6.heap.size := P_6.1
  have P_6n : ¬ w5.heap.size = w6.heap.size := by omega
  go_wp2_with fail
  refine (drawKind_any a0 len cap _ (by omega) (hB.grow (Below.alloc (B6) (by have := B6.size; first | omega | (simp <;> omega)) _) (by have := B6.size; first | omega | (simp <;> omega)))).mono ?_
  rintro e w7 ⟨e', f, g, h, rfl, hb7⟩
  have M_7 : Kq (w1.heap.size) a b c d w7 := Kq.call (Kq.alloc M_6 _) hb7
  have A_7 : Kq (w4.heap.size) p q r s w7 := Kq.call (Kq.alloc A_6 _) hb7
  have P_7 : Kq (w5.heap.size) (powR p q r s k).1 (powR p q r s k).2.1 (powR p q r s k).2.2.1 (powR p q r s k).2.2.2.1 w7 := Kq.call (Kq.alloc P_6 _) hb7
  have Q_7 : Kq (w6.heap.size) (powR p q r s k).1 (powR p q r s k).2.1 (powR p q r s k).2.2.1 (powR p q r s k).2.2.2.1 w7 := Kq.call (Kq.at (w6.heap.size) (by simp) : Kq (w6.heap.size) (powR p q r s k).1 (powR p q r s k).2.1 (powR p q r s k).2.2.1 (powR p q r s k).2.2.2.1 _) hb7
  have B7 : Below w.heap.size w w7 := bstep (Below.alloc (B6) (by have := B6.size; first | omega | (simp <;> omega)) _) hb7
  clear hb7 M_6 A_6 P_6 B6 M_6c0 M_6c1 M_6c2 M_6c3 M_6l M_6n A_6c0 A_6c1 A_6c2 A_6c3 A_6l A_6n P_6c0 P_6c1 P_6c2 P_6c3 P_6l P_6n
  have M_7c0 := M_7.c0
  have M_7c1 := M_7.c1
  have M_7c2 := M_7.c2
  have M_7c3 := M_7.c3
  have M_7l : w1.heap.size < w7.heap.size := M_7.1
  have M_7n : ¬ w1.heap.size = w7.heap.size := by omega
  have A_7c0 := A_7.c0
  have A_7c1 := A_7.c1
  have A_7c2 := A_7.c2
  have A_7c3 := A_7.c3
  have A_7l : w4.heap.size < w7.heap.size := A_7.1
  have A_7n : ¬ w4.heap.size = w7.heap.size := by omega
  have P_7c0 := P_7.c0
  have P_7c1 := P_7.c1
  have P_7c2 := P_7.c2
  have P_7c3 := P_7.c3
  have P_7l : w5.heap.size < w7.heap.size := P_7.1
  have P_7n : ¬ w5.heap.size = w7.heap.size := by omega
  have Q_7c0 := Q_7.c0
  have Q_7c1 := Q_7.c1
  have Q_7c2 := Q_7.c2
  have Q_7c3 := Q_7.c3
  have Q_7l : w6.heap.size < w7.heap.size := Q_7.1
  have Q_7n : ¬ w6.heap.size = w7.heap.size := by omega
  go_wp2_with fail
  refine (implKind_any _ _ _ _ _ (UnitOK.alloc (UnitOK.call hU B7) _)).mono ?_
  rintro e w8 ⟨he, hb8⟩
  unfold intV at he
  subst he
  have M_8 : Kq (w1.heap.size) a b c d w8 := Kq.call (Kq.alloc M_7 _) hb8
  have A_8 : Kq (w4.heap.size) p q r s w8 := Kq.call (Kq.alloc A_7 _) hb8
  have P_8 : Kq (w5.heap.size) (powR p q r s k).1 (powR p q r s k).2.1 (powR p q r s k).2.2.1 (powR p q r s k).2.2.2.1 w8 := Kq.call (Kq.alloc P_7 _) hb8
  have Q_8 : Kq (w6.heap.size) (powR p q r s k).1 (powR p q r s k).2.1 (powR p q r s k).2.2.1 (powR p q r s k).2.2.2.1 w8 := Kq.call (Kq.alloc Q_7 _) hb8
  have K_8 : Kq (w7.heap.size) e' f g h w8 := Kq.call (Kq.at (w7.heap.size) (by simp) : Kq (w7.heap.size) e' f g h _) hb8
  have B8 : Below w.heap.size w w8 := bstep (Below.alloc (B7) (by have := B7.size; first | omega | (simp <;> omega)) _) hb8
  clear hb8 M_7 A_7 P_7 Q_7 B7 M_7c0 M_7c1 M_7c2 M_7c3 M_7l M_7n A_7c0 A_7c1 A_7c2 A_7c3 A_7l A_7n P_7c0 P_7c1 P_7c2 P_7c3 P_7l P_7n Q_7c0 Q_7c1 Q_7c2 Q_7c3 Q_7l Q_7n
  have M_8c0 := M_8.c0
  have M_8c1 := M_8.c1
  have M_8c2 := M_8.c2
  have M_8c3 := M_8.c3
  have M_8l : w1.heap.size < w8.heap.size := M_8.1
  have M_8n : ¬ w1.heap.size = w8.heap.size := by omega
  have A_8c0 := A_8.c0
  have A_8c1 := A_8.c1
  have A_8c2 := A_8.c2
  have A_8c3 := A_8.c3
  have A_8l : w4.heap.size < w8.heap.size := A_8.1
  have A_8n : ¬ w4.heap.size = w8.heap.size := by omega
  have P_8c0 := P_8.c0
  have P_8c1 := P_8.c1
  have P_8c2 := P_8.c2
  have P_8c3 := P_8.c3
  have P_8l : w5.heap.size < w8.heap.size := P_8.1
  have P_8n : ¬ w5.heap.size = w8.heap.size := by omega
  have Q_8c0 := Q_8.c0
  have Q_8c1 := Q_8.c1
  have Q_8c2 := Q_8.c2
  have Q_8c3 := Q_8.c3
  have Q_8l : w6.heap.size < w8.heap.size := Q_8.1
  have Q_8n : ¬ w6.heap.size = w8.heap.size := by omega
  have K_8c0 := K_8.c0
  have K_8c1 := K_8.c1
  have K_8c2 := K_8.c2
  have K_8c3 := K_8.c3
  have K_8l : w7.heap.size < w8.heap.size := K_8.1
  have K_8n : ¬ w7.heap.size = w8.heap.size := by omega
  go_wp2_with fail
  refine (specKind_any _ _ _ _ _).mono ?_
  rintro e w9 ⟨he, hb9⟩
  unfold intV at he
  subst he
  have M_9 : Kq (w1.heap.size) a b c d w9 := Kq.call M_8 hb9
  have A_9 : Kq (w4.heap.size) p q r s w9 := Kq.call A_8 hb9
  have P_9 : Kq (w5.heap.size) (powR p q r s k).1 (powR p q r s k).2.1 (powR p q r s k).2.2.1 (powR p q r s k).2.2.2.1 w9 := Kq.call P_8 hb9
  have Q_9 : Kq (w6.heap.size) (powR p q r s k).1 (powR p q r s k).2.1 (powR p q r s k).2.2.1 (powR p q r s k).2.2.2.1 w9 := Kq.call Q_8 hb9
  have K_9 : Kq (w7.heap.size) e' f g h w9 := Kq.call K_8 hb9
  have B9 : Below w.heap.size w w9 := bstep (B8) hb9
  clear hb9 M_8 A_8 P_8 Q_8 K_8 B8 M_8c0 M_8c1 M_8c2 M_8c3 M_8l M_8n A_8c0 A_8c1 A_8c2 A_8c3 A_8l A_8n P_8c0 P_8c1 P_8c2 P_8c3 P_8l P_8n Q_8c0 Q_8c1 Q_8c2 Q_8c3 Q_8l Q_8n K_8c0 K_8c1 K_8c2 K_8c3 K_8l K_8n
  have M_9c0 := M_9.c0
  have M_9c1 := M_9.c1
  have M_9c2 := M_9.c2
  have M_9c3 := M_9.c3
  have M_9l : w1.heap.size < w9.heap.size := M_9.1
  have M_9n : ¬ w1.heap.size = w9.heap.size := by omega
  have A_9c0 := A_9.c0
  have A_9c1 := A_9.c1
  have A_9c2 := A_9.c2
  have A_9c3 := A_9.c3
  have A_9l : w4.heap.size < w9.heap.size := A_9.1
  have A_9n : ¬ w4.heap.size = w9.heap.size := by omega
  have P_9c0 := P_9.c0
  have P_9c1 := P_9.c1
  have P_9c2 := P_9.c2
  have P_9c3 := P_9.c3
  have P_9l : w5.heap.size < w9.heap.size := P_9.1
  have P_9n : ¬ w5.heap.size = w9.heap.size := by omega
  have Q_9c0 := Q_9.c0
  have Q_9c1 := Q_9.c1
  have Q_9c2 := Q_9.c2
  have Q_9c3 := Q_9.c3
  have Q_9l : w6.heap.size < w9.heap.size := Q_9.1
  have Q_9n : ¬ w6.heap.size = w9.heap.size := by omega
  have K_9c0 := K_9.c0
  have K_9c1 := K_9.c1
  have K_9c2 := K_9.c2
  have K_9c3 := K_9.c3
  have K_9l : w7.heap.size < w9.heap.size := K_9.1
  have K_9n : ¬ w7.heap.size = w9.heap.size := by omega
  by_cases h1 : (powR p q r s k).2.2.2.2 = 0
  · have h1b : ((powR p q r s k).2.2.2.2 == 0) = true := by simp [h1]
    have h1c : ((powR p q r s k).2.2.2.2 != 0) = false := by simp [h1]
    by_cases hk : 0 < k
    · have hkb := inB_bd (pow_parts h1).2.1
      obtain ⟨h4, h5⟩ := pow_step h1 hk
      have h4b : ((powR p q r s (k - 1)).2.2.2.2 != 0) = false := by simp [h4]
      have HM := Lib.hid h5
      clear h1 h4 h5
      go_wp2_with fail
      refine (implPow_any _ _ _ _ _ _ (UnitOK.call hU B9)).mono ?_
      rintro e w10 ⟨he, hb10⟩
      unfold powV at he
      subst he
      have M_10 : Kq (w1.heap.size) a b c d w10 := Kq.call M_9 hb10
      have A_10 : Kq (w4.heap.size) p q r s w10 := Kq.call A_9 hb10
      have P_10 : Kq (w5.heap.size) (powR p q r s k).1 (powR p q r s k).2.1 (powR p q r s k).2.2.1 (powR p q r s k).2.2.2.1 w10 := Kq.call P_9 hb10
      have Q_10 : Kq (w6.heap.size) (powR p q r s k).1 (powR p q r s k).2.1 (powR p q r s k).2.2.1 (powR p q r s k).2.2.2.1 w10 := Kq.call Q_9 hb10
      have K_10 : Kq (w7.heap.size) e' f g h w10 := Kq.call K_9 hb10
      have B10 : Below w.heap.size w w10 := bstep (B9) hb10
      clear hb10 M_9 A_9 P_9 Q_9 K_9 B9 M_9c0 M_9c1 M_9c2 M_9c3 M_9l M_9n A_9c0 A_9c1 A_9c2 A_9c3 A_9l A_9n P_9c0 P_9c1 P_9c2 P_9c3 P_9l P_9n Q_9c0 Q_9c1 Q_9c2 Q_9c3 Q_9l Q_9n K_9c0 K_9c1 K_9c2 K_9c3 K_9l K_9n
      have M_10c0 := M_10.c0
      have M_10c1 := M_10.c1
      have M_10c2 := M_10.c2
      have M_10c3 := M_10.c3
      have M_10l : w1.heap.size < w10.heap.size := M_10.1
      have M_10n : ¬ w1.heap.size = w10.heap.size := by omega
      have A_10c0 := A_10.c0
      have A_10c1 := A_10.c1
      have A_10c2 := A_10.c2
      have A_10c3 := A_10.c3
      have A_10l : w4.heap.size < w10.heap.size := A_10.1
      have A_10n : ¬ w4.heap.size = w10.heap.size := by omega
      have P_10c0 := P_10.c0
      have P_10c1 := P_10.c1
      have P_10c2 := P_10.c2
      have P_10c3 := P_10.c3
      have P_10l : w5.heap.size < w10.heap.size := P_10.1
      have P_10n : ¬ w5.heap.size = w10.heap.size := by omega
      have Q_10c0 := Q_10.c0
      have Q_10c1 := Q_10.c1
      have Q_10c2 := Q_10.c2
      have Q_10c3 := Q_10.c3
      have Q_10l : w6.heap.size < w10.heap.size := Q_10.1
      have Q_10n : ¬ w6.heap.size = w10.heap.size := by omega
      have K_10c0 := K_10.c0
      have K_10c1 := K_10.c1
      have K_10c2 := K_10.c2
      have K_10c3 := K_10.c3
      have K_10l : w7.heap.size < w10.heap.size := K_10.1
      have K_10n : ¬ w7.heap.size = w10.heap.size := by omega
      go_wp2_with fail
      refine (implMul_any _ _ _ _ _ _ _ _ _).mono ?_
      rintro e w11 ⟨he, hb11⟩
      unfold matV at he
      rw [HM.out] at he
      subst he
      have M_11 : Kq (w1.heap.size) a b c d w11 := Kq.call (Kq.alloc M_10 _) hb11
      have A_11 : Kq (w4.heap.size) p q r s w11 := Kq.call (Kq.alloc A_10 _) hb11
      have P_11 : Kq (w5.heap.size) (powR p q r s k).1 (powR p q r s k).2.1 (powR p q r s k).2.2.1 (powR p q r s k).2.2.2.1 w11 := Kq.call (Kq.alloc P_10 _) hb11
      have Q_11 : Kq (w6.heap.size) (powR p q r s k).1 (powR p q r s k).2.1 (powR p q r s k).2.2.1 (powR p q r s k).2.2.2.1 w11 := Kq.call (Kq.alloc Q_10 _) hb11
      have K_11 : Kq (w7.heap.size) e' f g h w11 := Kq.call (Kq.alloc K_10 _) hb11
      have S_11 : Kq (w10.heap.size) (powR p q r s (k - 1)).1 (powR p q r s (k - 1)).2.1 (powR p q r s (k - 1)).2.2.1 (powR p q r s (k - 1)).2.2.2.1 w11 := Kq.call (Kq.at (w10.heap.size) (by simp) : Kq (w10.heap.size) (powR p q r s (k - 1)).1 (powR p q r s (k - 1)).2.1 (powR p q r s (k - 1)).2.2.1 (powR p q r s (k - 1)).2.2.2.1 _) hb11
      have B11 : Below w.heap.size w w11 := bstep (Below.alloc (B10) (by have := B10.size; first | omega | (simp <;> omega)) _) hb11
      clear hb11 M_10 A_10 P_10 Q_10 K_10 B10 M_10c0 M_10c1 M_10c2 M_10c3 M_10l M_10n A_10c0 A_10c1 A_10c2 A_10c3 A_10l A_10n P_10c0 P_10c1 P_10c2 P_10c3 P_10l P_10n Q_10c0 Q_10c1 Q_10c2 Q_10c3 Q_10l Q_10n K_10c0 K_10c1 K_10c2 K_10c3 K_10l K_10n
      have M_11c0 := M_11.c0
      have M_11c1 := M_11.c1
      have M_11c2 := M_11.c2
      have M_11c3 := M_11.c3
      have M_11l : w1.heap.size < w11.heap.size := M_11.1
      have M_11n : ¬ w1.heap.size = w11.heap.size := by omega
      have A_11c0 := A_11.c0
      have A_11c1 := A_11.c1
      have A_11c2 := A_11.c2
      have A_11c3 := A_11.c3
      have A_11l : w4.heap.size < w11.heap.size := A_11.1
      have A_11n : ¬ w4.heap.size = w11.heap.size := by omega
      have P_11c0 := P_11.c0
      have P_11c1 := P_11.c1
      have P_11c2 := P_11.c2
      have P_11c3 := P_11.c3
      have P_11l : w5.heap.size < w11.heap.size := P_11.1
      have P_11n : ¬ w5.heap.size = w11.heap.size := by omega
      have Q_11c0 := Q_11.c0
      have Q_11c1 := Q_11.c1
      have Q_11c2 := Q_11.c2
      have Q_11c3 := Q_11.c3
      have Q_11l : w6.heap.size < w11.heap.size := Q_11.1
      have Q_11n : ¬ w6.heap.size = w11.heap.size := by omega
      have K_11c0 := K_11.c0
      have K_11c1 := K_11.c1
      have K_11c2 := K_11.c2
      have K_11c3 := K_11.c3
      have K_11l : w7.heap.size < w11.heap.size := K_11.1
      have K_11n : ¬ w7.heap.size = w11.heap.size := by omega
      have S_11c0 := S_11.c0
      have S_11c1 := S_11.c1
      have S_11c2 := S_11.c2
      have S_11c3 := S_11.c3
      have S_11l : w10.heap.size < w11.heap.size := S_11.1
      have S_11n : ¬ w10.heap.size = w11.heap.size := by omega
      by_cases h2 : (ordR a b c d).2 = 0
      · have h2b : ((ordR a b c d).2 != 0) = false := by simp [h2]
        by_cases h3 : (ordR a b c d).1 = 0
        · have h3b : ((ordR a b c d).1 == 0) = true := by simp [h3]
          clear h2 h3
          go_wp2
          go_ret
          exact ⟨rfl, (Below.alloc B11 (by have := B11.size; first | omega | (simp <;> omega)) _)⟩
        · have h3b : ((ordR a b c d).1 == 0) = false := by simp [h3]
          have HP := Lib.hid (ord_pow h2 h3)
          clear h2 h3
          go_wp2_with fail
          refine (implPow_any _ _ _ _ _ _ (UnitOK.alloc (UnitOK.call hU B11) _)).mono ?_
          rintro e w12 ⟨he, hb12⟩
          unfold powV at he
          rw [HP.out] at he
          subst he
          have M_12 : Kq (w1.heap.size) a b c d w12 := Kq.call (Kq.alloc M_11 _) hb12
          have A_12 : Kq (w4.heap.size) p q r s w12 := Kq.call (Kq.alloc A_11 _) hb12
          have P_12 : Kq (w5.heap.size) (powR p q r s k).1 (powR p q r s k).2.1 (powR p q r s k).2.2.1 (powR p q r s k).2.2.2.1 w12 := Kq.call (Kq.alloc P_11 _) hb12
          have Q_12 : Kq (w6.heap.size) (powR p q r s k).1 (powR p q r s k).2.1 (powR p q r s k).2.2.1 (powR p q r s k).2.2.2.1 w12 := Kq.call (Kq.alloc Q_11 _) hb12
          have K_12 : Kq (w7.heap.size) e' f g h w12 := Kq.call (Kq.alloc K_11 _) hb12
          have S_12 : Kq (w10.heap.size) (powR p q r s (k - 1)).1 (powR p q r s (k - 1)).2.1 (powR p q r s (k - 1)).2.2.1 (powR p q r s (k - 1)).2.2.2.1 w12 := Kq.call (Kq.alloc S_11 _) hb12
          have T_12 : Kq (w11.heap.size) (powR p q r s k).1 (powR p q r s k).2.1 (powR p q r s k).2.2.1 (powR p q r s k).2.2.2.1 w12 := Kq.call (Kq.at (w11.heap.size) (by simp) : Kq (w11.heap.size) (powR p q r s k).1 (powR p q r s k).2.1 (powR p q r s k).2.2.1 (powR p q r s k).2.2.2.1 _) hb12
          have B12 : Below w.heap.size w w12 := bstep (Below.alloc (B11) (by have := B11.size; first | omega | (simp <;> omega)) _) hb12
          clear hb12 M_11 A_11 P_11 Q_11 K_11 S_11 B11 M_11c0 M_11c1 M_11c2 M_11c3 M_11l M_11n A_11c0 A_11c1 A_11c2 A_11c3 A_11l A_11n P_11c0 P_11c1 P_11c2 P_11c3 P_11l P_11n Q_11c0 Q_11c1 Q_11c2 Q_11c3 Q_11l Q_11n K_11c0 K_11c1 K_11c2 K_11c3 K_11l K_11n S_11c0 S_11c1 S_11c2 S_11c3 S_11l S_11n
          have M_12c0 := M_12.c0
          have M_12c1 := M_12.c1
          have M_12c2 := M_12.c2
          have M_12c3 := M_12.c3
          have M_12l : w1.heap.size < w12.heap.size := M_12.1
          have M_12n : ¬ w1.heap.size = w12.heap.size := by omega
          have A_12c0 := A_12.c0
          have A_12c1 := A_12.c1
          have A_12c2 := A_12.c2
          have A_12c3 := A_12.c3
          have A_12l : w4.heap.size < w12.heap.size := A_12.1
          have A_12n : ¬ w4.heap.size = w12.heap.size := by omega
          have P_12c0 := P_12.c0
          have P_12c1 := P_12.c1
          have P_12c2 := P_12.c2
          have P_12c3 := P_12.c3
          have P_12l : w5.heap.size < w12.heap.size := P_12.1
          have P_12n : ¬ w5.heap.size = w12.heap.size := by omega
          have Q_12c0 := Q_12.c0
          have Q_12c1 := Q_12.c1
          have Q_12c2 := Q_12.c2
          have Q_12c3 := Q_12.c3
          have Q_12l : w6.heap.size < w12.heap.size := Q_12.1
          have Q_12n : ¬ w6.heap.size = w12.heap.size := by omega
          have K_12c0 := K_12.c0
          have K_12c1 := K_12.c1
          have K_12c2 := K_12.c2
          have K_12c3 := K_12.c3
          have K_12l : w7.heap.size < w12.heap.size := K_12.1
          have K_12n : ¬ w7.heap.size = w12.heap.size := by omega
          have S_12c0 := S_12.c0
          have S_12c1 := S_12.c1
          have S_12c2 := S_12.c2
          have S_12c3 := S_12.c3
          have S_12l : w10.heap.size < w12.heap.size := S_12.1
          have S_12n : ¬ w10.heap.size = w12.heap.size := by omega
          have T_12c0 := T_12.c0
          have T_12c1 := T_12.c1
          have T_12c2 := T_12.c2
          have T_12c3 := T_12.c3
          have T_12l : w11.heap.size < w12.heap.size := T_12.1
          have T_12n : ¬ w11.heap.size = w12.heap.size := by omega
          go_wp2
          go_ret
          exact ⟨rfl, (Below.alloc B12 (by have := B12.size; first | omega | (simp <;> omega)) _)⟩
      · have h2b : ((ordR a b c d).2 != 0) = true := by simp [h2]
        clear h2
        go_wp2
        go_ret
        exact ⟨rfl, (Below.alloc B11 (by have := B11.size; first | omega | (simp <;> omega)) _)⟩
    · clear h1
      by_cases h2 : (ordR a b c d).2 = 0
      · have h2b : ((ordR a b c d).2 != 0) = false := by simp [h2]
        by_cases h3 : (ordR a b c d).1 = 0
        · have h3b : ((ordR a b c d).1 == 0) = true := by simp [h3]
          clear h2 h3
          go_wp2
          go_ret
          exact ⟨rfl, B9⟩
        · have h3b : ((ordR a b c d).1 == 0) = false := by simp [h3]
          have HP := Lib.hid (ord_pow h2 h3)
          clear h2 h3
          go_wp2_with fail
          refine (implPow_any _ _ _ _ _ _ (UnitOK.call hU B9)).mono ?_
          rintro e w10 ⟨he, hb10⟩
          unfold powV at he
          rw [HP.out] at he
          subst he
          have M_10 : Kq (w1.heap.size) a b c d w10 := Kq.call M_9 hb10
          have A_10 : Kq (w4.heap.size) p q r s w10 := Kq.call A_9 hb10
          have P_10 : Kq (w5.heap.size) (powR p q r s k).1 (powR p q r s k).2.1 (powR p q r s k).2.2.1 (powR p q r s k).2.2.2.1 w10 := Kq.call P_9 hb10
          have Q_10 : Kq (w6.heap.size) (powR p q r s k).1 (powR p q r s k).2.1 (powR p q r s k).2.2.1 (powR p q r s k).2.2.2.1 w10 := Kq.call Q_9 hb10
          have K_10 : Kq (w7.heap.size) e' f g h w10 := Kq.call K_9 hb10
          have B10 : Below w.heap.size w w10 := bstep (B9) hb10
          clear hb10 M_9 A_9 P_9 Q_9 K_9 B9 M_9c0 M_9c1 M_9c2 M_9c3 M_9l M_9n A_9c0 A_9c1 A_9c2 A_9c3 A_9l A_9n P_9c0 P_9c1 P_9c2 P_9c3 P_9l P_9n Q_9c0 Q_9c1 Q_9c2 Q_9c3 Q_9l Q_9n K_9c0 K_9c1 K_9c2 K_9c3 K_9l K_9n
          have M_10c0 := M_10.c0
          have M_10c1 := M_10.c1
          have M_10c2 := M_10.c2
          have M_10c3 := M_10.c3
          have M_10l : w1.heap.size < w10.heap.size := M_10.1
          have M_10n : ¬ w1.heap.size = w10.heap.size := by omega
          have A_10c0 := A_10.c0
          have A_10c1 := A_10.c1
          have A_10c2 := A_10.c2
          have A_10c3 := A_10.c3
          have A_10l : w4.heap.size < w10.heap.size := A_10.1
          have A_10n : ¬ w4.heap.size = w10.heap.size := by omega
          have P_10c0 := P_10.c0
          have P_10c1 := P_10.c1
          have P_10c2 := P_10.c2
          have P_10c3 := P_10.c3
          have P_10l : w5.heap.size < w10.heap.size := P_10.1
          have P_10n : ¬ w5.heap.size = w10.heap.size := by omega
          have Q_10c0 := Q_10.c0
          have Q_10c1 := Q_10.c1
          have Q_10c2 := Q_10.c2
          have Q_10c3 := Q_10.c3
          have Q_10l : w6.heap.size < w10.heap.size := Q_10.1
          have Q_10n : ¬ w6.heap.size = w10.heap.size := by omega
          have K_10c0 := K_10.c0
          have K_10c1 := K_10.c1
          have K_10c2 := K_10.c2
          have K_10c3 := K_10.c3
          have K_10l : w7.heap.size < w10.heap.size := K_10.1
          have K_10n : ¬ w7.heap.size = w10.heap.size := by omega
          go_wp2
          go_ret
          exact ⟨rfl, (Below.alloc B10 (by have := B10.size; first | omega | (simp <;> omega)) _)⟩
      · have h2b : ((ordR a b c d).2 != 0) = true := by simp [h2]
        clear h2
        go_wp2
        go_ret
        exact ⟨rfl, B9⟩
  · have h1b : ((powR p q r s k).2.2.2.2 == 0) = false := by simp [h1]
    clear h1
    by_cases h2 : (ordR a b c d).2 = 0
    · have h2b : ((ordR a b c d).2 != 0) = false := by simp [h2]
      by_cases h3 : (ordR a b c d).1 = 0
      · have h3b : ((ordR a b c d).1 == 0) = true := by simp [h3]
        clear h2 h3
        go_wp2
        go_ret
        exact ⟨rfl, B9⟩
      · have h3b : ((ordR a b c d).1 == 0) = false := by simp [h3]
        have HP := Lib.hid (ord_pow h2 h3)
        clear h2 h3
        go_wp2_with fail
        refine (implPow_any _ _ _ _ _ _ (UnitOK.call hU B9)).mono ?_
        rintro e w10 ⟨he, hb10⟩
        unfold powV at he
        rw [HP.out] at he
        subst he
        have M_10 : Kq (w1.heap.size) a b c d w10 := Kq.call M_9 hb10
        have A_10 : Kq (w4.heap.size) p q r s w10 := Kq.call A_9 hb10
        have P_10 : Kq (w5.heap.size) (powR p q r s k).1 (powR p q r s k).2.1 (powR p q r s k).2.2.1 (powR p q r s k).2.2.2.1 w10 := Kq.call P_9 hb10
        have Q_10 : Kq (w6.heap.size) (powR p q r s k).1 (powR p q r s k).2.1 (powR p q r s k).2.2.1 (powR p q r s k).2.2.2.1 w10 := Kq.call Q_9 hb10
        have K_10 : Kq (w7.heap.size) e' f g h w10 := Kq.call K_9 hb10
        have B10 : Below w.heap.size w w10 := bstep (B9) hb10
        clear hb10 M_9 A_9 P_9 Q_9 K_9 B9 M_9c0 M_9c1 M_9c2 M_9c3 M_9l M_9n A_9c0 A_9c1 A_9c2 A_9c3 A_9l A_9n P_9c0 P_9c1 P_9c2 P_9c3 P_9l P_9n Q_9c0 Q_9c1 Q_9c2 Q_9c3 Q_9l Q_9n K_9c0 K_9c1 K_9c2 K_9c3 K_9l K_9n
        have M_10c0 := M_10.c0
        have M_10c1 := M_10.c1
        have M_10c2 := M_10.c2
        have M_10c3 := M_10.c3
        have M_10l : w1.heap.size < w10.heap.size := M_10.1
        have M_10n : ¬ w1.heap.size = w10.heap.size := by omega
        have A_10c0 := A_10.c0
        have A_10c1 := A_10.c1
        have A_10c2 := A_10.c2
        have A_10c3 := A_10.c3
        have A_10l : w4.heap.size < w10.heap.size := A_10.1
        have A_10n : ¬ w4.heap.size = w10.heap.size := by omega
        have P_10c0 := P_10.c0
        have P_10c1 := P_10.c1
        have P_10c2 := P_10.c2
        have P_10c3 := P_10.c3
        have P_10l : w5.heap.size < w10.heap.size := P_10.1
        have P_10n : ¬ w5.heap.size = w10.heap.size := by omega
        have Q_10c0 := Q_10.c0
        have Q_10c1 := Q_10.c1
        have Q_10c2 := Q_10.c2
        have Q_10c3 := Q_10.c3
        have Q_10l : w6.heap.size < w10.heap.size := Q_10.1
        have Q_10n : ¬ w6.heap.size = w10.heap.size := by omega
        have K_10c0 := K_10.c0
        have K_10c1 := K_10.c1
        have K_10c2 := K_10.c2
        have K_10c3 := K_10.c3
        have K_10l : w7.heap.size < w10.heap.size := K_10.1
        have K_10n : ¬ w7.heap.size = w10.heap.size := by omega
        go_wp2
        go_ret
        exact ⟨rfl, (Below.alloc B10 (by have := B10.size; first | omega | (simp <;> omega)) _)⟩
    · have h2b : ((ordR a b c d).2 != 0) = true := by simp [h2]
      clear h2
      go_wp2
      go_ret
      exact ⟨rfl, B9⟩

end Go.Proofs.YtcphadkgmchnfaaDoor
