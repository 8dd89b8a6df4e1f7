/-
  The walk of the law FnMatrices: it returns true at every code and writes nothing that was there. Condition: the code's bytes can be read.
-/
import Derived.Test.YtcphadkgmchnfaaDrawsM3
import Derived.Test.YtcphadkgmchnfaaMat3
import Derived.Deep.RegionHeld3
import Derived.ProofKit
import Derived.OpenShut
namespace Go.Proofs.Ytcphadkgmchnfaa
open Go.RowKit Go.ChangeShapes Go.WideShapes Go.ChangeAt
set_option linter.unusedSimpArgs false
set_option linter.unusedVariables false

def IsRow (k : IntKind) (w : World) (a : Option Addr) (len cap : Nat) (zs : List Int) : Prop :=
  (a = none ∧ len = 0 ∧ cap = 0 ∧ zs = []) ∨
  ∃ x, a = some x ∧ len ≤ cap ∧ cap ≤ maxLen ∧ zs.length = cap ∧ (∀ i, i < zs.length → w.cell? (x.add i) = some (.int k (zs.getD i 0))) ∧ ∀ n ∈ zs, (Lit.int k n).wf = true

theorem rowBts {w : World} {a0 : Option Addr} {len cap : Nat} {zs : List Int} (h : IsRow .u8 w a0 len cap zs) : Bts a0 len w.heap.size w := by
  rcases h with ⟨_, h, _, _⟩ | ⟨x, rfl, h1, h2, h3, h4, h5⟩
  · exact .inl h
  · by_cases h0 : len = 0
    · exact .inl h0
    · obtain ⟨b, off, rfl, hc⟩ := ints_at h4 (by omega)
      refine .inr ⟨b, off, rfl, World.block_lt_of_cell? _ _ (hc 0 (by omega)), fun i hi => ?_⟩
      have hb := bounds_u8 (h5 (zs.getD i 0) (by
        rw [List.getD_eq_getElem?_getD, List.getElem?_eq_getElem (by omega)]
        exact List.getElem_mem _))
      exact ⟨_, hb.1, hb.2, hc i (by omega)⟩

theorem inv_ok {a b c d : Int} (h : (invR a b c d).2.2.2.2 = 0) : mulR a b c d (invR a b c d).1 (invR a b c d).2.1 (invR a b c d).2.2.1 (invR a b c d).2.2.2.1 = (1, 0, 0, 1, 0) := by
  unfold invR at *
  cases h1 : matB a b c d
  · simp [h1] at h
  simp only [h1, cond_true]
  have hl := inv_lim h1
  have hd := matB_det h1
  clear h
  generalize ht : a * d - b * c = t at hl hd ⊢
  have e1 : a * (d * t) + b * (-c * t) = 1 := by rcases hd with rfl | rfl <;> grind
  have e2 : a * (-b * t) + b * (a * t) = 0 := by grind
  have e3 : c * (d * t) + d * (-c * t) = 0 := by grind
  have e4 : c * (-b * t) + d * (a * t) = 1 := by rcases hd with rfl | rfl <;> grind
  have m2 : matB (d * t) (-b * t) (-c * t) (a * t) = true := by
    have : d * t * (a * t) - -b * t * (-c * t) = t * t * t := by rw [← ht]; grind
    have h3 : t * t * t = 1 ∨ t * t * t = -1 := by rcases hd with rfl | rfl <;> simp
    simp only [matB, hl, Bool.true_and, this]
    rcases h3 with e | e <;> rw [e] <;> rfl
  unfold mulR
  rw [h1, m2, e1, e2, e3, e4]
  rfl
theorem app_ok {a b c d x y : Int} (h : (appR a b c d x y).2.2 = 0) : appR a b c d x y = (a * x + b * y, c * x + d * y, 0) := by
  unfold appR at *
  cases h1 : matB a b c d && vecB x y
  · simp [h1] at h
  cases h2 : vecB (a * x + b * y) (c * x + d * y)
  · simp [h1, h2] at h
  simp [h1, h2]
theorem mul_ok {a b c d a' b' c' d' : Int} (h : (mulR a b c d a' b' c' d').2.2.2.2 = 0) : mulR a b c d a' b' c' d' = (a * a' + b * c', a * b' + b * d', c * a' + d * c', c * b' + d * d', 0) := by
  unfold mulR at *
  cases h1 : matB a b c d && matB a' b' c' d'
  · simp [h1] at h
  cases h2 : limB (a * a' + b * c') (a * b' + b * d') (c * a' + d * c') (c * b' + d * d')
  · simp [h1, h2] at h
  simp [h1, h2]
theorem app_comp {a b c d a' b' c' d' x y : Int} (h : (mulR a b c d a' b' c' d').2.2.2.2 = 0) (h6 : (appR a' b' c' d' x y).2.2 = 0)
    (h7 : (appR a b c d (appR a' b' c' d' x y).1 (appR a' b' c' d' x y).2.1).2.2 = 0)
    (h8 : (appR (mulR a b c d a' b' c' d').1 (mulR a b c d a' b' c' d').2.1 (mulR a b c d a' b' c' d').2.2.1 (mulR a b c d a' b' c' d').2.2.2.1 x y).2.2 = 0) :
    ((appR a b c d (appR a' b' c' d' x y).1 (appR a' b' c' d' x y).2.1).1 == (appR (mulR a b c d a' b' c' d').1 (mulR a b c d a' b' c' d').2.1 (mulR a b c d a' b' c' d').2.2.1 (mulR a b c d a' b' c' d').2.2.2.1 x y).1) = true ∧
    ((appR a b c d (appR a' b' c' d' x y).1 (appR a' b' c' d' x y).2.1).2.1 == (appR (mulR a b c d a' b' c' d').1 (mulR a b c d a' b' c' d').2.1 (mulR a b c d a' b' c' d').2.2.1 (mulR a b c d a' b' c' d').2.2.2.1 x y).2.1) = true := by
  rw [app_ok h8, app_ok h7, app_ok h6, mul_ok h]
  simp only [beq_iff_eq]
  constructor <;> grind

set_option maxRecDepth 100000 in
set_option maxHeartbeats 16000000 in
theorem walkMatrices (a0 : Option Addr) (len cap : Nat) (zs : List Int) (w : World) (w0 : IsRow .u8 w a0 len cap zs) :
    Calls Try.prog 3 #[.slice a0 len cap] w fun e w' => e = .returned (.bool true) ∧ Below w.heap.size w w' := by
  by_cases hbig : 4096 < len
  · have hb1 : (4096 : Int) < (len : Int) := by omega
    have hb2 : len ≤ 9223372036854775807 := by
      rcases w0 with ⟨_, h, _, _⟩ | ⟨x, rfl, h1, h2, h3, h4, h5⟩
      · omega
      · unfold maxLen at h2; omega
    go_enter Try.func3, Try.ntmps3
    go_wp2
    go_ret
    exact ⟨rfl, Below.refl _ _⟩
  have hB := rowBts w0
  have hl : len ≤ 4096 := by omega
  clear w0
  go_enter Try.func3, Try.ntmps3
  go_wp2_with (go_at_call 9; go_in)
  refine (drawMul_any a0 len cap _ (by omega) (hB.grow (Below.refl _ _) (by first | omega | (simp <;> omega)))).mono ?_
  rintro e w1 ⟨a, b, c, d, a', b', c', d', rfl, hb1⟩
  have B1 : Below w.heap.size w w1 := bstep (Below.refl _ _) hb1
  clear hb1
  go_wp2_with fail
  refine (implMul_any _ _ _ _ _ _ _ _ _).mono ?_
  rintro e w2 ⟨he, hb2⟩
  unfold matV at he
  subst he
  have U_2 : Kq (w1.heap.size) a b c d w2 := Kq.call (Kq.alloc (Kq.at (w1.heap.size) (by simp) : Kq (w1.heap.size) a b c d _) _) hb2
  have V_2 : Kq (w1.heap.size + 1) a' b' c' d' w2 := Kq.call (Kq.at (w1.heap.size + 1) (by simp) : Kq (w1.heap.size + 1) a' b' c' d' _) hb2
  have B2 : Below w.heap.size w w2 := bstep (Below.alloc (Below.alloc (B1) (by have := B1.size; first | omega | (simp <;> omega)) _) (by have := B1.size; first | omega | (simp <;> omega)) _) hb2
  clear hb2 B1
  have U_2c0 := U_2.c0
  have U_2c1 := U_2.c1
  have U_2c2 := U_2.c2
  have U_2c3 := U_2.c3
  have U_2l : w1.heap.size < w2.heap.size := U_2.1
  have U_2n : ¬ w1.heap.size = w2.heap.size := by omega
  have V_2c0 := V_2.c0
  have V_2c1 := V_2.c1
  have V_2c2 := V_2.c2
  have V_2c3 := V_2.c3
  have V_2l : w1.heap.size + 1 < w2.heap.size := V_2.1
  have V_2n : ¬ w1.heap.size + 1 = w2.heap.size := by omega
  go_wp2_with fail
  refine (specMul_any _ _ _ _ _ _ _ _ _).mono ?_
  rintro e w3 ⟨he, hb3⟩
  unfold matV at he
  subst he
  have U_3 : Kq (w1.heap.size) a b c d w3 := Kq.call (Kq.alloc U_2 _) hb3
  have V_3 : Kq (w1.heap.size + 1) a' b' c' d' w3 := Kq.call (Kq.alloc V_2 _) hb3
  have P_3 : Kq (w2.heap.size) (mulR a b c d a' b' c' d').1 (mulR a b c d a' b' c' d').2.1 (mulR a b c d a' b' c' d').2.2.1 (mulR a b c d a' b' c' d').2.2.2.1 w3 := Kq.call (Kq.at (w2.heap.size) (by simp) : Kq (w2.heap.size) (mulR a b c d a' b' c' d').1 (mulR a b c d a' b' c' d').2.1 (mulR a b c d a' b' c' d').2.2.1 (mulR a b c d a' b' c' d').2.2.2.1 _) hb3
  have B3 : Below w.heap.size w w3 := bstep (Below.alloc (B2) (by have := B2.size; first | omega | (simp <;> omega)) _) hb3
  clear hb3 U_2 V_2 B2 U_2c0 U_2c1 U_2c2 U_2c3 U_2l U_2n V_2c0 V_2c1 V_2c2 V_2c3 V_2l V_2n
  have U_3c0 := U_3.c0
  have U_3c1 := U_3.c1
  have U_3c2 := U_3.c2
  have U_3c3 := U_3.c3
  have U_3l : w1.heap.size < w3.heap.size := U_3.1
  have U_3n : ¬ w1.heap.size = w3.heap.size := by omega
  have V_3c0 := V_3.c0
  have V_3c1 := V_3.c1
  have V_3c2 := V_3.c2
  have V_3c3 := V_3.c3
  have V_3l : w1.heap.size + 1 < w3.heap.size := V_3.1
  have V_3n : ¬ w1.heap.size + 1 = w3.heap.size := by omega
  have P_3c0 := P_3.c0
  have P_3c1 := P_3.c1
  have P_3c2 := P_3.c2
  have P_3c3 := P_3.c3
  have P_3l : w2.heap.size < w3.heap.size := P_3.1
  have P_3n : ¬ w2.heap.size = w3.heap.size := by omega
  go_wp2_with fail
  refine (drawInv_any a0 len cap _ (by omega) (hB.grow (Below.alloc (B3) (by have := B3.size; first | omega | (simp <;> omega)) _) (by have := B3.size; first | omega | (simp <;> omega)))).mono ?_
  rintro e w4 ⟨e', f, g, h, rfl, hb4⟩
  have U_4 : Kq (w1.heap.size) a b c d w4 := Kq.call (Kq.alloc U_3 _) hb4
  have V_4 : Kq (w1.heap.size + 1) a' b' c' d' w4 := Kq.call (Kq.alloc V_3 _) hb4
  have P_4 : Kq (w2.heap.size) (mulR a b c d a' b' c' d').1 (mulR a b c d a' b' c' d').2.1 (mulR a b c d a' b' c' d').2.2.1 (mulR a b c d a' b' c' d').2.2.2.1 w4 := Kq.call (Kq.alloc P_3 _) hb4
  have Q_4 : Kq (w3.heap.size) (mulR a b c d a' b' c' d').1 (mulR a b c d a' b' c' d').2.1 (mulR a b c d a' b' c' d').2.2.1 (mulR a b c d a' b' c' d').2.2.2.1 w4 := Kq.call (Kq.at (w3.heap.size) (by simp) : Kq (w3.heap.size) (mulR a b c d a' b' c' d').1 (mulR a b c d a' b' c' d').2.1 (mulR a b c d a' b' c' d').2.2.1 (mulR a b c d a' b' c' d').2.2.2.1 _) hb4
  have B4 : Below w.heap.size w w4 := bstep (Below.alloc (B3) (by have := B3.size; first | omega | (simp <;> omega)) _) hb4
  clear hb4 U_3 V_3 P_3 B3 U_3c0 U_3c1 U_3c2 U_3c3 U_3l U_3n V_3c0 V_3c1 V_3c2 V_3c3 V_3l V_3n P_3c0 P_3c1 P_3c2 P_3c3 P_3l P_3n
  have U_4c0 := U_4.c0
  have U_4c1 := U_4.c1
  have U_4c2 := U_4.c2
  have U_4c3 := U_4.c3
  have U_4l : w1.heap.size < w4.heap.size := U_4.1
  have U_4n : ¬ w1.heap.size = w4.heap.size := by omega
  have V_4c0 := V_4.c0
  have V_4c1 := V_4.c1
  have V_4c2 := V_4.c2
  have V_4c3 := V_4.c3
  have V_4l : w1.heap.size + 1 < w4.heap.size := V_4.1
  have V_4n : ¬ w1.heap.size + 1 = w4.heap.size := by omega
  have P_4c0 := P_4.c0
  have P_4c1 := P_4.c1
  have P_4c2 := P_4.c2
  have P_4c3 := P_4.c3
  have P_4l : w2.heap.size < w4.heap.size := P_4.1
  have P_4n : ¬ w2.heap.size = w4.heap.size := by omega
  have Q_4c0 := Q_4.c0
  have Q_4c1 := Q_4.c1
  have Q_4c2 := Q_4.c2
  have Q_4c3 := Q_4.c3
  have Q_4l : w3.heap.size < w4.heap.size := Q_4.1
  have Q_4n : ¬ w3.heap.size = w4.heap.size := by omega
  go_wp2_with fail
  refine (implInv_any _ _ _ _ _).mono ?_
  rintro e w5 ⟨he, hb5⟩
  unfold matV at he
  subst he
  have U_5 : Kq (w1.heap.size) a b c d w5 := Kq.call (Kq.alloc U_4 _) hb5
  have V_5 : Kq (w1.heap.size + 1) a' b' c' d' w5 := Kq.call (Kq.alloc V_4 _) hb5
  have P_5 : Kq (w2.heap.size) (mulR a b c d a' b' c' d').1 (mulR a b c d a' b' c' d').2.1 (mulR a b c d a' b' c' d').2.2.1 (mulR a b c d a' b' c' d').2.2.2.1 w5 := Kq.call (Kq.alloc P_4 _) hb5
  have Q_5 : Kq (w3.heap.size) (mulR a b c d a' b' c' d').1 (mulR a b c d a' b' c' d').2.1 (mulR a b c d a' b' c' d').2.2.1 (mulR a b c d a' b' c' d').2.2.2.1 w5 := Kq.call (Kq.alloc Q_4 _) hb5
  have A_5 : Kq (w4.heap.size) e' f g h w5 := Kq.call (Kq.at (w4.heap.size) (by simp) : Kq (w4.heap.size) e' f g h _) hb5
  have B5 : Below w.heap.size w w5 := bstep (Below.alloc (B4) (by have := B4.size; first | omega | (simp <;> omega)) _) hb5
  clear hb5 U_4 V_4 P_4 Q_4 B4 U_4c0 U_4c1 U_4c2 U_4c3 U_4l U_4n V_4c0 V_4c1 V_4c2 V_4c3 V_4l V_4n P_4c0 P_4c1 P_4c2 P_4c3 P_4l P_4n Q_4c0 Q_4c1 Q_4c2 Q_4c3 Q_4l Q_4n
  have U_5c0 := U_5.c0
  have U_5c1 := U_5.c1
  have U_5c2 := U_5.c2
  have U_5c3 := U_5.c3
  have U_5l : w1.heap.size < w5.heap.size := U_5.1
  have U_5n : ¬ w1.heap.size = w5.heap.size := by omega
  have V_5c0 := V_5.c0
  have V_5c1 := V_5.c1
  have V_5c2 := V_5.c2
  have V_5c3 := V_5.c3
  have V_5l : w1.heap.size + 1 < w5.heap.size := V_5.1
  have V_5n : ¬ w1.heap.size + 1 = w5.heap.size := by omega
  have P_5c0 := P_5.c0
  have P_5c1 := P_5.c1
  have P_5c2 := P_5.c2
  have P_5c3 := P_5.c3
  have P_5l : w2.heap.size < w5.heap.size := P_5.1
  have P_5n : ¬ w2.heap.size = w5.heap.size := by omega
  have Q_5c0 := Q_5.c0
  have Q_5c1 := Q_5.c1
  have Q_5c2 := Q_5.c2
  have Q_5c3 := Q_5.c3
  have Q_5l : w3.heap.size < w5.heap.size := Q_5.1
  have Q_5n : ¬ w3.heap.size = w5.heap.size := by omega
  have A_5c0 := A_5.c0
  have A_5c1 := A_5.c1
  have A_5c2 := A_5.c2
  have A_5c3 := A_5.c3
  have A_5l : w4.heap.size < w5.heap.size := A_5.1
  have A_5n : ¬ w4.heap.size = w5.heap.size := by omega
  go_wp2_with fail
  refine (specInv_any _ _ _ _ _).mono ?_
  rintro e w6 ⟨he, hb6⟩
  unfold matV at he
  subst he
  have U_6 : Kq (w1.heap.size) a b c d w6 := Kq.call (Kq.alloc U_5 _) hb6
  have V_6 : Kq (w1.heap.size + 1) a' b' c' d' w6 := Kq.call (Kq.alloc V_5 _) hb6
  have P_6 : Kq (w2.heap.size) (mulR a b c d a' b' c' d').1 (mulR a b c d a' b' c' d').2.1 (mulR a b c d a' b' c' d').2.2.1 (mulR a b c d a' b' c' d').2.2.2.1 w6 := Kq.call (Kq.alloc P_5 _) hb6
  have Q_6 : Kq (w3.heap.size) (mulR a b c d a' b' c' d').1 (mulR a b c d a' b' c' d').2.1 (mulR a b c d a' b' c' d').2.2.1 (mulR a b c d a' b' c' d').2.2.2.1 w6 := Kq.call (Kq.alloc Q_5 _) hb6
  have A_6 : Kq (w4.heap.size) e' f g h w6 := Kq.call (Kq.alloc A_5 _) hb6
  have I_6 : Kq (w5.heap.size) (invR e' f g h).1 (invR e' f g h).2.1 (invR e' f g h).2.2.1 (invR e' f g h).2.2.2.1 w6 := Kq.call (Kq.at (w5.heap.size) (by simp) : Kq (w5.heap.size) (invR e' f g h).1 (invR e' f g h).2.1 (invR e' f g h).2.2.1 (invR e' f g h).2.2.2.1 _) hb6
  have B6 : Below w.heap.size w w6 := bstep (Below.alloc (B5) (by have := B5.size; first | omega | (simp <;> omega)) _) hb6
  clear hb6 U_5 V_5 P_5 Q_5 A_5 B5 U_5c0 U_5c1 U_5c2 U_5c3 U_5l U_5n V_5c0 V_5c1 V_5c2 V_5c3 V_5l V_5n P_5c0 P_5c1 P_5c2 P_5c3 P_5l P_5n Q_5c0 Q_5c1 Q_5c2 Q_5c3 Q_5l Q_5n A_5c0 A_5c1 A_5c2 A_5c3 A_5l A_5n
  have U_6c0 := U_6.c0
  have U_6c1 := U_6.c1
  have U_6c2 := U_6.c2
  have U_6c3 := U_6.c3
  have U_6l : w1.heap.size < w6.heap.size := U_6.1
  have U_6n : ¬ w1.heap.size = w6.heap.size := by omega
  have V_6c0 := V_6.c0
  have V_6c1 := V_6.c1
  have V_6c2 := V_6.c2
  have V_6c3 := V_6.c3
  have V_6l : w1.heap.size + 1 < w6.heap.size := V_6.1
  have V_6n : ¬ w1.heap.size + 1 = w6.heap.size := by omega
  have P_6c0 := P_6.c0
  have P_6c1 := P_6.c1
  have P_6c2 := P_6.c2
  have P_6c3 := P_6.c3
  have P_6l : w2.heap.size < w6.heap.size := P_6.1
  have P_6n : ¬ w2.heap.size = w6.heap.size := by omega
  have Q_6c0 := Q_6.c0
  have Q_6c1 := Q_6.c1
  have Q_6c2 := Q_6.c2
  have Q_6c3 := Q_6.c3
  have Q_6l : w3.heap.size < w6.heap.size := Q_6.1
  have Q_6n : ¬ w3.heap.size = w6.heap.size := by omega
  have A_6c0 := A_6.c0
  have A_6c1 := A_6.c1
  have A_6c2 := A_6.c2
  have A_6c3 := A_6.c3
  have A_6l : w4.heap.size < w6.heap.size := A_6.1
  have A_6n : ¬ w4.heap.size = w6.heap.size := by omega
  have I_6c0 := I_6.c0
  have I_6c1 := I_6.c1
  have I_6c2 := I_6.c2
  have I_6c3 := I_6.c3
  have I_6l : w5.heap.size < w6.heap.size := I_6.1
  have I_6n : ¬ w5.heap.size = w6.heap.size := by omega
  go_wp2_with fail
  refine (drawApp_any a0 len cap _ (by omega) (hB.grow (Below.alloc (B6) (by have := B6.size; first | omega | (simp <;> omega)) _) (by have := B6.size; first | omega | (simp <;> omega)))).mono ?_
  rintro e w7 ⟨p, q, r, s, x, y, rfl, hb7⟩
  have U_7 : Kq (w1.heap.size) a b c d w7 := Kq.call (Kq.alloc U_6 _) hb7
  have V_7 : Kq (w1.heap.size + 1) a' b' c' d' w7 := Kq.call (Kq.alloc V_6 _) hb7
  have P_7 : Kq (w2.heap.size) (mulR a b c d a' b' c' d').1 (mulR a b c d a' b' c' d').2.1 (mulR a b c d a' b' c' d').2.2.1 (mulR a b c d a' b' c' d').2.2.2.1 w7 := Kq.call (Kq.alloc P_6 _) hb7
  have Q_7 : Kq (w3.heap.size) (mulR a b c d a' b' c' d').1 (mulR a b c d a' b' c' d').2.1 (mulR a b c d a' b' c' d').2.2.1 (mulR a b c d a' b' c' d').2.2.2.1 w7 := Kq.call (Kq.alloc Q_6 _) hb7
  have A_7 : Kq (w4.heap.size) e' f g h w7 := Kq.call (Kq.alloc A_6 _) hb7
  have I_7 : Kq (w5.heap.size) (invR e' f g h).1 (invR e' f g h).2.1 (invR e' f g h).2.2.1 (invR e' f g h).2.2.2.1 w7 := Kq.call (Kq.alloc I_6 _) hb7
  have J_7 : Kq (w6.heap.size) (invR e' f g h).1 (invR e' f g h).2.1 (invR e' f g h).2.2.1 (invR e' f g h).2.2.2.1 w7 := Kq.call (Kq.at (w6.heap.size) (by simp) : Kq (w6.heap.size) (invR e' f g h).1 (invR e' f g h).2.1 (invR e' f g h).2.2.1 (invR e' f g h).2.2.2.1 _) hb7
  have B7 : Below w.heap.size w w7 := bstep (Below.alloc (B6) (by have := B6.size; first | omega | (simp <;> omega)) _) hb7
  clear hb7 U_6 V_6 P_6 Q_6 A_6 I_6 B6 U_6c0 U_6c1 U_6c2 U_6c3 U_6l U_6n V_6c0 V_6c1 V_6c2 V_6c3 V_6l V_6n P_6c0 P_6c1 P_6c2 P_6c3 P_6l P_6n Q_6c0 Q_6c1 Q_6c2 Q_6c3 Q_6l Q_6n A_6c0 A_6c1 A_6c2 A_6c3 A_6l A_6n I_6c0 I_6c1 I_6c2 I_6c3 I_6l I_6n
  have U_7c0 := U_7.c0
  have U_7c1 := U_7.c1
  have U_7c2 := U_7.c2
  have U_7c3 := U_7.c3
  have U_7l : w1.heap.size < w7.heap.size := U_7.1
  have U_7n : ¬ w1.heap.size = w7.heap.size := by omega
  have V_7c0 := V_7.c0
  have V_7c1 := V_7.c1
  have V_7c2 := V_7.c2
  have V_7c3 := V_7.c3
  have V_7l : w1.heap.size + 1 < w7.heap.size := V_7.1
  have V_7n : ¬ w1.heap.size + 1 = w7.heap.size := by omega
  have P_7c0 := P_7.c0
  have P_7c1 := P_7.c1
  have P_7c2 := P_7.c2
  have P_7c3 := P_7.c3
  have P_7l : w2.heap.size < w7.heap.size := P_7.1
  have P_7n : ¬ w2.heap.size = w7.heap.size := by omega
  have Q_7c0 := Q_7.c0
  have Q_7c1 := Q_7.c1
  have Q_7c2 := Q_7.c2
  have Q_7c3 := Q_7.c3
  have Q_7l : w3.heap.size < w7.heap.size := Q_7.1
  have Q_7n : ¬ w3.heap.size = w7.heap.size := by omega
  have A_7c0 := A_7.c0
  have A_7c1 := A_7.c1
  have A_7c2 := A_7.c2
  have A_7c3 := A_7.c3
  have A_7l : w4.heap.size < w7.heap.size := A_7.1
  have A_7n : ¬ w4.heap.size = w7.heap.size := by omega
  have I_7c0 := I_7.c0
  have I_7c1 := I_7.c1
  have I_7c2 := I_7.c2
  have I_7c3 := I_7.c3
  have I_7l : w5.heap.size < w7.heap.size := I_7.1
  have I_7n : ¬ w5.heap.size = w7.heap.size := by omega
  have J_7c0 := J_7.c0
  have J_7c1 := J_7.c1
  have J_7c2 := J_7.c2
  have J_7c3 := J_7.c3
  have J_7l : w6.heap.size < w7.heap.size := J_7.1
  have J_7n : ¬ w6.heap.size = w7.heap.size := by omega
  go_wp2_with fail
  refine (implApp_any _ _ _ _ _ _ _).mono ?_
  rintro e w8 ⟨he, hb8⟩
  unfold vecV at he
  subst he
  have U_8 : Kq (w1.heap.size) a b c d w8 := Kq.call (Kq.alloc (Kq.alloc U_7 _) _) hb8
  have V_8 : Kq (w1.heap.size + 1) a' b' c' d' w8 := Kq.call (Kq.alloc (Kq.alloc V_7 _) _) hb8
  have P_8 : Kq (w2.heap.size) (mulR a b c d a' b' c' d').1 (mulR a b c d a' b' c' d').2.1 (mulR a b c d a' b' c' d').2.2.1 (mulR a b c d a' b' c' d').2.2.2.1 w8 := Kq.call (Kq.alloc (Kq.alloc P_7 _) _) hb8
  have Q_8 : Kq (w3.heap.size) (mulR a b c d a' b' c' d').1 (mulR a b c d a' b' c' d').2.1 (mulR a b c d a' b' c' d').2.2.1 (mulR a b c d a' b' c' d').2.2.2.1 w8 := Kq.call (Kq.alloc (Kq.alloc Q_7 _) _) hb8
  have A_8 : Kq (w4.heap.size) e' f g h w8 := Kq.call (Kq.alloc (Kq.alloc A_7 _) _) hb8
  have I_8 : Kq (w5.heap.size) (invR e' f g h).1 (invR e' f g h).2.1 (invR e' f g h).2.2.1 (invR e' f g h).2.2.2.1 w8 := Kq.call (Kq.alloc (Kq.alloc I_7 _) _) hb8
  have J_8 : Kq (w6.heap.size) (invR e' f g h).1 (invR e' f g h).2.1 (invR e' f g h).2.2.1 (invR e' f g h).2.2.2.1 w8 := Kq.call (Kq.alloc (Kq.alloc J_7 _) _) hb8
  have M_8 : Kq (w7.heap.size) p q r s w8 := Kq.call (Kq.alloc (Kq.at (w7.heap.size) (by simp) : Kq (w7.heap.size) p q r s _) _) hb8
  have X_8 : Kg (w7.heap.size + 1) x y w8 := Kg.call (Kg.at2 (w7.heap.size + 1) (by simp) : Kg (w7.heap.size + 1) x y _) hb8
  have B8 : Below w.heap.size w w8 := bstep (Below.alloc (Below.alloc (B7) (by have := B7.size; first | omega | (simp <;> omega)) _) (by have := B7.size; first | omega | (simp <;> omega)) _) hb8
  clear hb8 U_7 V_7 P_7 Q_7 A_7 I_7 J_7 B7 U_7c0 U_7c1 U_7c2 U_7c3 U_7l U_7n V_7c0 V_7c1 V_7c2 V_7c3 V_7l V_7n P_7c0 P_7c1 P_7c2 P_7c3 P_7l P_7n Q_7c0 Q_7c1 Q_7c2 Q_7c3 Q_7l Q_7n A_7c0 A_7c1 A_7c2 A_7c3 A_7l A_7n I_7c0 I_7c1 I_7c2 I_7c3 I_7l I_7n J_7c0 J_7c1 J_7c2 J_7c3 J_7l J_7n
  have U_8c0 := U_8.c0
  have U_8c1 := U_8.c1
  have U_8c2 := U_8.c2
  have U_8c3 := U_8.c3
  have U_8l : w1.heap.size < w8.heap.size := U_8.1
  have U_8n : ¬ w1.heap.size = w8.heap.size := by omega
  have V_8c0 := V_8.c0
  have V_8c1 := V_8.c1
  have V_8c2 := V_8.c2
  have V_8c3 := V_8.c3
  have V_8l : w1.heap.size + 1 < w8.heap.size := V_8.1
  have V_8n : ¬ w1.heap.size + 1 = w8.heap.size := by omega
  have P_8c0 := P_8.c0
  have P_8c1 := P_8.c1
  have P_8c2 := P_8.c2
  have P_8c3 := P_8.c3
  have P_8l : w2.heap.size < w8.heap.size := P_8.1
  have P_8n : ¬ w2.heap.size = w8.heap.size := by omega
  have Q_8c0 := Q_8.c0
  have Q_8c1 := Q_8.c1
  have Q_8c2 := Q_8.c2
  have Q_8c3 := Q_8.c3
  have Q_8l : w3.heap.size < w8.heap.size := Q_8.1
  have Q_8n : ¬ w3.heap.size = w8.heap.size := by omega
  have A_8c0 := A_8.c0
  have A_8c1 := A_8.c1
  have A_8c2 := A_8.c2
  have A_8c3 := A_8.c3
  have A_8l : w4.heap.size < w8.heap.size := A_8.1
  have A_8n : ¬ w4.heap.size = w8.heap.size := by omega
  have I_8c0 := I_8.c0
  have I_8c1 := I_8.c1
  have I_8c2 := I_8.c2
  have I_8c3 := I_8.c3
  have I_8l : w5.heap.size < w8.heap.size := I_8.1
  have I_8n : ¬ w5.heap.size = w8.heap.size := by omega
  have J_8c0 := J_8.c0
  have J_8c1 := J_8.c1
  have J_8c2 := J_8.c2
  have J_8c3 := J_8.c3
  have J_8l : w6.heap.size < w8.heap.size := J_8.1
  have J_8n : ¬ w6.heap.size = w8.heap.size := by omega
  have M_8c0 := M_8.c0
  have M_8c1 := M_8.c1
  have M_8c2 := M_8.c2
  have M_8c3 := M_8.c3
  have M_8l : w7.heap.size < w8.heap.size := M_8.1
  have M_8n : ¬ w7.heap.size = w8.heap.size := by omega
  have X_8c0 := X_8.c0
  have X_8c1 := X_8.c1
  have X_8l : w7.heap.size + 1 < w8.heap.size := X_8.1
  have X_8n : ¬ w7.heap.size + 1 = w8.heap.size := by omega
  go_wp2_with fail
  refine (specApp_any _ _ _ _ _ _ _).mono ?_
  rintro e w9 ⟨he, hb9⟩
  unfold vecV at he
  subst he
  have U_9 : Kq (w1.heap.size) a b c d w9 := Kq.call (Kq.alloc U_8 _) hb9
  have V_9 : Kq (w1.heap.size + 1) a' b' c' d' w9 := Kq.call (Kq.alloc V_8 _) hb9
  have P_9 : Kq (w2.heap.size) (mulR a b c d a' b' c' d').1 (mulR a b c d a' b' c' d').2.1 (mulR a b c d a' b' c' d').2.2.1 (mulR a b c d a' b' c' d').2.2.2.1 w9 := Kq.call (Kq.alloc P_8 _) hb9
  have Q_9 : Kq (w3.heap.size) (mulR a b c d a' b' c' d').1 (mulR a b c d a' b' c' d').2.1 (mulR a b c d a' b' c' d').2.2.1 (mulR a b c d a' b' c' d').2.2.2.1 w9 := Kq.call (Kq.alloc Q_8 _) hb9
  have A_9 : Kq (w4.heap.size) e' f g h w9 := Kq.call (Kq.alloc A_8 _) hb9
  have I_9 : Kq (w5.heap.size) (invR e' f g h).1 (invR e' f g h).2.1 (invR e' f g h).2.2.1 (invR e' f g h).2.2.2.1 w9 := Kq.call (Kq.alloc I_8 _) hb9
  have J_9 : Kq (w6.heap.size) (invR e' f g h).1 (invR e' f g h).2.1 (invR e' f g h).2.2.1 (invR e' f g h).2.2.2.1 w9 := Kq.call (Kq.alloc J_8 _) hb9
  have M_9 : Kq (w7.heap.size) p q r s w9 := Kq.call (Kq.alloc M_8 _) hb9
  have X_9 : Kg (w7.heap.size + 1) x y w9 := Kg.call (Kg.alloc X_8 _) hb9
  have Y_9 : Kg (w8.heap.size) (appR p q r s x y).1 (appR p q r s x y).2.1 w9 := Kg.call (Kg.at2 (w8.heap.size) (by simp) : Kg (w8.heap.size) (appR p q r s x y).1 (appR p q r s x y).2.1 _) hb9
  have B9 : Below w.heap.size w w9 := bstep (Below.alloc (B8) (by have := B8.size; first | omega | (simp <;> omega)) _) hb9
  clear hb9 U_8 V_8 P_8 Q_8 A_8 I_8 J_8 M_8 X_8 B8 U_8c0 U_8c1 U_8c2 U_8c3 U_8l U_8n V_8c0 V_8c1 V_8c2 V_8c3 V_8l V_8n P_8c0 P_8c1 P_8c2 P_8c3 P_8l P_8n Q_8c0 Q_8c1 Q_8c2 Q_8c3 Q_8l Q_8n A_8c0 A_8c1 A_8c2 A_8c3 A_8l A_8n I_8c0 I_8c1 I_8c2 I_8c3 I_8l I_8n J_8c0 J_8c1 J_8c2 J_8c3 J_8l J_8n M_8c0 M_8c1 M_8c2 M_8c3 M_8l M_8n X_8c0 X_8c1 X_8l X_8n
  have U_9c0 := U_9.c0
  have U_9c1 := U_9.c1
  have U_9c2 := U_9.c2
  have U_9c3 := U_9.c3
  have U_9l : w1.heap.size < w9.heap.size := U_9.1
  have U_9n : ¬ w1.heap.size = w9.heap.size := by omega
  have V_9c0 := V_9.c0
  have V_9c1 := V_9.c1
  have V_9c2 := V_9.c2
  have V_9c3 := V_9.c3
  have V_9l : w1.heap.size + 1 < w9.heap.size := V_9.1
  have V_9n : ¬ w1.heap.size + 1 = w9.heap.size := by omega
  have P_9c0 := P_9.c0
  have P_9c1 := P_9.c1
  have P_9c2 := P_9.c2
  have P_9c3 := P_9.c3
  have P_9l : w2.heap.size < w9.heap.size := P_9.1
  have P_9n : ¬ w2.heap.size = w9.heap.size := by omega
  have Q_9c0 := Q_9.c0
  have Q_9c1 := Q_9.c1
  have Q_9c2 := Q_9.c2
  have Q_9c3 := Q_9.c3
  have Q_9l : w3.heap.size < w9.heap.size := Q_9.1
  have Q_9n : ¬ w3.heap.size = w9.heap.size := by omega
  have A_9c0 := A_9.c0
  have A_9c1 := A_9.c1
  have A_9c2 := A_9.c2
  have A_9c3 := A_9.c3
  have A_9l : w4.heap.size < w9.heap.size := A_9.1
  have A_9n : ¬ w4.heap.size = w9.heap.size := by omega
  have I_9c0 := I_9.c0
  have I_9c1 := I_9.c1
  have I_9c2 := I_9.c2
  have I_9c3 := I_9.c3
  have I_9l : w5.heap.size < w9.heap.size := I_9.1
  have I_9n : ¬ w5.heap.size = w9.heap.size := by omega
  have J_9c0 := J_9.c0
  have J_9c1 := J_9.c1
  have J_9c2 := J_9.c2
  have J_9c3 := J_9.c3
  have J_9l : w6.heap.size < w9.heap.size := J_9.1
  have J_9n : ¬ w6.heap.size = w9.heap.size := by omega
  have M_9c0 := M_9.c0
  have M_9c1 := M_9.c1
  have M_9c2 := M_9.c2
  have M_9c3 := M_9.c3
  have M_9l : w7.heap.size < w9.heap.size := M_9.1
  have M_9n : ¬ w7.heap.size = w9.heap.size := by omega
  have X_9c0 := X_9.c0
  have X_9c1 := X_9.c1
  have X_9l : w7.heap.size + 1 < w9.heap.size := X_9.1
  have X_9n : ¬ w7.heap.size + 1 = w9.heap.size := by omega
  have Y_9c0 := Y_9.c0
  have Y_9c1 := Y_9.c1
  have Y_9l : w8.heap.size < w9.heap.size := Y_9.1
  have Y_9n : ¬ w8.heap.size = w9.heap.size := by omega
  clear M_9 M_9c0 M_9c1 M_9c2 M_9c3 M_9l M_9n
  clear X_9 X_9c0 X_9c1 X_9l X_9n
  have Z_9 : Kg (w9.heap.size) (appR p q r s x y).1 (appR p q r s x y).2.1 (w9.alloc (.cells #[.int .i64 (appR p q r s x y).1, .int .i64 (appR p q r s x y).2.1] 33)) := Kg.at2 _ rfl
  go_wp2_with fail
  go_region_held3 (fun W => (W.cell? ⟨w2.heap.size, 0, none⟩ = some (.int .i64 (mulR a b c d a' b' c' d').1) ∧ W.cell? ⟨w2.heap.size, 1, none⟩ = some (.int .i64 (mulR a b c d a' b' c' d').2.1) ∧ W.cell? ⟨w2.heap.size, 2, none⟩ = some (.int .i64 (mulR a b c d a' b' c' d').2.2.1) ∧ W.cell? ⟨w2.heap.size, 3, none⟩ = some (.int .i64 (mulR a b c d a' b' c' d').2.2.2.1)) ∧ (W.cell? ⟨w3.heap.size, 0, none⟩ = some (.int .i64 (mulR a b c d a' b' c' d').1) ∧ W.cell? ⟨w3.heap.size, 1, none⟩ = some (.int .i64 (mulR a b c d a' b' c' d').2.1) ∧ W.cell? ⟨w3.heap.size, 2, none⟩ = some (.int .i64 (mulR a b c d a' b' c' d').2.2.1) ∧ W.cell? ⟨w3.heap.size, 3, none⟩ = some (.int .i64 (mulR a b c d a' b' c' d').2.2.2.1)) ∧ (W.cell? ⟨w5.heap.size, 0, none⟩ = some (.int .i64 (invR e' f g h).1) ∧ W.cell? ⟨w5.heap.size, 1, none⟩ = some (.int .i64 (invR e' f g h).2.1) ∧ W.cell? ⟨w5.heap.size, 2, none⟩ = some (.int .i64 (invR e' f g h).2.2.1) ∧ W.cell? ⟨w5.heap.size, 3, none⟩ = some (.int .i64 (invR e' f g h).2.2.2.1)) ∧ (W.cell? ⟨w6.heap.size, 0, none⟩ = some (.int .i64 (invR e' f g h).1) ∧ W.cell? ⟨w6.heap.size, 1, none⟩ = some (.int .i64 (invR e' f g h).2.1) ∧ W.cell? ⟨w6.heap.size, 2, none⟩ = some (.int .i64 (invR e' f g h).2.2.1) ∧ W.cell? ⟨w6.heap.size, 3, none⟩ = some (.int .i64 (invR e' f g h).2.2.2.1)) ∧ (W.cell? ⟨w1.heap.size, 0, none⟩ = some (.int .i64 a) ∧ W.cell? ⟨w1.heap.size, 1, none⟩ = some (.int .i64 b) ∧ W.cell? ⟨w1.heap.size, 2, none⟩ = some (.int .i64 c) ∧ W.cell? ⟨w1.heap.size, 3, none⟩ = some (.int .i64 d)) ∧ (W.cell? ⟨w8.heap.size, 0, none⟩ = some (.int .i64 (appR p q r s x y).1) ∧ W.cell? ⟨w8.heap.size, 1, none⟩ = some (.int .i64 (appR p q r s x y).2.1)) ∧ (W.cell? ⟨w9.heap.size, 0, none⟩ = some (.int .i64 (appR p q r s x y).1) ∧ W.cell? ⟨w9.heap.size, 1, none⟩ = some (.int .i64 (appR p q r s x y).2.1))) ((refine ⟨Kq.cells ?_, Kq.cells ?_, Kq.cells ?_, Kq.cells ?_, Kq.cells ?_, Kg.cells ?_, Kg.cells ?_⟩ <;> repeat (first | assumption | with_reducible refine Kq.drew ?_ | with_reducible refine Kg.drew ?_ | with_reducible refine Kq.alloc ?_ _ | with_reducible refine Kg.alloc ?_ _ | with_reducible refine Kq.call ?_ (by assumption) | with_reducible refine Kg.call ?_ (by assumption))))
    (first
      | (go_at_call 19; refine (implIsMat_any _ _ _ _ _).mono ?_; rintro e u1 ⟨rfl, hb1⟩)
      | (go_at_call 20; refine (specIsMat_any _ _ _ _ _).mono ?_; rintro e w10 ⟨rfl, hb2⟩))
  have U_10 : Kq (w1.heap.size) a b c d w10 := Kq.call (Kq.call (U_9.alloc _).drew hb1) hb2
  have V_10 : Kq (w1.heap.size + 1) a' b' c' d' w10 := Kq.call (Kq.call (V_9.alloc _).drew hb1) hb2
  have P_10 : Kq (w2.heap.size) (mulR a b c d a' b' c' d').1 (mulR a b c d a' b' c' d').2.1 (mulR a b c d a' b' c' d').2.2.1 (mulR a b c d a' b' c' d').2.2.2.1 w10 := Kq.call (Kq.call (P_9.alloc _).drew hb1) hb2
  have A_10 : Kq (w4.heap.size) e' f g h w10 := Kq.call (Kq.call (A_9.alloc _).drew hb1) hb2
  have I_10 : Kq (w5.heap.size) (invR e' f g h).1 (invR e' f g h).2.1 (invR e' f g h).2.2.1 (invR e' f g h).2.2.2.1 w10 := Kq.call (Kq.call (I_9.alloc _).drew hb1) hb2
  have B10 : Below w.heap.size w w10 := bstep (bstep (Below.drew (Below.alloc B9 B9.size _)) hb1) hb2
  clear hb1 hb2 Z_9 B9 U_9 V_9 P_9 Q_9 A_9 I_9 J_9 Y_9 U_9c0 U_9c1 U_9c2 U_9c3 U_9l U_9n V_9c0 V_9c1 V_9c2 V_9c3 V_9l V_9n P_9c0 P_9c1 P_9c2 P_9c3 P_9l P_9n Q_9c0 Q_9c1 Q_9c2 Q_9c3 Q_9l Q_9n A_9c0 A_9c1 A_9c2 A_9c3 A_9l A_9n I_9c0 I_9c1 I_9c2 I_9c3 I_9l I_9n J_9c0 J_9c1 J_9c2 J_9c3 J_9l J_9n Y_9c0 Y_9c1 Y_9l Y_9n
  have U_10c0 := U_10.c0
  have U_10c1 := U_10.c1
  have U_10c2 := U_10.c2
  have U_10c3 := U_10.c3
  have U_10l : w1.heap.size < w10.heap.size := U_10.1
  have U_10n : ¬ w1.heap.size = w10.heap.size := by omega
  have V_10c0 := V_10.c0
  have V_10c1 := V_10.c1
  have V_10c2 := V_10.c2
  have V_10c3 := V_10.c3
  have V_10l : w1.heap.size + 1 < w10.heap.size := V_10.1
  have V_10n : ¬ w1.heap.size + 1 = w10.heap.size := by omega
  have P_10c0 := P_10.c0
  have P_10c1 := P_10.c1
  have P_10c2 := P_10.c2
  have P_10c3 := P_10.c3
  have P_10l : w2.heap.size < w10.heap.size := P_10.1
  have P_10n : ¬ w2.heap.size = w10.heap.size := by omega
  have A_10c0 := A_10.c0
  have A_10c1 := A_10.c1
  have A_10c2 := A_10.c2
  have A_10c3 := A_10.c3
  have A_10l : w4.heap.size < w10.heap.size := A_10.1
  have A_10n : ¬ w4.heap.size = w10.heap.size := by omega
  have I_10c0 := I_10.c0
  have I_10c1 := I_10.c1
  have I_10c2 := I_10.c2
  have I_10c3 := I_10.c3
  have I_10l : w5.heap.size < w10.heap.size := I_10.1
  have I_10n : ¬ w5.heap.size = w10.heap.size := by omega
  by_cases h1 : (invR e' f g h).2.2.2.2 = 0
  · have h1b : ((invR e' f g h).2.2.2.2 == 0) = true := by simp [h1]
    have HI := Lib.hid (inv_ok h1)
    clear h1
    go_wp2_with fail
    refine (implMul_any _ _ _ _ _ _ _ _ _).mono ?_
    rintro e w11 ⟨he, hb11⟩
    unfold matV at he
    rw [HI.out] at he
    subst he
    have U_11 : Kq (w1.heap.size) a b c d w11 := Kq.call U_10 hb11
    have V_11 : Kq (w1.heap.size + 1) a' b' c' d' w11 := Kq.call V_10 hb11
    have P_11 : Kq (w2.heap.size) (mulR a b c d a' b' c' d').1 (mulR a b c d a' b' c' d').2.1 (mulR a b c d a' b' c' d').2.2.1 (mulR a b c d a' b' c' d').2.2.2.1 w11 := Kq.call P_10 hb11
    have A_11 : Kq (w4.heap.size) e' f g h w11 := Kq.call A_10 hb11
    have I_11 : Kq (w5.heap.size) (invR e' f g h).1 (invR e' f g h).2.1 (invR e' f g h).2.2.1 (invR e' f g h).2.2.2.1 w11 := Kq.call I_10 hb11
    have B11 : Below w.heap.size w w11 := bstep (B10) hb11
    clear hb11 U_10 V_10 P_10 A_10 I_10 B10 U_10c0 U_10c1 U_10c2 U_10c3 U_10l U_10n V_10c0 V_10c1 V_10c2 V_10c3 V_10l V_10n P_10c0 P_10c1 P_10c2 P_10c3 P_10l P_10n A_10c0 A_10c1 A_10c2 A_10c3 A_10l A_10n I_10c0 I_10c1 I_10c2 I_10c3 I_10l I_10n
    have U_11c0 := U_11.c0
    have U_11c1 := U_11.c1
    have U_11c2 := U_11.c2
    have U_11c3 := U_11.c3
    have U_11l : w1.heap.size < w11.heap.size := U_11.1
    have U_11n : ¬ w1.heap.size = w11.heap.size := by omega
    have V_11c0 := V_11.c0
    have V_11c1 := V_11.c1
    have V_11c2 := V_11.c2
    have V_11c3 := V_11.c3
    have V_11l : w1.heap.size + 1 < w11.heap.size := V_11.1
    have V_11n : ¬ w1.heap.size + 1 = w11.heap.size := by omega
    have P_11c0 := P_11.c0
    have P_11c1 := P_11.c1
    have P_11c2 := P_11.c2
    have P_11c3 := P_11.c3
    have P_11l : w2.heap.size < w11.heap.size := P_11.1
    have P_11n : ¬ w2.heap.size = w11.heap.size := by omega
    have A_11c0 := A_11.c0
    have A_11c1 := A_11.c1
    have A_11c2 := A_11.c2
    have A_11c3 := A_11.c3
    have A_11l : w4.heap.size < w11.heap.size := A_11.1
    have A_11n : ¬ w4.heap.size = w11.heap.size := by omega
    have I_11c0 := I_11.c0
    have I_11c1 := I_11.c1
    have I_11c2 := I_11.c2
    have I_11c3 := I_11.c3
    have I_11l : w5.heap.size < w11.heap.size := I_11.1
    have I_11n : ¬ w5.heap.size = w11.heap.size := by omega
    by_cases h2 : (mulR a b c d a' b' c' d').2.2.2.2 = 0
    · have h2b : ((mulR a b c d a' b' c' d').2.2.2.2 != 0) = false := by simp [h2]
      have H2 := Lib.hid h2
      clear h2
      go_wp2_with fail
      refine (implApp_any _ _ _ _ _ _ _).mono ?_
      rintro e w12 ⟨he, hb12⟩
      unfold vecV at he
      subst he
      have U_12 : Kq (w1.heap.size) a b c d w12 := Kq.call (Kq.alloc (Kq.alloc U_11 _) _) hb12
      have V_12 : Kq (w1.heap.size + 1) a' b' c' d' w12 := Kq.call (Kq.alloc (Kq.alloc V_11 _) _) hb12
      have P_12 : Kq (w2.heap.size) (mulR a b c d a' b' c' d').1 (mulR a b c d a' b' c' d').2.1 (mulR a b c d a' b' c' d').2.2.1 (mulR a b c d a' b' c' d').2.2.2.1 w12 := Kq.call (Kq.alloc (Kq.alloc P_11 _) _) hb12
      have A_12 : Kq (w4.heap.size) e' f g h w12 := Kq.call (Kq.alloc (Kq.alloc A_11 _) _) hb12
      have I_12 : Kq (w5.heap.size) (invR e' f g h).1 (invR e' f g h).2.1 (invR e' f g h).2.2.1 (invR e' f g h).2.2.2.1 w12 := Kq.call (Kq.alloc (Kq.alloc I_11 _) _) hb12
      have N_12 : Kq (w11.heap.size) 1 0 0 1 w12 := Kq.call (Kq.alloc (Kq.at (w11.heap.size) (by simp) : Kq (w11.heap.size) 1 0 0 1 _) _) hb12
      have T_12 : Kg (w11.heap.size + 1) 3 (-2) w12 := Kg.call (Kg.at2 (w11.heap.size + 1) (by simp) : Kg (w11.heap.size + 1) 3 (-2) _) hb12
      have B12 : Below w.heap.size w w12 := bstep (Below.alloc (Below.alloc (B11) (by have := B11.size; first | omega | (simp <;> omega)) _) (by have := B11.size; first | omega | (simp <;> omega)) _) hb12
      clear hb12 U_11 V_11 P_11 A_11 I_11 B11 U_11c0 U_11c1 U_11c2 U_11c3 U_11l U_11n V_11c0 V_11c1 V_11c2 V_11c3 V_11l V_11n P_11c0 P_11c1 P_11c2 P_11c3 P_11l P_11n A_11c0 A_11c1 A_11c2 A_11c3 A_11l A_11n I_11c0 I_11c1 I_11c2 I_11c3 I_11l I_11n
      have U_12c0 := U_12.c0
      have U_12c1 := U_12.c1
      have U_12c2 := U_12.c2
      have U_12c3 := U_12.c3
      have U_12l : w1.heap.size < w12.heap.size := U_12.1
      have U_12n : ¬ w1.heap.size = w12.heap.size := by omega
      have V_12c0 := V_12.c0
      have V_12c1 := V_12.c1
      have V_12c2 := V_12.c2
      have V_12c3 := V_12.c3
      have V_12l : w1.heap.size + 1 < w12.heap.size := V_12.1
      have V_12n : ¬ w1.heap.size + 1 = w12.heap.size := by omega
      have P_12c0 := P_12.c0
      have P_12c1 := P_12.c1
      have P_12c2 := P_12.c2
      have P_12c3 := P_12.c3
      have P_12l : w2.heap.size < w12.heap.size := P_12.1
      have P_12n : ¬ w2.heap.size = w12.heap.size := by omega
      have A_12c0 := A_12.c0
      have A_12c1 := A_12.c1
      have A_12c2 := A_12.c2
      have A_12c3 := A_12.c3
      have A_12l : w4.heap.size < w12.heap.size := A_12.1
      have A_12n : ¬ w4.heap.size = w12.heap.size := by omega
      have I_12c0 := I_12.c0
      have I_12c1 := I_12.c1
      have I_12c2 := I_12.c2
      have I_12c3 := I_12.c3
      have I_12l : w5.heap.size < w12.heap.size := I_12.1
      have I_12n : ¬ w5.heap.size = w12.heap.size := by omega
      have N_12c0 := N_12.c0
      have N_12c1 := N_12.c1
      have N_12c2 := N_12.c2
      have N_12c3 := N_12.c3
      have N_12l : w11.heap.size < w12.heap.size := N_12.1
      have N_12n : ¬ w11.heap.size = w12.heap.size := by omega
      have T_12c0 := T_12.c0
      have T_12c1 := T_12.c1
      have T_12l : w11.heap.size + 1 < w12.heap.size := T_12.1
      have T_12n : ¬ w11.heap.size + 1 = w12.heap.size := by omega
      go_wp2_with fail
      refine (implApp_any _ _ _ _ _ _ _).mono ?_
      rintro e w13 ⟨he, hb13⟩
      unfold vecV at he
      subst he
      have U_13 : Kq (w1.heap.size) a b c d w13 := Kq.call (Kq.alloc U_12 _) hb13
      have V_13 : Kq (w1.heap.size + 1) a' b' c' d' w13 := Kq.call (Kq.alloc V_12 _) hb13
      have P_13 : Kq (w2.heap.size) (mulR a b c d a' b' c' d').1 (mulR a b c d a' b' c' d').2.1 (mulR a b c d a' b' c' d').2.2.1 (mulR a b c d a' b' c' d').2.2.2.1 w13 := Kq.call (Kq.alloc P_12 _) hb13
      have A_13 : Kq (w4.heap.size) e' f g h w13 := Kq.call (Kq.alloc A_12 _) hb13
      have I_13 : Kq (w5.heap.size) (invR e' f g h).1 (invR e' f g h).2.1 (invR e' f g h).2.2.1 (invR e' f g h).2.2.2.1 w13 := Kq.call (Kq.alloc I_12 _) hb13
      have N_13 : Kq (w11.heap.size) 1 0 0 1 w13 := Kq.call (Kq.alloc N_12 _) hb13
      have T_13 : Kg (w11.heap.size + 1) 3 (-2) w13 := Kg.call (Kg.alloc T_12 _) hb13
      have Y_13 : Kg (w12.heap.size) (appR a' b' c' d' 3 (-2)).1 (appR a' b' c' d' 3 (-2)).2.1 w13 := Kg.call (Kg.at2 (w12.heap.size) (by simp) : Kg (w12.heap.size) (appR a' b' c' d' 3 (-2)).1 (appR a' b' c' d' 3 (-2)).2.1 _) hb13
      have B13 : Below w.heap.size w w13 := bstep (Below.alloc (B12) (by have := B12.size; first | omega | (simp <;> omega)) _) hb13
      clear hb13 U_12 V_12 P_12 A_12 I_12 N_12 T_12 B12 U_12c0 U_12c1 U_12c2 U_12c3 U_12l U_12n V_12c0 V_12c1 V_12c2 V_12c3 V_12l V_12n P_12c0 P_12c1 P_12c2 P_12c3 P_12l P_12n A_12c0 A_12c1 A_12c2 A_12c3 A_12l A_12n I_12c0 I_12c1 I_12c2 I_12c3 I_12l I_12n N_12c0 N_12c1 N_12c2 N_12c3 N_12l N_12n T_12c0 T_12c1 T_12l T_12n
      have U_13c0 := U_13.c0
      have U_13c1 := U_13.c1
      have U_13c2 := U_13.c2
      have U_13c3 := U_13.c3
      have U_13l : w1.heap.size < w13.heap.size := U_13.1
      have U_13n : ¬ w1.heap.size = w13.heap.size := by omega
      have V_13c0 := V_13.c0
      have V_13c1 := V_13.c1
      have V_13c2 := V_13.c2
      have V_13c3 := V_13.c3
      have V_13l : w1.heap.size + 1 < w13.heap.size := V_13.1
      have V_13n : ¬ w1.heap.size + 1 = w13.heap.size := by omega
      have P_13c0 := P_13.c0
      have P_13c1 := P_13.c1
      have P_13c2 := P_13.c2
      have P_13c3 := P_13.c3
      have P_13l : w2.heap.size < w13.heap.size := P_13.1
      have P_13n : ¬ w2.heap.size = w13.heap.size := by omega
      have A_13c0 := A_13.c0
      have A_13c1 := A_13.c1
      have A_13c2 := A_13.c2
      have A_13c3 := A_13.c3
      have A_13l : w4.heap.size < w13.heap.size := A_13.1
      have A_13n : ¬ w4.heap.size = w13.heap.size := by omega
      have I_13c0 := I_13.c0
      have I_13c1 := I_13.c1
      have I_13c2 := I_13.c2
      have I_13c3 := I_13.c3
      have I_13l : w5.heap.size < w13.heap.size := I_13.1
      have I_13n : ¬ w5.heap.size = w13.heap.size := by omega
      have N_13c0 := N_13.c0
      have N_13c1 := N_13.c1
      have N_13c2 := N_13.c2
      have N_13c3 := N_13.c3
      have N_13l : w11.heap.size < w13.heap.size := N_13.1
      have N_13n : ¬ w11.heap.size = w13.heap.size := by omega
      have T_13c0 := T_13.c0
      have T_13c1 := T_13.c1
      have T_13l : w11.heap.size + 1 < w13.heap.size := T_13.1
      have T_13n : ¬ w11.heap.size + 1 = w13.heap.size := by omega
      have Y_13c0 := Y_13.c0
      have Y_13c1 := Y_13.c1
      have Y_13l : w12.heap.size < w13.heap.size := Y_13.1
      have Y_13n : ¬ w12.heap.size = w13.heap.size := by omega
      go_wp2_with fail
      refine (implApp_any _ _ _ _ _ _ _).mono ?_
      rintro e w14 ⟨he, hb14⟩
      unfold vecV at he
      subst he
      have U_14 : Kq (w1.heap.size) a b c d w14 := Kq.call (Kq.alloc U_13 _) hb14
      have V_14 : Kq (w1.heap.size + 1) a' b' c' d' w14 := Kq.call (Kq.alloc V_13 _) hb14
      have P_14 : Kq (w2.heap.size) (mulR a b c d a' b' c' d').1 (mulR a b c d a' b' c' d').2.1 (mulR a b c d a' b' c' d').2.2.1 (mulR a b c d a' b' c' d').2.2.2.1 w14 := Kq.call (Kq.alloc P_13 _) hb14
      have A_14 : Kq (w4.heap.size) e' f g h w14 := Kq.call (Kq.alloc A_13 _) hb14
      have I_14 : Kq (w5.heap.size) (invR e' f g h).1 (invR e' f g h).2.1 (invR e' f g h).2.2.1 (invR e' f g h).2.2.2.1 w14 := Kq.call (Kq.alloc I_13 _) hb14
      have N_14 : Kq (w11.heap.size) 1 0 0 1 w14 := Kq.call (Kq.alloc N_13 _) hb14
      have T_14 : Kg (w11.heap.size + 1) 3 (-2) w14 := Kg.call (Kg.alloc T_13 _) hb14
      have Y_14 : Kg (w12.heap.size) (appR a' b' c' d' 3 (-2)).1 (appR a' b' c' d' 3 (-2)).2.1 w14 := Kg.call (Kg.alloc Y_13 _) hb14
      have Z_14 : Kg (w13.heap.size) (appR a b c d (appR a' b' c' d' 3 (-2)).1 (appR a' b' c' d' 3 (-2)).2.1).1 (appR a b c d (appR a' b' c' d' 3 (-2)).1 (appR a' b' c' d' 3 (-2)).2.1).2.1 w14 := Kg.call (Kg.at2 (w13.heap.size) (by simp) : Kg (w13.heap.size) (appR a b c d (appR a' b' c' d' 3 (-2)).1 (appR a' b' c' d' 3 (-2)).2.1).1 (appR a b c d (appR a' b' c' d' 3 (-2)).1 (appR a' b' c' d' 3 (-2)).2.1).2.1 _) hb14
      have B14 : Below w.heap.size w w14 := bstep (Below.alloc (B13) (by have := B13.size; first | omega | (simp <;> omega)) _) hb14
      clear hb14 U_13 V_13 P_13 A_13 I_13 N_13 T_13 Y_13 B13 U_13c0 U_13c1 U_13c2 U_13c3 U_13l U_13n V_13c0 V_13c1 V_13c2 V_13c3 V_13l V_13n P_13c0 P_13c1 P_13c2 P_13c3 P_13l P_13n A_13c0 A_13c1 A_13c2 A_13c3 A_13l A_13n I_13c0 I_13c1 I_13c2 I_13c3 I_13l I_13n N_13c0 N_13c1 N_13c2 N_13c3 N_13l N_13n T_13c0 T_13c1 T_13l T_13n Y_13c0 Y_13c1 Y_13l Y_13n
      have U_14c0 := U_14.c0
      have U_14c1 := U_14.c1
      have U_14c2 := U_14.c2
      have U_14c3 := U_14.c3
      have U_14l : w1.heap.size < w14.heap.size := U_14.1
      have U_14n : ¬ w1.heap.size = w14.heap.size := by omega
      have V_14c0 := V_14.c0
      have V_14c1 := V_14.c1
      have V_14c2 := V_14.c2
      have V_14c3 := V_14.c3
      have V_14l : w1.heap.size + 1 < w14.heap.size := V_14.1
      have V_14n : ¬ w1.heap.size + 1 = w14.heap.size := by omega
      have P_14c0 := P_14.c0
      have P_14c1 := P_14.c1
      have P_14c2 := P_14.c2
      have P_14c3 := P_14.c3
      have P_14l : w2.heap.size < w14.heap.size := P_14.1
      have P_14n : ¬ w2.heap.size = w14.heap.size := by omega
      have A_14c0 := A_14.c0
      have A_14c1 := A_14.c1
      have A_14c2 := A_14.c2
      have A_14c3 := A_14.c3
      have A_14l : w4.heap.size < w14.heap.size := A_14.1
      have A_14n : ¬ w4.heap.size = w14.heap.size := by omega
      have I_14c0 := I_14.c0
      have I_14c1 := I_14.c1
      have I_14c2 := I_14.c2
      have I_14c3 := I_14.c3
      have I_14l : w5.heap.size < w14.heap.size := I_14.1
      have I_14n : ¬ w5.heap.size = w14.heap.size := by omega
      have N_14c0 := N_14.c0
      have N_14c1 := N_14.c1
      have N_14c2 := N_14.c2
      have N_14c3 := N_14.c3
      have N_14l : w11.heap.size < w14.heap.size := N_14.1
      have N_14n : ¬ w11.heap.size = w14.heap.size := by omega
      have T_14c0 := T_14.c0
      have T_14c1 := T_14.c1
      have T_14l : w11.heap.size + 1 < w14.heap.size := T_14.1
      have T_14n : ¬ w11.heap.size + 1 = w14.heap.size := by omega
      have Y_14c0 := Y_14.c0
      have Y_14c1 := Y_14.c1
      have Y_14l : w12.heap.size < w14.heap.size := Y_14.1
      have Y_14n : ¬ w12.heap.size = w14.heap.size := by omega
      have Z_14c0 := Z_14.c0
      have Z_14c1 := Z_14.c1
      have Z_14l : w13.heap.size < w14.heap.size := Z_14.1
      have Z_14n : ¬ w13.heap.size = w14.heap.size := by omega
      by_cases h6 : (appR a' b' c' d' 3 (-2)).2.2 = 0
      · have h6b : ((appR a' b' c' d' 3 (-2)).2.2 != 0) = false := by simp [h6]
        have H6 := Lib.hid h6
        clear h6
        by_cases h7 : (appR a b c d (appR a' b' c' d' 3 (-2)).1 (appR a' b' c' d' 3 (-2)).2.1).2.2 = 0
        · have h7b : ((appR a b c d (appR a' b' c' d' 3 (-2)).1 (appR a' b' c' d' 3 (-2)).2.1).2.2 != 0) = false := by simp [h7]
          have H7 := Lib.hid h7
          clear h7
          by_cases h8 : (appR (mulR a b c d a' b' c' d').1 (mulR a b c d a' b' c' d').2.1 (mulR a b c d a' b' c' d').2.2.1 (mulR a b c d a' b' c' d').2.2.2.1 3 (-2)).2.2 = 0
          · have h8b : ((appR (mulR a b c d a' b' c' d').1 (mulR a b c d a' b' c' d').2.1 (mulR a b c d a' b' c' d').2.2.1 (mulR a b c d a' b' c' d').2.2.2.1 3 (-2)).2.2 != 0) = false := by simp [h8]
            obtain ⟨q1, q2⟩ := app_comp H2.out H6.out H7.out h8
            clear h8
            go_wp2
            go_ret
            exact ⟨rfl, (Below.alloc B14 B14.size _)⟩
          · have h8b : ((appR (mulR a b c d a' b' c' d').1 (mulR a b c d a' b' c' d').2.1 (mulR a b c d a' b' c' d').2.2.1 (mulR a b c d a' b' c' d').2.2.2.1 3 (-2)).2.2 != 0) = true := by simp [h8]
            clear h8
            go_wp2
            go_ret
            exact ⟨rfl, (Below.alloc B14 B14.size _)⟩
        · have h7b : ((appR a b c d (appR a' b' c' d' 3 (-2)).1 (appR a' b' c' d' 3 (-2)).2.1).2.2 != 0) = true := by simp [h7]
          clear h7
          go_wp2
          go_ret
          exact ⟨rfl, (Below.alloc B14 B14.size _)⟩
      · have h6b : ((appR a' b' c' d' 3 (-2)).2.2 != 0) = true := by simp [h6]
        clear h6
        go_wp2
        go_ret
        exact ⟨rfl, (Below.alloc B14 B14.size _)⟩
    · have h2b : ((mulR a b c d a' b' c' d').2.2.2.2 != 0) = true := by simp [h2]
      clear h2
      go_wp2
      go_ret
      exact ⟨rfl, (Below.alloc B11 B11.size _)⟩
  · have h1b : ((invR e' f g h).2.2.2.2 == 0) = false := by simp [h1]
    clear h1
    by_cases h2 : (mulR a b c d a' b' c' d').2.2.2.2 = 0
    · have h2b : ((mulR a b c d a' b' c' d').2.2.2.2 != 0) = false := by simp [h2]
      have H2 := Lib.hid h2
      clear h2
      go_wp2_with fail
      refine (implApp_any _ _ _ _ _ _ _).mono ?_
      rintro e w11 ⟨he, hb11⟩
      unfold vecV at he
      subst he
      have U_11 : Kq (w1.heap.size) a b c d w11 := Kq.call (Kq.alloc U_10 _) hb11
      have V_11 : Kq (w1.heap.size + 1) a' b' c' d' w11 := Kq.call (Kq.alloc V_10 _) hb11
      have P_11 : Kq (w2.heap.size) (mulR a b c d a' b' c' d').1 (mulR a b c d a' b' c' d').2.1 (mulR a b c d a' b' c' d').2.2.1 (mulR a b c d a' b' c' d').2.2.2.1 w11 := Kq.call (Kq.alloc P_10 _) hb11
      have A_11 : Kq (w4.heap.size) e' f g h w11 := Kq.call (Kq.alloc A_10 _) hb11
      have I_11 : Kq (w5.heap.size) (invR e' f g h).1 (invR e' f g h).2.1 (invR e' f g h).2.2.1 (invR e' f g h).2.2.2.1 w11 := Kq.call (Kq.alloc I_10 _) hb11
      have T_11 : Kg (w10.heap.size) 3 (-2) w11 := Kg.call (Kg.at2 (w10.heap.size) (by simp) : Kg (w10.heap.size) 3 (-2) _) hb11
      have B11 : Below w.heap.size w w11 := bstep (Below.alloc (B10) (by have := B10.size; first | omega | (simp <;> omega)) _) hb11
      clear hb11 U_10 V_10 P_10 A_10 I_10 B10 U_10c0 U_10c1 U_10c2 U_10c3 U_10l U_10n V_10c0 V_10c1 V_10c2 V_10c3 V_10l V_10n P_10c0 P_10c1 P_10c2 P_10c3 P_10l P_10n A_10c0 A_10c1 A_10c2 A_10c3 A_10l A_10n I_10c0 I_10c1 I_10c2 I_10c3 I_10l I_10n
      have U_11c0 := U_11.c0
      have U_11c1 := U_11.c1
      have U_11c2 := U_11.c2
      have U_11c3 := U_11.c3
      have U_11l : w1.heap.size < w11.heap.size := U_11.1
      have U_11n : ¬ w1.heap.size = w11.heap.size := by omega
      have V_11c0 := V_11.c0
      have V_11c1 := V_11.c1
      have V_11c2 := V_11.c2
      have V_11c3 := V_11.c3
      have V_11l : w1.heap.size + 1 < w11.heap.size := V_11.1
      have V_11n : ¬ w1.heap.size + 1 = w11.heap.size := by omega
      have P_11c0 := P_11.c0
      have P_11c1 := P_11.c1
      have P_11c2 := P_11.c2
      have P_11c3 := P_11.c3
      have P_11l : w2.heap.size < w11.heap.size := P_11.1
      have P_11n : ¬ w2.heap.size = w11.heap.size := by omega
      have A_11c0 := A_11.c0
      have A_11c1 := A_11.c1
      have A_11c2 := A_11.c2
      have A_11c3 := A_11.c3
      have A_11l : w4.heap.size < w11.heap.size := A_11.1
      have A_11n : ¬ w4.heap.size = w11.heap.size := by omega
      have I_11c0 := I_11.c0
      have I_11c1 := I_11.c1
      have I_11c2 := I_11.c2
      have I_11c3 := I_11.c3
      have I_11l : w5.heap.size < w11.heap.size := I_11.1
      have I_11n : ¬ w5.heap.size = w11.heap.size := by omega
      have T_11c0 := T_11.c0
      have T_11c1 := T_11.c1
      have T_11l : w10.heap.size < w11.heap.size := T_11.1
      have T_11n : ¬ w10.heap.size = w11.heap.size := by omega
      go_wp2_with fail
      refine (implApp_any _ _ _ _ _ _ _).mono ?_
      rintro e w12 ⟨he, hb12⟩
      unfold vecV at he
      subst he
      have U_12 : Kq (w1.heap.size) a b c d w12 := Kq.call (Kq.alloc U_11 _) hb12
      have V_12 : Kq (w1.heap.size + 1) a' b' c' d' w12 := Kq.call (Kq.alloc V_11 _) hb12
      have P_12 : Kq (w2.heap.size) (mulR a b c d a' b' c' d').1 (mulR a b c d a' b' c' d').2.1 (mulR a b c d a' b' c' d').2.2.1 (mulR a b c d a' b' c' d').2.2.2.1 w12 := Kq.call (Kq.alloc P_11 _) hb12
      have A_12 : Kq (w4.heap.size) e' f g h w12 := Kq.call (Kq.alloc A_11 _) hb12
      have I_12 : Kq (w5.heap.size) (invR e' f g h).1 (invR e' f g h).2.1 (invR e' f g h).2.2.1 (invR e' f g h).2.2.2.1 w12 := Kq.call (Kq.alloc I_11 _) hb12
      have T_12 : Kg (w10.heap.size) 3 (-2) w12 := Kg.call (Kg.alloc T_11 _) hb12
      have Y_12 : Kg (w11.heap.size) (appR a' b' c' d' 3 (-2)).1 (appR a' b' c' d' 3 (-2)).2.1 w12 := Kg.call (Kg.at2 (w11.heap.size) (by simp) : Kg (w11.heap.size) (appR a' b' c' d' 3 (-2)).1 (appR a' b' c' d' 3 (-2)).2.1 _) hb12
      have B12 : Below w.heap.size w w12 := bstep (Below.alloc (B11) (by have := B11.size; first | omega | (simp <;> omega)) _) hb12
      clear hb12 U_11 V_11 P_11 A_11 I_11 T_11 B11 U_11c0 U_11c1 U_11c2 U_11c3 U_11l U_11n V_11c0 V_11c1 V_11c2 V_11c3 V_11l V_11n P_11c0 P_11c1 P_11c2 P_11c3 P_11l P_11n A_11c0 A_11c1 A_11c2 A_11c3 A_11l A_11n I_11c0 I_11c1 I_11c2 I_11c3 I_11l I_11n T_11c0 T_11c1 T_11l T_11n
      have U_12c0 := U_12.c0
      have U_12c1 := U_12.c1
      have U_12c2 := U_12.c2
      have U_12c3 := U_12.c3
      have U_12l : w1.heap.size < w12.heap.size := U_12.1
      have U_12n : ¬ w1.heap.size = w12.heap.size := by omega
      have V_12c0 := V_12.c0
      have V_12c1 := V_12.c1
      have V_12c2 := V_12.c2
      have V_12c3 := V_12.c3
      have V_12l : w1.heap.size + 1 < w12.heap.size := V_12.1
      have V_12n : ¬ w1.heap.size + 1 = w12.heap.size := by omega
      have P_12c0 := P_12.c0
      have P_12c1 := P_12.c1
      have P_12c2 := P_12.c2
      have P_12c3 := P_12.c3
      have P_12l : w2.heap.size < w12.heap.size := P_12.1
      have P_12n : ¬ w2.heap.size = w12.heap.size := by omega
      have A_12c0 := A_12.c0
      have A_12c1 := A_12.c1
      have A_12c2 := A_12.c2
      have A_12c3 := A_12.c3
      have A_12l : w4.heap.size < w12.heap.size := A_12.1
      have A_12n : ¬ w4.heap.size = w12.heap.size := by omega
      have I_12c0 := I_12.c0
      have I_12c1 := I_12.c1
      have I_12c2 := I_12.c2
      have I_12c3 := I_12.c3
      have I_12l : w5.heap.size < w12.heap.size := I_12.1
      have I_12n : ¬ w5.heap.size = w12.heap.size := by omega
      have T_12c0 := T_12.c0
      have T_12c1 := T_12.c1
      have T_12l : w10.heap.size < w12.heap.size := T_12.1
      have T_12n : ¬ w10.heap.size = w12.heap.size := by omega
      have Y_12c0 := Y_12.c0
      have Y_12c1 := Y_12.c1
      have Y_12l : w11.heap.size < w12.heap.size := Y_12.1
      have Y_12n : ¬ w11.heap.size = w12.heap.size := by omega
      go_wp2_with fail
      refine (implApp_any _ _ _ _ _ _ _).mono ?_
      rintro e w13 ⟨he, hb13⟩
      unfold vecV at he
      subst he
      have U_13 : Kq (w1.heap.size) a b c d w13 := Kq.call (Kq.alloc U_12 _) hb13
      have V_13 : Kq (w1.heap.size + 1) a' b' c' d' w13 := Kq.call (Kq.alloc V_12 _) hb13
      have P_13 : Kq (w2.heap.size) (mulR a b c d a' b' c' d').1 (mulR a b c d a' b' c' d').2.1 (mulR a b c d a' b' c' d').2.2.1 (mulR a b c d a' b' c' d').2.2.2.1 w13 := Kq.call (Kq.alloc P_12 _) hb13
      have A_13 : Kq (w4.heap.size) e' f g h w13 := Kq.call (Kq.alloc A_12 _) hb13
      have I_13 : Kq (w5.heap.size) (invR e' f g h).1 (invR e' f g h).2.1 (invR e' f g h).2.2.1 (invR e' f g h).2.2.2.1 w13 := Kq.call (Kq.alloc I_12 _) hb13
      have T_13 : Kg (w10.heap.size) 3 (-2) w13 := Kg.call (Kg.alloc T_12 _) hb13
      have Y_13 : Kg (w11.heap.size) (appR a' b' c' d' 3 (-2)).1 (appR a' b' c' d' 3 (-2)).2.1 w13 := Kg.call (Kg.alloc Y_12 _) hb13
      have Z_13 : Kg (w12.heap.size) (appR a b c d (appR a' b' c' d' 3 (-2)).1 (appR a' b' c' d' 3 (-2)).2.1).1 (appR a b c d (appR a' b' c' d' 3 (-2)).1 (appR a' b' c' d' 3 (-2)).2.1).2.1 w13 := Kg.call (Kg.at2 (w12.heap.size) (by simp) : Kg (w12.heap.size) (appR a b c d (appR a' b' c' d' 3 (-2)).1 (appR a' b' c' d' 3 (-2)).2.1).1 (appR a b c d (appR a' b' c' d' 3 (-2)).1 (appR a' b' c' d' 3 (-2)).2.1).2.1 _) hb13
      have B13 : Below w.heap.size w w13 := bstep (Below.alloc (B12) (by have := B12.size; first | omega | (simp <;> omega)) _) hb13
      clear hb13 U_12 V_12 P_12 A_12 I_12 T_12 Y_12 B12 U_12c0 U_12c1 U_12c2 U_12c3 U_12l U_12n V_12c0 V_12c1 V_12c2 V_12c3 V_12l V_12n P_12c0 P_12c1 P_12c2 P_12c3 P_12l P_12n A_12c0 A_12c1 A_12c2 A_12c3 A_12l A_12n I_12c0 I_12c1 I_12c2 I_12c3 I_12l I_12n T_12c0 T_12c1 T_12l T_12n Y_12c0 Y_12c1 Y_12l Y_12n
      have U_13c0 := U_13.c0
      have U_13c1 := U_13.c1
      have U_13c2 := U_13.c2
      have U_13c3 := U_13.c3
      have U_13l : w1.heap.size < w13.heap.size := U_13.1
      have U_13n : ¬ w1.heap.size = w13.heap.size := by omega
      have V_13c0 := V_13.c0
      have V_13c1 := V_13.c1
      have V_13c2 := V_13.c2
      have V_13c3 := V_13.c3
      have V_13l : w1.heap.size + 1 < w13.heap.size := V_13.1
      have V_13n : ¬ w1.heap.size + 1 = w13.heap.size := by omega
      have P_13c0 := P_13.c0
      have P_13c1 := P_13.c1
      have P_13c2 := P_13.c2
      have P_13c3 := P_13.c3
      have P_13l : w2.heap.size < w13.heap.size := P_13.1
      have P_13n : ¬ w2.heap.size = w13.heap.size := by omega
      have A_13c0 := A_13.c0
      have A_13c1 := A_13.c1
      have A_13c2 := A_13.c2
      have A_13c3 := A_13.c3
      have A_13l : w4.heap.size < w13.heap.size := A_13.1
      have A_13n : ¬ w4.heap.size = w13.heap.size := by omega
      have I_13c0 := I_13.c0
      have I_13c1 := I_13.c1
      have I_13c2 := I_13.c2
      have I_13c3 := I_13.c3
      have I_13l : w5.heap.size < w13.heap.size := I_13.1
      have I_13n : ¬ w5.heap.size = w13.heap.size := by omega
      have T_13c0 := T_13.c0
      have T_13c1 := T_13.c1
      have T_13l : w10.heap.size < w13.heap.size := T_13.1
      have T_13n : ¬ w10.heap.size = w13.heap.size := by omega
      have Y_13c0 := Y_13.c0
      have Y_13c1 := Y_13.c1
      have Y_13l : w11.heap.size < w13.heap.size := Y_13.1
      have Y_13n : ¬ w11.heap.size = w13.heap.size := by omega
      have Z_13c0 := Z_13.c0
      have Z_13c1 := Z_13.c1
      have Z_13l : w12.heap.size < w13.heap.size := Z_13.1
      have Z_13n : ¬ w12.heap.size = w13.heap.size := by omega
      by_cases h6 : (appR a' b' c' d' 3 (-2)).2.2 = 0
      · have h6b : ((appR a' b' c' d' 3 (-2)).2.2 != 0) = false := by simp [h6]
        have H6 := Lib.hid h6
        clear h6
        by_cases h7 : (appR a b c d (appR a' b' c' d' 3 (-2)).1 (appR a' b' c' d' 3 (-2)).2.1).2.2 = 0
        · have h7b : ((appR a b c d (appR a' b' c' d' 3 (-2)).1 (appR a' b' c' d' 3 (-2)).2.1).2.2 != 0) = false := by simp [h7]
          have H7 := Lib.hid h7
          clear h7
          by_cases h8 : (appR (mulR a b c d a' b' c' d').1 (mulR a b c d a' b' c' d').2.1 (mulR a b c d a' b' c' d').2.2.1 (mulR a b c d a' b' c' d').2.2.2.1 3 (-2)).2.2 = 0
          · have h8b : ((appR (mulR a b c d a' b' c' d').1 (mulR a b c d a' b' c' d').2.1 (mulR a b c d a' b' c' d').2.2.1 (mulR a b c d a' b' c' d').2.2.2.1 3 (-2)).2.2 != 0) = false := by simp [h8]
            obtain ⟨q1, q2⟩ := app_comp H2.out H6.out H7.out h8
            clear h8
            go_wp2
            go_ret
            exact ⟨rfl, (Below.alloc B13 B13.size _)⟩
          · have h8b : ((appR (mulR a b c d a' b' c' d').1 (mulR a b c d a' b' c' d').2.1 (mulR a b c d a' b' c' d').2.2.1 (mulR a b c d a' b' c' d').2.2.2.1 3 (-2)).2.2 != 0) = true := by simp [h8]
            clear h8
            go_wp2
            go_ret
            exact ⟨rfl, (Below.alloc B13 B13.size _)⟩
        · have h7b : ((appR a b c d (appR a' b' c' d' 3 (-2)).1 (appR a' b' c' d' 3 (-2)).2.1).2.2 != 0) = true := by simp [h7]
          clear h7
          go_wp2
          go_ret
          exact ⟨rfl, (Below.alloc B13 B13.size _)⟩
      · have h6b : ((appR a' b' c' d' 3 (-2)).2.2 != 0) = true := by simp [h6]
        clear h6
        go_wp2
        go_ret
        exact ⟨rfl, (Below.alloc B13 B13.size _)⟩
    · have h2b : ((mulR a b c d a' b' c' d').2.2.2.2 != 0) = true := by simp [h2]
      clear h2
      go_wp2
      go_ret
      exact ⟨rfl, B10⟩
end Go.Proofs.Ytcphadkgmchnfaa
