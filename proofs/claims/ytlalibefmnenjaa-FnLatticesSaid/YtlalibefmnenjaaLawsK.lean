/-
  The walk of the law FnLattices: it returns true at every code and writes nothing that was there. Condition: the code's bytes can be read.
-/
import Derived.Test.YtlalibefmnenjaaDrawL2
import Derived.Test.YtlalibefmnenjaaLat3
import Derived.Test.YtlalibefmnenjaaLat4
import Derived.Test.YtlalibefmnenjaaOps
import Derived.Deep.RegionHeld3
import Derived.ProofKit
import Derived.OpenShut
namespace Go.Proofs.Ytlalibefmnenjaa
open Go.RowKit Go.ChangeShapes Go.WideShapes Go.ChangeAt
set_option linter.unusedSimpArgs false
set_option linter.unusedVariables false

def IsRow (k : IntKind) (w : World) (a : Option Addr) (len cap : Nat) (zs : List Int) : Prop :=
  (a = none ∧ len = 0 ∧ cap = 0 ∧ zs = []) ∨
  ∃ x, a = some x ∧ len ≤ cap ∧ cap ≤ maxLen ∧ zs.length = cap ∧ (∀ i, i < zs.length → w.cell? (x.add i) = some (.int k (zs.getD i 0))) ∧ ∀ n ∈ zs, (Lit.int k n).wf = true

theorem rowBts {w : World} {a0 : Option Addr} {len cap : Nat} {zs : List Int} (h : IsRow .u8 w a0 len cap zs) : Bts a0 len w.heap.size w := by
  rcases h with ⟨_, h, _, _⟩ | ⟨x, rfl, h1, h2, h3, h4, h5⟩
  · exact .inl h
  · by_cases h0 : len = 0
    · exact .inl h0
    · obtain ⟨b, off, rfl, hc⟩ := ints_at h4 (by omega)
      refine .inr ⟨b, off, rfl, World.block_lt_of_cell? _ _ (hc 0 (by omega)), fun i hi => ?_⟩
      have hb := bounds_u8 (h5 (zs.getD i 0) (by
        rw [List.getD_eq_getElem?_getD, List.getElem?_eq_getElem (by omega)]
        exact List.getElem_mem _))
      exact ⟨_, hb.1, hb.2, hc i (by omega)⟩

theorem of_ok {p q r s : Int} (h : (ofR p q r s).2.2.2 = 0) :
    detR p q r s = (p * s - q * r, 0) ∧ (0 ≤ (ofR p q r s).1 * (ofR p q r s).2.2.1 ∧ (ofR p q r s).1 * (ofR p q r s).2.2.1 ≤ 64) ∧
    ((p * s - q * r).natAbs : Int) = (ofR p q r s).1 * (ofR p q r s).2.2.1 ∧
    inR (ofR p q r s).1 (ofR p q r s).2.1 (ofR p q r s).2.2.1 p q = (true, 0) ∧ inR (ofR p q r s).1 (ofR p q r s).2.1 (ofR p q r s).2.2.1 r s = (true, 0) := by
  unfold ofR at *
  unfold detR
  cases hv : vecB p q && vecB r s
  · simp [hv] at h
  simp only [hv, cond_true] at h ⊢
  cases hd : (p * s - q * r == 0)
  case true => simp [hd] at h
  simp only [hd, cond_false] at h ⊢
  have hd0 : p * s - q * r ≠ 0 := by simpa using hd
  obtain ⟨f0, f1, f2, f3⟩ := two_facts p q r s hd0
  rw [Bool.and_eq_true] at hv
  generalize latL [(p, q), (r, s)] = t at *
  unfold limR at *
  cases hl : latB t.1 t.2.1 t.2.2
  · simp [hl] at h
  simp only [hl, cond_true]
  have hi := latB_iff.1 hl
  have h5 := hi.2.2.2.2
  refine ⟨by first | rfl | trivial, ⟨by rw [f1]; omega, h5⟩, f1.symm, ?_, ?_⟩
  · rw [inR, show lvB t.1 t.2.1 t.2.2 p q = true by simp [lvB, hl, hv.1], (hasB_iff _ _ _ _ _).2 f2]; rfl
  · rw [inR, show lvB t.1 t.2.1 t.2.2 r s = true by simp [lvB, hl, hv.2], (hasB_iff _ _ _ _ _).2 f3]; rfl
theorem add_err {x y z u : Int} (h1 : vecB x y = true) (h2 : vecB z u = true) : (addR x y z u).2.2 = 0 ∨ (addR x y z u).2.2 = 3 := by
  unfold addR
  rw [h1, h2]
  cases vecB (x + z) (y + u) <;> simp
theorem add_in {a b c x y : Int} (hi : latI a b c) (hv : vecB x y = true) (h : (addR x y (-redX a b c x y) (-redY c y)).2.2 = 0) :
    inR a b c (addR x y (-redX a b c x y) (-redY c y)).1 (addR x y (-redX a b c x y) (-redY c y)).2.1 = (true, 0) := by
  have hb := latI_bd hi
  have hx := redX_bd (x := x) (y := y) hi
  have hy := redY_bd (y := y) hi
  have hr := red_has (x := x) (y := y) hi
  have e1 : vecB (-redX a b c x y) (-redY c y) = true := by simp [vecB]; omega
  have e2 : addR x y (-redX a b c x y) (-redY c y) = bif vecB (x + -redX a b c x y) (y + -redY c y) then (x + -redX a b c x y, y + -redY c y, 0) else (0, 0, 3) := by
    unfold addR; rw [hv, e1]; rfl
  rw [e2] at h ⊢
  cases h2 : vecB (x + -redX a b c x y) (y + -redY c y)
  · simp [h2] at h
  simp only [cond_true]
  rw [inR, show lvB a b c (x + -redX a b c x y) (y + -redY c y) = true by simp [lvB, latB_iff.2 hi, h2]]
  rw [show x + -redX a b c x y = x - redX a b c x y by omega, show y + -redY c y = y - redY c y by omega, hr]
  rfl
structure RedOK (a b c x y X Y : Int) : Prop where
  sc : scaleR X Y (-1) = (-X, -Y, 0)
  x0 : 0 ≤ X
  x1 : X < a
  y0 : 0 ≤ Y
  y1 : Y < c
  err : (addR x y (-X) (-Y)).2.2 = 0 ∨ (addR x y (-X) (-Y)).2.2 = 3
  mem : (addR x y (-X) (-Y)).2.2 = 0 → inR a b c (addR x y (-X) (-Y)).1 (addR x y (-X) (-Y)).2.1 = (true, 0)
theorem red_ok {a b c x y : Int} (h : (redR a b c x y).2.2 = 0) : RedOK a b c x y (redR a b c x y).1 (redR a b c x y).2.1 := by
  unfold redR at *
  cases hv : lvB a b c x y
  · simp [hv] at h
  simp only [cond_true]
  have hv2 := hv
  simp only [lvB, Bool.and_eq_true] at hv2
  have hi := latB_iff.1 hv2.1
  have hb := latI_bd hi
  have hx := redX_bd (x := x) (y := y) hi
  have hy := redY_bd (y := y) hi
  have hm := add_in (x := x) (y := y) hi hv2.2
  generalize redX a b c x y = X at *
  generalize redY c y = Y at *
  have e1 : vecB X Y = true := by simp [vecB]; omega
  have e2 : inB (-1) (-1000) 1000 = true := by simp [inB]
  have e3 : vecB (X * -1) (Y * -1) = true := by simp [vecB]; omega
  have e4 : vecB (-X) (-Y) = true := by simp [vecB]; omega
  refine ⟨?_, hx.1, hx.2, hy.1, hy.2, add_err hv2.2 e4, hm⟩
  rw [scaleR, e1, e2, e3]
  simp

set_option maxRecDepth 100000 in
set_option maxHeartbeats 16000000 in
theorem walkLattices (a0 : Option Addr) (len cap : Nat) (zs : List Int) (w : World) (w0 : IsRow .u8 w a0 len cap zs) :
    Calls Try.prog 3 #[.slice a0 len cap] w fun e w' => e = .returned (.bool true) ∧ Below w.heap.size w w' := by
  by_cases hbig : 4096 < len
  · have hb1 : (4096 : Int) < (len : Int) := by omega
    have hb2 : len ≤ 9223372036854775807 := by
      rcases w0 with ⟨_, h, _, _⟩ | ⟨x, rfl, h1, h2, h3, h4, h5⟩
      · omega
      · unfold maxLen at h2; omega
    go_enter Try.func3, Try.ntmps3
    go_wp2
    go_ret
    exact ⟨rfl, Below.refl _ _⟩
  have hB := rowBts w0
  have hl : len ≤ 4096 := by omega
  clear w0
  go_enter Try.func3, Try.ntmps3
  go_wp2_with (go_at_call 13; go_in)
  refine (drawRed_any a0 len cap _ (by omega) (hB.grow (Below.refl _ _) (by first | omega | (simp <;> omega)))).mono ?_
  rintro e w1 ⟨a, b, c, x, y, rfl, hb1⟩
  have B1 : Below w.heap.size w w1 := bstep (Below.refl _ _) hb1
  clear hb1
  go_wp2_with fail
  refine (implRed_any _ _ _ _ _ _).mono ?_
  rintro e w2 ⟨he, hb2⟩
  unfold redT at he
  subst he
  have U_2 : Kt (w1.heap.size) a b c w2 := Kt.call (Kt.alloc (Kt.at (w1.heap.size) (by simp) : Kt (w1.heap.size) a b c _) _) hb2
  have V_2 : Kg (w1.heap.size + 1) x y w2 := Kg.call (Kg.at3 (w1.heap.size + 1) (by simp) : Kg (w1.heap.size + 1) x y _) hb2
  have B2 : Below w.heap.size w w2 := bstep (Below.alloc (Below.alloc (B1) (by have := B1.size; first | omega | (simp <;> omega)) _) (by have := B1.size; first | omega | (simp <;> omega)) _) hb2
  clear hb2 B1
  have U_2c0 := U_2.c0
  have U_2c1 := U_2.c1
  have U_2c2 := U_2.c2
  have U_2l : w1.heap.size < w2.heap.size := U_2.1
  have U_2n : ¬ w1.heap.size = w2.heap.size := by omega
  have V_2c0 := V_2.c0
  have V_2c1 := V_2.c1
  have V_2l : w1.heap.size + 1 < w2.heap.size := V_2.1
  have V_2n : ¬ w1.heap.size + 1 = w2.heap.size := by omega
  go_wp2_with fail
  refine (specRed_any _ _ _ _ _ _).mono ?_
  rintro e w3 ⟨he, hb3⟩
  unfold redT at he
  subst he
  have U_3 : Kt (w1.heap.size) a b c w3 := Kt.call (Kt.alloc U_2 _) hb3
  have V_3 : Kg (w1.heap.size + 1) x y w3 := Kg.call (Kg.alloc V_2 _) hb3
  have P_3 : Kg (w2.heap.size) (redR a b c x y).1 (redR a b c x y).2.1 w3 := Kg.call (Kg.at3 (w2.heap.size) (by simp) : Kg (w2.heap.size) (redR a b c x y).1 (redR a b c x y).2.1 _) hb3
  have B3 : Below w.heap.size w w3 := bstep (Below.alloc (B2) (by have := B2.size; first | omega | (simp <;> omega)) _) hb3
  clear hb3 U_2 V_2 B2 U_2c0 U_2c1 U_2c2 U_2l U_2n V_2c0 V_2c1 V_2l V_2n
  have U_3c0 := U_3.c0
  have U_3c1 := U_3.c1
  have U_3c2 := U_3.c2
  have U_3l : w1.heap.size < w3.heap.size := U_3.1
  have U_3n : ¬ w1.heap.size = w3.heap.size := by omega
  have V_3c0 := V_3.c0
  have V_3c1 := V_3.c1
  have V_3l : w1.heap.size + 1 < w3.heap.size := V_3.1
  have V_3n : ¬ w1.heap.size + 1 = w3.heap.size := by omega
  have P_3c0 := P_3.c0
  have P_3c1 := P_3.c1
  have P_3l : w2.heap.size < w3.heap.size := P_3.1
  have P_3n : ¬ w2.heap.size = w3.heap.size := by omega
  go_wp2_with fail
  refine (drawIn_any a0 len cap _ (by omega) (hB.grow (Below.alloc (B3) (by have := B3.size; first | omega | (simp <;> omega)) _) (by have := B3.size; first | omega | (simp <;> omega)))).mono ?_
  rintro e w4 ⟨a', b', c', x', y', rfl, hb4⟩
  have U_4 : Kt (w1.heap.size) a b c w4 := Kt.call (Kt.alloc U_3 _) hb4
  have V_4 : Kg (w1.heap.size + 1) x y w4 := Kg.call (Kg.alloc V_3 _) hb4
  have P_4 : Kg (w2.heap.size) (redR a b c x y).1 (redR a b c x y).2.1 w4 := Kg.call (Kg.alloc P_3 _) hb4
  have Q_4 : Kg (w3.heap.size) (redR a b c x y).1 (redR a b c x y).2.1 w4 := Kg.call (Kg.at3 (w3.heap.size) (by simp) : Kg (w3.heap.size) (redR a b c x y).1 (redR a b c x y).2.1 _) hb4
  have B4 : Below w.heap.size w w4 := bstep (Below.alloc (B3) (by have := B3.size; first | omega | (simp <;> omega)) _) hb4
  clear hb4 U_3 V_3 P_3 B3 U_3c0 U_3c1 U_3c2 U_3l U_3n V_3c0 V_3c1 V_3l V_3n P_3c0 P_3c1 P_3l P_3n
  have U_4c0 := U_4.c0
  have U_4c1 := U_4.c1
  have U_4c2 := U_4.c2
  have U_4l : w1.heap.size < w4.heap.size := U_4.1
  have U_4n : ¬ w1.heap.size = w4.heap.size := by omega
  have V_4c0 := V_4.c0
  have V_4c1 := V_4.c1
  have V_4l : w1.heap.size + 1 < w4.heap.size := V_4.1
  have V_4n : ¬ w1.heap.size + 1 = w4.heap.size := by omega
  have P_4c0 := P_4.c0
  have P_4c1 := P_4.c1
  have P_4l : w2.heap.size < w4.heap.size := P_4.1
  have P_4n : ¬ w2.heap.size = w4.heap.size := by omega
  have Q_4c0 := Q_4.c0
  have Q_4c1 := Q_4.c1
  have Q_4l : w3.heap.size < w4.heap.size := Q_4.1
  have Q_4n : ¬ w3.heap.size = w4.heap.size := by omega
  go_wp2_with fail
  refine (implIn_any _ _ _ _ _ _).mono ?_
  rintro e w5 ⟨he, hb5⟩
  unfold inT at he
  subst he
  have U_5 : Kt (w1.heap.size) a b c w5 := Kt.call (Kt.alloc (Kt.alloc U_4 _) _) hb5
  have V_5 : Kg (w1.heap.size + 1) x y w5 := Kg.call (Kg.alloc (Kg.alloc V_4 _) _) hb5
  have P_5 : Kg (w2.heap.size) (redR a b c x y).1 (redR a b c x y).2.1 w5 := Kg.call (Kg.alloc (Kg.alloc P_4 _) _) hb5
  have Q_5 : Kg (w3.heap.size) (redR a b c x y).1 (redR a b c x y).2.1 w5 := Kg.call (Kg.alloc (Kg.alloc Q_4 _) _) hb5
  have M_5 : Kt (w4.heap.size) a' b' c' w5 := Kt.call (Kt.alloc (Kt.at (w4.heap.size) (by simp) : Kt (w4.heap.size) a' b' c' _) _) hb5
  have X_5 : Kg (w4.heap.size + 1) x' y' w5 := Kg.call (Kg.at3 (w4.heap.size + 1) (by simp) : Kg (w4.heap.size + 1) x' y' _) hb5
  have B5 : Below w.heap.size w w5 := bstep (Below.alloc (Below.alloc (B4) (by have := B4.size; first | omega | (simp <;> omega)) _) (by have := B4.size; first | omega | (simp <;> omega)) _) hb5
  clear hb5 U_4 V_4 P_4 Q_4 B4 U_4c0 U_4c1 U_4c2 U_4l U_4n V_4c0 V_4c1 V_4l V_4n P_4c0 P_4c1 P_4l P_4n Q_4c0 Q_4c1 Q_4l Q_4n
  have U_5c0 := U_5.c0
  have U_5c1 := U_5.c1
  have U_5c2 := U_5.c2
  have U_5l : w1.heap.size < w5.heap.size := U_5.1
  have U_5n : ¬ w1.heap.size = w5.heap.size := by omega
  have V_5c0 := V_5.c0
  have V_5c1 := V_5.c1
  have V_5l : w1.heap.size + 1 < w5.heap.size := V_5.1
  have V_5n : ¬ w1.heap.size + 1 = w5.heap.size := by omega
  have P_5c0 := P_5.c0
  have P_5c1 := P_5.c1
  have P_5l : w2.heap.size < w5.heap.size := P_5.1
  have P_5n : ¬ w2.heap.size = w5.heap.size := by omega
  have Q_5c0 := Q_5.c0
  have Q_5c1 := Q_5.c1
  have Q_5l : w3.heap.size < w5.heap.size := Q_5.1
  have Q_5n : ¬ w3.heap.size = w5.heap.size := by omega
  have M_5c0 := M_5.c0
  have M_5c1 := M_5.c1
  have M_5c2 := M_5.c2
  have M_5l : w4.heap.size < w5.heap.size := M_5.1
  have M_5n : ¬ w4.heap.size = w5.heap.size := by omega
  have X_5c0 := X_5.c0
  have X_5c1 := X_5.c1
  have X_5l : w4.heap.size + 1 < w5.heap.size := X_5.1
  have X_5n : ¬ w4.heap.size + 1 = w5.heap.size := by omega
  go_wp2_with fail
  refine (specIn_any _ _ _ _ _ _).mono ?_
  rintro e w6 ⟨he, hb6⟩
  unfold inT at he
  subst he
  have U_6 : Kt (w1.heap.size) a b c w6 := Kt.call U_5 hb6
  have V_6 : Kg (w1.heap.size + 1) x y w6 := Kg.call V_5 hb6
  have P_6 : Kg (w2.heap.size) (redR a b c x y).1 (redR a b c x y).2.1 w6 := Kg.call P_5 hb6
  have Q_6 : Kg (w3.heap.size) (redR a b c x y).1 (redR a b c x y).2.1 w6 := Kg.call Q_5 hb6
  have M_6 : Kt (w4.heap.size) a' b' c' w6 := Kt.call M_5 hb6
  have X_6 : Kg (w4.heap.size + 1) x' y' w6 := Kg.call X_5 hb6
  have B6 : Below w.heap.size w w6 := bstep (B5) hb6
  clear hb6 U_5 V_5 P_5 Q_5 M_5 X_5 B5 U_5c0 U_5c1 U_5c2 U_5l U_5n V_5c0 V_5c1 V_5l V_5n P_5c0 P_5c1 P_5l P_5n Q_5c0 Q_5c1 Q_5l Q_5n M_5c0 M_5c1 M_5c2 M_5l M_5n X_5c0 X_5c1 X_5l X_5n
  have U_6c0 := U_6.c0
  have U_6c1 := U_6.c1
  have U_6c2 := U_6.c2
  have U_6l : w1.heap.size < w6.heap.size := U_6.1
  have U_6n : ¬ w1.heap.size = w6.heap.size := by omega
  have V_6c0 := V_6.c0
  have V_6c1 := V_6.c1
  have V_6l : w1.heap.size + 1 < w6.heap.size := V_6.1
  have V_6n : ¬ w1.heap.size + 1 = w6.heap.size := by omega
  have P_6c0 := P_6.c0
  have P_6c1 := P_6.c1
  have P_6l : w2.heap.size < w6.heap.size := P_6.1
  have P_6n : ¬ w2.heap.size = w6.heap.size := by omega
  have Q_6c0 := Q_6.c0
  have Q_6c1 := Q_6.c1
  have Q_6l : w3.heap.size < w6.heap.size := Q_6.1
  have Q_6n : ¬ w3.heap.size = w6.heap.size := by omega
  have M_6c0 := M_6.c0
  have M_6c1 := M_6.c1
  have M_6c2 := M_6.c2
  have M_6l : w4.heap.size < w6.heap.size := M_6.1
  have M_6n : ¬ w4.heap.size = w6.heap.size := by omega
  have X_6c0 := X_6.c0
  have X_6c1 := X_6.c1
  have X_6l : w4.heap.size + 1 < w6.heap.size := X_6.1
  have X_6n : ¬ w4.heap.size + 1 = w6.heap.size := by omega
  clear M_6 M_6c0 M_6c1 M_6c2 M_6l M_6n
  clear X_6 X_6c0 X_6c1 X_6l X_6n
  go_wp2_with fail
  refine (drawLatOf_any a0 len cap _ (by omega) (hB.grow (B6) (by have := B6.size; first | omega | (simp <;> omega)))).mono ?_
  rintro e w7 ⟨p, q, r, s, rfl, hb7⟩
  have U_7 : Kt (w1.heap.size) a b c w7 := Kt.call U_6 hb7
  have V_7 : Kg (w1.heap.size + 1) x y w7 := Kg.call V_6 hb7
  have P_7 : Kg (w2.heap.size) (redR a b c x y).1 (redR a b c x y).2.1 w7 := Kg.call P_6 hb7
  have Q_7 : Kg (w3.heap.size) (redR a b c x y).1 (redR a b c x y).2.1 w7 := Kg.call Q_6 hb7
  have B7 : Below w.heap.size w w7 := bstep (B6) hb7
  clear hb7 U_6 V_6 P_6 Q_6 B6 U_6c0 U_6c1 U_6c2 U_6l U_6n V_6c0 V_6c1 V_6l V_6n P_6c0 P_6c1 P_6l P_6n Q_6c0 Q_6c1 Q_6l Q_6n
  have U_7c0 := U_7.c0
  have U_7c1 := U_7.c1
  have U_7c2 := U_7.c2
  have U_7l : w1.heap.size < w7.heap.size := U_7.1
  have U_7n : ¬ w1.heap.size = w7.heap.size := by omega
  have V_7c0 := V_7.c0
  have V_7c1 := V_7.c1
  have V_7l : w1.heap.size + 1 < w7.heap.size := V_7.1
  have V_7n : ¬ w1.heap.size + 1 = w7.heap.size := by omega
  have P_7c0 := P_7.c0
  have P_7c1 := P_7.c1
  have P_7l : w2.heap.size < w7.heap.size := P_7.1
  have P_7n : ¬ w2.heap.size = w7.heap.size := by omega
  have Q_7c0 := Q_7.c0
  have Q_7c1 := Q_7.c1
  have Q_7l : w3.heap.size < w7.heap.size := Q_7.1
  have Q_7n : ¬ w3.heap.size = w7.heap.size := by omega
  go_wp2_with fail
  refine (implOf_any _ _ _ _ _).mono ?_
  rintro e w8 ⟨he, hb8⟩
  unfold ofT latT at he
  subst he
  have U_8 : Kt (w1.heap.size) a b c w8 := Kt.call (Kt.alloc (Kt.alloc U_7 _) _) hb8
  have V_8 : Kg (w1.heap.size + 1) x y w8 := Kg.call (Kg.alloc (Kg.alloc V_7 _) _) hb8
  have P_8 : Kg (w2.heap.size) (redR a b c x y).1 (redR a b c x y).2.1 w8 := Kg.call (Kg.alloc (Kg.alloc P_7 _) _) hb8
  have Q_8 : Kg (w3.heap.size) (redR a b c x y).1 (redR a b c x y).2.1 w8 := Kg.call (Kg.alloc (Kg.alloc Q_7 _) _) hb8
  have S_8 : Kg (w7.heap.size) p q w8 := Kg.call (Kg.alloc (Kg.at3 (w7.heap.size) (by simp) : Kg (w7.heap.size) p q _) _) hb8
  have T_8 : Kg (w7.heap.size + 1) r s w8 := Kg.call (Kg.at3 (w7.heap.size + 1) (by simp) : Kg (w7.heap.size + 1) r s _) hb8
  have B8 : Below w.heap.size w w8 := bstep (Below.alloc (Below.alloc (B7) (by have := B7.size; first | omega | (simp <;> omega)) _) (by have := B7.size; first | omega | (simp <;> omega)) _) hb8
  clear hb8 U_7 V_7 P_7 Q_7 B7 U_7c0 U_7c1 U_7c2 U_7l U_7n V_7c0 V_7c1 V_7l V_7n P_7c0 P_7c1 P_7l P_7n Q_7c0 Q_7c1 Q_7l Q_7n
  have U_8c0 := U_8.c0
  have U_8c1 := U_8.c1
  have U_8c2 := U_8.c2
  have U_8l : w1.heap.size < w8.heap.size := U_8.1
  have U_8n : ¬ w1.heap.size = w8.heap.size := by omega
  have V_8c0 := V_8.c0
  have V_8c1 := V_8.c1
  have V_8l : w1.heap.size + 1 < w8.heap.size := V_8.1
  have V_8n : ¬ w1.heap.size + 1 = w8.heap.size := by omega
  have P_8c0 := P_8.c0
  have P_8c1 := P_8.c1
  have P_8l : w2.heap.size < w8.heap.size := P_8.1
  have P_8n : ¬ w2.heap.size = w8.heap.size := by omega
  have Q_8c0 := Q_8.c0
  have Q_8c1 := Q_8.c1
  have Q_8l : w3.heap.size < w8.heap.size := Q_8.1
  have Q_8n : ¬ w3.heap.size = w8.heap.size := by omega
  have S_8c0 := S_8.c0
  have S_8c1 := S_8.c1
  have S_8l : w7.heap.size < w8.heap.size := S_8.1
  have S_8n : ¬ w7.heap.size = w8.heap.size := by omega
  have T_8c0 := T_8.c0
  have T_8c1 := T_8.c1
  have T_8l : w7.heap.size + 1 < w8.heap.size := T_8.1
  have T_8n : ¬ w7.heap.size + 1 = w8.heap.size := by omega
  go_wp2_with fail
  refine (specOf_any _ _ _ _ _).mono ?_
  rintro e w9 ⟨he, hb9⟩
  unfold ofT latT at he
  subst he
  have U_9 : Kt (w1.heap.size) a b c w9 := Kt.call (Kt.alloc U_8 _) hb9
  have V_9 : Kg (w1.heap.size + 1) x y w9 := Kg.call (Kg.alloc V_8 _) hb9
  have P_9 : Kg (w2.heap.size) (redR a b c x y).1 (redR a b c x y).2.1 w9 := Kg.call (Kg.alloc P_8 _) hb9
  have Q_9 : Kg (w3.heap.size) (redR a b c x y).1 (redR a b c x y).2.1 w9 := Kg.call (Kg.alloc Q_8 _) hb9
  have S_9 : Kg (w7.heap.size) p q w9 := Kg.call (Kg.alloc S_8 _) hb9
  have T_9 : Kg (w7.heap.size + 1) r s w9 := Kg.call (Kg.alloc T_8 _) hb9
  have I_9 : Kt (w8.heap.size) (ofR p q r s).1 (ofR p q r s).2.1 (ofR p q r s).2.2.1 w9 := Kt.call (Kt.at (w8.heap.size) (by simp) : Kt (w8.heap.size) (ofR p q r s).1 (ofR p q r s).2.1 (ofR p q r s).2.2.1 _) hb9
  have B9 : Below w.heap.size w w9 := bstep (Below.alloc (B8) (by have := B8.size; first | omega | (simp <;> omega)) _) hb9
  clear hb9 U_8 V_8 P_8 Q_8 S_8 T_8 B8 U_8c0 U_8c1 U_8c2 U_8l U_8n V_8c0 V_8c1 V_8l V_8n P_8c0 P_8c1 P_8l P_8n Q_8c0 Q_8c1 Q_8l Q_8n S_8c0 S_8c1 S_8l S_8n T_8c0 T_8c1 T_8l T_8n
  have U_9c0 := U_9.c0
  have U_9c1 := U_9.c1
  have U_9c2 := U_9.c2
  have U_9l : w1.heap.size < w9.heap.size := U_9.1
  have U_9n : ¬ w1.heap.size = w9.heap.size := by omega
  have V_9c0 := V_9.c0
  have V_9c1 := V_9.c1
  have V_9l : w1.heap.size + 1 < w9.heap.size := V_9.1
  have V_9n : ¬ w1.heap.size + 1 = w9.heap.size := by omega
  have P_9c0 := P_9.c0
  have P_9c1 := P_9.c1
  have P_9l : w2.heap.size < w9.heap.size := P_9.1
  have P_9n : ¬ w2.heap.size = w9.heap.size := by omega
  have Q_9c0 := Q_9.c0
  have Q_9c1 := Q_9.c1
  have Q_9l : w3.heap.size < w9.heap.size := Q_9.1
  have Q_9n : ¬ w3.heap.size = w9.heap.size := by omega
  have S_9c0 := S_9.c0
  have S_9c1 := S_9.c1
  have S_9l : w7.heap.size < w9.heap.size := S_9.1
  have S_9n : ¬ w7.heap.size = w9.heap.size := by omega
  have T_9c0 := T_9.c0
  have T_9c1 := T_9.c1
  have T_9l : w7.heap.size + 1 < w9.heap.size := T_9.1
  have T_9n : ¬ w7.heap.size + 1 = w9.heap.size := by omega
  have I_9c0 := I_9.c0
  have I_9c1 := I_9.c1
  have I_9c2 := I_9.c2
  have I_9l : w8.heap.size < w9.heap.size := I_9.1
  have I_9n : ¬ w8.heap.size = w9.heap.size := by omega
  have J_9 : Kt (w9.heap.size) (ofR p q r s).1 (ofR p q r s).2.1 (ofR p q r s).2.2.1 (w9.alloc (.cells #[.int .i64 (ofR p q r s).1, .int .i64 (ofR p q r s).2.1, .int .i64 (ofR p q r s).2.2.1] 25)) := Kt.at _ rfl
  go_wp2_with fail
  go_region_held3 (fun W => (W.cell? ⟨w2.heap.size, 0, none⟩ = some (.int .i64 (redR a b c x y).1) ∧ W.cell? ⟨w2.heap.size, 1, none⟩ = some (.int .i64 (redR a b c x y).2.1)) ∧ (W.cell? ⟨w3.heap.size, 0, none⟩ = some (.int .i64 (redR a b c x y).1) ∧ W.cell? ⟨w3.heap.size, 1, none⟩ = some (.int .i64 (redR a b c x y).2.1)) ∧ (W.cell? ⟨w8.heap.size, 0, none⟩ = some (.int .i64 (ofR p q r s).1) ∧ W.cell? ⟨w8.heap.size, 1, none⟩ = some (.int .i64 (ofR p q r s).2.1) ∧ W.cell? ⟨w8.heap.size, 2, none⟩ = some (.int .i64 (ofR p q r s).2.2.1)) ∧ (W.cell? ⟨w9.heap.size, 0, none⟩ = some (.int .i64 (ofR p q r s).1) ∧ W.cell? ⟨w9.heap.size, 1, none⟩ = some (.int .i64 (ofR p q r s).2.1) ∧ W.cell? ⟨w9.heap.size, 2, none⟩ = some (.int .i64 (ofR p q r s).2.2.1)) ∧ (W.cell? ⟨w1.heap.size, 0, none⟩ = some (.int .i64 a) ∧ W.cell? ⟨w1.heap.size, 1, none⟩ = some (.int .i64 b) ∧ W.cell? ⟨w1.heap.size, 2, none⟩ = some (.int .i64 c))) ((refine ⟨Kg.cells ?_, Kg.cells ?_, Kt.cells ?_, Kt.cells ?_, Kt.cells ?_⟩ <;> repeat (first | assumption | with_reducible refine Kt.drew ?_ | with_reducible refine Kg.drew ?_ | with_reducible refine Kt.alloc ?_ _ | with_reducible refine Kg.alloc ?_ _ | with_reducible refine Kt.call ?_ (by assumption) | with_reducible refine Kg.call ?_ (by assumption))))
    (first
      | (go_at_call 23; refine (implIsLattice_any _ _ _ _).mono ?_; rintro e u1 ⟨rfl, hb1⟩)
      | (go_at_call 24; refine (specIsLattice_any _ _ _ _).mono ?_; rintro e w10 ⟨rfl, hb2⟩))
  have U_10 : Kt (w1.heap.size) a b c w10 := Kt.call (Kt.call (U_9.alloc _).drew hb1) hb2
  have V_10 : Kg (w1.heap.size + 1) x y w10 := Kg.call (Kg.call (V_9.alloc _).drew hb1) hb2
  have P_10 : Kg (w2.heap.size) (redR a b c x y).1 (redR a b c x y).2.1 w10 := Kg.call (Kg.call (P_9.alloc _).drew hb1) hb2
  have S_10 : Kg (w7.heap.size) p q w10 := Kg.call (Kg.call (S_9.alloc _).drew hb1) hb2
  have T_10 : Kg (w7.heap.size + 1) r s w10 := Kg.call (Kg.call (T_9.alloc _).drew hb1) hb2
  have I_10 : Kt (w8.heap.size) (ofR p q r s).1 (ofR p q r s).2.1 (ofR p q r s).2.2.1 w10 := Kt.call (Kt.call (I_9.alloc _).drew hb1) hb2
  have B10 : Below w.heap.size w w10 := bstep (bstep (Below.drew (Below.alloc B9 B9.size _)) hb1) hb2
  clear hb1 hb2 J_9 B9 U_9 V_9 P_9 Q_9 S_9 T_9 I_9 U_9c0 U_9c1 U_9c2 U_9l U_9n V_9c0 V_9c1 V_9l V_9n P_9c0 P_9c1 P_9l P_9n Q_9c0 Q_9c1 Q_9l Q_9n S_9c0 S_9c1 S_9l S_9n T_9c0 T_9c1 T_9l T_9n I_9c0 I_9c1 I_9c2 I_9l I_9n
  have U_10c0 := U_10.c0
  have U_10c1 := U_10.c1
  have U_10c2 := U_10.c2
  have U_10l : w1.heap.size < w10.heap.size := U_10.1
  have U_10n : ¬ w1.heap.size = w10.heap.size := by omega
  have V_10c0 := V_10.c0
  have V_10c1 := V_10.c1
  have V_10l : w1.heap.size + 1 < w10.heap.size := V_10.1
  have V_10n : ¬ w1.heap.size + 1 = w10.heap.size := by omega
  have P_10c0 := P_10.c0
  have P_10c1 := P_10.c1
  have P_10l : w2.heap.size < w10.heap.size := P_10.1
  have P_10n : ¬ w2.heap.size = w10.heap.size := by omega
  have S_10c0 := S_10.c0
  have S_10c1 := S_10.c1
  have S_10l : w7.heap.size < w10.heap.size := S_10.1
  have S_10n : ¬ w7.heap.size = w10.heap.size := by omega
  have T_10c0 := T_10.c0
  have T_10c1 := T_10.c1
  have T_10l : w7.heap.size + 1 < w10.heap.size := T_10.1
  have T_10n : ¬ w7.heap.size + 1 = w10.heap.size := by omega
  have I_10c0 := I_10.c0
  have I_10c1 := I_10.c1
  have I_10c2 := I_10.c2
  have I_10l : w8.heap.size < w10.heap.size := I_10.1
  have I_10n : ¬ w8.heap.size = w10.heap.size := by omega
  by_cases h1 : (ofR p q r s).2.2.2 = 0
  · have h1b : ((ofR p q r s).2.2.2 == 0) = true := by simp [h1]
    obtain ⟨hd, ⟨m0, m1⟩, hm, hi1, hi2⟩ := of_ok h1
    clear h1
    go_wp2_with fail
    refine (implDet_any _ _ _ _ _).mono ?_
    rintro e w11 ⟨he, hb11⟩
    unfold detV at he
    rw [hd] at he
    clear hd
    subst he
    have U_11 : Kt (w1.heap.size) a b c w11 := Kt.call U_10 hb11
    have V_11 : Kg (w1.heap.size + 1) x y w11 := Kg.call V_10 hb11
    have P_11 : Kg (w2.heap.size) (redR a b c x y).1 (redR a b c x y).2.1 w11 := Kg.call P_10 hb11
    have S_11 : Kg (w7.heap.size) p q w11 := Kg.call S_10 hb11
    have T_11 : Kg (w7.heap.size + 1) r s w11 := Kg.call T_10 hb11
    have I_11 : Kt (w8.heap.size) (ofR p q r s).1 (ofR p q r s).2.1 (ofR p q r s).2.2.1 w11 := Kt.call I_10 hb11
    have B11 : Below w.heap.size w w11 := bstep (B10) hb11
    clear hb11 U_10 V_10 P_10 S_10 T_10 I_10 B10 U_10c0 U_10c1 U_10c2 U_10l U_10n V_10c0 V_10c1 V_10l V_10n P_10c0 P_10c1 P_10l P_10n S_10c0 S_10c1 S_10l S_10n T_10c0 T_10c1 T_10l T_10n I_10c0 I_10c1 I_10c2 I_10l I_10n
    have U_11c0 := U_11.c0
    have U_11c1 := U_11.c1
    have U_11c2 := U_11.c2
    have U_11l : w1.heap.size < w11.heap.size := U_11.1
    have U_11n : ¬ w1.heap.size = w11.heap.size := by omega
    have V_11c0 := V_11.c0
    have V_11c1 := V_11.c1
    have V_11l : w1.heap.size + 1 < w11.heap.size := V_11.1
    have V_11n : ¬ w1.heap.size + 1 = w11.heap.size := by omega
    have P_11c0 := P_11.c0
    have P_11c1 := P_11.c1
    have P_11l : w2.heap.size < w11.heap.size := P_11.1
    have P_11n : ¬ w2.heap.size = w11.heap.size := by omega
    have S_11c0 := S_11.c0
    have S_11c1 := S_11.c1
    have S_11l : w7.heap.size < w11.heap.size := S_11.1
    have S_11n : ¬ w7.heap.size = w11.heap.size := by omega
    have T_11c0 := T_11.c0
    have T_11c1 := T_11.c1
    have T_11l : w7.heap.size + 1 < w11.heap.size := T_11.1
    have T_11n : ¬ w7.heap.size + 1 = w11.heap.size := by omega
    have I_11c0 := I_11.c0
    have I_11c1 := I_11.c1
    have I_11c2 := I_11.c2
    have I_11l : w8.heap.size < w11.heap.size := I_11.1
    have I_11n : ¬ w8.heap.size = w11.heap.size := by omega
    go_wp2_with fail
    refine (implIn_any _ _ _ _ _ _).mono ?_
    rintro e w12 ⟨he, hb12⟩
    unfold inT at he
    rw [hi1] at he
    clear hi1
    subst he
    have U_12 : Kt (w1.heap.size) a b c w12 := Kt.call U_11 hb12
    have V_12 : Kg (w1.heap.size + 1) x y w12 := Kg.call V_11 hb12
    have P_12 : Kg (w2.heap.size) (redR a b c x y).1 (redR a b c x y).2.1 w12 := Kg.call P_11 hb12
    have S_12 : Kg (w7.heap.size) p q w12 := Kg.call S_11 hb12
    have T_12 : Kg (w7.heap.size + 1) r s w12 := Kg.call T_11 hb12
    have I_12 : Kt (w8.heap.size) (ofR p q r s).1 (ofR p q r s).2.1 (ofR p q r s).2.2.1 w12 := Kt.call I_11 hb12
    have B12 : Below w.heap.size w w12 := bstep (B11) hb12
    clear hb12 U_11 V_11 P_11 S_11 T_11 I_11 B11 U_11c0 U_11c1 U_11c2 U_11l U_11n V_11c0 V_11c1 V_11l V_11n P_11c0 P_11c1 P_11l P_11n S_11c0 S_11c1 S_11l S_11n T_11c0 T_11c1 T_11l T_11n I_11c0 I_11c1 I_11c2 I_11l I_11n
    have U_12c0 := U_12.c0
    have U_12c1 := U_12.c1
    have U_12c2 := U_12.c2
    have U_12l : w1.heap.size < w12.heap.size := U_12.1
    have U_12n : ¬ w1.heap.size = w12.heap.size := by omega
    have V_12c0 := V_12.c0
    have V_12c1 := V_12.c1
    have V_12l : w1.heap.size + 1 < w12.heap.size := V_12.1
    have V_12n : ¬ w1.heap.size + 1 = w12.heap.size := by omega
    have P_12c0 := P_12.c0
    have P_12c1 := P_12.c1
    have P_12l : w2.heap.size < w12.heap.size := P_12.1
    have P_12n : ¬ w2.heap.size = w12.heap.size := by omega
    have S_12c0 := S_12.c0
    have S_12c1 := S_12.c1
    have S_12l : w7.heap.size < w12.heap.size := S_12.1
    have S_12n : ¬ w7.heap.size = w12.heap.size := by omega
    have T_12c0 := T_12.c0
    have T_12c1 := T_12.c1
    have T_12l : w7.heap.size + 1 < w12.heap.size := T_12.1
    have T_12n : ¬ w7.heap.size + 1 = w12.heap.size := by omega
    have I_12c0 := I_12.c0
    have I_12c1 := I_12.c1
    have I_12c2 := I_12.c2
    have I_12l : w8.heap.size < w12.heap.size := I_12.1
    have I_12n : ¬ w8.heap.size = w12.heap.size := by omega
    go_wp2_with fail
    refine (implIn_any _ _ _ _ _ _).mono ?_
    rintro e w13 ⟨he, hb13⟩
    unfold inT at he
    rw [hi2] at he
    clear hi2
    subst he
    have U_13 : Kt (w1.heap.size) a b c w13 := Kt.call U_12 hb13
    have V_13 : Kg (w1.heap.size + 1) x y w13 := Kg.call V_12 hb13
    have P_13 : Kg (w2.heap.size) (redR a b c x y).1 (redR a b c x y).2.1 w13 := Kg.call P_12 hb13
    have S_13 : Kg (w7.heap.size) p q w13 := Kg.call S_12 hb13
    have T_13 : Kg (w7.heap.size + 1) r s w13 := Kg.call T_12 hb13
    have I_13 : Kt (w8.heap.size) (ofR p q r s).1 (ofR p q r s).2.1 (ofR p q r s).2.2.1 w13 := Kt.call I_12 hb13
    have B13 : Below w.heap.size w w13 := bstep (B12) hb13
    clear hb13 U_12 V_12 P_12 S_12 T_12 I_12 B12 U_12c0 U_12c1 U_12c2 U_12l U_12n V_12c0 V_12c1 V_12l V_12n P_12c0 P_12c1 P_12l P_12n S_12c0 S_12c1 S_12l S_12n T_12c0 T_12c1 T_12l T_12n I_12c0 I_12c1 I_12c2 I_12l I_12n
    have U_13c0 := U_13.c0
    have U_13c1 := U_13.c1
    have U_13c2 := U_13.c2
    have U_13l : w1.heap.size < w13.heap.size := U_13.1
    have U_13n : ¬ w1.heap.size = w13.heap.size := by omega
    have V_13c0 := V_13.c0
    have V_13c1 := V_13.c1
    have V_13l : w1.heap.size + 1 < w13.heap.size := V_13.1
    have V_13n : ¬ w1.heap.size + 1 = w13.heap.size := by omega
    have P_13c0 := P_13.c0
    have P_13c1 := P_13.c1
    have P_13l : w2.heap.size < w13.heap.size := P_13.1
    have P_13n : ¬ w2.heap.size = w13.heap.size := by omega
    have S_13c0 := S_13.c0
    have S_13c1 := S_13.c1
    have S_13l : w7.heap.size < w13.heap.size := S_13.1
    have S_13n : ¬ w7.heap.size = w13.heap.size := by omega
    have T_13c0 := T_13.c0
    have T_13c1 := T_13.c1
    have T_13l : w7.heap.size + 1 < w13.heap.size := T_13.1
    have T_13n : ¬ w7.heap.size + 1 = w13.heap.size := by omega
    have I_13c0 := I_13.c0
    have I_13c1 := I_13.c1
    have I_13c2 := I_13.c2
    have I_13l : w8.heap.size < w13.heap.size := I_13.1
    have I_13n : ¬ w8.heap.size = w13.heap.size := by omega
    clear S_13 S_13c0 S_13c1 S_13l S_13n
    clear T_13 T_13c0 T_13c1 T_13l T_13n
    generalize p * s - q * r = d at *
    have d1 : -64 ≤ d := by omega
    have d2 : d ≤ 64 := by omega
    by_cases hdd : d < -d
    · have d3 : -d = (ofR p q r s).1 * (ofR p q r s).2.2.1 := by omega
      clear hm
      by_cases h2 : (redR a b c x y).2.2 = 0
      · have h2b : ((redR a b c x y).2.2 != 0) = false := by simp [h2]
        obtain ⟨hsc, x0, x1, y0, y1, herr, hmem⟩ := red_ok h2
        clear h2
        generalize (redR a b c x y).1 = X at *
        generalize (redR a b c x y).2.1 = Y at *
        have HE := Lib.hid herr
        have HM := Lib.hid hmem
        clear herr hmem
        go_wp2_with fail
        refine (implScale_any _ _ _ _).mono ?_
        rintro e w14 ⟨he, hb14⟩
        unfold scaleV at he
        rw [hsc] at he
        subst he
        have U_14 : Kt (w1.heap.size) a b c w14 := Kt.call U_13 hb14
        have V_14 : Kg (w1.heap.size + 1) x y w14 := Kg.call V_13 hb14
        have P_14 : Kg (w2.heap.size) X Y w14 := Kg.call P_13 hb14
        have I_14 : Kt (w8.heap.size) (ofR p q r s).1 (ofR p q r s).2.1 (ofR p q r s).2.2.1 w14 := Kt.call I_13 hb14
        have B14 : Below w.heap.size w w14 := bstep (B13) hb14
        clear hb14 U_13 V_13 P_13 I_13 B13 U_13c0 U_13c1 U_13c2 U_13l U_13n V_13c0 V_13c1 V_13l V_13n P_13c0 P_13c1 P_13l P_13n I_13c0 I_13c1 I_13c2 I_13l I_13n
        have U_14c0 := U_14.c0
        have U_14c1 := U_14.c1
        have U_14c2 := U_14.c2
        have U_14l : w1.heap.size < w14.heap.size := U_14.1
        have U_14n : ¬ w1.heap.size = w14.heap.size := by omega
        have V_14c0 := V_14.c0
        have V_14c1 := V_14.c1
        have V_14l : w1.heap.size + 1 < w14.heap.size := V_14.1
        have V_14n : ¬ w1.heap.size + 1 = w14.heap.size := by omega
        have P_14c0 := P_14.c0
        have P_14c1 := P_14.c1
        have P_14l : w2.heap.size < w14.heap.size := P_14.1
        have P_14n : ¬ w2.heap.size = w14.heap.size := by omega
        have I_14c0 := I_14.c0
        have I_14c1 := I_14.c1
        have I_14c2 := I_14.c2
        have I_14l : w8.heap.size < w14.heap.size := I_14.1
        have I_14n : ¬ w8.heap.size = w14.heap.size := by omega
        go_wp2_with fail
        refine (implAdd_any _ _ _ _ _).mono ?_
        rintro e w15 ⟨he, hb15⟩
        unfold addV at he
        subst he
        have U_15 : Kt (w1.heap.size) a b c w15 := Kt.call (Kt.alloc U_14 _) hb15
        have V_15 : Kg (w1.heap.size + 1) x y w15 := Kg.call (Kg.alloc V_14 _) hb15
        have P_15 : Kg (w2.heap.size) X Y w15 := Kg.call (Kg.alloc P_14 _) hb15
        have I_15 : Kt (w8.heap.size) (ofR p q r s).1 (ofR p q r s).2.1 (ofR p q r s).2.2.1 w15 := Kt.call (Kt.alloc I_14 _) hb15
        have Z_15 : Kg (w14.heap.size) (-X) (-Y) w15 := Kg.call (Kg.at3 (w14.heap.size) (by simp) : Kg (w14.heap.size) (-X) (-Y) _) hb15
        have B15 : Below w.heap.size w w15 := bstep (Below.alloc (B14) (by have := B14.size; first | omega | (simp <;> omega)) _) hb15
        clear hb15 U_14 V_14 P_14 I_14 B14 U_14c0 U_14c1 U_14c2 U_14l U_14n V_14c0 V_14c1 V_14l V_14n P_14c0 P_14c1 P_14l P_14n I_14c0 I_14c1 I_14c2 I_14l I_14n
        have U_15c0 := U_15.c0
        have U_15c1 := U_15.c1
        have U_15c2 := U_15.c2
        have U_15l : w1.heap.size < w15.heap.size := U_15.1
        have U_15n : ¬ w1.heap.size = w15.heap.size := by omega
        have V_15c0 := V_15.c0
        have V_15c1 := V_15.c1
        have V_15l : w1.heap.size + 1 < w15.heap.size := V_15.1
        have V_15n : ¬ w1.heap.size + 1 = w15.heap.size := by omega
        have P_15c0 := P_15.c0
        have P_15c1 := P_15.c1
        have P_15l : w2.heap.size < w15.heap.size := P_15.1
        have P_15n : ¬ w2.heap.size = w15.heap.size := by omega
        have I_15c0 := I_15.c0
        have I_15c1 := I_15.c1
        have I_15c2 := I_15.c2
        have I_15l : w8.heap.size < w15.heap.size := I_15.1
        have I_15n : ¬ w8.heap.size = w15.heap.size := by omega
        have Z_15c0 := Z_15.c0
        have Z_15c1 := Z_15.c1
        have Z_15l : w14.heap.size < w15.heap.size := Z_15.1
        have Z_15n : ¬ w14.heap.size = w15.heap.size := by omega
        by_cases h9 : (addR x y (-X) (-Y)).2.2 = 0
        · have h9b : ((addR x y (-X) (-Y)).2.2 != 0) = false := by simp [h9]
          have hin : inR a b c (addR x y (-X) (-Y)).1 (addR x y (-X) (-Y)).2.1 = (true, 0) := HM.out h9
          clear h9
          go_wp2_with fail
          refine (implIn_any _ _ _ _ _ _).mono ?_
          rintro e w16 ⟨he, hb16⟩
          unfold inT at he
          rw [hin] at he
          subst he
          have U_16 : Kt (w1.heap.size) a b c w16 := Kt.call (Kt.alloc U_15 _) hb16
          have V_16 : Kg (w1.heap.size + 1) x y w16 := Kg.call (Kg.alloc V_15 _) hb16
          have P_16 : Kg (w2.heap.size) X Y w16 := Kg.call (Kg.alloc P_15 _) hb16
          have I_16 : Kt (w8.heap.size) (ofR p q r s).1 (ofR p q r s).2.1 (ofR p q r s).2.2.1 w16 := Kt.call (Kt.alloc I_15 _) hb16
          have Z_16 : Kg (w14.heap.size) (-X) (-Y) w16 := Kg.call (Kg.alloc Z_15 _) hb16
          have D_16 : Kg (w15.heap.size) (addR x y (-X) (-Y)).1 (addR x y (-X) (-Y)).2.1 w16 := Kg.call (Kg.at3 (w15.heap.size) (by simp) : Kg (w15.heap.size) (addR x y (-X) (-Y)).1 (addR x y (-X) (-Y)).2.1 _) hb16
          have B16 : Below w.heap.size w w16 := bstep (Below.alloc (B15) (by have := B15.size; first | omega | (simp <;> omega)) _) hb16
          clear hb16 U_15 V_15 P_15 I_15 Z_15 B15 U_15c0 U_15c1 U_15c2 U_15l U_15n V_15c0 V_15c1 V_15l V_15n P_15c0 P_15c1 P_15l P_15n I_15c0 I_15c1 I_15c2 I_15l I_15n Z_15c0 Z_15c1 Z_15l Z_15n
          have U_16c0 := U_16.c0
          have U_16c1 := U_16.c1
          have U_16c2 := U_16.c2
          have U_16l : w1.heap.size < w16.heap.size := U_16.1
          have U_16n : ¬ w1.heap.size = w16.heap.size := by omega
          have V_16c0 := V_16.c0
          have V_16c1 := V_16.c1
          have V_16l : w1.heap.size + 1 < w16.heap.size := V_16.1
          have V_16n : ¬ w1.heap.size + 1 = w16.heap.size := by omega
          have P_16c0 := P_16.c0
          have P_16c1 := P_16.c1
          have P_16l : w2.heap.size < w16.heap.size := P_16.1
          have P_16n : ¬ w2.heap.size = w16.heap.size := by omega
          have I_16c0 := I_16.c0
          have I_16c1 := I_16.c1
          have I_16c2 := I_16.c2
          have I_16l : w8.heap.size < w16.heap.size := I_16.1
          have I_16n : ¬ w8.heap.size = w16.heap.size := by omega
          have Z_16c0 := Z_16.c0
          have Z_16c1 := Z_16.c1
          have Z_16l : w14.heap.size < w16.heap.size := Z_16.1
          have Z_16n : ¬ w14.heap.size = w16.heap.size := by omega
          have D_16c0 := D_16.c0
          have D_16c1 := D_16.c1
          have D_16l : w15.heap.size < w16.heap.size := D_16.1
          have D_16n : ¬ w15.heap.size = w16.heap.size := by omega
          go_wp2
          go_ret
          exact ⟨rfl, B16⟩
        · have h9c : (addR x y (-X) (-Y)).2.2 = 3 := HE.out.resolve_left h9
          have h9b : ((addR x y (-X) (-Y)).2.2 != 0) = true := by simp [h9]
          have h9d : ((addR x y (-X) (-Y)).2.2 == 3) = true := by simp [h9c]
          clear h9 h9c
          go_wp2
          go_ret
          exact ⟨rfl, (Below.alloc B15 B15.size _)⟩
      · have h2b : ((redR a b c x y).2.2 != 0) = true := by simp [h2]
        clear h2
        go_wp2
        go_ret
        exact ⟨rfl, B13⟩
    · have d3 : d = (ofR p q r s).1 * (ofR p q r s).2.2.1 := by omega
      have d4 : -d ≤ d := by omega
      clear hm hdd
      by_cases h2 : (redR a b c x y).2.2 = 0
      · have h2b : ((redR a b c x y).2.2 != 0) = false := by simp [h2]
        obtain ⟨hsc, x0, x1, y0, y1, herr, hmem⟩ := red_ok h2
        clear h2
        generalize (redR a b c x y).1 = X at *
        generalize (redR a b c x y).2.1 = Y at *
        have HE := Lib.hid herr
        have HM := Lib.hid hmem
        clear herr hmem
        go_wp2_with fail
        refine (implScale_any _ _ _ _).mono ?_
        rintro e w14 ⟨he, hb14⟩
        unfold scaleV at he
        rw [hsc] at he
        subst he
        have U_14 : Kt (w1.heap.size) a b c w14 := Kt.call U_13 hb14
        have V_14 : Kg (w1.heap.size + 1) x y w14 := Kg.call V_13 hb14
        have P_14 : Kg (w2.heap.size) X Y w14 := Kg.call P_13 hb14
        have I_14 : Kt (w8.heap.size) (ofR p q r s).1 (ofR p q r s).2.1 (ofR p q r s).2.2.1 w14 := Kt.call I_13 hb14
        have B14 : Below w.heap.size w w14 := bstep (B13) hb14
        clear hb14 U_13 V_13 P_13 I_13 B13 U_13c0 U_13c1 U_13c2 U_13l U_13n V_13c0 V_13c1 V_13l V_13n P_13c0 P_13c1 P_13l P_13n I_13c0 I_13c1 I_13c2 I_13l I_13n
        have U_14c0 := U_14.c0
        have U_14c1 := U_14.c1
        have U_14c2 := U_14.c2
        have U_14l : w1.heap.size < w14.heap.size := U_14.1
        have U_14n : ¬ w1.heap.size = w14.heap.size := by omega
        have V_14c0 := V_14.c0
        have V_14c1 := V_14.c1
        have V_14l : w1.heap.size + 1 < w14.heap.size := V_14.1
        have V_14n : ¬ w1.heap.size + 1 = w14.heap.size := by omega
        have P_14c0 := P_14.c0
        have P_14c1 := P_14.c1
        have P_14l : w2.heap.size < w14.heap.size := P_14.1
        have P_14n : ¬ w2.heap.size = w14.heap.size := by omega
        have I_14c0 := I_14.c0
        have I_14c1 := I_14.c1
        have I_14c2 := I_14.c2
        have I_14l : w8.heap.size < w14.heap.size := I_14.1
        have I_14n : ¬ w8.heap.size = w14.heap.size := by omega
        go_wp2_with fail
        refine (implAdd_any _ _ _ _ _).mono ?_
        rintro e w15 ⟨he, hb15⟩
        unfold addV at he
        subst he
        have U_15 : Kt (w1.heap.size) a b c w15 := Kt.call (Kt.alloc U_14 _) hb15
        have V_15 : Kg (w1.heap.size + 1) x y w15 := Kg.call (Kg.alloc V_14 _) hb15
        have P_15 : Kg (w2.heap.size) X Y w15 := Kg.call (Kg.alloc P_14 _) hb15
        have I_15 : Kt (w8.heap.size) (ofR p q r s).1 (ofR p q r s).2.1 (ofR p q r s).2.2.1 w15 := Kt.call (Kt.alloc I_14 _) hb15
        have Z_15 : Kg (w14.heap.size) (-X) (-Y) w15 := Kg.call (Kg.at3 (w14.heap.size) (by simp) : Kg (w14.heap.size) (-X) (-Y) _) hb15
        have B15 : Below w.heap.size w w15 := bstep (Below.alloc (B14) (by have := B14.size; first | omega | (simp <;> omega)) _) hb15
        clear hb15 U_14 V_14 P_14 I_14 B14 U_14c0 U_14c1 U_14c2 U_14l U_14n V_14c0 V_14c1 V_14l V_14n P_14c0 P_14c1 P_14l P_14n I_14c0 I_14c1 I_14c2 I_14l I_14n
        have U_15c0 := U_15.c0
        have U_15c1 := U_15.c1
        have U_15c2 := U_15.c2
        have U_15l : w1.heap.size < w15.heap.size := U_15.1
        have U_15n : ¬ w1.heap.size = w15.heap.size := by omega
        have V_15c0 := V_15.c0
        have V_15c1 := V_15.c1
        have V_15l : w1.heap.size + 1 < w15.heap.size := V_15.1
        have V_15n : ¬ w1.heap.size + 1 = w15.heap.size := by omega
        have P_15c0 := P_15.c0
        have P_15c1 := P_15.c1
        have P_15l : w2.heap.size < w15.heap.size := P_15.1
        have P_15n : ¬ w2.heap.size = w15.heap.size := by omega
        have I_15c0 := I_15.c0
        have I_15c1 := I_15.c1
        have I_15c2 := I_15.c2
        have I_15l : w8.heap.size < w15.heap.size := I_15.1
        have I_15n : ¬ w8.heap.size = w15.heap.size := by omega
        have Z_15c0 := Z_15.c0
        have Z_15c1 := Z_15.c1
        have Z_15l : w14.heap.size < w15.heap.size := Z_15.1
        have Z_15n : ¬ w14.heap.size = w15.heap.size := by omega
        by_cases h9 : (addR x y (-X) (-Y)).2.2 = 0
        · have h9b : ((addR x y (-X) (-Y)).2.2 != 0) = false := by simp [h9]
          have hin : inR a b c (addR x y (-X) (-Y)).1 (addR x y (-X) (-Y)).2.1 = (true, 0) := HM.out h9
          clear h9
          go_wp2_with fail
          refine (implIn_any _ _ _ _ _ _).mono ?_
          rintro e w16 ⟨he, hb16⟩
          unfold inT at he
          rw [hin] at he
          subst he
          have U_16 : Kt (w1.heap.size) a b c w16 := Kt.call (Kt.alloc U_15 _) hb16
          have V_16 : Kg (w1.heap.size + 1) x y w16 := Kg.call (Kg.alloc V_15 _) hb16
          have P_16 : Kg (w2.heap.size) X Y w16 := Kg.call (Kg.alloc P_15 _) hb16
          have I_16 : Kt (w8.heap.size) (ofR p q r s).1 (ofR p q r s).2.1 (ofR p q r s).2.2.1 w16 := Kt.call (Kt.alloc I_15 _) hb16
          have Z_16 : Kg (w14.heap.size) (-X) (-Y) w16 := Kg.call (Kg.alloc Z_15 _) hb16
          have D_16 : Kg (w15.heap.size) (addR x y (-X) (-Y)).1 (addR x y (-X) (-Y)).2.1 w16 := Kg.call (Kg.at3 (w15.heap.size) (by simp) : Kg (w15.heap.size) (addR x y (-X) (-Y)).1 (addR x y (-X) (-Y)).2.1 _) hb16
          have B16 : Below w.heap.size w w16 := bstep (Below.alloc (B15) (by have := B15.size; first | omega | (simp <;> omega)) _) hb16
          clear hb16 U_15 V_15 P_15 I_15 Z_15 B15 U_15c0 U_15c1 U_15c2 U_15l U_15n V_15c0 V_15c1 V_15l V_15n P_15c0 P_15c1 P_15l P_15n I_15c0 I_15c1 I_15c2 I_15l I_15n Z_15c0 Z_15c1 Z_15l Z_15n
          have U_16c0 := U_16.c0
          have U_16c1 := U_16.c1
          have U_16c2 := U_16.c2
          have U_16l : w1.heap.size < w16.heap.size := U_16.1
          have U_16n : ¬ w1.heap.size = w16.heap.size := by omega
          have V_16c0 := V_16.c0
          have V_16c1 := V_16.c1
          have V_16l : w1.heap.size + 1 < w16.heap.size := V_16.1
          have V_16n : ¬ w1.heap.size + 1 = w16.heap.size := by omega
          have P_16c0 := P_16.c0
          have P_16c1 := P_16.c1
          have P_16l : w2.heap.size < w16.heap.size := P_16.1
          have P_16n : ¬ w2.heap.size = w16.heap.size := by omega
          have I_16c0 := I_16.c0
          have I_16c1 := I_16.c1
          have I_16c2 := I_16.c2
          have I_16l : w8.heap.size < w16.heap.size := I_16.1
          have I_16n : ¬ w8.heap.size = w16.heap.size := by omega
          have Z_16c0 := Z_16.c0
          have Z_16c1 := Z_16.c1
          have Z_16l : w14.heap.size < w16.heap.size := Z_16.1
          have Z_16n : ¬ w14.heap.size = w16.heap.size := by omega
          have D_16c0 := D_16.c0
          have D_16c1 := D_16.c1
          have D_16l : w15.heap.size < w16.heap.size := D_16.1
          have D_16n : ¬ w15.heap.size = w16.heap.size := by omega
          go_wp2
          go_ret
          exact ⟨rfl, B16⟩
        · have h9c : (addR x y (-X) (-Y)).2.2 = 3 := HE.out.resolve_left h9
          have h9b : ((addR x y (-X) (-Y)).2.2 != 0) = true := by simp [h9]
          have h9d : ((addR x y (-X) (-Y)).2.2 == 3) = true := by simp [h9c]
          clear h9 h9c
          go_wp2
          go_ret
          exact ⟨rfl, (Below.alloc B15 B15.size _)⟩
      · have h2b : ((redR a b c x y).2.2 != 0) = true := by simp [h2]
        clear h2
        go_wp2
        go_ret
        exact ⟨rfl, B13⟩
  · have h1b : ((ofR p q r s).2.2.2 == 0) = false := by simp [h1]
    clear h1
    by_cases h2 : (redR a b c x y).2.2 = 0
    · have h2b : ((redR a b c x y).2.2 != 0) = false := by simp [h2]
      obtain ⟨hsc, x0, x1, y0, y1, herr, hmem⟩ := red_ok h2
      clear h2
      generalize (redR a b c x y).1 = X at *
      generalize (redR a b c x y).2.1 = Y at *
      have HE := Lib.hid herr
      have HM := Lib.hid hmem
      clear herr hmem
      go_wp2_with fail
      refine (implScale_any _ _ _ _).mono ?_
      rintro e w11 ⟨he, hb11⟩
      unfold scaleV at he
      rw [hsc] at he
      subst he
      have U_11 : Kt (w1.heap.size) a b c w11 := Kt.call U_10 hb11
      have V_11 : Kg (w1.heap.size + 1) x y w11 := Kg.call V_10 hb11
      have P_11 : Kg (w2.heap.size) X Y w11 := Kg.call P_10 hb11
      have S_11 : Kg (w7.heap.size) p q w11 := Kg.call S_10 hb11
      have T_11 : Kg (w7.heap.size + 1) r s w11 := Kg.call T_10 hb11
      have I_11 : Kt (w8.heap.size) (ofR p q r s).1 (ofR p q r s).2.1 (ofR p q r s).2.2.1 w11 := Kt.call I_10 hb11
      have B11 : Below w.heap.size w w11 := bstep (B10) hb11
      clear hb11 U_10 V_10 P_10 S_10 T_10 I_10 B10 U_10c0 U_10c1 U_10c2 U_10l U_10n V_10c0 V_10c1 V_10l V_10n P_10c0 P_10c1 P_10l P_10n S_10c0 S_10c1 S_10l S_10n T_10c0 T_10c1 T_10l T_10n I_10c0 I_10c1 I_10c2 I_10l I_10n
      have U_11c0 := U_11.c0
      have U_11c1 := U_11.c1
      have U_11c2 := U_11.c2
      have U_11l : w1.heap.size < w11.heap.size := U_11.1
      have U_11n : ¬ w1.heap.size = w11.heap.size := by omega
      have V_11c0 := V_11.c0
      have V_11c1 := V_11.c1
      have V_11l : w1.heap.size + 1 < w11.heap.size := V_11.1
      have V_11n : ¬ w1.heap.size + 1 = w11.heap.size := by omega
      have P_11c0 := P_11.c0
      have P_11c1 := P_11.c1
      have P_11l : w2.heap.size < w11.heap.size := P_11.1
      have P_11n : ¬ w2.heap.size = w11.heap.size := by omega
      have S_11c0 := S_11.c0
      have S_11c1 := S_11.c1
      have S_11l : w7.heap.size < w11.heap.size := S_11.1
      have S_11n : ¬ w7.heap.size = w11.heap.size := by omega
      have T_11c0 := T_11.c0
      have T_11c1 := T_11.c1
      have T_11l : w7.heap.size + 1 < w11.heap.size := T_11.1
      have T_11n : ¬ w7.heap.size + 1 = w11.heap.size := by omega
      have I_11c0 := I_11.c0
      have I_11c1 := I_11.c1
      have I_11c2 := I_11.c2
      have I_11l : w8.heap.size < w11.heap.size := I_11.1
      have I_11n : ¬ w8.heap.size = w11.heap.size := by omega
      go_wp2_with fail
      refine (implAdd_any _ _ _ _ _).mono ?_
      rintro e w12 ⟨he, hb12⟩
      unfold addV at he
      subst he
      have U_12 : Kt (w1.heap.size) a b c w12 := Kt.call (Kt.alloc U_11 _) hb12
      have V_12 : Kg (w1.heap.size + 1) x y w12 := Kg.call (Kg.alloc V_11 _) hb12
      have P_12 : Kg (w2.heap.size) X Y w12 := Kg.call (Kg.alloc P_11 _) hb12
      have S_12 : Kg (w7.heap.size) p q w12 := Kg.call (Kg.alloc S_11 _) hb12
      have T_12 : Kg (w7.heap.size + 1) r s w12 := Kg.call (Kg.alloc T_11 _) hb12
      have I_12 : Kt (w8.heap.size) (ofR p q r s).1 (ofR p q r s).2.1 (ofR p q r s).2.2.1 w12 := Kt.call (Kt.alloc I_11 _) hb12
      have Z_12 : Kg (w11.heap.size) (-X) (-Y) w12 := Kg.call (Kg.at3 (w11.heap.size) (by simp) : Kg (w11.heap.size) (-X) (-Y) _) hb12
      have B12 : Below w.heap.size w w12 := bstep (Below.alloc (B11) (by have := B11.size; first | omega | (simp <;> omega)) _) hb12
      clear hb12 U_11 V_11 P_11 S_11 T_11 I_11 B11 U_11c0 U_11c1 U_11c2 U_11l U_11n V_11c0 V_11c1 V_11l V_11n P_11c0 P_11c1 P_11l P_11n S_11c0 S_11c1 S_11l S_11n T_11c0 T_11c1 T_11l T_11n I_11c0 I_11c1 I_11c2 I_11l I_11n
      have U_12c0 := U_12.c0
      have U_12c1 := U_12.c1
      have U_12c2 := U_12.c2
      have U_12l : w1.heap.size < w12.heap.size := U_12.1
      have U_12n : ¬ w1.heap.size = w12.heap.size := by omega
      have V_12c0 := V_12.c0
      have V_12c1 := V_12.c1
      have V_12l : w1.heap.size + 1 < w12.heap.size := V_12.1
      have V_12n : ¬ w1.heap.size + 1 = w12.heap.size := by omega
      have P_12c0 := P_12.c0
      have P_12c1 := P_12.c1
      have P_12l : w2.heap.size < w12.heap.size := P_12.1
      have P_12n : ¬ w2.heap.size = w12.heap.size := by omega
      have S_12c0 := S_12.c0
      have S_12c1 := S_12.c1
      have S_12l : w7.heap.size < w12.heap.size := S_12.1
      have S_12n : ¬ w7.heap.size = w12.heap.size := by omega
      have T_12c0 := T_12.c0
      have T_12c1 := T_12.c1
      have T_12l : w7.heap.size + 1 < w12.heap.size := T_12.1
      have T_12n : ¬ w7.heap.size + 1 = w12.heap.size := by omega
      have I_12c0 := I_12.c0
      have I_12c1 := I_12.c1
      have I_12c2 := I_12.c2
      have I_12l : w8.heap.size < w12.heap.size := I_12.1
      have I_12n : ¬ w8.heap.size = w12.heap.size := by omega
      have Z_12c0 := Z_12.c0
      have Z_12c1 := Z_12.c1
      have Z_12l : w11.heap.size < w12.heap.size := Z_12.1
      have Z_12n : ¬ w11.heap.size = w12.heap.size := by omega
      by_cases h9 : (addR x y (-X) (-Y)).2.2 = 0
      · have h9b : ((addR x y (-X) (-Y)).2.2 != 0) = false := by simp [h9]
        have hin : inR a b c (addR x y (-X) (-Y)).1 (addR x y (-X) (-Y)).2.1 = (true, 0) := HM.out h9
        clear h9
        go_wp2_with fail
        refine (implIn_any _ _ _ _ _ _).mono ?_
        rintro e w13 ⟨he, hb13⟩
        unfold inT at he
        rw [hin] at he
        subst he
        have U_13 : Kt (w1.heap.size) a b c w13 := Kt.call (Kt.alloc U_12 _) hb13
        have V_13 : Kg (w1.heap.size + 1) x y w13 := Kg.call (Kg.alloc V_12 _) hb13
        have P_13 : Kg (w2.heap.size) X Y w13 := Kg.call (Kg.alloc P_12 _) hb13
        have S_13 : Kg (w7.heap.size) p q w13 := Kg.call (Kg.alloc S_12 _) hb13
        have T_13 : Kg (w7.heap.size + 1) r s w13 := Kg.call (Kg.alloc T_12 _) hb13
        have I_13 : Kt (w8.heap.size) (ofR p q r s).1 (ofR p q r s).2.1 (ofR p q r s).2.2.1 w13 := Kt.call (Kt.alloc I_12 _) hb13
        have Z_13 : Kg (w11.heap.size) (-X) (-Y) w13 := Kg.call (Kg.alloc Z_12 _) hb13
        have D_13 : Kg (w12.heap.size) (addR x y (-X) (-Y)).1 (addR x y (-X) (-Y)).2.1 w13 := Kg.call (Kg.at3 (w12.heap.size) (by simp) : Kg (w12.heap.size) (addR x y (-X) (-Y)).1 (addR x y (-X) (-Y)).2.1 _) hb13
        have B13 : Below w.heap.size w w13 := bstep (Below.alloc (B12) (by have := B12.size; first | omega | (simp <;> omega)) _) hb13
        clear hb13 U_12 V_12 P_12 S_12 T_12 I_12 Z_12 B12 U_12c0 U_12c1 U_12c2 U_12l U_12n V_12c0 V_12c1 V_12l V_12n P_12c0 P_12c1 P_12l P_12n S_12c0 S_12c1 S_12l S_12n T_12c0 T_12c1 T_12l T_12n I_12c0 I_12c1 I_12c2 I_12l I_12n Z_12c0 Z_12c1 Z_12l Z_12n
        have U_13c0 := U_13.c0
        have U_13c1 := U_13.c1
        have U_13c2 := U_13.c2
        have U_13l : w1.heap.size < w13.heap.size := U_13.1
        have U_13n : ¬ w1.heap.size = w13.heap.size := by omega
        have V_13c0 := V_13.c0
        have V_13c1 := V_13.c1
        have V_13l : w1.heap.size + 1 < w13.heap.size := V_13.1
        have V_13n : ¬ w1.heap.size + 1 = w13.heap.size := by omega
        have P_13c0 := P_13.c0
        have P_13c1 := P_13.c1
        have P_13l : w2.heap.size < w13.heap.size := P_13.1
        have P_13n : ¬ w2.heap.size = w13.heap.size := by omega
        have S_13c0 := S_13.c0
        have S_13c1 := S_13.c1
        have S_13l : w7.heap.size < w13.heap.size := S_13.1
        have S_13n : ¬ w7.heap.size = w13.heap.size := by omega
        have T_13c0 := T_13.c0
        have T_13c1 := T_13.c1
        have T_13l : w7.heap.size + 1 < w13.heap.size := T_13.1
        have T_13n : ¬ w7.heap.size + 1 = w13.heap.size := by omega
        have I_13c0 := I_13.c0
        have I_13c1 := I_13.c1
        have I_13c2 := I_13.c2
        have I_13l : w8.heap.size < w13.heap.size := I_13.1
        have I_13n : ¬ w8.heap.size = w13.heap.size := by omega
        have Z_13c0 := Z_13.c0
        have Z_13c1 := Z_13.c1
        have Z_13l : w11.heap.size < w13.heap.size := Z_13.1
        have Z_13n : ¬ w11.heap.size = w13.heap.size := by omega
        have D_13c0 := D_13.c0
        have D_13c1 := D_13.c1
        have D_13l : w12.heap.size < w13.heap.size := D_13.1
        have D_13n : ¬ w12.heap.size = w13.heap.size := by omega
        go_wp2
        go_ret
        exact ⟨rfl, B13⟩
      · have h9c : (addR x y (-X) (-Y)).2.2 = 3 := HE.out.resolve_left h9
        have h9b : ((addR x y (-X) (-Y)).2.2 != 0) = true := by simp [h9]
        have h9d : ((addR x y (-X) (-Y)).2.2 == 3) = true := by simp [h9c]
        clear h9 h9c
        go_wp2
        go_ret
        exact ⟨rfl, (Below.alloc B12 B12.size _)⟩
    · have h2b : ((redR a b c x y).2.2 != 0) = true := by simp [h2]
      clear h2
      go_wp2
      go_ret
      exact ⟨rfl, B10⟩
end Go.Proofs.Ytlalibefmnenjaa
