/-
  The walk of the law FnJoins: it returns true at every code and writes nothing that was there. Condition: the code's bytes can be read.
-/
import Derived.Test.YtlalibefmnenjaaDrawL2
import Derived.Test.YtlalibefmnenjaaLat6
import Derived.Test.YtlalibefmnenjaaMeet3
import Derived.Test.YtlalibefmnenjaaSub2
import Derived.Test.YtlalibefmnenjaaLike9
import Derived.ProofKit
import Derived.OpenShut
namespace Go.Proofs.Ytlalibefmnenjaa
open Go.RowKit Go.ChangeShapes Go.WideShapes Go.ChangeAt
set_option linter.unusedSimpArgs false
set_option linter.unusedVariables false

def IsRow (k : IntKind) (w : World) (a : Option Addr) (len cap : Nat) (zs : List Int) : Prop :=
  (a = none ∧ len = 0 ∧ cap = 0 ∧ zs = []) ∨
  ∃ x, a = some x ∧ len ≤ cap ∧ cap ≤ maxLen ∧ zs.length = cap ∧ (∀ i, i < zs.length → w.cell? (x.add i) = some (.int k (zs.getD i 0))) ∧ ∀ n ∈ zs, (Lit.int k n).wf = true

theorem rowBts {w : World} {a0 : Option Addr} {len cap : Nat} {zs : List Int} (h : IsRow .u8 w a0 len cap zs) : Bts a0 len w.heap.size w := by
  rcases h with ⟨_, h, _, _⟩ | ⟨x, rfl, h1, h2, h3, h4, h5⟩
  · exact .inl h
  · by_cases h0 : len = 0
    · exact .inl h0
    · obtain ⟨b, off, rfl, hc⟩ := ints_at h4 (by omega)
      refine .inr ⟨b, off, rfl, World.block_lt_of_cell? _ _ (hc 0 (by omega)), fun i hi => ?_⟩
      have hb := bounds_u8 (h5 (zs.getD i 0) (by
        rw [List.getD_eq_getElem?_getD, List.getElem?_eq_getElem (by omega)]
        exact List.getElem_mem _))
      exact ⟨_, hb.1, hb.2, hc i (by omega)⟩

theorem big_prod {x z : Int} (hx : 0 ≤ x) (hz : 1 ≤ z) (h : x * z ≤ 4096) : x ≤ 4096 := by
  have := Int.mul_le_mul_of_nonneg_left hz hx
  omega
structure JoinsOK (A C A' C' j1 j3 jE k1 k3 : Int) : Prop where
  e : jE = 0
  p1 : 0 ≤ j1 * j3 ∧ j1 * j3 ≤ 4096
  p2 : 0 ≤ j1 * j3 * k1 ∧ j1 * j3 * k1 ≤ 4096
  p3 : 0 ≤ j1 * j3 * k1 * k3 ∧ j1 * j3 * k1 * k3 ≤ 4096
  q1 : 0 ≤ A * C ∧ A * C ≤ 4096
  q2 : 0 ≤ A * C * A' ∧ A * C * A' ≤ 4096
  q3 : 0 ≤ A * C * A' * C' ∧ A * C * A' * C' ≤ 4096
  eq : j1 * j3 * k1 * k3 = A * C * A' * C'
theorem joins_ok {A B C A' B' C' : Int} (h : (meetR A B C A' B' C').2.2.2 = 0) :
    JoinsOK A C A' C' (joinR A B C A' B' C').1 (joinR A B C A' B' C').2.2.1 (joinR A B C A' B' C').2.2.2 (meetR A B C A' B' C').1 (meetR A B C A' B' C').2.2.1 := by
  unfold meetR at *
  unfold joinR
  cases hv : latB A B C && latB A' B' C'
  · simp [hv] at h
  simp only [hv, cond_true] at h ⊢
  rw [Bool.and_eq_true] at hv
  have hl := latB_iff.1 hv.1
  have hm := latB_iff.1 hv.2
  obtain ⟨b, c, i, MF⟩ := meet_facts hl hm
  obtain ⟨n1, n2⟩ := meet_nums (by have := hl.1; omega) (by have := hm.1; omega) MF
  rw [n1, n2] at h ⊢
  clear n1 n2
  generalize (latL (joinL A B C A' B' C')).1 = j1 at *
  generalize (latL (joinL A B C A' B' C')).2.2 = j3 at *
  have ha := MF.a1
  have hc := MF.c1
  have e1 := MF.idx
  have j0 := MF.j1
  have t1 := MF.p1
  have t2 := MF.p2
  generalize lcmA A A' = a at *
  unfold limR at *
  cases hv2 : latB a b c
  · simp [hv2] at h
  simp only [hv2, cond_true]
  have e2 : j1 * j3 * a * c = A * C * (A' * C') := by rw [← e1]; grind
  have e3 : A * C * A' * C' = A * C * (A' * C') := by grind
  have x0 : 0 ≤ j1 * j3 * a := Int.mul_nonneg (by omega) (by omega)
  have x1 := big_prod x0 hc (by omega)
  have hA := hl.1
  have hC := hl.2.1
  have hA' := hm.1
  have hC' := hm.2.1
  have y0 : 0 ≤ A * C := Int.mul_nonneg (by omega) (by omega)
  have y1 : 0 ≤ A * C * A' := Int.mul_nonneg y0 (by omega)
  have y2 := big_prod y1 hC' (by omega)
  have y3 := big_prod y0 hA' y2
  have x2 := big_prod (x := j1 * j3) (by omega) ha x1
  exact ⟨rfl, ⟨by omega, x2⟩, ⟨x0, x1⟩, ⟨by omega, by omega⟩, ⟨y0, y3⟩, ⟨y1, y2⟩, ⟨by omega, by omega⟩, by omega⟩
theorem subP_sum (n a : Nat) (h : 1 ≤ a) : (subP n a).length = (subP n (a - 1)).length + (if n % a = 0 then a else 0) := by
  have := subP_succ n (a - 1)
  rw [show a - 1 + 1 = a by omega] at this
  rw [this, List.length_append]
  split
  · rw [subRow_len]
  · rfl

set_option maxRecDepth 100000 in
set_option maxHeartbeats 16000000 in
theorem walkJoins (a0 : Option Addr) (len cap : Nat) (zs : List Int) (w : World) (w0 : IsRow .u8 w a0 len cap zs) :
    Calls Try.prog 4 #[.slice a0 len cap] w fun e w' => e = .returned (.bool true) ∧ Below w.heap.size w w' := by
  by_cases hbig : 4096 < len
  · have hb1 : (4096 : Int) < (len : Int) := by omega
    have hb2 : len ≤ 9223372036854775807 := by
      rcases w0 with ⟨_, h, _, _⟩ | ⟨x, rfl, h1, h2, h3, h4, h5⟩
      · omega
      · unfold maxLen at h2; omega
    go_enter Try.func4, Try.ntmps4
    go_wp2
    go_ret
    exact ⟨rfl, Below.refl _ _⟩
  have hB := rowBts w0
  have hl : len ≤ 4096 := by omega
  clear w0
  go_enter Try.func4, Try.ntmps4
  go_wp2_with (go_at_call 13; go_in)
  refine (drawMeet_any a0 len cap _ (by omega) (hB.grow (Below.refl _ _) (by first | omega | (simp <;> omega)))).mono ?_
  rintro e w1 ⟨a, b, c, a', b', c', rfl, hb1⟩
  have B1 : Below w.heap.size w w1 := bstep (Below.refl _ _) hb1
  clear hb1
  go_wp2_with fail
  refine (implJoin_any _ _ _ _ _ _ _).mono ?_
  rintro e w2 ⟨he, hb2⟩
  unfold joinT latT at he
  subst he
  have U_2 : Kt (w1.heap.size) a b c w2 := Kt.call (Kt.alloc (Kt.at (w1.heap.size) (by simp) : Kt (w1.heap.size) a b c _) _) hb2
  have V_2 : Kt (w1.heap.size + 1) a' b' c' w2 := Kt.call (Kt.at (w1.heap.size + 1) (by simp) : Kt (w1.heap.size + 1) a' b' c' _) hb2
  have B2 : Below w.heap.size w w2 := bstep (Below.alloc (Below.alloc (B1) (by have := B1.size; first | omega | (simp <;> omega)) _) (by have := B1.size; first | omega | (simp <;> omega)) _) hb2
  clear hb2 B1
  have U_2c0 := U_2.c0
  have U_2c1 := U_2.c1
  have U_2c2 := U_2.c2
  have U_2l : w1.heap.size < w2.heap.size := U_2.1
  have U_2n : ¬ w1.heap.size = w2.heap.size := by omega
  have V_2c0 := V_2.c0
  have V_2c1 := V_2.c1
  have V_2c2 := V_2.c2
  have V_2l : w1.heap.size + 1 < w2.heap.size := V_2.1
  have V_2n : ¬ w1.heap.size + 1 = w2.heap.size := by omega
  go_wp2_with fail
  refine (specJoin_any _ _ _ _ _ _ _).mono ?_
  rintro e w3 ⟨he, hb3⟩
  unfold joinT latT at he
  subst he
  have U_3 : Kt (w1.heap.size) a b c w3 := Kt.call (Kt.alloc U_2 _) hb3
  have V_3 : Kt (w1.heap.size + 1) a' b' c' w3 := Kt.call (Kt.alloc V_2 _) hb3
  have P_3 : Kt (w2.heap.size) (joinR a b c a' b' c').1 (joinR a b c a' b' c').2.1 (joinR a b c a' b' c').2.2.1 w3 := Kt.call (Kt.at (w2.heap.size) (by simp) : Kt (w2.heap.size) (joinR a b c a' b' c').1 (joinR a b c a' b' c').2.1 (joinR a b c a' b' c').2.2.1 _) hb3
  have B3 : Below w.heap.size w w3 := bstep (Below.alloc (B2) (by have := B2.size; first | omega | (simp <;> omega)) _) hb3
  clear hb3 U_2 V_2 B2 U_2c0 U_2c1 U_2c2 U_2l U_2n V_2c0 V_2c1 V_2c2 V_2l V_2n
  have U_3c0 := U_3.c0
  have U_3c1 := U_3.c1
  have U_3c2 := U_3.c2
  have U_3l : w1.heap.size < w3.heap.size := U_3.1
  have U_3n : ¬ w1.heap.size = w3.heap.size := by omega
  have V_3c0 := V_3.c0
  have V_3c1 := V_3.c1
  have V_3c2 := V_3.c2
  have V_3l : w1.heap.size + 1 < w3.heap.size := V_3.1
  have V_3n : ¬ w1.heap.size + 1 = w3.heap.size := by omega
  have P_3c0 := P_3.c0
  have P_3c1 := P_3.c1
  have P_3c2 := P_3.c2
  have P_3l : w2.heap.size < w3.heap.size := P_3.1
  have P_3n : ¬ w2.heap.size = w3.heap.size := by omega
  go_wp2_with fail
  refine (implMeet_any _ _ _ _ _ _ _).mono ?_
  rintro e w4 ⟨he, hb4⟩
  unfold meetT latT at he
  subst he
  have U_4 : Kt (w1.heap.size) a b c w4 := Kt.call (Kt.alloc U_3 _) hb4
  have V_4 : Kt (w1.heap.size + 1) a' b' c' w4 := Kt.call (Kt.alloc V_3 _) hb4
  have P_4 : Kt (w2.heap.size) (joinR a b c a' b' c').1 (joinR a b c a' b' c').2.1 (joinR a b c a' b' c').2.2.1 w4 := Kt.call (Kt.alloc P_3 _) hb4
  have Q_4 : Kt (w3.heap.size) (joinR a b c a' b' c').1 (joinR a b c a' b' c').2.1 (joinR a b c a' b' c').2.2.1 w4 := Kt.call (Kt.at (w3.heap.size) (by simp) : Kt (w3.heap.size) (joinR a b c a' b' c').1 (joinR a b c a' b' c').2.1 (joinR a b c a' b' c').2.2.1 _) hb4
  have B4 : Below w.heap.size w w4 := bstep (Below.alloc (B3) (by have := B3.size; first | omega | (simp <;> omega)) _) hb4
  clear hb4 U_3 V_3 P_3 B3 U_3c0 U_3c1 U_3c2 U_3l U_3n V_3c0 V_3c1 V_3c2 V_3l V_3n P_3c0 P_3c1 P_3c2 P_3l P_3n
  have U_4c0 := U_4.c0
  have U_4c1 := U_4.c1
  have U_4c2 := U_4.c2
  have U_4l : w1.heap.size < w4.heap.size := U_4.1
  have U_4n : ¬ w1.heap.size = w4.heap.size := by omega
  have V_4c0 := V_4.c0
  have V_4c1 := V_4.c1
  have V_4c2 := V_4.c2
  have V_4l : w1.heap.size + 1 < w4.heap.size := V_4.1
  have V_4n : ¬ w1.heap.size + 1 = w4.heap.size := by omega
  have P_4c0 := P_4.c0
  have P_4c1 := P_4.c1
  have P_4c2 := P_4.c2
  have P_4l : w2.heap.size < w4.heap.size := P_4.1
  have P_4n : ¬ w2.heap.size = w4.heap.size := by omega
  have Q_4c0 := Q_4.c0
  have Q_4c1 := Q_4.c1
  have Q_4c2 := Q_4.c2
  have Q_4l : w3.heap.size < w4.heap.size := Q_4.1
  have Q_4n : ¬ w3.heap.size = w4.heap.size := by omega
  go_wp2_with fail
  refine (specMeet_any _ _ _ _ _ _ _).mono ?_
  rintro e w5 ⟨he, hb5⟩
  unfold meetT latT at he
  subst he
  have U_5 : Kt (w1.heap.size) a b c w5 := Kt.call (Kt.alloc U_4 _) hb5
  have V_5 : Kt (w1.heap.size + 1) a' b' c' w5 := Kt.call (Kt.alloc V_4 _) hb5
  have P_5 : Kt (w2.heap.size) (joinR a b c a' b' c').1 (joinR a b c a' b' c').2.1 (joinR a b c a' b' c').2.2.1 w5 := Kt.call (Kt.alloc P_4 _) hb5
  have Q_5 : Kt (w3.heap.size) (joinR a b c a' b' c').1 (joinR a b c a' b' c').2.1 (joinR a b c a' b' c').2.2.1 w5 := Kt.call (Kt.alloc Q_4 _) hb5
  have X_5 : Kt (w4.heap.size) (meetR a b c a' b' c').1 (meetR a b c a' b' c').2.1 (meetR a b c a' b' c').2.2.1 w5 := Kt.call (Kt.at (w4.heap.size) (by simp) : Kt (w4.heap.size) (meetR a b c a' b' c').1 (meetR a b c a' b' c').2.1 (meetR a b c a' b' c').2.2.1 _) hb5
  have B5 : Below w.heap.size w w5 := bstep (Below.alloc (B4) (by have := B4.size; first | omega | (simp <;> omega)) _) hb5
  clear hb5 U_4 V_4 P_4 Q_4 B4 U_4c0 U_4c1 U_4c2 U_4l U_4n V_4c0 V_4c1 V_4c2 V_4l V_4n P_4c0 P_4c1 P_4c2 P_4l P_4n Q_4c0 Q_4c1 Q_4c2 Q_4l Q_4n
  have U_5c0 := U_5.c0
  have U_5c1 := U_5.c1
  have U_5c2 := U_5.c2
  have U_5l : w1.heap.size < w5.heap.size := U_5.1
  have U_5n : ¬ w1.heap.size = w5.heap.size := by omega
  have V_5c0 := V_5.c0
  have V_5c1 := V_5.c1
  have V_5c2 := V_5.c2
  have V_5l : w1.heap.size + 1 < w5.heap.size := V_5.1
  have V_5n : ¬ w1.heap.size + 1 = w5.heap.size := by omega
  have P_5c0 := P_5.c0
  have P_5c1 := P_5.c1
  have P_5c2 := P_5.c2
  have P_5l : w2.heap.size < w5.heap.size := P_5.1
  have P_5n : ¬ w2.heap.size = w5.heap.size := by omega
  have Q_5c0 := Q_5.c0
  have Q_5c1 := Q_5.c1
  have Q_5c2 := Q_5.c2
  have Q_5l : w3.heap.size < w5.heap.size := Q_5.1
  have Q_5n : ¬ w3.heap.size = w5.heap.size := by omega
  have X_5c0 := X_5.c0
  have X_5c1 := X_5.c1
  have X_5c2 := X_5.c2
  have X_5l : w4.heap.size < w5.heap.size := X_5.1
  have X_5n : ¬ w4.heap.size = w5.heap.size := by omega
  go_wp2_with fail
  refine (drawSub_any a0 len cap _ (by omega) (hB.grow (Below.alloc (B5) (by have := B5.size; first | omega | (simp <;> omega)) _) (by have := B5.size; first | omega | (simp <;> omega)))).mono ?_
  rintro e w6 ⟨n, rfl, hb6⟩
  have U_6 : Kt (w1.heap.size) a b c w6 := Kt.call (Kt.alloc U_5 _) hb6
  have V_6 : Kt (w1.heap.size + 1) a' b' c' w6 := Kt.call (Kt.alloc V_5 _) hb6
  have P_6 : Kt (w2.heap.size) (joinR a b c a' b' c').1 (joinR a b c a' b' c').2.1 (joinR a b c a' b' c').2.2.1 w6 := Kt.call (Kt.alloc P_5 _) hb6
  have Q_6 : Kt (w3.heap.size) (joinR a b c a' b' c').1 (joinR a b c a' b' c').2.1 (joinR a b c a' b' c').2.2.1 w6 := Kt.call (Kt.alloc Q_5 _) hb6
  have X_6 : Kt (w4.heap.size) (meetR a b c a' b' c').1 (meetR a b c a' b' c').2.1 (meetR a b c a' b' c').2.2.1 w6 := Kt.call (Kt.alloc X_5 _) hb6
  have Y_6 : Kt (w5.heap.size) (meetR a b c a' b' c').1 (meetR a b c a' b' c').2.1 (meetR a b c a' b' c').2.2.1 w6 := Kt.call (Kt.at (w5.heap.size) (by simp) : Kt (w5.heap.size) (meetR a b c a' b' c').1 (meetR a b c a' b' c').2.1 (meetR a b c a' b' c').2.2.1 _) hb6
  have B6 : Below w.heap.size w w6 := bstep (Below.alloc (B5) (by have := B5.size; first | omega | (simp <;> omega)) _) hb6
  clear hb6 U_5 V_5 P_5 Q_5 X_5 B5 U_5c0 U_5c1 U_5c2 U_5l U_5n V_5c0 V_5c1 V_5c2 V_5l V_5n P_5c0 P_5c1 P_5c2 P_5l P_5n Q_5c0 Q_5c1 Q_5c2 Q_5l Q_5n X_5c0 X_5c1 X_5c2 X_5l X_5n
  have U_6c0 := U_6.c0
  have U_6c1 := U_6.c1
  have U_6c2 := U_6.c2
  have U_6l : w1.heap.size < w6.heap.size := U_6.1
  have U_6n : ¬ w1.heap.size = w6.heap.size := by omega
  have V_6c0 := V_6.c0
  have V_6c1 := V_6.c1
  have V_6c2 := V_6.c2
  have V_6l : w1.heap.size + 1 < w6.heap.size := V_6.1
  have V_6n : ¬ w1.heap.size + 1 = w6.heap.size := by omega
  have P_6c0 := P_6.c0
  have P_6c1 := P_6.c1
  have P_6c2 := P_6.c2
  have P_6l : w2.heap.size < w6.heap.size := P_6.1
  have P_6n : ¬ w2.heap.size = w6.heap.size := by omega
  have Q_6c0 := Q_6.c0
  have Q_6c1 := Q_6.c1
  have Q_6c2 := Q_6.c2
  have Q_6l : w3.heap.size < w6.heap.size := Q_6.1
  have Q_6n : ¬ w3.heap.size = w6.heap.size := by omega
  have X_6c0 := X_6.c0
  have X_6c1 := X_6.c1
  have X_6c2 := X_6.c2
  have X_6l : w4.heap.size < w6.heap.size := X_6.1
  have X_6n : ¬ w4.heap.size = w6.heap.size := by omega
  have Y_6c0 := Y_6.c0
  have Y_6c1 := Y_6.c1
  have Y_6c2 := Y_6.c2
  have Y_6l : w5.heap.size < w6.heap.size := Y_6.1
  have Y_6n : ¬ w5.heap.size = w6.heap.size := by omega
  go_wp2_with fail
  refine (implSub_any n _).mono ?_
  rintro e w7 ⟨v1, rfl, s1, hb7⟩
  have U_7 : Kt (w1.heap.size) a b c w7 := Kt.call U_6 hb7
  have V_7 : Kt (w1.heap.size + 1) a' b' c' w7 := Kt.call V_6 hb7
  have P_7 : Kt (w2.heap.size) (joinR a b c a' b' c').1 (joinR a b c a' b' c').2.1 (joinR a b c a' b' c').2.2.1 w7 := Kt.call P_6 hb7
  have Q_7 : Kt (w3.heap.size) (joinR a b c a' b' c').1 (joinR a b c a' b' c').2.1 (joinR a b c a' b' c').2.2.1 w7 := Kt.call Q_6 hb7
  have X_7 : Kt (w4.heap.size) (meetR a b c a' b' c').1 (meetR a b c a' b' c').2.1 (meetR a b c a' b' c').2.2.1 w7 := Kt.call X_6 hb7
  have Y_7 : Kt (w5.heap.size) (meetR a b c a' b' c').1 (meetR a b c a' b' c').2.1 (meetR a b c a' b' c').2.2.1 w7 := Kt.call Y_6 hb7
  have B7 : Below w.heap.size w w7 := bstep (B6) hb7
  clear hb7 U_6 V_6 P_6 Q_6 X_6 Y_6 B6 U_6c0 U_6c1 U_6c2 U_6l U_6n V_6c0 V_6c1 V_6c2 V_6l V_6n P_6c0 P_6c1 P_6c2 P_6l P_6n Q_6c0 Q_6c1 Q_6c2 Q_6l Q_6n X_6c0 X_6c1 X_6c2 X_6l X_6n Y_6c0 Y_6c1 Y_6c2 Y_6l Y_6n
  have U_7c0 := U_7.c0
  have U_7c1 := U_7.c1
  have U_7c2 := U_7.c2
  have U_7l : w1.heap.size < w7.heap.size := U_7.1
  have U_7n : ¬ w1.heap.size = w7.heap.size := by omega
  have V_7c0 := V_7.c0
  have V_7c1 := V_7.c1
  have V_7c2 := V_7.c2
  have V_7l : w1.heap.size + 1 < w7.heap.size := V_7.1
  have V_7n : ¬ w1.heap.size + 1 = w7.heap.size := by omega
  have P_7c0 := P_7.c0
  have P_7c1 := P_7.c1
  have P_7c2 := P_7.c2
  have P_7l : w2.heap.size < w7.heap.size := P_7.1
  have P_7n : ¬ w2.heap.size = w7.heap.size := by omega
  have Q_7c0 := Q_7.c0
  have Q_7c1 := Q_7.c1
  have Q_7c2 := Q_7.c2
  have Q_7l : w3.heap.size < w7.heap.size := Q_7.1
  have Q_7n : ¬ w3.heap.size = w7.heap.size := by omega
  have X_7c0 := X_7.c0
  have X_7c1 := X_7.c1
  have X_7c2 := X_7.c2
  have X_7l : w4.heap.size < w7.heap.size := X_7.1
  have X_7n : ¬ w4.heap.size = w7.heap.size := by omega
  have Y_7c0 := Y_7.c0
  have Y_7c1 := Y_7.c1
  have Y_7c2 := Y_7.c2
  have Y_7l : w5.heap.size < w7.heap.size := Y_7.1
  have Y_7n : ¬ w5.heap.size = w7.heap.size := by omega
  go_wp2_with fail
  refine (specSub_any n _).mono ?_
  rintro e w8 ⟨v2, rfl, s2, hb8⟩
  have t1 := s1.call hb8
  clear s1
  have U_8 : Kt (w1.heap.size) a b c w8 := Kt.call U_7 hb8
  have V_8 : Kt (w1.heap.size + 1) a' b' c' w8 := Kt.call V_7 hb8
  have P_8 : Kt (w2.heap.size) (joinR a b c a' b' c').1 (joinR a b c a' b' c').2.1 (joinR a b c a' b' c').2.2.1 w8 := Kt.call P_7 hb8
  have Q_8 : Kt (w3.heap.size) (joinR a b c a' b' c').1 (joinR a b c a' b' c').2.1 (joinR a b c a' b' c').2.2.1 w8 := Kt.call Q_7 hb8
  have X_8 : Kt (w4.heap.size) (meetR a b c a' b' c').1 (meetR a b c a' b' c').2.1 (meetR a b c a' b' c').2.2.1 w8 := Kt.call X_7 hb8
  have Y_8 : Kt (w5.heap.size) (meetR a b c a' b' c').1 (meetR a b c a' b' c').2.1 (meetR a b c a' b' c').2.2.1 w8 := Kt.call Y_7 hb8
  have B8 : Below w.heap.size w w8 := bstep (B7) hb8
  clear hb8 U_7 V_7 P_7 Q_7 X_7 Y_7 B7 U_7c0 U_7c1 U_7c2 U_7l U_7n V_7c0 V_7c1 V_7c2 V_7l V_7n P_7c0 P_7c1 P_7c2 P_7l P_7n Q_7c0 Q_7c1 Q_7c2 Q_7l Q_7n X_7c0 X_7c1 X_7c2 X_7l X_7n Y_7c0 Y_7c1 Y_7c2 Y_7l Y_7n
  have U_8c0 := U_8.c0
  have U_8c1 := U_8.c1
  have U_8c2 := U_8.c2
  have U_8l : w1.heap.size < w8.heap.size := U_8.1
  have U_8n : ¬ w1.heap.size = w8.heap.size := by omega
  have V_8c0 := V_8.c0
  have V_8c1 := V_8.c1
  have V_8c2 := V_8.c2
  have V_8l : w1.heap.size + 1 < w8.heap.size := V_8.1
  have V_8n : ¬ w1.heap.size + 1 = w8.heap.size := by omega
  have P_8c0 := P_8.c0
  have P_8c1 := P_8.c1
  have P_8c2 := P_8.c2
  have P_8l : w2.heap.size < w8.heap.size := P_8.1
  have P_8n : ¬ w2.heap.size = w8.heap.size := by omega
  have Q_8c0 := Q_8.c0
  have Q_8c1 := Q_8.c1
  have Q_8c2 := Q_8.c2
  have Q_8l : w3.heap.size < w8.heap.size := Q_8.1
  have Q_8n : ¬ w3.heap.size = w8.heap.size := by omega
  have X_8c0 := X_8.c0
  have X_8c1 := X_8.c1
  have X_8c2 := X_8.c2
  have X_8l : w4.heap.size < w8.heap.size := X_8.1
  have X_8n : ¬ w4.heap.size = w8.heap.size := by omega
  have Y_8c0 := Y_8.c0
  have Y_8c1 := Y_8.c1
  have Y_8c2 := Y_8.c2
  have Y_8l : w5.heap.size < w8.heap.size := Y_8.1
  have Y_8n : ¬ w5.heap.size = w8.heap.size := by omega
  go_wp2_with fail
  refine (likeLattices9_any t1 s2).mono ?_
  rintro e w9 ⟨rfl, hb9⟩
  have t2 := t1.call hb9
  clear t1 s2
  have U_9 : Kt (w1.heap.size) a b c w9 := Kt.call U_8 hb9
  have V_9 : Kt (w1.heap.size + 1) a' b' c' w9 := Kt.call V_8 hb9
  have P_9 : Kt (w2.heap.size) (joinR a b c a' b' c').1 (joinR a b c a' b' c').2.1 (joinR a b c a' b' c').2.2.1 w9 := Kt.call P_8 hb9
  have Q_9 : Kt (w3.heap.size) (joinR a b c a' b' c').1 (joinR a b c a' b' c').2.1 (joinR a b c a' b' c').2.2.1 w9 := Kt.call Q_8 hb9
  have X_9 : Kt (w4.heap.size) (meetR a b c a' b' c').1 (meetR a b c a' b' c').2.1 (meetR a b c a' b' c').2.2.1 w9 := Kt.call X_8 hb9
  have Y_9 : Kt (w5.heap.size) (meetR a b c a' b' c').1 (meetR a b c a' b' c').2.1 (meetR a b c a' b' c').2.2.1 w9 := Kt.call Y_8 hb9
  have B9 : Below w.heap.size w w9 := bstep (B8) hb9
  clear hb9 U_8 V_8 P_8 Q_8 X_8 Y_8 B8 U_8c0 U_8c1 U_8c2 U_8l U_8n V_8c0 V_8c1 V_8c2 V_8l V_8n P_8c0 P_8c1 P_8c2 P_8l P_8n Q_8c0 Q_8c1 Q_8c2 Q_8l Q_8n X_8c0 X_8c1 X_8c2 X_8l X_8n Y_8c0 Y_8c1 Y_8c2 Y_8l Y_8n
  have U_9c0 := U_9.c0
  have U_9c1 := U_9.c1
  have U_9c2 := U_9.c2
  have U_9l : w1.heap.size < w9.heap.size := U_9.1
  have U_9n : ¬ w1.heap.size = w9.heap.size := by omega
  have V_9c0 := V_9.c0
  have V_9c1 := V_9.c1
  have V_9c2 := V_9.c2
  have V_9l : w1.heap.size + 1 < w9.heap.size := V_9.1
  have V_9n : ¬ w1.heap.size + 1 = w9.heap.size := by omega
  have P_9c0 := P_9.c0
  have P_9c1 := P_9.c1
  have P_9c2 := P_9.c2
  have P_9l : w2.heap.size < w9.heap.size := P_9.1
  have P_9n : ¬ w2.heap.size = w9.heap.size := by omega
  have Q_9c0 := Q_9.c0
  have Q_9c1 := Q_9.c1
  have Q_9c2 := Q_9.c2
  have Q_9l : w3.heap.size < w9.heap.size := Q_9.1
  have Q_9n : ¬ w3.heap.size = w9.heap.size := by omega
  have X_9c0 := X_9.c0
  have X_9c1 := X_9.c1
  have X_9c2 := X_9.c2
  have X_9l : w4.heap.size < w9.heap.size := X_9.1
  have X_9n : ¬ w4.heap.size = w9.heap.size := by omega
  have Y_9c0 := Y_9.c0
  have Y_9c1 := Y_9.c1
  have Y_9c2 := Y_9.c2
  have Y_9l : w5.heap.size < w9.heap.size := Y_9.1
  have Y_9n : ¬ w5.heap.size = w9.heap.size := by omega
  rcases hs : subN n with _ | _
  · have hc : (subC n == 0) = false := by simp [subC, hs]
    clear t2
    by_cases h1 : (meetR a b c a' b' c').2.2.2 = 0
    · have J := joins_ok h1
      have h1b : ((meetR a b c a' b' c').2.2.2 != 0) = false := by simp [h1]
      have h2b : ((joinR a b c a' b' c').2.2.2 == 0) = true := by simp [J.e]
      obtain ⟨_, ⟨p1, p2⟩, ⟨p3, p4⟩, ⟨p5, p6⟩, ⟨p7, p8⟩, ⟨p9, p10⟩, ⟨p11, p12⟩, eq⟩ := J
      have heq : ((joinR a b c a' b' c').1 * (joinR a b c a' b' c').2.2.1 * (meetR a b c a' b' c').1 * (meetR a b c a' b' c').2.2.1 == a * c * a' * c') = true := by simp [eq]
      clear h1 eq
      go_wp2
      go_ret
      exact ⟨rfl, B9⟩
    · have h1b : ((meetR a b c a' b' c').2.2.2 != 0) = true := by simp [h1]
      clear h1
      go_wp2
      go_ret
      exact ⟨rfl, B9⟩
  · have hc : (subC n == 0) = true := by simp [subC, hs]
    have hn : 1 ≤ n ∧ n ≤ 64 := by simp [subN, inB] at hs; omega
    have hl : subL n = subP n.toNat n.toNat := by rw [subL, hs]; simp
    rw [hl] at t2
    obtain ⟨m, rfl⟩ : ∃ m : Nat, n = (m : Int) := ⟨n.toNat, by omega⟩
    rw [Int.toNat_natCast] at t2
    clear hs hl
    have T2 := Lib.hid t2
    clear t2
    obtain ⟨ao, cp, rfl⟩ : ∃ ao cp, v1 = .slice ao (subP m m).length cp := by
      obtain ⟨_, _, ⟨h0, ao, cp, rfl⟩ | ⟨g, cp, rfl, _⟩⟩ := T2.out
      · exact ⟨ao, cp, by rw [h0]⟩
      · exact ⟨_, cp, rfl⟩
    have HN := Lib.hid hn
    have HB := Lib.hid B9
    clear hn
    go_wp2_with fail
    go_loopw [18, 19] (fun s d W => ∃ k : Nat, d = .int .i64 (k : Int) ∧ 1 ≤ k ∧ k ≤ m + 1 ∧ s = .int .i64 ((subP m (k - 1)).length : Int) ∧ W = w9) (fun _ d _ => m + 1 - (intOf d).toNat)
    case atStart => exact ⟨1, rfl, by omega, by omega, rfl, rfl⟩
    case round =>
      obtain ⟨k, rfl, hk1, hk2, rfl, rfl⟩ := hrel
      obtain ⟨hn1, hn2⟩ := HN.out
      by_cases hk3 : k ≤ m
      · have hk4 : (k : Int) ≤ (m : Int) := by omega
        have hk0 : ¬ ((k : Int) = 0) := by omega
        have hm1 : (m : Int).tmod (k : Int) = ((m % k : Nat) : Int) := rfl
        have hs := subP_sum m k hk1
        have hsm := subP_len m (k - 1) (by omega)
        have hr5 : ((m % k : Nat) : Int) ≤ 64 := by have := Nat.mod_lt m (show k > 0 by omega); omega
        have hr6 : 0 ≤ ((m % k : Nat) : Int) := by omega
        have hd1 : (((subP m (k - 1)).length : Nat) : Int) ≤ 4096 := by omega
        have hk5 : (k : Int) ≤ 64 := by omega
        have HK := Lib.hid (show 1 ≤ k ∧ k ≤ m ∧ m ≤ 64 from ⟨hk1, hk3, by omega⟩)
        by_cases hm : m % k = 0
        · rw [hm] at hm1
          rw [if_pos hm] at hs
          have HS := Lib.hid hs
          clear hs hsm hr5 hr6 hm hk1 hk2 hk3 hn1 hn2
          go_wp2
          obtain ⟨hk1, hk3, _⟩ := HK.out
          have hs := HS.out
          go_roundw
          case rel => exact ⟨k + 1, by go_num, by omega, by omega, by rw [show k + 1 - 1 = k by omega, hs]; go_num, by first | trivial | rfl⟩
          case measure => first | (simp [intOf]; done) | (simp [intOf]; omega)
        · have hr3 : ¬ (((m % k : Nat) : Int) = 0) := by omega
          rw [if_neg hm] at hs
          have HS := Lib.hid hs
          generalize ((m % k : Nat) : Int) = r at hm1 hr3 hr5 hr6
          have hr7 : (r == 0) = false := by simpa using hr3
          clear hs hsm hm hk1 hk2 hk3 hn1 hn2
          go_wp2
          obtain ⟨hk1, hk3, _⟩ := HK.out
          have hs := HS.out
          go_roundw
          case rel => exact ⟨k + 1, by go_num, by omega, by omega, by rw [show k + 1 - 1 = k by omega, hs]; go_num, by first | trivial | rfl⟩
          case measure => first | (simp [intOf]; done) | (simp [intOf]; omega)
      · obtain rfl : k = m + 1 := by omega
        rw [show m + 1 - 1 = m by omega]
        have g3 : ¬ (((m + 1 : Nat) : Int) ≤ (m : Int)) := by omega
        have hsm : (((subP m m).length : Nat) : Int) ≤ 4096 := by have := subP_len m m (by omega); omega
        clear hk1 hk2 hk3 hn1 hn2
        generalize m + 1 = k at *
        have B9 := HB.out
        by_cases h1 : (meetR a b c a' b' c').2.2.2 = 0
        · have J := joins_ok h1
          have h1b : ((meetR a b c a' b' c').2.2.2 != 0) = false := by simp [h1]
          have h2b : ((joinR a b c a' b' c').2.2.2 == 0) = true := by simp [J.e]
          obtain ⟨_, ⟨p1, p2⟩, ⟨p3, p4⟩, ⟨p5, p6⟩, ⟨p7, p8⟩, ⟨p9, p10⟩, ⟨p11, p12⟩, eq⟩ := J
          have heq : ((joinR a b c a' b' c').1 * (joinR a b c a' b' c').2.2.1 * (meetR a b c a' b' c').1 * (meetR a b c a' b' c').2.2.1 == a * c * a' * c') = true := by simp [eq]
          clear h1 eq
          go_wp2
          go_ret
          exact ⟨rfl, B9⟩
        · have h1b : ((meetR a b c a' b' c').2.2.2 != 0) = true := by simp [h1]
          clear h1
          go_wp2
          go_ret
          exact ⟨rfl, B9⟩
end Go.Proofs.Ytlalibefmnenjaa
