/-
  The walk of the law FnMotions: it returns true at every code and writes nothing that was there. Conditions: the code's bytes can be read; the program's variable unitMatrix holds the unit.
-/
import Derived.Test.YtpdekopmnchanabDoorMoG
import Derived.Test.YtpdekopmnchanabDoorDrawM2
import Derived.Deep.RegionHeld3
import Derived.ProofKit
import Derived.OpenShut
namespace Go.Proofs.YtpdekopmnchanabDoor
open Go.RowKit Go.ChangeShapes Go.WideShapes Go.ChangeAt
set_option linter.unusedSimpArgs false
set_option linter.unusedVariables false

attribute [local go_sem ↓] eqMoR
def IsRow (k : IntKind) (w : World) (a : Option Addr) (len cap : Nat) (zs : List Int) : Prop :=
  (a = none ∧ len = 0 ∧ cap = 0 ∧ zs = []) ∨
  ∃ x, a = some x ∧ len ≤ cap ∧ cap ≤ maxLen ∧ zs.length = cap ∧ (∀ i, i < zs.length → w.cell? (x.add i) = some (.int k (zs.getD i 0))) ∧ ∀ n ∈ zs, (Lit.int k n).wf = true

theorem rowBts {w : World} {a0 : Option Addr} {len cap : Nat} {zs : List Int} (h : IsRow .u8 w a0 len cap zs) : Bts a0 len w.heap.size w := by
  rcases h with ⟨_, h, _, _⟩ | ⟨x, rfl, h1, h2, h3, h4, h5⟩
  · exact .inl h
  · by_cases h0 : len = 0
    · exact .inl h0
    · obtain ⟨b, off, rfl, hc⟩ := ints_at h4 (by omega)
      refine .inr ⟨b, off, rfl, World.block_lt_of_cell? _ _ (hc 0 (by omega)), fun i hi => ?_⟩
      have hb := bounds_u8 (h5 (zs.getD i 0) (by
        rw [List.getD_eq_getElem?_getD, List.getElem?_eq_getElem (by omega)]
        exact List.getElem_mem _))
      exact ⟨_, hb.1, hb.2, hc i (by omega)⟩

set_option maxRecDepth 100000 in
set_option maxHeartbeats 8000000 in
theorem walkMotions (a0 : Option Addr) (len cap : Nat) (zs : List Int) (w : World) (w0 : IsRow .u8 w a0 len cap zs) (hU : UnitOK w) :
    Calls Tryd.prog 3 #[.slice a0 len cap] w fun e w' => e = .returned (.bool true) ∧ Below w.heap.size w w' := by
  have U0 : Kq (0) 1 0 0 1 w := hU
  have B0 : Below w.heap.size w w := Below.refl _ _
  by_cases hbig : 4096 < len
  · have hb1 : (4096 : Int) < (len : Int) := by omega
    have hb2 : len ≤ 9223372036854775807 := by
      rcases w0 with ⟨_, h, _, _⟩ | ⟨x, rfl, h1, h2, h3, h4, h5⟩
      · omega
      · unfold maxLen at h2; omega
    go_enter Tryd.func3, Tryd.ntmps3
    go_wp2
    go_ret
    exact ⟨rfl, Below.refl _ _⟩
  have hB := rowBts w0
  have hl : len ≤ 4096 := by omega
  clear w0
  go_enter Tryd.func3, Tryd.ntmps3
  go_wp2_with (go_at_call 5; go_in)
  refine (drawCmp_any a0 len cap _ (by omega) (hB.grow B0 (by have := B0.size; first | omega | (simp <;> omega)))).mono ?_
  rintro e w1 ⟨a, b, c, d, x, y, a', b', c', d', x', y', rfl, hb1⟩
  have U1 : Kq (0) 1 0 0 1 w1 := Kq.call U0 hb1
  have B1 : Below w.heap.size w w1 := bstep B0 hb1
  clear hb1 B0 U0
  have U1c0 := U1.c0
  have U1c1 := U1.c1
  have U1c2 := U1.c2
  have U1c3 := U1.c3
  have U1l := U1.1
  have U1n : ¬ 0 = w1.heap.size := by omega
  go_wp2_with fail
  refine (implCmp_any _ _ _ _ _ _ _ _ _ _ _ _ _ ((U1.alloc _).alloc _)).mono ?_
  rintro e w2 ⟨he, hb2⟩
  unfold motT at he
  subst he
  have U2 : Kq (0) 1 0 0 1 w2 := Kq.call ((U1.alloc _).alloc _) hb2
  have M2 : Km (w1.heap.size) a b c d x y w2 := ((Km.at (w1.heap.size) (by simp) : Km (w1.heap.size) a b c d x y _).alloc _).call hb2
  have N2 : Km (w1.heap.size + 1) a' b' c' d' x' y' w2 := (Km.at (w1.heap.size + 1) (by simp) : Km (w1.heap.size + 1) a' b' c' d' x' y' _).call hb2
  have B2 : Below w.heap.size w w2 := bstep (Below.alloc (Below.alloc B1 (by have := B1.size; first | omega | (simp <;> omega)) _) (by have := B1.size; first | omega | (simp <;> omega)) _) hb2
  clear hb2 B1 U1
  clear U1c0 U1c1 U1c2 U1c3 U1l U1n
  have U2c0 := U2.c0
  have U2c1 := U2.c1
  have U2c2 := U2.c2
  have U2c3 := U2.c3
  have U2l := U2.1
  have U2n : ¬ 0 = w2.heap.size := by omega
  have M2c0 := M2.c0
  have M2c1 := M2.c1
  have M2c2 := M2.c2
  have M2c3 := M2.c3
  have M2c4 := M2.c4
  have M2c5 := M2.c5
  have M2l := M2.1
  have M2n : ¬ w1.heap.size = w2.heap.size := by omega
  have N2c0 := N2.c0
  have N2c1 := N2.c1
  have N2c2 := N2.c2
  have N2c3 := N2.c3
  have N2c4 := N2.c4
  have N2c5 := N2.c5
  have N2l := N2.1
  have N2n : ¬ w1.heap.size + 1 = w2.heap.size := by omega
  go_wp2_with fail
  refine (specCmp_any _ _ _ _ _ _ _ _ _ _ _ _ _).mono ?_
  rintro e w3 ⟨he, hb3⟩
  unfold motT at he
  subst he
  have U3 : Kq (0) 1 0 0 1 w3 := Kq.call (U2.alloc _) hb3
  have M3 : Km (w1.heap.size) a b c d x y w3 := Km.call (M2.alloc _) hb3
  have N3 : Km (w1.heap.size + 1) a' b' c' d' x' y' w3 := Km.call (N2.alloc _) hb3
  have P3 : Km (w2.heap.size) ((cmpR a b c d x y a' b' c' d' x' y').1) ((cmpR a b c d x y a' b' c' d' x' y').2.1) ((cmpR a b c d x y a' b' c' d' x' y').2.2.1) ((cmpR a b c d x y a' b' c' d' x' y').2.2.2.1) ((cmpR a b c d x y a' b' c' d' x' y').2.2.2.2.1) ((cmpR a b c d x y a' b' c' d' x' y').2.2.2.2.2.1) w3 := (Km.at (w2.heap.size) (by simp) : Km (w2.heap.size) ((cmpR a b c d x y a' b' c' d' x' y').1) ((cmpR a b c d x y a' b' c' d' x' y').2.1) ((cmpR a b c d x y a' b' c' d' x' y').2.2.1) ((cmpR a b c d x y a' b' c' d' x' y').2.2.2.1) ((cmpR a b c d x y a' b' c' d' x' y').2.2.2.2.1) ((cmpR a b c d x y a' b' c' d' x' y').2.2.2.2.2.1) _).call hb3
  have B3 : Below w.heap.size w w3 := bstep (Below.alloc B2 (by have := B2.size; first | omega | (simp <;> omega)) _) hb3
  clear hb3 B2 U2 M2 N2
  clear U2c0 U2c1 U2c2 U2c3 U2l U2n M2c0 M2c1 M2c2 M2c3 M2c4 M2c5 M2l M2n N2c0 N2c1 N2c2 N2c3 N2c4 N2c5 N2l N2n
  have U3c0 := U3.c0
  have U3c1 := U3.c1
  have U3c2 := U3.c2
  have U3c3 := U3.c3
  have U3l := U3.1
  have U3n : ¬ 0 = w3.heap.size := by omega
  have M3c0 := M3.c0
  have M3c1 := M3.c1
  have M3c2 := M3.c2
  have M3c3 := M3.c3
  have M3c4 := M3.c4
  have M3c5 := M3.c5
  have M3l := M3.1
  have M3n : ¬ w1.heap.size = w3.heap.size := by omega
  have N3c0 := N3.c0
  have N3c1 := N3.c1
  have N3c2 := N3.c2
  have N3c3 := N3.c3
  have N3c4 := N3.c4
  have N3c5 := N3.c5
  have N3l := N3.1
  have N3n : ¬ w1.heap.size + 1 = w3.heap.size := by omega
  have P3c0 := P3.c0
  have P3c1 := P3.c1
  have P3c2 := P3.c2
  have P3c3 := P3.c3
  have P3c4 := P3.c4
  have P3c5 := P3.c5
  have P3l := P3.1
  have P3n : ¬ w2.heap.size = w3.heap.size := by omega
  go_wp2_with fail
  refine (drawInvMo_any a0 len cap _ (by omega) (hB.grow (Below.alloc B3 (by have := B3.size; first | omega | (simp <;> omega)) _) (by have := B3.size; first | omega | (simp <;> omega)))).mono ?_
  rintro e w4 ⟨e1, e2, e3, e4, e5, e6, rfl, hb4⟩
  have U4 : Kq (0) 1 0 0 1 w4 := Kq.call (U3.alloc _) hb4
  have M4 : Km (w1.heap.size) a b c d x y w4 := Km.call (M3.alloc _) hb4
  have N4 : Km (w1.heap.size + 1) a' b' c' d' x' y' w4 := Km.call (N3.alloc _) hb4
  have P4 : Km (w2.heap.size) ((cmpR a b c d x y a' b' c' d' x' y').1) ((cmpR a b c d x y a' b' c' d' x' y').2.1) ((cmpR a b c d x y a' b' c' d' x' y').2.2.1) ((cmpR a b c d x y a' b' c' d' x' y').2.2.2.1) ((cmpR a b c d x y a' b' c' d' x' y').2.2.2.2.1) ((cmpR a b c d x y a' b' c' d' x' y').2.2.2.2.2.1) w4 := Km.call (P3.alloc _) hb4
  have Q4 : Km (w3.heap.size) ((cmpR a b c d x y a' b' c' d' x' y').1) ((cmpR a b c d x y a' b' c' d' x' y').2.1) ((cmpR a b c d x y a' b' c' d' x' y').2.2.1) ((cmpR a b c d x y a' b' c' d' x' y').2.2.2.1) ((cmpR a b c d x y a' b' c' d' x' y').2.2.2.2.1) ((cmpR a b c d x y a' b' c' d' x' y').2.2.2.2.2.1) w4 := (Km.at (w3.heap.size) (by simp) : Km (w3.heap.size) ((cmpR a b c d x y a' b' c' d' x' y').1) ((cmpR a b c d x y a' b' c' d' x' y').2.1) ((cmpR a b c d x y a' b' c' d' x' y').2.2.1) ((cmpR a b c d x y a' b' c' d' x' y').2.2.2.1) ((cmpR a b c d x y a' b' c' d' x' y').2.2.2.2.1) ((cmpR a b c d x y a' b' c' d' x' y').2.2.2.2.2.1) _).call hb4
  have B4 : Below w.heap.size w w4 := bstep (Below.alloc B3 (by have := B3.size; first | omega | (simp <;> omega)) _) hb4
  clear hb4 B3 U3 M3 N3 P3
  clear U3c0 U3c1 U3c2 U3c3 U3l U3n M3c0 M3c1 M3c2 M3c3 M3c4 M3c5 M3l M3n N3c0 N3c1 N3c2 N3c3 N3c4 N3c5 N3l N3n P3c0 P3c1 P3c2 P3c3 P3c4 P3c5 P3l P3n
  have U4c0 := U4.c0
  have U4c1 := U4.c1
  have U4c2 := U4.c2
  have U4c3 := U4.c3
  have U4l := U4.1
  have U4n : ¬ 0 = w4.heap.size := by omega
  have M4c0 := M4.c0
  have M4c1 := M4.c1
  have M4c2 := M4.c2
  have M4c3 := M4.c3
  have M4c4 := M4.c4
  have M4c5 := M4.c5
  have M4l := M4.1
  have M4n : ¬ w1.heap.size = w4.heap.size := by omega
  have N4c0 := N4.c0
  have N4c1 := N4.c1
  have N4c2 := N4.c2
  have N4c3 := N4.c3
  have N4c4 := N4.c4
  have N4c5 := N4.c5
  have N4l := N4.1
  have N4n : ¬ w1.heap.size + 1 = w4.heap.size := by omega
  have P4c0 := P4.c0
  have P4c1 := P4.c1
  have P4c2 := P4.c2
  have P4c3 := P4.c3
  have P4c4 := P4.c4
  have P4c5 := P4.c5
  have P4l := P4.1
  have P4n : ¬ w2.heap.size = w4.heap.size := by omega
  have Q4c0 := Q4.c0
  have Q4c1 := Q4.c1
  have Q4c2 := Q4.c2
  have Q4c3 := Q4.c3
  have Q4c4 := Q4.c4
  have Q4c5 := Q4.c5
  have Q4l := Q4.1
  have Q4n : ¬ w3.heap.size = w4.heap.size := by omega
  go_wp2_with fail
  refine (implInvMo_any _ _ _ _ _ _ _ (U4.alloc _)).mono ?_
  rintro e w5 ⟨he, hb5⟩
  unfold motT at he
  subst he
  have U5 : Kq (0) 1 0 0 1 w5 := Kq.call (U4.alloc _) hb5
  have M5 : Km (w1.heap.size) a b c d x y w5 := Km.call (M4.alloc _) hb5
  have N5 : Km (w1.heap.size + 1) a' b' c' d' x' y' w5 := Km.call (N4.alloc _) hb5
  have P5 : Km (w2.heap.size) ((cmpR a b c d x y a' b' c' d' x' y').1) ((cmpR a b c d x y a' b' c' d' x' y').2.1) ((cmpR a b c d x y a' b' c' d' x' y').2.2.1) ((cmpR a b c d x y a' b' c' d' x' y').2.2.2.1) ((cmpR a b c d x y a' b' c' d' x' y').2.2.2.2.1) ((cmpR a b c d x y a' b' c' d' x' y').2.2.2.2.2.1) w5 := Km.call (P4.alloc _) hb5
  have Q5 : Km (w3.heap.size) ((cmpR a b c d x y a' b' c' d' x' y').1) ((cmpR a b c d x y a' b' c' d' x' y').2.1) ((cmpR a b c d x y a' b' c' d' x' y').2.2.1) ((cmpR a b c d x y a' b' c' d' x' y').2.2.2.1) ((cmpR a b c d x y a' b' c' d' x' y').2.2.2.2.1) ((cmpR a b c d x y a' b' c' d' x' y').2.2.2.2.2.1) w5 := Km.call (Q4.alloc _) hb5
  have A5 : Km (w4.heap.size) e1 e2 e3 e4 e5 e6 w5 := (Km.at (w4.heap.size) (by simp) : Km (w4.heap.size) e1 e2 e3 e4 e5 e6 _).call hb5
  have B5 : Below w.heap.size w w5 := bstep (Below.alloc B4 (by have := B4.size; first | omega | (simp <;> omega)) _) hb5
  clear hb5 B4 U4 M4 N4 P4 Q4
  clear U4c0 U4c1 U4c2 U4c3 U4l U4n M4c0 M4c1 M4c2 M4c3 M4c4 M4c5 M4l M4n N4c0 N4c1 N4c2 N4c3 N4c4 N4c5 N4l N4n P4c0 P4c1 P4c2 P4c3 P4c4 P4c5 P4l P4n Q4c0 Q4c1 Q4c2 Q4c3 Q4c4 Q4c5 Q4l Q4n
  have U5c0 := U5.c0
  have U5c1 := U5.c1
  have U5c2 := U5.c2
  have U5c3 := U5.c3
  have U5l := U5.1
  have U5n : ¬ 0 = w5.heap.size := by omega
  have M5c0 := M5.c0
  have M5c1 := M5.c1
  have M5c2 := M5.c2
  have M5c3 := M5.c3
  have M5c4 := M5.c4
  have M5c5 := M5.c5
  have M5l := M5.1
  have M5n : ¬ w1.heap.size = w5.heap.size := by omega
  have N5c0 := N5.c0
  have N5c1 := N5.c1
  have N5c2 := N5.c2
  have N5c3 := N5.c3
  have N5c4 := N5.c4
  have N5c5 := N5.c5
  have N5l := N5.1
  have N5n : ¬ w1.heap.size + 1 = w5.heap.size := by omega
  have P5c0 := P5.c0
  have P5c1 := P5.c1
  have P5c2 := P5.c2
  have P5c3 := P5.c3
  have P5c4 := P5.c4
  have P5c5 := P5.c5
  have P5l := P5.1
  have P5n : ¬ w2.heap.size = w5.heap.size := by omega
  have Q5c0 := Q5.c0
  have Q5c1 := Q5.c1
  have Q5c2 := Q5.c2
  have Q5c3 := Q5.c3
  have Q5c4 := Q5.c4
  have Q5c5 := Q5.c5
  have Q5l := Q5.1
  have Q5n : ¬ w3.heap.size = w5.heap.size := by omega
  have A5c0 := A5.c0
  have A5c1 := A5.c1
  have A5c2 := A5.c2
  have A5c3 := A5.c3
  have A5c4 := A5.c4
  have A5c5 := A5.c5
  have A5l := A5.1
  have A5n : ¬ w4.heap.size = w5.heap.size := by omega
  go_wp2_with fail
  refine (specInvMo_any _ _ _ _ _ _ _).mono ?_
  rintro e w6 ⟨he, hb6⟩
  unfold motT at he
  subst he
  have U6 : Kq (0) 1 0 0 1 w6 := Kq.call (U5.alloc _) hb6
  have M6 : Km (w1.heap.size) a b c d x y w6 := Km.call (M5.alloc _) hb6
  have N6 : Km (w1.heap.size + 1) a' b' c' d' x' y' w6 := Km.call (N5.alloc _) hb6
  have P6 : Km (w2.heap.size) ((cmpR a b c d x y a' b' c' d' x' y').1) ((cmpR a b c d x y a' b' c' d' x' y').2.1) ((cmpR a b c d x y a' b' c' d' x' y').2.2.1) ((cmpR a b c d x y a' b' c' d' x' y').2.2.2.1) ((cmpR a b c d x y a' b' c' d' x' y').2.2.2.2.1) ((cmpR a b c d x y a' b' c' d' x' y').2.2.2.2.2.1) w6 := Km.call (P5.alloc _) hb6
  have Q6 : Km (w3.heap.size) ((cmpR a b c d x y a' b' c' d' x' y').1) ((cmpR a b c d x y a' b' c' d' x' y').2.1) ((cmpR a b c d x y a' b' c' d' x' y').2.2.1) ((cmpR a b c d x y a' b' c' d' x' y').2.2.2.1) ((cmpR a b c d x y a' b' c' d' x' y').2.2.2.2.1) ((cmpR a b c d x y a' b' c' d' x' y').2.2.2.2.2.1) w6 := Km.call (Q5.alloc _) hb6
  have A6 : Km (w4.heap.size) e1 e2 e3 e4 e5 e6 w6 := Km.call (A5.alloc _) hb6
  have I6 : Km (w5.heap.size) ((ibkR e1 e2 e3 e4 e5 e6).1) ((ibkR e1 e2 e3 e4 e5 e6).2.1) ((ibkR e1 e2 e3 e4 e5 e6).2.2.1) ((ibkR e1 e2 e3 e4 e5 e6).2.2.2.1) ((ibkR e1 e2 e3 e4 e5 e6).2.2.2.2.1) ((ibkR e1 e2 e3 e4 e5 e6).2.2.2.2.2.1) w6 := (Km.at (w5.heap.size) (by simp) : Km (w5.heap.size) ((ibkR e1 e2 e3 e4 e5 e6).1) ((ibkR e1 e2 e3 e4 e5 e6).2.1) ((ibkR e1 e2 e3 e4 e5 e6).2.2.1) ((ibkR e1 e2 e3 e4 e5 e6).2.2.2.1) ((ibkR e1 e2 e3 e4 e5 e6).2.2.2.2.1) ((ibkR e1 e2 e3 e4 e5 e6).2.2.2.2.2.1) _).call hb6
  have B6 : Below w.heap.size w w6 := bstep (Below.alloc B5 (by have := B5.size; first | omega | (simp <;> omega)) _) hb6
  clear hb6 B5 U5 M5 N5 P5 Q5 A5
  clear U5c0 U5c1 U5c2 U5c3 U5l U5n M5c0 M5c1 M5c2 M5c3 M5c4 M5c5 M5l M5n N5c0 N5c1 N5c2 N5c3 N5c4 N5c5 N5l N5n P5c0 P5c1 P5c2 P5c3 P5c4 P5c5 P5l P5n Q5c0 Q5c1 Q5c2 Q5c3 Q5c4 Q5c5 Q5l Q5n A5c0 A5c1 A5c2 A5c3 A5c4 A5c5 A5l A5n
  have U6c0 := U6.c0
  have U6c1 := U6.c1
  have U6c2 := U6.c2
  have U6c3 := U6.c3
  have U6l := U6.1
  have U6n : ¬ 0 = w6.heap.size := by omega
  have M6c0 := M6.c0
  have M6c1 := M6.c1
  have M6c2 := M6.c2
  have M6c3 := M6.c3
  have M6c4 := M6.c4
  have M6c5 := M6.c5
  have M6l := M6.1
  have M6n : ¬ w1.heap.size = w6.heap.size := by omega
  have N6c0 := N6.c0
  have N6c1 := N6.c1
  have N6c2 := N6.c2
  have N6c3 := N6.c3
  have N6c4 := N6.c4
  have N6c5 := N6.c5
  have N6l := N6.1
  have N6n : ¬ w1.heap.size + 1 = w6.heap.size := by omega
  have P6c0 := P6.c0
  have P6c1 := P6.c1
  have P6c2 := P6.c2
  have P6c3 := P6.c3
  have P6c4 := P6.c4
  have P6c5 := P6.c5
  have P6l := P6.1
  have P6n : ¬ w2.heap.size = w6.heap.size := by omega
  have Q6c0 := Q6.c0
  have Q6c1 := Q6.c1
  have Q6c2 := Q6.c2
  have Q6c3 := Q6.c3
  have Q6c4 := Q6.c4
  have Q6c5 := Q6.c5
  have Q6l := Q6.1
  have Q6n : ¬ w3.heap.size = w6.heap.size := by omega
  have A6c0 := A6.c0
  have A6c1 := A6.c1
  have A6c2 := A6.c2
  have A6c3 := A6.c3
  have A6c4 := A6.c4
  have A6c5 := A6.c5
  have A6l := A6.1
  have A6n : ¬ w4.heap.size = w6.heap.size := by omega
  have I6c0 := I6.c0
  have I6c1 := I6.c1
  have I6c2 := I6.c2
  have I6c3 := I6.c3
  have I6c4 := I6.c4
  have I6c5 := I6.c5
  have I6l := I6.1
  have I6n : ¬ w5.heap.size = w6.heap.size := by omega
  go_wp2_with fail
  refine (drawApmo_any a0 len cap _ (by omega) (hB.grow (Below.alloc B6 (by have := B6.size; first | omega | (simp <;> omega)) _) (by have := B6.size; first | omega | (simp <;> omega)))).mono ?_
  rintro e w7 ⟨f1, f2, f3, f4, f5, f6, p, q, rfl, hb7⟩
  have U7 : Kq (0) 1 0 0 1 w7 := Kq.call (U6.alloc _) hb7
  have M7 : Km (w1.heap.size) a b c d x y w7 := Km.call (M6.alloc _) hb7
  have N7 : Km (w1.heap.size + 1) a' b' c' d' x' y' w7 := Km.call (N6.alloc _) hb7
  have P7 : Km (w2.heap.size) ((cmpR a b c d x y a' b' c' d' x' y').1) ((cmpR a b c d x y a' b' c' d' x' y').2.1) ((cmpR a b c d x y a' b' c' d' x' y').2.2.1) ((cmpR a b c d x y a' b' c' d' x' y').2.2.2.1) ((cmpR a b c d x y a' b' c' d' x' y').2.2.2.2.1) ((cmpR a b c d x y a' b' c' d' x' y').2.2.2.2.2.1) w7 := Km.call (P6.alloc _) hb7
  have Q7 : Km (w3.heap.size) ((cmpR a b c d x y a' b' c' d' x' y').1) ((cmpR a b c d x y a' b' c' d' x' y').2.1) ((cmpR a b c d x y a' b' c' d' x' y').2.2.1) ((cmpR a b c d x y a' b' c' d' x' y').2.2.2.1) ((cmpR a b c d x y a' b' c' d' x' y').2.2.2.2.1) ((cmpR a b c d x y a' b' c' d' x' y').2.2.2.2.2.1) w7 := Km.call (Q6.alloc _) hb7
  have A7 : Km (w4.heap.size) e1 e2 e3 e4 e5 e6 w7 := Km.call (A6.alloc _) hb7
  have I7 : Km (w5.heap.size) ((ibkR e1 e2 e3 e4 e5 e6).1) ((ibkR e1 e2 e3 e4 e5 e6).2.1) ((ibkR e1 e2 e3 e4 e5 e6).2.2.1) ((ibkR e1 e2 e3 e4 e5 e6).2.2.2.1) ((ibkR e1 e2 e3 e4 e5 e6).2.2.2.2.1) ((ibkR e1 e2 e3 e4 e5 e6).2.2.2.2.2.1) w7 := Km.call (I6.alloc _) hb7
  have J7 : Km (w6.heap.size) ((ibkR e1 e2 e3 e4 e5 e6).1) ((ibkR e1 e2 e3 e4 e5 e6).2.1) ((ibkR e1 e2 e3 e4 e5 e6).2.2.1) ((ibkR e1 e2 e3 e4 e5 e6).2.2.2.1) ((ibkR e1 e2 e3 e4 e5 e6).2.2.2.2.1) ((ibkR e1 e2 e3 e4 e5 e6).2.2.2.2.2.1) w7 := (Km.at (w6.heap.size) (by simp) : Km (w6.heap.size) ((ibkR e1 e2 e3 e4 e5 e6).1) ((ibkR e1 e2 e3 e4 e5 e6).2.1) ((ibkR e1 e2 e3 e4 e5 e6).2.2.1) ((ibkR e1 e2 e3 e4 e5 e6).2.2.2.1) ((ibkR e1 e2 e3 e4 e5 e6).2.2.2.2.1) ((ibkR e1 e2 e3 e4 e5 e6).2.2.2.2.2.1) _).call hb7
  have B7 : Below w.heap.size w w7 := bstep (Below.alloc B6 (by have := B6.size; first | omega | (simp <;> omega)) _) hb7
  clear hb7 B6 U6 M6 N6 P6 Q6 A6 I6
  clear U6c0 U6c1 U6c2 U6c3 U6l U6n M6c0 M6c1 M6c2 M6c3 M6c4 M6c5 M6l M6n N6c0 N6c1 N6c2 N6c3 N6c4 N6c5 N6l N6n P6c0 P6c1 P6c2 P6c3 P6c4 P6c5 P6l P6n Q6c0 Q6c1 Q6c2 Q6c3 Q6c4 Q6c5 Q6l Q6n A6c0 A6c1 A6c2 A6c3 A6c4 A6c5 A6l A6n I6c0 I6c1 I6c2 I6c3 I6c4 I6c5 I6l I6n
  have U7c0 := U7.c0
  have U7c1 := U7.c1
  have U7c2 := U7.c2
  have U7c3 := U7.c3
  have U7l := U7.1
  have U7n : ¬ 0 = w7.heap.size := by omega
  have M7c0 := M7.c0
  have M7c1 := M7.c1
  have M7c2 := M7.c2
  have M7c3 := M7.c3
  have M7c4 := M7.c4
  have M7c5 := M7.c5
  have M7l := M7.1
  have M7n : ¬ w1.heap.size = w7.heap.size := by omega
  have N7c0 := N7.c0
  have N7c1 := N7.c1
  have N7c2 := N7.c2
  have N7c3 := N7.c3
  have N7c4 := N7.c4
  have N7c5 := N7.c5
  have N7l := N7.1
  have N7n : ¬ w1.heap.size + 1 = w7.heap.size := by omega
  have P7c0 := P7.c0
  have P7c1 := P7.c1
  have P7c2 := P7.c2
  have P7c3 := P7.c3
  have P7c4 := P7.c4
  have P7c5 := P7.c5
  have P7l := P7.1
  have P7n : ¬ w2.heap.size = w7.heap.size := by omega
  have Q7c0 := Q7.c0
  have Q7c1 := Q7.c1
  have Q7c2 := Q7.c2
  have Q7c3 := Q7.c3
  have Q7c4 := Q7.c4
  have Q7c5 := Q7.c5
  have Q7l := Q7.1
  have Q7n : ¬ w3.heap.size = w7.heap.size := by omega
  have A7c0 := A7.c0
  have A7c1 := A7.c1
  have A7c2 := A7.c2
  have A7c3 := A7.c3
  have A7c4 := A7.c4
  have A7c5 := A7.c5
  have A7l := A7.1
  have A7n : ¬ w4.heap.size = w7.heap.size := by omega
  have I7c0 := I7.c0
  have I7c1 := I7.c1
  have I7c2 := I7.c2
  have I7c3 := I7.c3
  have I7c4 := I7.c4
  have I7c5 := I7.c5
  have I7l := I7.1
  have I7n : ¬ w5.heap.size = w7.heap.size := by omega
  have J7c0 := J7.c0
  have J7c1 := J7.c1
  have J7c2 := J7.c2
  have J7c3 := J7.c3
  have J7c4 := J7.c4
  have J7c5 := J7.c5
  have J7l := J7.1
  have J7n : ¬ w6.heap.size = w7.heap.size := by omega
  go_wp2_with fail
  refine (implApmo_any _ _ _ _ _ _ _ _ _ ((U7.alloc _).alloc _)).mono ?_
  rintro e w8 ⟨he, hb8⟩
  unfold vecT at he
  subst he
  have U8 : Kq (0) 1 0 0 1 w8 := Kq.call ((U7.alloc _).alloc _) hb8
  have M8 : Km (w1.heap.size) a b c d x y w8 := Km.call ((M7.alloc _).alloc _) hb8
  have N8 : Km (w1.heap.size + 1) a' b' c' d' x' y' w8 := Km.call ((N7.alloc _).alloc _) hb8
  have P8 : Km (w2.heap.size) ((cmpR a b c d x y a' b' c' d' x' y').1) ((cmpR a b c d x y a' b' c' d' x' y').2.1) ((cmpR a b c d x y a' b' c' d' x' y').2.2.1) ((cmpR a b c d x y a' b' c' d' x' y').2.2.2.1) ((cmpR a b c d x y a' b' c' d' x' y').2.2.2.2.1) ((cmpR a b c d x y a' b' c' d' x' y').2.2.2.2.2.1) w8 := Km.call ((P7.alloc _).alloc _) hb8
  have Q8 : Km (w3.heap.size) ((cmpR a b c d x y a' b' c' d' x' y').1) ((cmpR a b c d x y a' b' c' d' x' y').2.1) ((cmpR a b c d x y a' b' c' d' x' y').2.2.1) ((cmpR a b c d x y a' b' c' d' x' y').2.2.2.1) ((cmpR a b c d x y a' b' c' d' x' y').2.2.2.2.1) ((cmpR a b c d x y a' b' c' d' x' y').2.2.2.2.2.1) w8 := Km.call ((Q7.alloc _).alloc _) hb8
  have A8 : Km (w4.heap.size) e1 e2 e3 e4 e5 e6 w8 := Km.call ((A7.alloc _).alloc _) hb8
  have I8 : Km (w5.heap.size) ((ibkR e1 e2 e3 e4 e5 e6).1) ((ibkR e1 e2 e3 e4 e5 e6).2.1) ((ibkR e1 e2 e3 e4 e5 e6).2.2.1) ((ibkR e1 e2 e3 e4 e5 e6).2.2.2.1) ((ibkR e1 e2 e3 e4 e5 e6).2.2.2.2.1) ((ibkR e1 e2 e3 e4 e5 e6).2.2.2.2.2.1) w8 := Km.call ((I7.alloc _).alloc _) hb8
  have J8 : Km (w6.heap.size) ((ibkR e1 e2 e3 e4 e5 e6).1) ((ibkR e1 e2 e3 e4 e5 e6).2.1) ((ibkR e1 e2 e3 e4 e5 e6).2.2.1) ((ibkR e1 e2 e3 e4 e5 e6).2.2.2.1) ((ibkR e1 e2 e3 e4 e5 e6).2.2.2.2.1) ((ibkR e1 e2 e3 e4 e5 e6).2.2.2.2.2.1) w8 := Km.call ((J7.alloc _).alloc _) hb8
  have G8 : Km (w7.heap.size) f1 f2 f3 f4 f5 f6 w8 := ((Km.at (w7.heap.size) (by simp) : Km (w7.heap.size) f1 f2 f3 f4 f5 f6 _).alloc _).call hb8
  have V8 : Kg (w7.heap.size + 1) p q w8 := (Kg.at2 (w7.heap.size + 1) (by simp) : Kg (w7.heap.size + 1) p q _).call hb8
  have B8 : Below w.heap.size w w8 := bstep (Below.alloc (Below.alloc B7 (by have := B7.size; first | omega | (simp <;> omega)) _) (by have := B7.size; first | omega | (simp <;> omega)) _) hb8
  clear hb8 B7 U7 M7 N7 P7 Q7 A7 I7 J7
  clear U7c0 U7c1 U7c2 U7c3 U7l U7n M7c0 M7c1 M7c2 M7c3 M7c4 M7c5 M7l M7n N7c0 N7c1 N7c2 N7c3 N7c4 N7c5 N7l N7n P7c0 P7c1 P7c2 P7c3 P7c4 P7c5 P7l P7n Q7c0 Q7c1 Q7c2 Q7c3 Q7c4 Q7c5 Q7l Q7n A7c0 A7c1 A7c2 A7c3 A7c4 A7c5 A7l A7n I7c0 I7c1 I7c2 I7c3 I7c4 I7c5 I7l I7n J7c0 J7c1 J7c2 J7c3 J7c4 J7c5 J7l J7n
  have U8c0 := U8.c0
  have U8c1 := U8.c1
  have U8c2 := U8.c2
  have U8c3 := U8.c3
  have U8l := U8.1
  have U8n : ¬ 0 = w8.heap.size := by omega
  have M8c0 := M8.c0
  have M8c1 := M8.c1
  have M8c2 := M8.c2
  have M8c3 := M8.c3
  have M8c4 := M8.c4
  have M8c5 := M8.c5
  have M8l := M8.1
  have M8n : ¬ w1.heap.size = w8.heap.size := by omega
  have N8c0 := N8.c0
  have N8c1 := N8.c1
  have N8c2 := N8.c2
  have N8c3 := N8.c3
  have N8c4 := N8.c4
  have N8c5 := N8.c5
  have N8l := N8.1
  have N8n : ¬ w1.heap.size + 1 = w8.heap.size := by omega
  have P8c0 := P8.c0
  have P8c1 := P8.c1
  have P8c2 := P8.c2
  have P8c3 := P8.c3
  have P8c4 := P8.c4
  have P8c5 := P8.c5
  have P8l := P8.1
  have P8n : ¬ w2.heap.size = w8.heap.size := by omega
  have Q8c0 := Q8.c0
  have Q8c1 := Q8.c1
  have Q8c2 := Q8.c2
  have Q8c3 := Q8.c3
  have Q8c4 := Q8.c4
  have Q8c5 := Q8.c5
  have Q8l := Q8.1
  have Q8n : ¬ w3.heap.size = w8.heap.size := by omega
  have A8c0 := A8.c0
  have A8c1 := A8.c1
  have A8c2 := A8.c2
  have A8c3 := A8.c3
  have A8c4 := A8.c4
  have A8c5 := A8.c5
  have A8l := A8.1
  have A8n : ¬ w4.heap.size = w8.heap.size := by omega
  have I8c0 := I8.c0
  have I8c1 := I8.c1
  have I8c2 := I8.c2
  have I8c3 := I8.c3
  have I8c4 := I8.c4
  have I8c5 := I8.c5
  have I8l := I8.1
  have I8n : ¬ w5.heap.size = w8.heap.size := by omega
  have J8c0 := J8.c0
  have J8c1 := J8.c1
  have J8c2 := J8.c2
  have J8c3 := J8.c3
  have J8c4 := J8.c4
  have J8c5 := J8.c5
  have J8l := J8.1
  have J8n : ¬ w6.heap.size = w8.heap.size := by omega
  have G8c0 := G8.c0
  have G8c1 := G8.c1
  have G8c2 := G8.c2
  have G8c3 := G8.c3
  have G8c4 := G8.c4
  have G8c5 := G8.c5
  have G8l := G8.1
  have G8n : ¬ w7.heap.size = w8.heap.size := by omega
  have V8c0 := V8.c0
  have V8c1 := V8.c1
  have V8l := V8.1
  have V8n : ¬ w7.heap.size + 1 = w8.heap.size := by omega
  go_wp2_with fail
  refine (specApmo_any _ _ _ _ _ _ _ _ _).mono ?_
  rintro e w9 ⟨he, hb9⟩
  unfold vecT at he
  subst he
  have U9 : Kq (0) 1 0 0 1 w9 := Kq.call (U8.alloc _) hb9
  have M9 : Km (w1.heap.size) a b c d x y w9 := Km.call (M8.alloc _) hb9
  have N9 : Km (w1.heap.size + 1) a' b' c' d' x' y' w9 := Km.call (N8.alloc _) hb9
  have P9 : Km (w2.heap.size) ((cmpR a b c d x y a' b' c' d' x' y').1) ((cmpR a b c d x y a' b' c' d' x' y').2.1) ((cmpR a b c d x y a' b' c' d' x' y').2.2.1) ((cmpR a b c d x y a' b' c' d' x' y').2.2.2.1) ((cmpR a b c d x y a' b' c' d' x' y').2.2.2.2.1) ((cmpR a b c d x y a' b' c' d' x' y').2.2.2.2.2.1) w9 := Km.call (P8.alloc _) hb9
  have Q9 : Km (w3.heap.size) ((cmpR a b c d x y a' b' c' d' x' y').1) ((cmpR a b c d x y a' b' c' d' x' y').2.1) ((cmpR a b c d x y a' b' c' d' x' y').2.2.1) ((cmpR a b c d x y a' b' c' d' x' y').2.2.2.1) ((cmpR a b c d x y a' b' c' d' x' y').2.2.2.2.1) ((cmpR a b c d x y a' b' c' d' x' y').2.2.2.2.2.1) w9 := Km.call (Q8.alloc _) hb9
  have A9 : Km (w4.heap.size) e1 e2 e3 e4 e5 e6 w9 := Km.call (A8.alloc _) hb9
  have I9 : Km (w5.heap.size) ((ibkR e1 e2 e3 e4 e5 e6).1) ((ibkR e1 e2 e3 e4 e5 e6).2.1) ((ibkR e1 e2 e3 e4 e5 e6).2.2.1) ((ibkR e1 e2 e3 e4 e5 e6).2.2.2.1) ((ibkR e1 e2 e3 e4 e5 e6).2.2.2.2.1) ((ibkR e1 e2 e3 e4 e5 e6).2.2.2.2.2.1) w9 := Km.call (I8.alloc _) hb9
  have J9 : Km (w6.heap.size) ((ibkR e1 e2 e3 e4 e5 e6).1) ((ibkR e1 e2 e3 e4 e5 e6).2.1) ((ibkR e1 e2 e3 e4 e5 e6).2.2.1) ((ibkR e1 e2 e3 e4 e5 e6).2.2.2.1) ((ibkR e1 e2 e3 e4 e5 e6).2.2.2.2.1) ((ibkR e1 e2 e3 e4 e5 e6).2.2.2.2.2.1) w9 := Km.call (J8.alloc _) hb9
  have G9 : Km (w7.heap.size) f1 f2 f3 f4 f5 f6 w9 := Km.call (G8.alloc _) hb9
  have V9 : Kg (w7.heap.size + 1) p q w9 := Kg.call (V8.alloc _) hb9
  have W9 : Kg (w8.heap.size) ((apmR f1 f2 f3 f4 f5 f6 p q).1) ((apmR f1 f2 f3 f4 f5 f6 p q).2.1) w9 := (Kg.at2 (w8.heap.size) (by simp) : Kg (w8.heap.size) ((apmR f1 f2 f3 f4 f5 f6 p q).1) ((apmR f1 f2 f3 f4 f5 f6 p q).2.1) _).call hb9
  have B9 : Below w.heap.size w w9 := bstep (Below.alloc B8 (by have := B8.size; first | omega | (simp <;> omega)) _) hb9
  clear hb9 B8 U8 M8 N8 P8 Q8 A8 I8 J8 G8 V8
  clear U8c0 U8c1 U8c2 U8c3 U8l U8n M8c0 M8c1 M8c2 M8c3 M8c4 M8c5 M8l M8n N8c0 N8c1 N8c2 N8c3 N8c4 N8c5 N8l N8n P8c0 P8c1 P8c2 P8c3 P8c4 P8c5 P8l P8n Q8c0 Q8c1 Q8c2 Q8c3 Q8c4 Q8c5 Q8l Q8n A8c0 A8c1 A8c2 A8c3 A8c4 A8c5 A8l A8n I8c0 I8c1 I8c2 I8c3 I8c4 I8c5 I8l I8n J8c0 J8c1 J8c2 J8c3 J8c4 J8c5 J8l J8n G8c0 G8c1 G8c2 G8c3 G8c4 G8c5 G8l G8n V8c0 V8c1 V8l V8n
  clear G9 V9
  have Z9 : Kg (w9.heap.size) (apmR f1 f2 f3 f4 f5 f6 p q).1 (apmR f1 f2 f3 f4 f5 f6 p q).2.1 (w9.alloc (.cells #[.int .i64 ((apmR f1 f2 f3 f4 f5 f6 p q).1), .int .i64 ((apmR f1 f2 f3 f4 f5 f6 p q).2.1)] 27)) := Kg.at2 _ rfl
  have U9lt := U9.1
  have M9lt := M9.1
  have N9lt := N9.1
  have P9lt := P9.1
  have Q9lt := Q9.1
  have A9lt := A9.1
  have I9lt := I9.1
  have J9lt := J9.1
  have W9lt := W9.1
  have Z9lt := Z9.1
  go_wp2_with fail
  go_region_held3 (fun W => (W.cell? ⟨w2.heap.size, 0, none⟩ = some (.int .i64 ((cmpR a b c d x y a' b' c' d' x' y').1)) ∧ W.cell? ⟨w2.heap.size, 1, none⟩ = some (.int .i64 ((cmpR a b c d x y a' b' c' d' x' y').2.1)) ∧ W.cell? ⟨w2.heap.size, 2, none⟩ = some (.int .i64 ((cmpR a b c d x y a' b' c' d' x' y').2.2.1)) ∧ W.cell? ⟨w2.heap.size, 3, none⟩ = some (.int .i64 ((cmpR a b c d x y a' b' c' d' x' y').2.2.2.1)) ∧ W.cell? ⟨w2.heap.size, 4, none⟩ = some (.int .i64 ((cmpR a b c d x y a' b' c' d' x' y').2.2.2.2.1)) ∧ W.cell? ⟨w2.heap.size, 5, none⟩ = some (.int .i64 ((cmpR a b c d x y a' b' c' d' x' y').2.2.2.2.2.1))) ∧ (W.cell? ⟨w3.heap.size, 0, none⟩ = some (.int .i64 ((cmpR a b c d x y a' b' c' d' x' y').1)) ∧ W.cell? ⟨w3.heap.size, 1, none⟩ = some (.int .i64 ((cmpR a b c d x y a' b' c' d' x' y').2.1)) ∧ W.cell? ⟨w3.heap.size, 2, none⟩ = some (.int .i64 ((cmpR a b c d x y a' b' c' d' x' y').2.2.1)) ∧ W.cell? ⟨w3.heap.size, 3, none⟩ = some (.int .i64 ((cmpR a b c d x y a' b' c' d' x' y').2.2.2.1)) ∧ W.cell? ⟨w3.heap.size, 4, none⟩ = some (.int .i64 ((cmpR a b c d x y a' b' c' d' x' y').2.2.2.2.1)) ∧ W.cell? ⟨w3.heap.size, 5, none⟩ = some (.int .i64 ((cmpR a b c d x y a' b' c' d' x' y').2.2.2.2.2.1))) ∧ (W.cell? ⟨w5.heap.size, 0, none⟩ = some (.int .i64 ((ibkR e1 e2 e3 e4 e5 e6).1)) ∧ W.cell? ⟨w5.heap.size, 1, none⟩ = some (.int .i64 ((ibkR e1 e2 e3 e4 e5 e6).2.1)) ∧ W.cell? ⟨w5.heap.size, 2, none⟩ = some (.int .i64 ((ibkR e1 e2 e3 e4 e5 e6).2.2.1)) ∧ W.cell? ⟨w5.heap.size, 3, none⟩ = some (.int .i64 ((ibkR e1 e2 e3 e4 e5 e6).2.2.2.1)) ∧ W.cell? ⟨w5.heap.size, 4, none⟩ = some (.int .i64 ((ibkR e1 e2 e3 e4 e5 e6).2.2.2.2.1)) ∧ W.cell? ⟨w5.heap.size, 5, none⟩ = some (.int .i64 ((ibkR e1 e2 e3 e4 e5 e6).2.2.2.2.2.1))) ∧ (W.cell? ⟨w6.heap.size, 0, none⟩ = some (.int .i64 ((ibkR e1 e2 e3 e4 e5 e6).1)) ∧ W.cell? ⟨w6.heap.size, 1, none⟩ = some (.int .i64 ((ibkR e1 e2 e3 e4 e5 e6).2.1)) ∧ W.cell? ⟨w6.heap.size, 2, none⟩ = some (.int .i64 ((ibkR e1 e2 e3 e4 e5 e6).2.2.1)) ∧ W.cell? ⟨w6.heap.size, 3, none⟩ = some (.int .i64 ((ibkR e1 e2 e3 e4 e5 e6).2.2.2.1)) ∧ W.cell? ⟨w6.heap.size, 4, none⟩ = some (.int .i64 ((ibkR e1 e2 e3 e4 e5 e6).2.2.2.2.1)) ∧ W.cell? ⟨w6.heap.size, 5, none⟩ = some (.int .i64 ((ibkR e1 e2 e3 e4 e5 e6).2.2.2.2.2.1))) ∧ (W.cell? ⟨w8.heap.size, 0, none⟩ = some (.int .i64 ((apmR f1 f2 f3 f4 f5 f6 p q).1)) ∧ W.cell? ⟨w8.heap.size, 1, none⟩ = some (.int .i64 ((apmR f1 f2 f3 f4 f5 f6 p q).2.1))) ∧ (W.cell? ⟨w9.heap.size, 0, none⟩ = some (.int .i64 ((apmR f1 f2 f3 f4 f5 f6 p q).1)) ∧ W.cell? ⟨w9.heap.size, 1, none⟩ = some (.int .i64 ((apmR f1 f2 f3 f4 f5 f6 p q).2.1))) ∧ (W.cell? ⟨w1.heap.size, 0, none⟩ = some (.int .i64 a) ∧ W.cell? ⟨w1.heap.size, 1, none⟩ = some (.int .i64 b) ∧ W.cell? ⟨w1.heap.size, 2, none⟩ = some (.int .i64 c) ∧ W.cell? ⟨w1.heap.size, 3, none⟩ = some (.int .i64 d) ∧ W.cell? ⟨w1.heap.size, 4, none⟩ = some (.int .i64 x) ∧ W.cell? ⟨w1.heap.size, 5, none⟩ = some (.int .i64 y))) ((refine ⟨Km.cells ?_, Km.cells ?_, Km.cells ?_, Km.cells ?_, Kg.cells ?_, Kg.cells ?_, Km.cells ?_⟩ <;> repeat (first | with_reducible assumption | with_reducible refine Kg.drew ?_ | with_reducible refine Kg.alloc ?_ _ | with_reducible refine Kg.call ?_ (by with_reducible assumption) | with_reducible refine Km.drew ?_ | with_reducible refine Km.alloc ?_ _ | with_reducible refine Km.call ?_ (by with_reducible assumption) | with_reducible refine Kq.drew ?_ | with_reducible refine Kq.alloc ?_ _ | with_reducible refine Kq.call ?_ (by with_reducible assumption) | ((with_reducible refine Kg.put ?_ ?_); (first | omega | (dsimp only; omega))) | ((with_reducible refine Km.put ?_ ?_); (first | omega | (dsimp only; omega))) | ((with_reducible refine Kq.put ?_ ?_); (first | omega | (dsimp only; omega))) | ((with_reducible refine Kg.far ?_ ?_); (first | omega | (dsimp only; omega))) | ((with_reducible refine Km.far ?_ ?_); (first | omega | (dsimp only; omega))) | ((with_reducible refine Kq.far ?_ ?_); (first | omega | (dsimp only; omega))))))
    (first
      | (go_at_call 15; ((with_reducible refine (implIsMo_any _ _ _ _ _ _ _ (unitOK_of5 (by repeat (first | with_reducible assumption | with_reducible refine Kq.drew ?_ | with_reducible refine Kq.alloc ?_ _ | with_reducible refine Kq.call ?_ (by with_reducible assumption))))).mono ?_); rintro e w10 ⟨rfl, hb10⟩; have U10 : Kq (0) 1 0 0 1 w10 := (by repeat (first | with_reducible assumption | with_reducible refine Kg.drew ?_ | with_reducible refine Kg.alloc ?_ _ | with_reducible refine Kg.call ?_ (by with_reducible assumption) | with_reducible refine Km.drew ?_ | with_reducible refine Km.alloc ?_ _ | with_reducible refine Km.call ?_ (by with_reducible assumption) | with_reducible refine Kq.drew ?_ | with_reducible refine Kq.alloc ?_ _ | with_reducible refine Kq.call ?_ (by with_reducible assumption))); have M10 : Km (w1.heap.size) a b c d x y w10 := (by repeat (first | with_reducible assumption | with_reducible refine Kg.drew ?_ | with_reducible refine Kg.alloc ?_ _ | with_reducible refine Kg.call ?_ (by with_reducible assumption) | with_reducible refine Km.drew ?_ | with_reducible refine Km.alloc ?_ _ | with_reducible refine Km.call ?_ (by with_reducible assumption) | with_reducible refine Kq.drew ?_ | with_reducible refine Kq.alloc ?_ _ | with_reducible refine Kq.call ?_ (by with_reducible assumption))); have N10 : Km (w1.heap.size + 1) a' b' c' d' x' y' w10 := (by repeat (first | with_reducible assumption | with_reducible refine Kg.drew ?_ | with_reducible refine Kg.alloc ?_ _ | with_reducible refine Kg.call ?_ (by with_reducible assumption) | with_reducible refine Km.drew ?_ | with_reducible refine Km.alloc ?_ _ | with_reducible refine Km.call ?_ (by with_reducible assumption) | with_reducible refine Kq.drew ?_ | with_reducible refine Kq.alloc ?_ _ | with_reducible refine Kq.call ?_ (by with_reducible assumption))); have P10 : Km (w2.heap.size) ((cmpR a b c d x y a' b' c' d' x' y').1) ((cmpR a b c d x y a' b' c' d' x' y').2.1) ((cmpR a b c d x y a' b' c' d' x' y').2.2.1) ((cmpR a b c d x y a' b' c' d' x' y').2.2.2.1) ((cmpR a b c d x y a' b' c' d' x' y').2.2.2.2.1) ((cmpR a b c d x y a' b' c' d' x' y').2.2.2.2.2.1) w10 := (by repeat (first | with_reducible assumption | with_reducible refine Kg.drew ?_ | with_reducible refine Kg.alloc ?_ _ | with_reducible refine Kg.call ?_ (by with_reducible assumption) | with_reducible refine Km.drew ?_ | with_reducible refine Km.alloc ?_ _ | with_reducible refine Km.call ?_ (by with_reducible assumption) | with_reducible refine Kq.drew ?_ | with_reducible refine Kq.alloc ?_ _ | with_reducible refine Kq.call ?_ (by with_reducible assumption))); have Q10 : Km (w3.heap.size) ((cmpR a b c d x y a' b' c' d' x' y').1) ((cmpR a b c d x y a' b' c' d' x' y').2.1) ((cmpR a b c d x y a' b' c' d' x' y').2.2.1) ((cmpR a b c d x y a' b' c' d' x' y').2.2.2.1) ((cmpR a b c d x y a' b' c' d' x' y').2.2.2.2.1) ((cmpR a b c d x y a' b' c' d' x' y').2.2.2.2.2.1) w10 := (by repeat (first | with_reducible assumption | with_reducible refine Kg.drew ?_ | with_reducible refine Kg.alloc ?_ _ | with_reducible refine Kg.call ?_ (by with_reducible assumption) | with_reducible refine Km.drew ?_ | with_reducible refine Km.alloc ?_ _ | with_reducible refine Km.call ?_ (by with_reducible assumption) | with_reducible refine Kq.drew ?_ | with_reducible refine Kq.alloc ?_ _ | with_reducible refine Kq.call ?_ (by with_reducible assumption))); have A10 : Km (w4.heap.size) e1 e2 e3 e4 e5 e6 w10 := (by repeat (first | with_reducible assumption | with_reducible refine Kg.drew ?_ | with_reducible refine Kg.alloc ?_ _ | with_reducible refine Kg.call ?_ (by with_reducible assumption) | with_reducible refine Km.drew ?_ | with_reducible refine Km.alloc ?_ _ | with_reducible refine Km.call ?_ (by with_reducible assumption) | with_reducible refine Kq.drew ?_ | with_reducible refine Kq.alloc ?_ _ | with_reducible refine Kq.call ?_ (by with_reducible assumption))); have I10 : Km (w5.heap.size) ((ibkR e1 e2 e3 e4 e5 e6).1) ((ibkR e1 e2 e3 e4 e5 e6).2.1) ((ibkR e1 e2 e3 e4 e5 e6).2.2.1) ((ibkR e1 e2 e3 e4 e5 e6).2.2.2.1) ((ibkR e1 e2 e3 e4 e5 e6).2.2.2.2.1) ((ibkR e1 e2 e3 e4 e5 e6).2.2.2.2.2.1) w10 := (by repeat (first | with_reducible assumption | with_reducible refine Kg.drew ?_ | with_reducible refine Kg.alloc ?_ _ | with_reducible refine Kg.call ?_ (by with_reducible assumption) | with_reducible refine Km.drew ?_ | with_reducible refine Km.alloc ?_ _ | with_reducible refine Km.call ?_ (by with_reducible assumption) | with_reducible refine Kq.drew ?_ | with_reducible refine Kq.alloc ?_ _ | with_reducible refine Kq.call ?_ (by with_reducible assumption))); have J10 : Km (w6.heap.size) ((ibkR e1 e2 e3 e4 e5 e6).1) ((ibkR e1 e2 e3 e4 e5 e6).2.1) ((ibkR e1 e2 e3 e4 e5 e6).2.2.1) ((ibkR e1 e2 e3 e4 e5 e6).2.2.2.1) ((ibkR e1 e2 e3 e4 e5 e6).2.2.2.2.1) ((ibkR e1 e2 e3 e4 e5 e6).2.2.2.2.2.1) w10 := (by repeat (first | with_reducible assumption | with_reducible refine Kg.drew ?_ | with_reducible refine Kg.alloc ?_ _ | with_reducible refine Kg.call ?_ (by with_reducible assumption) | with_reducible refine Km.drew ?_ | with_reducible refine Km.alloc ?_ _ | with_reducible refine Km.call ?_ (by with_reducible assumption) | with_reducible refine Kq.drew ?_ | with_reducible refine Kq.alloc ?_ _ | with_reducible refine Kq.call ?_ (by with_reducible assumption))); have W10 : Kg (w8.heap.size) ((apmR f1 f2 f3 f4 f5 f6 p q).1) ((apmR f1 f2 f3 f4 f5 f6 p q).2.1) w10 := (by repeat (first | with_reducible assumption | with_reducible refine Kg.drew ?_ | with_reducible refine Kg.alloc ?_ _ | with_reducible refine Kg.call ?_ (by with_reducible assumption) | with_reducible refine Km.drew ?_ | with_reducible refine Km.alloc ?_ _ | with_reducible refine Km.call ?_ (by with_reducible assumption) | with_reducible refine Kq.drew ?_ | with_reducible refine Kq.alloc ?_ _ | with_reducible refine Kq.call ?_ (by with_reducible assumption))); have Z10 : Kg (w9.heap.size) ((apmR f1 f2 f3 f4 f5 f6 p q).1) ((apmR f1 f2 f3 f4 f5 f6 p q).2.1) w10 := (by repeat (first | with_reducible assumption | with_reducible refine Kg.drew ?_ | with_reducible refine Kg.alloc ?_ _ | with_reducible refine Kg.call ?_ (by with_reducible assumption) | with_reducible refine Km.drew ?_ | with_reducible refine Km.alloc ?_ _ | with_reducible refine Km.call ?_ (by with_reducible assumption) | with_reducible refine Kq.drew ?_ | with_reducible refine Kq.alloc ?_ _ | with_reducible refine Kq.call ?_ (by with_reducible assumption))); have U10l := U10.1; have M10l := M10.1; have N10l := N10.1; have P10l := P10.1; have Q10l := Q10.1; have A10l := A10.1; have I10l := I10.1; have J10l := J10.1; have W10l := W10.1; have Z10l := Z10.1; have B10 : Below w.heap.size w w10 := (by repeat (first | with_reducible assumption | with_reducible refine Below.drew ?_ | with_reducible refine Below.alloc ?_ (by first | omega | (have := B9.size; simp <;> omega)) _ | with_reducible refine bstep ?_ (by with_reducible assumption)))))
      | (go_at_call 16; ((with_reducible refine (specIsMo_any _ _ _ _ _ _ _).mono ?_); rintro e w11 ⟨rfl, hb11⟩; have U11 : Kq (0) 1 0 0 1 w11 := (by repeat (first | with_reducible assumption | with_reducible refine Kg.drew ?_ | with_reducible refine Kg.alloc ?_ _ | with_reducible refine Kg.call ?_ (by with_reducible assumption) | with_reducible refine Km.drew ?_ | with_reducible refine Km.alloc ?_ _ | with_reducible refine Km.call ?_ (by with_reducible assumption) | with_reducible refine Kq.drew ?_ | with_reducible refine Kq.alloc ?_ _ | with_reducible refine Kq.call ?_ (by with_reducible assumption))); have M11 : Km (w1.heap.size) a b c d x y w11 := (by repeat (first | with_reducible assumption | with_reducible refine Kg.drew ?_ | with_reducible refine Kg.alloc ?_ _ | with_reducible refine Kg.call ?_ (by with_reducible assumption) | with_reducible refine Km.drew ?_ | with_reducible refine Km.alloc ?_ _ | with_reducible refine Km.call ?_ (by with_reducible assumption) | with_reducible refine Kq.drew ?_ | with_reducible refine Kq.alloc ?_ _ | with_reducible refine Kq.call ?_ (by with_reducible assumption))); have N11 : Km (w1.heap.size + 1) a' b' c' d' x' y' w11 := (by repeat (first | with_reducible assumption | with_reducible refine Kg.drew ?_ | with_reducible refine Kg.alloc ?_ _ | with_reducible refine Kg.call ?_ (by with_reducible assumption) | with_reducible refine Km.drew ?_ | with_reducible refine Km.alloc ?_ _ | with_reducible refine Km.call ?_ (by with_reducible assumption) | with_reducible refine Kq.drew ?_ | with_reducible refine Kq.alloc ?_ _ | with_reducible refine Kq.call ?_ (by with_reducible assumption))); have P11 : Km (w2.heap.size) ((cmpR a b c d x y a' b' c' d' x' y').1) ((cmpR a b c d x y a' b' c' d' x' y').2.1) ((cmpR a b c d x y a' b' c' d' x' y').2.2.1) ((cmpR a b c d x y a' b' c' d' x' y').2.2.2.1) ((cmpR a b c d x y a' b' c' d' x' y').2.2.2.2.1) ((cmpR a b c d x y a' b' c' d' x' y').2.2.2.2.2.1) w11 := (by repeat (first | with_reducible assumption | with_reducible refine Kg.drew ?_ | with_reducible refine Kg.alloc ?_ _ | with_reducible refine Kg.call ?_ (by with_reducible assumption) | with_reducible refine Km.drew ?_ | with_reducible refine Km.alloc ?_ _ | with_reducible refine Km.call ?_ (by with_reducible assumption) | with_reducible refine Kq.drew ?_ | with_reducible refine Kq.alloc ?_ _ | with_reducible refine Kq.call ?_ (by with_reducible assumption))); have Q11 : Km (w3.heap.size) ((cmpR a b c d x y a' b' c' d' x' y').1) ((cmpR a b c d x y a' b' c' d' x' y').2.1) ((cmpR a b c d x y a' b' c' d' x' y').2.2.1) ((cmpR a b c d x y a' b' c' d' x' y').2.2.2.1) ((cmpR a b c d x y a' b' c' d' x' y').2.2.2.2.1) ((cmpR a b c d x y a' b' c' d' x' y').2.2.2.2.2.1) w11 := (by repeat (first | with_reducible assumption | with_reducible refine Kg.drew ?_ | with_reducible refine Kg.alloc ?_ _ | with_reducible refine Kg.call ?_ (by with_reducible assumption) | with_reducible refine Km.drew ?_ | with_reducible refine Km.alloc ?_ _ | with_reducible refine Km.call ?_ (by with_reducible assumption) | with_reducible refine Kq.drew ?_ | with_reducible refine Kq.alloc ?_ _ | with_reducible refine Kq.call ?_ (by with_reducible assumption))); have A11 : Km (w4.heap.size) e1 e2 e3 e4 e5 e6 w11 := (by repeat (first | with_reducible assumption | with_reducible refine Kg.drew ?_ | with_reducible refine Kg.alloc ?_ _ | with_reducible refine Kg.call ?_ (by with_reducible assumption) | with_reducible refine Km.drew ?_ | with_reducible refine Km.alloc ?_ _ | with_reducible refine Km.call ?_ (by with_reducible assumption) | with_reducible refine Kq.drew ?_ | with_reducible refine Kq.alloc ?_ _ | with_reducible refine Kq.call ?_ (by with_reducible assumption))); have I11 : Km (w5.heap.size) ((ibkR e1 e2 e3 e4 e5 e6).1) ((ibkR e1 e2 e3 e4 e5 e6).2.1) ((ibkR e1 e2 e3 e4 e5 e6).2.2.1) ((ibkR e1 e2 e3 e4 e5 e6).2.2.2.1) ((ibkR e1 e2 e3 e4 e5 e6).2.2.2.2.1) ((ibkR e1 e2 e3 e4 e5 e6).2.2.2.2.2.1) w11 := (by repeat (first | with_reducible assumption | with_reducible refine Kg.drew ?_ | with_reducible refine Kg.alloc ?_ _ | with_reducible refine Kg.call ?_ (by with_reducible assumption) | with_reducible refine Km.drew ?_ | with_reducible refine Km.alloc ?_ _ | with_reducible refine Km.call ?_ (by with_reducible assumption) | with_reducible refine Kq.drew ?_ | with_reducible refine Kq.alloc ?_ _ | with_reducible refine Kq.call ?_ (by with_reducible assumption))); have J11 : Km (w6.heap.size) ((ibkR e1 e2 e3 e4 e5 e6).1) ((ibkR e1 e2 e3 e4 e5 e6).2.1) ((ibkR e1 e2 e3 e4 e5 e6).2.2.1) ((ibkR e1 e2 e3 e4 e5 e6).2.2.2.1) ((ibkR e1 e2 e3 e4 e5 e6).2.2.2.2.1) ((ibkR e1 e2 e3 e4 e5 e6).2.2.2.2.2.1) w11 := (by repeat (first | with_reducible assumption | with_reducible refine Kg.drew ?_ | with_reducible refine Kg.alloc ?_ _ | with_reducible refine Kg.call ?_ (by with_reducible assumption) | with_reducible refine Km.drew ?_ | with_reducible refine Km.alloc ?_ _ | with_reducible refine Km.call ?_ (by with_reducible assumption) | with_reducible refine Kq.drew ?_ | with_reducible refine Kq.alloc ?_ _ | with_reducible refine Kq.call ?_ (by with_reducible assumption))); have W11 : Kg (w8.heap.size) ((apmR f1 f2 f3 f4 f5 f6 p q).1) ((apmR f1 f2 f3 f4 f5 f6 p q).2.1) w11 := (by repeat (first | with_reducible assumption | with_reducible refine Kg.drew ?_ | with_reducible refine Kg.alloc ?_ _ | with_reducible refine Kg.call ?_ (by with_reducible assumption) | with_reducible refine Km.drew ?_ | with_reducible refine Km.alloc ?_ _ | with_reducible refine Km.call ?_ (by with_reducible assumption) | with_reducible refine Kq.drew ?_ | with_reducible refine Kq.alloc ?_ _ | with_reducible refine Kq.call ?_ (by with_reducible assumption))); have Z11 : Kg (w9.heap.size) ((apmR f1 f2 f3 f4 f5 f6 p q).1) ((apmR f1 f2 f3 f4 f5 f6 p q).2.1) w11 := (by repeat (first | with_reducible assumption | with_reducible refine Kg.drew ?_ | with_reducible refine Kg.alloc ?_ _ | with_reducible refine Kg.call ?_ (by with_reducible assumption) | with_reducible refine Km.drew ?_ | with_reducible refine Km.alloc ?_ _ | with_reducible refine Km.call ?_ (by with_reducible assumption) | with_reducible refine Kq.drew ?_ | with_reducible refine Kq.alloc ?_ _ | with_reducible refine Kq.call ?_ (by with_reducible assumption))); have U11l := U11.1; have M11l := M11.1; have N11l := N11.1; have P11l := P11.1; have Q11l := Q11.1; have A11l := A11.1; have I11l := I11.1; have J11l := J11.1; have W11l := W11.1; have Z11l := Z11.1; have B11 : Below w.heap.size w w11 := (by repeat (first | with_reducible assumption | with_reducible refine Below.drew ?_ | with_reducible refine Below.alloc ?_ (by first | omega | (have := B9.size; simp <;> omega)) _ | with_reducible refine bstep ?_ (by with_reducible assumption))))))
  all_goals
    clear Q11 J11 W11 Z11
    have U11c0 := U11.c0
    have U11c1 := U11.c1
    have U11c2 := U11.c2
    have U11c3 := U11.c3
    have U11l := U11.1
    have U11n : ¬ 0 = w11.heap.size := by omega
    have M11c0 := M11.c0
    have M11c1 := M11.c1
    have M11c2 := M11.c2
    have M11c3 := M11.c3
    have M11c4 := M11.c4
    have M11c5 := M11.c5
    have M11l := M11.1
    have M11n : ¬ w1.heap.size = w11.heap.size := by omega
    have N11c0 := N11.c0
    have N11c1 := N11.c1
    have N11c2 := N11.c2
    have N11c3 := N11.c3
    have N11c4 := N11.c4
    have N11c5 := N11.c5
    have N11l := N11.1
    have N11n : ¬ w1.heap.size + 1 = w11.heap.size := by omega
    have P11c0 := P11.c0
    have P11c1 := P11.c1
    have P11c2 := P11.c2
    have P11c3 := P11.c3
    have P11c4 := P11.c4
    have P11c5 := P11.c5
    have P11l := P11.1
    have P11n : ¬ w2.heap.size = w11.heap.size := by omega
    have A11c0 := A11.c0
    have A11c1 := A11.c1
    have A11c2 := A11.c2
    have A11c3 := A11.c3
    have A11c4 := A11.c4
    have A11c5 := A11.c5
    have A11l := A11.1
    have A11n : ¬ w4.heap.size = w11.heap.size := by omega
    have I11c0 := I11.c0
    have I11c1 := I11.c1
    have I11c2 := I11.c2
    have I11c3 := I11.c3
    have I11c4 := I11.c4
    have I11c5 := I11.c5
    have I11l := I11.1
    have I11n : ¬ w5.heap.size = w11.heap.size := by omega
    by_cases h1 : (ibkR e1 e2 e3 e4 e5 e6).2.2.2.2.2.2 = 0
    · have h1b : ((ibkR e1 e2 e3 e4 e5 e6).2.2.2.2.2.2 == 0) = true := by simp [h1]
      have HI := Lib.hid (inv_cmp h1)
      clear h1
      go_wp2_with fail
      refine (implCmp_any _ _ _ _ _ _ _ _ _ _ _ _ _ U11).mono ?_
      rintro e w12 ⟨he, hb12⟩
      rw [HI.out] at he
      unfold motT at he
      subst he
      have U12 : Kq (0) 1 0 0 1 w12 := Kq.call U11 hb12
      have M12 : Km (w1.heap.size) a b c d x y w12 := Km.call M11 hb12
      have N12 : Km (w1.heap.size + 1) a' b' c' d' x' y' w12 := Km.call N11 hb12
      have P12 : Km (w2.heap.size) ((cmpR a b c d x y a' b' c' d' x' y').1) ((cmpR a b c d x y a' b' c' d' x' y').2.1) ((cmpR a b c d x y a' b' c' d' x' y').2.2.1) ((cmpR a b c d x y a' b' c' d' x' y').2.2.2.1) ((cmpR a b c d x y a' b' c' d' x' y').2.2.2.2.1) ((cmpR a b c d x y a' b' c' d' x' y').2.2.2.2.2.1) w12 := Km.call P11 hb12
      have A12 : Km (w4.heap.size) e1 e2 e3 e4 e5 e6 w12 := Km.call A11 hb12
      have I12 : Km (w5.heap.size) ((ibkR e1 e2 e3 e4 e5 e6).1) ((ibkR e1 e2 e3 e4 e5 e6).2.1) ((ibkR e1 e2 e3 e4 e5 e6).2.2.1) ((ibkR e1 e2 e3 e4 e5 e6).2.2.2.1) ((ibkR e1 e2 e3 e4 e5 e6).2.2.2.2.1) ((ibkR e1 e2 e3 e4 e5 e6).2.2.2.2.2.1) w12 := Km.call I11 hb12
      have B12 : Below w.heap.size w w12 := bstep B11 hb12
      clear hb12 B11 U11 M11 N11 P11 A11 I11
      clear U11c0 U11c1 U11c2 U11c3 U11l U11n M11c0 M11c1 M11c2 M11c3 M11c4 M11c5 M11l M11n N11c0 N11c1 N11c2 N11c3 N11c4 N11c5 N11l N11n P11c0 P11c1 P11c2 P11c3 P11c4 P11c5 P11l P11n A11c0 A11c1 A11c2 A11c3 A11c4 A11c5 A11l A11n I11c0 I11c1 I11c2 I11c3 I11c4 I11c5 I11l I11n
      have U12c0 := U12.c0
      have U12c1 := U12.c1
      have U12c2 := U12.c2
      have U12c3 := U12.c3
      have U12l := U12.1
      have U12n : ¬ 0 = w12.heap.size := by omega
      have M12c0 := M12.c0
      have M12c1 := M12.c1
      have M12c2 := M12.c2
      have M12c3 := M12.c3
      have M12c4 := M12.c4
      have M12c5 := M12.c5
      have M12l := M12.1
      have M12n : ¬ w1.heap.size = w12.heap.size := by omega
      have N12c0 := N12.c0
      have N12c1 := N12.c1
      have N12c2 := N12.c2
      have N12c3 := N12.c3
      have N12c4 := N12.c4
      have N12c5 := N12.c5
      have N12l := N12.1
      have N12n : ¬ w1.heap.size + 1 = w12.heap.size := by omega
      have P12c0 := P12.c0
      have P12c1 := P12.c1
      have P12c2 := P12.c2
      have P12c3 := P12.c3
      have P12c4 := P12.c4
      have P12c5 := P12.c5
      have P12l := P12.1
      have P12n : ¬ w2.heap.size = w12.heap.size := by omega
      have A12c0 := A12.c0
      have A12c1 := A12.c1
      have A12c2 := A12.c2
      have A12c3 := A12.c3
      have A12c4 := A12.c4
      have A12c5 := A12.c5
      have A12l := A12.1
      have A12n : ¬ w4.heap.size = w12.heap.size := by omega
      have I12c0 := I12.c0
      have I12c1 := I12.c1
      have I12c2 := I12.c2
      have I12c3 := I12.c3
      have I12c4 := I12.c4
      have I12c5 := I12.c5
      have I12l := I12.1
      have I12n : ¬ w5.heap.size = w12.heap.size := by omega
      by_cases h2 : (cmpR a b c d x y a' b' c' d' x' y').2.2.2.2.2.2 = 0
      · have h2b : ((cmpR a b c d x y a' b' c' d' x' y').2.2.2.2.2.2 != 0) = false := by simp [h2]
        have H2 := Lib.hid h2
        clear h2
        go_wp2_with fail
        refine (implApmo_any _ _ _ _ _ _ _ _ _ ((U12.alloc _).alloc _)).mono ?_
        rintro e w13 ⟨he, hb13⟩
        unfold vecT at he
        subst he
        have U13 : Kq (0) 1 0 0 1 w13 := Kq.call ((U12.alloc _).alloc _) hb13
        have M13 : Km (w1.heap.size) a b c d x y w13 := Km.call ((M12.alloc _).alloc _) hb13
        have N13 : Km (w1.heap.size + 1) a' b' c' d' x' y' w13 := Km.call ((N12.alloc _).alloc _) hb13
        have P13 : Km (w2.heap.size) ((cmpR a b c d x y a' b' c' d' x' y').1) ((cmpR a b c d x y a' b' c' d' x' y').2.1) ((cmpR a b c d x y a' b' c' d' x' y').2.2.1) ((cmpR a b c d x y a' b' c' d' x' y').2.2.2.1) ((cmpR a b c d x y a' b' c' d' x' y').2.2.2.2.1) ((cmpR a b c d x y a' b' c' d' x' y').2.2.2.2.2.1) w13 := Km.call ((P12.alloc _).alloc _) hb13
        have A13 : Km (w4.heap.size) e1 e2 e3 e4 e5 e6 w13 := Km.call ((A12.alloc _).alloc _) hb13
        have I13 : Km (w5.heap.size) ((ibkR e1 e2 e3 e4 e5 e6).1) ((ibkR e1 e2 e3 e4 e5 e6).2.1) ((ibkR e1 e2 e3 e4 e5 e6).2.2.1) ((ibkR e1 e2 e3 e4 e5 e6).2.2.2.1) ((ibkR e1 e2 e3 e4 e5 e6).2.2.2.2.1) ((ibkR e1 e2 e3 e4 e5 e6).2.2.2.2.2.1) w13 := Km.call ((I12.alloc _).alloc _) hb13
        have S13 : Km (w12.heap.size) 1 0 0 1 0 0 w13 := ((Km.at (w12.heap.size) (by simp) : Km (w12.heap.size) 1 0 0 1 0 0 _).alloc _).call hb13
        have X13 : Kg (w12.heap.size + 1) 2 (-3) w13 := (Kg.at2 (w12.heap.size + 1) (by simp) : Kg (w12.heap.size + 1) 2 (-3) _).call hb13
        have B13 : Below w.heap.size w w13 := bstep (Below.alloc (Below.alloc B12 (by have := B12.size; first | omega | (simp <;> omega)) _) (by have := B12.size; first | omega | (simp <;> omega)) _) hb13
        clear hb13 B12 U12 M12 N12 P12 A12 I12
        clear U12c0 U12c1 U12c2 U12c3 U12l U12n M12c0 M12c1 M12c2 M12c3 M12c4 M12c5 M12l M12n N12c0 N12c1 N12c2 N12c3 N12c4 N12c5 N12l N12n P12c0 P12c1 P12c2 P12c3 P12c4 P12c5 P12l P12n A12c0 A12c1 A12c2 A12c3 A12c4 A12c5 A12l A12n I12c0 I12c1 I12c2 I12c3 I12c4 I12c5 I12l I12n
        have U13c0 := U13.c0
        have U13c1 := U13.c1
        have U13c2 := U13.c2
        have U13c3 := U13.c3
        have U13l := U13.1
        have U13n : ¬ 0 = w13.heap.size := by omega
        have M13c0 := M13.c0
        have M13c1 := M13.c1
        have M13c2 := M13.c2
        have M13c3 := M13.c3
        have M13c4 := M13.c4
        have M13c5 := M13.c5
        have M13l := M13.1
        have M13n : ¬ w1.heap.size = w13.heap.size := by omega
        have N13c0 := N13.c0
        have N13c1 := N13.c1
        have N13c2 := N13.c2
        have N13c3 := N13.c3
        have N13c4 := N13.c4
        have N13c5 := N13.c5
        have N13l := N13.1
        have N13n : ¬ w1.heap.size + 1 = w13.heap.size := by omega
        have P13c0 := P13.c0
        have P13c1 := P13.c1
        have P13c2 := P13.c2
        have P13c3 := P13.c3
        have P13c4 := P13.c4
        have P13c5 := P13.c5
        have P13l := P13.1
        have P13n : ¬ w2.heap.size = w13.heap.size := by omega
        have A13c0 := A13.c0
        have A13c1 := A13.c1
        have A13c2 := A13.c2
        have A13c3 := A13.c3
        have A13c4 := A13.c4
        have A13c5 := A13.c5
        have A13l := A13.1
        have A13n : ¬ w4.heap.size = w13.heap.size := by omega
        have I13c0 := I13.c0
        have I13c1 := I13.c1
        have I13c2 := I13.c2
        have I13c3 := I13.c3
        have I13c4 := I13.c4
        have I13c5 := I13.c5
        have I13l := I13.1
        have I13n : ¬ w5.heap.size = w13.heap.size := by omega
        have S13c0 := S13.c0
        have S13c1 := S13.c1
        have S13c2 := S13.c2
        have S13c3 := S13.c3
        have S13c4 := S13.c4
        have S13c5 := S13.c5
        have S13l := S13.1
        have S13n : ¬ w12.heap.size = w13.heap.size := by omega
        have X13c0 := X13.c0
        have X13c1 := X13.c1
        have X13l := X13.1
        have X13n : ¬ w12.heap.size + 1 = w13.heap.size := by omega
        go_wp2_with fail
        refine (implApmo_any _ _ _ _ _ _ _ _ _ (U13.alloc _)).mono ?_
        rintro e w14 ⟨he, hb14⟩
        unfold vecT at he
        subst he
        have U14 : Kq (0) 1 0 0 1 w14 := Kq.call (U13.alloc _) hb14
        have M14 : Km (w1.heap.size) a b c d x y w14 := Km.call (M13.alloc _) hb14
        have N14 : Km (w1.heap.size + 1) a' b' c' d' x' y' w14 := Km.call (N13.alloc _) hb14
        have P14 : Km (w2.heap.size) ((cmpR a b c d x y a' b' c' d' x' y').1) ((cmpR a b c d x y a' b' c' d' x' y').2.1) ((cmpR a b c d x y a' b' c' d' x' y').2.2.1) ((cmpR a b c d x y a' b' c' d' x' y').2.2.2.1) ((cmpR a b c d x y a' b' c' d' x' y').2.2.2.2.1) ((cmpR a b c d x y a' b' c' d' x' y').2.2.2.2.2.1) w14 := Km.call (P13.alloc _) hb14
        have A14 : Km (w4.heap.size) e1 e2 e3 e4 e5 e6 w14 := Km.call (A13.alloc _) hb14
        have I14 : Km (w5.heap.size) ((ibkR e1 e2 e3 e4 e5 e6).1) ((ibkR e1 e2 e3 e4 e5 e6).2.1) ((ibkR e1 e2 e3 e4 e5 e6).2.2.1) ((ibkR e1 e2 e3 e4 e5 e6).2.2.2.1) ((ibkR e1 e2 e3 e4 e5 e6).2.2.2.2.1) ((ibkR e1 e2 e3 e4 e5 e6).2.2.2.2.2.1) w14 := Km.call (I13.alloc _) hb14
        have S14 : Km (w12.heap.size) 1 0 0 1 0 0 w14 := Km.call (S13.alloc _) hb14
        have X14 : Kg (w12.heap.size + 1) 2 (-3) w14 := Kg.call (X13.alloc _) hb14
        have Y14 : Kg (w13.heap.size) ((apmR a' b' c' d' x' y' 2 (-3)).1) ((apmR a' b' c' d' x' y' 2 (-3)).2.1) w14 := (Kg.at2 (w13.heap.size) (by simp) : Kg (w13.heap.size) ((apmR a' b' c' d' x' y' 2 (-3)).1) ((apmR a' b' c' d' x' y' 2 (-3)).2.1) _).call hb14
        have B14 : Below w.heap.size w w14 := bstep (Below.alloc B13 (by have := B13.size; first | omega | (simp <;> omega)) _) hb14
        clear hb14 B13 U13 M13 N13 P13 A13 I13 S13 X13
        clear U13c0 U13c1 U13c2 U13c3 U13l U13n M13c0 M13c1 M13c2 M13c3 M13c4 M13c5 M13l M13n N13c0 N13c1 N13c2 N13c3 N13c4 N13c5 N13l N13n P13c0 P13c1 P13c2 P13c3 P13c4 P13c5 P13l P13n A13c0 A13c1 A13c2 A13c3 A13c4 A13c5 A13l A13n I13c0 I13c1 I13c2 I13c3 I13c4 I13c5 I13l I13n S13c0 S13c1 S13c2 S13c3 S13c4 S13c5 S13l S13n X13c0 X13c1 X13l X13n
        have U14c0 := U14.c0
        have U14c1 := U14.c1
        have U14c2 := U14.c2
        have U14c3 := U14.c3
        have U14l := U14.1
        have U14n : ¬ 0 = w14.heap.size := by omega
        have M14c0 := M14.c0
        have M14c1 := M14.c1
        have M14c2 := M14.c2
        have M14c3 := M14.c3
        have M14c4 := M14.c4
        have M14c5 := M14.c5
        have M14l := M14.1
        have M14n : ¬ w1.heap.size = w14.heap.size := by omega
        have N14c0 := N14.c0
        have N14c1 := N14.c1
        have N14c2 := N14.c2
        have N14c3 := N14.c3
        have N14c4 := N14.c4
        have N14c5 := N14.c5
        have N14l := N14.1
        have N14n : ¬ w1.heap.size + 1 = w14.heap.size := by omega
        have P14c0 := P14.c0
        have P14c1 := P14.c1
        have P14c2 := P14.c2
        have P14c3 := P14.c3
        have P14c4 := P14.c4
        have P14c5 := P14.c5
        have P14l := P14.1
        have P14n : ¬ w2.heap.size = w14.heap.size := by omega
        have A14c0 := A14.c0
        have A14c1 := A14.c1
        have A14c2 := A14.c2
        have A14c3 := A14.c3
        have A14c4 := A14.c4
        have A14c5 := A14.c5
        have A14l := A14.1
        have A14n : ¬ w4.heap.size = w14.heap.size := by omega
        have I14c0 := I14.c0
        have I14c1 := I14.c1
        have I14c2 := I14.c2
        have I14c3 := I14.c3
        have I14c4 := I14.c4
        have I14c5 := I14.c5
        have I14l := I14.1
        have I14n : ¬ w5.heap.size = w14.heap.size := by omega
        have S14c0 := S14.c0
        have S14c1 := S14.c1
        have S14c2 := S14.c2
        have S14c3 := S14.c3
        have S14c4 := S14.c4
        have S14c5 := S14.c5
        have S14l := S14.1
        have S14n : ¬ w12.heap.size = w14.heap.size := by omega
        have X14c0 := X14.c0
        have X14c1 := X14.c1
        have X14l := X14.1
        have X14n : ¬ w12.heap.size + 1 = w14.heap.size := by omega
        have Y14c0 := Y14.c0
        have Y14c1 := Y14.c1
        have Y14l := Y14.1
        have Y14n : ¬ w13.heap.size = w14.heap.size := by omega
        go_wp2_with fail
        refine (implApmo_any _ _ _ _ _ _ _ _ _ (U14.alloc _)).mono ?_
        rintro e w15 ⟨he, hb15⟩
        unfold vecT at he
        subst he
        have U15 : Kq (0) 1 0 0 1 w15 := Kq.call (U14.alloc _) hb15
        have M15 : Km (w1.heap.size) a b c d x y w15 := Km.call (M14.alloc _) hb15
        have N15 : Km (w1.heap.size + 1) a' b' c' d' x' y' w15 := Km.call (N14.alloc _) hb15
        have P15 : Km (w2.heap.size) ((cmpR a b c d x y a' b' c' d' x' y').1) ((cmpR a b c d x y a' b' c' d' x' y').2.1) ((cmpR a b c d x y a' b' c' d' x' y').2.2.1) ((cmpR a b c d x y a' b' c' d' x' y').2.2.2.1) ((cmpR a b c d x y a' b' c' d' x' y').2.2.2.2.1) ((cmpR a b c d x y a' b' c' d' x' y').2.2.2.2.2.1) w15 := Km.call (P14.alloc _) hb15
        have A15 : Km (w4.heap.size) e1 e2 e3 e4 e5 e6 w15 := Km.call (A14.alloc _) hb15
        have I15 : Km (w5.heap.size) ((ibkR e1 e2 e3 e4 e5 e6).1) ((ibkR e1 e2 e3 e4 e5 e6).2.1) ((ibkR e1 e2 e3 e4 e5 e6).2.2.1) ((ibkR e1 e2 e3 e4 e5 e6).2.2.2.1) ((ibkR e1 e2 e3 e4 e5 e6).2.2.2.2.1) ((ibkR e1 e2 e3 e4 e5 e6).2.2.2.2.2.1) w15 := Km.call (I14.alloc _) hb15
        have S15 : Km (w12.heap.size) 1 0 0 1 0 0 w15 := Km.call (S14.alloc _) hb15
        have X15 : Kg (w12.heap.size + 1) 2 (-3) w15 := Kg.call (X14.alloc _) hb15
        have Y15 : Kg (w13.heap.size) ((apmR a' b' c' d' x' y' 2 (-3)).1) ((apmR a' b' c' d' x' y' 2 (-3)).2.1) w15 := Kg.call (Y14.alloc _) hb15
        have T15 : Kg (w14.heap.size) ((apmR a b c d x y (apmR a' b' c' d' x' y' 2 (-3)).1 (apmR a' b' c' d' x' y' 2 (-3)).2.1).1) ((apmR a b c d x y (apmR a' b' c' d' x' y' 2 (-3)).1 (apmR a' b' c' d' x' y' 2 (-3)).2.1).2.1) w15 := (Kg.at2 (w14.heap.size) (by simp) : Kg (w14.heap.size) ((apmR a b c d x y (apmR a' b' c' d' x' y' 2 (-3)).1 (apmR a' b' c' d' x' y' 2 (-3)).2.1).1) ((apmR a b c d x y (apmR a' b' c' d' x' y' 2 (-3)).1 (apmR a' b' c' d' x' y' 2 (-3)).2.1).2.1) _).call hb15
        have B15 : Below w.heap.size w w15 := bstep (Below.alloc B14 (by have := B14.size; first | omega | (simp <;> omega)) _) hb15
        clear hb15 B14 U14 M14 N14 P14 A14 I14 S14 X14 Y14
        clear U14c0 U14c1 U14c2 U14c3 U14l U14n M14c0 M14c1 M14c2 M14c3 M14c4 M14c5 M14l M14n N14c0 N14c1 N14c2 N14c3 N14c4 N14c5 N14l N14n P14c0 P14c1 P14c2 P14c3 P14c4 P14c5 P14l P14n A14c0 A14c1 A14c2 A14c3 A14c4 A14c5 A14l A14n I14c0 I14c1 I14c2 I14c3 I14c4 I14c5 I14l I14n S14c0 S14c1 S14c2 S14c3 S14c4 S14c5 S14l S14n X14c0 X14c1 X14l X14n Y14c0 Y14c1 Y14l Y14n
        have U15c0 := U15.c0
        have U15c1 := U15.c1
        have U15c2 := U15.c2
        have U15c3 := U15.c3
        have U15l := U15.1
        have U15n : ¬ 0 = w15.heap.size := by omega
        have M15c0 := M15.c0
        have M15c1 := M15.c1
        have M15c2 := M15.c2
        have M15c3 := M15.c3
        have M15c4 := M15.c4
        have M15c5 := M15.c5
        have M15l := M15.1
        have M15n : ¬ w1.heap.size = w15.heap.size := by omega
        have N15c0 := N15.c0
        have N15c1 := N15.c1
        have N15c2 := N15.c2
        have N15c3 := N15.c3
        have N15c4 := N15.c4
        have N15c5 := N15.c5
        have N15l := N15.1
        have N15n : ¬ w1.heap.size + 1 = w15.heap.size := by omega
        have P15c0 := P15.c0
        have P15c1 := P15.c1
        have P15c2 := P15.c2
        have P15c3 := P15.c3
        have P15c4 := P15.c4
        have P15c5 := P15.c5
        have P15l := P15.1
        have P15n : ¬ w2.heap.size = w15.heap.size := by omega
        have A15c0 := A15.c0
        have A15c1 := A15.c1
        have A15c2 := A15.c2
        have A15c3 := A15.c3
        have A15c4 := A15.c4
        have A15c5 := A15.c5
        have A15l := A15.1
        have A15n : ¬ w4.heap.size = w15.heap.size := by omega
        have I15c0 := I15.c0
        have I15c1 := I15.c1
        have I15c2 := I15.c2
        have I15c3 := I15.c3
        have I15c4 := I15.c4
        have I15c5 := I15.c5
        have I15l := I15.1
        have I15n : ¬ w5.heap.size = w15.heap.size := by omega
        have S15c0 := S15.c0
        have S15c1 := S15.c1
        have S15c2 := S15.c2
        have S15c3 := S15.c3
        have S15c4 := S15.c4
        have S15c5 := S15.c5
        have S15l := S15.1
        have S15n : ¬ w12.heap.size = w15.heap.size := by omega
        have X15c0 := X15.c0
        have X15c1 := X15.c1
        have X15l := X15.1
        have X15n : ¬ w12.heap.size + 1 = w15.heap.size := by omega
        have Y15c0 := Y15.c0
        have Y15c1 := Y15.c1
        have Y15l := Y15.1
        have Y15n : ¬ w13.heap.size = w15.heap.size := by omega
        have T15c0 := T15.c0
        have T15c1 := T15.c1
        have T15l := T15.1
        have T15n : ¬ w14.heap.size = w15.heap.size := by omega
        by_cases h6 : (apmR a' b' c' d' x' y' 2 (-3)).2.2 = 0
        · have h6b : ((apmR a' b' c' d' x' y' 2 (-3)).2.2 != 0) = false := by simp [h6]
          have H6 := Lib.hid h6
          clear h6
          by_cases h7 : (apmR a b c d x y (apmR a' b' c' d' x' y' 2 (-3)).1 (apmR a' b' c' d' x' y' 2 (-3)).2.1).2.2 = 0
          · have h7b : ((apmR a b c d x y (apmR a' b' c' d' x' y' 2 (-3)).1 (apmR a' b' c' d' x' y' 2 (-3)).2.1).2.2 != 0) = false := by simp [h7]
            have H7 := Lib.hid h7
            clear h7
            by_cases h8 : (apmR (cmpR a b c d x y a' b' c' d' x' y').1 (cmpR a b c d x y a' b' c' d' x' y').2.1 (cmpR a b c d x y a' b' c' d' x' y').2.2.1 (cmpR a b c d x y a' b' c' d' x' y').2.2.2.1 (cmpR a b c d x y a' b' c' d' x' y').2.2.2.2.1 (cmpR a b c d x y a' b' c' d' x' y').2.2.2.2.2.1 2 (-3)).2.2 = 0
            · have h8b : ((apmR (cmpR a b c d x y a' b' c' d' x' y').1 (cmpR a b c d x y a' b' c' d' x' y').2.1 (cmpR a b c d x y a' b' c' d' x' y').2.2.1 (cmpR a b c d x y a' b' c' d' x' y').2.2.2.1 (cmpR a b c d x y a' b' c' d' x' y').2.2.2.2.1 (cmpR a b c d x y a' b' c' d' x' y').2.2.2.2.2.1 2 (-3)).2.2 != 0) = false := by simp [h8]
              obtain ⟨q1, q2⟩ := apm_comp H2.out H6.out H7.out h8
              clear h8
              go_wp2
              go_ret
              exact ⟨rfl, (Below.alloc B15 (by have := B15.size; first | omega | (simp <;> omega)) _)⟩
            · have h8b : ((apmR (cmpR a b c d x y a' b' c' d' x' y').1 (cmpR a b c d x y a' b' c' d' x' y').2.1 (cmpR a b c d x y a' b' c' d' x' y').2.2.1 (cmpR a b c d x y a' b' c' d' x' y').2.2.2.1 (cmpR a b c d x y a' b' c' d' x' y').2.2.2.2.1 (cmpR a b c d x y a' b' c' d' x' y').2.2.2.2.2.1 2 (-3)).2.2 != 0) = true := by simp [h8]
              clear h8
              go_wp2
              go_ret
              exact ⟨rfl, (Below.alloc B15 (by have := B15.size; first | omega | (simp <;> omega)) _)⟩
          · have h7b : ((apmR a b c d x y (apmR a' b' c' d' x' y' 2 (-3)).1 (apmR a' b' c' d' x' y' 2 (-3)).2.1).2.2 != 0) = true := by simp [h7]
            clear h7
            go_wp2
            go_ret
            exact ⟨rfl, (Below.alloc B15 (by have := B15.size; first | omega | (simp <;> omega)) _)⟩
        · have h6b : ((apmR a' b' c' d' x' y' 2 (-3)).2.2 != 0) = true := by simp [h6]
          clear h6
          go_wp2
          go_ret
          exact ⟨rfl, (Below.alloc B15 (by have := B15.size; first | omega | (simp <;> omega)) _)⟩
      · have h2b : ((cmpR a b c d x y a' b' c' d' x' y').2.2.2.2.2.2 != 0) = true := by simp [h2]
        clear h2
        go_wp2
        go_ret
        exact ⟨rfl, (Below.alloc B12 (by have := B12.size; first | omega | (simp <;> omega)) _)⟩
    · have h1b : ((ibkR e1 e2 e3 e4 e5 e6).2.2.2.2.2.2 == 0) = false := by simp [h1]
      clear h1
      by_cases h2 : (cmpR a b c d x y a' b' c' d' x' y').2.2.2.2.2.2 = 0
      · have h2b : ((cmpR a b c d x y a' b' c' d' x' y').2.2.2.2.2.2 != 0) = false := by simp [h2]
        have H2 := Lib.hid h2
        clear h2
        go_wp2_with fail
        refine (implApmo_any _ _ _ _ _ _ _ _ _ (U11.alloc _)).mono ?_
        rintro e w12 ⟨he, hb12⟩
        unfold vecT at he
        subst he
        have U12 : Kq (0) 1 0 0 1 w12 := Kq.call (U11.alloc _) hb12
        have M12 : Km (w1.heap.size) a b c d x y w12 := Km.call (M11.alloc _) hb12
        have N12 : Km (w1.heap.size + 1) a' b' c' d' x' y' w12 := Km.call (N11.alloc _) hb12
        have P12 : Km (w2.heap.size) ((cmpR a b c d x y a' b' c' d' x' y').1) ((cmpR a b c d x y a' b' c' d' x' y').2.1) ((cmpR a b c d x y a' b' c' d' x' y').2.2.1) ((cmpR a b c d x y a' b' c' d' x' y').2.2.2.1) ((cmpR a b c d x y a' b' c' d' x' y').2.2.2.2.1) ((cmpR a b c d x y a' b' c' d' x' y').2.2.2.2.2.1) w12 := Km.call (P11.alloc _) hb12
        have A12 : Km (w4.heap.size) e1 e2 e3 e4 e5 e6 w12 := Km.call (A11.alloc _) hb12
        have I12 : Km (w5.heap.size) ((ibkR e1 e2 e3 e4 e5 e6).1) ((ibkR e1 e2 e3 e4 e5 e6).2.1) ((ibkR e1 e2 e3 e4 e5 e6).2.2.1) ((ibkR e1 e2 e3 e4 e5 e6).2.2.2.1) ((ibkR e1 e2 e3 e4 e5 e6).2.2.2.2.1) ((ibkR e1 e2 e3 e4 e5 e6).2.2.2.2.2.1) w12 := Km.call (I11.alloc _) hb12
        have X12 : Kg (w11.heap.size) 2 (-3) w12 := (Kg.at2 (w11.heap.size) (by simp) : Kg (w11.heap.size) 2 (-3) _).call hb12
        have B12 : Below w.heap.size w w12 := bstep (Below.alloc B11 (by have := B11.size; first | omega | (simp <;> omega)) _) hb12
        clear hb12 B11 U11 M11 N11 P11 A11 I11
        clear U11c0 U11c1 U11c2 U11c3 U11l U11n M11c0 M11c1 M11c2 M11c3 M11c4 M11c5 M11l M11n N11c0 N11c1 N11c2 N11c3 N11c4 N11c5 N11l N11n P11c0 P11c1 P11c2 P11c3 P11c4 P11c5 P11l P11n A11c0 A11c1 A11c2 A11c3 A11c4 A11c5 A11l A11n I11c0 I11c1 I11c2 I11c3 I11c4 I11c5 I11l I11n
        have U12c0 := U12.c0
        have U12c1 := U12.c1
        have U12c2 := U12.c2
        have U12c3 := U12.c3
        have U12l := U12.1
        have U12n : ¬ 0 = w12.heap.size := by omega
        have M12c0 := M12.c0
        have M12c1 := M12.c1
        have M12c2 := M12.c2
        have M12c3 := M12.c3
        have M12c4 := M12.c4
        have M12c5 := M12.c5
        have M12l := M12.1
        have M12n : ¬ w1.heap.size = w12.heap.size := by omega
        have N12c0 := N12.c0
        have N12c1 := N12.c1
        have N12c2 := N12.c2
        have N12c3 := N12.c3
        have N12c4 := N12.c4
        have N12c5 := N12.c5
        have N12l := N12.1
        have N12n : ¬ w1.heap.size + 1 = w12.heap.size := by omega
        have P12c0 := P12.c0
        have P12c1 := P12.c1
        have P12c2 := P12.c2
        have P12c3 := P12.c3
        have P12c4 := P12.c4
        have P12c5 := P12.c5
        have P12l := P12.1
        have P12n : ¬ w2.heap.size = w12.heap.size := by omega
        have A12c0 := A12.c0
        have A12c1 := A12.c1
        have A12c2 := A12.c2
        have A12c3 := A12.c3
        have A12c4 := A12.c4
        have A12c5 := A12.c5
        have A12l := A12.1
        have A12n : ¬ w4.heap.size = w12.heap.size := by omega
        have I12c0 := I12.c0
        have I12c1 := I12.c1
        have I12c2 := I12.c2
        have I12c3 := I12.c3
        have I12c4 := I12.c4
        have I12c5 := I12.c5
        have I12l := I12.1
        have I12n : ¬ w5.heap.size = w12.heap.size := by omega
        have X12c0 := X12.c0
        have X12c1 := X12.c1
        have X12l := X12.1
        have X12n : ¬ w11.heap.size = w12.heap.size := by omega
        go_wp2_with fail
        refine (implApmo_any _ _ _ _ _ _ _ _ _ (U12.alloc _)).mono ?_
        rintro e w13 ⟨he, hb13⟩
        unfold vecT at he
        subst he
        have U13 : Kq (0) 1 0 0 1 w13 := Kq.call (U12.alloc _) hb13
        have M13 : Km (w1.heap.size) a b c d x y w13 := Km.call (M12.alloc _) hb13
        have N13 : Km (w1.heap.size + 1) a' b' c' d' x' y' w13 := Km.call (N12.alloc _) hb13
        have P13 : Km (w2.heap.size) ((cmpR a b c d x y a' b' c' d' x' y').1) ((cmpR a b c d x y a' b' c' d' x' y').2.1) ((cmpR a b c d x y a' b' c' d' x' y').2.2.1) ((cmpR a b c d x y a' b' c' d' x' y').2.2.2.1) ((cmpR a b c d x y a' b' c' d' x' y').2.2.2.2.1) ((cmpR a b c d x y a' b' c' d' x' y').2.2.2.2.2.1) w13 := Km.call (P12.alloc _) hb13
        have A13 : Km (w4.heap.size) e1 e2 e3 e4 e5 e6 w13 := Km.call (A12.alloc _) hb13
        have I13 : Km (w5.heap.size) ((ibkR e1 e2 e3 e4 e5 e6).1) ((ibkR e1 e2 e3 e4 e5 e6).2.1) ((ibkR e1 e2 e3 e4 e5 e6).2.2.1) ((ibkR e1 e2 e3 e4 e5 e6).2.2.2.1) ((ibkR e1 e2 e3 e4 e5 e6).2.2.2.2.1) ((ibkR e1 e2 e3 e4 e5 e6).2.2.2.2.2.1) w13 := Km.call (I12.alloc _) hb13
        have X13 : Kg (w11.heap.size) 2 (-3) w13 := Kg.call (X12.alloc _) hb13
        have Y13 : Kg (w12.heap.size) ((apmR a' b' c' d' x' y' 2 (-3)).1) ((apmR a' b' c' d' x' y' 2 (-3)).2.1) w13 := (Kg.at2 (w12.heap.size) (by simp) : Kg (w12.heap.size) ((apmR a' b' c' d' x' y' 2 (-3)).1) ((apmR a' b' c' d' x' y' 2 (-3)).2.1) _).call hb13
        have B13 : Below w.heap.size w w13 := bstep (Below.alloc B12 (by have := B12.size; first | omega | (simp <;> omega)) _) hb13
        clear hb13 B12 U12 M12 N12 P12 A12 I12 X12
        clear U12c0 U12c1 U12c2 U12c3 U12l U12n M12c0 M12c1 M12c2 M12c3 M12c4 M12c5 M12l M12n N12c0 N12c1 N12c2 N12c3 N12c4 N12c5 N12l N12n P12c0 P12c1 P12c2 P12c3 P12c4 P12c5 P12l P12n A12c0 A12c1 A12c2 A12c3 A12c4 A12c5 A12l A12n I12c0 I12c1 I12c2 I12c3 I12c4 I12c5 I12l I12n X12c0 X12c1 X12l X12n
        have U13c0 := U13.c0
        have U13c1 := U13.c1
        have U13c2 := U13.c2
        have U13c3 := U13.c3
        have U13l := U13.1
        have U13n : ¬ 0 = w13.heap.size := by omega
        have M13c0 := M13.c0
        have M13c1 := M13.c1
        have M13c2 := M13.c2
        have M13c3 := M13.c3
        have M13c4 := M13.c4
        have M13c5 := M13.c5
        have M13l := M13.1
        have M13n : ¬ w1.heap.size = w13.heap.size := by omega
        have N13c0 := N13.c0
        have N13c1 := N13.c1
        have N13c2 := N13.c2
        have N13c3 := N13.c3
        have N13c4 := N13.c4
        have N13c5 := N13.c5
        have N13l := N13.1
        have N13n : ¬ w1.heap.size + 1 = w13.heap.size := by omega
        have P13c0 := P13.c0
        have P13c1 := P13.c1
        have P13c2 := P13.c2
        have P13c3 := P13.c3
        have P13c4 := P13.c4
        have P13c5 := P13.c5
        have P13l := P13.1
        have P13n : ¬ w2.heap.size = w13.heap.size := by omega
        have A13c0 := A13.c0
        have A13c1 := A13.c1
        have A13c2 := A13.c2
        have A13c3 := A13.c3
        have A13c4 := A13.c4
        have A13c5 := A13.c5
        have A13l := A13.1
        have A13n : ¬ w4.heap.size = w13.heap.size := by omega
        have I13c0 := I13.c0
        have I13c1 := I13.c1
        have I13c2 := I13.c2
        have I13c3 := I13.c3
        have I13c4 := I13.c4
        have I13c5 := I13.c5
        have I13l := I13.1
        have I13n : ¬ w5.heap.size = w13.heap.size := by omega
        have X13c0 := X13.c0
        have X13c1 := X13.c1
        have X13l := X13.1
        have X13n : ¬ w11.heap.size = w13.heap.size := by omega
        have Y13c0 := Y13.c0
        have Y13c1 := Y13.c1
        have Y13l := Y13.1
        have Y13n : ¬ w12.heap.size = w13.heap.size := by omega
        go_wp2_with fail
        refine (implApmo_any _ _ _ _ _ _ _ _ _ (U13.alloc _)).mono ?_
        rintro e w14 ⟨he, hb14⟩
        unfold vecT at he
        subst he
        have U14 : Kq (0) 1 0 0 1 w14 := Kq.call (U13.alloc _) hb14
        have M14 : Km (w1.heap.size) a b c d x y w14 := Km.call (M13.alloc _) hb14
        have N14 : Km (w1.heap.size + 1) a' b' c' d' x' y' w14 := Km.call (N13.alloc _) hb14
        have P14 : Km (w2.heap.size) ((cmpR a b c d x y a' b' c' d' x' y').1) ((cmpR a b c d x y a' b' c' d' x' y').2.1) ((cmpR a b c d x y a' b' c' d' x' y').2.2.1) ((cmpR a b c d x y a' b' c' d' x' y').2.2.2.1) ((cmpR a b c d x y a' b' c' d' x' y').2.2.2.2.1) ((cmpR a b c d x y a' b' c' d' x' y').2.2.2.2.2.1) w14 := Km.call (P13.alloc _) hb14
        have A14 : Km (w4.heap.size) e1 e2 e3 e4 e5 e6 w14 := Km.call (A13.alloc _) hb14
        have I14 : Km (w5.heap.size) ((ibkR e1 e2 e3 e4 e5 e6).1) ((ibkR e1 e2 e3 e4 e5 e6).2.1) ((ibkR e1 e2 e3 e4 e5 e6).2.2.1) ((ibkR e1 e2 e3 e4 e5 e6).2.2.2.1) ((ibkR e1 e2 e3 e4 e5 e6).2.2.2.2.1) ((ibkR e1 e2 e3 e4 e5 e6).2.2.2.2.2.1) w14 := Km.call (I13.alloc _) hb14
        have X14 : Kg (w11.heap.size) 2 (-3) w14 := Kg.call (X13.alloc _) hb14
        have Y14 : Kg (w12.heap.size) ((apmR a' b' c' d' x' y' 2 (-3)).1) ((apmR a' b' c' d' x' y' 2 (-3)).2.1) w14 := Kg.call (Y13.alloc _) hb14
        have T14 : Kg (w13.heap.size) ((apmR a b c d x y (apmR a' b' c' d' x' y' 2 (-3)).1 (apmR a' b' c' d' x' y' 2 (-3)).2.1).1) ((apmR a b c d x y (apmR a' b' c' d' x' y' 2 (-3)).1 (apmR a' b' c' d' x' y' 2 (-3)).2.1).2.1) w14 := (Kg.at2 (w13.heap.size) (by simp) : Kg (w13.heap.size) ((apmR a b c d x y (apmR a' b' c' d' x' y' 2 (-3)).1 (apmR a' b' c' d' x' y' 2 (-3)).2.1).1) ((apmR a b c d x y (apmR a' b' c' d' x' y' 2 (-3)).1 (apmR a' b' c' d' x' y' 2 (-3)).2.1).2.1) _).call hb14
        have B14 : Below w.heap.size w w14 := bstep (Below.alloc B13 (by have := B13.size; first | omega | (simp <;> omega)) _) hb14
        clear hb14 B13 U13 M13 N13 P13 A13 I13 X13 Y13
        clear U13c0 U13c1 U13c2 U13c3 U13l U13n M13c0 M13c1 M13c2 M13c3 M13c4 M13c5 M13l M13n N13c0 N13c1 N13c2 N13c3 N13c4 N13c5 N13l N13n P13c0 P13c1 P13c2 P13c3 P13c4 P13c5 P13l P13n A13c0 A13c1 A13c2 A13c3 A13c4 A13c5 A13l A13n I13c0 I13c1 I13c2 I13c3 I13c4 I13c5 I13l I13n X13c0 X13c1 X13l X13n Y13c0 Y13c1 Y13l Y13n
        have U14c0 := U14.c0
        have U14c1 := U14.c1
        have U14c2 := U14.c2
        have U14c3 := U14.c3
        have U14l := U14.1
        have U14n : ¬ 0 = w14.heap.size := by omega
        have M14c0 := M14.c0
        have M14c1 := M14.c1
        have M14c2 := M14.c2
        have M14c3 := M14.c3
        have M14c4 := M14.c4
        have M14c5 := M14.c5
        have M14l := M14.1
        have M14n : ¬ w1.heap.size = w14.heap.size := by omega
        have N14c0 := N14.c0
        have N14c1 := N14.c1
        have N14c2 := N14.c2
        have N14c3 := N14.c3
        have N14c4 := N14.c4
        have N14c5 := N14.c5
        have N14l := N14.1
        have N14n : ¬ w1.heap.size + 1 = w14.heap.size := by omega
        have P14c0 := P14.c0
        have P14c1 := P14.c1
        have P14c2 := P14.c2
        have P14c3 := P14.c3
        have P14c4 := P14.c4
        have P14c5 := P14.c5
        have P14l := P14.1
        have P14n : ¬ w2.heap.size = w14.heap.size := by omega
        have A14c0 := A14.c0
        have A14c1 := A14.c1
        have A14c2 := A14.c2
        have A14c3 := A14.c3
        have A14c4 := A14.c4
        have A14c5 := A14.c5
        have A14l := A14.1
        have A14n : ¬ w4.heap.size = w14.heap.size := by omega
        have I14c0 := I14.c0
        have I14c1 := I14.c1
        have I14c2 := I14.c2
        have I14c3 := I14.c3
        have I14c4 := I14.c4
        have I14c5 := I14.c5
        have I14l := I14.1
        have I14n : ¬ w5.heap.size = w14.heap.size := by omega
        have X14c0 := X14.c0
        have X14c1 := X14.c1
        have X14l := X14.1
        have X14n : ¬ w11.heap.size = w14.heap.size := by omega
        have Y14c0 := Y14.c0
        have Y14c1 := Y14.c1
        have Y14l := Y14.1
        have Y14n : ¬ w12.heap.size = w14.heap.size := by omega
        have T14c0 := T14.c0
        have T14c1 := T14.c1
        have T14l := T14.1
        have T14n : ¬ w13.heap.size = w14.heap.size := by omega
        by_cases h6 : (apmR a' b' c' d' x' y' 2 (-3)).2.2 = 0
        · have h6b : ((apmR a' b' c' d' x' y' 2 (-3)).2.2 != 0) = false := by simp [h6]
          have H6 := Lib.hid h6
          clear h6
          by_cases h7 : (apmR a b c d x y (apmR a' b' c' d' x' y' 2 (-3)).1 (apmR a' b' c' d' x' y' 2 (-3)).2.1).2.2 = 0
          · have h7b : ((apmR a b c d x y (apmR a' b' c' d' x' y' 2 (-3)).1 (apmR a' b' c' d' x' y' 2 (-3)).2.1).2.2 != 0) = false := by simp [h7]
            have H7 := Lib.hid h7
            clear h7
            by_cases h8 : (apmR (cmpR a b c d x y a' b' c' d' x' y').1 (cmpR a b c d x y a' b' c' d' x' y').2.1 (cmpR a b c d x y a' b' c' d' x' y').2.2.1 (cmpR a b c d x y a' b' c' d' x' y').2.2.2.1 (cmpR a b c d x y a' b' c' d' x' y').2.2.2.2.1 (cmpR a b c d x y a' b' c' d' x' y').2.2.2.2.2.1 2 (-3)).2.2 = 0
            · have h8b : ((apmR (cmpR a b c d x y a' b' c' d' x' y').1 (cmpR a b c d x y a' b' c' d' x' y').2.1 (cmpR a b c d x y a' b' c' d' x' y').2.2.1 (cmpR a b c d x y a' b' c' d' x' y').2.2.2.1 (cmpR a b c d x y a' b' c' d' x' y').2.2.2.2.1 (cmpR a b c d x y a' b' c' d' x' y').2.2.2.2.2.1 2 (-3)).2.2 != 0) = false := by simp [h8]
              obtain ⟨q1, q2⟩ := apm_comp H2.out H6.out H7.out h8
              clear h8
              go_wp2
              go_ret
              exact ⟨rfl, (Below.alloc B14 (by have := B14.size; first | omega | (simp <;> omega)) _)⟩
            · have h8b : ((apmR (cmpR a b c d x y a' b' c' d' x' y').1 (cmpR a b c d x y a' b' c' d' x' y').2.1 (cmpR a b c d x y a' b' c' d' x' y').2.2.1 (cmpR a b c d x y a' b' c' d' x' y').2.2.2.1 (cmpR a b c d x y a' b' c' d' x' y').2.2.2.2.1 (cmpR a b c d x y a' b' c' d' x' y').2.2.2.2.2.1 2 (-3)).2.2 != 0) = true := by simp [h8]
              clear h8
              go_wp2
              go_ret
              exact ⟨rfl, (Below.alloc B14 (by have := B14.size; first | omega | (simp <;> omega)) _)⟩
          · have h7b : ((apmR a b c d x y (apmR a' b' c' d' x' y' 2 (-3)).1 (apmR a' b' c' d' x' y' 2 (-3)).2.1).2.2 != 0) = true := by simp [h7]
            clear h7
            go_wp2
            go_ret
            exact ⟨rfl, (Below.alloc B14 (by have := B14.size; first | omega | (simp <;> omega)) _)⟩
        · have h6b : ((apmR a' b' c' d' x' y' 2 (-3)).2.2 != 0) = true := by simp [h6]
          clear h6
          go_wp2
          go_ret
          exact ⟨rfl, (Below.alloc B14 (by have := B14.size; first | omega | (simp <;> omega)) _)⟩
      · have h2b : ((cmpR a b c d x y a' b' c' d' x' y').2.2.2.2.2.2 != 0) = true := by simp [h2]
        clear h2
        go_wp2
        go_ret
        exact ⟨rfl, B11⟩
end Go.Proofs.YtpdekopmnchanabDoor
