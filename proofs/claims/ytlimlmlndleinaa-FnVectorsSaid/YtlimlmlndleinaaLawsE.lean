/-
  The walk of the law FnVectors: it returns true at every code and writes nothing that was there. Condition: the code's bytes can be read.
-/
import Derived.Test.YtlimlmlndleinaaLawsD
import Derived.Deep.RegionHeld3
namespace Go.Proofs.Ytlimlmlndleinaa
open Go.RowKit
set_option linter.unusedSimpArgs false
set_option linter.unusedVariables false

def KL (l : List (Nat × Int × Int)) (W : World) : Prop := ∀ e ∈ l, Kg e.1 e.2.1 e.2.2 W
theorem KL.call {l : List (Nat × Int × Int)} {W w1 : World} (h : KL l W) (hb : Below W.heap.size W w1) : KL l w1 := fun e he => (h e he).call hb
theorem KL.alloc {l : List (Nat × Int × Int)} {W : World} (h : KL l W) (o : Obj) : KL l (W.alloc o) := fun e he => (h e he).alloc o
theorem KL.drew {l : List (Nat × Int × Int)} {W : World} (h : KL l W) : KL l W.drew := fun e he => (h e he).drew
theorem KL.cells {b1 b2 b3 b4 b5 : Nat} {a1 a2 a3 a4 a5 c1 c2 c3 c4 c5 : Int} {W : World} (h : KL [(b1, a1, c1), (b2, a2, c2), (b3, a3, c3), (b4, a4, c4), (b5, a5, c5)] W) :
    W.cell? ⟨b1, 0, none⟩ = some (.int .i64 a1) ∧ W.cell? ⟨b1, 1, none⟩ = some (.int .i64 c1) ∧ W.cell? ⟨b2, 0, none⟩ = some (.int .i64 a2) ∧ W.cell? ⟨b2, 1, none⟩ = some (.int .i64 c2) ∧ W.cell? ⟨b3, 0, none⟩ = some (.int .i64 a3) ∧ W.cell? ⟨b3, 1, none⟩ = some (.int .i64 c3) ∧ W.cell? ⟨b4, 0, none⟩ = some (.int .i64 a4) ∧ W.cell? ⟨b4, 1, none⟩ = some (.int .i64 c4) ∧ W.cell? ⟨b5, 0, none⟩ = some (.int .i64 a5) ∧ W.cell? ⟨b5, 1, none⟩ = some (.int .i64 c5) :=
  ⟨(h (b1, a1, c1) (by simp)).c0, (h (b1, a1, c1) (by simp)).c1, (h (b2, a2, c2) (by simp)).c0, (h (b2, a2, c2) (by simp)).c1, (h (b3, a3, c3) (by simp)).c0, (h (b3, a3, c3) (by simp)).c1, (h (b4, a4, c4) (by simp)).c0, (h (b4, a4, c4) (by simp)).c1, (h (b5, a5, c5) (by simp)).c0, (h (b5, a5, c5) (by simp)).c1⟩
theorem KL.mk {b1 b2 b3 b4 b5 : Nat} {a1 a2 a3 a4 a5 c1 c2 c3 c4 c5 : Int} {W : World} (h1 : Kg b1 a1 c1 W) (h2 : Kg b2 a2 c2 W) (h3 : Kg b3 a3 c3 W) (h4 : Kg b4 a4 c4 W) (h5 : Kg b5 a5 c5 W) : KL [(b1, a1, c1), (b2, a2, c2), (b3, a3, c3), (b4, a4, c4), (b5, a5, c5)] W := by
  intro e he
  simp at he
  rcases he with rfl | rfl | rfl | rfl | rfl <;> assumption

theorem add_comm (x y x' y' : Int) : addR x' y' x y = addR x y x' y' := by
  unfold addR; rw [Bool.and_comm, Int.add_comm x' x, Int.add_comm y' y]
theorem det_zero {x y n : Int} (h : (scaleR x y n).2.2 = 0) : detR x y (scaleR x y n).1 (scaleR x y n).2.1 = (0, 0) := by
  unfold scaleR at *
  cases h1 : vecB x y
  · simp [h1] at h
  cases h2 : inB n (-1000) 1000
  · simp [h1, h2] at h
  cases h3 : vecB (x * n) (y * n)
  · simp [h1, h2, h3] at h
  simp only [cond_true]
  unfold detR
  simp only [h1, h3, Bool.and_self, cond_true]
  have : x * (y * n) - y * (x * n) = 0 := by
    rw [← Int.mul_assoc, ← Int.mul_assoc, Int.mul_comm x y]; omega
  rw [this]
theorem cmpW_anti (x y x' y' : Int) : cmpW x' y' x y = -(cmpW x y x' y') := by
  unfold cmpW orI cmpI
  split <;> split <;> (try split) <;> (try split) <;> (try split) <;> (try split) <;> (try split) <;> (try split) <;> omega
theorem cmpW_bd (x y x' y' : Int) : -1 ≤ cmpW x y x' y' ∧ cmpW x y x' y' ≤ 1 := by
  unfold cmpW orI cmpI
  split <;> split <;> (try split) <;> (try split) <;> omega
theorem cmp_anti {x y x' y' : Int} (h : (cmpR x y x' y').2 = 0) : cmpR x' y' x y = (-(cmpR x y x' y').1, 0) := by
  unfold cmpR at *
  rw [Bool.and_comm]
  cases h1 : vecB x y && vecB x' y'
  · simp [h1] at h
  · simp only [cond_true]; rw [cmpW_anti]
theorem cmpR_bd (x y x' y' : Int) : -1 ≤ (cmpR x y x' y').1 ∧ (cmpR x y x' y').1 ≤ 1 := by
  have := cmpW_bd x y x' y'
  unfold cmpR
  cases vecB x y && vecB x' y'
  · simp
  · simpa using this

set_option maxRecDepth 100000 in
set_option maxHeartbeats 4000000 in
theorem walkVectors (a0 : Option Addr) (len cap : Nat) (zs : List Int) (w : World) (w0 : IsRow .u8 w a0 len cap zs) :
    Calls Try.prog 3 #[.slice a0 len cap] w fun e w' => e = .returned (.bool true) ∧ Below w.heap.size w w' := by
  by_cases hbig : 4096 < len
  · have hb1 : (4096 : Int) < (len : Int) := by omega
    have hb2 : len ≤ 9223372036854775807 := by
      rcases w0 with ⟨_, h, _, _⟩ | ⟨x, rfl, h1, h2, h3, h4, h5⟩
      · omega
      · unfold maxLen at h2; omega
    go_enter Try.func3, Try.ntmps3
    go_wp2
    go_ret
    exact ⟨rfl, Below.refl _ _⟩
  have hB := rowBts w0
  have hl : len ≤ 4096 := by omega
  clear w0
  go_enter Try.func3, Try.ntmps3
  go_wp2_with (go_at_call 12; go_in)
  refine (drawAdd_any a0 len cap _ (by omega) (hB.grow (Below.refl _ _) (by first | omega | (simp <;> omega)))).mono ?_
  rintro e w1 ⟨x, y, x', y', rfl, hb1⟩
  have B1 : Below w.heap.size w w1 := bstep (Below.refl _ _) hb1
  clear hb1
  go_wp2_with fail
  refine (implAdd_any _ _ _ _ _).mono ?_
  rintro e w2 ⟨he, hb2⟩
  unfold addV at he
  subst he
  have U_2 : Kg (w1.heap.size) x y w2 := Kg.call (Kg.alloc (Kg.at (w1.heap.size) (by simp) : Kg (w1.heap.size) x y _) _) hb2
  have V_2 : Kg (w1.heap.size + 1) x' y' w2 := Kg.call (Kg.at (w1.heap.size + 1) (by simp) : Kg (w1.heap.size + 1) x' y' _) hb2
  have B2 : Below w.heap.size w w2 := bstep (Below.alloc (Below.alloc (B1) (by have := B1.size; first | omega | (simp <;> omega)) _) (by have := B1.size; first | omega | (simp <;> omega)) _) hb2
  clear hb2 B1
  have U_2c := U_2.c0
  have U_2d := U_2.c1
  have U_2l : w1.heap.size < w2.heap.size := U_2.1
  have U_2n : ¬ w1.heap.size = w2.heap.size := by omega
  have V_2c := V_2.c0
  have V_2d := V_2.c1
  have V_2l : w1.heap.size + 1 < w2.heap.size := V_2.1
  have V_2n : ¬ w1.heap.size + 1 = w2.heap.size := by omega
  go_wp2_with fail
  refine (specAdd_any _ _ _ _ _).mono ?_
  rintro e w3 ⟨he, hb3⟩
  unfold addV at he
  subst he
  have U_3 : Kg (w1.heap.size) x y w3 := Kg.call (Kg.alloc U_2 _) hb3
  have V_3 : Kg (w1.heap.size + 1) x' y' w3 := Kg.call (Kg.alloc V_2 _) hb3
  have S_3 : Kg (w2.heap.size) (addR x y x' y').1 (addR x y x' y').2.1 w3 := Kg.call (Kg.at (w2.heap.size) (by simp) : Kg (w2.heap.size) (addR x y x' y').1 (addR x y x' y').2.1 _) hb3
  have B3 : Below w.heap.size w w3 := bstep (Below.alloc (B2) (by have := B2.size; first | omega | (simp <;> omega)) _) hb3
  clear hb3 U_2 V_2 B2 U_2c U_2d U_2l U_2n V_2c V_2d V_2l V_2n
  have U_3c := U_3.c0
  have U_3d := U_3.c1
  have U_3l : w1.heap.size < w3.heap.size := U_3.1
  have U_3n : ¬ w1.heap.size = w3.heap.size := by omega
  have V_3c := V_3.c0
  have V_3d := V_3.c1
  have V_3l : w1.heap.size + 1 < w3.heap.size := V_3.1
  have V_3n : ¬ w1.heap.size + 1 = w3.heap.size := by omega
  have S_3c := S_3.c0
  have S_3d := S_3.c1
  have S_3l : w2.heap.size < w3.heap.size := S_3.1
  have S_3n : ¬ w2.heap.size = w3.heap.size := by omega
  go_wp2_with fail
  refine (drawScale_any a0 len cap _ (by omega) (hB.grow (Below.alloc (B3) (by have := B3.size; first | omega | (simp <;> omega)) _) (by have := B3.size; first | omega | (simp <;> omega)))).mono ?_
  rintro e w4 ⟨p, q, n, rfl, hb4⟩
  have U_4 : Kg (w1.heap.size) x y w4 := Kg.call (Kg.alloc U_3 _) hb4
  have V_4 : Kg (w1.heap.size + 1) x' y' w4 := Kg.call (Kg.alloc V_3 _) hb4
  have S_4 : Kg (w2.heap.size) (addR x y x' y').1 (addR x y x' y').2.1 w4 := Kg.call (Kg.alloc S_3 _) hb4
  have T_4 : Kg (w3.heap.size) (addR x y x' y').1 (addR x y x' y').2.1 w4 := Kg.call (Kg.at (w3.heap.size) (by simp) : Kg (w3.heap.size) (addR x y x' y').1 (addR x y x' y').2.1 _) hb4
  have B4 : Below w.heap.size w w4 := bstep (Below.alloc (B3) (by have := B3.size; first | omega | (simp <;> omega)) _) hb4
  clear hb4 U_3 V_3 S_3 B3 U_3c U_3d U_3l U_3n V_3c V_3d V_3l V_3n S_3c S_3d S_3l S_3n
  have U_4c := U_4.c0
  have U_4d := U_4.c1
  have U_4l : w1.heap.size < w4.heap.size := U_4.1
  have U_4n : ¬ w1.heap.size = w4.heap.size := by omega
  have V_4c := V_4.c0
  have V_4d := V_4.c1
  have V_4l : w1.heap.size + 1 < w4.heap.size := V_4.1
  have V_4n : ¬ w1.heap.size + 1 = w4.heap.size := by omega
  have S_4c := S_4.c0
  have S_4d := S_4.c1
  have S_4l : w2.heap.size < w4.heap.size := S_4.1
  have S_4n : ¬ w2.heap.size = w4.heap.size := by omega
  have T_4c := T_4.c0
  have T_4d := T_4.c1
  have T_4l : w3.heap.size < w4.heap.size := T_4.1
  have T_4n : ¬ w3.heap.size = w4.heap.size := by omega
  go_wp2_with fail
  refine (implScale_any _ _ _ _).mono ?_
  rintro e w5 ⟨he, hb5⟩
  unfold scaleV at he
  subst he
  have U_5 : Kg (w1.heap.size) x y w5 := Kg.call (Kg.alloc U_4 _) hb5
  have V_5 : Kg (w1.heap.size + 1) x' y' w5 := Kg.call (Kg.alloc V_4 _) hb5
  have S_5 : Kg (w2.heap.size) (addR x y x' y').1 (addR x y x' y').2.1 w5 := Kg.call (Kg.alloc S_4 _) hb5
  have T_5 : Kg (w3.heap.size) (addR x y x' y').1 (addR x y x' y').2.1 w5 := Kg.call (Kg.alloc T_4 _) hb5
  have W_5 : Kg (w4.heap.size) p q w5 := Kg.call (Kg.at (w4.heap.size) (by simp) : Kg (w4.heap.size) p q _) hb5
  have B5 : Below w.heap.size w w5 := bstep (Below.alloc (B4) (by have := B4.size; first | omega | (simp <;> omega)) _) hb5
  clear hb5 U_4 V_4 S_4 T_4 B4 U_4c U_4d U_4l U_4n V_4c V_4d V_4l V_4n S_4c S_4d S_4l S_4n T_4c T_4d T_4l T_4n
  have U_5c := U_5.c0
  have U_5d := U_5.c1
  have U_5l : w1.heap.size < w5.heap.size := U_5.1
  have U_5n : ¬ w1.heap.size = w5.heap.size := by omega
  have V_5c := V_5.c0
  have V_5d := V_5.c1
  have V_5l : w1.heap.size + 1 < w5.heap.size := V_5.1
  have V_5n : ¬ w1.heap.size + 1 = w5.heap.size := by omega
  have S_5c := S_5.c0
  have S_5d := S_5.c1
  have S_5l : w2.heap.size < w5.heap.size := S_5.1
  have S_5n : ¬ w2.heap.size = w5.heap.size := by omega
  have T_5c := T_5.c0
  have T_5d := T_5.c1
  have T_5l : w3.heap.size < w5.heap.size := T_5.1
  have T_5n : ¬ w3.heap.size = w5.heap.size := by omega
  have W_5c := W_5.c0
  have W_5d := W_5.c1
  have W_5l : w4.heap.size < w5.heap.size := W_5.1
  have W_5n : ¬ w4.heap.size = w5.heap.size := by omega
  go_wp2_with fail
  refine (specScale_any _ _ _ _).mono ?_
  rintro e w6 ⟨he, hb6⟩
  unfold scaleV at he
  subst he
  have U_6 : Kg (w1.heap.size) x y w6 := Kg.call (Kg.alloc U_5 _) hb6
  have V_6 : Kg (w1.heap.size + 1) x' y' w6 := Kg.call (Kg.alloc V_5 _) hb6
  have S_6 : Kg (w2.heap.size) (addR x y x' y').1 (addR x y x' y').2.1 w6 := Kg.call (Kg.alloc S_5 _) hb6
  have T_6 : Kg (w3.heap.size) (addR x y x' y').1 (addR x y x' y').2.1 w6 := Kg.call (Kg.alloc T_5 _) hb6
  have W_6 : Kg (w4.heap.size) p q w6 := Kg.call (Kg.alloc W_5 _) hb6
  have M_6 : Kg (w5.heap.size) (scaleR p q n).1 (scaleR p q n).2.1 w6 := Kg.call (Kg.at (w5.heap.size) (by simp) : Kg (w5.heap.size) (scaleR p q n).1 (scaleR p q n).2.1 _) hb6
  have B6 : Below w.heap.size w w6 := bstep (Below.alloc (B5) (by have := B5.size; first | omega | (simp <;> omega)) _) hb6
  clear hb6 U_5 V_5 S_5 T_5 W_5 B5 U_5c U_5d U_5l U_5n V_5c V_5d V_5l V_5n S_5c S_5d S_5l S_5n T_5c T_5d T_5l T_5n W_5c W_5d W_5l W_5n
  have U_6c := U_6.c0
  have U_6d := U_6.c1
  have U_6l : w1.heap.size < w6.heap.size := U_6.1
  have U_6n : ¬ w1.heap.size = w6.heap.size := by omega
  have V_6c := V_6.c0
  have V_6d := V_6.c1
  have V_6l : w1.heap.size + 1 < w6.heap.size := V_6.1
  have V_6n : ¬ w1.heap.size + 1 = w6.heap.size := by omega
  have S_6c := S_6.c0
  have S_6d := S_6.c1
  have S_6l : w2.heap.size < w6.heap.size := S_6.1
  have S_6n : ¬ w2.heap.size = w6.heap.size := by omega
  have T_6c := T_6.c0
  have T_6d := T_6.c1
  have T_6l : w3.heap.size < w6.heap.size := T_6.1
  have T_6n : ¬ w3.heap.size = w6.heap.size := by omega
  have W_6c := W_6.c0
  have W_6d := W_6.c1
  have W_6l : w4.heap.size < w6.heap.size := W_6.1
  have W_6n : ¬ w4.heap.size = w6.heap.size := by omega
  have M_6c := M_6.c0
  have M_6d := M_6.c1
  have M_6l : w5.heap.size < w6.heap.size := M_6.1
  have M_6n : ¬ w5.heap.size = w6.heap.size := by omega
  go_wp2_with fail
  refine (implDet_any _ _ _ _ _).mono ?_
  rintro e w7 ⟨he, hb7⟩
  unfold detV at he
  subst he
  have U_7 : Kg (w1.heap.size) x y w7 := Kg.call (Kg.alloc U_6 _) hb7
  have V_7 : Kg (w1.heap.size + 1) x' y' w7 := Kg.call (Kg.alloc V_6 _) hb7
  have S_7 : Kg (w2.heap.size) (addR x y x' y').1 (addR x y x' y').2.1 w7 := Kg.call (Kg.alloc S_6 _) hb7
  have T_7 : Kg (w3.heap.size) (addR x y x' y').1 (addR x y x' y').2.1 w7 := Kg.call (Kg.alloc T_6 _) hb7
  have W_7 : Kg (w4.heap.size) p q w7 := Kg.call (Kg.alloc W_6 _) hb7
  have M_7 : Kg (w5.heap.size) (scaleR p q n).1 (scaleR p q n).2.1 w7 := Kg.call (Kg.alloc M_6 _) hb7
  have N_7 : Kg (w6.heap.size) (scaleR p q n).1 (scaleR p q n).2.1 w7 := Kg.call (Kg.at (w6.heap.size) (by simp) : Kg (w6.heap.size) (scaleR p q n).1 (scaleR p q n).2.1 _) hb7
  have B7 : Below w.heap.size w w7 := bstep (Below.alloc (B6) (by have := B6.size; first | omega | (simp <;> omega)) _) hb7
  clear hb7 U_6 V_6 S_6 T_6 W_6 M_6 B6 U_6c U_6d U_6l U_6n V_6c V_6d V_6l V_6n S_6c S_6d S_6l S_6n T_6c T_6d T_6l T_6n W_6c W_6d W_6l W_6n M_6c M_6d M_6l M_6n
  have U_7c := U_7.c0
  have U_7d := U_7.c1
  have U_7l : w1.heap.size < w7.heap.size := U_7.1
  have U_7n : ¬ w1.heap.size = w7.heap.size := by omega
  have V_7c := V_7.c0
  have V_7d := V_7.c1
  have V_7l : w1.heap.size + 1 < w7.heap.size := V_7.1
  have V_7n : ¬ w1.heap.size + 1 = w7.heap.size := by omega
  have S_7c := S_7.c0
  have S_7d := S_7.c1
  have S_7l : w2.heap.size < w7.heap.size := S_7.1
  have S_7n : ¬ w2.heap.size = w7.heap.size := by omega
  have T_7c := T_7.c0
  have T_7d := T_7.c1
  have T_7l : w3.heap.size < w7.heap.size := T_7.1
  have T_7n : ¬ w3.heap.size = w7.heap.size := by omega
  have W_7c := W_7.c0
  have W_7d := W_7.c1
  have W_7l : w4.heap.size < w7.heap.size := W_7.1
  have W_7n : ¬ w4.heap.size = w7.heap.size := by omega
  have M_7c := M_7.c0
  have M_7d := M_7.c1
  have M_7l : w5.heap.size < w7.heap.size := M_7.1
  have M_7n : ¬ w5.heap.size = w7.heap.size := by omega
  have N_7c := N_7.c0
  have N_7d := N_7.c1
  have N_7l : w6.heap.size < w7.heap.size := N_7.1
  have N_7n : ¬ w6.heap.size = w7.heap.size := by omega
  go_wp2_with fail
  refine (specDet_any _ _ _ _ _).mono ?_
  rintro e w8 ⟨he, hb8⟩
  unfold detV at he
  subst he
  have U_8 : Kg (w1.heap.size) x y w8 := Kg.call U_7 hb8
  have V_8 : Kg (w1.heap.size + 1) x' y' w8 := Kg.call V_7 hb8
  have S_8 : Kg (w2.heap.size) (addR x y x' y').1 (addR x y x' y').2.1 w8 := Kg.call S_7 hb8
  have T_8 : Kg (w3.heap.size) (addR x y x' y').1 (addR x y x' y').2.1 w8 := Kg.call T_7 hb8
  have W_8 : Kg (w4.heap.size) p q w8 := Kg.call W_7 hb8
  have M_8 : Kg (w5.heap.size) (scaleR p q n).1 (scaleR p q n).2.1 w8 := Kg.call M_7 hb8
  have N_8 : Kg (w6.heap.size) (scaleR p q n).1 (scaleR p q n).2.1 w8 := Kg.call N_7 hb8
  have B8 : Below w.heap.size w w8 := bstep (B7) hb8
  clear hb8 U_7 V_7 S_7 T_7 W_7 M_7 N_7 B7 U_7c U_7d U_7l U_7n V_7c V_7d V_7l V_7n S_7c S_7d S_7l S_7n T_7c T_7d T_7l T_7n W_7c W_7d W_7l W_7n M_7c M_7d M_7l M_7n N_7c N_7d N_7l N_7n
  have U_8c := U_8.c0
  have U_8d := U_8.c1
  have U_8l : w1.heap.size < w8.heap.size := U_8.1
  have U_8n : ¬ w1.heap.size = w8.heap.size := by omega
  have V_8c := V_8.c0
  have V_8d := V_8.c1
  have V_8l : w1.heap.size + 1 < w8.heap.size := V_8.1
  have V_8n : ¬ w1.heap.size + 1 = w8.heap.size := by omega
  have S_8c := S_8.c0
  have S_8d := S_8.c1
  have S_8l : w2.heap.size < w8.heap.size := S_8.1
  have S_8n : ¬ w2.heap.size = w8.heap.size := by omega
  have T_8c := T_8.c0
  have T_8d := T_8.c1
  have T_8l : w3.heap.size < w8.heap.size := T_8.1
  have T_8n : ¬ w3.heap.size = w8.heap.size := by omega
  have W_8c := W_8.c0
  have W_8d := W_8.c1
  have W_8l : w4.heap.size < w8.heap.size := W_8.1
  have W_8n : ¬ w4.heap.size = w8.heap.size := by omega
  have M_8c := M_8.c0
  have M_8d := M_8.c1
  have M_8l : w5.heap.size < w8.heap.size := M_8.1
  have M_8n : ¬ w5.heap.size = w8.heap.size := by omega
  have N_8c := N_8.c0
  have N_8d := N_8.c1
  have N_8l : w6.heap.size < w8.heap.size := N_8.1
  have N_8n : ¬ w6.heap.size = w8.heap.size := by omega
  go_wp2_with fail
  refine (drawCmp_any a0 len cap _ (by omega) (hB.grow (B8) (by have := B8.size; first | omega | (simp <;> omega)))).mono ?_
  rintro e w9 ⟨a, b, c, d, rfl, hb9⟩
  have U_9 : Kg (w1.heap.size) x y w9 := Kg.call U_8 hb9
  have V_9 : Kg (w1.heap.size + 1) x' y' w9 := Kg.call V_8 hb9
  have S_9 : Kg (w2.heap.size) (addR x y x' y').1 (addR x y x' y').2.1 w9 := Kg.call S_8 hb9
  have T_9 : Kg (w3.heap.size) (addR x y x' y').1 (addR x y x' y').2.1 w9 := Kg.call T_8 hb9
  have W_9 : Kg (w4.heap.size) p q w9 := Kg.call W_8 hb9
  have M_9 : Kg (w5.heap.size) (scaleR p q n).1 (scaleR p q n).2.1 w9 := Kg.call M_8 hb9
  have N_9 : Kg (w6.heap.size) (scaleR p q n).1 (scaleR p q n).2.1 w9 := Kg.call N_8 hb9
  have B9 : Below w.heap.size w w9 := bstep (B8) hb9
  clear hb9 U_8 V_8 S_8 T_8 W_8 M_8 N_8 B8 U_8c U_8d U_8l U_8n V_8c V_8d V_8l V_8n S_8c S_8d S_8l S_8n T_8c T_8d T_8l T_8n W_8c W_8d W_8l W_8n M_8c M_8d M_8l M_8n N_8c N_8d N_8l N_8n
  have U_9c := U_9.c0
  have U_9d := U_9.c1
  have U_9l : w1.heap.size < w9.heap.size := U_9.1
  have U_9n : ¬ w1.heap.size = w9.heap.size := by omega
  have V_9c := V_9.c0
  have V_9d := V_9.c1
  have V_9l : w1.heap.size + 1 < w9.heap.size := V_9.1
  have V_9n : ¬ w1.heap.size + 1 = w9.heap.size := by omega
  have S_9c := S_9.c0
  have S_9d := S_9.c1
  have S_9l : w2.heap.size < w9.heap.size := S_9.1
  have S_9n : ¬ w2.heap.size = w9.heap.size := by omega
  have T_9c := T_9.c0
  have T_9d := T_9.c1
  have T_9l : w3.heap.size < w9.heap.size := T_9.1
  have T_9n : ¬ w3.heap.size = w9.heap.size := by omega
  have W_9c := W_9.c0
  have W_9d := W_9.c1
  have W_9l : w4.heap.size < w9.heap.size := W_9.1
  have W_9n : ¬ w4.heap.size = w9.heap.size := by omega
  have M_9c := M_9.c0
  have M_9d := M_9.c1
  have M_9l : w5.heap.size < w9.heap.size := M_9.1
  have M_9n : ¬ w5.heap.size = w9.heap.size := by omega
  have N_9c := N_9.c0
  have N_9d := N_9.c1
  have N_9l : w6.heap.size < w9.heap.size := N_9.1
  have N_9n : ¬ w6.heap.size = w9.heap.size := by omega
  go_wp2_with fail
  refine (implCmp_any _ _ _ _ _).mono ?_
  rintro e w10 ⟨he, hb10⟩
  unfold cmpV at he
  subst he
  have U_10 : Kg (w1.heap.size) x y w10 := Kg.call (Kg.alloc (Kg.alloc U_9 _) _) hb10
  have V_10 : Kg (w1.heap.size + 1) x' y' w10 := Kg.call (Kg.alloc (Kg.alloc V_9 _) _) hb10
  have S_10 : Kg (w2.heap.size) (addR x y x' y').1 (addR x y x' y').2.1 w10 := Kg.call (Kg.alloc (Kg.alloc S_9 _) _) hb10
  have T_10 : Kg (w3.heap.size) (addR x y x' y').1 (addR x y x' y').2.1 w10 := Kg.call (Kg.alloc (Kg.alloc T_9 _) _) hb10
  have W_10 : Kg (w4.heap.size) p q w10 := Kg.call (Kg.alloc (Kg.alloc W_9 _) _) hb10
  have M_10 : Kg (w5.heap.size) (scaleR p q n).1 (scaleR p q n).2.1 w10 := Kg.call (Kg.alloc (Kg.alloc M_9 _) _) hb10
  have N_10 : Kg (w6.heap.size) (scaleR p q n).1 (scaleR p q n).2.1 w10 := Kg.call (Kg.alloc (Kg.alloc N_9 _) _) hb10
  have A_10 : Kg (w9.heap.size) a b w10 := Kg.call (Kg.alloc (Kg.at (w9.heap.size) (by simp) : Kg (w9.heap.size) a b _) _) hb10
  have C_10 : Kg (w9.heap.size + 1) c d w10 := Kg.call (Kg.at (w9.heap.size + 1) (by simp) : Kg (w9.heap.size + 1) c d _) hb10
  have B10 : Below w.heap.size w w10 := bstep (Below.alloc (Below.alloc (B9) (by have := B9.size; first | omega | (simp <;> omega)) _) (by have := B9.size; first | omega | (simp <;> omega)) _) hb10
  clear hb10 U_9 V_9 S_9 T_9 W_9 M_9 N_9 B9 U_9c U_9d U_9l U_9n V_9c V_9d V_9l V_9n S_9c S_9d S_9l S_9n T_9c T_9d T_9l T_9n W_9c W_9d W_9l W_9n M_9c M_9d M_9l M_9n N_9c N_9d N_9l N_9n
  have U_10c := U_10.c0
  have U_10d := U_10.c1
  have U_10l : w1.heap.size < w10.heap.size := U_10.1
  have U_10n : ¬ w1.heap.size = w10.heap.size := by omega
  have V_10c := V_10.c0
  have V_10d := V_10.c1
  have V_10l : w1.heap.size + 1 < w10.heap.size := V_10.1
  have V_10n : ¬ w1.heap.size + 1 = w10.heap.size := by omega
  have S_10c := S_10.c0
  have S_10d := S_10.c1
  have S_10l : w2.heap.size < w10.heap.size := S_10.1
  have S_10n : ¬ w2.heap.size = w10.heap.size := by omega
  have T_10c := T_10.c0
  have T_10d := T_10.c1
  have T_10l : w3.heap.size < w10.heap.size := T_10.1
  have T_10n : ¬ w3.heap.size = w10.heap.size := by omega
  have W_10c := W_10.c0
  have W_10d := W_10.c1
  have W_10l : w4.heap.size < w10.heap.size := W_10.1
  have W_10n : ¬ w4.heap.size = w10.heap.size := by omega
  have M_10c := M_10.c0
  have M_10d := M_10.c1
  have M_10l : w5.heap.size < w10.heap.size := M_10.1
  have M_10n : ¬ w5.heap.size = w10.heap.size := by omega
  have N_10c := N_10.c0
  have N_10d := N_10.c1
  have N_10l : w6.heap.size < w10.heap.size := N_10.1
  have N_10n : ¬ w6.heap.size = w10.heap.size := by omega
  have A_10c := A_10.c0
  have A_10d := A_10.c1
  have A_10l : w9.heap.size < w10.heap.size := A_10.1
  have A_10n : ¬ w9.heap.size = w10.heap.size := by omega
  have C_10c := C_10.c0
  have C_10d := C_10.c1
  have C_10l : w9.heap.size + 1 < w10.heap.size := C_10.1
  have C_10n : ¬ w9.heap.size + 1 = w10.heap.size := by omega
  go_wp2_with fail
  refine (specCmp_any _ _ _ _ _).mono ?_
  rintro e w11 ⟨he, hb11⟩
  unfold cmpV at he
  subst he
  have U_11 : Kg (w1.heap.size) x y w11 := Kg.call U_10 hb11
  have V_11 : Kg (w1.heap.size + 1) x' y' w11 := Kg.call V_10 hb11
  have S_11 : Kg (w2.heap.size) (addR x y x' y').1 (addR x y x' y').2.1 w11 := Kg.call S_10 hb11
  have T_11 : Kg (w3.heap.size) (addR x y x' y').1 (addR x y x' y').2.1 w11 := Kg.call T_10 hb11
  have W_11 : Kg (w4.heap.size) p q w11 := Kg.call W_10 hb11
  have M_11 : Kg (w5.heap.size) (scaleR p q n).1 (scaleR p q n).2.1 w11 := Kg.call M_10 hb11
  have N_11 : Kg (w6.heap.size) (scaleR p q n).1 (scaleR p q n).2.1 w11 := Kg.call N_10 hb11
  have A_11 : Kg (w9.heap.size) a b w11 := Kg.call A_10 hb11
  have C_11 : Kg (w9.heap.size + 1) c d w11 := Kg.call C_10 hb11
  have B11 : Below w.heap.size w w11 := bstep (B10) hb11
  clear hb11 U_10 V_10 S_10 T_10 W_10 M_10 N_10 A_10 C_10 B10 U_10c U_10d U_10l U_10n V_10c V_10d V_10l V_10n S_10c S_10d S_10l S_10n T_10c T_10d T_10l T_10n W_10c W_10d W_10l W_10n M_10c M_10d M_10l M_10n N_10c N_10d N_10l N_10n A_10c A_10d A_10l A_10n C_10c C_10d C_10l C_10n
  have U_11c := U_11.c0
  have U_11d := U_11.c1
  have U_11l : w1.heap.size < w11.heap.size := U_11.1
  have U_11n : ¬ w1.heap.size = w11.heap.size := by omega
  have V_11c := V_11.c0
  have V_11d := V_11.c1
  have V_11l : w1.heap.size + 1 < w11.heap.size := V_11.1
  have V_11n : ¬ w1.heap.size + 1 = w11.heap.size := by omega
  have S_11c := S_11.c0
  have S_11d := S_11.c1
  have S_11l : w2.heap.size < w11.heap.size := S_11.1
  have S_11n : ¬ w2.heap.size = w11.heap.size := by omega
  have T_11c := T_11.c0
  have T_11d := T_11.c1
  have T_11l : w3.heap.size < w11.heap.size := T_11.1
  have T_11n : ¬ w3.heap.size = w11.heap.size := by omega
  have W_11c := W_11.c0
  have W_11d := W_11.c1
  have W_11l : w4.heap.size < w11.heap.size := W_11.1
  have W_11n : ¬ w4.heap.size = w11.heap.size := by omega
  have M_11c := M_11.c0
  have M_11d := M_11.c1
  have M_11l : w5.heap.size < w11.heap.size := M_11.1
  have M_11n : ¬ w5.heap.size = w11.heap.size := by omega
  have N_11c := N_11.c0
  have N_11d := N_11.c1
  have N_11l : w6.heap.size < w11.heap.size := N_11.1
  have N_11n : ¬ w6.heap.size = w11.heap.size := by omega
  have A_11c := A_11.c0
  have A_11d := A_11.c1
  have A_11l : w9.heap.size < w11.heap.size := A_11.1
  have A_11n : ¬ w9.heap.size = w11.heap.size := by omega
  have C_11c := C_11.c0
  have C_11d := C_11.c1
  have C_11l : w9.heap.size + 1 < w11.heap.size := C_11.1
  have C_11n : ¬ w9.heap.size + 1 = w11.heap.size := by omega
  have KK := KL.mk S_11 T_11 M_11 N_11 U_11
  go_wp2_with fail
  go_region_held3 (fun W => W.cell? ⟨w2.heap.size, 0, none⟩ = some (.int .i64 (addR x y x' y').1) ∧ W.cell? ⟨w2.heap.size, 1, none⟩ = some (.int .i64 (addR x y x' y').2.1) ∧ W.cell? ⟨w3.heap.size, 0, none⟩ = some (.int .i64 (addR x y x' y').1) ∧ W.cell? ⟨w3.heap.size, 1, none⟩ = some (.int .i64 (addR x y x' y').2.1) ∧ W.cell? ⟨w5.heap.size, 0, none⟩ = some (.int .i64 (scaleR p q n).1) ∧ W.cell? ⟨w5.heap.size, 1, none⟩ = some (.int .i64 (scaleR p q n).2.1) ∧ W.cell? ⟨w6.heap.size, 0, none⟩ = some (.int .i64 (scaleR p q n).1) ∧ W.cell? ⟨w6.heap.size, 1, none⟩ = some (.int .i64 (scaleR p q n).2.1) ∧ W.cell? ⟨w1.heap.size, 0, none⟩ = some (.int .i64 x) ∧ W.cell? ⟨w1.heap.size, 1, none⟩ = some (.int .i64 y)) ((refine KL.cells ?_; repeat (first | assumption | with_reducible refine KL.drew ?_ | with_reducible refine KL.alloc ?_ _ | with_reducible refine KL.call ?_ (by assumption))))
    (first
      | (go_at_call 24; refine (implIsVec_any _ _ _).mono ?_; rintro e u1 ⟨rfl, hb1⟩)
      | (go_at_call 25; refine (specIsVec_any _ _ _).mono ?_; rintro e w12 ⟨rfl, hb2⟩))
  have U_12 : Kg (w1.heap.size) x y w12 := Kg.call (Kg.call U_11.drew hb1) hb2
  have V_12 : Kg (w1.heap.size + 1) x' y' w12 := Kg.call (Kg.call V_11.drew hb1) hb2
  have S_12 : Kg (w2.heap.size) (addR x y x' y').1 (addR x y x' y').2.1 w12 := Kg.call (Kg.call S_11.drew hb1) hb2
  have T_12 : Kg (w3.heap.size) (addR x y x' y').1 (addR x y x' y').2.1 w12 := Kg.call (Kg.call T_11.drew hb1) hb2
  have W_12 : Kg (w4.heap.size) p q w12 := Kg.call (Kg.call W_11.drew hb1) hb2
  have M_12 : Kg (w5.heap.size) (scaleR p q n).1 (scaleR p q n).2.1 w12 := Kg.call (Kg.call M_11.drew hb1) hb2
  have N_12 : Kg (w6.heap.size) (scaleR p q n).1 (scaleR p q n).2.1 w12 := Kg.call (Kg.call N_11.drew hb1) hb2
  have A_12 : Kg (w9.heap.size) a b w12 := Kg.call (Kg.call A_11.drew hb1) hb2
  have C_12 : Kg (w9.heap.size + 1) c d w12 := Kg.call (Kg.call C_11.drew hb1) hb2
  have B12 : Below w.heap.size w w12 := bstep (bstep B11.drew hb1) hb2
  clear hb1 hb2 KK B11 U_11 U_11c U_11d U_11l U_11n V_11 V_11c V_11d V_11l V_11n S_11 S_11c S_11d S_11l S_11n T_11 T_11c T_11d T_11l T_11n W_11 W_11c W_11d W_11l W_11n M_11 M_11c M_11d M_11l M_11n N_11 N_11c N_11d N_11l N_11n A_11 A_11c A_11d A_11l A_11n C_11 C_11c C_11d C_11l C_11n
  have U_12c := U_12.c0
  have U_12d := U_12.c1
  have U_12l : w1.heap.size < w12.heap.size := U_12.1
  have U_12n : ¬ w1.heap.size = w12.heap.size := by omega
  have V_12c := V_12.c0
  have V_12d := V_12.c1
  have V_12l : w1.heap.size + 1 < w12.heap.size := V_12.1
  have V_12n : ¬ w1.heap.size + 1 = w12.heap.size := by omega
  have S_12c := S_12.c0
  have S_12d := S_12.c1
  have S_12l : w2.heap.size < w12.heap.size := S_12.1
  have S_12n : ¬ w2.heap.size = w12.heap.size := by omega
  have T_12c := T_12.c0
  have T_12d := T_12.c1
  have T_12l : w3.heap.size < w12.heap.size := T_12.1
  have T_12n : ¬ w3.heap.size = w12.heap.size := by omega
  have W_12c := W_12.c0
  have W_12d := W_12.c1
  have W_12l : w4.heap.size < w12.heap.size := W_12.1
  have W_12n : ¬ w4.heap.size = w12.heap.size := by omega
  have M_12c := M_12.c0
  have M_12d := M_12.c1
  have M_12l : w5.heap.size < w12.heap.size := M_12.1
  have M_12n : ¬ w5.heap.size = w12.heap.size := by omega
  have N_12c := N_12.c0
  have N_12d := N_12.c1
  have N_12l : w6.heap.size < w12.heap.size := N_12.1
  have N_12n : ¬ w6.heap.size = w12.heap.size := by omega
  have A_12c := A_12.c0
  have A_12d := A_12.c1
  have A_12l : w9.heap.size < w12.heap.size := A_12.1
  have A_12n : ¬ w9.heap.size = w12.heap.size := by omega
  have C_12c := C_12.c0
  have C_12d := C_12.c1
  have C_12l : w9.heap.size + 1 < w12.heap.size := C_12.1
  have C_12n : ¬ w9.heap.size + 1 = w12.heap.size := by omega
  obtain ⟨cb1, cb2⟩ := cmpR_bd a b c d
  have HA := Lib.hid (add_comm x y x' y')
  by_cases h0 : (cmpR a b c d).2 = 0
  · have HC := Lib.hid (cmp_anti h0)
    go_wp2_with fail
    refine (implCmp_any _ _ _ _ _).mono ?_
    rintro e w13 ⟨he, hb13⟩
    unfold cmpV at he
    rw [HC.out] at he
    subst he
    have U_13 : Kg (w1.heap.size) x y w13 := Kg.call U_12 hb13
    have V_13 : Kg (w1.heap.size + 1) x' y' w13 := Kg.call V_12 hb13
    have S_13 : Kg (w2.heap.size) (addR x y x' y').1 (addR x y x' y').2.1 w13 := Kg.call S_12 hb13
    have T_13 : Kg (w3.heap.size) (addR x y x' y').1 (addR x y x' y').2.1 w13 := Kg.call T_12 hb13
    have W_13 : Kg (w4.heap.size) p q w13 := Kg.call W_12 hb13
    have M_13 : Kg (w5.heap.size) (scaleR p q n).1 (scaleR p q n).2.1 w13 := Kg.call M_12 hb13
    have N_13 : Kg (w6.heap.size) (scaleR p q n).1 (scaleR p q n).2.1 w13 := Kg.call N_12 hb13
    have A_13 : Kg (w9.heap.size) a b w13 := Kg.call A_12 hb13
    have C_13 : Kg (w9.heap.size + 1) c d w13 := Kg.call C_12 hb13
    have B13 : Below w.heap.size w w13 := bstep (B12) hb13
    clear hb13 U_12 V_12 S_12 T_12 W_12 M_12 N_12 A_12 C_12 B12 U_12c U_12d U_12l U_12n V_12c V_12d V_12l V_12n S_12c S_12d S_12l S_12n T_12c T_12d T_12l T_12n W_12c W_12d W_12l W_12n M_12c M_12d M_12l M_12n N_12c N_12d N_12l N_12n A_12c A_12d A_12l A_12n C_12c C_12d C_12l C_12n
    have U_13c := U_13.c0
    have U_13d := U_13.c1
    have U_13l : w1.heap.size < w13.heap.size := U_13.1
    have U_13n : ¬ w1.heap.size = w13.heap.size := by omega
    have V_13c := V_13.c0
    have V_13d := V_13.c1
    have V_13l : w1.heap.size + 1 < w13.heap.size := V_13.1
    have V_13n : ¬ w1.heap.size + 1 = w13.heap.size := by omega
    have S_13c := S_13.c0
    have S_13d := S_13.c1
    have S_13l : w2.heap.size < w13.heap.size := S_13.1
    have S_13n : ¬ w2.heap.size = w13.heap.size := by omega
    have T_13c := T_13.c0
    have T_13d := T_13.c1
    have T_13l : w3.heap.size < w13.heap.size := T_13.1
    have T_13n : ¬ w3.heap.size = w13.heap.size := by omega
    have W_13c := W_13.c0
    have W_13d := W_13.c1
    have W_13l : w4.heap.size < w13.heap.size := W_13.1
    have W_13n : ¬ w4.heap.size = w13.heap.size := by omega
    have M_13c := M_13.c0
    have M_13d := M_13.c1
    have M_13l : w5.heap.size < w13.heap.size := M_13.1
    have M_13n : ¬ w5.heap.size = w13.heap.size := by omega
    have N_13c := N_13.c0
    have N_13d := N_13.c1
    have N_13l : w6.heap.size < w13.heap.size := N_13.1
    have N_13n : ¬ w6.heap.size = w13.heap.size := by omega
    have A_13c := A_13.c0
    have A_13d := A_13.c1
    have A_13l : w9.heap.size < w13.heap.size := A_13.1
    have A_13n : ¬ w9.heap.size = w13.heap.size := by omega
    have C_13c := C_13.c0
    have C_13d := C_13.c1
    have C_13l : w9.heap.size + 1 < w13.heap.size := C_13.1
    have C_13n : ¬ w9.heap.size + 1 = w13.heap.size := by omega
    by_cases h1 : (scaleR p q n).2.2 = 0
    · have HD := Lib.hid (det_zero h1)
      go_wp2_with fail
      refine (implDet_any _ _ _ _ _).mono ?_
      rintro e w14 ⟨he, hb14⟩
      unfold detV at he
      rw [HD.out] at he
      subst he
      have U_14 : Kg (w1.heap.size) x y w14 := Kg.call U_13 hb14
      have V_14 : Kg (w1.heap.size + 1) x' y' w14 := Kg.call V_13 hb14
      have S_14 : Kg (w2.heap.size) (addR x y x' y').1 (addR x y x' y').2.1 w14 := Kg.call S_13 hb14
      have T_14 : Kg (w3.heap.size) (addR x y x' y').1 (addR x y x' y').2.1 w14 := Kg.call T_13 hb14
      have W_14 : Kg (w4.heap.size) p q w14 := Kg.call W_13 hb14
      have M_14 : Kg (w5.heap.size) (scaleR p q n).1 (scaleR p q n).2.1 w14 := Kg.call M_13 hb14
      have N_14 : Kg (w6.heap.size) (scaleR p q n).1 (scaleR p q n).2.1 w14 := Kg.call N_13 hb14
      have A_14 : Kg (w9.heap.size) a b w14 := Kg.call A_13 hb14
      have C_14 : Kg (w9.heap.size + 1) c d w14 := Kg.call C_13 hb14
      have B14 : Below w.heap.size w w14 := bstep (B13) hb14
      clear hb14 U_13 V_13 S_13 T_13 W_13 M_13 N_13 A_13 C_13 B13 U_13c U_13d U_13l U_13n V_13c V_13d V_13l V_13n S_13c S_13d S_13l S_13n T_13c T_13d T_13l T_13n W_13c W_13d W_13l W_13n M_13c M_13d M_13l M_13n N_13c N_13d N_13l N_13n A_13c A_13d A_13l A_13n C_13c C_13d C_13l C_13n
      have U_14c := U_14.c0
      have U_14d := U_14.c1
      have U_14l : w1.heap.size < w14.heap.size := U_14.1
      have U_14n : ¬ w1.heap.size = w14.heap.size := by omega
      have V_14c := V_14.c0
      have V_14d := V_14.c1
      have V_14l : w1.heap.size + 1 < w14.heap.size := V_14.1
      have V_14n : ¬ w1.heap.size + 1 = w14.heap.size := by omega
      have S_14c := S_14.c0
      have S_14d := S_14.c1
      have S_14l : w2.heap.size < w14.heap.size := S_14.1
      have S_14n : ¬ w2.heap.size = w14.heap.size := by omega
      have T_14c := T_14.c0
      have T_14d := T_14.c1
      have T_14l : w3.heap.size < w14.heap.size := T_14.1
      have T_14n : ¬ w3.heap.size = w14.heap.size := by omega
      have W_14c := W_14.c0
      have W_14d := W_14.c1
      have W_14l : w4.heap.size < w14.heap.size := W_14.1
      have W_14n : ¬ w4.heap.size = w14.heap.size := by omega
      have M_14c := M_14.c0
      have M_14d := M_14.c1
      have M_14l : w5.heap.size < w14.heap.size := M_14.1
      have M_14n : ¬ w5.heap.size = w14.heap.size := by omega
      have N_14c := N_14.c0
      have N_14d := N_14.c1
      have N_14l : w6.heap.size < w14.heap.size := N_14.1
      have N_14n : ¬ w6.heap.size = w14.heap.size := by omega
      have A_14c := A_14.c0
      have A_14d := A_14.c1
      have A_14l : w9.heap.size < w14.heap.size := A_14.1
      have A_14n : ¬ w9.heap.size = w14.heap.size := by omega
      have C_14c := C_14.c0
      have C_14d := C_14.c1
      have C_14l : w9.heap.size + 1 < w14.heap.size := C_14.1
      have C_14n : ¬ w9.heap.size + 1 = w14.heap.size := by omega
      go_wp2_with fail
      refine (implAdd_any _ _ _ _ _).mono ?_
      rintro e w15 ⟨he, hb15⟩
      unfold addV at he
      rw [HA.out] at he
      subst he
      have U_15 : Kg (w1.heap.size) x y w15 := Kg.call U_14 hb15
      have V_15 : Kg (w1.heap.size + 1) x' y' w15 := Kg.call V_14 hb15
      have S_15 : Kg (w2.heap.size) (addR x y x' y').1 (addR x y x' y').2.1 w15 := Kg.call S_14 hb15
      have T_15 : Kg (w3.heap.size) (addR x y x' y').1 (addR x y x' y').2.1 w15 := Kg.call T_14 hb15
      have W_15 : Kg (w4.heap.size) p q w15 := Kg.call W_14 hb15
      have M_15 : Kg (w5.heap.size) (scaleR p q n).1 (scaleR p q n).2.1 w15 := Kg.call M_14 hb15
      have N_15 : Kg (w6.heap.size) (scaleR p q n).1 (scaleR p q n).2.1 w15 := Kg.call N_14 hb15
      have A_15 : Kg (w9.heap.size) a b w15 := Kg.call A_14 hb15
      have C_15 : Kg (w9.heap.size + 1) c d w15 := Kg.call C_14 hb15
      have B15 : Below w.heap.size w w15 := bstep (B14) hb15
      clear hb15 U_14 V_14 S_14 T_14 W_14 M_14 N_14 A_14 C_14 B14 U_14c U_14d U_14l U_14n V_14c V_14d V_14l V_14n S_14c S_14d S_14l S_14n T_14c T_14d T_14l T_14n W_14c W_14d W_14l W_14n M_14c M_14d M_14l M_14n N_14c N_14d N_14l N_14n A_14c A_14d A_14l A_14n C_14c C_14d C_14l C_14n
      have U_15c := U_15.c0
      have U_15d := U_15.c1
      have U_15l : w1.heap.size < w15.heap.size := U_15.1
      have U_15n : ¬ w1.heap.size = w15.heap.size := by omega
      have V_15c := V_15.c0
      have V_15d := V_15.c1
      have V_15l : w1.heap.size + 1 < w15.heap.size := V_15.1
      have V_15n : ¬ w1.heap.size + 1 = w15.heap.size := by omega
      have S_15c := S_15.c0
      have S_15d := S_15.c1
      have S_15l : w2.heap.size < w15.heap.size := S_15.1
      have S_15n : ¬ w2.heap.size = w15.heap.size := by omega
      have T_15c := T_15.c0
      have T_15d := T_15.c1
      have T_15l : w3.heap.size < w15.heap.size := T_15.1
      have T_15n : ¬ w3.heap.size = w15.heap.size := by omega
      have W_15c := W_15.c0
      have W_15d := W_15.c1
      have W_15l : w4.heap.size < w15.heap.size := W_15.1
      have W_15n : ¬ w4.heap.size = w15.heap.size := by omega
      have M_15c := M_15.c0
      have M_15d := M_15.c1
      have M_15l : w5.heap.size < w15.heap.size := M_15.1
      have M_15n : ¬ w5.heap.size = w15.heap.size := by omega
      have N_15c := N_15.c0
      have N_15d := N_15.c1
      have N_15l : w6.heap.size < w15.heap.size := N_15.1
      have N_15n : ¬ w6.heap.size = w15.heap.size := by omega
      have A_15c := A_15.c0
      have A_15d := A_15.c1
      have A_15l : w9.heap.size < w15.heap.size := A_15.1
      have A_15n : ¬ w9.heap.size = w15.heap.size := by omega
      have C_15c := C_15.c0
      have C_15d := C_15.c1
      have C_15l : w9.heap.size + 1 < w15.heap.size := C_15.1
      have C_15n : ¬ w9.heap.size + 1 = w15.heap.size := by omega
      go_wp2
      go_ret
      refine ⟨rfl, ?_⟩
      exact Below.alloc B15 B15.size _
    · go_wp2_with fail
      refine (implAdd_any _ _ _ _ _).mono ?_
      rintro e w14 ⟨he, hb14⟩
      unfold addV at he
      rw [HA.out] at he
      subst he
      have U_14 : Kg (w1.heap.size) x y w14 := Kg.call U_13 hb14
      have V_14 : Kg (w1.heap.size + 1) x' y' w14 := Kg.call V_13 hb14
      have S_14 : Kg (w2.heap.size) (addR x y x' y').1 (addR x y x' y').2.1 w14 := Kg.call S_13 hb14
      have T_14 : Kg (w3.heap.size) (addR x y x' y').1 (addR x y x' y').2.1 w14 := Kg.call T_13 hb14
      have W_14 : Kg (w4.heap.size) p q w14 := Kg.call W_13 hb14
      have M_14 : Kg (w5.heap.size) (scaleR p q n).1 (scaleR p q n).2.1 w14 := Kg.call M_13 hb14
      have N_14 : Kg (w6.heap.size) (scaleR p q n).1 (scaleR p q n).2.1 w14 := Kg.call N_13 hb14
      have A_14 : Kg (w9.heap.size) a b w14 := Kg.call A_13 hb14
      have C_14 : Kg (w9.heap.size + 1) c d w14 := Kg.call C_13 hb14
      have B14 : Below w.heap.size w w14 := bstep (B13) hb14
      clear hb14 U_13 V_13 S_13 T_13 W_13 M_13 N_13 A_13 C_13 B13 U_13c U_13d U_13l U_13n V_13c V_13d V_13l V_13n S_13c S_13d S_13l S_13n T_13c T_13d T_13l T_13n W_13c W_13d W_13l W_13n M_13c M_13d M_13l M_13n N_13c N_13d N_13l N_13n A_13c A_13d A_13l A_13n C_13c C_13d C_13l C_13n
      have U_14c := U_14.c0
      have U_14d := U_14.c1
      have U_14l : w1.heap.size < w14.heap.size := U_14.1
      have U_14n : ¬ w1.heap.size = w14.heap.size := by omega
      have V_14c := V_14.c0
      have V_14d := V_14.c1
      have V_14l : w1.heap.size + 1 < w14.heap.size := V_14.1
      have V_14n : ¬ w1.heap.size + 1 = w14.heap.size := by omega
      have S_14c := S_14.c0
      have S_14d := S_14.c1
      have S_14l : w2.heap.size < w14.heap.size := S_14.1
      have S_14n : ¬ w2.heap.size = w14.heap.size := by omega
      have T_14c := T_14.c0
      have T_14d := T_14.c1
      have T_14l : w3.heap.size < w14.heap.size := T_14.1
      have T_14n : ¬ w3.heap.size = w14.heap.size := by omega
      have W_14c := W_14.c0
      have W_14d := W_14.c1
      have W_14l : w4.heap.size < w14.heap.size := W_14.1
      have W_14n : ¬ w4.heap.size = w14.heap.size := by omega
      have M_14c := M_14.c0
      have M_14d := M_14.c1
      have M_14l : w5.heap.size < w14.heap.size := M_14.1
      have M_14n : ¬ w5.heap.size = w14.heap.size := by omega
      have N_14c := N_14.c0
      have N_14d := N_14.c1
      have N_14l : w6.heap.size < w14.heap.size := N_14.1
      have N_14n : ¬ w6.heap.size = w14.heap.size := by omega
      have A_14c := A_14.c0
      have A_14d := A_14.c1
      have A_14l : w9.heap.size < w14.heap.size := A_14.1
      have A_14n : ¬ w9.heap.size = w14.heap.size := by omega
      have C_14c := C_14.c0
      have C_14d := C_14.c1
      have C_14l : w9.heap.size + 1 < w14.heap.size := C_14.1
      have C_14n : ¬ w9.heap.size + 1 = w14.heap.size := by omega
      go_wp2
      go_ret
      refine ⟨rfl, ?_⟩
      exact Below.alloc B14 B14.size _
  · by_cases h1 : (scaleR p q n).2.2 = 0
    · have HD := Lib.hid (det_zero h1)
      go_wp2_with fail
      refine (implDet_any _ _ _ _ _).mono ?_
      rintro e w13 ⟨he, hb13⟩
      unfold detV at he
      rw [HD.out] at he
      subst he
      have U_13 : Kg (w1.heap.size) x y w13 := Kg.call U_12 hb13
      have V_13 : Kg (w1.heap.size + 1) x' y' w13 := Kg.call V_12 hb13
      have S_13 : Kg (w2.heap.size) (addR x y x' y').1 (addR x y x' y').2.1 w13 := Kg.call S_12 hb13
      have T_13 : Kg (w3.heap.size) (addR x y x' y').1 (addR x y x' y').2.1 w13 := Kg.call T_12 hb13
      have W_13 : Kg (w4.heap.size) p q w13 := Kg.call W_12 hb13
      have M_13 : Kg (w5.heap.size) (scaleR p q n).1 (scaleR p q n).2.1 w13 := Kg.call M_12 hb13
      have N_13 : Kg (w6.heap.size) (scaleR p q n).1 (scaleR p q n).2.1 w13 := Kg.call N_12 hb13
      have A_13 : Kg (w9.heap.size) a b w13 := Kg.call A_12 hb13
      have C_13 : Kg (w9.heap.size + 1) c d w13 := Kg.call C_12 hb13
      have B13 : Below w.heap.size w w13 := bstep (B12) hb13
      clear hb13 U_12 V_12 S_12 T_12 W_12 M_12 N_12 A_12 C_12 B12 U_12c U_12d U_12l U_12n V_12c V_12d V_12l V_12n S_12c S_12d S_12l S_12n T_12c T_12d T_12l T_12n W_12c W_12d W_12l W_12n M_12c M_12d M_12l M_12n N_12c N_12d N_12l N_12n A_12c A_12d A_12l A_12n C_12c C_12d C_12l C_12n
      have U_13c := U_13.c0
      have U_13d := U_13.c1
      have U_13l : w1.heap.size < w13.heap.size := U_13.1
      have U_13n : ¬ w1.heap.size = w13.heap.size := by omega
      have V_13c := V_13.c0
      have V_13d := V_13.c1
      have V_13l : w1.heap.size + 1 < w13.heap.size := V_13.1
      have V_13n : ¬ w1.heap.size + 1 = w13.heap.size := by omega
      have S_13c := S_13.c0
      have S_13d := S_13.c1
      have S_13l : w2.heap.size < w13.heap.size := S_13.1
      have S_13n : ¬ w2.heap.size = w13.heap.size := by omega
      have T_13c := T_13.c0
      have T_13d := T_13.c1
      have T_13l : w3.heap.size < w13.heap.size := T_13.1
      have T_13n : ¬ w3.heap.size = w13.heap.size := by omega
      have W_13c := W_13.c0
      have W_13d := W_13.c1
      have W_13l : w4.heap.size < w13.heap.size := W_13.1
      have W_13n : ¬ w4.heap.size = w13.heap.size := by omega
      have M_13c := M_13.c0
      have M_13d := M_13.c1
      have M_13l : w5.heap.size < w13.heap.size := M_13.1
      have M_13n : ¬ w5.heap.size = w13.heap.size := by omega
      have N_13c := N_13.c0
      have N_13d := N_13.c1
      have N_13l : w6.heap.size < w13.heap.size := N_13.1
      have N_13n : ¬ w6.heap.size = w13.heap.size := by omega
      have A_13c := A_13.c0
      have A_13d := A_13.c1
      have A_13l : w9.heap.size < w13.heap.size := A_13.1
      have A_13n : ¬ w9.heap.size = w13.heap.size := by omega
      have C_13c := C_13.c0
      have C_13d := C_13.c1
      have C_13l : w9.heap.size + 1 < w13.heap.size := C_13.1
      have C_13n : ¬ w9.heap.size + 1 = w13.heap.size := by omega
      go_wp2_with fail
      refine (implAdd_any _ _ _ _ _).mono ?_
      rintro e w14 ⟨he, hb14⟩
      unfold addV at he
      rw [HA.out] at he
      subst he
      have U_14 : Kg (w1.heap.size) x y w14 := Kg.call U_13 hb14
      have V_14 : Kg (w1.heap.size + 1) x' y' w14 := Kg.call V_13 hb14
      have S_14 : Kg (w2.heap.size) (addR x y x' y').1 (addR x y x' y').2.1 w14 := Kg.call S_13 hb14
      have T_14 : Kg (w3.heap.size) (addR x y x' y').1 (addR x y x' y').2.1 w14 := Kg.call T_13 hb14
      have W_14 : Kg (w4.heap.size) p q w14 := Kg.call W_13 hb14
      have M_14 : Kg (w5.heap.size) (scaleR p q n).1 (scaleR p q n).2.1 w14 := Kg.call M_13 hb14
      have N_14 : Kg (w6.heap.size) (scaleR p q n).1 (scaleR p q n).2.1 w14 := Kg.call N_13 hb14
      have A_14 : Kg (w9.heap.size) a b w14 := Kg.call A_13 hb14
      have C_14 : Kg (w9.heap.size + 1) c d w14 := Kg.call C_13 hb14
      have B14 : Below w.heap.size w w14 := bstep (B13) hb14
      clear hb14 U_13 V_13 S_13 T_13 W_13 M_13 N_13 A_13 C_13 B13 U_13c U_13d U_13l U_13n V_13c V_13d V_13l V_13n S_13c S_13d S_13l S_13n T_13c T_13d T_13l T_13n W_13c W_13d W_13l W_13n M_13c M_13d M_13l M_13n N_13c N_13d N_13l N_13n A_13c A_13d A_13l A_13n C_13c C_13d C_13l C_13n
      have U_14c := U_14.c0
      have U_14d := U_14.c1
      have U_14l : w1.heap.size < w14.heap.size := U_14.1
      have U_14n : ¬ w1.heap.size = w14.heap.size := by omega
      have V_14c := V_14.c0
      have V_14d := V_14.c1
      have V_14l : w1.heap.size + 1 < w14.heap.size := V_14.1
      have V_14n : ¬ w1.heap.size + 1 = w14.heap.size := by omega
      have S_14c := S_14.c0
      have S_14d := S_14.c1
      have S_14l : w2.heap.size < w14.heap.size := S_14.1
      have S_14n : ¬ w2.heap.size = w14.heap.size := by omega
      have T_14c := T_14.c0
      have T_14d := T_14.c1
      have T_14l : w3.heap.size < w14.heap.size := T_14.1
      have T_14n : ¬ w3.heap.size = w14.heap.size := by omega
      have W_14c := W_14.c0
      have W_14d := W_14.c1
      have W_14l : w4.heap.size < w14.heap.size := W_14.1
      have W_14n : ¬ w4.heap.size = w14.heap.size := by omega
      have M_14c := M_14.c0
      have M_14d := M_14.c1
      have M_14l : w5.heap.size < w14.heap.size := M_14.1
      have M_14n : ¬ w5.heap.size = w14.heap.size := by omega
      have N_14c := N_14.c0
      have N_14d := N_14.c1
      have N_14l : w6.heap.size < w14.heap.size := N_14.1
      have N_14n : ¬ w6.heap.size = w14.heap.size := by omega
      have A_14c := A_14.c0
      have A_14d := A_14.c1
      have A_14l : w9.heap.size < w14.heap.size := A_14.1
      have A_14n : ¬ w9.heap.size = w14.heap.size := by omega
      have C_14c := C_14.c0
      have C_14d := C_14.c1
      have C_14l : w9.heap.size + 1 < w14.heap.size := C_14.1
      have C_14n : ¬ w9.heap.size + 1 = w14.heap.size := by omega
      go_wp2
      go_ret
      refine ⟨rfl, ?_⟩
      exact Below.alloc B14 B14.size _
    · go_wp2_with fail
      refine (implAdd_any _ _ _ _ _).mono ?_
      rintro e w13 ⟨he, hb13⟩
      unfold addV at he
      rw [HA.out] at he
      subst he
      have U_13 : Kg (w1.heap.size) x y w13 := Kg.call U_12 hb13
      have V_13 : Kg (w1.heap.size + 1) x' y' w13 := Kg.call V_12 hb13
      have S_13 : Kg (w2.heap.size) (addR x y x' y').1 (addR x y x' y').2.1 w13 := Kg.call S_12 hb13
      have T_13 : Kg (w3.heap.size) (addR x y x' y').1 (addR x y x' y').2.1 w13 := Kg.call T_12 hb13
      have W_13 : Kg (w4.heap.size) p q w13 := Kg.call W_12 hb13
      have M_13 : Kg (w5.heap.size) (scaleR p q n).1 (scaleR p q n).2.1 w13 := Kg.call M_12 hb13
      have N_13 : Kg (w6.heap.size) (scaleR p q n).1 (scaleR p q n).2.1 w13 := Kg.call N_12 hb13
      have A_13 : Kg (w9.heap.size) a b w13 := Kg.call A_12 hb13
      have C_13 : Kg (w9.heap.size + 1) c d w13 := Kg.call C_12 hb13
      have B13 : Below w.heap.size w w13 := bstep (B12) hb13
      clear hb13 U_12 V_12 S_12 T_12 W_12 M_12 N_12 A_12 C_12 B12 U_12c U_12d U_12l U_12n V_12c V_12d V_12l V_12n S_12c S_12d S_12l S_12n T_12c T_12d T_12l T_12n W_12c W_12d W_12l W_12n M_12c M_12d M_12l M_12n N_12c N_12d N_12l N_12n A_12c A_12d A_12l A_12n C_12c C_12d C_12l C_12n
      have U_13c := U_13.c0
      have U_13d := U_13.c1
      have U_13l : w1.heap.size < w13.heap.size := U_13.1
      have U_13n : ¬ w1.heap.size = w13.heap.size := by omega
      have V_13c := V_13.c0
      have V_13d := V_13.c1
      have V_13l : w1.heap.size + 1 < w13.heap.size := V_13.1
      have V_13n : ¬ w1.heap.size + 1 = w13.heap.size := by omega
      have S_13c := S_13.c0
      have S_13d := S_13.c1
      have S_13l : w2.heap.size < w13.heap.size := S_13.1
      have S_13n : ¬ w2.heap.size = w13.heap.size := by omega
      have T_13c := T_13.c0
      have T_13d := T_13.c1
      have T_13l : w3.heap.size < w13.heap.size := T_13.1
      have T_13n : ¬ w3.heap.size = w13.heap.size := by omega
      have W_13c := W_13.c0
      have W_13d := W_13.c1
      have W_13l : w4.heap.size < w13.heap.size := W_13.1
      have W_13n : ¬ w4.heap.size = w13.heap.size := by omega
      have M_13c := M_13.c0
      have M_13d := M_13.c1
      have M_13l : w5.heap.size < w13.heap.size := M_13.1
      have M_13n : ¬ w5.heap.size = w13.heap.size := by omega
      have N_13c := N_13.c0
      have N_13d := N_13.c1
      have N_13l : w6.heap.size < w13.heap.size := N_13.1
      have N_13n : ¬ w6.heap.size = w13.heap.size := by omega
      have A_13c := A_13.c0
      have A_13d := A_13.c1
      have A_13l : w9.heap.size < w13.heap.size := A_13.1
      have A_13n : ¬ w9.heap.size = w13.heap.size := by omega
      have C_13c := C_13.c0
      have C_13d := C_13.c1
      have C_13l : w9.heap.size + 1 < w13.heap.size := C_13.1
      have C_13n : ¬ w9.heap.size + 1 = w13.heap.size := by omega
      go_wp2
      go_ret
      refine ⟨rfl, ?_⟩
      exact Below.alloc B13 B13.size _

end Go.Proofs.Ytlimlmlndleinaa
