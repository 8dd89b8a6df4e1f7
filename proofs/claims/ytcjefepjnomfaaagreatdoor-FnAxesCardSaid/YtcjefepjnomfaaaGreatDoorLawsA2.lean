/-
  The walk of the law FnAxes: it returns true at every code and writes nothing that was there. Conditions: the code's bytes can be read; the library's table, its two errors and its constant read as they are laid.
-/
import Derived.Test.YtcjefepjnomfaaaGreatDoorAxF
import Derived.Test.YtcjefepjnomfaaaGreatDoorDrawsA
import Derived.ProofKit
import Derived.OpenShut
namespace Go.Proofs.YtcjefepjnomfaaaGreatDoor
open Go.RowKit Go.ChangeShapes Go.WideShapes Go.ChangeAt
set_option linter.unusedSimpArgs false
set_option linter.unusedVariables false

def IsRow (k : IntKind) (w : World) (a : Option Addr) (len cap : Nat) (zs : List Int) : Prop :=
  (a = none ∧ len = 0 ∧ cap = 0 ∧ zs = []) ∨
  ∃ x, a = some x ∧ len ≤ cap ∧ cap ≤ maxLen ∧ zs.length = cap ∧ (∀ i, i < zs.length → w.cell? (x.add i) = some (.int k (zs.getD i 0))) ∧ ∀ n ∈ zs, (Lit.int k n).wf = true

theorem rowBts {w : World} {a0 : Option Addr} {len cap : Nat} {zs : List Int} (h : IsRow .u8 w a0 len cap zs) : Bts a0 len w.heap.size w := by
  rcases h with ⟨_, h, _, _⟩ | ⟨x, rfl, h1, h2, h3, h4, h5⟩
  · exact .inl h
  · by_cases h0 : len = 0
    · exact .inl h0
    · obtain ⟨b, off, rfl, hc⟩ := ints_at h4 (by omega)
      refine .inr ⟨b, off, rfl, World.block_lt_of_cell? _ _ (hc 0 (by omega)), fun i hi => ?_⟩
      have hb := bounds_u8 (h5 (zs.getD i 0) (by
        rw [List.getD_eq_getElem?_getD, List.getElem?_eq_getElem (by omega)]
        exact List.getElem_mem _))
      exact ⟨_, hb.1, hb.2, hc i (by omega)⟩

set_option maxRecDepth 100000 in
set_option maxHeartbeats 16000000 in
theorem walkAxes (a0 : Option Addr) (len cap : Nat) (zs : List Int) (w : World) (w0 : IsRow .u8 w a0 len cap zs) (hT : TabOK w) (hE : ErrsOK w) (hM : MaxOK w) :
    Calls Tryz.prog 3 #[.slice a0 len cap] w fun e w' => e = .returned (.bool true) ∧ Below w.heap.size w w' := by
  by_cases hbig : 4096 < len
  · have hb1 : (4096 : Int) < (len : Int) := by omega
    have hb2 : len ≤ 9223372036854775807 := by
      rcases w0 with ⟨_, h, _, _⟩ | ⟨x, rfl, h1, h2, h3, h4, h5⟩
      · omega
      · unfold maxLen at h2; omega
    go_enter Tryz.func3, Tryz.ntmps3
    go_wp2
    go_ret
    exact ⟨rfl, Below.refl _ _⟩
  have hB := rowBts w0
  have hl : len ≤ 4096 := by omega
  clear w0
  go_enter Tryz.func3, Tryz.ntmps3
  go_wp2_with (go_at_call 4; go_in)
  refine (drawAxis_any a0 len cap _ (by omega) (hB.grow (Below.refl _ _) (by first | omega | (simp <;> omega)))).mono ?_
  rintro e w1 ⟨a, b, c, d, rfl, hb1⟩
  have B1 : Below w.heap.size w w1 := bstep (Below.refl _ _) hb1
  clear hb1
  go_wp2_with fail
  refine (implAxis_any _ _ _ _ _).mono ?_
  rintro e w2 ⟨he, hb2⟩
  unfold vecV at he
  subst he
  have M_2 : Kq (w1.heap.size) a b c d w2 := Kq.call (Kq.at (w1.heap.size) (by simp) : Kq (w1.heap.size) a b c d _) hb2
  have B2 : Below w.heap.size w w2 := bstep (Below.alloc (B1) (by have := B1.size; first | omega | (simp <;> omega)) _) hb2
  clear hb2 B1
  have M_2c0 := M_2.c0
  have M_2c1 := M_2.c1
  have M_2c2 := M_2.c2
  have M_2c3 := M_2.c3
  have M_2l : w1.heap.size < w2.heap.size := M_2.1
  have M_2n : ¬ w1.heap.size = w2.heap.size := by omega
  go_wp2_with fail
  refine (specAxis_any _ _ _ _ _).mono ?_
  rintro e w3 ⟨he, hb3⟩
  unfold vecV at he
  subst he
  have M_3 : Kq (w1.heap.size) a b c d w3 := Kq.call (Kq.alloc M_2 _) hb3
  have V_3 : Kg (w2.heap.size) (axisR a b c d).1 (axisR a b c d).2.1 w3 := Kg.call (Kg.at2 (w2.heap.size) (by simp) : Kg (w2.heap.size) (axisR a b c d).1 (axisR a b c d).2.1 _) hb3
  have B3 : Below w.heap.size w w3 := bstep (Below.alloc (B2) (by have := B2.size; first | omega | (simp <;> omega)) _) hb3
  clear hb3 M_2 B2 M_2c0 M_2c1 M_2c2 M_2c3 M_2l M_2n
  have M_3c0 := M_3.c0
  have M_3c1 := M_3.c1
  have M_3c2 := M_3.c2
  have M_3c3 := M_3.c3
  have M_3l : w1.heap.size < w3.heap.size := M_3.1
  have M_3n : ¬ w1.heap.size = w3.heap.size := by omega
  have V_3c0 := V_3.c0
  have V_3c1 := V_3.c1
  have V_3l : w2.heap.size < w3.heap.size := V_3.1
  have V_3n : ¬ w2.heap.size = w3.heap.size := by omega
  go_wp2_with fail
  refine (implMText_any _ _ _ _ _ (hT.on (Below.alloc (B3) (by have := B3.size; first | omega | (simp <;> omega)) _))).mono ?_
  rintro e w4 ⟨rfl, hb4⟩
  have M_4 : Kq (w1.heap.size) a b c d w4 := Kq.call (Kq.alloc M_3 _) hb4
  have V_4 : Kg (w2.heap.size) (axisR a b c d).1 (axisR a b c d).2.1 w4 := Kg.call (Kg.alloc V_3 _) hb4
  have W_4 : Kg (w3.heap.size) (axisR a b c d).1 (axisR a b c d).2.1 w4 := Kg.call (Kg.at2 (w3.heap.size) (by simp) : Kg (w3.heap.size) (axisR a b c d).1 (axisR a b c d).2.1 _) hb4
  have B4 : Below w.heap.size w w4 := bstep (Below.alloc (B3) (by have := B3.size; first | omega | (simp <;> omega)) _) hb4
  clear hb4 M_3 V_3 B3 M_3c0 M_3c1 M_3c2 M_3c3 M_3l M_3n V_3c0 V_3c1 V_3l V_3n
  have M_4c0 := M_4.c0
  have M_4c1 := M_4.c1
  have M_4c2 := M_4.c2
  have M_4c3 := M_4.c3
  have M_4l : w1.heap.size < w4.heap.size := M_4.1
  have M_4n : ¬ w1.heap.size = w4.heap.size := by omega
  have V_4c0 := V_4.c0
  have V_4c1 := V_4.c1
  have V_4l : w2.heap.size < w4.heap.size := V_4.1
  have V_4n : ¬ w2.heap.size = w4.heap.size := by omega
  have W_4c0 := W_4.c0
  have W_4c1 := W_4.c1
  have W_4l : w3.heap.size < w4.heap.size := W_4.1
  have W_4n : ¬ w3.heap.size = w4.heap.size := by omega
  have hz := mtext_size a b c d
  go_wp2_with fail
  refine (implReadM_any _ (by omega) _ (hT.on (B4)) (hE.on (B4)) (hM.on (B4))).mono ?_
  rintro e w5 ⟨a1, b1, c1, d1, o1, rfl, p1, p2, hb5⟩
  have M_5 : Kq (w1.heap.size) a b c d w5 := Kq.call M_4 hb5
  have V_5 : Kg (w2.heap.size) (axisR a b c d).1 (axisR a b c d).2.1 w5 := Kg.call V_4 hb5
  have W_5 : Kg (w3.heap.size) (axisR a b c d).1 (axisR a b c d).2.1 w5 := Kg.call W_4 hb5
  have B5 : Below w.heap.size w w5 := bstep (B4) hb5
  clear hb5 M_4 V_4 W_4 B4 M_4c0 M_4c1 M_4c2 M_4c3 M_4l M_4n V_4c0 V_4c1 V_4l V_4n W_4c0 W_4c1 W_4l W_4n
  have M_5c0 := M_5.c0
  have M_5c1 := M_5.c1
  have M_5c2 := M_5.c2
  have M_5c3 := M_5.c3
  have M_5l : w1.heap.size < w5.heap.size := M_5.1
  have M_5n : ¬ w1.heap.size = w5.heap.size := by omega
  have V_5c0 := V_5.c0
  have V_5c1 := V_5.c1
  have V_5l : w2.heap.size < w5.heap.size := V_5.1
  have V_5n : ¬ w2.heap.size = w5.heap.size := by omega
  have W_5c0 := W_5.c0
  have W_5c1 := W_5.c1
  have W_5l : w3.heap.size < w5.heap.size := W_5.1
  have W_5n : ¬ w3.heap.size = w5.heap.size := by omega
  have P1 := Lib.hid p1
  have P2 := Lib.hid p2
  clear p1 p2 hz
  go_wp2_with fail
  refine (drawReadM_any a0 len cap _ (by omega) (hB.grow (Below.alloc (B5) (by have := B5.size; first | omega | (simp <;> omega)) _) (by have := B5.size; first | omega | (simp <;> omega)))).mono ?_
  rintro e w6 ⟨u, rfl, hu, hb6⟩
  have M_6 : Kq (w1.heap.size) a b c d w6 := Kq.call (Kq.alloc M_5 _) hb6
  have V_6 : Kg (w2.heap.size) (axisR a b c d).1 (axisR a b c d).2.1 w6 := Kg.call (Kg.alloc V_5 _) hb6
  have W_6 : Kg (w3.heap.size) (axisR a b c d).1 (axisR a b c d).2.1 w6 := Kg.call (Kg.alloc W_5 _) hb6
  have R_6 : Kq (w5.heap.size) a1 b1 c1 d1 w6 := Kq.call (Kq.at (w5.heap.size) (by simp) : Kq (w5.heap.size) a1 b1 c1 d1 _) hb6
  have B6 : Below w.heap.size w w6 := bstep (Below.alloc (B5) (by have := B5.size; first | omega | (simp <;> omega)) _) hb6
  clear hb6 M_5 V_5 W_5 B5 M_5c0 M_5c1 M_5c2 M_5c3 M_5l M_5n V_5c0 V_5c1 V_5l V_5n W_5c0 W_5c1 W_5l W_5n
  have M_6c0 := M_6.c0
  have M_6c1 := M_6.c1
  have M_6c2 := M_6.c2
  have M_6c3 := M_6.c3
  have M_6l : w1.heap.size < w6.heap.size := M_6.1
  have M_6n : ¬ w1.heap.size = w6.heap.size := by omega
  have V_6c0 := V_6.c0
  have V_6c1 := V_6.c1
  have V_6l : w2.heap.size < w6.heap.size := V_6.1
  have V_6n : ¬ w2.heap.size = w6.heap.size := by omega
  have W_6c0 := W_6.c0
  have W_6c1 := W_6.c1
  have W_6l : w3.heap.size < w6.heap.size := W_6.1
  have W_6n : ¬ w3.heap.size = w6.heap.size := by omega
  have R_6c0 := R_6.c0
  have R_6c1 := R_6.c1
  have R_6c2 := R_6.c2
  have R_6c3 := R_6.c3
  have R_6l : w5.heap.size < w6.heap.size := R_6.1
  have R_6n : ¬ w5.heap.size = w6.heap.size := by omega
  go_wp2_with fail
  refine (implReadM_any _ (by omega) _ (hT.on (B6)) (hE.on (B6)) (hM.on (B6))).mono ?_
  rintro e w7 ⟨a2, b2, c2, d2, o2, rfl, q1, q2, hb7⟩
  have M_7 : Kq (w1.heap.size) a b c d w7 := Kq.call M_6 hb7
  have V_7 : Kg (w2.heap.size) (axisR a b c d).1 (axisR a b c d).2.1 w7 := Kg.call V_6 hb7
  have W_7 : Kg (w3.heap.size) (axisR a b c d).1 (axisR a b c d).2.1 w7 := Kg.call W_6 hb7
  have R_7 : Kq (w5.heap.size) a1 b1 c1 d1 w7 := Kq.call R_6 hb7
  have B7 : Below w.heap.size w w7 := bstep (B6) hb7
  clear hb7 M_6 V_6 W_6 R_6 B6 M_6c0 M_6c1 M_6c2 M_6c3 M_6l M_6n V_6c0 V_6c1 V_6l V_6n W_6c0 W_6c1 W_6l W_6n R_6c0 R_6c1 R_6c2 R_6c3 R_6l R_6n
  have M_7c0 := M_7.c0
  have M_7c1 := M_7.c1
  have M_7c2 := M_7.c2
  have M_7c3 := M_7.c3
  have M_7l : w1.heap.size < w7.heap.size := M_7.1
  have M_7n : ¬ w1.heap.size = w7.heap.size := by omega
  have V_7c0 := V_7.c0
  have V_7c1 := V_7.c1
  have V_7l : w2.heap.size < w7.heap.size := V_7.1
  have V_7n : ¬ w2.heap.size = w7.heap.size := by omega
  have W_7c0 := W_7.c0
  have W_7c1 := W_7.c1
  have W_7l : w3.heap.size < w7.heap.size := W_7.1
  have W_7n : ¬ w3.heap.size = w7.heap.size := by omega
  have R_7c0 := R_7.c0
  have R_7c1 := R_7.c1
  have R_7c2 := R_7.c2
  have R_7c3 := R_7.c3
  have R_7l : w5.heap.size < w7.heap.size := R_7.1
  have R_7n : ¬ w5.heap.size = w7.heap.size := by omega
  have Q1 := Lib.hid q1
  have Q2 := Lib.hid q2
  clear q1 q2
  go_wp2_with fail
  refine (specReadM_any _ (by omega) _).mono ?_
  rintro e w8 ⟨a3, b3, c3, d3, o3, rfl, q3, q4, hb8⟩
  have M_8 : Kq (w1.heap.size) a b c d w8 := Kq.call (Kq.alloc M_7 _) hb8
  have V_8 : Kg (w2.heap.size) (axisR a b c d).1 (axisR a b c d).2.1 w8 := Kg.call (Kg.alloc V_7 _) hb8
  have W_8 : Kg (w3.heap.size) (axisR a b c d).1 (axisR a b c d).2.1 w8 := Kg.call (Kg.alloc W_7 _) hb8
  have R_8 : Kq (w5.heap.size) a1 b1 c1 d1 w8 := Kq.call (Kq.alloc R_7 _) hb8
  have Y_8 : Kq (w7.heap.size) a2 b2 c2 d2 w8 := Kq.call (Kq.at (w7.heap.size) (by simp) : Kq (w7.heap.size) a2 b2 c2 d2 _) hb8
  have B8 : Below w.heap.size w w8 := bstep (Below.alloc (B7) (by have := B7.size; first | omega | (simp <;> omega)) _) hb8
  clear hb8 M_7 V_7 W_7 R_7 B7 M_7c0 M_7c1 M_7c2 M_7c3 M_7l M_7n V_7c0 V_7c1 V_7l V_7n W_7c0 W_7c1 W_7l W_7n R_7c0 R_7c1 R_7c2 R_7c3 R_7l R_7n
  have M_8c0 := M_8.c0
  have M_8c1 := M_8.c1
  have M_8c2 := M_8.c2
  have M_8c3 := M_8.c3
  have M_8l : w1.heap.size < w8.heap.size := M_8.1
  have M_8n : ¬ w1.heap.size = w8.heap.size := by omega
  have V_8c0 := V_8.c0
  have V_8c1 := V_8.c1
  have V_8l : w2.heap.size < w8.heap.size := V_8.1
  have V_8n : ¬ w2.heap.size = w8.heap.size := by omega
  have W_8c0 := W_8.c0
  have W_8c1 := W_8.c1
  have W_8l : w3.heap.size < w8.heap.size := W_8.1
  have W_8n : ¬ w3.heap.size = w8.heap.size := by omega
  have R_8c0 := R_8.c0
  have R_8c1 := R_8.c1
  have R_8c2 := R_8.c2
  have R_8c3 := R_8.c3
  have R_8l : w5.heap.size < w8.heap.size := R_8.1
  have R_8n : ¬ w5.heap.size = w8.heap.size := by omega
  have Y_8c0 := Y_8.c0
  have Y_8c1 := Y_8.c1
  have Y_8c2 := Y_8.c2
  have Y_8c3 := Y_8.c3
  have Y_8l : w7.heap.size < w8.heap.size := Y_8.1
  have Y_8n : ¬ w7.heap.size = w8.heap.size := by omega
  obtain ⟨rfl, rfl, rfl, rfl, rfl⟩ := m_same q3 q4 Q1.out Q2.out
  have Q3 := Lib.hid q3
  clear q3 q4 Q1 Q2
  rcases hv : matB a b c d with _ | _
  · obtain ⟨rfl, rfl, rfl, rfl, rfl⟩ := mread_no hv P1.out P2.out
    clear P1 P2
    have hn1 := mtext_nil hv
    have hn2 : (mtextS a b c d).toList.isEmpty = true := by rw [hn1]; rfl
    have h2b : ((axisR a b c d).2.2 != 0) = true := by simp [axisR, hv]
    clear hv
    cases o2
    · clear Q3
      go_wp2_with fail
      refine (specMText_any _ _ _ _ _).mono ?_
      rintro e w9 ⟨rfl, hb9⟩
      have M_9 : Kq (w1.heap.size) a b c d w9 := Kq.call (Kq.alloc M_8 _) hb9
      have V_9 : Kg (w2.heap.size) (axisR a b c d).1 (axisR a b c d).2.1 w9 := Kg.call (Kg.alloc V_8 _) hb9
      have W_9 : Kg (w3.heap.size) (axisR a b c d).1 (axisR a b c d).2.1 w9 := Kg.call (Kg.alloc W_8 _) hb9
      have R_9 : Kq (w5.heap.size) 0 0 0 0 w9 := Kq.call (Kq.alloc R_8 _) hb9
      have Y_9 : Kq (w7.heap.size) a2 b2 c2 d2 w9 := Kq.call (Kq.alloc Y_8 _) hb9
      have Z_9 : Kq (w8.heap.size) a2 b2 c2 d2 w9 := Kq.call (Kq.at (w8.heap.size) (by simp) : Kq (w8.heap.size) a2 b2 c2 d2 _) hb9
      have B9 : Below w.heap.size w w9 := bstep (Below.alloc (B8) (by have := B8.size; first | omega | (simp <;> omega)) _) hb9
      clear hb9 M_8 V_8 W_8 R_8 Y_8 B8 M_8c0 M_8c1 M_8c2 M_8c3 M_8l M_8n V_8c0 V_8c1 V_8l V_8n W_8c0 W_8c1 W_8l W_8n R_8c0 R_8c1 R_8c2 R_8c3 R_8l R_8n Y_8c0 Y_8c1 Y_8c2 Y_8c3 Y_8l Y_8n
      have M_9c0 := M_9.c0
      have M_9c1 := M_9.c1
      have M_9c2 := M_9.c2
      have M_9c3 := M_9.c3
      have M_9l : w1.heap.size < w9.heap.size := M_9.1
      have M_9n : ¬ w1.heap.size = w9.heap.size := by omega
      have V_9c0 := V_9.c0
      have V_9c1 := V_9.c1
      have V_9l : w2.heap.size < w9.heap.size := V_9.1
      have V_9n : ¬ w2.heap.size = w9.heap.size := by omega
      have W_9c0 := W_9.c0
      have W_9c1 := W_9.c1
      have W_9l : w3.heap.size < w9.heap.size := W_9.1
      have W_9n : ¬ w3.heap.size = w9.heap.size := by omega
      have R_9c0 := R_9.c0
      have R_9c1 := R_9.c1
      have R_9c2 := R_9.c2
      have R_9c3 := R_9.c3
      have R_9l : w5.heap.size < w9.heap.size := R_9.1
      have R_9n : ¬ w5.heap.size = w9.heap.size := by omega
      have Y_9c0 := Y_9.c0
      have Y_9c1 := Y_9.c1
      have Y_9c2 := Y_9.c2
      have Y_9c3 := Y_9.c3
      have Y_9l : w7.heap.size < w9.heap.size := Y_9.1
      have Y_9n : ¬ w7.heap.size = w9.heap.size := by omega
      have Z_9c0 := Z_9.c0
      have Z_9c1 := Z_9.c1
      have Z_9c2 := Z_9.c2
      have Z_9c3 := Z_9.c3
      have Z_9l : w8.heap.size < w9.heap.size := Z_9.1
      have Z_9n : ¬ w8.heap.size = w9.heap.size := by omega
      go_wp2
      go_ret
      exact ⟨rfl, B9⟩
    · have hq : ((mtextS a2 b2 c2 d2).toList == u.toList) = true := mtext_of (Q3.out rfl)
      clear Q3
      go_wp2_with fail
      refine (specMText_any _ _ _ _ _).mono ?_
      rintro e w9 ⟨rfl, hb9⟩
      have M_9 : Kq (w1.heap.size) a b c d w9 := Kq.call (Kq.alloc M_8 _) hb9
      have V_9 : Kg (w2.heap.size) (axisR a b c d).1 (axisR a b c d).2.1 w9 := Kg.call (Kg.alloc V_8 _) hb9
      have W_9 : Kg (w3.heap.size) (axisR a b c d).1 (axisR a b c d).2.1 w9 := Kg.call (Kg.alloc W_8 _) hb9
      have R_9 : Kq (w5.heap.size) 0 0 0 0 w9 := Kq.call (Kq.alloc R_8 _) hb9
      have Y_9 : Kq (w7.heap.size) a2 b2 c2 d2 w9 := Kq.call (Kq.alloc Y_8 _) hb9
      have Z_9 : Kq (w8.heap.size) a2 b2 c2 d2 w9 := Kq.call (Kq.at (w8.heap.size) (by simp) : Kq (w8.heap.size) a2 b2 c2 d2 _) hb9
      have B9 : Below w.heap.size w w9 := bstep (Below.alloc (B8) (by have := B8.size; first | omega | (simp <;> omega)) _) hb9
      clear hb9 M_8 V_8 W_8 R_8 Y_8 B8 M_8c0 M_8c1 M_8c2 M_8c3 M_8l M_8n V_8c0 V_8c1 V_8l V_8n W_8c0 W_8c1 W_8l W_8n R_8c0 R_8c1 R_8c2 R_8c3 R_8l R_8n Y_8c0 Y_8c1 Y_8c2 Y_8c3 Y_8l Y_8n
      have M_9c0 := M_9.c0
      have M_9c1 := M_9.c1
      have M_9c2 := M_9.c2
      have M_9c3 := M_9.c3
      have M_9l : w1.heap.size < w9.heap.size := M_9.1
      have M_9n : ¬ w1.heap.size = w9.heap.size := by omega
      have V_9c0 := V_9.c0
      have V_9c1 := V_9.c1
      have V_9l : w2.heap.size < w9.heap.size := V_9.1
      have V_9n : ¬ w2.heap.size = w9.heap.size := by omega
      have W_9c0 := W_9.c0
      have W_9c1 := W_9.c1
      have W_9l : w3.heap.size < w9.heap.size := W_9.1
      have W_9n : ¬ w3.heap.size = w9.heap.size := by omega
      have R_9c0 := R_9.c0
      have R_9c1 := R_9.c1
      have R_9c2 := R_9.c2
      have R_9c3 := R_9.c3
      have R_9l : w5.heap.size < w9.heap.size := R_9.1
      have R_9n : ¬ w5.heap.size = w9.heap.size := by omega
      have Y_9c0 := Y_9.c0
      have Y_9c1 := Y_9.c1
      have Y_9c2 := Y_9.c2
      have Y_9c3 := Y_9.c3
      have Y_9l : w7.heap.size < w9.heap.size := Y_9.1
      have Y_9n : ¬ w7.heap.size = w9.heap.size := by omega
      have Z_9c0 := Z_9.c0
      have Z_9c1 := Z_9.c1
      have Z_9c2 := Z_9.c2
      have Z_9c3 := Z_9.c3
      have Z_9l : w8.heap.size < w9.heap.size := Z_9.1
      have Z_9n : ¬ w8.heap.size = w9.heap.size := by omega
      go_wp2_with fail
      refine (implMText_any _ _ _ _ _ (hT.on (B9))).mono ?_
      rintro e w10 ⟨rfl, hb10⟩
      have M_10 : Kq (w1.heap.size) a b c d w10 := Kq.call M_9 hb10
      have V_10 : Kg (w2.heap.size) (axisR a b c d).1 (axisR a b c d).2.1 w10 := Kg.call V_9 hb10
      have W_10 : Kg (w3.heap.size) (axisR a b c d).1 (axisR a b c d).2.1 w10 := Kg.call W_9 hb10
      have R_10 : Kq (w5.heap.size) 0 0 0 0 w10 := Kq.call R_9 hb10
      have Y_10 : Kq (w7.heap.size) a2 b2 c2 d2 w10 := Kq.call Y_9 hb10
      have Z_10 : Kq (w8.heap.size) a2 b2 c2 d2 w10 := Kq.call Z_9 hb10
      have B10 : Below w.heap.size w w10 := bstep (B9) hb10
      clear hb10 M_9 V_9 W_9 R_9 Y_9 Z_9 B9 M_9c0 M_9c1 M_9c2 M_9c3 M_9l M_9n V_9c0 V_9c1 V_9l V_9n W_9c0 W_9c1 W_9l W_9n R_9c0 R_9c1 R_9c2 R_9c3 R_9l R_9n Y_9c0 Y_9c1 Y_9c2 Y_9c3 Y_9l Y_9n Z_9c0 Z_9c1 Z_9c2 Z_9c3 Z_9l Z_9n
      have M_10c0 := M_10.c0
      have M_10c1 := M_10.c1
      have M_10c2 := M_10.c2
      have M_10c3 := M_10.c3
      have M_10l : w1.heap.size < w10.heap.size := M_10.1
      have M_10n : ¬ w1.heap.size = w10.heap.size := by omega
      have V_10c0 := V_10.c0
      have V_10c1 := V_10.c1
      have V_10l : w2.heap.size < w10.heap.size := V_10.1
      have V_10n : ¬ w2.heap.size = w10.heap.size := by omega
      have W_10c0 := W_10.c0
      have W_10c1 := W_10.c1
      have W_10l : w3.heap.size < w10.heap.size := W_10.1
      have W_10n : ¬ w3.heap.size = w10.heap.size := by omega
      have R_10c0 := R_10.c0
      have R_10c1 := R_10.c1
      have R_10c2 := R_10.c2
      have R_10c3 := R_10.c3
      have R_10l : w5.heap.size < w10.heap.size := R_10.1
      have R_10n : ¬ w5.heap.size = w10.heap.size := by omega
      have Y_10c0 := Y_10.c0
      have Y_10c1 := Y_10.c1
      have Y_10c2 := Y_10.c2
      have Y_10c3 := Y_10.c3
      have Y_10l : w7.heap.size < w10.heap.size := Y_10.1
      have Y_10n : ¬ w7.heap.size = w10.heap.size := by omega
      have Z_10c0 := Z_10.c0
      have Z_10c1 := Z_10.c1
      have Z_10c2 := Z_10.c2
      have Z_10c3 := Z_10.c3
      have Z_10l : w8.heap.size < w10.heap.size := Z_10.1
      have Z_10n : ¬ w8.heap.size = w10.heap.size := by omega
      go_wp2
      go_ret
      exact ⟨rfl, B10⟩
  · obtain ⟨rfl, rfl, rfl, rfl, rfl⟩ := mread_yes hv P1.out P2.out
    clear P1 P2
    have hn0 := mtext_ne hv
    have hn1 : ((mtextS a b c d).toList == []) = false := by simpa using hn0
    have hn2 : (mtextS a b c d).toList.isEmpty = false := by simpa using hn0
    clear hn0 hv
    cases o2
    · clear Q3
      go_wp2_with fail
      refine (specMText_any _ _ _ _ _).mono ?_
      rintro e w9 ⟨rfl, hb9⟩
      have M_9 : Kq (w1.heap.size) a b c d w9 := Kq.call (Kq.alloc M_8 _) hb9
      have V_9 : Kg (w2.heap.size) (axisR a b c d).1 (axisR a b c d).2.1 w9 := Kg.call (Kg.alloc V_8 _) hb9
      have W_9 : Kg (w3.heap.size) (axisR a b c d).1 (axisR a b c d).2.1 w9 := Kg.call (Kg.alloc W_8 _) hb9
      have R_9 : Kq (w5.heap.size) a b c d w9 := Kq.call (Kq.alloc R_8 _) hb9
      have Y_9 : Kq (w7.heap.size) a2 b2 c2 d2 w9 := Kq.call (Kq.alloc Y_8 _) hb9
      have Z_9 : Kq (w8.heap.size) a2 b2 c2 d2 w9 := Kq.call (Kq.at (w8.heap.size) (by simp) : Kq (w8.heap.size) a2 b2 c2 d2 _) hb9
      have B9 : Below w.heap.size w w9 := bstep (Below.alloc (B8) (by have := B8.size; first | omega | (simp <;> omega)) _) hb9
      clear hb9 M_8 V_8 W_8 R_8 Y_8 B8 M_8c0 M_8c1 M_8c2 M_8c3 M_8l M_8n V_8c0 V_8c1 V_8l V_8n W_8c0 W_8c1 W_8l W_8n R_8c0 R_8c1 R_8c2 R_8c3 R_8l R_8n Y_8c0 Y_8c1 Y_8c2 Y_8c3 Y_8l Y_8n
      have M_9c0 := M_9.c0
      have M_9c1 := M_9.c1
      have M_9c2 := M_9.c2
      have M_9c3 := M_9.c3
      have M_9l : w1.heap.size < w9.heap.size := M_9.1
      have M_9n : ¬ w1.heap.size = w9.heap.size := by omega
      have V_9c0 := V_9.c0
      have V_9c1 := V_9.c1
      have V_9l : w2.heap.size < w9.heap.size := V_9.1
      have V_9n : ¬ w2.heap.size = w9.heap.size := by omega
      have W_9c0 := W_9.c0
      have W_9c1 := W_9.c1
      have W_9l : w3.heap.size < w9.heap.size := W_9.1
      have W_9n : ¬ w3.heap.size = w9.heap.size := by omega
      have R_9c0 := R_9.c0
      have R_9c1 := R_9.c1
      have R_9c2 := R_9.c2
      have R_9c3 := R_9.c3
      have R_9l : w5.heap.size < w9.heap.size := R_9.1
      have R_9n : ¬ w5.heap.size = w9.heap.size := by omega
      have Y_9c0 := Y_9.c0
      have Y_9c1 := Y_9.c1
      have Y_9c2 := Y_9.c2
      have Y_9c3 := Y_9.c3
      have Y_9l : w7.heap.size < w9.heap.size := Y_9.1
      have Y_9n : ¬ w7.heap.size = w9.heap.size := by omega
      have Z_9c0 := Z_9.c0
      have Z_9c1 := Z_9.c1
      have Z_9c2 := Z_9.c2
      have Z_9c3 := Z_9.c3
      have Z_9l : w8.heap.size < w9.heap.size := Z_9.1
      have Z_9n : ¬ w8.heap.size = w9.heap.size := by omega
      by_cases h2 : (axisR a b c d).2.2 = 0
      · have h2b : ((axisR a b c d).2.2 != 0) = false := by simp [h2]
        have HA := Lib.hid (axis_ok h2).2.1
        have HD := Lib.hid (axis_ok h2).2.2
        have H2 := Lib.hid h2
        clear h2
        go_wp2_with fail
        refine (implApp_any _ _ _ _ _ _ _).mono ?_
        rintro e w10 ⟨he, hb10⟩
        unfold vecV at he
        rw [HA.out] at he
        subst he
        have M_10 : Kq (w1.heap.size) a b c d w10 := Kq.call M_9 hb10
        have V_10 : Kg (w2.heap.size) (axisR a b c d).1 (axisR a b c d).2.1 w10 := Kg.call V_9 hb10
        have W_10 : Kg (w3.heap.size) (axisR a b c d).1 (axisR a b c d).2.1 w10 := Kg.call W_9 hb10
        have R_10 : Kq (w5.heap.size) a b c d w10 := Kq.call R_9 hb10
        have Y_10 : Kq (w7.heap.size) a2 b2 c2 d2 w10 := Kq.call Y_9 hb10
        have Z_10 : Kq (w8.heap.size) a2 b2 c2 d2 w10 := Kq.call Z_9 hb10
        have B10 : Below w.heap.size w w10 := bstep (B9) hb10
        clear hb10 M_9 V_9 W_9 R_9 Y_9 Z_9 B9 M_9c0 M_9c1 M_9c2 M_9c3 M_9l M_9n V_9c0 V_9c1 V_9l V_9n W_9c0 W_9c1 W_9l W_9n R_9c0 R_9c1 R_9c2 R_9c3 R_9l R_9n Y_9c0 Y_9c1 Y_9c2 Y_9c3 Y_9l Y_9n Z_9c0 Z_9c1 Z_9c2 Z_9c3 Z_9l Z_9n
        have M_10c0 := M_10.c0
        have M_10c1 := M_10.c1
        have M_10c2 := M_10.c2
        have M_10c3 := M_10.c3
        have M_10l : w1.heap.size < w10.heap.size := M_10.1
        have M_10n : ¬ w1.heap.size = w10.heap.size := by omega
        have V_10c0 := V_10.c0
        have V_10c1 := V_10.c1
        have V_10l : w2.heap.size < w10.heap.size := V_10.1
        have V_10n : ¬ w2.heap.size = w10.heap.size := by omega
        have W_10c0 := W_10.c0
        have W_10c1 := W_10.c1
        have W_10l : w3.heap.size < w10.heap.size := W_10.1
        have W_10n : ¬ w3.heap.size = w10.heap.size := by omega
        have R_10c0 := R_10.c0
        have R_10c1 := R_10.c1
        have R_10c2 := R_10.c2
        have R_10c3 := R_10.c3
        have R_10l : w5.heap.size < w10.heap.size := R_10.1
        have R_10n : ¬ w5.heap.size = w10.heap.size := by omega
        have Y_10c0 := Y_10.c0
        have Y_10c1 := Y_10.c1
        have Y_10c2 := Y_10.c2
        have Y_10c3 := Y_10.c3
        have Y_10l : w7.heap.size < w10.heap.size := Y_10.1
        have Y_10n : ¬ w7.heap.size = w10.heap.size := by omega
        have Z_10c0 := Z_10.c0
        have Z_10c1 := Z_10.c1
        have Z_10c2 := Z_10.c2
        have Z_10c3 := Z_10.c3
        have Z_10l : w8.heap.size < w10.heap.size := Z_10.1
        have Z_10n : ¬ w8.heap.size = w10.heap.size := by omega
        go_wp2_with fail
        refine (implDiv_any _ _ _).mono ?_
        rintro e w11 ⟨he, hb11⟩
        unfold divV at he
        rw [HD.out] at he
        subst he
        have M_11 : Kq (w1.heap.size) a b c d w11 := Kq.call (Kq.alloc M_10 _) hb11
        have V_11 : Kg (w2.heap.size) (axisR a b c d).1 (axisR a b c d).2.1 w11 := Kg.call (Kg.alloc V_10 _) hb11
        have W_11 : Kg (w3.heap.size) (axisR a b c d).1 (axisR a b c d).2.1 w11 := Kg.call (Kg.alloc W_10 _) hb11
        have R_11 : Kq (w5.heap.size) a b c d w11 := Kq.call (Kq.alloc R_10 _) hb11
        have Y_11 : Kq (w7.heap.size) a2 b2 c2 d2 w11 := Kq.call (Kq.alloc Y_10 _) hb11
        have Z_11 : Kq (w8.heap.size) a2 b2 c2 d2 w11 := Kq.call (Kq.alloc Z_10 _) hb11
        have I_11 : Kg (w10.heap.size) (axisR a b c d).1 (axisR a b c d).2.1 w11 := Kg.call (Kg.at2 (w10.heap.size) (by simp) : Kg (w10.heap.size) (axisR a b c d).1 (axisR a b c d).2.1 _) hb11
        have B11 : Below w.heap.size w w11 := bstep (Below.alloc (B10) (by have := B10.size; first | omega | (simp <;> omega)) _) hb11
        clear hb11 M_10 V_10 W_10 R_10 Y_10 Z_10 B10 M_10c0 M_10c1 M_10c2 M_10c3 M_10l M_10n V_10c0 V_10c1 V_10l V_10n W_10c0 W_10c1 W_10l W_10n R_10c0 R_10c1 R_10c2 R_10c3 R_10l R_10n Y_10c0 Y_10c1 Y_10c2 Y_10c3 Y_10l Y_10n Z_10c0 Z_10c1 Z_10c2 Z_10c3 Z_10l Z_10n
        have M_11c0 := M_11.c0
        have M_11c1 := M_11.c1
        have M_11c2 := M_11.c2
        have M_11c3 := M_11.c3
        have M_11l : w1.heap.size < w11.heap.size := M_11.1
        have M_11n : ¬ w1.heap.size = w11.heap.size := by omega
        have V_11c0 := V_11.c0
        have V_11c1 := V_11.c1
        have V_11l : w2.heap.size < w11.heap.size := V_11.1
        have V_11n : ¬ w2.heap.size = w11.heap.size := by omega
        have W_11c0 := W_11.c0
        have W_11c1 := W_11.c1
        have W_11l : w3.heap.size < w11.heap.size := W_11.1
        have W_11n : ¬ w3.heap.size = w11.heap.size := by omega
        have R_11c0 := R_11.c0
        have R_11c1 := R_11.c1
        have R_11c2 := R_11.c2
        have R_11c3 := R_11.c3
        have R_11l : w5.heap.size < w11.heap.size := R_11.1
        have R_11n : ¬ w5.heap.size = w11.heap.size := by omega
        have Y_11c0 := Y_11.c0
        have Y_11c1 := Y_11.c1
        have Y_11c2 := Y_11.c2
        have Y_11c3 := Y_11.c3
        have Y_11l : w7.heap.size < w11.heap.size := Y_11.1
        have Y_11n : ¬ w7.heap.size = w11.heap.size := by omega
        have Z_11c0 := Z_11.c0
        have Z_11c1 := Z_11.c1
        have Z_11c2 := Z_11.c2
        have Z_11c3 := Z_11.c3
        have Z_11l : w8.heap.size < w11.heap.size := Z_11.1
        have Z_11n : ¬ w8.heap.size = w11.heap.size := by omega
        have I_11c0 := I_11.c0
        have I_11c1 := I_11.c1
        have I_11l : w10.heap.size < w11.heap.size := I_11.1
        have I_11n : ¬ w10.heap.size = w11.heap.size := by omega
        go_wp2
        go_ret
        exact ⟨rfl, B11⟩
      · have h2b : ((axisR a b c d).2.2 != 0) = true := by simp [h2]
        clear h2
        go_wp2
        go_ret
        exact ⟨rfl, B9⟩
    · have hq : ((mtextS a2 b2 c2 d2).toList == u.toList) = true := mtext_of (Q3.out rfl)
      clear Q3
      go_wp2_with fail
      refine (specMText_any _ _ _ _ _).mono ?_
      rintro e w9 ⟨rfl, hb9⟩
      have M_9 : Kq (w1.heap.size) a b c d w9 := Kq.call (Kq.alloc M_8 _) hb9
      have V_9 : Kg (w2.heap.size) (axisR a b c d).1 (axisR a b c d).2.1 w9 := Kg.call (Kg.alloc V_8 _) hb9
      have W_9 : Kg (w3.heap.size) (axisR a b c d).1 (axisR a b c d).2.1 w9 := Kg.call (Kg.alloc W_8 _) hb9
      have R_9 : Kq (w5.heap.size) a b c d w9 := Kq.call (Kq.alloc R_8 _) hb9
      have Y_9 : Kq (w7.heap.size) a2 b2 c2 d2 w9 := Kq.call (Kq.alloc Y_8 _) hb9
      have Z_9 : Kq (w8.heap.size) a2 b2 c2 d2 w9 := Kq.call (Kq.at (w8.heap.size) (by simp) : Kq (w8.heap.size) a2 b2 c2 d2 _) hb9
      have B9 : Below w.heap.size w w9 := bstep (Below.alloc (B8) (by have := B8.size; first | omega | (simp <;> omega)) _) hb9
      clear hb9 M_8 V_8 W_8 R_8 Y_8 B8 M_8c0 M_8c1 M_8c2 M_8c3 M_8l M_8n V_8c0 V_8c1 V_8l V_8n W_8c0 W_8c1 W_8l W_8n R_8c0 R_8c1 R_8c2 R_8c3 R_8l R_8n Y_8c0 Y_8c1 Y_8c2 Y_8c3 Y_8l Y_8n
      have M_9c0 := M_9.c0
      have M_9c1 := M_9.c1
      have M_9c2 := M_9.c2
      have M_9c3 := M_9.c3
      have M_9l : w1.heap.size < w9.heap.size := M_9.1
      have M_9n : ¬ w1.heap.size = w9.heap.size := by omega
      have V_9c0 := V_9.c0
      have V_9c1 := V_9.c1
      have V_9l : w2.heap.size < w9.heap.size := V_9.1
      have V_9n : ¬ w2.heap.size = w9.heap.size := by omega
      have W_9c0 := W_9.c0
      have W_9c1 := W_9.c1
      have W_9l : w3.heap.size < w9.heap.size := W_9.1
      have W_9n : ¬ w3.heap.size = w9.heap.size := by omega
      have R_9c0 := R_9.c0
      have R_9c1 := R_9.c1
      have R_9c2 := R_9.c2
      have R_9c3 := R_9.c3
      have R_9l : w5.heap.size < w9.heap.size := R_9.1
      have R_9n : ¬ w5.heap.size = w9.heap.size := by omega
      have Y_9c0 := Y_9.c0
      have Y_9c1 := Y_9.c1
      have Y_9c2 := Y_9.c2
      have Y_9c3 := Y_9.c3
      have Y_9l : w7.heap.size < w9.heap.size := Y_9.1
      have Y_9n : ¬ w7.heap.size = w9.heap.size := by omega
      have Z_9c0 := Z_9.c0
      have Z_9c1 := Z_9.c1
      have Z_9c2 := Z_9.c2
      have Z_9c3 := Z_9.c3
      have Z_9l : w8.heap.size < w9.heap.size := Z_9.1
      have Z_9n : ¬ w8.heap.size = w9.heap.size := by omega
      go_wp2_with fail
      refine (implMText_any _ _ _ _ _ (hT.on (B9))).mono ?_
      rintro e w10 ⟨rfl, hb10⟩
      have M_10 : Kq (w1.heap.size) a b c d w10 := Kq.call M_9 hb10
      have V_10 : Kg (w2.heap.size) (axisR a b c d).1 (axisR a b c d).2.1 w10 := Kg.call V_9 hb10
      have W_10 : Kg (w3.heap.size) (axisR a b c d).1 (axisR a b c d).2.1 w10 := Kg.call W_9 hb10
      have R_10 : Kq (w5.heap.size) a b c d w10 := Kq.call R_9 hb10
      have Y_10 : Kq (w7.heap.size) a2 b2 c2 d2 w10 := Kq.call Y_9 hb10
      have Z_10 : Kq (w8.heap.size) a2 b2 c2 d2 w10 := Kq.call Z_9 hb10
      have B10 : Below w.heap.size w w10 := bstep (B9) hb10
      clear hb10 M_9 V_9 W_9 R_9 Y_9 Z_9 B9 M_9c0 M_9c1 M_9c2 M_9c3 M_9l M_9n V_9c0 V_9c1 V_9l V_9n W_9c0 W_9c1 W_9l W_9n R_9c0 R_9c1 R_9c2 R_9c3 R_9l R_9n Y_9c0 Y_9c1 Y_9c2 Y_9c3 Y_9l Y_9n Z_9c0 Z_9c1 Z_9c2 Z_9c3 Z_9l Z_9n
      have M_10c0 := M_10.c0
      have M_10c1 := M_10.c1
      have M_10c2 := M_10.c2
      have M_10c3 := M_10.c3
      have M_10l : w1.heap.size < w10.heap.size := M_10.1
      have M_10n : ¬ w1.heap.size = w10.heap.size := by omega
      have V_10c0 := V_10.c0
      have V_10c1 := V_10.c1
      have V_10l : w2.heap.size < w10.heap.size := V_10.1
      have V_10n : ¬ w2.heap.size = w10.heap.size := by omega
      have W_10c0 := W_10.c0
      have W_10c1 := W_10.c1
      have W_10l : w3.heap.size < w10.heap.size := W_10.1
      have W_10n : ¬ w3.heap.size = w10.heap.size := by omega
      have R_10c0 := R_10.c0
      have R_10c1 := R_10.c1
      have R_10c2 := R_10.c2
      have R_10c3 := R_10.c3
      have R_10l : w5.heap.size < w10.heap.size := R_10.1
      have R_10n : ¬ w5.heap.size = w10.heap.size := by omega
      have Y_10c0 := Y_10.c0
      have Y_10c1 := Y_10.c1
      have Y_10c2 := Y_10.c2
      have Y_10c3 := Y_10.c3
      have Y_10l : w7.heap.size < w10.heap.size := Y_10.1
      have Y_10n : ¬ w7.heap.size = w10.heap.size := by omega
      have Z_10c0 := Z_10.c0
      have Z_10c1 := Z_10.c1
      have Z_10c2 := Z_10.c2
      have Z_10c3 := Z_10.c3
      have Z_10l : w8.heap.size < w10.heap.size := Z_10.1
      have Z_10n : ¬ w8.heap.size = w10.heap.size := by omega
      by_cases h2 : (axisR a b c d).2.2 = 0
      · have h2b : ((axisR a b c d).2.2 != 0) = false := by simp [h2]
        have HA := Lib.hid (axis_ok h2).2.1
        have HD := Lib.hid (axis_ok h2).2.2
        have H2 := Lib.hid h2
        clear h2
        go_wp2_with fail
        refine (implApp_any _ _ _ _ _ _ _).mono ?_
        rintro e w11 ⟨he, hb11⟩
        unfold vecV at he
        rw [HA.out] at he
        subst he
        have M_11 : Kq (w1.heap.size) a b c d w11 := Kq.call M_10 hb11
        have V_11 : Kg (w2.heap.size) (axisR a b c d).1 (axisR a b c d).2.1 w11 := Kg.call V_10 hb11
        have W_11 : Kg (w3.heap.size) (axisR a b c d).1 (axisR a b c d).2.1 w11 := Kg.call W_10 hb11
        have R_11 : Kq (w5.heap.size) a b c d w11 := Kq.call R_10 hb11
        have Y_11 : Kq (w7.heap.size) a2 b2 c2 d2 w11 := Kq.call Y_10 hb11
        have Z_11 : Kq (w8.heap.size) a2 b2 c2 d2 w11 := Kq.call Z_10 hb11
        have B11 : Below w.heap.size w w11 := bstep (B10) hb11
        clear hb11 M_10 V_10 W_10 R_10 Y_10 Z_10 B10 M_10c0 M_10c1 M_10c2 M_10c3 M_10l M_10n V_10c0 V_10c1 V_10l V_10n W_10c0 W_10c1 W_10l W_10n R_10c0 R_10c1 R_10c2 R_10c3 R_10l R_10n Y_10c0 Y_10c1 Y_10c2 Y_10c3 Y_10l Y_10n Z_10c0 Z_10c1 Z_10c2 Z_10c3 Z_10l Z_10n
        have M_11c0 := M_11.c0
        have M_11c1 := M_11.c1
        have M_11c2 := M_11.c2
        have M_11c3 := M_11.c3
        have M_11l : w1.heap.size < w11.heap.size := M_11.1
        have M_11n : ¬ w1.heap.size = w11.heap.size := by omega
        have V_11c0 := V_11.c0
        have V_11c1 := V_11.c1
        have V_11l : w2.heap.size < w11.heap.size := V_11.1
        have V_11n : ¬ w2.heap.size = w11.heap.size := by omega
        have W_11c0 := W_11.c0
        have W_11c1 := W_11.c1
        have W_11l : w3.heap.size < w11.heap.size := W_11.1
        have W_11n : ¬ w3.heap.size = w11.heap.size := by omega
        have R_11c0 := R_11.c0
        have R_11c1 := R_11.c1
        have R_11c2 := R_11.c2
        have R_11c3 := R_11.c3
        have R_11l : w5.heap.size < w11.heap.size := R_11.1
        have R_11n : ¬ w5.heap.size = w11.heap.size := by omega
        have Y_11c0 := Y_11.c0
        have Y_11c1 := Y_11.c1
        have Y_11c2 := Y_11.c2
        have Y_11c3 := Y_11.c3
        have Y_11l : w7.heap.size < w11.heap.size := Y_11.1
        have Y_11n : ¬ w7.heap.size = w11.heap.size := by omega
        have Z_11c0 := Z_11.c0
        have Z_11c1 := Z_11.c1
        have Z_11c2 := Z_11.c2
        have Z_11c3 := Z_11.c3
        have Z_11l : w8.heap.size < w11.heap.size := Z_11.1
        have Z_11n : ¬ w8.heap.size = w11.heap.size := by omega
        go_wp2_with fail
        refine (implDiv_any _ _ _).mono ?_
        rintro e w12 ⟨he, hb12⟩
        unfold divV at he
        rw [HD.out] at he
        subst he
        have M_12 : Kq (w1.heap.size) a b c d w12 := Kq.call (Kq.alloc M_11 _) hb12
        have V_12 : Kg (w2.heap.size) (axisR a b c d).1 (axisR a b c d).2.1 w12 := Kg.call (Kg.alloc V_11 _) hb12
        have W_12 : Kg (w3.heap.size) (axisR a b c d).1 (axisR a b c d).2.1 w12 := Kg.call (Kg.alloc W_11 _) hb12
        have R_12 : Kq (w5.heap.size) a b c d w12 := Kq.call (Kq.alloc R_11 _) hb12
        have Y_12 : Kq (w7.heap.size) a2 b2 c2 d2 w12 := Kq.call (Kq.alloc Y_11 _) hb12
        have Z_12 : Kq (w8.heap.size) a2 b2 c2 d2 w12 := Kq.call (Kq.alloc Z_11 _) hb12
        have I_12 : Kg (w11.heap.size) (axisR a b c d).1 (axisR a b c d).2.1 w12 := Kg.call (Kg.at2 (w11.heap.size) (by simp) : Kg (w11.heap.size) (axisR a b c d).1 (axisR a b c d).2.1 _) hb12
        have B12 : Below w.heap.size w w12 := bstep (Below.alloc (B11) (by have := B11.size; first | omega | (simp <;> omega)) _) hb12
        clear hb12 M_11 V_11 W_11 R_11 Y_11 Z_11 B11 M_11c0 M_11c1 M_11c2 M_11c3 M_11l M_11n V_11c0 V_11c1 V_11l V_11n W_11c0 W_11c1 W_11l W_11n R_11c0 R_11c1 R_11c2 R_11c3 R_11l R_11n Y_11c0 Y_11c1 Y_11c2 Y_11c3 Y_11l Y_11n Z_11c0 Z_11c1 Z_11c2 Z_11c3 Z_11l Z_11n
        have M_12c0 := M_12.c0
        have M_12c1 := M_12.c1
        have M_12c2 := M_12.c2
        have M_12c3 := M_12.c3
        have M_12l : w1.heap.size < w12.heap.size := M_12.1
        have M_12n : ¬ w1.heap.size = w12.heap.size := by omega
        have V_12c0 := V_12.c0
        have V_12c1 := V_12.c1
        have V_12l : w2.heap.size < w12.heap.size := V_12.1
        have V_12n : ¬ w2.heap.size = w12.heap.size := by omega
        have W_12c0 := W_12.c0
        have W_12c1 := W_12.c1
        have W_12l : w3.heap.size < w12.heap.size := W_12.1
        have W_12n : ¬ w3.heap.size = w12.heap.size := by omega
        have R_12c0 := R_12.c0
        have R_12c1 := R_12.c1
        have R_12c2 := R_12.c2
        have R_12c3 := R_12.c3
        have R_12l : w5.heap.size < w12.heap.size := R_12.1
        have R_12n : ¬ w5.heap.size = w12.heap.size := by omega
        have Y_12c0 := Y_12.c0
        have Y_12c1 := Y_12.c1
        have Y_12c2 := Y_12.c2
        have Y_12c3 := Y_12.c3
        have Y_12l : w7.heap.size < w12.heap.size := Y_12.1
        have Y_12n : ¬ w7.heap.size = w12.heap.size := by omega
        have Z_12c0 := Z_12.c0
        have Z_12c1 := Z_12.c1
        have Z_12c2 := Z_12.c2
        have Z_12c3 := Z_12.c3
        have Z_12l : w8.heap.size < w12.heap.size := Z_12.1
        have Z_12n : ¬ w8.heap.size = w12.heap.size := by omega
        have I_12c0 := I_12.c0
        have I_12c1 := I_12.c1
        have I_12l : w11.heap.size < w12.heap.size := I_12.1
        have I_12n : ¬ w11.heap.size = w12.heap.size := by omega
        go_wp2
        go_ret
        exact ⟨rfl, B12⟩
      · have h2b : ((axisR a b c d).2.2 != 0) = true := by simp [h2]
        clear h2
        go_wp2
        go_ret
        exact ⟨rfl, B10⟩

end Go.Proofs.YtcjefepjnomfaaaGreatDoor
