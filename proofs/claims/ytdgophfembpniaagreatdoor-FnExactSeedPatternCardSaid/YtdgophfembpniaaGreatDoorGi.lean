/-
 Several of my texts in one: MapL, MapR.
-/
import Derived.Test.YtdgophfembpniaaGreatDoorGe
import Derived.Test.YtdgophfembpniaaGreatDoorGf
namespace Go.Proofs.YtdgophfembpniaaGreatDoor
section
open Go.RowKit
set_option linter.unusedSimpArgs false
set_option linter.unusedVariables false

theorem Kq.farM {R : Nat} {a b c d : Int} {W : World} {q : Addr} {u : Value} (hq : q.block ≠ R) (h : Kq R a b c d W) : Kq R a b c d (W.setCell q u) := by
 have hh : (W.setCell q u).heap[R]? = W.heap[R]? := Below.heap_setCell _ _ _ _ (by omega)
 obtain ⟨h0, h1, h2, h3, h4⟩ := h
 exact ⟨by simpa [World.setCell] using h0, (World.cell?_of_block (w := W) hh).trans h1, (World.cell?_of_block (w := W) hh).trans h2, (World.cell?_of_block (w := W) hh).trans h3, (World.cell?_of_block (w := W) hh).trans h4⟩
theorem keep_parts {f a b c d : Int} (h : keepB f a b c d = true) : nrmI f a c = 1 ∧ nrmI f b d = 1 ∧ nrmI f (a + b) (c + d) = 2 + f := by
 simpa [keepB] using h
theorem keep_small {f a b c d : Int} (hf : frB f = true) (h : keepB f a b c d = true) : ((-1 ≤ a ∧ a ≤ 1) ∧ (-1 ≤ b ∧ b ≤ 1)) ∧ ((-1 ≤ c ∧ c ≤ 1) ∧ (-1 ≤ d ∧ d ≤ 1)) := by
 obtain ⟨h1, h2, _⟩ := keep_parts h
 have e1 := nrm_box (n := 1) (k := 1) hf (by omega) (Int.le_of_eq h1) (by omega)
 have e2 := nrm_box (n := 1) (k := 1) hf (by omega) (Int.le_of_eq h2) (by omega)
 exact ⟨⟨e1.1, e2.1⟩, e1.2, e2.2⟩
theorem keep_det {f a b c d : Int} (hf : frB f = true) (h : keepB f a b c d = true) : a * d - b * c = 1 ∨ a * d - b * c = -1 := by
 obtain ⟨⟨ha, hb⟩, hc, hd⟩ := keep_small hf h
 obtain ⟨h1, h2, h3⟩ := keep_parts h
 have ht : tI f a c b d = f := by have := nrm_sum f a c b d; omega
 have e := disc f a c b d
 rw [h1, h2, ht] at e
 have hD : (a * d - c * b) * (a * d - c * b) = 1 := by
  rcases frB_iff.1 hf with rfl | rfl <;> omega
 have hcb : c * b = b * c := Int.mul_comm _ _
 rw [hcb] at hD
 have h4 := sq_lt (a := a * d - b * c) (k := 1) (by omega) (by omega)
 have h5 : a * d - b * c ≠ 0 := by intro e0; rw [e0] at hD; omega
 omega
theorem keep_lim {f a b c d : Int} (hf : frB f = true) (h : keepB f a b c d = true) : limB a b c d = true := by
 have := keep_small hf h
 simp only [limB, vecB, Bool.and_eq_true, decide_eq_true_eq]
 omega
def mapL (A B C a b c d : Int) : List (Int × Int) := [(a * A + b * 0, c * A + d * 0), (a * B + b * C, c * B + d * C)]
def mapI (A B C a b c d : Int) : Int × Int × Int := latL (mapL A B C a b c d)
theorem small_mul {a x : Int} {M : Int} (ha : -1 ≤ a ∧ a ≤ 1) (hx : 0 ≤ x ∧ x ≤ M) : -M ≤ a * x ∧ a * x ≤ M := by
 have : a = 0 ∨ a = 1 ∨ a = -1 := by omega
 rcases this with rfl | rfl | rfl <;> omega
theorem mapL_vecs {A B C a b c d : Int} (hl : latI A B C) (hs : ((-1 ≤ a ∧ a ≤ 1) ∧ (-1 ≤ b ∧ b ≤ 1)) ∧ ((-1 ≤ c ∧ c ≤ 1) ∧ (-1 ≤ d ∧ d ≤ 1))) : vecB (a * A + b * 0) (c * A + d * 0) = true ∧ vecB (a * B + b * C) (c * B + d * C) = true := by
 obtain ⟨bA, bC⟩ := latI_bd hl
 obtain ⟨h1, h2, h3, h4, _⟩ := hl
 obtain ⟨⟨ha, hb⟩, hc, hd⟩ := hs
 have e1 := small_mul ha (x := A) (M := 64) (by omega)
 have e2 := small_mul hc (x := A) (M := 64) (by omega)
 have e3 := small_mul ha (x := B) (M := 64) (by omega)
 have e4 := small_mul hb (x := C) (M := 64) (by omega)
 have e5 := small_mul hc (x := B) (M := 64) (by omega)
 have e6 := small_mul hd (x := C) (M := 64) (by omega)
 unfold vecB
 constructor <;> (apply decide_eq_true; omega)
theorem mapL_det {A B C a b c d : Int} (hl : latI A B C) (hd : a * d - b * c = 1 ∨ a * d - b * c = -1) : (a * A + b * 0) * (c * B + d * C) - (c * A + d * 0) * (a * B + b * C) = A * C ∨ (a * A + b * 0) * (c * B + d * C) - (c * A + d * 0) * (a * B + b * C) = -(A * C) := by
 have e : (a * A + b * 0) * (c * B + d * C) - (c * A + d * 0) * (a * B + b * C) = A * C * (a * d - b * c) := by grind
 rw [e]
 rcases hd with h | h <;> rw [h]
 ·left; omega
 ·right; omega
theorem mapI_facts {f A B C a b c d : Int} (hf : frB f = true) (hl : latI A B C) (h : keepB f a b c d = true) :
  0 < (spFold (mapL A B C a b c d)).2.2 ∧ vecsB (mapL A B C a b c d) ∧ latI (mapI A B C a b c d).1 (mapI A B C a b c d).2.1 (mapI A B C a b c d).2.2 ∧ (mapI A B C a b c d).1 * (mapI A B C a b c d).2.2 = A * C := by
 have hs := keep_small hf h
 have hd := mapL_det (B := B) hl (keep_det hf h)
 obtain ⟨v1, v2⟩ := mapL_vecs hl hs
 have h0 := latI_ne hl
 have hp : 1 ≤ A * C := by
  have := Int.mul_le_mul hl.1 hl.2.1 (by omega) (by have := hl.1; omega)
  omega
 have h64 := hl.2.2.2.2
 have hne : (a * A + b * 0) * (c * B + d * C) - (c * A + d * 0) * (a * B + b * C) ≠ 0 := by omega
 obtain ⟨t1, t2, _, _⟩ := two_facts _ _ _ _ hne
 have hi : (mapI A B C a b c d).1 * (mapI A B C a b c d).2.2 = A * C := by
  unfold mapI mapL
  rw [t2]
  omega
 refine ⟨t1, vecsB_two v1 v2, ?_, hi⟩
 exact two_lat hne (by unfold mapI mapL at hi; rw [hi]; exact h64)
set_option maxHeartbeats 4000000 in
theorem basis4_any (A B C : Int) (w : World) :
  Calls Tryz.prog 167 #[.agg #[.int .i64 A, .int .i64 B, .int .i64 C]] w fun e w' => e = .returned (.agg #[.int .i64 A, .int .i64 0, .int .i64 B, .int .i64 C]) ∧ Below w.heap.size w w' := by
 go_enter Tryz.func167, Tryz.ntmps167
 go_wp2
 refine bodyPost_ret (v := .agg #[.int .i64 A, .int .i64 0, .int .i64 B, .int .i64 C]) (by simp [results, Tryz.results167, go_sem]) rfl ⟨rfl, ?_⟩
 repeat (first | exact Below.refl _ _ | refine Below.setCell ?_ (by first | omega | (simp <;> omega)) _ | refine Below.alloc ?_ (by first | omega | (simp <;> omega)) _ | refine bstep ?_ (by assumption) | refine Below.drew ?_)
set_option maxHeartbeats 4000000 in
theorem l03Basis4_any (A B C : Int) (w : World) :
  Calls Tryz.prog 161 #[.agg #[.int .i64 A, .int .i64 B, .int .i64 C]] w fun e w' => ∃ g, e = .returned (.slice (some ⟨g, 0, none⟩) 2 2) ∧ Kq g A 0 B C w' ∧ w.heap.size ≤ g ∧ Below w.heap.size w w' := by
 go_enter Tryz.func161, Tryz.ntmps161
 go_wp2
 go_ret
 refine ⟨_, rfl, Kq.at _ (by simp), by simp, ?_⟩
 repeat (first | exact Below.refl _ _ | refine Below.setCell ?_ (by first | omega | (simp <;> omega)) _ | refine Below.alloc ?_ (by first | omega | (simp <;> omega)) _ | refine bstep ?_ (by assumption) | refine Below.drew ?_)
set_option maxHeartbeats 4000000 in
theorem mapped_core (A B C a b c d px py qx qy : Int) (w : World)
  (appA : ∀ W, Calls Tryz.prog 156 #[.agg #[.int .i64 a, .int .i64 b, .int .i64 c, .int .i64 d], .agg #[.int .i64 A, .int .i64 0]] W fun e w' => e = .returned (.agg #[.int .i64 px, .int .i64 py]) ∧ Below W.heap.size W w')
  (appB : ∀ W, Calls Tryz.prog 156 #[.agg #[.int .i64 a, .int .i64 b, .int .i64 c, .int .i64 d], .agg #[.int .i64 B, .int .i64 C]] W fun e w' => e = .returned (.agg #[.int .i64 qx, .int .i64 qy]) ∧ Below W.heap.size W w')
  (m1 : 0 < (spFold [(px, py), (qx, qy)]).2.2) (m2 : vecsB [(px, py), (qx, qy)]) :
  Calls Tryz.prog 145 #[.agg #[.int .i64 A, .int .i64 B, .int .i64 C], .agg #[.int .i64 a, .int .i64 b, .int .i64 c, .int .i64 d]] w fun e w' => e = .returned (.agg #[.int .i64 ((latL [(px, py), (qx, qy)]).1), .int .i64 ((latL [(px, py), (qx, qy)]).2.1), .int .i64 ((latL [(px, py), (qx, qy)]).2.2)]) ∧ Below w.heap.size w w' := by
 have HA := Lib.hid appA
 have HB := Lib.hid appB
 have M1 := Lib.hid m1
 have M2 := Lib.hid m2
 clear appA appB m1 m2
 have KX : Kq (w.heap.size + 1) a b c d (((w.alloc (.cells #[.int .i64 A, .int .i64 B, .int .i64 C] 32)).alloc (.cells #[.int .i64 a, .int .i64 b, .int .i64 c, .int .i64 d] 134)).alloc (.cells #[.int .i64 0, .int .i64 0, .int .i64 0] 32)) := Kq.alloc (Kq.at _ (by simp)) _
 have RX : KL (w.heap.size + 1 + 1) 0 0 0 (((w.alloc (.cells #[.int .i64 A, .int .i64 B, .int .i64 C] 32)).alloc (.cells #[.int .i64 a, .int .i64 b, .int .i64 c, .int .i64 d] 134)).alloc (.cells #[.int .i64 0, .int .i64 0, .int .i64 0] 32)) := KL.at _ (by simp)
 have BX : Below w.heap.size w (((w.alloc (.cells #[.int .i64 A, .int .i64 B, .int .i64 C] 32)).alloc (.cells #[.int .i64 a, .int .i64 b, .int .i64 c, .int .i64 d] 134)).alloc (.cells #[.int .i64 0, .int .i64 0, .int .i64 0] 32)) := by repeat (first | assumption | exact Below.refl _ _ | refine Below.setCell ?_ (by first | omega | (simp <;> omega)) _ | refine Below.alloc ?_ (by first | omega | (simp <;> omega)) _ | refine bstep ?_ (by assumption) | refine Below.drew ?_)
 go_enter Tryz.func145, Tryz.ntmps145
 go_wp2_with fail
 refine (basis4_any _ _ _ _).mono ?_
 rintro e w1 ⟨rfl, hb0⟩
 have K0 : Kq (w.heap.size + 1) a b c d (w1.alloc (.cells #[.int .i64 A, .int .i64 0, .int .i64 B, .int .i64 C] 210)) := (KX.call hb0).alloc _
 have G0 : Kq w1.heap.size A 0 B C (w1.alloc (.cells #[.int .i64 A, .int .i64 0, .int .i64 B, .int .i64 C] 210)) := Kq.at _ rfl
 have R0 : KL (w.heap.size + 1 + 1) 0 0 0 (w1.alloc (.cells #[.int .i64 A, .int .i64 0, .int .i64 B, .int .i64 C] 210)) := (RX.call hb0).alloc _
 have B0 : Below w.heap.size w (w1.alloc (.cells #[.int .i64 A, .int .i64 0, .int .i64 B, .int .i64 C] 210)) := by
  have z := (bstep BX hb0).size
  exact (bstep BX hb0).alloc z _
 have hz3 : w.heap.size + 3 ≤ w1.heap.size := by have := hb0.size; simpa using this
 clear hb0 KX RX BX
 have z0 := B0.size
 have y0 := G0.cells
 have y1 := K0.cells
 go_wp2_with fail
 go_region_held3 (fun W => (W.cell? ⟨w.heap.size + 1, 0, none⟩ = some (.int .i64 a) ∧ W.cell? ⟨w.heap.size + 1, 1, none⟩ = some (.int .i64 b) ∧ W.cell? ⟨w.heap.size + 1, 2, none⟩ = some (.int .i64 c) ∧ W.cell? ⟨w.heap.size + 1, 3, none⟩ = some (.int .i64 d)) ∧ (W.cell? ⟨w1.heap.size, 0, none⟩ = some (.int .i64 A) ∧ W.cell? ⟨w1.heap.size, 1, none⟩ = some (.int .i64 0) ∧ W.cell? ⟨w1.heap.size, 2, none⟩ = some (.int .i64 B) ∧ W.cell? ⟨w1.heap.size, 3, none⟩ = some (.int .i64 C))) ((refine ⟨Kq.cells ?_, Kq.cells ?_⟩) <;> (repeat (first | assumption | with_reducible refine Kq.alloc ?_ _ | with_reducible refine Kq.drew ?_ | with_reducible refine Kq.call ?_ (by assumption) | ((with_reducible refine Kq.farM ?_ ?_); (first | omega | (dsimp only; omega))))))
  (first
   | (go_at_call_of 156 (Value.agg #[Value.int IntKind.i64 A, Value.int IntKind.i64 0]); refine (HA.out _).mono ?_; rintro e u1 ⟨rfl, hb1⟩; have K1 : Kq (w.heap.size + 1) a b c d u1 := (by repeat (first | assumption | with_reducible refine Kq.alloc ?_ _ | with_reducible refine Kq.drew ?_ | with_reducible refine Kq.call ?_ (by assumption))); have G1 : Kq w1.heap.size A 0 B C u1 := (by repeat (first | assumption | with_reducible refine Kq.alloc ?_ _ | with_reducible refine Kq.drew ?_ | with_reducible refine Kq.call ?_ (by assumption))); have R1 : KL (w.heap.size + 1 + 1) 0 0 0 u1 := (by repeat (first | assumption | with_reducible refine KL.alloc ?_ _ | with_reducible refine KL.drew ?_ | with_reducible refine KL.call ?_ (by assumption))); have B1 : Below w.heap.size w u1 := (by repeat (first | assumption | exact Below.refl _ _ | refine Below.setCell ?_ (by first | omega | (simp <;> omega)) _ | refine Below.alloc ?_ (by first | omega | (simp <;> omega)) _ | refine bstep ?_ (by assumption) | refine Below.drew ?_)); have z1 := B1.size)
   | (go_at_call_of 156 (Value.agg #[Value.int IntKind.i64 B, Value.int IntKind.i64 C]); refine (HB.out _).mono ?_; rintro e u2 ⟨rfl, hb2⟩; have K2 : Kq (w.heap.size + 1) a b c d u2 := (by repeat (first | assumption | with_reducible refine Kq.alloc ?_ _ | with_reducible refine Kq.drew ?_ | with_reducible refine Kq.call ?_ (by assumption))); have G2 : Kq w1.heap.size A 0 B C u2 := (by repeat (first | assumption | with_reducible refine Kq.alloc ?_ _ | with_reducible refine Kq.drew ?_ | with_reducible refine Kq.call ?_ (by assumption))); have R2 : KL (w.heap.size + 1 + 1) 0 0 0 u2 := (by repeat (first | assumption | with_reducible refine KL.alloc ?_ _ | with_reducible refine KL.drew ?_ | with_reducible refine KL.call ?_ (by assumption))); have B2 : Below w.heap.size w u2 := (by repeat (first | assumption | exact Below.refl _ _ | refine Below.setCell ?_ (by first | omega | (simp <;> omega)) _ | refine Below.alloc ?_ (by first | omega | (simp <;> omega)) _ | refine bstep ?_ (by assumption) | refine Below.drew ?_)); have z2 := B2.size)
   | (go_at_call 168; refine (spanOf_any [(px, py), (qx, qy)] _ _ _ (VL_two _ _ _ _ _ _) M2.out (by simp) M1.out).mono ?_; rintro e u3 ⟨rfl, hb3⟩; have K3 : Kq (w.heap.size + 1) a b c d u3 := (by repeat (first | assumption | with_reducible refine Kq.alloc ?_ _ | with_reducible refine Kq.drew ?_ | with_reducible refine Kq.call ?_ (by assumption))); have G3 : Kq w1.heap.size A 0 B C u3 := (by repeat (first | assumption | with_reducible refine Kq.alloc ?_ _ | with_reducible refine Kq.drew ?_ | with_reducible refine Kq.call ?_ (by assumption))); have R3 : KL (w.heap.size + 1 + 1) 0 0 0 u3 := (by repeat (first | assumption | with_reducible refine KL.alloc ?_ _ | with_reducible refine KL.drew ?_ | with_reducible refine KL.call ?_ (by assumption))); have B3 : Below w.heap.size w u3 := (by repeat (first | assumption | exact Below.refl _ _ | refine Below.setCell ?_ (by first | omega | (simp <;> omega)) _ | refine Below.alloc ?_ (by first | omega | (simp <;> omega)) _ | refine bstep ?_ (by assumption) | refine Below.drew ?_)); have z3 := B3.size; obtain ⟨r0, r1, r2, r3, r4, r5, r6⟩ := id R3))
 all_goals
  go_wp2
  refine bodyPost_ret (v := .agg #[.int .i64 ((latL [(px, py), (qx, qy)]).1), .int .i64 ((latL [(px, py), (qx, qy)]).2.1), .int .i64 ((latL [(px, py), (qx, qy)]).2.2)]) (by simp [results, Tryz.results145, go_sem, *]) rfl ⟨rfl, ?_⟩
  repeat (first | assumption | refine Below.setCell ?_ (by first | omega | (simp <;> omega)) _)
set_option maxHeartbeats 4000000 in
theorem image_core (A B C a b c d px py qx qy : Int) (w : World)
  (appA : ∀ W, Calls Tryz.prog 142 #[.agg #[.int .i64 a, .int .i64 b, .int .i64 c, .int .i64 d], .agg #[.int .i64 A, .int .i64 0]] W fun e w' => e = .returned (.agg #[.int .i64 px, .int .i64 py]) ∧ Below W.heap.size W w')
  (appB : ∀ W, Calls Tryz.prog 142 #[.agg #[.int .i64 a, .int .i64 b, .int .i64 c, .int .i64 d], .agg #[.int .i64 B, .int .i64 C]] W fun e w' => e = .returned (.agg #[.int .i64 qx, .int .i64 qy]) ∧ Below W.heap.size W w')
  (m1 : 0 < (hmFold [(px, py), (qx, qy)]).2.2) (m2 : vecsB [(px, py), (qx, qy)]) :
  Calls Tryz.prog 136 #[.agg #[.int .i64 a, .int .i64 b, .int .i64 c, .int .i64 d], .agg #[.int .i64 A, .int .i64 B, .int .i64 C]] w fun e w' => e = .returned (.agg #[.int .i64 ((latL [(px, py), (qx, qy)]).1), .int .i64 ((latL [(px, py), (qx, qy)]).2.1), .int .i64 ((latL [(px, py), (qx, qy)]).2.2)]) ∧ Below w.heap.size w w' := by
 have HA := Lib.hid appA
 have HB := Lib.hid appB
 have M1 := Lib.hid m1
 have M2 := Lib.hid m2
 clear appA appB m1 m2
 have KX : Kq w.heap.size a b c d (((w.alloc (.cells #[.int .i64 a, .int .i64 b, .int .i64 c, .int .i64 d] 79)).alloc (.cells #[.int .i64 A, .int .i64 B, .int .i64 C] 32)).alloc (.cells #[.int .i64 0, .int .i64 0, .int .i64 0] 32)) := Kq.alloc (Kq.alloc (Kq.at _ rfl) _) _
 have RX : KL (w.heap.size + 1 + 1) 0 0 0 (((w.alloc (.cells #[.int .i64 a, .int .i64 b, .int .i64 c, .int .i64 d] 79)).alloc (.cells #[.int .i64 A, .int .i64 B, .int .i64 C] 32)).alloc (.cells #[.int .i64 0, .int .i64 0, .int .i64 0] 32)) := KL.at _ (by simp)
 have BX : Below w.heap.size w (((w.alloc (.cells #[.int .i64 a, .int .i64 b, .int .i64 c, .int .i64 d] 79)).alloc (.cells #[.int .i64 A, .int .i64 B, .int .i64 C] 32)).alloc (.cells #[.int .i64 0, .int .i64 0, .int .i64 0] 32)) := by repeat (first | assumption | exact Below.refl _ _ | refine Below.setCell ?_ (by first | omega | (simp <;> omega)) _ | refine Below.alloc ?_ (by first | omega | (simp <;> omega)) _ | refine bstep ?_ (by assumption) | refine Below.drew ?_)
 go_enter Tryz.func136, Tryz.ntmps136
 go_wp2_with fail
 refine (l03Basis4_any _ _ _ _).mono ?_
 rintro e w1 ⟨g, rfl, G0, hg, hb0⟩
 have hg : w.heap.size + 3 ≤ g := by simpa using hg
 have K0 := KX.call hb0
 have R0 := RX.call hb0
 have B0 := bstep BX hb0
 clear hb0 KX RX BX
 have z0 := B0.size
 have y0 := G0.cells
 have y1 := K0.cells
 go_wp2_with fail
 go_region_held3 (fun W => (W.cell? ⟨w.heap.size, 0, none⟩ = some (.int .i64 a) ∧ W.cell? ⟨w.heap.size, 1, none⟩ = some (.int .i64 b) ∧ W.cell? ⟨w.heap.size, 2, none⟩ = some (.int .i64 c) ∧ W.cell? ⟨w.heap.size, 3, none⟩ = some (.int .i64 d)) ∧ (W.cell? ⟨g, 0, none⟩ = some (.int .i64 A) ∧ W.cell? ⟨g, 1, none⟩ = some (.int .i64 0) ∧ W.cell? ⟨g, 2, none⟩ = some (.int .i64 B) ∧ W.cell? ⟨g, 3, none⟩ = some (.int .i64 C))) ((refine ⟨Kq.cells ?_, Kq.cells ?_⟩) <;> (repeat (first | assumption | with_reducible refine Kq.alloc ?_ _ | with_reducible refine Kq.drew ?_ | with_reducible refine Kq.call ?_ (by assumption) | ((with_reducible refine Kq.farM ?_ ?_); (first | omega | (dsimp only; omega))))))
  (first
   | (go_at_call_of 142 (Value.agg #[Value.int IntKind.i64 A, Value.int IntKind.i64 0]); refine (HA.out _).mono ?_; rintro e u1 ⟨rfl, hb1⟩; have K1 : Kq w.heap.size a b c d u1 := (by repeat (first | assumption | with_reducible refine Kq.alloc ?_ _ | with_reducible refine Kq.drew ?_ | with_reducible refine Kq.call ?_ (by assumption))); have G1 : Kq g A 0 B C u1 := (by repeat (first | assumption | with_reducible refine Kq.alloc ?_ _ | with_reducible refine Kq.drew ?_ | with_reducible refine Kq.call ?_ (by assumption))); have R1 : KL (w.heap.size + 1 + 1) 0 0 0 u1 := (by repeat (first | assumption | with_reducible refine KL.alloc ?_ _ | with_reducible refine KL.drew ?_ | with_reducible refine KL.call ?_ (by assumption))); have B1 : Below w.heap.size w u1 := (by repeat (first | assumption | exact Below.refl _ _ | refine Below.setCell ?_ (by first | omega | (simp <;> omega)) _ | refine Below.alloc ?_ (by first | omega | (simp <;> omega)) _ | refine bstep ?_ (by assumption) | refine Below.drew ?_)); have z1 := B1.size)
   | (go_at_call_of 142 (Value.agg #[Value.int IntKind.i64 B, Value.int IntKind.i64 C]); refine (HB.out _).mono ?_; rintro e u2 ⟨rfl, hb2⟩; have K2 : Kq w.heap.size a b c d u2 := (by repeat (first | assumption | with_reducible refine Kq.alloc ?_ _ | with_reducible refine Kq.drew ?_ | with_reducible refine Kq.call ?_ (by assumption))); have G2 : Kq g A 0 B C u2 := (by repeat (first | assumption | with_reducible refine Kq.alloc ?_ _ | with_reducible refine Kq.drew ?_ | with_reducible refine Kq.call ?_ (by assumption))); have R2 : KL (w.heap.size + 1 + 1) 0 0 0 u2 := (by repeat (first | assumption | with_reducible refine KL.alloc ?_ _ | with_reducible refine KL.drew ?_ | with_reducible refine KL.call ?_ (by assumption))); have B2 : Below w.heap.size w u2 := (by repeat (first | assumption | exact Below.refl _ _ | refine Below.setCell ?_ (by first | omega | (simp <;> omega)) _ | refine Below.alloc ?_ (by first | omega | (simp <;> omega)) _ | refine bstep ?_ (by assumption) | refine Below.drew ?_)); have z2 := B2.size)
   | (go_at_call 162; refine (hermite_any [(px, py), (qx, qy)] _ _ _ (VL_two _ _ _ _ _ _) M2.out (by simp) M1.out).mono ?_; rintro e u3 ⟨rfl, hb3⟩; have K3 : Kq w.heap.size a b c d u3 := (by repeat (first | assumption | with_reducible refine Kq.alloc ?_ _ | with_reducible refine Kq.drew ?_ | with_reducible refine Kq.call ?_ (by assumption))); have G3 : Kq g A 0 B C u3 := (by repeat (first | assumption | with_reducible refine Kq.alloc ?_ _ | with_reducible refine Kq.drew ?_ | with_reducible refine Kq.call ?_ (by assumption))); have R3 : KL (w.heap.size + 1 + 1) 0 0 0 u3 := (by repeat (first | assumption | with_reducible refine KL.alloc ?_ _ | with_reducible refine KL.drew ?_ | with_reducible refine KL.call ?_ (by assumption))); have B3 : Below w.heap.size w u3 := (by repeat (first | assumption | exact Below.refl _ _ | refine Below.setCell ?_ (by first | omega | (simp <;> omega)) _ | refine Below.alloc ?_ (by first | omega | (simp <;> omega)) _ | refine bstep ?_ (by assumption) | refine Below.drew ?_)); have z3 := B3.size; obtain ⟨r0, r1, r2, r3, r4, r5, r6⟩ := id R3))
 all_goals
  go_wp2
  refine bodyPost_ret (v := .agg #[.int .i64 ((latL [(px, py), (qx, qy)]).1), .int .i64 ((latL [(px, py), (qx, qy)]).2.1), .int .i64 ((latL [(px, py), (qx, qy)]).2.2)]) (by simp [results, Tryz.results136, go_sem, *]) rfl ⟨rfl, ?_⟩
  repeat (first | assumption | refine Below.setCell ?_ (by first | omega | (simp <;> omega)) _)
theorem mapped_any (f A B C a b c d : Int) (w : World) (hf : frB f = true) (hl : latI A B C) (h : keepB f a b c d = true) :
  Calls Tryz.prog 145 #[.agg #[.int .i64 A, .int .i64 B, .int .i64 C], .agg #[.int .i64 a, .int .i64 b, .int .i64 c, .int .i64 d]] w fun e w' => e = .returned (.agg #[.int .i64 ((mapI A B C a b c d).1), .int .i64 ((mapI A B C a b c d).2.1), .int .i64 ((mapI A B C a b c d).2.2)]) ∧ Below w.heap.size w w' := by
 obtain ⟨m1, m2, _, _⟩ := mapI_facts hf hl h
 obtain ⟨bA, bC⟩ := latI_bd hl
 obtain ⟨h1, h2, h3, h4, _⟩ := hl
 exact mapped_core A B C a b c d _ _ _ _ w (fun W => apply_any a b c d A 0 W (keep_lim hf h) (by simp [vecB]; omega)) (fun W => apply_any a b c d B C W (keep_lim hf h) (by simp [vecB]; omega)) m1 m2
theorem l04Image_any (f A B C a b c d : Int) (w : World) (hf : frB f = true) (hl : latI A B C) (h : keepB f a b c d = true) :
  Calls Tryz.prog 136 #[.agg #[.int .i64 a, .int .i64 b, .int .i64 c, .int .i64 d], .agg #[.int .i64 A, .int .i64 B, .int .i64 C]] w fun e w' => e = .returned (.agg #[.int .i64 ((mapI A B C a b c d).1), .int .i64 ((mapI A B C a b c d).2.1), .int .i64 ((mapI A B C a b c d).2.2)]) ∧ Below w.heap.size w w' := by
 obtain ⟨m1, m2, _, _⟩ := mapI_facts hf hl h
 obtain ⟨bA, bC⟩ := latI_bd hl
 obtain ⟨h1, h2, h3, h4, _⟩ := hl
 exact image_core A B C a b c d _ _ _ _ w (fun W => l02Apply_any a b c d A 0 W (keep_lim hf h) (by simp [vecB]; omega)) (fun W => l02Apply_any a b c d B C W (keep_lim hf h) (by simp [vecB]; omega)) (by rw [← hm_two]; exact m1) m2
end
end Go.Proofs.YtdgophfembpniaaGreatDoor

namespace Go.Proofs.YtdgophfembpniaaGreatDoor
section
open Go.RowKit
set_option linter.unusedSimpArgs false
set_option linter.unusedVariables false

def flB (f A B C : Int) : Bool := frB f && latB A B C
def flC (f A B C : Int) : Int := bif flB f A B C then 0 else 1
set_option maxHeartbeats 4000000 in
theorem l04Code_any (f A B C : Int) (w : World) :
  Calls Tryz.prog 101 #[.int .i64 f, .agg #[.int .i64 A, .int .i64 B, .int .i64 C]] w fun e w' => e = .returned (.int .i64 (flC f A B C)) ∧ Below w.heap.size w w' := by
 rcases h : frB f with _ | _
 ·have E := Lib.hid (show flC f A B C = 1 by simp [flC, flB, h])
  go_enter Tryz.func101, Tryz.ntmps101
  go_wp2_with fail
  refine (specIsFrame_any _ _).mono ?_
  rintro e w1 ⟨rfl, rfl⟩
  rw [h]
  go_wp2
  go_ret
  exact ⟨ret_int E.out.symm, (Below.refl _ _).alloc (Nat.le_refl _) _⟩
 rcases hl : latB A B C with _ | _
 all_goals
  have E := Lib.hid (show flC f A B C = _ by simp only [flC, flB, h, hl, Bool.true_and]; rfl)
  go_enter Tryz.func101, Tryz.ntmps101
  go_wp2_with fail
  refine (specIsFrame_any _ _).mono ?_
  rintro e w1 ⟨rfl, rfl⟩
  rw [h]
  go_wp2_with fail
  refine (specIsLattice_any _ _ _ _).mono ?_
  rintro e w2 ⟨rfl, hb2⟩
  rw [hl]
  go_wp2
  go_ret
  exact ⟨ret_int E.out.symm, bstep ((Below.refl _ _).alloc (Nat.le_refl _) _) hb2⟩
theorem pm_keep {f a b c d : Int} (h : pmB f a b c d = true) : frB f = true ∧ matB a b c d = true ∧ keepB f a b c d = true := by
 simpa [pmB, and_assoc] using h
end
end Go.Proofs.YtdgophfembpniaaGreatDoor

