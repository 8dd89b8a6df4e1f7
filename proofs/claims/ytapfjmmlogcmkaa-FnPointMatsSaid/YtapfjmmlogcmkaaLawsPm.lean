/-
  The walk of the law FnPointMats: it returns true at every code and writes nothing that was there. Condition: the code's bytes can be read.
-/
import Derived.Test.YtapfjmmlogcmkaaDrawP4
import Derived.Test.YtapfjmmlogcmkaaLMats
import Derived.Test.YtapfjmmlogcmkaaLike4
import Derived.Test.YtapfjmmlogcmkaaMat3
import Derived.Deep.RegionHeld3
import Derived.ProofKit
import Derived.OpenShut
namespace Go.Proofs.Ytapfjmmlogcmkaa
open Go.RowKit Go.ChangeShapes Go.WideShapes Go.ChangeAt
set_option linter.unusedSimpArgs false
set_option linter.unusedVariables false

theorem SRow.alloc {lo hi K n : Nat} {v : Value} {F : Nat → Int} {W : World} (h : SRow lo hi K v n F W) (o : Obj) : SRow lo hi K v n F (W.alloc o) := h.call ((Below.refl _ _).alloc (Nat.le_refl _) _)
theorem SRow.drew {lo hi K n : Nat} {v : Value} {F : Nat → Int} {W : World} (h : SRow lo hi K v n F W) : SRow lo hi K v n F W.drew := h.call (Below.refl _ _).drew
theorem IRow.allocB {g N : Nat} {F : Nat → Int} {W : World} (h : IRow g N F W) (o : Obj) : IRow g N F (W.alloc o) := h.call ((Below.refl _ _).alloc (Nat.le_refl _) _)
theorem IRow.drewB {g N : Nat} {F : Nat → Int} {W : World} (h : IRow g N F W) : IRow g N F W.drew := h.call (Below.refl _ _).drew
theorem IRow.far3 {g N : Nat} {F : Nat → Int} {W : World} {q : Addr} {u : Value} (hq : q.block ≠ g) (h : IRow g N F W) : IRow g N F (W.setCell q u) := by
  have e : (W.setCell q u).heap[g]? = W.heap[g]? := Below.heap_setCell _ _ _ _ (by omega)
  exact ⟨by simpa [World.setCell] using h.1, fun t ht => ⟨(World.cell?_of_block (w := W) e).trans (h.2 t ht).1, (World.frozen?_of_block (w := W) e).trans (h.2 t ht).2⟩⟩
theorem Kg.far3 {g : Nat} {a b : Int} {W : World} {q : Addr} {u : Value} (hq : q.block ≠ g) (h : Kg g a b W) : Kg g a b (W.setCell q u) := by
  obtain ⟨h0, h1, h2⟩ := h
  have e : (W.setCell q u).heap[g]? = W.heap[g]? := Below.heap_setCell _ _ _ _ (by omega)
  exact ⟨by simpa [World.setCell] using h0, (World.cell?_of_block (w := W) e).trans h1, (World.cell?_of_block (w := W) e).trans h2⟩
theorem Ko4.put5 {g o : Nat} {a b c d : Int} {W : World} {p : Addr} {u : Value} (hp : g < p.block) (h : Ko4 g o a b c d W) : Ko4 g o a b c d (W.setCell p u) := by
  have e : (W.setCell p u).heap[g]? = W.heap[g]? := Below.heap_setCell _ _ _ _ (by omega)
  exact ⟨by simpa [World.setCell] using h.1, (World.cell?_of_block (w := W) e).trans h.2.1, (World.cell?_of_block (w := W) e).trans h.2.2.1, (World.cell?_of_block (w := W) e).trans h.2.2.2.1, (World.cell?_of_block (w := W) e).trans h.2.2.2.2⟩
theorem at49 {xs : List M4} {i : Nat} (h : i < xs.length) : intAt (cells4 xs) (i * 4) = xs[i].1 ∧ intAt (cells4 xs) (i * 4 + 1) = xs[i].2.1 ∧ intAt (cells4 xs) (i * 4 + 2) = xs[i].2.2.1 ∧ intAt (cells4 xs) (i * 4 + 3) = xs[i].2.2.2 := by
  obtain ⟨h0, h1, h2, h3⟩ := cells4_get xs i h
  exact ⟨by simp [intAt, h0], by simp [intAt, h1], by simp [intAt, h2], by simp [intAt, h3]⟩
theorem specIsFrameB_any (f : Int) (w : World) : Calls Try.prog 29 #[.int .i64 f] w fun e w' => e = .returned (.bool (frB f)) ∧ Below w.heap.size w w' :=
  (specIsFrame_any f w).mono fun _ _ ⟨he, hw⟩ => ⟨he, hw ▸ Below.refl _ _⟩
def PmCut (w : World) (g5 N b : Nat) (T : Nat → Int) (x y p q k : Int) (s22 s23 : Value) (wx : World) : Prop :=
  ∃ g0 : Nat, s22 = .pointer (some ⟨g0, 0, none⟩) ∧ s23 = .int .i64 k ∧ KW g0 p q wx ∧ Kg b x y wx ∧ IRow g5 N T wx ∧ Below w.heap.size w wx
theorem keep_nrm {f a b c d x y : Int} (h : keepB f a b c d = true) : nrmI f (a * x + b * y) (c * x + d * y) = nrmI f x y := by
  obtain ⟨h1, h2, h3⟩ := keep_parts h
  have hs := nrm_sum f a c b d
  have hc := nrm_comb f a c b d x y
  rw [h1, h2] at hc hs
  rw [h3] at hs
  rw [show x * a + y * b = a * x + b * y by grind, show x * c + y * d = c * x + d * y by grind] at hc
  rw [hc]
  have ht : tI f a c b d = f := by omega
  rw [ht]
  unfold nrmI
  grind
theorem map_ix {f a b c d A B C : Int} (h : (mapR f a b c d A B C).2.2.2 = 0) : (mapR f a b c d A B C).1 * (mapR f a b c d A B C).2.2.1 = A * C ∧ (-64 ≤ A * C ∧ A * C ≤ 64) ∧ latI A B C := by
  unfold mapR at *
  rcases h1 : flB f A B C with _ | _
  · simp [h1] at h
  rcases h2 : pmB f a b c d with _ | _
  · simp [h1, h2] at h
  simp only [h1, h2, cond_true]
  simp only [flB, Bool.and_eq_true] at h1
  obtain ⟨_, _, hk⟩ := pm_keep h2
  have hl := latB_iff.1 h1.2
  obtain ⟨_, _, _, hi⟩ := mapI_facts h1.1 hl hk
  refine ⟨hi, ?_, hl⟩
  have := hl.2.2.2.2
  have h5 := Int.mul_nonneg (show 0 ≤ A by have := hl.1; omega) (show 0 ≤ C by have := hl.2.1; omega)
  omega
theorem pm_app {f x y : Int} {i : Nat} (hf : frB f = true) (hv : vecB x y = true) (h : i < (matsL f).length) :
    (vecB ((matsL f)[i].1 * x + (matsL f)[i].2.1 * y) ((matsL f)[i].2.2.1 * x + (matsL f)[i].2.2.2 * y) = false ∧ appR (matsL f)[i].1 (matsL f)[i].2.1 (matsL f)[i].2.2.1 (matsL f)[i].2.2.2 x y = (0, 0, 3)) ∨
    ∃ p q : Int, appR (matsL f)[i].1 (matsL f)[i].2.1 (matsL f)[i].2.2.1 (matsL f)[i].2.2.2 x y = (p, q, 0) ∧ norR f p q = (nrmI f x y, 0) := by
  have hk : keepB f (matsL f)[i].1 (matsL f)[i].2.1 (matsL f)[i].2.2.1 (matsL f)[i].2.2.2 = true := matsL_keep (List.getElem_mem h)
  generalize (matsL f)[i] = m at hk ⊢
  obtain ⟨a, b, c, d⟩ := m
  simp only at hk ⊢
  have hm : matB a b c d = true := by
    have := keep_det hf hk
    simp only [matB, keep_lim hf hk, Bool.true_and, Bool.or_eq_true, beq_iff_eq]
    exact this
  rcases hq : vecB (a * x + b * y) (c * x + d * y) with _ | _
  · left; exact ⟨rfl, by simp [appR, hm, hv, hq]⟩
  · right
    refine ⟨a * x + b * y, c * x + d * y, by simp [appR, hm, hv, hq], ?_⟩
    simp [norR, hf, hq, keep_nrm hk]
def IsRow (k : IntKind) (w : World) (a : Option Addr) (len cap : Nat) (zs : List Int) : Prop :=
  (a = none ∧ len = 0 ∧ cap = 0 ∧ zs = []) ∨
  ∃ x, a = some x ∧ len ≤ cap ∧ cap ≤ maxLen ∧ zs.length = cap ∧ (∀ i, i < zs.length → w.cell? (x.add i) = some (.int k (zs.getD i 0))) ∧ ∀ n ∈ zs, (Lit.int k n).wf = true

theorem rowBts {w : World} {a0 : Option Addr} {len cap : Nat} {zs : List Int} (h : IsRow .u8 w a0 len cap zs) : Bts a0 len w.heap.size w := by
  rcases h with ⟨_, h, _, _⟩ | ⟨x, rfl, h1, h2, h3, h4, h5⟩
  · exact .inl h
  · by_cases h0 : len = 0
    · exact .inl h0
    · obtain ⟨b, off, rfl, hc⟩ := ints_at h4 (by omega)
      refine .inr ⟨b, off, rfl, World.block_lt_of_cell? _ _ (hc 0 (by omega)), fun i hi => ?_⟩
      have hb := bounds_u8 (h5 (zs.getD i 0) (by
        rw [List.getD_eq_getElem?_getD, List.getElem?_eq_getElem (by omega)]
        exact List.getElem_mem _))
      exact ⟨_, hb.1, hb.2, hc i (by omega)⟩

set_option maxRecDepth 100000 in
set_option maxHeartbeats 16000000 in
theorem walkPointMats (a0 : Option Addr) (len cap : Nat) (zs : List Int) (w : World) (w0 : IsRow .u8 w a0 len cap zs) :
    Calls Try.prog 4 #[.slice a0 len cap] w fun e w' => e = .returned (.bool true) ∧ Below w.heap.size w w' := by
  have B0 : Below w.heap.size w w := Below.refl _ _
  by_cases hbig : 4096 < len
  · have hb1 : (4096 : Int) < (len : Int) := by omega
    have hb2 : len ≤ 9223372036854775807 := by
      rcases w0 with ⟨_, h, _, _⟩ | ⟨x, rfl, h1, h2, h3, h4, h5⟩
      · omega
      · unfold maxLen at h2; omega
    go_enter Try.func4, Try.ntmps4
    go_wp2
    go_ret
    exact ⟨rfl, Below.refl _ _⟩
  have hB := rowBts w0
  have hl : len ≤ 4096 := by omega
  clear w0
  go_enter Try.func4, Try.ntmps4
  go_wp2_with (go_at_call 5; go_in)
  refine (drawPms_any a0 len cap _ (by omega) (hB.grow B0 (by have := B0.size; first | omega | (simp <;> omega)))).mono ?_
  rintro e w1 ⟨fr, rfl, hb1⟩
  have B1 : Below w.heap.size w w1 := bstep B0 hb1
  clear hb1 B0 
  go_wp2_with fail
  refine (implPm_any fr _).mono ?_
  rintro e w2 ⟨v1, rfl, s2, hb2⟩
  have B2 : Below w.heap.size w w2 := bstep B1 hb2
  clear hb2 B1 
  go_wp2_with fail
  refine (specPm_any fr _).mono ?_
  rintro e w3 ⟨v2, rfl, t3, hb3⟩
  have s3 := SRow.call s2 hb3
  have B3 : Below w.heap.size w w3 := bstep B2 hb3
  clear hb3 B2 s2
  go_wp2_with fail
  refine (drawNo_any a0 len cap _ (by omega) (hB.grow B3 (by have := B3.size; first | omega | (simp <;> omega)))).mono ?_
  rintro e w4 ⟨f, x, y, rfl, hb4⟩
  have s4 := SRow.call s3 hb4
  have t4 := SRow.call t3 hb4
  have B4 : Below w.heap.size w w4 := bstep B3 hb4
  clear hb4 B3 s3 t3
  go_wp2_with fail
  refine (implNormOf_any f x y _).mono ?_
  rintro e w5 ⟨he, hb5⟩
  unfold norT at he
  subst he
  have s5 := SRow.call (SRow.alloc s4 _) hb5
  have t5 := SRow.call (SRow.alloc t4 _) hb5
  have V5 : Kg (w4.heap.size) x y w5 := (Kg.at2 (w4.heap.size) (by simp) : Kg (w4.heap.size) x y _).call hb5
  have B5 : Below w.heap.size w w5 := bstep (Below.alloc B4 (by have := B4.size; first | omega | (simp <;> omega)) _) hb5
  clear hb5 B4 s4 t4
  have V5c0 := V5.c0
  have V5c1 := V5.c1
  have V5l := V5.1
  have V5n : ¬ w4.heap.size = w5.heap.size := by omega
  go_wp2_with fail
  refine (specNormOf_any f x y _).mono ?_
  rintro e w6 ⟨he, hb6⟩
  unfold norT at he
  subst he
  have s6 := SRow.call s5 hb6
  have t6 := SRow.call t5 hb6
  have V6 : Kg (w4.heap.size) x y w6 := Kg.call V5 hb6
  have B6 : Below w.heap.size w w6 := bstep B5 hb6
  clear hb6 B5 s5 t5 V5
  clear V5c0 V5c1 V5l V5n
  have V6c0 := V6.c0
  have V6c1 := V6.c1
  have V6l := V6.1
  have V6n : ¬ w4.heap.size = w6.heap.size := by omega
  go_wp2_with fail
  refine (drawIp_any a0 len cap _ (by omega) (hB.grow B6 (by have := B6.size; first | omega | (simp <;> omega)))).mono ?_
  rintro e w7 ⟨g, a, b, c, d, rfl, hb7⟩
  have s7 := SRow.call s6 hb7
  have t7 := SRow.call t6 hb7
  have V7 : Kg (w4.heap.size) x y w7 := Kg.call V6 hb7
  have B7 : Below w.heap.size w w7 := bstep B6 hb7
  clear hb7 B6 s6 t6 V6
  clear V6c0 V6c1 V6l V6n
  have V7c0 := V7.c0
  have V7c1 := V7.c1
  have V7l := V7.1
  have V7n : ¬ w4.heap.size = w7.heap.size := by omega
  go_wp2_with fail
  refine (drawMl_any a0 len cap _ (by omega) (hB.grow (Below.alloc B7 (by have := B7.size; first | omega | (simp <;> omega)) _) (by have := B7.size; first | omega | (simp <;> omega)))).mono ?_
  rintro e w8 ⟨h, m1, m2, m3, m4, A, B, C, rfl, hb8⟩
  have s8 := SRow.call (SRow.alloc s7 _) hb8
  have t8 := SRow.call (SRow.alloc t7 _) hb8
  have V8 : Kg (w4.heap.size) x y w8 := Kg.call (V7.alloc _) hb8
  have D8 : Kq (w7.heap.size) a b c d w8 := (Kq.at (w7.heap.size) (by simp) : Kq (w7.heap.size) a b c d _).call hb8
  have B8 : Below w.heap.size w w8 := bstep (Below.alloc B7 (by have := B7.size; first | omega | (simp <;> omega)) _) hb8
  clear hb8 B7 s7 t7 V7
  clear V7c0 V7c1 V7l V7n
  have V8c0 := V8.c0
  have V8c1 := V8.c1
  have V8l := V8.1
  have V8n : ¬ w4.heap.size = w8.heap.size := by omega
  have D8c0 := D8.c0
  have D8c1 := D8.c1
  have D8c2 := D8.c2
  have D8c3 := D8.c3
  have D8l := D8.1
  have D8n : ¬ w7.heap.size = w8.heap.size := by omega
  go_wp2_with fail
  refine (implMap_any h m1 m2 m3 m4 A B C _).mono ?_
  rintro e w9 ⟨he, hb9⟩
  unfold mapT latT at he
  subst he
  have s9 := SRow.call (SRow.alloc (SRow.alloc s8 _) _) hb9
  have t9 := SRow.call (SRow.alloc (SRow.alloc t8 _) _) hb9
  have V9 : Kg (w4.heap.size) x y w9 := Kg.call ((V8.alloc _).alloc _) hb9
  have D9 : Kq (w7.heap.size) a b c d w9 := Kq.call ((D8.alloc _).alloc _) hb9
  have N9 : Kq (w8.heap.size) m1 m2 m3 m4 w9 := ((Kq.at (w8.heap.size) (by simp) : Kq (w8.heap.size) m1 m2 m3 m4 _).alloc _).call hb9
  have L9 : Kt (w8.heap.size + 1) A B C w9 := (Kt.at (w8.heap.size + 1) (by simp) : Kt (w8.heap.size + 1) A B C _).call hb9
  have B9 : Below w.heap.size w w9 := bstep (Below.alloc (Below.alloc B8 (by have := B8.size; first | omega | (simp <;> omega)) _) (by have := B8.size; first | omega | (simp <;> omega)) _) hb9
  clear hb9 B8 s8 t8 V8 D8
  clear V8c0 V8c1 V8l V8n D8c0 D8c1 D8c2 D8c3 D8l D8n
  have V9c0 := V9.c0
  have V9c1 := V9.c1
  have V9l := V9.1
  have V9n : ¬ w4.heap.size = w9.heap.size := by omega
  have D9c0 := D9.c0
  have D9c1 := D9.c1
  have D9c2 := D9.c2
  have D9c3 := D9.c3
  have D9l := D9.1
  have D9n : ¬ w7.heap.size = w9.heap.size := by omega
  have N9c0 := N9.c0
  have N9c1 := N9.c1
  have N9c2 := N9.c2
  have N9c3 := N9.c3
  have N9l := N9.1
  have N9n : ¬ w8.heap.size = w9.heap.size := by omega
  have L9c0 := L9.c0
  have L9c1 := L9.c1
  have L9c2 := L9.c2
  have L9l := L9.1
  have L9n : ¬ w8.heap.size + 1 = w9.heap.size := by omega
  go_wp2_with fail
  refine (specMap_any h m1 m2 m3 m4 A B C _).mono ?_
  rintro e w10 ⟨he, hb10⟩
  unfold mapT latT at he
  subst he
  have s10 := SRow.call (SRow.alloc s9 _) hb10
  have t10 := SRow.call (SRow.alloc t9 _) hb10
  have V10 : Kg (w4.heap.size) x y w10 := Kg.call (V9.alloc _) hb10
  have D10 : Kq (w7.heap.size) a b c d w10 := Kq.call (D9.alloc _) hb10
  have N10 : Kq (w8.heap.size) m1 m2 m3 m4 w10 := Kq.call (N9.alloc _) hb10
  have L10 : Kt (w8.heap.size + 1) A B C w10 := Kt.call (L9.alloc _) hb10
  have K10 : Kt (w9.heap.size) ((mapR h m1 m2 m3 m4 A B C).1) ((mapR h m1 m2 m3 m4 A B C).2.1) ((mapR h m1 m2 m3 m4 A B C).2.2.1) w10 := (Kt.at (w9.heap.size) (by simp) : Kt (w9.heap.size) ((mapR h m1 m2 m3 m4 A B C).1) ((mapR h m1 m2 m3 m4 A B C).2.1) ((mapR h m1 m2 m3 m4 A B C).2.2.1) _).call hb10
  have B10 : Below w.heap.size w w10 := bstep (Below.alloc B9 (by have := B9.size; first | omega | (simp <;> omega)) _) hb10
  clear hb10 B9 s9 t9 V9 D9 N9 L9
  clear V9c0 V9c1 V9l V9n D9c0 D9c1 D9c2 D9c3 D9l D9n N9c0 N9c1 N9c2 N9c3 N9l N9n L9c0 L9c1 L9c2 L9l L9n
  clear N10
  have V10c0 := V10.c0
  have V10c1 := V10.c1
  have V10l := V10.1
  have V10n : ¬ w4.heap.size = w10.heap.size := by omega
  have D10c0 := D10.c0
  have D10c1 := D10.c1
  have D10c2 := D10.c2
  have D10c3 := D10.c3
  have D10l := D10.1
  have D10n : ¬ w7.heap.size = w10.heap.size := by omega
  have L10c0 := L10.c0
  have L10c1 := L10.c1
  have L10c2 := L10.c2
  have L10l := L10.1
  have L10n : ¬ w8.heap.size + 1 = w10.heap.size := by omega
  have K10c0 := K10.c0
  have K10c1 := K10.c1
  have K10c2 := K10.c2
  have K10l := K10.1
  have K10n : ¬ w9.heap.size = w10.heap.size := by omega
  have I10 : Kt (w10.heap.size) (mapR h m1 m2 m3 m4 A B C).1 (mapR h m1 m2 m3 m4 A B C).2.1 (mapR h m1 m2 m3 m4 A B C).2.2.1 (w10.alloc (.cells #[.int .i64 ((mapR h m1 m2 m3 m4 A B C).1), .int .i64 ((mapR h m1 m2 m3 m4 A B C).2.1), .int .i64 ((mapR h m1 m2 m3 m4 A B C).2.2.1)] 25)) := Kt.at _ rfl
  have V10lt := V10.1
  have D10lt := D10.1
  have L10lt := L10.1
  have K10lt := K10.1
  have I10lt := I10.1
  go_wp2_with fail
  go_region_held3 (fun W => (W.cell? ⟨w7.heap.size, 0, none⟩ = some (.int .i64 a) ∧ W.cell? ⟨w7.heap.size, 1, none⟩ = some (.int .i64 b) ∧ W.cell? ⟨w7.heap.size, 2, none⟩ = some (.int .i64 c) ∧ W.cell? ⟨w7.heap.size, 3, none⟩ = some (.int .i64 d)) ∧ (W.cell? ⟨w9.heap.size, 0, none⟩ = some (.int .i64 ((mapR h m1 m2 m3 m4 A B C).1)) ∧ W.cell? ⟨w9.heap.size, 1, none⟩ = some (.int .i64 ((mapR h m1 m2 m3 m4 A B C).2.1)) ∧ W.cell? ⟨w9.heap.size, 2, none⟩ = some (.int .i64 ((mapR h m1 m2 m3 m4 A B C).2.2.1))) ∧ (W.cell? ⟨w10.heap.size, 0, none⟩ = some (.int .i64 ((mapR h m1 m2 m3 m4 A B C).1)) ∧ W.cell? ⟨w10.heap.size, 1, none⟩ = some (.int .i64 ((mapR h m1 m2 m3 m4 A B C).2.1)) ∧ W.cell? ⟨w10.heap.size, 2, none⟩ = some (.int .i64 ((mapR h m1 m2 m3 m4 A B C).2.2.1)))) ((refine ⟨Kq.cells ?_, Kt.cells ?_, Kt.cells ?_⟩ <;> repeat (first | with_reducible assumption | with_reducible refine Kg.drew ?_ | with_reducible refine Kg.alloc ?_ _ | with_reducible refine Kg.call ?_ (by with_reducible assumption) | with_reducible refine Kq.drew ?_ | with_reducible refine Kq.alloc ?_ _ | with_reducible refine Kq.call ?_ (by with_reducible assumption) | with_reducible refine Kt.drew ?_ | with_reducible refine Kt.alloc ?_ _ | with_reducible refine Kt.call ?_ (by with_reducible assumption) | ((with_reducible refine Kg.put ?_ ?_); (first | omega | (dsimp only; omega))) | ((with_reducible refine Kq.put ?_ ?_); (first | omega | (dsimp only; omega))) | ((with_reducible refine Kt.put ?_ ?_); (first | omega | (dsimp only; omega))) | ((with_reducible refine Kg.far ?_ ?_); (first | omega | (dsimp only; omega))) | ((with_reducible refine Kq.far ?_ ?_); (first | omega | (dsimp only; omega))))))
    (first
      | (go_at_call 14; ((with_reducible refine (likeMats9_any (show SRow w1.heap.size w2.heap.size 4 v1 (pmL fr).length (intAt (cells4 (pmL fr))) _ from by repeat (first | with_reducible assumption | with_reducible refine SRow.drew ?_ | with_reducible refine SRow.alloc ?_ _)) (show SRow w2.heap.size w3.heap.size 4 v2 (pmL fr).length (intAt (cells4 (pmL fr))) _ from by repeat (first | with_reducible assumption | with_reducible refine SRow.drew ?_ | with_reducible refine SRow.alloc ?_ _))).mono ?_); rintro e w11 ⟨rfl, hb11⟩; have s11 := SRow.call (show SRow w1.heap.size w2.heap.size 4 v1 (pmL fr).length (intAt (cells4 (pmL fr))) _ from by repeat (first | with_reducible assumption | with_reducible refine SRow.drew ?_ | with_reducible refine SRow.alloc ?_ _ | with_reducible refine SRow.call ?_ (by with_reducible assumption))) hb11; have t11 := SRow.call (show SRow w2.heap.size w3.heap.size 4 v2 (pmL fr).length (intAt (cells4 (pmL fr))) _ from by repeat (first | with_reducible assumption | with_reducible refine SRow.drew ?_ | with_reducible refine SRow.alloc ?_ _ | with_reducible refine SRow.call ?_ (by with_reducible assumption))) hb11; have V11 : Kg (w4.heap.size) x y w11 := (by repeat (first | with_reducible assumption | with_reducible refine Kg.drew ?_ | with_reducible refine Kg.alloc ?_ _ | with_reducible refine Kg.call ?_ (by with_reducible assumption) | with_reducible refine Kq.drew ?_ | with_reducible refine Kq.alloc ?_ _ | with_reducible refine Kq.call ?_ (by with_reducible assumption) | with_reducible refine Kt.drew ?_ | with_reducible refine Kt.alloc ?_ _ | with_reducible refine Kt.call ?_ (by with_reducible assumption))); have D11 : Kq (w7.heap.size) a b c d w11 := (by repeat (first | with_reducible assumption | with_reducible refine Kg.drew ?_ | with_reducible refine Kg.alloc ?_ _ | with_reducible refine Kg.call ?_ (by with_reducible assumption) | with_reducible refine Kq.drew ?_ | with_reducible refine Kq.alloc ?_ _ | with_reducible refine Kq.call ?_ (by with_reducible assumption) | with_reducible refine Kt.drew ?_ | with_reducible refine Kt.alloc ?_ _ | with_reducible refine Kt.call ?_ (by with_reducible assumption))); have L11 : Kt (w8.heap.size + 1) A B C w11 := (by repeat (first | with_reducible assumption | with_reducible refine Kg.drew ?_ | with_reducible refine Kg.alloc ?_ _ | with_reducible refine Kg.call ?_ (by with_reducible assumption) | with_reducible refine Kq.drew ?_ | with_reducible refine Kq.alloc ?_ _ | with_reducible refine Kq.call ?_ (by with_reducible assumption) | with_reducible refine Kt.drew ?_ | with_reducible refine Kt.alloc ?_ _ | with_reducible refine Kt.call ?_ (by with_reducible assumption))); have K11 : Kt (w9.heap.size) ((mapR h m1 m2 m3 m4 A B C).1) ((mapR h m1 m2 m3 m4 A B C).2.1) ((mapR h m1 m2 m3 m4 A B C).2.2.1) w11 := (by repeat (first | with_reducible assumption | with_reducible refine Kg.drew ?_ | with_reducible refine Kg.alloc ?_ _ | with_reducible refine Kg.call ?_ (by with_reducible assumption) | with_reducible refine Kq.drew ?_ | with_reducible refine Kq.alloc ?_ _ | with_reducible refine Kq.call ?_ (by with_reducible assumption) | with_reducible refine Kt.drew ?_ | with_reducible refine Kt.alloc ?_ _ | with_reducible refine Kt.call ?_ (by with_reducible assumption))); have I11 : Kt (w10.heap.size) ((mapR h m1 m2 m3 m4 A B C).1) ((mapR h m1 m2 m3 m4 A B C).2.1) ((mapR h m1 m2 m3 m4 A B C).2.2.1) w11 := (by repeat (first | with_reducible assumption | with_reducible refine Kg.drew ?_ | with_reducible refine Kg.alloc ?_ _ | with_reducible refine Kg.call ?_ (by with_reducible assumption) | with_reducible refine Kq.drew ?_ | with_reducible refine Kq.alloc ?_ _ | with_reducible refine Kq.call ?_ (by with_reducible assumption) | with_reducible refine Kt.drew ?_ | with_reducible refine Kt.alloc ?_ _ | with_reducible refine Kt.call ?_ (by with_reducible assumption))); have V11l := V11.1; have D11l := D11.1; have L11l := L11.1; have K11l := K11.1; have I11l := I11.1; have B11 : Below w.heap.size w w11 := (by repeat (first | with_reducible assumption | with_reducible refine Below.drew ?_ | with_reducible refine Below.alloc ?_ (by first | omega | (have := B10.size; simp <;> omega)) _ | with_reducible refine bstep ?_ (by with_reducible assumption)))))
      | (go_at_call 26; ((with_reducible refine (implIsPoint_any _ _ _ _ _ _).mono ?_); rintro e w12 ⟨rfl, hb12⟩; have s12 := SRow.call (show SRow w1.heap.size w2.heap.size 4 v1 (pmL fr).length (intAt (cells4 (pmL fr))) _ from by repeat (first | with_reducible assumption | with_reducible refine SRow.drew ?_ | with_reducible refine SRow.alloc ?_ _ | with_reducible refine SRow.call ?_ (by with_reducible assumption))) hb12; have t12 := SRow.call (show SRow w2.heap.size w3.heap.size 4 v2 (pmL fr).length (intAt (cells4 (pmL fr))) _ from by repeat (first | with_reducible assumption | with_reducible refine SRow.drew ?_ | with_reducible refine SRow.alloc ?_ _ | with_reducible refine SRow.call ?_ (by with_reducible assumption))) hb12; have V12 : Kg (w4.heap.size) x y w12 := (by repeat (first | with_reducible assumption | with_reducible refine Kg.drew ?_ | with_reducible refine Kg.alloc ?_ _ | with_reducible refine Kg.call ?_ (by with_reducible assumption) | with_reducible refine Kq.drew ?_ | with_reducible refine Kq.alloc ?_ _ | with_reducible refine Kq.call ?_ (by with_reducible assumption) | with_reducible refine Kt.drew ?_ | with_reducible refine Kt.alloc ?_ _ | with_reducible refine Kt.call ?_ (by with_reducible assumption))); have D12 : Kq (w7.heap.size) a b c d w12 := (by repeat (first | with_reducible assumption | with_reducible refine Kg.drew ?_ | with_reducible refine Kg.alloc ?_ _ | with_reducible refine Kg.call ?_ (by with_reducible assumption) | with_reducible refine Kq.drew ?_ | with_reducible refine Kq.alloc ?_ _ | with_reducible refine Kq.call ?_ (by with_reducible assumption) | with_reducible refine Kt.drew ?_ | with_reducible refine Kt.alloc ?_ _ | with_reducible refine Kt.call ?_ (by with_reducible assumption))); have L12 : Kt (w8.heap.size + 1) A B C w12 := (by repeat (first | with_reducible assumption | with_reducible refine Kg.drew ?_ | with_reducible refine Kg.alloc ?_ _ | with_reducible refine Kg.call ?_ (by with_reducible assumption) | with_reducible refine Kq.drew ?_ | with_reducible refine Kq.alloc ?_ _ | with_reducible refine Kq.call ?_ (by with_reducible assumption) | with_reducible refine Kt.drew ?_ | with_reducible refine Kt.alloc ?_ _ | with_reducible refine Kt.call ?_ (by with_reducible assumption))); have K12 : Kt (w9.heap.size) ((mapR h m1 m2 m3 m4 A B C).1) ((mapR h m1 m2 m3 m4 A B C).2.1) ((mapR h m1 m2 m3 m4 A B C).2.2.1) w12 := (by repeat (first | with_reducible assumption | with_reducible refine Kg.drew ?_ | with_reducible refine Kg.alloc ?_ _ | with_reducible refine Kg.call ?_ (by with_reducible assumption) | with_reducible refine Kq.drew ?_ | with_reducible refine Kq.alloc ?_ _ | with_reducible refine Kq.call ?_ (by with_reducible assumption) | with_reducible refine Kt.drew ?_ | with_reducible refine Kt.alloc ?_ _ | with_reducible refine Kt.call ?_ (by with_reducible assumption))); have I12 : Kt (w10.heap.size) ((mapR h m1 m2 m3 m4 A B C).1) ((mapR h m1 m2 m3 m4 A B C).2.1) ((mapR h m1 m2 m3 m4 A B C).2.2.1) w12 := (by repeat (first | with_reducible assumption | with_reducible refine Kg.drew ?_ | with_reducible refine Kg.alloc ?_ _ | with_reducible refine Kg.call ?_ (by with_reducible assumption) | with_reducible refine Kq.drew ?_ | with_reducible refine Kq.alloc ?_ _ | with_reducible refine Kq.call ?_ (by with_reducible assumption) | with_reducible refine Kt.drew ?_ | with_reducible refine Kt.alloc ?_ _ | with_reducible refine Kt.call ?_ (by with_reducible assumption))); have V12l := V12.1; have D12l := D12.1; have L12l := L12.1; have K12l := K12.1; have I12l := I12.1; have B12 : Below w.heap.size w w12 := (by repeat (first | with_reducible assumption | with_reducible refine Below.drew ?_ | with_reducible refine Below.alloc ?_ (by first | omega | (have := B10.size; simp <;> omega)) _ | with_reducible refine bstep ?_ (by with_reducible assumption)))))
      | (go_at_call 27; ((with_reducible refine (specIsPoint_any _ _ _ _ _ _).mono ?_); rintro e w13 ⟨rfl, hb13⟩; have s13 := SRow.call (show SRow w1.heap.size w2.heap.size 4 v1 (pmL fr).length (intAt (cells4 (pmL fr))) _ from by repeat (first | with_reducible assumption | with_reducible refine SRow.drew ?_ | with_reducible refine SRow.alloc ?_ _ | with_reducible refine SRow.call ?_ (by with_reducible assumption))) hb13; have t13 := SRow.call (show SRow w2.heap.size w3.heap.size 4 v2 (pmL fr).length (intAt (cells4 (pmL fr))) _ from by repeat (first | with_reducible assumption | with_reducible refine SRow.drew ?_ | with_reducible refine SRow.alloc ?_ _ | with_reducible refine SRow.call ?_ (by with_reducible assumption))) hb13; have V13 : Kg (w4.heap.size) x y w13 := (by repeat (first | with_reducible assumption | with_reducible refine Kg.drew ?_ | with_reducible refine Kg.alloc ?_ _ | with_reducible refine Kg.call ?_ (by with_reducible assumption) | with_reducible refine Kq.drew ?_ | with_reducible refine Kq.alloc ?_ _ | with_reducible refine Kq.call ?_ (by with_reducible assumption) | with_reducible refine Kt.drew ?_ | with_reducible refine Kt.alloc ?_ _ | with_reducible refine Kt.call ?_ (by with_reducible assumption))); have D13 : Kq (w7.heap.size) a b c d w13 := (by repeat (first | with_reducible assumption | with_reducible refine Kg.drew ?_ | with_reducible refine Kg.alloc ?_ _ | with_reducible refine Kg.call ?_ (by with_reducible assumption) | with_reducible refine Kq.drew ?_ | with_reducible refine Kq.alloc ?_ _ | with_reducible refine Kq.call ?_ (by with_reducible assumption) | with_reducible refine Kt.drew ?_ | with_reducible refine Kt.alloc ?_ _ | with_reducible refine Kt.call ?_ (by with_reducible assumption))); have L13 : Kt (w8.heap.size + 1) A B C w13 := (by repeat (first | with_reducible assumption | with_reducible refine Kg.drew ?_ | with_reducible refine Kg.alloc ?_ _ | with_reducible refine Kg.call ?_ (by with_reducible assumption) | with_reducible refine Kq.drew ?_ | with_reducible refine Kq.alloc ?_ _ | with_reducible refine Kq.call ?_ (by with_reducible assumption) | with_reducible refine Kt.drew ?_ | with_reducible refine Kt.alloc ?_ _ | with_reducible refine Kt.call ?_ (by with_reducible assumption))); have K13 : Kt (w9.heap.size) ((mapR h m1 m2 m3 m4 A B C).1) ((mapR h m1 m2 m3 m4 A B C).2.1) ((mapR h m1 m2 m3 m4 A B C).2.2.1) w13 := (by repeat (first | with_reducible assumption | with_reducible refine Kg.drew ?_ | with_reducible refine Kg.alloc ?_ _ | with_reducible refine Kg.call ?_ (by with_reducible assumption) | with_reducible refine Kq.drew ?_ | with_reducible refine Kq.alloc ?_ _ | with_reducible refine Kq.call ?_ (by with_reducible assumption) | with_reducible refine Kt.drew ?_ | with_reducible refine Kt.alloc ?_ _ | with_reducible refine Kt.call ?_ (by with_reducible assumption))); have I13 : Kt (w10.heap.size) ((mapR h m1 m2 m3 m4 A B C).1) ((mapR h m1 m2 m3 m4 A B C).2.1) ((mapR h m1 m2 m3 m4 A B C).2.2.1) w13 := (by repeat (first | with_reducible assumption | with_reducible refine Kg.drew ?_ | with_reducible refine Kg.alloc ?_ _ | with_reducible refine Kg.call ?_ (by with_reducible assumption) | with_reducible refine Kq.drew ?_ | with_reducible refine Kq.alloc ?_ _ | with_reducible refine Kq.call ?_ (by with_reducible assumption) | with_reducible refine Kt.drew ?_ | with_reducible refine Kt.alloc ?_ _ | with_reducible refine Kt.call ?_ (by with_reducible assumption))); have V13l := V13.1; have D13l := D13.1; have L13l := L13.1; have K13l := K13.1; have I13l := I13.1; have B13 : Below w.heap.size w w13 := (by repeat (first | with_reducible assumption | with_reducible refine Below.drew ?_ | with_reducible refine Below.alloc ?_ (by first | omega | (have := B10.size; simp <;> omega)) _ | with_reducible refine bstep ?_ (by with_reducible assumption)))))
      | (go_at_call 28; ((with_reducible refine (implIsFrame_any _ _).mono ?_); rintro e w14 ⟨rfl, hb14⟩; have s14 := SRow.call (show SRow w1.heap.size w2.heap.size 4 v1 (pmL fr).length (intAt (cells4 (pmL fr))) _ from by repeat (first | with_reducible assumption | with_reducible refine SRow.drew ?_ | with_reducible refine SRow.alloc ?_ _ | with_reducible refine SRow.call ?_ (by with_reducible assumption))) hb14; have t14 := SRow.call (show SRow w2.heap.size w3.heap.size 4 v2 (pmL fr).length (intAt (cells4 (pmL fr))) _ from by repeat (first | with_reducible assumption | with_reducible refine SRow.drew ?_ | with_reducible refine SRow.alloc ?_ _ | with_reducible refine SRow.call ?_ (by with_reducible assumption))) hb14; have V14 : Kg (w4.heap.size) x y w14 := (by repeat (first | with_reducible assumption | with_reducible refine Kg.drew ?_ | with_reducible refine Kg.alloc ?_ _ | with_reducible refine Kg.call ?_ (by with_reducible assumption) | with_reducible refine Kq.drew ?_ | with_reducible refine Kq.alloc ?_ _ | with_reducible refine Kq.call ?_ (by with_reducible assumption) | with_reducible refine Kt.drew ?_ | with_reducible refine Kt.alloc ?_ _ | with_reducible refine Kt.call ?_ (by with_reducible assumption))); have D14 : Kq (w7.heap.size) a b c d w14 := (by repeat (first | with_reducible assumption | with_reducible refine Kg.drew ?_ | with_reducible refine Kg.alloc ?_ _ | with_reducible refine Kg.call ?_ (by with_reducible assumption) | with_reducible refine Kq.drew ?_ | with_reducible refine Kq.alloc ?_ _ | with_reducible refine Kq.call ?_ (by with_reducible assumption) | with_reducible refine Kt.drew ?_ | with_reducible refine Kt.alloc ?_ _ | with_reducible refine Kt.call ?_ (by with_reducible assumption))); have L14 : Kt (w8.heap.size + 1) A B C w14 := (by repeat (first | with_reducible assumption | with_reducible refine Kg.drew ?_ | with_reducible refine Kg.alloc ?_ _ | with_reducible refine Kg.call ?_ (by with_reducible assumption) | with_reducible refine Kq.drew ?_ | with_reducible refine Kq.alloc ?_ _ | with_reducible refine Kq.call ?_ (by with_reducible assumption) | with_reducible refine Kt.drew ?_ | with_reducible refine Kt.alloc ?_ _ | with_reducible refine Kt.call ?_ (by with_reducible assumption))); have K14 : Kt (w9.heap.size) ((mapR h m1 m2 m3 m4 A B C).1) ((mapR h m1 m2 m3 m4 A B C).2.1) ((mapR h m1 m2 m3 m4 A B C).2.2.1) w14 := (by repeat (first | with_reducible assumption | with_reducible refine Kg.drew ?_ | with_reducible refine Kg.alloc ?_ _ | with_reducible refine Kg.call ?_ (by with_reducible assumption) | with_reducible refine Kq.drew ?_ | with_reducible refine Kq.alloc ?_ _ | with_reducible refine Kq.call ?_ (by with_reducible assumption) | with_reducible refine Kt.drew ?_ | with_reducible refine Kt.alloc ?_ _ | with_reducible refine Kt.call ?_ (by with_reducible assumption))); have I14 : Kt (w10.heap.size) ((mapR h m1 m2 m3 m4 A B C).1) ((mapR h m1 m2 m3 m4 A B C).2.1) ((mapR h m1 m2 m3 m4 A B C).2.2.1) w14 := (by repeat (first | with_reducible assumption | with_reducible refine Kg.drew ?_ | with_reducible refine Kg.alloc ?_ _ | with_reducible refine Kg.call ?_ (by with_reducible assumption) | with_reducible refine Kq.drew ?_ | with_reducible refine Kq.alloc ?_ _ | with_reducible refine Kq.call ?_ (by with_reducible assumption) | with_reducible refine Kt.drew ?_ | with_reducible refine Kt.alloc ?_ _ | with_reducible refine Kt.call ?_ (by with_reducible assumption))); have V14l := V14.1; have D14l := D14.1; have L14l := L14.1; have K14l := K14.1; have I14l := I14.1; have B14 : Below w.heap.size w w14 := (by repeat (first | with_reducible assumption | with_reducible refine Below.drew ?_ | with_reducible refine Below.alloc ?_ (by first | omega | (have := B10.size; simp <;> omega)) _ | with_reducible refine bstep ?_ (by with_reducible assumption)))))
      | (go_at_call 29; ((with_reducible refine (specIsFrameB_any _ _).mono ?_); rintro e w15 ⟨rfl, hb15⟩; have s15 := SRow.call (show SRow w1.heap.size w2.heap.size 4 v1 (pmL fr).length (intAt (cells4 (pmL fr))) _ from by repeat (first | with_reducible assumption | with_reducible refine SRow.drew ?_ | with_reducible refine SRow.alloc ?_ _ | with_reducible refine SRow.call ?_ (by with_reducible assumption))) hb15; have t15 := SRow.call (show SRow w2.heap.size w3.heap.size 4 v2 (pmL fr).length (intAt (cells4 (pmL fr))) _ from by repeat (first | with_reducible assumption | with_reducible refine SRow.drew ?_ | with_reducible refine SRow.alloc ?_ _ | with_reducible refine SRow.call ?_ (by with_reducible assumption))) hb15; have V15 : Kg (w4.heap.size) x y w15 := (by repeat (first | with_reducible assumption | with_reducible refine Kg.drew ?_ | with_reducible refine Kg.alloc ?_ _ | with_reducible refine Kg.call ?_ (by with_reducible assumption) | with_reducible refine Kq.drew ?_ | with_reducible refine Kq.alloc ?_ _ | with_reducible refine Kq.call ?_ (by with_reducible assumption) | with_reducible refine Kt.drew ?_ | with_reducible refine Kt.alloc ?_ _ | with_reducible refine Kt.call ?_ (by with_reducible assumption))); have D15 : Kq (w7.heap.size) a b c d w15 := (by repeat (first | with_reducible assumption | with_reducible refine Kg.drew ?_ | with_reducible refine Kg.alloc ?_ _ | with_reducible refine Kg.call ?_ (by with_reducible assumption) | with_reducible refine Kq.drew ?_ | with_reducible refine Kq.alloc ?_ _ | with_reducible refine Kq.call ?_ (by with_reducible assumption) | with_reducible refine Kt.drew ?_ | with_reducible refine Kt.alloc ?_ _ | with_reducible refine Kt.call ?_ (by with_reducible assumption))); have L15 : Kt (w8.heap.size + 1) A B C w15 := (by repeat (first | with_reducible assumption | with_reducible refine Kg.drew ?_ | with_reducible refine Kg.alloc ?_ _ | with_reducible refine Kg.call ?_ (by with_reducible assumption) | with_reducible refine Kq.drew ?_ | with_reducible refine Kq.alloc ?_ _ | with_reducible refine Kq.call ?_ (by with_reducible assumption) | with_reducible refine Kt.drew ?_ | with_reducible refine Kt.alloc ?_ _ | with_reducible refine Kt.call ?_ (by with_reducible assumption))); have K15 : Kt (w9.heap.size) ((mapR h m1 m2 m3 m4 A B C).1) ((mapR h m1 m2 m3 m4 A B C).2.1) ((mapR h m1 m2 m3 m4 A B C).2.2.1) w15 := (by repeat (first | with_reducible assumption | with_reducible refine Kg.drew ?_ | with_reducible refine Kg.alloc ?_ _ | with_reducible refine Kg.call ?_ (by with_reducible assumption) | with_reducible refine Kq.drew ?_ | with_reducible refine Kq.alloc ?_ _ | with_reducible refine Kq.call ?_ (by with_reducible assumption) | with_reducible refine Kt.drew ?_ | with_reducible refine Kt.alloc ?_ _ | with_reducible refine Kt.call ?_ (by with_reducible assumption))); have I15 : Kt (w10.heap.size) ((mapR h m1 m2 m3 m4 A B C).1) ((mapR h m1 m2 m3 m4 A B C).2.1) ((mapR h m1 m2 m3 m4 A B C).2.2.1) w15 := (by repeat (first | with_reducible assumption | with_reducible refine Kg.drew ?_ | with_reducible refine Kg.alloc ?_ _ | with_reducible refine Kg.call ?_ (by with_reducible assumption) | with_reducible refine Kq.drew ?_ | with_reducible refine Kq.alloc ?_ _ | with_reducible refine Kq.call ?_ (by with_reducible assumption) | with_reducible refine Kt.drew ?_ | with_reducible refine Kt.alloc ?_ _ | with_reducible refine Kt.call ?_ (by with_reducible assumption))); have V15l := V15.1; have D15l := D15.1; have L15l := L15.1; have K15l := K15.1; have I15l := I15.1; have B15 : Below w.heap.size w w15 := (by repeat (first | with_reducible assumption | with_reducible refine Below.drew ?_ | with_reducible refine Below.alloc ?_ (by first | omega | (have := B10.size; simp <;> omega)) _ | with_reducible refine bstep ?_ (by with_reducible assumption))))))
  all_goals
    clear D15 I15 s15 t15
    have V15c0 := V15.c0
    have V15c1 := V15.c1
    have V15l := V15.1
    have V15n : ¬ w4.heap.size = w15.heap.size := by omega
    have L15c0 := L15.c0
    have L15c1 := L15.c1
    have L15c2 := L15.c2
    have L15l := L15.1
    have L15n : ¬ w8.heap.size + 1 = w15.heap.size := by omega
    have K15c0 := K15.c0
    have K15c1 := K15.c1
    have K15c2 := K15.c2
    have K15l := K15.1
    have K15n : ¬ w9.heap.size = w15.heap.size := by omega
    by_cases h3 : (mapR h m1 m2 m3 m4 A B C).2.2.2 = 0
    · obtain ⟨hi, ⟨hi1, hi2⟩, hli⟩ := map_ix h3
      have h3b : ((mapR h m1 m2 m3 m4 A B C).2.2.2 == 0) = true := by simp [h3]
      have hwA : IntKind.i64.wrap (A * C) = A * C := IntWalk.i64_in _ (by omega)
      clear h3 hli hi1 hi2
      rcases hq : (frB f && vecB x y) with _ | _
      · have e1 : (norR f x y).2 = 1 := by simp [norR, hq]
        rw [e1]
        go_wp2
        go_ret
        exact ⟨rfl, B15⟩
      have e1 : norR f x y = (nrmI f x y, 0) := by simp [norR, hq]
      rw [e1]
      rw [Bool.and_eq_true] at hq
      obtain ⟨hf, hv⟩ := hq
      have HS := Lib.hid (fun (i : Nat) (h : i < (matsL f).length) => pm_app (x := x) (y := y) hf hv h)
      have HA := Lib.hid (fun (i : Nat) (h : i < (matsL f).length) => at49 h)
      have e2 : pmL f = matsL f := by simp [pmL, hf]
      have e3 : pmC f = 0 := by simp [pmC, hf]
      clear e1 hv
      go_wp2_with fail
      refine (implPm_any f _).mono ?_
      rintro e w30 ⟨v3, rfl, r30, hb30⟩
      rw [e2] at r30
      rw [e3]
      have V30 := V15.call hb30
      have B30 := bstep B15 hb30
      have hn2 : 1 < (matsL f).length := (mats_two hf).1
      obtain ⟨_, hmm, hr⟩ := r30
      obtain ⟨g5, c5, rfl, hlo, hhi, R30⟩ := hr.resolve_left (fun h => by omega)
      clear hr hb30 e2 e3 hf hn2 V15 B15 V10c0 V10c1 V10l V10n D10c0 D10c1 D10c2 D10c3 D10l D10n L10c0 L10c1 L10c2 L10l L10n K10c0 K10c1 K10c2 K10l K10n V15c0 V15c1 V15l V15n L15c0 L15c1 L15c2 L15l L15n K15c0 K15c1 K15c2 K15l K15n
      generalize matsL f = S at *
      have zV := V30.1
      skip
      go_wp2_with fail
      go_loopw [25] (fun i W => ∃ k : Nat, i = .int .i64 (k : Int) ∧ k ≤ S.length ∧ IRow g5 (S.length * 4) (intAt (cells4 S)) W ∧ Kg (w4.heap.size) x y W ∧ Below w.heap.size w W) (fun i _ => S.length - (intOf i).toNat)
      case atStart => exact ⟨0, rfl, by omega, R30, V30, B30⟩
      case round =>
        clear R30 V30 B30 zV
        obtain ⟨k, rfl, hk, hR, hV, hB⟩ := hrel
        by_cases hk1 : k < S.length
        · have hk2 : (k : Int) < (S.length : Int) := by omega
          have hmx := hmm
          have hx := HA.out k hk1
          have hs := HS.out k hk1
          have q := hR.ko4 (k * 4) (by omega)
          rw [hx.1, hx.2.1, hx.2.2.1, hx.2.2.2] at q
          generalize S[k].1 = a' at *
          generalize S[k].2.1 = b' at *
          generalize S[k].2.2.1 = c' at *
          generalize S[k].2.2.2 = d' at *
          clear hx
          obtain ⟨q0, q1, q2, q3⟩ := q.cells
          obtain ⟨l0, l1, l2⟩ := id hV
          have zq := q.1
          have zl := hV.1
          have zr := hR.1
          have zB := hB.size
          obtain ⟨pp, qq, kk, hA, hcase⟩ : ∃ pp qq kk : Int, appR a' b' c' d' x y = (pp, qq, kk) ∧ (kk = 3 ∨ (kk = 0 ∧ norR f pp qq = (nrmI f x y, 0))) := by
            rcases hs with ⟨_, h⟩ | ⟨p', q', h1, h2⟩
            · exact ⟨0, 0, 3, h, .inl rfl⟩
            · exact ⟨p', q', 0, h1, .inr ⟨rfl, h2⟩⟩
          have HAA := Lib.hid hA
          clear hs hA
          go_upto_region 1 with fail
          go_cut [26, 27] (fun s26 s27 wx => PmCut w g5 (S.length * 4) (w4.heap.size) (intAt (cells4 S)) x y pp qq kk s26 s27 wx)
          case first =>
            go_region_held3 (fun W => (W.cell? ⟨g5, k * 4, none⟩ = some (.int .i64 a') ∧ W.cell? ⟨g5, k * 4 + 1, none⟩ = some (.int .i64 b') ∧ W.cell? ⟨g5, k * 4 + 2, none⟩ = some (.int .i64 c') ∧ W.cell? ⟨g5, k * 4 + 3, none⟩ = some (.int .i64 d')) ∧ (W.cell? ⟨w4.heap.size, 0, none⟩ = some (.int .i64 x) ∧ W.cell? ⟨w4.heap.size, 1, none⟩ = some (.int .i64 y))) ((refine And.intro (Ko4.cells ?_) (Kg.cells ?_) <;> repeat (first | with_reducible assumption | with_reducible refine Kg.drew ?_ | with_reducible refine Kg.alloc ?_ _ | with_reducible refine Kg.call ?_ (by with_reducible assumption) | with_reducible refine Ko4.drew ?_ | with_reducible refine Ko4.alloc ?_ _ | with_reducible refine Ko4.call ?_ (by with_reducible assumption) | ((with_reducible refine Kg.far3 ?_ ?_); (first | omega | (dsimp only; omega))) | ((with_reducible refine Ko4.put5 ?_ ?_); (first | omega | (dsimp only; omega))))))
              (first
                | (go_at_call 30; ((with_reducible refine (implApp_any a' b' c' d' x y _).mono ?_); rintro e w42 ⟨he, hb42⟩; unfold vecV at he; rw [HAA.out] at he; subst he; have q42 : Ko4 g5 (k * 4) a' b' c' d' w42 := (by repeat (first | with_reducible assumption | with_reducible refine Kg.drew ?_ | with_reducible refine Kg.alloc ?_ _ | with_reducible refine Kg.call ?_ (by with_reducible assumption) | with_reducible refine Ko4.drew ?_ | with_reducible refine Ko4.alloc ?_ _ | with_reducible refine Ko4.call ?_ (by with_reducible assumption) | ((with_reducible refine Kg.far3 ?_ ?_); (first | omega | (dsimp only; omega))) | ((with_reducible refine Ko4.put5 ?_ ?_); (first | omega | (dsimp only; omega))))); have V42 : Kg (w4.heap.size) x y w42 := (by repeat (first | with_reducible assumption | with_reducible refine Kg.drew ?_ | with_reducible refine Kg.alloc ?_ _ | with_reducible refine Kg.call ?_ (by with_reducible assumption) | with_reducible refine Ko4.drew ?_ | with_reducible refine Ko4.alloc ?_ _ | with_reducible refine Ko4.call ?_ (by with_reducible assumption) | ((with_reducible refine Kg.far3 ?_ ?_); (first | omega | (dsimp only; omega))) | ((with_reducible refine Ko4.put5 ?_ ?_); (first | omega | (dsimp only; omega))))); have R42 : IRow g5 (S.length * 4) (intAt (cells4 S)) w42 := (by repeat (first | with_reducible assumption | with_reducible refine IRow.drewB ?_ | with_reducible refine IRow.allocB ?_ _ | with_reducible refine IRow.call ?_ (by with_reducible assumption) | ((with_reducible refine IRow.far3 ?_ ?_); (first | omega | (dsimp only; omega))))); have zq42 := q42.1; have zl42 := V42.1; have zr42 := R42.1; (try ((refine useIt (P := KW wr.heap.size 0 0 w42) ?_ ?_); (repeat (first | with_reducible assumption | (with_reducible exact KW.at _ (by first | with_reducible rfl | (simp; done) | fail)) | with_reducible refine KW.drew ?_ | with_reducible refine KW.alloc ?_ _ | with_reducible refine KW.call ?_ (by with_reducible assumption))); intro K42; have K42c0 := K42.c0; have K42c1 := K42.c1; have K42f0 := K42.f0; have K42f1 := K42.f1; have K42l := K42.lt)); have B42 : Below w.heap.size w w42 := (by repeat (first | with_reducible assumption | with_reducible exact Below.refl _ _ | with_reducible refine Below.setCell ?_ (by first | omega | (simp <;> omega)) _ | with_reducible refine Below.alloc ?_ (by first | omega | (simp <;> omega)) _ | with_reducible refine bstep ?_ (by with_reducible assumption) | with_reducible refine Below.drew ?_)); have zB42 := B42.size)))
            all_goals
              go_wp2_with fail
              go_meet
              exact ⟨_, rfl, rfl, (by first | (with_reducible exact KW.at _ (by first | with_reducible rfl | (simp; done) | fail)) | (with_reducible exact KW.store (by repeat (first | with_reducible assumption | (with_reducible exact KW.at _ (by first | with_reducible rfl | (simp; done) | fail)) | with_reducible refine KW.drew ?_ | with_reducible refine KW.alloc ?_ _ | with_reducible refine KW.call ?_ (by with_reducible assumption))) _ _) | fail), (by repeat (first | with_reducible assumption | with_reducible refine Kg.drew ?_ | with_reducible refine Kg.alloc ?_ _ | with_reducible refine Kg.call ?_ (by with_reducible assumption) | with_reducible refine Ko4.drew ?_ | with_reducible refine Ko4.alloc ?_ _ | with_reducible refine Ko4.call ?_ (by with_reducible assumption) | ((with_reducible refine Kg.far3 ?_ ?_); (first | omega | (dsimp only; omega))) | ((with_reducible refine Ko4.put5 ?_ ?_); (first | omega | (dsimp only; omega))))), (by repeat (first | with_reducible assumption | with_reducible refine IRow.drewB ?_ | with_reducible refine IRow.allocB ?_ _ | with_reducible refine IRow.call ?_ (by with_reducible assumption) | ((with_reducible refine IRow.far3 ?_ ?_); (first | omega | (dsimp only; omega))))), (by repeat (first | with_reducible assumption | with_reducible exact Below.refl _ _ | with_reducible refine Below.setCell ?_ (by first | omega | (simp <;> omega)) _ | with_reducible refine Below.alloc ?_ (by first | omega | (simp <;> omega)) _ | with_reducible refine bstep ?_ (by with_reducible assumption) | with_reducible refine Below.drew ?_))⟩
          case rest =>
            obtain ⟨g0, rfl, rfl, K43, V43, R43, B43⟩ := hcut
            clear hR hV hB q q0 q1 q2 q3 l0 l1 l2 zq zl zr zB HAA
            obtain ⟨k0, k1, k2, k3, k4⟩ := id K43
            rcases hcase with rfl | ⟨rfl, hN⟩
            · go_wp2
              go_roundw
              case rel => exact ⟨k + 1, by go_num, by omega, R43, V43, B43⟩
              case measure => first | (simp [intOf]; done) | (simp [intOf]; omega)
            · go_wp2_with fail
              refine (implNormOf_any f pp qq _).mono ?_
              rintro e w44 ⟨he, hb44⟩
              unfold norT at he
              rw [hN] at he
              subst he
              have R44 := R43.call hb44
              have V44 := V43.call hb44
              have B44 := bstep B43 hb44
              go_wp2
              go_roundw
              case rel => exact ⟨k + 1, by go_num, by omega, R44, V44, B44⟩
              case measure => first | (simp [intOf]; done) | (simp [intOf]; omega)
        · obtain rfl : k = S.length := by omega
          go_wp2
          go_ret
          exact ⟨rfl, hB⟩
    · have h3b : ((mapR h m1 m2 m3 m4 A B C).2.2.2 == 0) = false := by simp [h3]
      clear h3
      rcases hq : (frB f && vecB x y) with _ | _
      · have e1 : (norR f x y).2 = 1 := by simp [norR, hq]
        rw [e1]
        go_wp2
        go_ret
        exact ⟨rfl, B15⟩
      have e1 : norR f x y = (nrmI f x y, 0) := by simp [norR, hq]
      rw [e1]
      rw [Bool.and_eq_true] at hq
      obtain ⟨hf, hv⟩ := hq
      have HS := Lib.hid (fun (i : Nat) (h : i < (matsL f).length) => pm_app (x := x) (y := y) hf hv h)
      have HA := Lib.hid (fun (i : Nat) (h : i < (matsL f).length) => at49 h)
      have e2 : pmL f = matsL f := by simp [pmL, hf]
      have e3 : pmC f = 0 := by simp [pmC, hf]
      clear e1 hv
      go_wp2_with fail
      refine (implPm_any f _).mono ?_
      rintro e w30 ⟨v3, rfl, r30, hb30⟩
      rw [e2] at r30
      rw [e3]
      have V30 := V15.call hb30
      have B30 := bstep B15 hb30
      have hn2 : 1 < (matsL f).length := (mats_two hf).1
      obtain ⟨_, hmm, hr⟩ := r30
      obtain ⟨g5, c5, rfl, hlo, hhi, R30⟩ := hr.resolve_left (fun h => by omega)
      clear hr hb30 e2 e3 hf hn2 V15 B15 V10c0 V10c1 V10l V10n D10c0 D10c1 D10c2 D10c3 D10l D10n L10c0 L10c1 L10c2 L10l L10n K10c0 K10c1 K10c2 K10l K10n V15c0 V15c1 V15l V15n L15c0 L15c1 L15c2 L15l L15n K15c0 K15c1 K15c2 K15l K15n
      generalize matsL f = S at *
      have zV := V30.1
      skip
      go_wp2_with fail
      go_loopw [25] (fun i W => ∃ k : Nat, i = .int .i64 (k : Int) ∧ k ≤ S.length ∧ IRow g5 (S.length * 4) (intAt (cells4 S)) W ∧ Kg (w4.heap.size) x y W ∧ Below w.heap.size w W) (fun i _ => S.length - (intOf i).toNat)
      case atStart => exact ⟨0, rfl, by omega, R30, V30, B30⟩
      case round =>
        clear R30 V30 B30 zV
        obtain ⟨k, rfl, hk, hR, hV, hB⟩ := hrel
        by_cases hk1 : k < S.length
        · have hk2 : (k : Int) < (S.length : Int) := by omega
          have hmx := hmm
          have hx := HA.out k hk1
          have hs := HS.out k hk1
          have q := hR.ko4 (k * 4) (by omega)
          rw [hx.1, hx.2.1, hx.2.2.1, hx.2.2.2] at q
          generalize S[k].1 = a' at *
          generalize S[k].2.1 = b' at *
          generalize S[k].2.2.1 = c' at *
          generalize S[k].2.2.2 = d' at *
          clear hx
          obtain ⟨q0, q1, q2, q3⟩ := q.cells
          obtain ⟨l0, l1, l2⟩ := id hV
          have zq := q.1
          have zl := hV.1
          have zr := hR.1
          have zB := hB.size
          obtain ⟨pp, qq, kk, hA, hcase⟩ : ∃ pp qq kk : Int, appR a' b' c' d' x y = (pp, qq, kk) ∧ (kk = 3 ∨ (kk = 0 ∧ norR f pp qq = (nrmI f x y, 0))) := by
            rcases hs with ⟨_, h⟩ | ⟨p', q', h1, h2⟩
            · exact ⟨0, 0, 3, h, .inl rfl⟩
            · exact ⟨p', q', 0, h1, .inr ⟨rfl, h2⟩⟩
          have HAA := Lib.hid hA
          clear hs hA
          go_upto_region 1 with fail
          go_cut [26, 27] (fun s26 s27 wx => PmCut w g5 (S.length * 4) (w4.heap.size) (intAt (cells4 S)) x y pp qq kk s26 s27 wx)
          case first =>
            go_region_held3 (fun W => (W.cell? ⟨g5, k * 4, none⟩ = some (.int .i64 a') ∧ W.cell? ⟨g5, k * 4 + 1, none⟩ = some (.int .i64 b') ∧ W.cell? ⟨g5, k * 4 + 2, none⟩ = some (.int .i64 c') ∧ W.cell? ⟨g5, k * 4 + 3, none⟩ = some (.int .i64 d')) ∧ (W.cell? ⟨w4.heap.size, 0, none⟩ = some (.int .i64 x) ∧ W.cell? ⟨w4.heap.size, 1, none⟩ = some (.int .i64 y))) ((refine And.intro (Ko4.cells ?_) (Kg.cells ?_) <;> repeat (first | with_reducible assumption | with_reducible refine Kg.drew ?_ | with_reducible refine Kg.alloc ?_ _ | with_reducible refine Kg.call ?_ (by with_reducible assumption) | with_reducible refine Ko4.drew ?_ | with_reducible refine Ko4.alloc ?_ _ | with_reducible refine Ko4.call ?_ (by with_reducible assumption) | ((with_reducible refine Kg.far3 ?_ ?_); (first | omega | (dsimp only; omega))) | ((with_reducible refine Ko4.put5 ?_ ?_); (first | omega | (dsimp only; omega))))))
              (first
                | (go_at_call 30; ((with_reducible refine (implApp_any a' b' c' d' x y _).mono ?_); rintro e w42 ⟨he, hb42⟩; unfold vecV at he; rw [HAA.out] at he; subst he; have q42 : Ko4 g5 (k * 4) a' b' c' d' w42 := (by repeat (first | with_reducible assumption | with_reducible refine Kg.drew ?_ | with_reducible refine Kg.alloc ?_ _ | with_reducible refine Kg.call ?_ (by with_reducible assumption) | with_reducible refine Ko4.drew ?_ | with_reducible refine Ko4.alloc ?_ _ | with_reducible refine Ko4.call ?_ (by with_reducible assumption) | ((with_reducible refine Kg.far3 ?_ ?_); (first | omega | (dsimp only; omega))) | ((with_reducible refine Ko4.put5 ?_ ?_); (first | omega | (dsimp only; omega))))); have V42 : Kg (w4.heap.size) x y w42 := (by repeat (first | with_reducible assumption | with_reducible refine Kg.drew ?_ | with_reducible refine Kg.alloc ?_ _ | with_reducible refine Kg.call ?_ (by with_reducible assumption) | with_reducible refine Ko4.drew ?_ | with_reducible refine Ko4.alloc ?_ _ | with_reducible refine Ko4.call ?_ (by with_reducible assumption) | ((with_reducible refine Kg.far3 ?_ ?_); (first | omega | (dsimp only; omega))) | ((with_reducible refine Ko4.put5 ?_ ?_); (first | omega | (dsimp only; omega))))); have R42 : IRow g5 (S.length * 4) (intAt (cells4 S)) w42 := (by repeat (first | with_reducible assumption | with_reducible refine IRow.drewB ?_ | with_reducible refine IRow.allocB ?_ _ | with_reducible refine IRow.call ?_ (by with_reducible assumption) | ((with_reducible refine IRow.far3 ?_ ?_); (first | omega | (dsimp only; omega))))); have zq42 := q42.1; have zl42 := V42.1; have zr42 := R42.1; (try ((refine useIt (P := KW wr.heap.size 0 0 w42) ?_ ?_); (repeat (first | with_reducible assumption | (with_reducible exact KW.at _ (by first | with_reducible rfl | (simp; done) | fail)) | with_reducible refine KW.drew ?_ | with_reducible refine KW.alloc ?_ _ | with_reducible refine KW.call ?_ (by with_reducible assumption))); intro K42; have K42c0 := K42.c0; have K42c1 := K42.c1; have K42f0 := K42.f0; have K42f1 := K42.f1; have K42l := K42.lt)); have B42 : Below w.heap.size w w42 := (by repeat (first | with_reducible assumption | with_reducible exact Below.refl _ _ | with_reducible refine Below.setCell ?_ (by first | omega | (simp <;> omega)) _ | with_reducible refine Below.alloc ?_ (by first | omega | (simp <;> omega)) _ | with_reducible refine bstep ?_ (by with_reducible assumption) | with_reducible refine Below.drew ?_)); have zB42 := B42.size)))
            all_goals
              go_wp2_with fail
              go_meet
              exact ⟨_, rfl, rfl, (by first | (with_reducible exact KW.at _ (by first | with_reducible rfl | (simp; done) | fail)) | (with_reducible exact KW.store (by repeat (first | with_reducible assumption | (with_reducible exact KW.at _ (by first | with_reducible rfl | (simp; done) | fail)) | with_reducible refine KW.drew ?_ | with_reducible refine KW.alloc ?_ _ | with_reducible refine KW.call ?_ (by with_reducible assumption))) _ _) | fail), (by repeat (first | with_reducible assumption | with_reducible refine Kg.drew ?_ | with_reducible refine Kg.alloc ?_ _ | with_reducible refine Kg.call ?_ (by with_reducible assumption) | with_reducible refine Ko4.drew ?_ | with_reducible refine Ko4.alloc ?_ _ | with_reducible refine Ko4.call ?_ (by with_reducible assumption) | ((with_reducible refine Kg.far3 ?_ ?_); (first | omega | (dsimp only; omega))) | ((with_reducible refine Ko4.put5 ?_ ?_); (first | omega | (dsimp only; omega))))), (by repeat (first | with_reducible assumption | with_reducible refine IRow.drewB ?_ | with_reducible refine IRow.allocB ?_ _ | with_reducible refine IRow.call ?_ (by with_reducible assumption) | ((with_reducible refine IRow.far3 ?_ ?_); (first | omega | (dsimp only; omega))))), (by repeat (first | with_reducible assumption | with_reducible exact Below.refl _ _ | with_reducible refine Below.setCell ?_ (by first | omega | (simp <;> omega)) _ | with_reducible refine Below.alloc ?_ (by first | omega | (simp <;> omega)) _ | with_reducible refine bstep ?_ (by with_reducible assumption) | with_reducible refine Below.drew ?_))⟩
          case rest =>
            obtain ⟨g0, rfl, rfl, K43, V43, R43, B43⟩ := hcut
            clear hR hV hB q q0 q1 q2 q3 l0 l1 l2 zq zl zr zB HAA
            obtain ⟨k0, k1, k2, k3, k4⟩ := id K43
            rcases hcase with rfl | ⟨rfl, hN⟩
            · go_wp2
              go_roundw
              case rel => exact ⟨k + 1, by go_num, by omega, R43, V43, B43⟩
              case measure => first | (simp [intOf]; done) | (simp [intOf]; omega)
            · go_wp2_with fail
              refine (implNormOf_any f pp qq _).mono ?_
              rintro e w44 ⟨he, hb44⟩
              unfold norT at he
              rw [hN] at he
              subst he
              have R44 := R43.call hb44
              have V44 := V43.call hb44
              have B44 := bstep B43 hb44
              go_wp2
              go_roundw
              case rel => exact ⟨k + 1, by go_num, by omega, R44, V44, B44⟩
              case measure => first | (simp [intOf]; done) | (simp [intOf]; omega)
        · obtain rfl : k = S.length := by omega
          go_wp2
          go_ret
          exact ⟨rfl, hB⟩
end Go.Proofs.Ytapfjmmlogcmkaa
