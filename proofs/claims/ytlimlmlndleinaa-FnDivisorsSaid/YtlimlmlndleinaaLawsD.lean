/-
  The walk of the law FnDivisors: it returns true at every code and writes nothing that was there. Condition: the code's bytes can be read.
-/
import Derived.Test.YtlimlmlndleinaaDraws2
import Derived.Test.YtlimlmlndleinaaOps
import Derived.Test.YtlimlmlndleinaaPrim
namespace Go.Proofs.Ytlimlmlndleinaa
open Go.RowKit Go.ChangeShapes Go.WideShapes Go.ChangeAt
set_option linter.unusedSimpArgs false
set_option linter.unusedVariables false

def IsRow (k : IntKind) (w : World) (a : Option Addr) (len cap : Nat) (zs : List Int) : Prop :=
  (a = none ∧ len = 0 ∧ cap = 0 ∧ zs = []) ∨
  ∃ x, a = some x ∧ len ≤ cap ∧ cap ≤ maxLen ∧ zs.length = cap ∧ (∀ i, i < zs.length → w.cell? (x.add i) = some (.int k (zs.getD i 0))) ∧ ∀ n ∈ zs, (Lit.int k n).wf = true

theorem rowBts {w : World} {a0 : Option Addr} {len cap : Nat} {zs : List Int} (h : IsRow .u8 w a0 len cap zs) : Bts a0 len w.heap.size w := by
  rcases h with ⟨_, h, _, _⟩ | ⟨x, rfl, h1, h2, h3, h4, h5⟩
  · exact .inl h
  · by_cases h0 : len = 0
    · exact .inl h0
    · obtain ⟨b, off, rfl, hc⟩ := ints_at h4 (by omega)
      refine .inr ⟨b, off, rfl, World.block_lt_of_cell? _ _ (hc 0 (by omega)), fun i hi => ?_⟩
      have hb := bounds_u8 (h5 (zs.getD i 0) (by
        rw [List.getD_eq_getElem?_getD, List.getElem?_eq_getElem (by omega)]
        exact List.getElem_mem _))
      exact ⟨_, hb.1, hb.2, hc i (by omega)⟩

theorem div_ok {a b : Int} (h : (divR a b).2 = 0) : a.tmod (divR a b).1 = 0 ∧ b.tmod (divR a b).1 = 0 := by
  unfold divR at *
  cases h1 : inB a (-1000000) 1000000 && inB b (-1000000) 1000000
  · simp [h1] at h
  · simp only [h1, cond_true]
    exact ⟨Int.tmod_eq_zero_of_dvd (Int.gcd_dvd_left ..), Int.tmod_eq_zero_of_dvd (Int.gcd_dvd_right ..)⟩

theorem gcd_prim (x y : Int) (h : gcdI x y ≠ 0) : gcdI (x.tdiv (gcdI x y)) (y.tdiv (gcdI x y)) = 1 := by
  have h3 : gcdI x y = ((Nat.gcd x.natAbs y.natAbs : Nat) : Int) := rfl
  have h2 : 0 < Nat.gcd x.natAbs y.natAbs := by omega
  have e : (gcdI x y).natAbs = Nat.gcd x.natAbs y.natAbs := by rw [h3]; exact Int.natAbs_natCast _
  show ((Nat.gcd (Int.natAbs _) (Int.natAbs _) : Nat) : Int) = 1
  rw [Int.natAbs_tdiv, Int.natAbs_tdiv, e]
  show ((Nat.gcd (x.natAbs / _) (y.natAbs / _) : Nat) : Int) = 1
  rw [Nat.gcd_div (Nat.gcd_dvd_left _ _) (Nat.gcd_dvd_right _ _), Nat.div_self h2]
  rfl

theorem Kg.at {w : World} {a b : Int} {T : TypeId} (R : Nat) (hR : R = w.heap.size) : Kg R a b (w.alloc (.cells #[.int .i64 a, .int .i64 b] T)) := by
  subst hR
  refine ⟨by simp, ?_, ?_⟩ <;> simp [go_sem]

theorem prim_ok {x y : Int} (h : (primR x y).2.2.2 = 0) : scaleR (primR x y).1 (primR x y).2.1 (primR x y).2.2.1 = (x, y, 0) ∧ divR (primR x y).1 (primR x y).2.1 = (1, 0) := by
  unfold primR at *
  cases h1 : vecB x y
  · simp [h1] at h
  cases h2 : gcdI x y == 0
  · simp only [h1, h2, cond_true, cond_false]
    have h0 : gcdI x y ≠ 0 := by simpa using h2
    obtain ⟨⟨a1, a2⟩, a3, a4⟩ := vecB_bd h1
    have hd0 := gcdI_nonneg x y
    have hd2 := gcdI_le x y h0 a1 a2 a3 a4
    obtain ⟨t1, t2⟩ := tdiv_bd x (gcdI x y) a1 a2
    obtain ⟨t3, t4⟩ := tdiv_bd y (gcdI x y) a3 a4
    have m1 : x.tdiv (gcdI x y) * gcdI x y = x := Int.tdiv_mul_cancel (Int.gcd_dvd_left ..)
    have m2 : y.tdiv (gcdI x y) * gcdI x y = y := Int.tdiv_mul_cancel (Int.gcd_dvd_right ..)
    have v1 : vecB (x.tdiv (gcdI x y)) (y.tdiv (gcdI x y)) = true := by simp [vecB]; omega
    have v2 : inB (gcdI x y) (-1000) 1000 = true := by simp [inB]; omega
    have v3 : inB (x.tdiv (gcdI x y)) (-1000000) 1000000 = true := by simp [inB]; omega
    have v4 : inB (y.tdiv (gcdI x y)) (-1000000) 1000000 = true := by simp [inB]; omega
    exact ⟨by simp [scaleR, v1, v2, m1, m2, h1], by simp [divR, v3, v4, gcd_prim x y h0]⟩
  · simp [h1, h2] at h

set_option maxRecDepth 100000 in
set_option maxHeartbeats 2000000 in
theorem walkDivisors (a0 : Option Addr) (len cap : Nat) (zs : List Int) (w : World) (w0 : IsRow .u8 w a0 len cap zs) :
    Calls Try.prog 4 #[.slice a0 len cap] w fun e w' => e = .returned (.bool true) ∧ Below w.heap.size w w' := by
  by_cases hbig : 4096 < len
  · have hb1 : (4096 : Int) < (len : Int) := by omega
    have hb2 : len ≤ 9223372036854775807 := by
      rcases w0 with ⟨_, h, _, _⟩ | ⟨x, rfl, h1, h2, h3, h4, h5⟩
      · omega
      · unfold maxLen at h2; omega
    go_enter Try.func4, Try.ntmps4
    go_wp2
    go_ret
    exact ⟨rfl, Below.refl _ _⟩
  have hB := rowBts w0
  have hl : len ≤ 4096 := by omega
  clear w0
  go_enter Try.func4, Try.ntmps4
  go_wp2_with (go_at_call 12; go_in)
  refine (drawPrim_any a0 len cap _ (by omega) (hB.grow (Below.refl _ _) (by first | omega | (simp <;> omega)))).mono ?_
  rintro e w1 ⟨x, y, rfl, hb1⟩
  have B1 : Below w.heap.size w w1 := bstep (Below.refl _ _) hb1
  clear hb1
  go_wp2_with fail
  refine (implPrim_any _ _ _).mono ?_
  rintro e w2 ⟨he, hb2⟩
  unfold primV at he
  subst he
  have V_2 : Kg (w1.heap.size) x y w2 := Kg.call (Kg.at (w1.heap.size) (by simp) : Kg (w1.heap.size) x y _) hb2
  have B2 : Below w.heap.size w w2 := bstep (Below.alloc (B1) (by have := B1.size; first | omega | (simp <;> omega)) _) hb2
  clear hb2 B1
  have V_2c := V_2.c0
  have V_2d := V_2.c1
  have V_2l : w1.heap.size < w2.heap.size := V_2.1
  have V_2n : ¬ w1.heap.size = w2.heap.size := by omega
  go_wp2_with fail
  refine (specPrim_any _ _ _).mono ?_
  rintro e w3 ⟨he, hb3⟩
  unfold primV at he
  subst he
  have V_3 : Kg (w1.heap.size) x y w3 := Kg.call (Kg.alloc V_2 _) hb3
  have P_3 : Kg (w2.heap.size) (primR x y).1 (primR x y).2.1 w3 := Kg.call (Kg.at (w2.heap.size) (by simp) : Kg (w2.heap.size) (primR x y).1 (primR x y).2.1 _) hb3
  have B3 : Below w.heap.size w w3 := bstep (Below.alloc (B2) (by have := B2.size; first | omega | (simp <;> omega)) _) hb3
  clear hb3 V_2 B2 V_2c V_2d V_2l V_2n
  have V_3c := V_3.c0
  have V_3d := V_3.c1
  have V_3l : w1.heap.size < w3.heap.size := V_3.1
  have V_3n : ¬ w1.heap.size = w3.heap.size := by omega
  have P_3c := P_3.c0
  have P_3d := P_3.c1
  have P_3l : w2.heap.size < w3.heap.size := P_3.1
  have P_3n : ¬ w2.heap.size = w3.heap.size := by omega
  go_wp2_with fail
  refine (drawDiv_any a0 len cap _ (by omega) (hB.grow (Below.alloc (B3) (by have := B3.size; first | omega | (simp <;> omega)) _) (by have := B3.size; first | omega | (simp <;> omega)))).mono ?_
  rintro e w4 ⟨a, b, rfl, hb4⟩
  have V_4 : Kg (w1.heap.size) x y w4 := Kg.call (Kg.alloc V_3 _) hb4
  have P_4 : Kg (w2.heap.size) (primR x y).1 (primR x y).2.1 w4 := Kg.call (Kg.alloc P_3 _) hb4
  have M_4 : Kg (w3.heap.size) (primR x y).1 (primR x y).2.1 w4 := Kg.call (Kg.at (w3.heap.size) (by simp) : Kg (w3.heap.size) (primR x y).1 (primR x y).2.1 _) hb4
  have B4 : Below w.heap.size w w4 := bstep (Below.alloc (B3) (by have := B3.size; first | omega | (simp <;> omega)) _) hb4
  clear hb4 V_3 P_3 B3 V_3c V_3d V_3l V_3n P_3c P_3d P_3l P_3n
  have V_4c := V_4.c0
  have V_4d := V_4.c1
  have V_4l : w1.heap.size < w4.heap.size := V_4.1
  have V_4n : ¬ w1.heap.size = w4.heap.size := by omega
  have P_4c := P_4.c0
  have P_4d := P_4.c1
  have P_4l : w2.heap.size < w4.heap.size := P_4.1
  have P_4n : ¬ w2.heap.size = w4.heap.size := by omega
  have M_4c := M_4.c0
  have M_4d := M_4.c1
  have M_4l : w3.heap.size < w4.heap.size := M_4.1
  have M_4n : ¬ w3.heap.size = w4.heap.size := by omega
  go_wp2_with fail
  refine (implDiv_any _ _ _).mono ?_
  rintro e w5 ⟨he, hb5⟩
  unfold divV at he
  subst he
  have V_5 : Kg (w1.heap.size) x y w5 := Kg.call V_4 hb5
  have P_5 : Kg (w2.heap.size) (primR x y).1 (primR x y).2.1 w5 := Kg.call P_4 hb5
  have M_5 : Kg (w3.heap.size) (primR x y).1 (primR x y).2.1 w5 := Kg.call M_4 hb5
  have B5 : Below w.heap.size w w5 := bstep (B4) hb5
  clear hb5 V_4 P_4 M_4 B4 V_4c V_4d V_4l V_4n P_4c P_4d P_4l P_4n M_4c M_4d M_4l M_4n
  have V_5c := V_5.c0
  have V_5d := V_5.c1
  have V_5l : w1.heap.size < w5.heap.size := V_5.1
  have V_5n : ¬ w1.heap.size = w5.heap.size := by omega
  have P_5c := P_5.c0
  have P_5d := P_5.c1
  have P_5l : w2.heap.size < w5.heap.size := P_5.1
  have P_5n : ¬ w2.heap.size = w5.heap.size := by omega
  have M_5c := M_5.c0
  have M_5d := M_5.c1
  have M_5l : w3.heap.size < w5.heap.size := M_5.1
  have M_5n : ¬ w3.heap.size = w5.heap.size := by omega
  go_wp2_with fail
  refine (specDiv_any _ _ _).mono ?_
  rintro e w6 ⟨he, hb6⟩
  unfold divV at he
  subst he
  have V_6 : Kg (w1.heap.size) x y w6 := Kg.call V_5 hb6
  have P_6 : Kg (w2.heap.size) (primR x y).1 (primR x y).2.1 w6 := Kg.call P_5 hb6
  have M_6 : Kg (w3.heap.size) (primR x y).1 (primR x y).2.1 w6 := Kg.call M_5 hb6
  have B6 : Below w.heap.size w w6 := bstep (B5) hb6
  clear hb6 V_5 P_5 M_5 B5 V_5c V_5d V_5l V_5n P_5c P_5d P_5l P_5n M_5c M_5d M_5l M_5n
  have V_6c := V_6.c0
  have V_6d := V_6.c1
  have V_6l : w1.heap.size < w6.heap.size := V_6.1
  have V_6n : ¬ w1.heap.size = w6.heap.size := by omega
  have P_6c := P_6.c0
  have P_6d := P_6.c1
  have P_6l : w2.heap.size < w6.heap.size := P_6.1
  have P_6n : ¬ w2.heap.size = w6.heap.size := by omega
  have M_6c := M_6.c0
  have M_6d := M_6.c1
  have M_6l : w3.heap.size < w6.heap.size := M_6.1
  have M_6n : ¬ w3.heap.size = w6.heap.size := by omega
  have hd : (divR a b).2 = 0 ∧ 0 < (divR a b).1 ∨ (divR a b).2 = 0 ∧ (divR a b).1 ≤ 0 ∨ ¬ (divR a b).2 = 0 := by omega
  by_cases hbad : (primR x y).2.2.2 = 0
  · obtain ⟨hs, hv⟩ := prim_ok hbad
    have HS := Lib.hid hs
    have HV := Lib.hid hv
    have hbb : ((primR x y).2.2.2 != 0) = false := by simp [hbad]
    clear hs hv hbad
    rcases hd with ⟨d1, d2⟩ | ⟨d1, d2⟩ | d1
    · have e1 := (div_ok d1).1
      have e2 := (div_ok d1).2
      go_wp2_with fail
      refine (implScale_any _ _ _ _).mono ?_
      rintro e w7 ⟨he, hb7⟩
      unfold scaleV at he
      rw [HS.out] at he
      subst he
      have V_7 : Kg (w1.heap.size) x y w7 := Kg.call V_6 hb7
      have P_7 : Kg (w2.heap.size) (primR x y).1 (primR x y).2.1 w7 := Kg.call P_6 hb7
      have M_7 : Kg (w3.heap.size) (primR x y).1 (primR x y).2.1 w7 := Kg.call M_6 hb7
      have B7 : Below w.heap.size w w7 := bstep (B6) hb7
      clear hb7 V_6 P_6 M_6 B6 V_6c V_6d V_6l V_6n P_6c P_6d P_6l P_6n M_6c M_6d M_6l M_6n
      have V_7c := V_7.c0
      have V_7d := V_7.c1
      have V_7l : w1.heap.size < w7.heap.size := V_7.1
      have V_7n : ¬ w1.heap.size = w7.heap.size := by omega
      have P_7c := P_7.c0
      have P_7d := P_7.c1
      have P_7l : w2.heap.size < w7.heap.size := P_7.1
      have P_7n : ¬ w2.heap.size = w7.heap.size := by omega
      have M_7c := M_7.c0
      have M_7d := M_7.c1
      have M_7l : w3.heap.size < w7.heap.size := M_7.1
      have M_7n : ¬ w3.heap.size = w7.heap.size := by omega
      go_wp2_with fail
      refine (implDiv_any _ _ _).mono ?_
      rintro e w8 ⟨he, hb8⟩
      unfold divV at he
      rw [HV.out] at he
      subst he
      have V_8 : Kg (w1.heap.size) x y w8 := Kg.call (Kg.alloc V_7 _) hb8
      have P_8 : Kg (w2.heap.size) (primR x y).1 (primR x y).2.1 w8 := Kg.call (Kg.alloc P_7 _) hb8
      have M_8 : Kg (w3.heap.size) (primR x y).1 (primR x y).2.1 w8 := Kg.call (Kg.alloc M_7 _) hb8
      have Q_8 : Kg (w7.heap.size) x y w8 := Kg.call (Kg.at (w7.heap.size) (by simp) : Kg (w7.heap.size) x y _) hb8
      have B8 : Below w.heap.size w w8 := bstep (Below.alloc (B7) (by have := B7.size; first | omega | (simp <;> omega)) _) hb8
      clear hb8 V_7 P_7 M_7 B7 V_7c V_7d V_7l V_7n P_7c P_7d P_7l P_7n M_7c M_7d M_7l M_7n
      have V_8c := V_8.c0
      have V_8d := V_8.c1
      have V_8l : w1.heap.size < w8.heap.size := V_8.1
      have V_8n : ¬ w1.heap.size = w8.heap.size := by omega
      have P_8c := P_8.c0
      have P_8d := P_8.c1
      have P_8l : w2.heap.size < w8.heap.size := P_8.1
      have P_8n : ¬ w2.heap.size = w8.heap.size := by omega
      have M_8c := M_8.c0
      have M_8d := M_8.c1
      have M_8l : w3.heap.size < w8.heap.size := M_8.1
      have M_8n : ¬ w3.heap.size = w8.heap.size := by omega
      have Q_8c := Q_8.c0
      have Q_8d := Q_8.c1
      have Q_8l : w7.heap.size < w8.heap.size := Q_8.1
      have Q_8n : ¬ w7.heap.size = w8.heap.size := by omega
      go_wp2
      go_ret
      exact ⟨rfl, B8⟩
    · go_wp2_with fail
      refine (implScale_any _ _ _ _).mono ?_
      rintro e w7 ⟨he, hb7⟩
      unfold scaleV at he
      rw [HS.out] at he
      subst he
      have V_7 : Kg (w1.heap.size) x y w7 := Kg.call V_6 hb7
      have P_7 : Kg (w2.heap.size) (primR x y).1 (primR x y).2.1 w7 := Kg.call P_6 hb7
      have M_7 : Kg (w3.heap.size) (primR x y).1 (primR x y).2.1 w7 := Kg.call M_6 hb7
      have B7 : Below w.heap.size w w7 := bstep (B6) hb7
      clear hb7 V_6 P_6 M_6 B6 V_6c V_6d V_6l V_6n P_6c P_6d P_6l P_6n M_6c M_6d M_6l M_6n
      have V_7c := V_7.c0
      have V_7d := V_7.c1
      have V_7l : w1.heap.size < w7.heap.size := V_7.1
      have V_7n : ¬ w1.heap.size = w7.heap.size := by omega
      have P_7c := P_7.c0
      have P_7d := P_7.c1
      have P_7l : w2.heap.size < w7.heap.size := P_7.1
      have P_7n : ¬ w2.heap.size = w7.heap.size := by omega
      have M_7c := M_7.c0
      have M_7d := M_7.c1
      have M_7l : w3.heap.size < w7.heap.size := M_7.1
      have M_7n : ¬ w3.heap.size = w7.heap.size := by omega
      go_wp2_with fail
      refine (implDiv_any _ _ _).mono ?_
      rintro e w8 ⟨he, hb8⟩
      unfold divV at he
      rw [HV.out] at he
      subst he
      have V_8 : Kg (w1.heap.size) x y w8 := Kg.call (Kg.alloc V_7 _) hb8
      have P_8 : Kg (w2.heap.size) (primR x y).1 (primR x y).2.1 w8 := Kg.call (Kg.alloc P_7 _) hb8
      have M_8 : Kg (w3.heap.size) (primR x y).1 (primR x y).2.1 w8 := Kg.call (Kg.alloc M_7 _) hb8
      have Q_8 : Kg (w7.heap.size) x y w8 := Kg.call (Kg.at (w7.heap.size) (by simp) : Kg (w7.heap.size) x y _) hb8
      have B8 : Below w.heap.size w w8 := bstep (Below.alloc (B7) (by have := B7.size; first | omega | (simp <;> omega)) _) hb8
      clear hb8 V_7 P_7 M_7 B7 V_7c V_7d V_7l V_7n P_7c P_7d P_7l P_7n M_7c M_7d M_7l M_7n
      have V_8c := V_8.c0
      have V_8d := V_8.c1
      have V_8l : w1.heap.size < w8.heap.size := V_8.1
      have V_8n : ¬ w1.heap.size = w8.heap.size := by omega
      have P_8c := P_8.c0
      have P_8d := P_8.c1
      have P_8l : w2.heap.size < w8.heap.size := P_8.1
      have P_8n : ¬ w2.heap.size = w8.heap.size := by omega
      have M_8c := M_8.c0
      have M_8d := M_8.c1
      have M_8l : w3.heap.size < w8.heap.size := M_8.1
      have M_8n : ¬ w3.heap.size = w8.heap.size := by omega
      have Q_8c := Q_8.c0
      have Q_8d := Q_8.c1
      have Q_8l : w7.heap.size < w8.heap.size := Q_8.1
      have Q_8n : ¬ w7.heap.size = w8.heap.size := by omega
      go_wp2
      go_ret
      exact ⟨rfl, B8⟩
    · go_wp2_with fail
      refine (implScale_any _ _ _ _).mono ?_
      rintro e w7 ⟨he, hb7⟩
      unfold scaleV at he
      rw [HS.out] at he
      subst he
      have V_7 : Kg (w1.heap.size) x y w7 := Kg.call V_6 hb7
      have P_7 : Kg (w2.heap.size) (primR x y).1 (primR x y).2.1 w7 := Kg.call P_6 hb7
      have M_7 : Kg (w3.heap.size) (primR x y).1 (primR x y).2.1 w7 := Kg.call M_6 hb7
      have B7 : Below w.heap.size w w7 := bstep (B6) hb7
      clear hb7 V_6 P_6 M_6 B6 V_6c V_6d V_6l V_6n P_6c P_6d P_6l P_6n M_6c M_6d M_6l M_6n
      have V_7c := V_7.c0
      have V_7d := V_7.c1
      have V_7l : w1.heap.size < w7.heap.size := V_7.1
      have V_7n : ¬ w1.heap.size = w7.heap.size := by omega
      have P_7c := P_7.c0
      have P_7d := P_7.c1
      have P_7l : w2.heap.size < w7.heap.size := P_7.1
      have P_7n : ¬ w2.heap.size = w7.heap.size := by omega
      have M_7c := M_7.c0
      have M_7d := M_7.c1
      have M_7l : w3.heap.size < w7.heap.size := M_7.1
      have M_7n : ¬ w3.heap.size = w7.heap.size := by omega
      go_wp2_with fail
      refine (implDiv_any _ _ _).mono ?_
      rintro e w8 ⟨he, hb8⟩
      unfold divV at he
      rw [HV.out] at he
      subst he
      have V_8 : Kg (w1.heap.size) x y w8 := Kg.call (Kg.alloc V_7 _) hb8
      have P_8 : Kg (w2.heap.size) (primR x y).1 (primR x y).2.1 w8 := Kg.call (Kg.alloc P_7 _) hb8
      have M_8 : Kg (w3.heap.size) (primR x y).1 (primR x y).2.1 w8 := Kg.call (Kg.alloc M_7 _) hb8
      have Q_8 : Kg (w7.heap.size) x y w8 := Kg.call (Kg.at (w7.heap.size) (by simp) : Kg (w7.heap.size) x y _) hb8
      have B8 : Below w.heap.size w w8 := bstep (Below.alloc (B7) (by have := B7.size; first | omega | (simp <;> omega)) _) hb8
      clear hb8 V_7 P_7 M_7 B7 V_7c V_7d V_7l V_7n P_7c P_7d P_7l P_7n M_7c M_7d M_7l M_7n
      have V_8c := V_8.c0
      have V_8d := V_8.c1
      have V_8l : w1.heap.size < w8.heap.size := V_8.1
      have V_8n : ¬ w1.heap.size = w8.heap.size := by omega
      have P_8c := P_8.c0
      have P_8d := P_8.c1
      have P_8l : w2.heap.size < w8.heap.size := P_8.1
      have P_8n : ¬ w2.heap.size = w8.heap.size := by omega
      have M_8c := M_8.c0
      have M_8d := M_8.c1
      have M_8l : w3.heap.size < w8.heap.size := M_8.1
      have M_8n : ¬ w3.heap.size = w8.heap.size := by omega
      have Q_8c := Q_8.c0
      have Q_8d := Q_8.c1
      have Q_8l : w7.heap.size < w8.heap.size := Q_8.1
      have Q_8n : ¬ w7.heap.size = w8.heap.size := by omega
      go_wp2
      go_ret
      exact ⟨rfl, B8⟩
  · have hbb : ((primR x y).2.2.2 != 0) = true := by simp [hbad]
    clear hbad
    rcases hd with ⟨d1, d2⟩ | ⟨d1, d2⟩ | d1
    · have e1 := (div_ok d1).1
      have e2 := (div_ok d1).2
      go_wp2
      go_ret
      exact ⟨rfl, B6⟩
    · go_wp2
      go_ret
      exact ⟨rfl, B6⟩
    · go_wp2
      go_ret
      exact ⟨rfl, B6⟩

end Go.Proofs.Ytlimlmlndleinaa
