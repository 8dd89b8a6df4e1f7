/-
  The draws of chapter 2 (the model's l02DrawFinite and l02Draw): each returns some matrix and turns nothing that was there but the source. Condition: the code's bytes can be read.
-/
import Derived.Test.YtpdekopmnchanabGreatDoorDraw
import Derived.Test.YtpdekopmnchanabGreatDoorMat4
import Derived.RegionTactic
import Derived.Deep.RegionWith
namespace Go.Proofs.YtpdekopmnchanabGreatDoor
open Go.RowKit
set_option linter.unusedSimpArgs false
set_option linter.unusedVariables false

def SomeMat (w : World) (e : Ending) (w' : World) : Prop := ∃ a b c d : Int, e = .returned (.agg #[.int .i64 a, .int .i64 b, .int .i64 c, .int .i64 d]) ∧ Below w.heap.size w w'

theorem KR.only {R p : Nat} {a b c d : Int} {W w1 : World} (h : KR R a b c d W) (hb : Only p W w1) (hp : R ≠ p) : KR R a b c d w1 :=
  ⟨Nat.lt_of_lt_of_le h.lt hb.size, by rw [hb.cell h.lt hp]; exact h.c0, by rw [hb.cell h.lt hp]; exact h.c1, by rw [hb.cell h.lt hp]; exact h.c2, by rw [hb.cell h.lt hp]; exact h.c3, by rw [hb.frozen h.lt hp]; exact h.f0, by rw [hb.frozen h.lt hp]; exact h.f1, by rw [hb.frozen h.lt hp]; exact h.f2, by rw [hb.frozen h.lt hp]; exact h.f3⟩
theorem KR.far {R : Nat} {a b c d : Int} {W : World} {q : Addr} {u : Value} (hq : q.block ≠ R) (h : KR R a b c d W) : KR R a b c d (W.setCell q u) :=
  h.only ((Only.refl q.block W).setCell rfl u) (Ne.symm hq)
def MatPost (p : Nat) (a0 : Option Addr) (len cap : Nat) (w : World) (e : Ending) (w' : World) : Prop :=
  ∃ a b c d : Int, e = .returned (.agg #[.int .i64 a, .int .i64 b, .int .i64 c, .int .i64 d]) ∧ Src p a0 len cap w' ∧ Only p w w'

set_option maxHeartbeats 1000000 in
theorem mul_some (a b c d a' b' c' d' : Int) (w : World) : Calls Tryz.prog 68 #[.agg #[.int .i64 a, .int .i64 b, .int .i64 c, .int .i64 d], .agg #[.int .i64 a', .int .i64 b', .int .i64 c', .int .i64 d']] w (SomeMat w) := by
  go_enter Tryz.func68, Tryz.ntmps68
  go_wp2
  refine bodyPost_ret (v := .agg #[.int .i64 _, .int .i64 _, .int .i64 _, .int .i64 _]) (by simp [results, Tryz.results68, go_sem]; exact ⟨rfl, rfl, rfl, rfl⟩) rfl ⟨_, _, _, _, rfl, ?_⟩
  repeat (first | exact Below.refl _ _ | refine Below.setCell ?_ (by first | omega | (simp <;> omega)) _ | refine Below.alloc ?_ (by first | omega | (simp <;> omega)) _ | refine bstep ?_ (by assumption) | refine Below.drew ?_)

set_option maxHeartbeats 1000000 in
theorem det_some (a b c d : Int) (w : World) : Calls Tryz.prog 51 #[.agg #[.int .i64 a, .int .i64 b, .int .i64 c, .int .i64 d]] w fun e w' => ∃ t : Int, e = .returned (.int .i64 t) ∧ Below w.heap.size w w' := by
  go_enter Tryz.func51, Tryz.ntmps51
  go_wp2
  go_ret
  refine ⟨_, rfl, ?_⟩
  repeat (first | exact Below.refl _ _ | refine Below.setCell ?_ (by first | omega | (simp <;> omega)) _ | refine Below.alloc ?_ (by first | omega | (simp <;> omega)) _ | refine bstep ?_ (by assumption) | refine Below.drew ?_)

set_option maxHeartbeats 1000000 in
theorem inv_some (a b c d : Int) (w : World) : Calls Tryz.prog 70 #[.agg #[.int .i64 a, .int .i64 b, .int .i64 c, .int .i64 d]] w (SomeMat w) := by
  go_enter Tryz.func70, Tryz.ntmps70
  go_wp2_with fail
  refine (det_some _ _ _ _ _).mono ?_
  rintro e w1 ⟨t, rfl, hb1⟩
  obtain ⟨hc1, hf1⟩ := bcell hb1
  obtain ⟨hz1a, hz1b⟩ : w.heap.size < w1.heap.size ∧ w.heap.size + 1 < w1.heap.size := by have := hb1.size; (try simp at this); omega
  go_wp2
  refine bodyPost_ret (v := .agg #[.int .i64 _, .int .i64 _, .int .i64 _, .int .i64 _]) (by simp [results, Tryz.results70, go_sem, hc1, hz1a, hz1b]; exact ⟨rfl, rfl, rfl, rfl⟩) rfl ⟨_, _, _, _, rfl, ?_⟩
  repeat (first | exact Below.refl _ _ | refine Below.setCell ?_ (by first | omega | (simp <;> omega)) _ | refine Below.alloc ?_ (by first | omega | (simp <;> omega)) _ | refine bstep ?_ (by assumption) | refine Below.drew ?_)

/- behind the choice: the matrix lies in a block of its own -/
def FinMid (p : Nat) (a0 : Option Addr) (len cap : Nat) (w : World) (s3 : Value) (wx : World) : Prop :=
  ∃ (g : Nat) (a b c d : Int), s3 = .pointer (some ⟨g, 0, none⟩) ∧ w.heap.size < g ∧ KR g a b c d wx ∧ KR w.heap.size 0 0 0 0 wx ∧ Src p a0 len cap wx ∧ Only p w wx
def FinRel (p : Nat) (a0 : Option Addr) (len cap : Nat) (w : World) (g : Nat) (s4 : Value) (wx : World) : Prop :=
  ∃ (k : Nat) (a b c d : Int), s4 = .int .i64 k ∧ k ≤ 100 ∧ KR g a b c d wx ∧ KR w.heap.size 0 0 0 0 wx ∧ Src p a0 len cap wx ∧ Only p w wx

set_option maxHeartbeats 4000000 in
theorem drawFinite_any (p : Nat) (a0 : Option Addr) (len cap : Nat) (w : World) (h : Src p a0 len cap w) :
    Calls Tryz.prog 38 #[.pointer (some ⟨p, 0, none⟩)] w (MatPost p a0 len cap w) := by
  have hp := h.lt
  go_enter Tryz.func38, Tryz.ntmps38
  go_upto_region 1 with fail
  go_cut [3] (fun s3 wx => FinMid p a0 len cap w s3 wx)
  case first =>
    go_wp2_with fail
    refine (next_any _ p a0 len cap _ ((h.alloc _).alloc _)).mono ?_
    rintro e w1 ⟨x, rfl, x0, x1, S1, O1⟩
    have x2 : x < 8 := x1 (by omega)
    have R1 : KR w.heap.size 0 0 0 0 w1 := KR.only (KR.alloc (KR.at _ rfl) _) O1 (by omega)
    have hcell : ∀ i, w1.cell? ⟨w.heap.size + 1, i, none⟩ = _ := fun i => O1.cell (q := ⟨w.heap.size + 1, i, none⟩) (by simp) (by show w.heap.size + 1 ≠ p; omega)
    have hs1 : w.heap.size + 1 < w1.heap.size := by have := O1.size; simp at this; omega
    have O1' : Only p w w1 := (((Only.refl _ _).alloc _).alloc _).trans O1
    clear x1 O1
    obtain rfl | rfl | rfl | rfl | rfl | rfl | rfl | rfl : x = 0 ∨ x = 1 ∨ x = 2 ∨ x = 3 ∨ x = 4 ∨ x = 5 ∨ x = 6 ∨ x = 7 := by omega
    all_goals
      go_wp2_with fail
      go_meet
      exact ⟨_, _, _, _, _, rfl, by omega, KR.at _ rfl, R1.alloc _, S1.alloc _, O1'.alloc _⟩
  case rest =>
    obtain ⟨g, a, b, c, d, rfl, hg, RG, RR, S0, O0⟩ := hcut
    go_wp2_with fail
    refine (next_any _ p a0 len cap _ S0).mono ?_
    rintro e w1 ⟨k, rfl, k0, k1, S1, O1⟩
    have RG1 := RG.only O1 (by omega)
    have RR1 := RR.only O1 (by omega)
    have O1' := O0.trans O1
    have hk : k ≤ 100 := by have := k1 (by omega); omega
    obtain ⟨k, rfl⟩ := Int.eq_ofNat_of_zero_le k0
    have hk' : k ≤ 100 := by omega
    clear k0 k1 O1 O0 S0 RG RR hk
    go_wp2_with fail
    go_loopw [4] (fun i W => FinRel p a0 len cap w g i W) (fun i _ => (intOf i).toNat)
    case atStart => exact ⟨k, a, b, c, d, rfl, hk', RG1, RR1, S1, O1'⟩
    case round =>
      clear RG1 RR1 S1 O1' hk'
      obtain ⟨k, a, b, c, d, rfl, hk100, RG, RR, S0, O0⟩ := hrel
      obtain ⟨c0, c1, c2, c3, c4, c5, c6, c7, c8⟩ := id RG
      obtain ⟨d0, d1, d2, d3, d4, d5, d6, d7, d8⟩ := id RR
      by_cases hk : k = 0
      · subst hk
        have ng : ¬ w.heap.size = g := by omega
        go_wp2
        refine bodyPost_ret (v := .agg #[.int .i64 a, .int .i64 b, .int .i64 c, .int .i64 d]) (by simp [results, Tryz.results38, go_sem, *]) rfl ⟨a, b, c, d, rfl, ?_, ?_⟩
        · exact Src.put hp (Src.put hp (Src.put hp (Src.put hp S0)))
        · exact (((O0.put (Nat.le_refl _) _).put (Nat.le_refl _) _).put (Nat.le_refl _) _).put (Nat.le_refl _) _
      · have hk1 : (0 : Int) < (k : Int) := by omega
        clear c0 c1 c2 c3 c4 c5 c6 c7 c8 d0 d1 d2 d3 d4 d5 d6 d7 d8
        go_wp2_with fail
        refine (next_any _ p a0 len cap _ S0).mono ?_
        rintro e w2 ⟨x2, rfl, y2, z2, S2, O2⟩
        have RG2 := RG.only O2 (by omega)
        have RR2 := RR.only O2 (by omega)
        have O2' := O0.trans O2
        clear y2 z2 S0 RG RR O0 O2
        go_wp2_with fail
        refine (next_any _ p a0 len cap _ (S2.alloc _)).mono ?_
        rintro e w3 ⟨x3, rfl, y3, z3, S3, O3⟩
        have hw2 : w.heap.size < w2.heap.size := RR2.lt
        have RT3 : KR w2.heap.size 1 (wrap64 (x2 - 2)) 0 1 w3 := KR.only (KR.at _ rfl) O3 (by omega)
        have RG3 := (RG2.alloc _).only O3 (by omega)
        have RR3 := (RR2.alloc _).only O3 (by omega)
        have O3' := (O2'.alloc _).trans O3
        clear y3 z3 S2 O2' O3
        rcases hx3 : x3 == 0 with _ | _
        · have QT := RT3.kq
          have QG := RG3.kq
          have hgt : w.heap.size < w2.heap.size := by have := RG2.lt; have := RR2.lt; omega
          have ngt : w2.heap.size ≠ g := by have := RG2.lt; omega
          go_wp2_with fail
          obtain ⟨ta, tb, tc, td⟩ := QT.cells
          obtain ⟨ga, gb, gc, gd, ge, gf, gg, gh, gi⟩ := id RG3
          go_region_with
            (first
              | (go_at_call_of 68 (Value.agg #[Value.int IntKind.i64 a, Value.int IntKind.i64 b, Value.int IntKind.i64 c, Value.int IntKind.i64 d]); refine (mul_some _ _ _ _ _ _ _ _ _).mono ?_; rintro e u11 ⟨p11, q11, r11, s11, rfl, hb11⟩; have QT11 : Kq w2.heap.size 1 (wrap64 (x2 - 2)) 0 1 u11 := (by repeat (first | assumption | with_reducible refine Kq.alloc ?_ _ | with_reducible refine Kq.drew ?_ | with_reducible refine Kq.call ?_ (by assumption) | ((with_reducible refine Kq.far ?_ ?_); (dsimp only; omega)))); have QG11 : Kq g a b c d u11 := (by repeat (first | assumption | with_reducible refine Kq.alloc ?_ _ | with_reducible refine Kq.drew ?_ | with_reducible refine Kq.call ?_ (by assumption) | ((with_reducible refine Kq.far ?_ ?_); (dsimp only; omega)))); have KG11 : KR g a b c d u11 := (by repeat (first | assumption | with_reducible refine KR.alloc ?_ _ | with_reducible refine KR.drew ?_ | with_reducible refine KR.call ?_ (by assumption) | ((with_reducible refine KR.far ?_ ?_); (dsimp only; omega)))); have KK11 : KR w.heap.size 0 0 0 0 u11 := (by repeat (first | assumption | with_reducible refine KR.alloc ?_ _ | with_reducible refine KR.drew ?_ | with_reducible refine KR.call ?_ (by assumption) | ((with_reducible refine KR.far ?_ ?_); (dsimp only; omega)))); have SS11 : Src p a0 len cap u11 := (by repeat (first | assumption | with_reducible refine Src.drew ?_ | with_reducible refine Src.alloc ?_ _ | with_reducible refine Src.call ?_ (by assumption))); have OO11 : Only p w u11 := (by repeat (first | assumption | with_reducible refine Only.drew ?_ | with_reducible refine Only.alloc ?_ _ | with_reducible refine Only.then ?_ (by assumption))); obtain ⟨ta11, tb11, tc11, td11⟩ := QT11.cells; obtain ⟨ga11, gb11, gc11, gd11, ge11, gf11, gg11, gh11, gi11⟩ := id KG11)
              | (go_at_call 70; refine (inv_some _ _ _ _ _).mono ?_; rintro e u12 ⟨p12, q12, r12, s12, rfl, hb12⟩; have QT12 : Kq w2.heap.size 1 (wrap64 (x2 - 2)) 0 1 u12 := (by repeat (first | assumption | with_reducible refine Kq.alloc ?_ _ | with_reducible refine Kq.drew ?_ | with_reducible refine Kq.call ?_ (by assumption) | ((with_reducible refine Kq.far ?_ ?_); (dsimp only; omega)))); have QG12 : Kq g a b c d u12 := (by repeat (first | assumption | with_reducible refine Kq.alloc ?_ _ | with_reducible refine Kq.drew ?_ | with_reducible refine Kq.call ?_ (by assumption) | ((with_reducible refine Kq.far ?_ ?_); (dsimp only; omega)))); have KG12 : KR g a b c d u12 := (by repeat (first | assumption | with_reducible refine KR.alloc ?_ _ | with_reducible refine KR.drew ?_ | with_reducible refine KR.call ?_ (by assumption) | ((with_reducible refine KR.far ?_ ?_); (dsimp only; omega)))); have KK12 : KR w.heap.size 0 0 0 0 u12 := (by repeat (first | assumption | with_reducible refine KR.alloc ?_ _ | with_reducible refine KR.drew ?_ | with_reducible refine KR.call ?_ (by assumption) | ((with_reducible refine KR.far ?_ ?_); (dsimp only; omega)))); have SS12 : Src p a0 len cap u12 := (by repeat (first | assumption | with_reducible refine Src.drew ?_ | with_reducible refine Src.alloc ?_ _ | with_reducible refine Src.call ?_ (by assumption))); have OO12 : Only p w u12 := (by repeat (first | assumption | with_reducible refine Only.drew ?_ | with_reducible refine Only.alloc ?_ _ | with_reducible refine Only.then ?_ (by assumption))); obtain ⟨ta12, tb12, tc12, td12⟩ := QT12.cells; obtain ⟨ga12, gb12, gc12, gd12, ge12, gf12, gg12, gh12, gi12⟩ := id KG12)
              | (go_at_call 68; refine (mul_some _ _ _ _ _ _ _ _ _).mono ?_; rintro e u13 ⟨p13, q13, r13, s13, rfl, hb13⟩; have QT13 : Kq w2.heap.size 1 (wrap64 (x2 - 2)) 0 1 u13 := (by repeat (first | assumption | with_reducible refine Kq.alloc ?_ _ | with_reducible refine Kq.drew ?_ | with_reducible refine Kq.call ?_ (by assumption) | ((with_reducible refine Kq.far ?_ ?_); (dsimp only; omega)))); have QG13 : Kq g a b c d u13 := (by repeat (first | assumption | with_reducible refine Kq.alloc ?_ _ | with_reducible refine Kq.drew ?_ | with_reducible refine Kq.call ?_ (by assumption) | ((with_reducible refine Kq.far ?_ ?_); (dsimp only; omega)))); have KG13 : KR g a b c d u13 := (by repeat (first | assumption | with_reducible refine KR.alloc ?_ _ | with_reducible refine KR.drew ?_ | with_reducible refine KR.call ?_ (by assumption) | ((with_reducible refine KR.far ?_ ?_); (dsimp only; omega)))); have KK13 : KR w.heap.size 0 0 0 0 u13 := (by repeat (first | assumption | with_reducible refine KR.alloc ?_ _ | with_reducible refine KR.drew ?_ | with_reducible refine KR.call ?_ (by assumption) | ((with_reducible refine KR.far ?_ ?_); (dsimp only; omega)))); have SS13 : Src p a0 len cap u13 := (by repeat (first | assumption | with_reducible refine Src.drew ?_ | with_reducible refine Src.alloc ?_ _ | with_reducible refine Src.call ?_ (by assumption))); have OO13 : Only p w u13 := (by repeat (first | assumption | with_reducible refine Only.drew ?_ | with_reducible refine Only.alloc ?_ _ | with_reducible refine Only.then ?_ (by assumption))); obtain ⟨ta13, tb13, tc13, td13⟩ := QT13.cells; obtain ⟨ga13, gb13, gc13, gd13, ge13, gf13, gg13, gh13, gi13⟩ := id KG13))
          all_goals
            go_wp2
            go_roundw
            case rel =>
              have e1 : w.heap.size ≤ g := Nat.le_of_lt hg
              refine ⟨k - 1, p13, q13, r13, s13, ?_, by omega, KR.store KG13 p13 q13 r13 s13, ?_, ?_, ?_⟩
              · congr 1; omega
              · repeat (first | assumption | with_reducible refine KR.alloc ?_ _ | with_reducible refine KR.drew ?_ | with_reducible refine KR.call ?_ (by assumption) | ((with_reducible refine KR.far ?_ ?_); (dsimp only; omega)))
              · exact Src.put (Nat.lt_of_lt_of_le hp e1) (Src.put (Nat.lt_of_lt_of_le hp e1) (Src.put (Nat.lt_of_lt_of_le hp e1) (Src.put (Nat.lt_of_lt_of_le hp e1) SS13)))
              · exact (((OO13.put e1 _).put e1 _).put e1 _).put e1 _
            case measure => simp [intOf]; omega
        · go_wp2_with fail
          refine (next_any _ p a0 len cap _ S3).mono ?_
          rintro e w4 ⟨x4, rfl, y4, z4, S4, O4⟩
          have RT4a := RT3.only O4 (by omega)
          have RG4a := RG3.only O4 (by omega)
          have RR4a := RR3.only O4 (by omega)
          have O4' := O3'.trans O4
          clear y4 z4 S3 O3' O4 RT3 RG3 RR3
          obtain ⟨c0, c1, c2, c3, c4, c5, c6, c7, c8⟩ := id RT4a
          go_upto_region 8 with fail
          have RT4b := KR.store RT4a 1 0 (wrap64 (x4 - 2)) 1
          have ng2 : w2.heap.size ≠ g := by have := RG2.lt; omega
          have ng3 : w2.heap.size ≠ w.heap.size := by have := RR2.lt; omega
          have hps : p < w2.heap.size := by omega
          have RG4b := KR.far (u := .int .i64 1) (q := ⟨w2.heap.size, 3, none⟩) ng2 (KR.far (u := .int .i64 (wrap64 (x4 - 2))) (q := ⟨w2.heap.size, 2, none⟩) ng2 (KR.far (u := .int .i64 0) (q := ⟨w2.heap.size, 1, none⟩) ng2 (KR.far (u := .int .i64 1) (q := ⟨w2.heap.size, 0, none⟩) ng2 RG4a)))
          have RR4b := KR.far (u := .int .i64 1) (q := ⟨w2.heap.size, 3, none⟩) ng3 (KR.far (u := .int .i64 (wrap64 (x4 - 2))) (q := ⟨w2.heap.size, 2, none⟩) ng3 (KR.far (u := .int .i64 0) (q := ⟨w2.heap.size, 1, none⟩) ng3 (KR.far (u := .int .i64 1) (q := ⟨w2.heap.size, 0, none⟩) ng3 RR4a)))
          have S4b := Src.put (u := .int .i64 1) (q := ⟨w2.heap.size, 3, none⟩) hps (Src.put (u := .int .i64 (wrap64 (x4 - 2))) (q := ⟨w2.heap.size, 2, none⟩) hps (Src.put (u := .int .i64 0) (q := ⟨w2.heap.size, 1, none⟩) hps (Src.put (u := .int .i64 1) (q := ⟨w2.heap.size, 0, none⟩) hps S4)))
          have hw2' := Nat.le_of_lt hw2
          have O4b := (((O4'.put (q := ⟨w2.heap.size, 0, none⟩) hw2' (.int .i64 1)).put (q := ⟨w2.heap.size, 1, none⟩) hw2' (.int .i64 0)).put (q := ⟨w2.heap.size, 2, none⟩) hw2' (.int .i64 (wrap64 (x4 - 2)))).put (q := ⟨w2.heap.size, 3, none⟩) hw2' (.int .i64 1)
          generalize (((w4.setCell ⟨w2.heap.size, 0, none⟩ (.int .i64 1)).setCell ⟨w2.heap.size, 1, none⟩ (.int .i64 0)).setCell ⟨w2.heap.size, 2, none⟩ (.int .i64 (wrap64 (x4 - 2)))).setCell ⟨w2.heap.size, 3, none⟩ (.int .i64 1) = w5 at RT4b RG4b RR4b S4b O4b ⊢
          clear RT4a RG4a RR4a S4 O4' c0 c1 c2 c3 c4 c5 c6 c7 c8
          have RT5 := RT4b
          have RG5 := RG4b
          clear RT4b RG4b
          have QT := RT5.kq
          have QG := RG5.kq
          have hgt : w.heap.size < w2.heap.size := by have := RG2.lt; have := RR2.lt; omega
          have ngt : w2.heap.size ≠ g := by have := RG2.lt; omega
          go_wp2_with fail
          obtain ⟨ta, tb, tc, td⟩ := QT.cells
          obtain ⟨ga, gb, gc, gd, ge, gf, gg, gh, gi⟩ := id RG5
          go_region_with
            (first
              | (go_at_call_of 68 (Value.agg #[Value.int IntKind.i64 a, Value.int IntKind.i64 b, Value.int IntKind.i64 c, Value.int IntKind.i64 d]); refine (mul_some _ _ _ _ _ _ _ _ _).mono ?_; rintro e u11 ⟨p11, q11, r11, s11, rfl, hb11⟩; have QT11 : Kq w2.heap.size 1 0 (wrap64 (x4 - 2)) 1 u11 := (by repeat (first | assumption | with_reducible refine Kq.alloc ?_ _ | with_reducible refine Kq.drew ?_ | with_reducible refine Kq.call ?_ (by assumption) | ((with_reducible refine Kq.far ?_ ?_); (dsimp only; omega)))); have QG11 : Kq g a b c d u11 := (by repeat (first | assumption | with_reducible refine Kq.alloc ?_ _ | with_reducible refine Kq.drew ?_ | with_reducible refine Kq.call ?_ (by assumption) | ((with_reducible refine Kq.far ?_ ?_); (dsimp only; omega)))); have KG11 : KR g a b c d u11 := (by repeat (first | assumption | with_reducible refine KR.alloc ?_ _ | with_reducible refine KR.drew ?_ | with_reducible refine KR.call ?_ (by assumption) | ((with_reducible refine KR.far ?_ ?_); (dsimp only; omega)))); have KK11 : KR w.heap.size 0 0 0 0 u11 := (by repeat (first | assumption | with_reducible refine KR.alloc ?_ _ | with_reducible refine KR.drew ?_ | with_reducible refine KR.call ?_ (by assumption) | ((with_reducible refine KR.far ?_ ?_); (dsimp only; omega)))); have SS11 : Src p a0 len cap u11 := (by repeat (first | assumption | with_reducible refine Src.drew ?_ | with_reducible refine Src.alloc ?_ _ | with_reducible refine Src.call ?_ (by assumption))); have OO11 : Only p w u11 := (by repeat (first | assumption | with_reducible refine Only.drew ?_ | with_reducible refine Only.alloc ?_ _ | with_reducible refine Only.then ?_ (by assumption))); obtain ⟨ta11, tb11, tc11, td11⟩ := QT11.cells; obtain ⟨ga11, gb11, gc11, gd11, ge11, gf11, gg11, gh11, gi11⟩ := id KG11)
              | (go_at_call 70; refine (inv_some _ _ _ _ _).mono ?_; rintro e u12 ⟨p12, q12, r12, s12, rfl, hb12⟩; have QT12 : Kq w2.heap.size 1 0 (wrap64 (x4 - 2)) 1 u12 := (by repeat (first | assumption | with_reducible refine Kq.alloc ?_ _ | with_reducible refine Kq.drew ?_ | with_reducible refine Kq.call ?_ (by assumption) | ((with_reducible refine Kq.far ?_ ?_); (dsimp only; omega)))); have QG12 : Kq g a b c d u12 := (by repeat (first | assumption | with_reducible refine Kq.alloc ?_ _ | with_reducible refine Kq.drew ?_ | with_reducible refine Kq.call ?_ (by assumption) | ((with_reducible refine Kq.far ?_ ?_); (dsimp only; omega)))); have KG12 : KR g a b c d u12 := (by repeat (first | assumption | with_reducible refine KR.alloc ?_ _ | with_reducible refine KR.drew ?_ | with_reducible refine KR.call ?_ (by assumption) | ((with_reducible refine KR.far ?_ ?_); (dsimp only; omega)))); have KK12 : KR w.heap.size 0 0 0 0 u12 := (by repeat (first | assumption | with_reducible refine KR.alloc ?_ _ | with_reducible refine KR.drew ?_ | with_reducible refine KR.call ?_ (by assumption) | ((with_reducible refine KR.far ?_ ?_); (dsimp only; omega)))); have SS12 : Src p a0 len cap u12 := (by repeat (first | assumption | with_reducible refine Src.drew ?_ | with_reducible refine Src.alloc ?_ _ | with_reducible refine Src.call ?_ (by assumption))); have OO12 : Only p w u12 := (by repeat (first | assumption | with_reducible refine Only.drew ?_ | with_reducible refine Only.alloc ?_ _ | with_reducible refine Only.then ?_ (by assumption))); obtain ⟨ta12, tb12, tc12, td12⟩ := QT12.cells; obtain ⟨ga12, gb12, gc12, gd12, ge12, gf12, gg12, gh12, gi12⟩ := id KG12)
              | (go_at_call 68; refine (mul_some _ _ _ _ _ _ _ _ _).mono ?_; rintro e u13 ⟨p13, q13, r13, s13, rfl, hb13⟩; have QT13 : Kq w2.heap.size 1 0 (wrap64 (x4 - 2)) 1 u13 := (by repeat (first | assumption | with_reducible refine Kq.alloc ?_ _ | with_reducible refine Kq.drew ?_ | with_reducible refine Kq.call ?_ (by assumption) | ((with_reducible refine Kq.far ?_ ?_); (dsimp only; omega)))); have QG13 : Kq g a b c d u13 := (by repeat (first | assumption | with_reducible refine Kq.alloc ?_ _ | with_reducible refine Kq.drew ?_ | with_reducible refine Kq.call ?_ (by assumption) | ((with_reducible refine Kq.far ?_ ?_); (dsimp only; omega)))); have KG13 : KR g a b c d u13 := (by repeat (first | assumption | with_reducible refine KR.alloc ?_ _ | with_reducible refine KR.drew ?_ | with_reducible refine KR.call ?_ (by assumption) | ((with_reducible refine KR.far ?_ ?_); (dsimp only; omega)))); have KK13 : KR w.heap.size 0 0 0 0 u13 := (by repeat (first | assumption | with_reducible refine KR.alloc ?_ _ | with_reducible refine KR.drew ?_ | with_reducible refine KR.call ?_ (by assumption) | ((with_reducible refine KR.far ?_ ?_); (dsimp only; omega)))); have SS13 : Src p a0 len cap u13 := (by repeat (first | assumption | with_reducible refine Src.drew ?_ | with_reducible refine Src.alloc ?_ _ | with_reducible refine Src.call ?_ (by assumption))); have OO13 : Only p w u13 := (by repeat (first | assumption | with_reducible refine Only.drew ?_ | with_reducible refine Only.alloc ?_ _ | with_reducible refine Only.then ?_ (by assumption))); obtain ⟨ta13, tb13, tc13, td13⟩ := QT13.cells; obtain ⟨ga13, gb13, gc13, gd13, ge13, gf13, gg13, gh13, gi13⟩ := id KG13))
          all_goals
            go_wp2
            go_roundw
            case rel =>
              have e1 : w.heap.size ≤ g := Nat.le_of_lt hg
              refine ⟨k - 1, p13, q13, r13, s13, ?_, by omega, KR.store KG13 p13 q13 r13 s13, ?_, ?_, ?_⟩
              · congr 1; omega
              · repeat (first | assumption | with_reducible refine KR.alloc ?_ _ | with_reducible refine KR.drew ?_ | with_reducible refine KR.call ?_ (by assumption) | ((with_reducible refine KR.far ?_ ?_); (dsimp only; omega)))
              · exact Src.put (Nat.lt_of_lt_of_le hp e1) (Src.put (Nat.lt_of_lt_of_le hp e1) (Src.put (Nat.lt_of_lt_of_le hp e1) (Src.put (Nat.lt_of_lt_of_le hp e1) SS13)))
              · exact (((OO13.put e1 _).put e1 _).put e1 _).put e1 _
            case measure => simp [intOf]; omega


end Go.Proofs.YtpdekopmnchanabGreatDoor
