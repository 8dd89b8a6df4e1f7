/-
 The program's Gauss reduction: shortBasis returns a reduced basis of the lattice. Conditions: the frame and the lattice are valid.
-/
import Derived.Test.YtjjfomokecngoaaGreatDoorGe
import Derived.Test.YtjjfomokecngoaaGreatDoorGi
import Derived.Test.YtjjfomokecngoaaGreatDoorGf
import Derived.Deep.DeepCutAuto
import Derived.Deep.RegionHeld3
import Derived.Deep.RegionWith
import Derived.BigRegion
namespace Go.Proofs.YtjjfomokecngoaaGreatDoor
open Go.RowKit
set_option linter.unusedSimpArgs false
set_option linter.unusedVariables false

theorem pkGauss0 {P : Prop} (h : P := by repeat (first | assumption | exact Below.refl _ _ | refine Below.setCell ?_ (by first | omega | (dsimp only; omega) | (simp <;> omega)) _ | refine Below.alloc ?_ (by first | omega | (simp <;> omega)) _ | refine bstep ?_ (by assumption) | refine Below.drew ?_)) : P := h
theorem pkGauss1 {P : Prop} (h : P := by repeat (first | assumption | exact Below.refl _ _ | refine Below.setCell ?_ (by first | omega | (simp <;> omega)) _ | refine Below.alloc ?_ (by first | omega | (simp <;> omega)) _ | refine bstep ?_ (by assumption) | refine Below.drew ?_)) : P := h
theorem pkGauss2 {P : Prop} (h : P := by repeat (first | assumption | with_reducible refine KW.alloc ?_ _ | with_reducible refine KW.drew ?_ | with_reducible refine KW.call ?_ (by assumption) | ((with_reducible refine KW.far ?_ ?_); (first | omega | (dsimp only; omega))))) : P := h
theorem pkGauss3 {P : Prop} (h : P := by repeat (first | assumption | with_reducible refine KW.alloc ?_ _ | with_reducible refine KW.drew ?_ | ((with_reducible refine KW.put ?_ ?_); (first | omega | (dsimp only; omega) | (simp; omega))))) : P := h
theorem pkGauss4 {P : Prop} (h : P := by repeat (first | assumption | with_reducible refine KW.alloc ?_ _ | with_reducible refine KW.drew ?_ | with_reducible refine KW.call ?_ (by assumption))) : P := h
/- bounds of one round -/
def RB (ux uy vx vy : Int) : Prop := ((-128 ≤ ux ∧ ux ≤ 128) ∧ (-128 ≤ uy ∧ uy ≤ 128)) ∧ ((-128 ≤ vx ∧ vx ≤ 128) ∧ (-128 ≤ vy ∧ vy ≤ 128))
theorem rb_of {f ux uy vx vy : Int} (hf : frB f = true) (h1 : nrmI f ux uy ≤ 12288) (h2 : nrmI f vx vy ≤ 12288) : RB ux uy vx vy :=
 ⟨nrm_box (k := 128) hf (by omega) h1 (by omega), nrm_box (k := 128) hf (by omega) h2 (by omega)⟩
structure Rnd (f ux uy vx vy k x y : Int) : Prop where
 div : nrmI f (ux + vx) (uy + vy) - nrmI f vx vy = nrmI f ux uy + tI f ux uy vx vy
 kk : (nrmI f (ux + vx) (uy + vy) - nrmI f vx vy - (nrmI f (ux + vx) (uy + vy) - nrmI f vx vy) % (2 * nrmI f ux uy)).tdiv (2 * nrmI f ux uy) = k
 hx : vx + ux * -k = x
 hy : vy + uy * -k = y
 n1 : nrmI f x y ≤ nrmI f vx vy
 lo : -(nrmI f ux uy) ≤ tI f ux uy x y
 hi : tI f ux uy x y ≤ nrmI f ux uy
 b1 : -100000 ≤ k ∧ k ≤ 100000
 b2 : bigI (ux * -k) ∧ bigI (uy * -k)
 b3 : bigI (vx + ux * -k) ∧ bigI (vy + uy * -k)
theorem rnd_of {f ux uy vx vy : Int} (hf : frB f = true) (hp : 0 < nrmI f ux uy) (h1 : nrmI f ux uy ≤ 12288) (h2 : nrmI f vx vy ≤ 12288) : ∃ k x y, Rnd f ux uy vx vy k x y := by
 have hs := nrm_sum f ux uy vx vy
 obtain ⟨t1, t2, t3⟩ := round_t (t := tI f ux uy vx vy) hp rfl
 have hk : (nrmI f (ux + vx) (uy + vy) - nrmI f vx vy - (nrmI f (ux + vx) (uy + vy) - nrmI f vx vy) % (2 * nrmI f ux uy)).tdiv (2 * nrmI f ux uy) = (nrmI f ux uy + tI f ux uy vx vy) / (2 * nrmI f ux uy) := by
  rw [red_q _ _ (by omega)]
  congr 1
  omega
 obtain ⟨e1, e2⟩ := nrm_shift f ux uy vx vy ((nrmI f ux uy + tI f ux uy vx vy) / (2 * nrmI f ux uy))
 generalize (nrmI f ux uy + tI f ux uy vx vy) / (2 * nrmI f ux uy) = k at *
 have hn : nrmI f (vx + ux * -k) (vy + uy * -k) ≤ nrmI f vx vy := by omega
 have r0 := rb_of hf h1 h2
 have r1 := rb_of hf h1 (Int.le_trans hn h2)
 obtain ⟨⟨a1, a2⟩, a3, a4⟩ := r0
 obtain ⟨_, a5, a6⟩ := r1
 have hux : -256 ≤ ux * -k ∧ ux * -k ≤ 256 := by omega
 have huy : -256 ≤ uy * -k ∧ uy * -k ≤ 256 := by omega
 refine ⟨k, _, _, ⟨by omega, hk, rfl, rfl, hn, by omega, by omega, ?_, ⟨by unfold bigI; omega, by unfold bigI; omega⟩, ⟨by unfold bigI; omega, by unfold bigI; omega⟩⟩⟩
 by_cases c : -256 ≤ k ∧ k ≤ 256
 ·omega
 ·exfalso
  have hne : ux ≠ 0 ∨ uy ≠ 0 := by
   by_cases z : ux = 0
   ·right; rintro rfl; subst z; simp [nrmI] at hp
   ·exact .inl z
  rcases hne with h | h
  ·have s1 := sq_ge (a := ux) (k := 1) (by omega) (by omega)
   have s2 := sq_ge (a := k) (k := 257) (by omega) (by omega)
   have s3 := Int.mul_le_mul s1 s2 (by omega) (sq_nn _)
   have s4 : ux * ux * (k * k) = (ux * -k) * (ux * -k) := by grind
   have s5 := sq_lt (a := ux * -k) (k := 0)
   have s6 := mulBd hux.1 hux.2 hux.1 hux.2
   omega
  ·have s1 := sq_ge (a := uy) (k := 1) (by omega) (by omega)
   have s2 := sq_ge (a := k) (k := 257) (by omega) (by omega)
   have s3 := Int.mul_le_mul s1 s2 (by omega) (sq_nn _)
   have s4 : uy * uy * (k * k) = (uy * -k) * (uy * -k) := by grind
   have s6 := mulBd huy.1 huy.2 huy.1 huy.2
   omega
def GauPost (f A B C : Int) (w : World) (e : Ending) (w' : World) : Prop :=
 ∃ ux uy vx vy, e = .returned (.tuple #[.agg #[.int .i64 ux, .int .i64 uy], .agg #[.int .i64 vx, .int .i64 vy]]) ∧ Gau f A B C ux uy vx vy ∧ nrmI f ux uy ≤ 12288 ∧ Below w.heap.size w w'
def cellNrm (f : Int) (g : Nat) (W : World) : Nat := match W.cell? ⟨g, 0, none⟩, W.cell? ⟨g, 1, none⟩ with | some a, some b => (nrmI f (intOf a) (intOf b)).toNat | _, _ => 0
theorem cellNrm_of {f : Int} {g : Nat} {W : World} {x y : Int} (h : KW g x y W) : cellNrm f g W = (nrmI f x y).toNat := by simp [cellNrm, h.c0, h.c1, intOf]
def MidGau (w : World) (A B C : Int) (s7 s8 : Value) (wx : World) : Prop :=
 ∃ g h : Nat, s7 = .pointer (some ⟨g, 0, none⟩) ∧ s8 = .pointer (some ⟨h, 0, none⟩) ∧ KW g A 0 wx ∧ KW h B C wx ∧ g ≠ h ∧ w.heap.size + 2 < g ∧ w.heap.size + 2 < h ∧ KW (w.heap.size + 1) 0 0 wx ∧ KW (w.heap.size + 1 + 1) 0 0 wx ∧ Below w.heap.size w wx
set_option maxRecDepth 100000 in
set_option maxHeartbeats 8000000 in
theorem shortBasis_any (f A B C : Int) (w : World) (hf : frB f = true) (hl : latI A B C) :
  Calls Tryz.prog 247 #[.agg #[.int .i64 A, .int .i64 B, .int .i64 C], .iface (planeT f) (.agg #[])] w (GauPost f A B C w) := by
 have hm := meth_f hf
 have he := ent_f hf
 have hah := ahead_f hf
 have HI := Lib.hid hl
 clear hl
 go_enter Tryz.func247, Tryz.ntmps247
 go_wp2_with fail
 refine (basis4_any _ _ _ _).mono ?_
 rintro e w1 ⟨rfl, hb1⟩
 have X1 : KW (w.heap.size + 1) 0 0 w1 := KW.call (KW.alloc (KW.at _ (by simp)) _) hb1
 have X2 : KW (w.heap.size + 1 + 1) 0 0 w1 := KW.call (KW.at _ (by simp)) hb1
 have XB : Below w.heap.size w w1 := by exact pkGauss1
 have xz : w.heap.size + 3 ≤ w1.heap.size := by have := hb1.size; simpa using this
 clear hb1
 go_wp2_with fail
 go_cut [7, 8] (fun s7 s8 wx => MidGau w A B C s7 s8 wx)
 case first =>
  go_region_held3 (fun W => W.cell? ⟨w1.heap.size, 0, none⟩ = some (.int .i64 A) ∧ W.cell? ⟨w1.heap.size, 1, none⟩ = some (.int .i64 0) ∧ W.cell? ⟨w1.heap.size, 2, none⟩ = some (.int .i64 B) ∧ W.cell? ⟨w1.heap.size, 3, none⟩ = some (.int .i64 C)) (simp [go_sem]) (fail)
  all_goals
   go_wp2_with fail
   go_meet
   have ne1 : ¬ (w1.heap.size + 1 = w.heap.size + 1) := by omega
   refine ⟨_, _, rfl, rfl, ⟨by simp, by simp [go_sem], by simp [go_sem], by simp [go_sem], by simp [go_sem]⟩, ⟨by simp, by simp [go_sem], by simp [go_sem], by simp [go_sem], by simp [go_sem]⟩, by simp, by first | omega | (simp; omega), by first | omega | (simp; omega), ?_, ?_, ?_⟩
   ·exact pkGauss3
   ·exact pkGauss3
   ·exact pkGauss1
 case rest =>
  obtain ⟨g, h, rfl, rfl, KG, KH, hgh, hg2, hh2, K1, K2, BB⟩ := hcut
  have HB0 := Lib.hid (Gau.ex hf HI.out)
  obtain ⟨bA, bC⟩ := latI_bd HI.out
  have HN0 : nrmI f A 0 ≤ 12288 ∧ nrmI f B C ≤ 12288 := by
   obtain ⟨l1, l2, l3, l4, l5⟩ := HI.out
   have e1 : A * A ≤ 64 * 64 := Int.mul_le_mul bA bA (by omega) (by omega)
   have e2 : B * B ≤ 64 * 64 := Int.mul_le_mul (by omega) (by omega) (by omega) (by omega)
   have e3 : C * C ≤ 64 * 64 := Int.mul_le_mul (by omega) (by omega) (by omega) (by omega)
   have e4 : B * C ≤ 64 * 64 := Int.mul_le_mul (by omega) (by omega) (by omega) (by omega)
   have e5 : 0 ≤ B * C := Int.mul_nonneg (by omega) (by omega)
   rw [nrm_A0]
   refine ⟨by omega, ?_⟩
   rcases frB_iff.1 hf with rfl | rfl <;> (unfold nrmI; omega)
  have HH := Lib.hid (show g ≠ h ∧ w.heap.size + 2 < g ∧ w.heap.size + 2 < h from ⟨hgh, hg2, hh2⟩)
  obtain ⟨r1, hr1⟩ : ∃ r1, r1 = w.heap.size + 1 := ⟨_, rfl⟩
  obtain ⟨r2, hr2⟩ : ∃ r2, r2 = w.heap.size + 1 + 1 := ⟨_, rfl⟩
  rw [← hr1] at K1
  rw [← hr2] at K2
  clear bA bC X1 X2 XB xz
  go_wp2_with fail
  go_loopw [9] (fun _ W => ∃ ux uy vx vy : Int, KW g ux uy W ∧ KW h vx vy W ∧ Hid (Bas A B C ux uy vx vy) ∧ Hid (nrmI f ux uy ≤ 12288 ∧ nrmI f vx vy ≤ 12288) ∧ KW r1 0 0 W ∧ KW r2 0 0 W ∧ Below w.heap.size w W) (fun _ W => cellNrm f g W)
  case atStart => exact ⟨A, 0, B, C, KG, KH, Bas.start, HN0, K1, K2, BB⟩
  case round =>
   clear KG KH HN0 K1 K2 BB
   obtain ⟨ux, uy, vx, vy, KG, KH, hBas, hN, K1, K2, BB⟩ := hrel
   have h0 := latI_ne HI.out
   have hp := nrm_pos hf (hBas.out.une h0)
   have hcN := cellNrm_of (f := f) KG
   obtain ⟨k, x, y, hR⟩ := rnd_of hf hp hN.out.1 hN.out.2
   have HR := Lib.hid hR
   have rb := rb_of hf hN.out.1 hN.out.2
   have rb2 := rb_of hf hN.out.1 (Int.le_trans hR.n1 hN.out.2)
   obtain ⟨⟨a1, a2⟩, a3, a4⟩ := rb
   obtain ⟨_, a5, a6⟩ := rb2
   have M1 := Lib.hid (fun W => norm_any f (ux + vx) (uy + vy) W hf (by unfold midI; omega) (by unfold midI; omega))
   have M2 := Lib.hid (fun W => norm_any f vx vy W hf (by unfold midI; omega) (by unfold midI; omega))
   have M3 := Lib.hid (fun W => norm_any f ux uy W hf (by unfold midI; omega) (by unfold midI; omega))
   have M4 := Lib.hid (fun W => norm_any f x y W hf (by unfold midI; omega) (by unfold midI; omega))
   have g1 := nrm_big (f := f) (x := ux + vx) (y := uy + vy) hf (by unfold midI; omega) (by unfold midI; omega)
   have g2 := nrm_nn hf vx vy
   have g4 := nrm_nn hf x y
   have PL := Lib.hid (fun W => plusBig_any ux uy vx vy W (by unfold bigI; omega) (by unfold bigI; omega))
   have g3 := hN.out.1
   have g5 := hN.out.2
   have g6 := hR.n1
   have hkk := hR.kk
   have hb1 := hR.b1
   have TM := Lib.hid (fun W => timesBig_any ux uy (-k) W hR.b2.1 hR.b2.2)
   have PM : Hid (∀ W, Calls Tryz.prog 154 #[.agg #[.int .i64 vx, .int .i64 vy], .agg #[.int .i64 (ux * -k), .int .i64 (uy * -k)]] W fun e w' => e = .returned (.agg #[.int .i64 x, .int .i64 y]) ∧ Below W.heap.size W w') := by
    have := fun W => plusBig_any vx vy (ux * -k) (uy * -k) W hR.b3.1 hR.b3.2
    rw [hR.hx, hR.hy] at this
    exact this
   have HD : 0 ≤ (nrmI f (ux + vx) (uy + vy) - nrmI f vx vy) % (2 * nrmI f ux uy) ∧ (nrmI f (ux + vx) (uy + vy) - nrmI f vx vy) % (2 * nrmI f ux uy) < 2 * nrmI f ux uy := ⟨Int.emod_nonneg _ (by omega), Int.emod_lt_of_pos _ (by omega)⟩
   have RM := Lib.hid (fun W => remainder_any (nrmI f (ux + vx) (uy + vy) - nrmI f vx vy) (2 * nrmI f ux uy) W (by unfold bigI; omega) (by omega) (by unfold bigI; omega))
   have NX := Lib.hid (show Bas A B C ux uy x y by have := hBas.out.add (-k); rwa [hR.hx, hR.hy] at this)
   have RD := Lib.hid (show nrmI f ux uy ≤ nrmI f x y → Red f ux uy x y from fun hle => ⟨hle, hR.lo, hR.hi⟩)
   clear hR
   generalize nrmI f (ux + vx) (uy + vy) = n1 at *
   have HV := Lib.hid (show nrmI f vx vy ≤ 12288 from g5)
   generalize hn2 : nrmI f vx vy = n2 at *
   have HN2 := Lib.hid hn2
   generalize hn3 : nrmI f ux uy = n3 at *
   have HN3 := Lib.hid hn3
   generalize hn4 : nrmI f x y = n4 at *
   have HN4 := Lib.hid hn4
   clear hn2 hn3 hn4 a1 a2 a3 a4 a5 a6 h0
   obtain ⟨hHD1, hHD2⟩ := HD
   have hq0 : ¬ (2 * n3 = 0) := by omega
   obtain ⟨q0, q1⟩ := hb1
   obtain ⟨g10, g11⟩ := g1
   have w1 : IntKind.i64.wrap (n1 - n2) = n1 - n2 := IntWalk.i64_in _ (by omega)
   have w2 : IntKind.i64.wrap (2 * n3) = 2 * n3 := IntWalk.i64_in _ (by omega)
   have w3 : IntKind.i64.wrap (n1 - n2 - (n1 - n2) % (2 * n3)) = n1 - n2 - (n1 - n2) % (2 * n3) := IntWalk.i64_in _ (by omega)
   have w4 : IntKind.i64.wrap k = k := IntWalk.i64_in _ (by omega)
   have w5 : IntKind.i64.wrap (-k) = -k := IntWalk.i64_in _ (by omega)
   have Y1 := KG.pair
   have Y2 := KH.pair
   have Z0 := BB.size
   go_wp2_with fail
   go_cut [9, 10] (fun s9 s10 wx => s9 = .int .i64 (n1 - n2) ∧ s10 = .int .i64 (2 * n3) ∧ KW g ux uy wx ∧ KW h vx vy wx ∧ KW r1 0 0 wx ∧ KW r2 0 0 wx ∧ Below w.heap.size w wx)
   case first =>
    go_region_held3 (fun W => (W.cell? ⟨g, 0, none⟩ = some (.int .i64 ux) ∧ W.cell? ⟨g, 1, none⟩ = some (.int .i64 uy)) ∧ (W.cell? ⟨h, 0, none⟩ = some (.int .i64 vx) ∧ W.cell? ⟨h, 1, none⟩ = some (.int .i64 vy))) (((refine And.intro (KW.pair ?_) (KW.pair ?_)) <;> (exact pkGauss4)))
     (first
      | (go_at_call 154; refine (PL.out _).mono ?_; rintro e u1 ⟨rfl, hb1⟩; have G1 : KW g ux uy u1 := (by exact pkGauss4); have H1 : KW h vx vy u1 := (by exact pkGauss4); have P1 : KW r1 0 0 u1 := (by exact pkGauss4); have R1 : KW r2 0 0 u1 := (by exact pkGauss4); have B1 : Below w.heap.size w u1 := (by exact pkGauss1); have z1 := B1.size)
      | (with_reducible refine (M1.out _).mono ?_; rintro e u2 ⟨rfl, hb2⟩; have G2 : KW g ux uy u2 := (by exact pkGauss4); have H2 : KW h vx vy u2 := (by exact pkGauss4); have P2 : KW r1 0 0 u2 := (by exact pkGauss4); have R2 : KW r2 0 0 u2 := (by exact pkGauss4); have B2 : Below w.heap.size w u2 := (by exact pkGauss1); have z2 := B2.size)
      | (with_reducible refine (M2.out _).mono ?_; rintro e u3 ⟨rfl, hb3⟩; have G3 : KW g ux uy u3 := (by exact pkGauss4); have H3 : KW h vx vy u3 := (by exact pkGauss4); have P3 : KW r1 0 0 u3 := (by exact pkGauss4); have R3 : KW r2 0 0 u3 := (by exact pkGauss4); have B3 : Below w.heap.size w u3 := (by exact pkGauss1); have z3 := B3.size)
      | (with_reducible refine (M3.out _).mono ?_; rintro e u4 ⟨rfl, hb4⟩; have G4 : KW g ux uy u4 := (by exact pkGauss4); have H4 : KW h vx vy u4 := (by exact pkGauss4); have P4 : KW r1 0 0 u4 := (by exact pkGauss4); have R4 : KW r2 0 0 u4 := (by exact pkGauss4); have B4 : Below w.heap.size w u4 := (by exact pkGauss1); have z4 := B4.size))
    all_goals
     go_wp2_with fail
     go_meet
     exact ⟨rfl, rfl, by assumption, by assumption, by assumption, by assumption, by assumption⟩
   case rest =>
    obtain ⟨rfl, rfl, G4, H4, P4, R4, B4⟩ := hcut
    have z4 := B4.size
    clear Y1 Y2 KG KH K1 K2 BB Z0
    go_wp2_with fail
    refine (RM.out _).mono ?_
    rintro e u5 ⟨rfl, hb5⟩
    have G5 := G4.call hb5
    have H5 := H4.call hb5
    have P5 := P4.call hb5
    have R5 := R4.call hb5
    have B5 := bstep B4 hb5
    have z5 := B5.size
    clear hb5 G4 H4 P4 R4 B4
    obtain ⟨d0, d1, d2, d3, d4⟩ := id G5
    obtain ⟨d5, d6, d7, d8, d9⟩ := id H5
    go_wp2_with fail
    go_cut [11] (fun _ wx => KW g ux uy wx ∧ KW h x y wx ∧ KW r1 0 0 wx ∧ KW r2 0 0 wx ∧ Below w.heap.size w wx)
    case first =>
     go_region_with (first
      | (go_at_call 158; refine (TM.out _).mono ?_; rintro e u6 ⟨rfl, hb6⟩; have G6 : KW g ux uy u6 := (by exact pkGauss4); have H6 : KW h vx vy u6 := (by exact pkGauss4); have P6 : KW r1 0 0 u6 := (by exact pkGauss4); have R6 : KW r2 0 0 u6 := (by exact pkGauss4); have B6 : Below w.heap.size w u6 := (by exact pkGauss0); have z6 := B6.size; obtain ⟨e0, e1, e2, e3, e4⟩ := id G6; obtain ⟨e5, e6, e7, e8, e9⟩ := id H6)
      | (go_at_call 154; refine (PM.out _).mono ?_; rintro e u7 ⟨rfl, hb7⟩; have G7 : KW g ux uy u7 := (by exact pkGauss4); have H7 : KW h vx vy u7 := (by exact pkGauss4); have P7 : KW r1 0 0 u7 := (by exact pkGauss4); have R7 : KW r2 0 0 u7 := (by exact pkGauss4); have B7 : Below w.heap.size w u7 := (by exact pkGauss0); have z7 := B7.size; obtain ⟨f0, f1, f2, f3, f4⟩ := id G7; obtain ⟨f5, f6, f7, f8, f9⟩ := id H7))
     all_goals
      obtain ⟨hgh, hg2, hh2⟩ := HH.out
      have H8 : KW h x y ((u7.setCell ⟨h, 0, none⟩ (.int .i64 x)).setCell ⟨h, 1, none⟩ (.int .i64 y)) := H7.store x y
      have G8 : KW g ux uy ((u7.setCell ⟨h, 0, none⟩ (.int .i64 x)).setCell ⟨h, 1, none⟩ (.int .i64 y)) := by exact pkGauss2
      have P8 : KW r1 0 0 ((u7.setCell ⟨h, 0, none⟩ (.int .i64 x)).setCell ⟨h, 1, none⟩ (.int .i64 y)) := by exact pkGauss2
      have R8 : KW r2 0 0 ((u7.setCell ⟨h, 0, none⟩ (.int .i64 x)).setCell ⟨h, 1, none⟩ (.int .i64 y)) := by exact pkGauss2
      have B8 : Below w.heap.size w ((u7.setCell ⟨h, 0, none⟩ (.int .i64 x)).setCell ⟨h, 1, none⟩ (.int .i64 y)) := by exact pkGauss0
      have z8 := B8.size
      go_wp2_with fail
      go_meet
      exact ⟨G8, H8, P8, R8, B8⟩
    case rest =>
     obtain ⟨G8, H8, P8, R8, B8⟩ := hcut
     clear G5 H5 P5 R5 B5 z5 d0 d1 d2 d3 d4 d5 d6 d7 d8 d9
     have z8 := B8.size
     have Y1 := G8.pair
     have Y2 := H8.pair
     by_cases hc : n3 ≤ n4
     ·have HC := Lib.hid hc
      go_wp2_with fail
      go_region_held3 (fun W => (W.cell? ⟨g, 0, none⟩ = some (.int .i64 ux) ∧ W.cell? ⟨g, 1, none⟩ = some (.int .i64 uy)) ∧ (W.cell? ⟨h, 0, none⟩ = some (.int .i64 x) ∧ W.cell? ⟨h, 1, none⟩ = some (.int .i64 y))) (((refine And.intro (KW.pair ?_) (KW.pair ?_)) <;> (exact pkGauss4)))
       (first
        | (with_reducible refine (M4.out _).mono ?_; rintro e u8 ⟨rfl, hb8⟩; have G8 : KW g ux uy u8 := (by exact pkGauss4); have H8 : KW h x y u8 := (by exact pkGauss4); have P8 : KW r1 0 0 u8 := (by exact pkGauss4); have R8 : KW r2 0 0 u8 := (by exact pkGauss4); have B8 : Below w.heap.size w u8 := (by exact pkGauss0); have z8 := B8.size)
        | (with_reducible refine (M3.out _).mono ?_; rintro e u9 ⟨rfl, hb9⟩; have G9 : KW g ux uy u9 := (by exact pkGauss4); have H9 : KW h x y u9 := (by exact pkGauss4); have P9 : KW r1 0 0 u9 := (by exact pkGauss4); have R9 : KW r2 0 0 u9 := (by exact pkGauss4); have B9 : Below w.heap.size w u9 := (by exact pkGauss0); have z9 := B9.size))
      all_goals
       obtain ⟨d0, d1, d2, d3, d4⟩ := id G9
       obtain ⟨d5, d6, d7, d8, d9⟩ := id H9
       subst hr1 hr2
       obtain ⟨e0, e1, e2, e3, e4⟩ := id P9
       obtain ⟨e5, e6, e7, e8, e9⟩ := id R9
       obtain ⟨hgh, hg2, hh2⟩ := HH.out
       have ne1 : ¬ g = w.heap.size + 1 := by omega
       have ne2 : ¬ w.heap.size + 1 = g := by omega
       have ne3 : ¬ h = w.heap.size + 1 := by omega
       have ne4 : ¬ w.heap.size + 1 = h := by omega
       have ne5 : ¬ g = w.heap.size + 1 + 1 := by omega
       have ne6 : ¬ w.heap.size + 1 + 1 = g := by omega
       have ne7 : ¬ h = w.heap.size + 1 + 1 := by omega
       have ne8 : ¬ w.heap.size + 1 + 1 = h := by omega
       have GP : Gau f A B C ux uy x y := ⟨NX.out, RD.out HC.out, by have := HN4.out; have := HV.out; omega⟩
       have GQ := Lib.hid GP
       have GN := Lib.hid (show nrmI f ux uy ≤ 12288 by have := HN3.out; omega)
       have BF : Below w.heap.size w ((((u9.drew.setCell ⟨w.heap.size + 1, 0, none⟩ (.int .i64 ux)).setCell ⟨w.heap.size + 1, 1, none⟩ (.int .i64 uy)).setCell ⟨w.heap.size + 1 + 1, 0, none⟩ (.int .i64 x)).setCell ⟨w.heap.size + 1 + 1, 1, none⟩ (.int .i64 y)) := by exact pkGauss0
       clear GP hgh hg2 hh2 Y1 Y2 G8 H8 P8 R8 B8 hb8 hb9 G9 H9 P9 R9
       go_wp2_with fail
       go_region
       all_goals
        go_wp2
        refine bodyPost_ret (v := .tuple #[.agg #[.int .i64 ux, .int .i64 uy], .agg #[.int .i64 x, .int .i64 y]]) (by simp [results, Tryz.results247, go_sem, *]) rfl ?_
        exact ⟨ux, uy, x, y, rfl, GQ.out, GN.out, BF⟩
     ·have HC := Lib.hid hc
      go_wp2_with fail
      go_region_held3 (fun W => (W.cell? ⟨g, 0, none⟩ = some (.int .i64 ux) ∧ W.cell? ⟨g, 1, none⟩ = some (.int .i64 uy)) ∧ (W.cell? ⟨h, 0, none⟩ = some (.int .i64 x) ∧ W.cell? ⟨h, 1, none⟩ = some (.int .i64 y))) (((refine And.intro (KW.pair ?_) (KW.pair ?_)) <;> (exact pkGauss4)))
       (first
        | (with_reducible refine (M4.out _).mono ?_; rintro e u8 ⟨rfl, hb8⟩; have G8 : KW g ux uy u8 := (by exact pkGauss4); have H8 : KW h x y u8 := (by exact pkGauss4); have P8 : KW r1 0 0 u8 := (by exact pkGauss4); have R8 : KW r2 0 0 u8 := (by exact pkGauss4); have B8 : Below w.heap.size w u8 := (by exact pkGauss0); have z8 := B8.size)
        | (with_reducible refine (M3.out _).mono ?_; rintro e u9 ⟨rfl, hb9⟩; have G9 : KW g ux uy u9 := (by exact pkGauss4); have H9 : KW h x y u9 := (by exact pkGauss4); have P9 : KW r1 0 0 u9 := (by exact pkGauss4); have R9 : KW r2 0 0 u9 := (by exact pkGauss4); have B9 : Below w.heap.size w u9 := (by exact pkGauss0); have z9 := B9.size))
      all_goals
       obtain ⟨d0, d1, d2, d3, d4⟩ := id G9
       obtain ⟨d5, d6, d7, d8, d9⟩ := id H9
       obtain ⟨hgh, hg2, hh2⟩ := HH.out
       have ne1 : ¬ g = h := hgh
       have ne2 : ¬ h = g := fun e => hgh e.symm
       have GF : KW g x y ((((u9.setCell ⟨g, 0, none⟩ (.int .i64 x)).setCell ⟨g, 1, none⟩ (.int .i64 y)).setCell ⟨h, 0, none⟩ (.int .i64 ux)).setCell ⟨h, 1, none⟩ (.int .i64 uy)) := KW.far (by dsimp only; omega) (KW.far (by dsimp only; omega) (KW.store G9 x y))
       have HF : KW h ux uy ((((u9.setCell ⟨g, 0, none⟩ (.int .i64 x)).setCell ⟨g, 1, none⟩ (.int .i64 y)).setCell ⟨h, 0, none⟩ (.int .i64 ux)).setCell ⟨h, 1, none⟩ (.int .i64 uy)) := KW.store (KW.far (by dsimp only; omega) (KW.far (by dsimp only; omega) H9)) ux uy
       have PF : KW r1 0 0 ((((u9.setCell ⟨g, 0, none⟩ (.int .i64 x)).setCell ⟨g, 1, none⟩ (.int .i64 y)).setCell ⟨h, 0, none⟩ (.int .i64 ux)).setCell ⟨h, 1, none⟩ (.int .i64 uy)) := by exact pkGauss2
       have RF : KW r2 0 0 ((((u9.setCell ⟨g, 0, none⟩ (.int .i64 x)).setCell ⟨g, 1, none⟩ (.int .i64 y)).setCell ⟨h, 0, none⟩ (.int .i64 ux)).setCell ⟨h, 1, none⟩ (.int .i64 uy)) := by exact pkGauss2
       have BF : Below w.heap.size w ((((u9.setCell ⟨g, 0, none⟩ (.int .i64 x)).setCell ⟨g, 1, none⟩ (.int .i64 y)).setCell ⟨h, 0, none⟩ (.int .i64 ux)).setCell ⟨h, 1, none⟩ (.int .i64 uy)) := by exact pkGauss0
       have hmeas := Lib.hid (show n4.toNat < n3.toNat by have := HC.out; omega)
       have hNF := Lib.hid (show nrmI f x y ≤ 12288 ∧ nrmI f ux uy ≤ 12288 by have h1 := HN4.out; have h2 := HN3.out; have h3 := HV.out; omega)
       have hcF := Lib.hid (cellNrm_of (f := f) GF)
       clear hgh hg2 hh2 Y1 Y2 G8 H8 P8 R8 B8 hb8 hb9 G9 H9 P9 R9
       go_wp2_with fail
       all_goals
        go_wp2
        go_roundw
        case rel => exact ⟨x, y, ux, uy, GF, HF, NX.out.swap, hNF.out, PF, RF, BF⟩
        case measure =>
         rw [hcN]
         refine Nat.lt_of_le_of_lt (Nat.le_of_eq hcF.out) ?_
         rw [HN4.out]
         exact hmeas.out
end Go.Proofs.YtjjfomokecngoaaGreatDoor
