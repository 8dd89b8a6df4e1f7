/-
 Contracts of CountKept in the program and in the model. Conditions: the list's length is below the model's bound, and the program's variable unitMatrix holds the unit.
-/
import Derived.Test.YtdgophfembpniaaGreatDoorKpF
import Derived.Test.YtdgophfembpniaaGreatDoorOb
import Derived.Deep.RegionHeld3
import Derived.IntWalk
import Derived.Laws.Rows
import Derived.Laws.Tables
namespace Go.Proofs.YtdgophfembpniaaGreatDoor
open Go.RowKit
set_option linter.unusedSimpArgs false
set_option linter.unusedVariables false

theorem pw_mul {k a : Int} (hk : 1 ≤ k ∧ k ≤ 10) (ha : 1 ≤ a ∧ a ≤ 1000000000) : 1 ≤ a * k ∧ a * k ≤ 10000000000 := by
 have h1 := Int.mul_le_mul_of_nonneg_left hk.1 (show 0 ≤ a by omega)
 have h2 := Int.mul_le_mul_of_nonneg_left hk.2 (show 0 ≤ a by omega)
 omega
/- the answer of CountKept -/
def ckB (f A B C : Int) (G : List M6) (k : Int) : Bool := grpB f A B C G && inB k 1 10
def ckR (f A B C : Int) (G : List M6) (k : Int) : Int × Int := bif ckB f A B C G k then pwK k (orbF A.toNat C.toNat B G).length 1 else (0, cod6 f A B C false)
def ckT (f A B C : Int) (G : List M6) (k : Int) : Value := .tuple #[.int .i64 (ckR f A B C G k).1, .int .i64 (ckR f A B C G k).2]
theorem ck_bad {f A B C k : Int} {G : List M6} (h : ckB f A B C G k = false) : ckT f A B C G k = .tuple #[.int .i64 0, .int .i64 (cod6 f A B C false)] := by simp [ckT, ckR, h]
theorem ck_good {f : Int} {p q : Nat} {B k : Int} {G : List M6} (h : ckB f (p : Int) B (q : Int) G k = true) : ckT f (p : Int) B (q : Int) G k = .tuple #[.int .i64 (pwK k (orbF p q B G).length 1).1, .int .i64 (pwK k (orbF p q B G).length 1).2] := by simp [ckT, ckR, h]
set_option maxRecDepth 100000 in
set_option maxHeartbeats 8000000 in
theorem limitedPower_any (k : Int) (N : Nat) (hk : 1 ≤ k ∧ k ≤ 10) (hN : N ≤ 64) (w : World) :
  Calls Tryz.prog 68 #[.int .i64 k, .int .i64 (N : Int), .int .i64 1000000000] w fun e w' => e = .returned (.tuple #[.int .i64 (pwK k N 1).1, .int .i64 (pwK k N 1).2]) ∧ w' = w := by
 obtain ⟨R, hR⟩ : ∃ R, R = pwK k N 1 := ⟨_, rfl⟩
 rw [← hR]
 have HK := Lib.hid hk
 have hN2 : (N : Int) ≤ 64 := by omega
 have HRR := Lib.hid hR
 clear hR hk
 go_enter Tryz.func68, Tryz.ntmps68
 go_wp2_with fail
 go_loopw [8, 10] (fun a n W => ∃ (x : Int) (j : Nat), a = .int .i64 x ∧ n = .int .i64 (j : Int) ∧ j ≤ N ∧ (1 ≤ x ∧ x ≤ 1000000000) ∧ R = pwK k (N - j) x ∧ W = w) (fun _ n _ => N - (intOf n).toNat)
 case atStart => exact ⟨1, 0, rfl, rfl, by omega, by omega, HRR.out, rfl⟩
 case round =>
  obtain ⟨x, j, rfl, rfl, hj, hx, hr, rfl⟩ := hrel
  have HR2 := Lib.hid hr
  clear hr
  by_cases hjn : j < N
  ·have hj2 : (j : Int) < (N : Int) := by omega
   have hxk := pw_mul HK.out hx
   have HE : Hid (pwK k (N - j) x = if x * k > 1000000000 then (0, 3) else pwK k (N - (j + 1)) (x * k)) := Lib.hid (by rw [show N - j = (N - (j + 1)) + 1 by omega, pwK])
   by_cases hbig : x * k > 1000000000
   ·have HE2 := Lib.hid (HR2.out.trans (HE.out.trans (if_pos hbig)))
    have HE3 : Hid (Ending.returned (.tuple #[.int .i64 0, .int .i64 3]) = Ending.returned (.tuple #[.int .i64 R.1, .int .i64 R.2])) := Lib.hid (by rw [HE2.out])
    clear HE2 HE
    go_wp2
    go_ret2
    exact ⟨HE3.out, rfl⟩
   ·have HE2 := Lib.hid (HR2.out.trans (HE.out.trans (if_neg hbig)))
    go_wp2
    go_roundw
    case rel => exact ⟨x * k, j + 1, rfl, by go_num, by omega, by omega, HE2.out, by first | rfl | trivial⟩
    case measure => first | (simp [intOf]; done) | (simp [intOf]; omega)
  ·obtain rfl : j = N := by omega
   have HE2 : Hid (R = (x, 0)) := Lib.hid (by rw [HR2.out, Nat.sub_self]; rfl)
   have HE3 : Hid (Ending.returned (.tuple #[.int .i64 x, .int .i64 0]) = Ending.returned (.tuple #[.int .i64 R.1, .int .i64 R.2])) := Lib.hid (by rw [HE2.out])
   clear HE2
   go_wp2
   go_ret2
   exact ⟨HE3.out, rfl⟩

set_option maxRecDepth 100000 in
set_option maxHeartbeats 8000000 in
theorem implCk_any {lo hi : Nat} {v : Value} {xs : List M6} {w : World} (f A B C k : Int) (h : SRow lo hi 6 v xs.length (fm xs) w) (hn : xs.length ≤ 1048576) (hU : UnitOK w) :
  Calls Tryz.prog 34 #[.int .i64 f, .agg #[.int .i64 A, .int .i64 B, .int .i64 C], v, .int .i64 k] w fun e w' => e = .returned (ckT f A B C xs k) ∧ Below w.heap.size w w' := by
 have L0 : Kt w.heap.size A B C (w.alloc (.cells #[.int .i64 A, .int .i64 B, .int .i64 C] 32)) := Kt.at _ rfl
 have B0 : Below w.heap.size w (w.alloc (.cells #[.int .i64 A, .int .i64 B, .int .i64 C] 32)) := (Below.refl _ _).alloc (Nat.le_refl _) _
 have A0 : SRow lo hi 6 v xs.length (fm xs) (w.alloc (.cells #[.int .i64 A, .int .i64 B, .int .i64 C] 32)) := h.grow B0 h.1
 have U0 : UnitOK (w.alloc (.cells #[.int .i64 A, .int .i64 B, .int .i64 C] 32)) := Kq.call hU B0
 have L0c := L0.cells
 have CG := Lib.hid (groupOf_any f A B C A0 hn U0)
 have HN := Lib.hid hn
 clear h hn hU A0 U0
 unfold GrpPost at CG
 rcases hg : grpB f A B C xs with _ | _
 ·have HV := Lib.hid (ck_bad (k := k) (show ckB f A B C xs k = false by simp [ckB, hg]))
  have hc := cod6_nz f A B C
  rw [hg] at CG
  clear hg
  generalize cod6 f A B C false = cc at CG hc HV
  have EA := Lib.hid (ret_val HV.out.symm)
  go_enter Tryz.func34, Tryz.ntmps34
  go_wp2_with fail
  refine CG.out.mono ?_
  rintro e w1 ⟨v1, rfl, _, hv, hb1⟩
  have hv1 := hv (by first | rfl | trivial)
  subst hv1
  have B1 := bstep B0 hb1
  clear hv hb1 B0 L0 L0c CG
  go_wp2
  go_ret2
  exact ⟨EA.out, B1⟩
 ·have hck := cod6_ok hg
  have hrg := cod6_rng hg
  rw [hg, hck] at CG
  by_cases hk : 1 ≤ k ∧ k ≤ 10
  ·obtain ⟨p, q, rfl, rfl⟩ := lat_nat7 (grp_good hg).1
   have HG := Lib.hid hg
   have HK := Lib.hid hk
   have HV := Lib.hid (ck_good (k := k) (show ckB f (p : Int) B (q : Int) xs k = true by simp [ckB, hg, inB, hk]))
   have EA := Lib.hid (ret_val HV.out.symm)
   have hk1 : ¬ k < 1 := by omega
   have hk2 : ¬ k > 10 := by omega
   have hlen : (orbF p q B xs).length ≤ 64 := orbF_len64 B xs (by have := latI_prod (grp_good hg).1; exact_mod_cast this)
   have HP := Lib.hid (fun W => limitedPower_any k (orbF p q B xs).length hk hlen W)
   clear hg hck hrg hk
   go_enter Tryz.func34, Tryz.ntmps34
   go_wp2_with fail
   refine CG.out.mono ?_
   rintro e w1 ⟨v1, rfl, hr, _, hb1⟩
   obtain ⟨g1, cap1, rfl, _, r1⟩ := own_irow (n := 0) (hr (by first | rfl | trivial)) (grp_pos HG.out) HN.out
   have B1 := bstep B0 hb1
   have L1 := L0.call hb1
   have L1c := L1.cells
   have CO := Lib.hid (orbI_any (cap := cap1) HG.out r1)
   clear hr hb1 B0 L0 L0c CG r1
   go_wp2_with fail
   refine CO.out.mono ?_
   rintro e w2 ⟨J, I, rfl, _, hb2⟩
   have B2 := bstep B1 hb2
   clear hb2 B1 L1 L1c CO
   have hst : Sem.run Tryz.prog (storeCells ⟨w2.heap.size, 0, none⟩ (rowI I).toList 0) (w2.alloc (.cells #[.int .i64 0, .int .i64 0, .int .i64 0, .int .i64 0, .int .i64 0, .int .i64 0, .int .i64 0, .int .i64 0, .int .i64 0, .int .i64 0, .int .i64 0, .int .i64 0, .int .i64 0, .int .i64 0, .int .i64 0, .int .i64 0, .int .i64 0, .int .i64 0, .int .i64 0, .int .i64 0, .int .i64 0, .int .i64 0, .int .i64 0, .int .i64 0, .int .i64 0, .int .i64 0, .int .i64 0, .int .i64 0, .int .i64 0, .int .i64 0, .int .i64 0, .int .i64 0, .int .i64 0, .int .i64 0, .int .i64 0, .int .i64 0, .int .i64 0, .int .i64 0, .int .i64 0, .int .i64 0, .int .i64 0, .int .i64 0, .int .i64 0, .int .i64 0, .int .i64 0, .int .i64 0, .int .i64 0, .int .i64 0, .int .i64 0, .int .i64 0, .int .i64 0, .int .i64 0, .int .i64 0, .int .i64 0, .int .i64 0, .int .i64 0, .int .i64 0, .int .i64 0, .int .i64 0, .int .i64 0, .int .i64 0, .int .i64 0, .int .i64 0, .int .i64 0] 100)) = .ok () ((w2.alloc (.cells #[.int .i64 0, .int .i64 0, .int .i64 0, .int .i64 0, .int .i64 0, .int .i64 0, .int .i64 0, .int .i64 0, .int .i64 0, .int .i64 0, .int .i64 0, .int .i64 0, .int .i64 0, .int .i64 0, .int .i64 0, .int .i64 0, .int .i64 0, .int .i64 0, .int .i64 0, .int .i64 0, .int .i64 0, .int .i64 0, .int .i64 0, .int .i64 0, .int .i64 0, .int .i64 0, .int .i64 0, .int .i64 0, .int .i64 0, .int .i64 0, .int .i64 0, .int .i64 0, .int .i64 0, .int .i64 0, .int .i64 0, .int .i64 0, .int .i64 0, .int .i64 0, .int .i64 0, .int .i64 0, .int .i64 0, .int .i64 0, .int .i64 0, .int .i64 0, .int .i64 0, .int .i64 0, .int .i64 0, .int .i64 0, .int .i64 0, .int .i64 0, .int .i64 0, .int .i64 0, .int .i64 0, .int .i64 0, .int .i64 0, .int .i64 0, .int .i64 0, .int .i64 0, .int .i64 0, .int .i64 0, .int .i64 0, .int .i64 0, .int .i64 0, .int .i64 0] 100)).setRow w2.heap.size (rowI I)) := store64 (I0 := fun _ => 0) (by rw [show (#[.int .i64 0, .int .i64 0, .int .i64 0, .int .i64 0, .int .i64 0, .int .i64 0, .int .i64 0, .int .i64 0, .int .i64 0, .int .i64 0, .int .i64 0, .int .i64 0, .int .i64 0, .int .i64 0, .int .i64 0, .int .i64 0, .int .i64 0, .int .i64 0, .int .i64 0, .int .i64 0, .int .i64 0, .int .i64 0, .int .i64 0, .int .i64 0, .int .i64 0, .int .i64 0, .int .i64 0, .int .i64 0, .int .i64 0, .int .i64 0, .int .i64 0, .int .i64 0, .int .i64 0, .int .i64 0, .int .i64 0, .int .i64 0, .int .i64 0, .int .i64 0, .int .i64 0, .int .i64 0, .int .i64 0, .int .i64 0, .int .i64 0, .int .i64 0, .int .i64 0, .int .i64 0, .int .i64 0, .int .i64 0, .int .i64 0, .int .i64 0, .int .i64 0, .int .i64 0, .int .i64 0, .int .i64 0, .int .i64 0, .int .i64 0, .int .i64 0, .int .i64 0, .int .i64 0, .int .i64 0, .int .i64 0, .int .i64 0, .int .i64 0, .int .i64 0] : Array Value) = rowI (fun _ => 0) from rfl]; exact World.alloc_heap_new _ _)
   have z2 := B2.size
   have B3 : Below w.heap.size w ((w2.alloc (.cells #[.int .i64 0, .int .i64 0, .int .i64 0, .int .i64 0, .int .i64 0, .int .i64 0, .int .i64 0, .int .i64 0, .int .i64 0, .int .i64 0, .int .i64 0, .int .i64 0, .int .i64 0, .int .i64 0, .int .i64 0, .int .i64 0, .int .i64 0, .int .i64 0, .int .i64 0, .int .i64 0, .int .i64 0, .int .i64 0, .int .i64 0, .int .i64 0, .int .i64 0, .int .i64 0, .int .i64 0, .int .i64 0, .int .i64 0, .int .i64 0, .int .i64 0, .int .i64 0, .int .i64 0, .int .i64 0, .int .i64 0, .int .i64 0, .int .i64 0, .int .i64 0, .int .i64 0, .int .i64 0, .int .i64 0, .int .i64 0, .int .i64 0, .int .i64 0, .int .i64 0, .int .i64 0, .int .i64 0, .int .i64 0, .int .i64 0, .int .i64 0, .int .i64 0, .int .i64 0, .int .i64 0, .int .i64 0, .int .i64 0, .int .i64 0, .int .i64 0, .int .i64 0, .int .i64 0, .int .i64 0, .int .i64 0, .int .i64 0, .int .i64 0, .int .i64 0] 100)).setRow w2.heap.size (rowI I)) := below_row (B2.alloc z2 _) z2 _
   generalize (w2.alloc (.cells #[.int .i64 0, .int .i64 0, .int .i64 0, .int .i64 0, .int .i64 0, .int .i64 0, .int .i64 0, .int .i64 0, .int .i64 0, .int .i64 0, .int .i64 0, .int .i64 0, .int .i64 0, .int .i64 0, .int .i64 0, .int .i64 0, .int .i64 0, .int .i64 0, .int .i64 0, .int .i64 0, .int .i64 0, .int .i64 0, .int .i64 0, .int .i64 0, .int .i64 0, .int .i64 0, .int .i64 0, .int .i64 0, .int .i64 0, .int .i64 0, .int .i64 0, .int .i64 0, .int .i64 0, .int .i64 0, .int .i64 0, .int .i64 0, .int .i64 0, .int .i64 0, .int .i64 0, .int .i64 0, .int .i64 0, .int .i64 0, .int .i64 0, .int .i64 0, .int .i64 0, .int .i64 0, .int .i64 0, .int .i64 0, .int .i64 0, .int .i64 0, .int .i64 0, .int .i64 0, .int .i64 0, .int .i64 0, .int .i64 0, .int .i64 0, .int .i64 0, .int .i64 0, .int .i64 0, .int .i64 0, .int .i64 0, .int .i64 0, .int .i64 0, .int .i64 0] 100)).setRow w2.heap.size (rowI I) = w3 at hst B3
   go_wp2_with fail
   refine (HP.out _).mono ?_
   rintro e w4 ⟨rfl, rfl⟩
   go_wp2
   go_ret2
   exact ⟨EA.out, B3⟩
  ·have HV := Lib.hid (ck_bad (k := k) (show ckB f A B C xs k = false by simp [ckB, hg, inB, hk]))
   rw [hrg] at HV
   have EA := Lib.hid (ret_val HV.out.symm)
   clear hg hck hrg HV
   go_enter Tryz.func34, Tryz.ntmps34
   go_wp2_with fail
   refine CG.out.mono ?_
   rintro e w1 ⟨v1, rfl, _, _, hb1⟩
   have B1 := bstep B0 hb1
   clear hb1 B0 L0 L0c CG
   by_cases hk1 : k < 1
   ·clear hk
    go_wp2
    go_ret2
    exact ⟨EA.out, B1⟩
   ·have hk2 : k > 10 := by omega
    clear hk
    go_wp2
    go_ret2
    exact ⟨EA.out, B1⟩

set_option maxRecDepth 100000 in
set_option maxHeartbeats 8000000 in
theorem specCk_any {lo hi : Nat} {v : Value} {xs : List M6} {w : World} (f A B C k : Int) (h : SRow lo hi 6 v xs.length (fm xs) w) (hn : xs.length ≤ 1048576) :
  Calls Tryz.prog 33 #[.int .i64 f, .agg #[.int .i64 A, .int .i64 B, .int .i64 C], v, .int .i64 k] w fun e w' => e = .returned (ckT f A B C xs k) ∧ Below w.heap.size w w' := by
 have HA := Lib.hid h
 have HN := Lib.hid hn
 have L0 : Kt w.heap.size A B C (w.alloc (.cells #[.int .i64 A, .int .i64 B, .int .i64 C] 32)) := Kt.at _ rfl
 have B0 : Below w.heap.size w (w.alloc (.cells #[.int .i64 A, .int .i64 B, .int .i64 C] 32)) := (Below.refl _ _).alloc (Nat.le_refl _) _
 have L0c := L0.cells
 obtain ⟨b, hb⟩ : ∃ b, b = (inB k 1 10 && grpB f A B C xs) := ⟨_, rfl⟩
 have HB : Hid (ckB f A B C xs k = b) := Lib.hid (by rw [hb, Bool.and_comm]; rfl)
 have CI := Lib.hid (fun W => l01In_any k 1 10 W)
 have CC : Hid (∀ W, Below w.heap.size w W → Calls Tryz.prog 55 #[.int .i64 f, .agg #[.int .i64 A, .int .i64 B, .int .i64 C], v, .bool (inB k 1 10)] W fun e w' => e = .returned (.int .i64 (cod6 f A B C b)) ∧ Below W.heap.size W w') := Lib.hid (fun W hW => by rw [hb]; exact l07Code_any f A B C (inB k 1 10) (HA.out.grow hW HA.out.1) HN.out)
 obtain ⟨ao, cap, rfl⟩ := srow_shape h
 generalize inB k 1 10 = ib at CI CC hb
 clear h hn hb
 rcases b with _ | _
 ·have HV := Lib.hid (ck_bad HB.out)
  have hc := cod6_nz f A B C
  generalize cod6 f A B C false = cc at CC hc HV
  have EA := Lib.hid (ret_val HV.out.symm)
  go_enter Tryz.func33, Tryz.ntmps33
  go_wp2_with fail
  go_region_held3 (fun W => (W.cell? ⟨w.heap.size, 0, none⟩ = some (.int .i64 A) ∧ W.cell? ⟨w.heap.size, 1, none⟩ = some (.int .i64 B) ∧ W.cell? ⟨w.heap.size, 2, none⟩ = some (.int .i64 C))) ((refine Kt.cells ?_; with_reducible repeat (first | assumption | refine Kt.drew ?_ | refine Kt.alloc ?_ _ | refine Kt.call ?_ (by assumption))))
   (first
    | (go_at_call 67; (with_reducible refine (CI.out _).mono ?_); rintro e u1 ⟨rfl, rfl⟩)
    | (go_at_call 55; (with_reducible refine (CC.out _ (by repeat (first | with_reducible assumption | with_reducible exact Below.refl _ _ | with_reducible refine Below.drew ?_ | with_reducible refine below_drewN ?_ _ | with_reducible refine Below.alloc ?_ (by first | omega | (simp <;> omega)) _ | with_reducible refine bstep ?_ (by with_reducible assumption)))).mono ?_); rintro e u2 ⟨rfl, hb2⟩; have c2 : Below w.heap.size w u2 := (by repeat (first | with_reducible assumption | with_reducible exact Below.refl _ _ | with_reducible refine Below.drew ?_ | with_reducible refine below_drewN ?_ _ | with_reducible refine Below.alloc ?_ (by first | omega | (simp <;> omega)) _ | with_reducible refine bstep ?_ (by with_reducible assumption))); have K2 := L0.drew.call hb2))
  all_goals
   go_wp2
   go_ret2
   exact ⟨EA.out, c2⟩
 ·have hg : grpB f A B C xs = true := by have := HB.out; unfold ckB at this; simp only [Bool.and_eq_true] at this; exact this.1
  have hk : 1 ≤ k ∧ k ≤ 10 := by have := HB.out; unfold ckB at this; simpa [hg, inB] using this
  obtain ⟨p, q, rfl, rfl⟩ := lat_nat7 (grp_good hg).1
  have HG := Lib.hid hg
  have HK := Lib.hid hk
  have HV := Lib.hid (ck_good HB.out)
  have hck := cod6_ok hg
  rw [hck] at CC
  have hlen : (orbF p q B xs).length ≤ 64 := orbF_len64 B xs (by have := latI_prod (grp_good hg).1; exact_mod_cast this)
  clear hg hck hk
  have CO8 : Hid (∀ W, Below w.heap.size w W → Calls Tryz.prog 53 #[.agg #[.int .i64 ((p : Int)), .int .i64 B, .int .i64 ((q : Int))], .slice ao xs.length cap] W fun e w' => ∃ (g cap : Nat) (vs : List Value), e = .returned (.slice (some ⟨g, 0, none⟩) vs.length cap) ∧ vs.length = (orbF p q B xs).length ∧ Below W.heap.size W w') := Lib.hid (fun W hW => Calls.mono (l07Orbits_any HG.out (HA.out.grow hW HA.out.1)) (fun e w' (hh : ∃ (g cap : Nat) (vs : List Value), _ ∧ _ ∧ OrbV (p : Int) B (q : Int) xs W.heap.size (orbF p q B xs) vs w' ∧ _) => by obtain ⟨g, cap, vs, h1, h2, h3, h4⟩ := hh; exact ⟨g, cap, vs, h1, h3.1, h4⟩))
  obtain ⟨R, hR⟩ : ∃ R, R = pwK k (orbF p q B xs).length 1 := ⟨_, rfl⟩
  rw [← hR] at HV
  have EA := Lib.hid (ret_val HV.out.symm)
  generalize (orbF p q B xs).length = N at CO8 hlen hR
  have HRR := Lib.hid hR
  clear hR HV
  go_enter Tryz.func33, Tryz.ntmps33
  go_wp2_with fail
  go_region_held3 (fun W => (W.cell? ⟨w.heap.size, 0, none⟩ = some (.int .i64 (p : Int)) ∧ W.cell? ⟨w.heap.size, 1, none⟩ = some (.int .i64 B) ∧ W.cell? ⟨w.heap.size, 2, none⟩ = some (.int .i64 (q : Int)))) ((refine Kt.cells ?_; with_reducible repeat (first | assumption | refine Kt.drew ?_ | refine Kt.alloc ?_ _ | refine Kt.call ?_ (by assumption))))
   (first
    | (go_at_call 67; (with_reducible refine (CI.out _).mono ?_); rintro e u1 ⟨rfl, rfl⟩)
    | (go_at_call 55; (with_reducible refine (CC.out _ (by repeat (first | with_reducible assumption | with_reducible exact Below.refl _ _ | with_reducible refine Below.drew ?_ | with_reducible refine below_drewN ?_ _ | with_reducible refine Below.alloc ?_ (by first | omega | (simp <;> omega)) _ | with_reducible refine bstep ?_ (by with_reducible assumption)))).mono ?_); rintro e u2 ⟨rfl, hb2⟩; have c2 : Below w.heap.size w u2 := (by repeat (first | with_reducible assumption | with_reducible exact Below.refl _ _ | with_reducible refine Below.drew ?_ | with_reducible refine below_drewN ?_ _ | with_reducible refine Below.alloc ?_ (by first | omega | (simp <;> omega)) _ | with_reducible refine bstep ?_ (by with_reducible assumption))); have K2 := L0.drew.call hb2))
  all_goals
   have k2c := K2.cells
   clear CI CC L0 L0c B0 hb2
   go_wp2_with fail
   refine (CO8.out _ c2).mono ?_
   rintro e w3 ⟨g, cap2, vs, rfl, hvs, hb3⟩
   have B3 := bstep c2 hb3
   clear hb3 c2 K2 k2c CO8
   rw [hvs]
   clear hvs
   go_wp2_with fail
   go_loopw [11, 12] (fun a n W => ∃ (x : Int) (j : Nat), a = .int .i64 x ∧ n = .int .i64 (j : Int) ∧ j ≤ 64 ∧ (1 ≤ x ∧ x ≤ 1000000000) ∧ R = pwK k j x ∧ Below w.heap.size w W) (fun _ n _ => (intOf n).toNat)
   case atStart => exact ⟨1, N, rfl, rfl, hlen, by omega, HRR.out, B3⟩
   case round =>
    clear B3
    obtain ⟨x, j, rfl, rfl, hj, hx, hr, hB⟩ := hrel
    have HR2 := Lib.hid hr
    have hbj : (j : Int) ≤ 64 := by omega
    clear hr
    by_cases hjn : 0 < j
    ·have hj2 : (j : Int) > 0 := by omega
     have hxk := pw_mul HK.out hx
     have HE : Hid (pwK k j x = if x * k > 1000000000 then (0, 3) else pwK k (j - 1) (x * k)) := Lib.hid (by obtain ⟨i, rfl⟩ : ∃ i, j = i + 1 := ⟨j - 1, by omega⟩; rw [pwK]; rfl)
     by_cases hbig : x * k > 1000000000
     ·have HE2 := Lib.hid (HR2.out.trans (HE.out.trans (if_pos hbig)))
      have HE3 := Lib.hid (show Ending.returned (.tuple #[.int .i64 0, .int .i64 3]) = _ from (by rw [HE2.out] : Ending.returned (.tuple #[.int .i64 0, .int .i64 3]) = Ending.returned (.tuple #[.int .i64 R.1, .int .i64 R.2])).trans EA.out)
      clear HE2 HE
      go_wp2
      go_ret2
      exact ⟨HE3.out, hB⟩
     ·have HE2 := Lib.hid (HR2.out.trans (HE.out.trans (if_neg hbig)))
      have HJ := Lib.hid hjn
      go_wp2
      go_roundw
      case rel => exact ⟨x * k, j - 1, rfl, by (have := HJ.out; first | (rw [show ((j - 1 : Nat) : Int) = (j : Int) - 1 by omega]; done) | go_num | omega), by omega, by omega, HE2.out, hB⟩
      case measure => (have := HJ.out); first | (simp [intOf]; done) | (simp [intOf]; omega)
    ·obtain rfl : j = 0 := by omega
     have HE2 : Hid (R = (x, 0)) := Lib.hid (by rw [HR2.out]; rfl)
     have HE3 := Lib.hid (show Ending.returned (.tuple #[.int .i64 x, .int .i64 0]) = _ from (by rw [HE2.out] : Ending.returned (.tuple #[.int .i64 x, .int .i64 0]) = Ending.returned (.tuple #[.int .i64 R.1, .int .i64 R.2])).trans EA.out)
     clear HE2
     go_wp2
     go_ret2
     exact ⟨HE3.out, hB⟩

end Go.Proofs.YtdgophfembpniaaGreatDoor
