/-
  The model's MoveFrieze on a valid frieze. Condition: the slice lies in a block of its own.
-/
import Derived.Test.YtajmfeppnhkcdaaFzM
import Derived.Deep.RegionWith
import Derived.Deep.DeepCutAuto
namespace Go.Proofs.Ytajmfeppnhkcdaa
open Go.RowKit
set_option linter.unusedSimpArgs false
set_option linter.unusedVariables false

theorem IRow.size {g N : Nat} {F : Nat → Int} {W : World} (h : IRow g N F W) : g < W.heap.size := h.1
def MvCut (W : World) (h w n : Nat) (tx ty : Bool) (t g cap : Nat) (s6 : Value) (wx : World) : Prop :=
  ∃ bx m, s6 = .pointer (some ⟨bx, 0, none⟩) ∧ KF bx (h : Int) (w : Int) (.slice (some ⟨m, 0, none⟩) n n) wx ∧ IRow m (n * 1) (fun _ => 0) wx ∧ W.heap.size + 3 ≤ bx ∧ W.heap.size + 3 ≤ m ∧ bx ≠ m ∧ K3 W.heap.size (.int .i64 (h : Int)) (.int .i64 (w : Int)) (.slice (some ⟨g, 0, none⟩) n cap) wx ∧ K3 (W.heap.size + 1) (.bool tx) (.bool ty) (.int .i64 (t : Int)) wx ∧ KF (W.heap.size + 2) 0 0 (.slice none 0 0) wx ∧ Below W.heap.size W wx
set_option maxRecDepth 100000 in
set_option maxHeartbeats 16000000 in
theorem specMv_in {lo hi h w n t : Nat} {v : Value} {F : Nat → Int} {W : World} (p : FriI h w n F) (hv : SRow lo hi 1 v n F W) (tx ty : Bool) (ht : t < w) :
    Calls Try.prog 37 #[.agg #[.int .i64 (h : Int), .int .i64 (w : Int), v], .agg #[.bool tx, .bool ty, .int .i64 (t : Int)]] W (FAns (mvA h w n F tx ty (t : Int)) W) := by
  obtain ⟨i0, hinf, hz0, hz1, hz2⟩ := info_parts infoI64
  have R := Lib.hid hv
  have P := Lib.hid p
  have hf := p.b
  have h6 := p.h6
  have w1' := p.w1
  have w24 := p.w24
  have n144 := p.n144
  have HNN := Lib.hid p.nn
  obtain ⟨g, cap, rfl, hg, _, r⟩ := hv.irow p.n1
  have hgs := hv.1
  have hgw : g < W.heap.size := by omega
  have HA := Lib.hid (mvA_in (tx := tx) (ty := ty) p ht)
  have ht1000 : t ≤ 1000 := by omega
  have hin : inB (t : Int) 0 ((w : Int) - 1) = true := by simp [inB]; omega
  have wi : 1 ≤ (w : Int) ∧ (w : Int) ≤ 24 := by omega
  have n144i : (n : Int) ≤ 144 := by omega
  clear hv p
  go_enter Try.func37, Try.ntmps37
  go_wp2_with fail
  with_reducible refine (specIsFri_any _ _ (R.out.call (by repeat (first | with_reducible exact Below.refl _ _ | with_reducible assumption | with_reducible refine Below.setCell ?_ (by first | omega | (dsimp only; omega) | (simp <;> omega)) _ | with_reducible refine Below.alloc ?_ (by first | omega | (simp <;> omega)) _ | with_reducible refine bstep ?_ (by with_reducible assumption) | with_reducible refine Below.drew ?_)))).mono ?_
  rintro e w1 ⟨rfl, hb1⟩
  rw [hf]
  have B1 : Below W.heap.size W w1 := bstep (by repeat (first | with_reducible exact Below.refl _ _ | with_reducible assumption | with_reducible refine Below.setCell ?_ (by first | omega | (dsimp only; omega) | (simp <;> omega)) _ | with_reducible refine Below.alloc ?_ (by first | omega | (simp <;> omega)) _ | with_reducible refine bstep ?_ (by with_reducible assumption) | with_reducible refine Below.drew ?_)) hb1
  have KA1 : K3 W.heap.size (.int .i64 (h : Int)) (.int .i64 (w : Int)) (.slice (some ⟨g, 0, none⟩) n cap) w1 := (((K3.at _ rfl).alloc _).alloc _ : K3 _ _ _ _ (((W.alloc (.cells #[.int .i64 (h : Int), .int .i64 (w : Int), .slice (some ⟨g, 0, none⟩) n cap] 26)).alloc (.cells #[.bool tx, .bool ty, .int .i64 (t : Int)] 53)).alloc (.cells #[.int .i64 0, .int .i64 0, .slice none 0 0] 26))).call hb1
  have KB1 : K3 (W.heap.size + 1) (.bool tx) (.bool ty) (.int .i64 (t : Int)) w1 := ((K3.at _ (by simp)).alloc _ : K3 _ _ _ _ (((W.alloc (.cells #[.int .i64 (h : Int), .int .i64 (w : Int), .slice (some ⟨g, 0, none⟩) n cap] 26)).alloc (.cells #[.bool tx, .bool ty, .int .i64 (t : Int)] 53)).alloc (.cells #[.int .i64 0, .int .i64 0, .slice none 0 0] 26))).call hb1
  have KC1 : KF (W.heap.size + 2) 0 0 (.slice none 0 0) w1 := (KF.at (w := ((W.alloc (.cells #[.int .i64 (h : Int), .int .i64 (w : Int), .slice (some ⟨g, 0, none⟩) n cap] 26)).alloc (.cells #[.bool tx, .bool ty, .int .i64 (t : Int)] 53))) _ (by simp)).call hb1
  have ka0 := KA1.c0
  have ka1 := KA1.c1
  have ka2 := KA1.c2
  have kal := KA1.lt
  have kb2 := KB1.c2
  have kbl := KB1.lt
  have kcl := KC1.lt
  clear hb1
  go_wp2_with (go_at_call 61; with_reducible refine (l01In_any _ _ _ _).mono ?_; rintro e w' ⟨rfl, rfl⟩; rw [hin])
  obtain ⟨wa, hmka, howna, hgra⟩ := run_make_full (P := Try.prog) w1.drew w1.heap.size 22 2 i0 (.int .i64 0) 1 Try.underlying22 hinf hz0 hz1 .i64 .i64 n (by rw [hz2]; omega) (by unfold maxLen; omega) (by simp)
  obtain ⟨wb, hmkb, hownb, hgrb⟩ := run_make_full (P := Try.prog) ((w1.alloc (.cells #[.int .i64 0, .int .i64 0, .slice none 0 0] 26)).drew) (w1.heap.size + 1) 22 2 i0 (.int .i64 0) 1 Try.underlying22 hinf hz0 hz1 .i64 .i64 n (by rw [hz2]; omega) (by unfold maxLen; omega) (by simp)
  rw [show ((w1.alloc (.cells #[.int .i64 0, .int .i64 0, .slice none 0 0] 26)).drew).heap.size = w1.heap.size + 1 by simp] at hmkb hownb
  rw [show w1.drew.heap.size = w1.heap.size by simp] at hmka howna
  have RA := made_row howna
  have RB := made_row hownb
  have KAa := (KA1.drew).grown hgra (fun e => by cases e)
  have KBa := (KB1.drew).grown hgra (fun e => by cases e)
  have KCa := (KC1.drew).grown hgra (fun e => by cases e)
  have KAb := (KA1.alloc (.cells #[.int .i64 0, .int .i64 0, .slice none 0 0] 26)).drew.grown hgrb (fun e => by cases e)
  have KBb := (KB1.alloc (.cells #[.int .i64 0, .int .i64 0, .slice none 0 0] 26)).drew.grown hgrb (fun e => by cases e)
  have KCb := (KC1.alloc (.cells #[.int .i64 0, .int .i64 0, .slice none 0 0] 26)).drew.grown hgrb (fun e => by cases e)
  have KDb : KF w1.heap.size 0 0 (.slice none 0 0) wb := ((KF.at (w := w1) (T := 26) w1.heap.size rfl).drew).grown hgrb (fun e => by cases e)
  have Ba : Below W.heap.size W wa := Below.grown (B1.drew) hgra (by simp; omega) (fun r hr => by cases hr)
  have Bb : Below W.heap.size W wb := Below.grown ((B1.alloc (by omega) _).drew) hgrb (by simp; omega) (fun r hr => by cases hr)
  have kd0 := KDb.c0
  have kd1 := KDb.c1
  have kd2 := KDb.c2
  have kdf0 := KDb.f0
  have kdf1 := KDb.f1
  have kdf2 := KDb.f2
  have kdl := KDb.lt
  have kal1 := KAa.lt
  have kal2 := KAb.lt
  clear howna hownb hgra hgrb hinf hz0 hz1 hz2
  go_upto_region 1 with fail
  go_cut [6] (fun s6 wx => MvCut W h w n tx ty t g cap s6 wx)
  case first =>
    go_region_held3 (fun W9 => (W9.cell? ⟨W.heap.size, 0, none⟩ = some (.int .i64 (h : Int)) ∧ W9.cell? ⟨W.heap.size, 1, none⟩ = some (.int .i64 (w : Int)) ∧ W9.cell? ⟨W.heap.size, 2, none⟩ = some (.slice (some ⟨g, 0, none⟩) n cap))) ((refine K3.cells ?_) <;> (repeat (first | with_reducible assumption | with_reducible refine K3.drew ?_ | with_reducible refine IRow.drew ?_ | with_reducible refine K3.alloc ?_ _ | with_reducible refine K3.call ?_ (by with_reducible assumption) | with_reducible refine IRow.call ?_ (by with_reducible assumption) | ((with_reducible refine K3.far ?_ ?_); (first | omega | (dsimp only; omega))) | ((with_reducible refine IRow.far ?_ ?_); (first | omega | (dsimp only; omega)))))) (fail)
    · have := RA.1
      go_wp2_with fail
      go_meet
      exact ⟨wa.heap.size, w1.heap.size, rfl, KF.at _ rfl, RA.call ((Below.refl _ _).alloc (Nat.le_refl _) _), by omega, by omega, by omega, KAa.alloc _, KBa.alloc _, KCa.alloc _, Ba.alloc (by omega) _⟩
    · have := RB.1
      go_wp2_with fail
      go_meet
      exact ⟨w1.heap.size, w1.heap.size + 1, rfl, KDb.store _ _ _, IRow.far (by dsimp only; omega) (IRow.far (by dsimp only; omega) (IRow.far (by dsimp only; omega) RB)), by omega, by omega, by omega, K3.far (by dsimp only; omega) (K3.far (by dsimp only; omega) (K3.far (by dsimp only; omega) KAb)), K3.far (by dsimp only; omega) (K3.far (by dsimp only; omega) (K3.far (by dsimp only; omega) KBb)), KF.far (by dsimp only; omega) (KF.far (by dsimp only; omega) (KF.far (by dsimp only; omega) KCb)), ((Bb.setCell (by dsimp only; omega) _).setCell (by dsimp only; omega) _).setCell (by dsimp only; omega) _⟩
  case rest =>
    clear hmka hmkb RA RB KAa KBa KCa KAb KBb KCb KDb Ba Bb kd0 kd1 kd2 kdf0 kdf1 kdf2 kdl kal1 kal2 KA1 KB1 KC1 ka0 ka1 ka2 kal kb2 kbl kcl B1
    obtain ⟨bx, m, rfl, KD, R1, hbx, hm, hne, KA, KB, KC, hB⟩ := hcut
    go_wp2_with fail
    go_loopw [7, 8, 9, 10] (fun s7 _ _ _ X => ∃ y : Nat, s7 = .int .i64 (y : Int) ∧ y ≤ h ∧ IRow m (n * 1) (mvF (imN h w tx ty t) F (y * w)) X ∧ KF bx (h : Int) (w : Int) (.slice (some ⟨m, 0, none⟩) n n) X ∧ K3 W.heap.size (.int .i64 (h : Int)) (.int .i64 (w : Int)) (.slice (some ⟨g, 0, none⟩) n cap) X ∧ K3 (W.heap.size + 1) (.bool tx) (.bool ty) (.int .i64 (t : Int)) X ∧ KF (W.heap.size + 2) 0 0 (.slice none 0 0) X ∧ Below W.heap.size W X) (fun s7 _ _ _ _ => h - (intOf s7).toNat)
    case atStart => exact ⟨0, rfl, by omega, R1.ext (fun t _ => by simp [mvF]), KD, KA, KB, KC, hB⟩
    case round =>
      clear R1 KD KA KB KC hB
      obtain ⟨y, rfl, hy, R1, KD, KA, KB, KC, hB⟩ := hrel
      have ka0 := KA.c0
      have kal := KA.lt
      by_cases hy1 : y < h
      · have hy2 : (y : Int) < (h : Int) := by omega
        go_wp2_with fail
        go_loopw [8, 9, 10] (fun s8 _ _ X => ∃ x : Nat, s8 = .int .i64 (x : Int) ∧ x ≤ w ∧ IRow m (n * 1) (mvF (imN h w tx ty t) F (y * w + x)) X ∧ KF bx (h : Int) (w : Int) (.slice (some ⟨m, 0, none⟩) n n) X ∧ K3 W.heap.size (.int .i64 (h : Int)) (.int .i64 (w : Int)) (.slice (some ⟨g, 0, none⟩) n cap) X ∧ K3 (W.heap.size + 1) (.bool tx) (.bool ty) (.int .i64 (t : Int)) X ∧ KF (W.heap.size + 2) 0 0 (.slice none 0 0) X ∧ Below W.heap.size W X) (fun s8 _ _ _ => w - (intOf s8).toNat)
        case atStart => exact ⟨0, rfl, by omega, R1.ext (fun t _ => by simp), KD, KA, KB, KC, hB⟩
        case round =>
          clear R1 KD KA KB KC hB ka0 kal
          obtain ⟨x, rfl, hx, R1, KD, KA, KB, KC, hB⟩ := hrel
          have ka0 := KA.c0
          have ka1 := KA.c1
          have ka2 := KA.c2
          have kb0 := KB.c0
          have kb1 := KB.c1
          have kb2 := KB.c2
          have kal := KA.lt
          have kbl := KB.lt
          by_cases hx1 : x < w
          · have hx2 : (x : Int) < (w : Int) := by omega
            have hc : y * w + x < n := by rw [HNN.out]; exact row_lt hy1 hx1
            have e1 := cel_im P.out (s := t) tx ty hc
            have e2 := cel_self P.out hc
            rw [div_row hx1, mod_row hx1] at e1 e2
            have E1 := Lib.hid e1
            have E2 := Lib.hid e2
            have HC := Lib.hid hc
            clear e1 e2 hc
            go_wp2_with fail
            with_reducible refine (image_any _ _ tx ty (x : Int) (y : Int) _ h6 ht1000 (by omega) (by omega)).mono ?_
            rintro e w2 ⟨rfl, hb2⟩
            have KA2 := KA.call hb2
            have KB2 := KB.call hb2
            have KC2 := KC.call hb2
            have KD2 := KD.call hb2
            have R2 := R1.call hb2
            have B2 := bstep hB hb2
            have kc0 := KA2.c0
            have kc1 := KA2.c1
            have kc2 := KA2.c2
            have kcl := KA2.lt
            have kd2 := KD2.c2
            have kdl := KD2.lt
            have kcl3 := KC2.lt
            clear hb2 KA KB KC KD hB R1 ka0 ka1 ka2 kb0 kb1 kb2 kal kbl
            have HX := Lib.hid (show -100000 ≤ (t : Int) + imX tx (x : Int) ∧ (t : Int) + imX tx (x : Int) ≤ 100000 by unfold imX; rcases tx with _ | _ <;> simp <;> omega)
            have HY := Lib.hid (imY_bd (h := h) ty (y := (y : Int)) (by omega))
            generalize (t : Int) + imX tx (x : Int) = a at *
            generalize imY (h : Int) ty (y : Int) = b at *
            obtain ⟨f2, hf2⟩ : ∃ z, z = F (cel w (x : Int) (y : Int)) := ⟨_, rfl⟩
            have HF := Lib.hid hf2
            clear hf2
            obtain ⟨q1, q2⟩ := cel_of P.out HY.out (x := a)
            have bd1 := row_bd (y := b) (W := (w : Int)) (by have := HY.out; omega) wi
            have bd2 := mod_bd (x := a) (W := (w : Int)) wi.1
            have hw1 : IntKind.i64.wrap (b * (w : Int)) = b * (w : Int) := IntWalk.i64_in _ (by omega)
            have hw2 : IntKind.i64.wrap (b * (w : Int) + a % (w : Int)) = b * (w : Int) + a % (w : Int) := IntWalk.i64_in _ (by omega)
            have hi0 : (0 : Int) ≤ b * (w : Int) + a % (w : Int) := by omega
            have hi1 : b * (w : Int) + a % (w : Int) < (n : Int) := by omega
            have hkn1 : (b * (w : Int) + a % (w : Int)).toNat < n * 1 := by omega
            have E9 := Lib.hid (show (b * (w : Int) + a % (w : Int)).toNat = imN h w tx ty t (y * w + x) from E1.out)
            clear q1 q2 E1
            have HA2 := Lib.hid (fun X (hb : Below w2.heap.size w2 X) => (show Calls Try.prog 57 #[.agg #[.int .i64 (h : Int), .int .i64 (w : Int), .slice (some ⟨g, 0, none⟩) n cap], .int .i64 (x : Int), .int .i64 (y : Int)] X (fun e w' => e = .returned (.int .i64 f2) ∧ Below X.heap.size X w') by rw [HF.out]; exact l08At_any P.out (R.out.call (bstep B2 hb)) (x : Int) (y : Int) (by omega) (by omega)))
            go_wp2_with fail
            go_region_held3 (fun W9 => (W9.cell? ⟨W.heap.size, 0, none⟩ = some (.int .i64 (h : Int)) ∧ W9.cell? ⟨W.heap.size, 1, none⟩ = some (.int .i64 (w : Int)) ∧ W9.cell? ⟨W.heap.size, 2, none⟩ = some (.slice (some ⟨g, 0, none⟩) n cap)) ∧ W9.cell? ⟨bx, 2, none⟩ = some (.slice (some ⟨m, 0, none⟩) n n)) ((refine And.intro (K3.cells ?_) (KF.c2 (a := (h : Int)) (b := (w : Int)) ?_)) <;> (repeat (first | with_reducible assumption | with_reducible refine K3.drew ?_ | with_reducible refine IRow.drew ?_ | with_reducible refine K3.alloc ?_ _ | with_reducible refine K3.call ?_ (by with_reducible assumption) | with_reducible refine IRow.call ?_ (by with_reducible assumption) | ((with_reducible refine K3.far ?_ ?_); (first | omega | (dsimp only; omega))) | ((with_reducible refine IRow.far ?_ ?_); (first | omega | (dsimp only; omega))) | with_reducible refine KF.drew ?_ | with_reducible refine KF.call ?_ (by with_reducible assumption) | ((with_reducible refine KF.far ?_ ?_); (first | omega | (dsimp only; omega))))))
              (first
                | (go_at_call 43; with_reducible refine (l01Mod_eq _ _ _ HX.out wi.1 (by have := wi.2; omega)).mono ?_; rintro e w' ⟨rfl, rfl⟩)
                | (go_at_call 57; with_reducible refine (HA2.out _ (by repeat (first | with_reducible assumption | with_reducible exact Below.refl _ _ | with_reducible refine Below.drew ?_ | with_reducible refine below_drewN ?_ _ | with_reducible refine Below.alloc ?_ (by first | omega | (simp <;> omega)) _ | with_reducible refine bstep ?_ (by with_reducible assumption)))).mono ?_; rintro e w4 ⟨rfl, hb4⟩; have c4 : Below w2.heap.size w2 w4 := bstep (by repeat (first | with_reducible assumption | with_reducible exact Below.refl _ _ | with_reducible refine Below.drew ?_ | with_reducible refine below_drewN ?_ _ | with_reducible refine Below.alloc ?_ (by first | omega | (simp <;> omega)) _ | with_reducible refine bstep ?_ (by with_reducible assumption))) hb4; have R4 := R2.call c4; have r4c := R4.at _ hkn1; have r4f := R4.free _ hkn1; have r4l := R4.size; have KA4 := KA2.call c4; have KB4 := KB2.call c4; have KC4 := KC2.call c4; have KD4 := KD2.call c4; have B4 := bstep B2 c4))
            all_goals
              go_wp2
              go_roundw
              case rel =>
                refine ⟨x + 1, by go_num, by omega, ?_, KF.far (by dsimp only; omega) KD4, K3.far (by dsimp only; omega) KA4, K3.far (by dsimp only; omega) KB4, KF.far (by dsimp only; omega) KC4, B4.setCell (by dsimp only; omega) _⟩
                refine (R4.put _ hkn1 f2).ext fun u _ => ?_
                rw [show y * w + (x + 1) = (y * w + x) + 1 by omega]
                simp only [mvF]
                rw [E9.out, HF.out, E2.out]
              case measure => first | (simp [intOf]; done) | (simp [intOf]; omega)
          · obtain rfl : x = w := by omega
            go_wp2
            go_roundw
            case rel =>
              have e9 : (y + 1) * x = y * x + x := Nat.succ_mul y x
              exact ⟨y + 1, by go_num, by omega, R1.ext (fun t _ => by rw [e9]), KD, KA, KB, KC, hB⟩
            case measure => first | (simp [intOf]; done) | (simp [intOf]; omega)
      · obtain rfl : y = h := by omega
        have kd0 := KD.c0
        have kd1 := KD.c1
        have kd2 := KD.c2
        have kdl := KD.lt
        have kc0 := KC.c0
        have kc1 := KC.c1
        have kc2 := KC.c2
        have kcf0 := KC.f0
        have kcf1 := KC.f1
        have kcf2 := KC.f2
        have kcl := KC.lt
        have rl := R1.1
        have HR1 := Lib.hid R1
        clear R1
        go_wp2
        refine bodyPost_ret (v := .tuple #[.agg #[.int .i64 (y : Int), .int .i64 (w : Int), .slice (some ⟨m, 0, none⟩) n n], .int .i64 0]) (by simp [results, Try.results37, go_sem, *]) rfl ⟨_, _, _, _, _, _, HA.out, rfl, ?_, ?_⟩
        · suffices h9 : IRow m (n * 1) (mvN y w n F tx ty t) _ from ⟨Nat.le_refl _, by omega, .inr ⟨_, _, rfl, by omega, h9.1, h9⟩⟩
          refine IRow.ext ?_ (fun t9 _ => show mvF (imN y w tx ty t) F (y * w) t9 = mvF (imN y w tx ty t) F n t9 by rw [HNN.out])
          repeat (first | with_reducible exact HR1.out | (with_reducible refine IRow.far (by dsimp only; omega) ?_))
        · repeat (first | with_reducible exact Below.refl _ _ | with_reducible assumption | with_reducible refine Below.setCell ?_ (by first | omega | (dsimp only; omega) | (simp <;> omega)) _ | with_reducible refine Below.alloc ?_ (by first | omega | (simp <;> omega)) _ | with_reducible refine bstep ?_ (by with_reducible assumption) | with_reducible refine Below.drew ?_)
set_option maxHeartbeats 8000000 in
theorem specMv_out {lo hi h w n : Nat} {v : Value} {F : Nat → Int} {W : World} (p : FriI h w n F) (hv : SRow lo hi 1 v n F W) (tx ty : Bool) (s : Int) (hs : ¬ (0 ≤ s ∧ s < (w : Int))) :
    Calls Try.prog 37 #[.agg #[.int .i64 (h : Int), .int .i64 (w : Int), v], .agg #[.bool tx, .bool ty, .int .i64 s]] W (FAns (mvA h w n F tx ty s) W) := by
  have R := Lib.hid hv
  have hf := p.b
  have w24 := p.w24
  obtain ⟨ao, cap, rfl⟩ := hv.slice
  have HA := Lib.hid (mvA_out (tx := tx) (ty := ty) p hs)
  have hin : inB s 0 ((w : Int) - 1) = false := by simp [inB]; omega
  have wi : (w : Int) ≤ 24 := by omega
  clear hv p hs
  go_enter Try.func37, Try.ntmps37
  go_wp2_with fail
  with_reducible refine (specIsFri_any _ _ (R.out.call (by repeat (first | with_reducible exact Below.refl _ _ | with_reducible assumption | with_reducible refine Below.setCell ?_ (by first | omega | (dsimp only; omega) | (simp <;> omega)) _ | with_reducible refine Below.alloc ?_ (by first | omega | (simp <;> omega)) _ | with_reducible refine bstep ?_ (by with_reducible assumption) | with_reducible refine Below.drew ?_)))).mono ?_
  rintro e w1 ⟨rfl, hb1⟩
  rw [hf]
  have HB := Lib.hid (show Below W.heap.size W w1 from bstep (by repeat (first | with_reducible exact Below.refl _ _ | with_reducible assumption | with_reducible refine Below.setCell ?_ (by first | omega | (dsimp only; omega) | (simp <;> omega)) _ | with_reducible refine Below.alloc ?_ (by first | omega | (simp <;> omega)) _ | with_reducible refine bstep ?_ (by with_reducible assumption) | with_reducible refine Below.drew ?_)) hb1)
  have KC1 : KF (W.heap.size + 2) 0 0 (.slice none 0 0) w1 := (KF.at (w := ((W.alloc (.cells #[.int .i64 (h : Int), .int .i64 (w : Int), .slice ao n cap] 26)).alloc (.cells #[.bool tx, .bool ty, .int .i64 s] 53))) _ (by simp)).call hb1
  have kc0 := KC1.c0
  have kc1 := KC1.c1
  have kc2 := KC1.c2
  have kcf0 := KC1.f0
  have kcf1 := KC1.f1
  have kcf2 := KC1.f2
  have kcl := KC1.lt
  have k1 := bcell hb1
  have z1 := lt_alloc hb1
  clear KC1
  go_wp2_with (go_at_call 61; with_reducible refine (l01In_any _ _ _ _).mono ?_; rintro e w' ⟨rfl, rfl⟩; rw [hin])
  refine bodyPost_ret (v := .tuple #[.agg #[.int .i64 0, .int .i64 0, .slice none 0 0], .int .i64 2]) (by simp [results, Try.results37, go_sem, *]) rfl ⟨_, _, _, _, _, _, HA.out, rfl, ?_, ?_⟩
  · exact SRow.zero _ _ _
  · have hB := HB.out
    repeat (first | with_reducible exact Below.refl _ _ | with_reducible assumption | with_reducible refine Below.setCell ?_ (by first | omega | (dsimp only; omega) | (simp <;> omega)) _ | with_reducible refine Below.alloc ?_ (by first | omega | (simp <;> omega)) _ | with_reducible refine bstep ?_ (by with_reducible assumption) | with_reducible refine Below.drew ?_)
theorem specMv_any {lo hi n : Nat} {v : Value} {F : Nat → Int} {W : World} (a b : Int) (hv : SRow lo hi 1 v n F W) (tx ty : Bool) (s : Int) :
    Calls Try.prog 37 #[.agg #[.int .i64 a, .int .i64 b, v], .agg #[.bool tx, .bool ty, .int .i64 s]] W (FAns (mvA a b n F tx ty s) W) := by
  rcases hf : friB a b n F with _ | _
  · exact specMv_no a b hv tx ty s hf
  · obtain ⟨h, w, rfl, rfl, p⟩ := friB_of hf
    by_cases hs : 0 ≤ s ∧ s < (w : Int)
    · obtain ⟨t, rfl⟩ : ∃ t : Nat, s = (t : Int) := ⟨s.toNat, by omega⟩
      exact specMv_in p hv tx ty (by omega)
    · exact specMv_out p hv tx ty s hs
theorem implMv_any {lo hi n : Nat} {v : Value} {F : Nat → Int} {W : World} (a b : Int) (hv : SRow lo hi 1 v n F W) (tx ty : Bool) (s : Int) :
    Calls Try.prog 31 #[.agg #[.int .i64 a, .int .i64 b, v], .agg #[.bool tx, .bool ty, .int .i64 s]] W (FAns (mvA a b n F tx ty s) W) := by
  rcases hf : friB a b n F with _ | _
  · exact implMv_no a b hv tx ty s hf
  · obtain ⟨h, w, rfl, rfl, p⟩ := friB_of hf
    exact implMv_yes p hv tx ty s
end Go.Proofs.Ytajmfeppnhkcdaa
