/-
  Contracts of chapter 2's PowerMat (the program's function and the model's have one and the same answer), and the walk of its exact law. Condition: the program's variable unitMatrix holds the unit.
-/
import Derived.Test.YtcphadkgmchnfaaDoorOrd
import Derived.Deep.RegionWith
namespace Go.Proofs.YtcphadkgmchnfaaDoor
open Go.RowKit
set_option linter.unusedSimpArgs false
set_option linter.unusedVariables false

def powR (a b c d n : Int) : Int × Int × Int × Int × Int :=
  bif matB a b c d then (bif inB n 0 100 then (bif okP a b c d n.toNat then ((pw a b c d n.toNat).1, (pw a b c d n.toNat).2.1, (pw a b c d n.toNat).2.2.1, (pw a b c d n.toNat).2.2.2, 0) else (0, 0, 0, 0, 3)) else (0, 0, 0, 0, 2)) else (0, 0, 0, 0, 1)
def powV (a b c d n : Int) : Value := .tuple #[.agg #[.int .i64 ((powR a b c d n).1), .int .i64 ((powR a b c d n).2.1), .int .i64 ((powR a b c d n).2.2.1), .int .i64 ((powR a b c d n).2.2.2.1)], .int .i64 (powR a b c d n).2.2.2.2]
theorem okP_le {a b c d : Int} : ∀ {n k : Nat}, k ≤ n → okP a b c d n = true → okP a b c d k = true := by
  intro n
  induction n with
  | zero => intro k hk _; rw [show k = 0 by omega]; rfl
  | succ n ih =>
    intro k hk h
    by_cases e : k = n + 1
    · rw [e]; exact h
    · simp [okP] at h
      exact ih (by omega) h.1
theorem okP_lim {a b c d : Int} : ∀ {k : Nat}, okP a b c d k = true → limP (pw a b c d k) = true := by
  intro k h
  cases k with
  | zero => rfl
  | succ k => simp [okP] at h; exact h.2
theorem pow_no {a b c d n : Int} {k : Nat} (hu : matB a b c d = true) (hn : inB n 0 100 = true) (hk : (k : Int) + 1 ≤ n) (h : limP (pw a b c d (k + 1)) = false) : powV a b c d n = .tuple #[.agg #[.int .i64 0, .int .i64 0, .int .i64 0, .int .i64 0], .int .i64 3] := by
  have : okP a b c d n.toNat = false := by
    cases e : okP a b c d n.toNat
    · rfl
    · have := okP_lim (okP_le (k := k + 1) (by omega) e)
      rw [h] at this; cases this
  simp [powV, powR, hu, hn, this]
theorem pow_yes {a b c d : Int} {k : Nat} {p q r s : Int} (hu : matB a b c d = true) (hn : inB (k : Int) 0 100 = true) (h : okP a b c d k = true) (hp : pw a b c d k = (p, q, r, s)) : powV a b c d (k : Int) = .tuple #[.agg #[.int .i64 p, .int .i64 q, .int .i64 r, .int .i64 s], .int .i64 0] := by
  simp [powV, powR, hu, hn, h, hp]

def PowRel (w : World) (g : Nat) (a b c d n : Int) (i : Value) (W : World) : Prop :=
  ∃ (k : Nat) (p q r s : Int), i = .int .i64 k ∧ (k : Int) ≤ n ∧ w.heap.size + 1 < g ∧ Kq w.heap.size a b c d W ∧ KR g p q r s W ∧ KR (w.heap.size + 1) 0 0 0 0 W ∧ pw a b c d k = (p, q, r, s) ∧ okP a b c d k = true ∧ Below w.heap.size w W

set_option maxHeartbeats 4000000 in
theorem specPow_any (a b c d n : Int) (w : World) :
    Calls Tryd.prog 14 #[.agg #[.int .i64 a, .int .i64 b, .int .i64 c, .int .i64 d], .int .i64 n] w fun e w' => e = .returned (powV a b c d n) ∧ Below w.heap.size w w' := by
  rcases hu : matB a b c d with _ | _
  · have ea : powV a b c d n = .tuple #[.agg #[.int .i64 0, .int .i64 0, .int .i64 0, .int .i64 0], .int .i64 1] := by simp [powV, powR, hu]
    have EA := Lib.hid ea
    clear ea
    go_enter Tryd.func14, Tryd.ntmps14
    go_wp2_with fail
    refine (specIsMat_any _ _ _ _ _).mono ?_
    rintro e w1 ⟨rfl, hb1⟩
    obtain ⟨hc1, hf1⟩ := bcell hb1
    obtain ⟨hz1a, hz1b⟩ : w.heap.size < w1.heap.size ∧ w.heap.size + 1 < w1.heap.size := by have := hb1.size; (try simp at this); omega
    go_wp2
    refine bodyPost_ret (v := .tuple #[.agg #[.int .i64 0, .int .i64 0, .int .i64 0, .int .i64 0], .int .i64 1]) (by simp [results, Tryd.results14, go_sem, hc1, hz1a, hz1b]) rfl ⟨ret_val EA.out.symm, ?_⟩
    repeat (first | exact Below.refl _ _ | refine Below.setCell ?_ (by first | omega | (simp <;> omega)) _ | refine Below.alloc ?_ (by first | omega | (simp <;> omega)) _ | refine bstep ?_ (by assumption) | refine Below.drew ?_)
  have lu := matB_lim hu
  rcases hn : inB n 0 100 with _ | _
  · have ea : powV a b c d n = .tuple #[.agg #[.int .i64 0, .int .i64 0, .int .i64 0, .int .i64 0], .int .i64 2] := by simp [powV, powR, hu, hn]
    have EA := Lib.hid ea
    clear ea
    go_enter Tryd.func14, Tryd.ntmps14
    go_wp2_with fail
    refine (specIsMat_any _ _ _ _ _).mono ?_
    rintro e w1 ⟨rfl, hb1⟩
    obtain ⟨hc1, hf1⟩ := bcell hb1
    obtain ⟨hz1a, hz1b⟩ : w.heap.size < w1.heap.size ∧ w.heap.size + 1 < w1.heap.size := by have := hb1.size; (try simp at this); omega
    go_wp2_with fail
    refine (l01In_any _ _ _ _).mono ?_
    rintro e w2 ⟨rfl, rfl⟩
    go_wp2
    refine bodyPost_ret (v := .tuple #[.agg #[.int .i64 0, .int .i64 0, .int .i64 0, .int .i64 0], .int .i64 2]) (by simp [results, Tryd.results14, go_sem, hc1, hz1a, hz1b]) rfl ⟨ret_val EA.out.symm, ?_⟩
    repeat (first | exact Below.refl _ _ | refine Below.setCell ?_ (by first | omega | (simp <;> omega)) _ | refine Below.alloc ?_ (by first | omega | (simp <;> omega)) _ | refine bstep ?_ (by assumption) | refine Below.drew ?_)
  have hn2 := inB_bd hn
  go_enter Tryd.func14, Tryd.ntmps14
  go_wp2_with fail
  refine (specIsMat_any _ _ _ _ _).mono ?_
  rintro e w1 ⟨rfl, hb1⟩
  obtain ⟨hc1, hf1⟩ := bcell hb1
  obtain ⟨hz1a, hz1b⟩ : w.heap.size < w1.heap.size ∧ w.heap.size + 1 < w1.heap.size := by have := hb1.size; (try simp at this); omega
  go_wp2_with fail
  refine (l01In_any _ _ _ _).mono ?_
  rintro e w2 ⟨rfl, rfl⟩
  go_wp2_with fail
  refine (l02Unit_any _).mono ?_
  rintro e w3 ⟨rfl, hb3⟩
  have M3 : Kq w.heap.size a b c d w3 := Kq.call (Kq.call (Kq.alloc (Kq.at _ rfl) _) hb1) hb3
  have R3 : KR (w.heap.size + 1) 0 0 0 0 w3 := KR.call (KR.call (KR.at _ (by simp)) hb1) hb3
  have B3 : Below w.heap.size w w3 := by repeat (first | exact Below.refl _ _ | refine Below.setCell ?_ (by first | omega | (simp <;> omega)) _ | refine Below.alloc ?_ (by first | omega | (simp <;> omega)) _ | refine bstep ?_ (by assumption) | refine Below.drew ?_)
  clear hb1 hb3 hc1 hf1 hz1a hz1b
  have hg : w.heap.size + 1 < w3.heap.size := R3.lt
  go_wp2_with fail
  go_loopw [7] (fun i W => PowRel w w3.heap.size a b c d n i W) (fun i _ => (101 - intOf i).toNat)
  case atStart =>
    exact ⟨0, 1, 0, 0, 1, rfl, by omega, hg, M3.alloc _, KR.at _ rfl, R3.alloc _, rfl, rfl, B3.alloc (by omega) _⟩
  case round =>
    clear M3 R3 B3
    obtain ⟨k, p, q, r, s, rfl, hk, hg', M, R, RR, hpw, hok, hB⟩ := hrel
    clear hg'
    have hp := okP_lim hok
    rw [hpw] at hp
    have hp : limB p q r s = true := hp
    have HPW := Lib.hid hpw
    have HOK := Lib.hid hok
    clear hpw hok
    obtain ⟨c0, c1, c2, c3, c4, c5, c6, c7, c8⟩ := id R
    by_cases hkn : (k : Int) = n
    · subst hkn
      have HN0 := Lib.hid hn
      clear hn
      have ng : ¬ w.heap.size + 1 = w3.heap.size := by omega
      have EA := Lib.hid (pow_yes hu HN0.out HOK.out HPW.out)
      obtain ⟨d0, d1, d2, d3, d4, d5, d6, d7, d8⟩ := id RR
      go_wp2
      refine bodyPost_ret (v := .tuple #[.agg #[.int .i64 p, .int .i64 q, .int .i64 r, .int .i64 s], .int .i64 0]) (by simp [results, Tryd.results14, go_sem, *]) rfl ⟨ret_val EA.out.symm, ?_⟩
      repeat (first | assumption | refine Below.setCell ?_ (by first | omega | (simp <;> omega)) _ | refine Below.alloc ?_ (by first | omega | (simp <;> omega)) _ | refine bstep ?_ (by assumption) | refine Below.drew ?_)
    · have hk7 : (k : Int) < n := by omega
      obtain ⟨m0, m1, m2, m3⟩ := M.cells
      go_wp2_with fail
      refine (l02Multiply_any _ _ _ _ _ _ _ _ _ lu hp).mono ?_
      rintro e w2 ⟨rfl, hb2⟩
      have HN := Lib.hid (show pw a b c d (k + 1) = (a * p + b * r, a * q + b * s, c * p + d * r, c * q + d * s) by show mulP a b c d (pw a b c d k) = _; rw [HPW.out]; rfl)
      clear HPW m0 m1 m2 m3 c0 c1 c2 c3 c4 c5 c6 c7 c8
      generalize a * p + b * r = p' at *
      generalize a * q + b * s = q' at *
      generalize c * p + d * r = r' at *
      generalize c * q + d * s = s' at *
      have M2 := M.call hb2
      have R2 := R.call hb2
      have RR2 := RR.call hb2
      have B2 := bstep hB hb2
      clear M R RR hb2 hB
      obtain ⟨r0, r1, r2, r3, r4, r5, r6, r7, r8⟩ := id R2
      go_wp2_with fail
      refine (l02Small_any _ _ _ _ _).mono ?_
      rintro e w4 ⟨rfl, hb4⟩
      have hgm : w.heap.size < w3.heap.size := by omega
      have M3 : Kq w.heap.size a b c d w4 := Kq.call (Kq.put hgm (Kq.put hgm (Kq.put hgm (Kq.put hgm M2)))) hb4
      have R3 : KR w3.heap.size p' q' r' s' w4 := KR.call (KR.store R2 p' q' r' s') hb4
      have RR : KR (w.heap.size + 1) 0 0 0 0 w4 := KR.call (KR.put hg (KR.put hg (KR.put hg (KR.put hg RR2)))) hb4
      have hs1 : w.heap.size ≤ w3.heap.size := by omega
      have B3 : Below w.heap.size w w4 := bstep (Below.setCell (Below.setCell (Below.setCell (Below.setCell B2 hs1 _) hs1 _) hs1 _) hs1 _) hb4
      clear M2 R2 RR2 B2 hb4 r0 r1 r2 r3 r4 r5 r6 r7 r8
      rcases hl : limB p' q' r' s' with _ | _
      · have hno : limP (pw a b c d (k + 1)) = false := by rw [HN.out]; exact hl
        have HE := Lib.hid (pow_no hu hn (by omega) hno)
        clear hno
        have EA := Lib.hid (HE.out)
        obtain ⟨d0, d1, d2, d3, d4, d5, d6, d7, d8⟩ := id RR
        go_wp2
        refine bodyPost_ret (v := .tuple #[.agg #[.int .i64 0, .int .i64 0, .int .i64 0, .int .i64 0], .int .i64 3]) (by simp [results, Tryd.results14, go_sem, *]) rfl ⟨ret_val EA.out.symm, ?_⟩
        repeat (first | assumption | refine Below.setCell ?_ (by first | omega | (simp <;> omega)) _ | refine Below.alloc ?_ (by first | omega | (simp <;> omega)) _ | refine bstep ?_ (by assumption) | refine Below.drew ?_)
      · have hyes : okP a b c d (k + 1) = true := by
          have := HOK.out
          simp only [okP, this, Bool.true_and]; rw [HN.out]; exact hl
        have HY := Lib.hid hyes
        clear hyes
        go_wp2
        go_roundw
        case rel => exact ⟨k + 1, p', q', r', s', by go_num, by omega, hg, M3, R3, RR, HN.out, HY.out, B3⟩
        case measure => simp [intOf]; omega

set_option maxHeartbeats 4000000 in
theorem implPow_any (a b c d n : Int) (w : World) (hU : UnitOK w) :
    Calls Tryd.prog 13 #[.agg #[.int .i64 a, .int .i64 b, .int .i64 c, .int .i64 d], .int .i64 n] w fun e w' => e = .returned (powV a b c d n) ∧ Below w.heap.size w w' := by
  rcases hu : matB a b c d with _ | _
  · have ea : powV a b c d n = .tuple #[.agg #[.int .i64 0, .int .i64 0, .int .i64 0, .int .i64 0], .int .i64 1] := by simp [powV, powR, hu]
    have EA := Lib.hid ea
    clear ea
    go_enter Tryd.func13, Tryd.ntmps13
    go_wp2_with fail
    refine (implIsMat_any _ _ _ _ _).mono ?_
    rintro e w1 ⟨rfl, hb1⟩
    obtain ⟨hc1, hf1⟩ := bcell hb1
    obtain ⟨hz1a, hz1b⟩ : w.heap.size < w1.heap.size ∧ w.heap.size + 1 < w1.heap.size := by have := hb1.size; (try simp at this); omega
    go_wp2
    refine bodyPost_ret (v := .tuple #[.agg #[.int .i64 0, .int .i64 0, .int .i64 0, .int .i64 0], .int .i64 1]) (by simp [results, Tryd.results13, go_sem, hc1, hz1a, hz1b]) rfl ⟨ret_val EA.out.symm, ?_⟩
    repeat (first | exact Below.refl _ _ | refine Below.setCell ?_ (by first | omega | (simp <;> omega)) _ | refine Below.alloc ?_ (by first | omega | (simp <;> omega)) _ | refine bstep ?_ (by assumption) | refine Below.drew ?_)
  have lu := matB_lim hu
  rcases hn : inB n 0 100 with _ | _
  · have ea : powV a b c d n = .tuple #[.agg #[.int .i64 0, .int .i64 0, .int .i64 0, .int .i64 0], .int .i64 2] := by simp [powV, powR, hu, hn]
    have hn' : n < 0 ∨ 100 < n := by simp [inB] at hn; omega
    rcases hn' with hn' | hn'
    · have EA := Lib.hid ea
      clear ea
      go_enter Tryd.func13, Tryd.ntmps13
      go_wp2_with fail
      refine (implIsMat_any _ _ _ _ _).mono ?_
      rintro e w1 ⟨rfl, hb1⟩
      obtain ⟨hc1, hf1⟩ := bcell hb1
      obtain ⟨hz1a, hz1b⟩ : w.heap.size < w1.heap.size ∧ w.heap.size + 1 < w1.heap.size := by have := hb1.size; (try simp at this); omega
      go_wp2
      refine bodyPost_ret (v := .tuple #[.agg #[.int .i64 0, .int .i64 0, .int .i64 0, .int .i64 0], .int .i64 2]) (by simp [results, Tryd.results13, go_sem, hc1, hz1a, hz1b]) rfl ⟨ret_val EA.out.symm, ?_⟩
      repeat (first | exact Below.refl _ _ | refine Below.setCell ?_ (by first | omega | (simp <;> omega)) _ | refine Below.alloc ?_ (by first | omega | (simp <;> omega)) _ | refine bstep ?_ (by assumption) | refine Below.drew ?_)
    · have hn0 : ¬ n < 0 := by omega
      have EA := Lib.hid ea
      clear ea
      go_enter Tryd.func13, Tryd.ntmps13
      go_wp2_with fail
      refine (implIsMat_any _ _ _ _ _).mono ?_
      rintro e w1 ⟨rfl, hb1⟩
      obtain ⟨hc1, hf1⟩ := bcell hb1
      obtain ⟨hz1a, hz1b⟩ : w.heap.size < w1.heap.size ∧ w.heap.size + 1 < w1.heap.size := by have := hb1.size; (try simp at this); omega
      go_wp2
      refine bodyPost_ret (v := .tuple #[.agg #[.int .i64 0, .int .i64 0, .int .i64 0, .int .i64 0], .int .i64 2]) (by simp [results, Tryd.results13, go_sem, hc1, hz1a, hz1b]) rfl ⟨ret_val EA.out.symm, ?_⟩
      repeat (first | exact Below.refl _ _ | refine Below.setCell ?_ (by first | omega | (simp <;> omega)) _ | refine Below.alloc ?_ (by first | omega | (simp <;> omega)) _ | refine bstep ?_ (by assumption) | refine Below.drew ?_)
  have hn2 := inB_bd hn
  have hn3 : ¬ n < 0 := by omega
  have hn4 : ¬ 100 < n := by omega
  go_enter Tryd.func13, Tryd.ntmps13
  go_wp2_with fail
  refine (implIsMat_any _ _ _ _ _).mono ?_
  rintro e w1 ⟨rfl, hb1⟩
  have M1 : Kq w.heap.size a b c d w1 := Kq.call (Kq.alloc (Kq.at _ rfl) _) hb1
  have R1 : KR (w.heap.size + 1) 0 0 0 0 w1 := KR.call (KR.at _ (by simp)) hb1
  have B1 : Below w.heap.size w w1 := by repeat (first | exact Below.refl _ _ | refine Below.setCell ?_ (by first | omega | (simp <;> omega)) _ | refine Below.alloc ?_ (by first | omega | (simp <;> omega)) _ | refine bstep ?_ (by assumption) | refine Below.drew ?_)
  have U1 : UnitOK w1 := UnitOK.call (UnitOK.alloc (UnitOK.alloc hU _) _) hb1
  obtain ⟨u0, u1, u2, u3, u4⟩ := id U1
  clear hb1
  have hg : w.heap.size + 1 < w1.heap.size := R1.lt
  go_wp2_with fail
  go_loopw [20] (fun i W => PowRel w w1.heap.size a b c d n i W) (fun i _ => (101 - intOf i).toNat)
  case atStart =>
    exact ⟨0, 1, 0, 0, 1, rfl, by omega, hg, M1.alloc _, KR.at _ rfl, R1.alloc _, rfl, rfl, B1.alloc (by omega) _⟩
  case round =>
    clear M1 R1 B1 u0 u1 u2 u3 u4 U1
    obtain ⟨k, p, q, r, s, rfl, hk, hg', M, R, RR, hpw, hok, hB⟩ := hrel
    clear hg'
    have hp := okP_lim hok
    rw [hpw] at hp
    have hp : limB p q r s = true := hp
    have HPW := Lib.hid hpw
    have HOK := Lib.hid hok
    clear hpw hok
    obtain ⟨c0, c1, c2, c3, c4, c5, c6, c7, c8⟩ := id R
    by_cases hkn : (k : Int) = n
    · subst hkn
      have HN0 := Lib.hid hn
      clear hn
      have ng : ¬ w.heap.size + 1 = w1.heap.size := by omega
      have EA := Lib.hid (pow_yes hu HN0.out HOK.out HPW.out)
      go_wp2_with fail
      refine (mat_any _ _ _ _ _).mono ?_
      rintro e w2 ⟨rfl, hb2⟩
      have RR2 := RR.call hb2
      obtain ⟨d0, d1, d2, d3, d4, d5, d6, d7, d8⟩ := id RR2
      have B2 := bstep hB hb2
      go_wp2
      refine bodyPost_ret (v := .tuple #[.agg #[.int .i64 p, .int .i64 q, .int .i64 r, .int .i64 s], .int .i64 0]) (by simp [results, Tryd.results13, go_sem, d0, d1, d2, d3, d4]) rfl ⟨ret_val EA.out.symm, ?_⟩
      repeat (first | assumption | refine Below.setCell ?_ (by first | omega | (simp <;> omega)) _ | refine Below.alloc ?_ (by first | omega | (simp <;> omega)) _ | refine bstep ?_ (by assumption) | refine Below.drew ?_)
    · have hk7 : (k : Int) < n := by omega
      obtain ⟨m0, m1, m2, m3⟩ := M.cells
      have HN := Lib.hid (show pw a b c d (k + 1) = (a * p + b * r, a * q + b * s, c * p + d * r, c * q + d * s) by show mulP a b c d (pw a b c d k) = _; rw [HPW.out]; rfl)
      clear HPW
      go_wp2_with fail
      go_region_with
        (first
          | (go_at_call 26; refine (matrixOf_any _ _ _ _ _).mono ?_; rintro e u11 ⟨rfl, hb11⟩; have QM11 : Kq w.heap.size a b c d u11 := (by repeat (first | assumption | with_reducible refine Kq.drew ?_ | with_reducible refine Kq.call ?_ (by assumption))); have KG11 : KR w1.heap.size p q r s u11 := (by repeat (first | assumption | with_reducible refine KR.drew ?_ | with_reducible refine KR.call ?_ (by assumption))); have KK11 : KR (w.heap.size + 1) 0 0 0 0 u11 := (by repeat (first | assumption | with_reducible refine KR.drew ?_ | with_reducible refine KR.call ?_ (by assumption))); have BB11 : Below w.heap.size w u11 := (by repeat (first | assumption | with_reducible refine Below.drew ?_ | with_reducible refine bstep ?_ (by assumption))); obtain ⟨ga11, gb11, gc11, gd11, ge11, gf11, gg11, gh11, gi11⟩ := id KG11; obtain ⟨ma11, mb11, mc11, md11⟩ := QM11.cells)
          | (go_at_call 32; refine (after_any _ _ _ _ _ _ _ _ _ lu hp).mono ?_; rintro e u12 ⟨rfl, hb12⟩; have QM12 : Kq w.heap.size a b c d u12 := (by repeat (first | assumption | with_reducible refine Kq.drew ?_ | with_reducible refine Kq.call ?_ (by assumption))); have KG12 : KR w1.heap.size p q r s u12 := (by repeat (first | assumption | with_reducible refine KR.drew ?_ | with_reducible refine KR.call ?_ (by assumption))); have KK12 : KR (w.heap.size + 1) 0 0 0 0 u12 := (by repeat (first | assumption | with_reducible refine KR.drew ?_ | with_reducible refine KR.call ?_ (by assumption))); have BB12 : Below w.heap.size w u12 := (by repeat (first | assumption | with_reducible refine Below.drew ?_ | with_reducible refine bstep ?_ (by assumption))); obtain ⟨ga12, gb12, gc12, gd12, ge12, gf12, gg12, gh12, gi12⟩ := id KG12; obtain ⟨ma12, mb12, mc12, md12⟩ := QM12.cells))
      all_goals
        have M2 := QM12
        have R2 := KG12
        have RR2 := KK12
        have B2 := BB12
        generalize a * p + b * r = p' at *
        generalize a * q + b * s = q' at *
        generalize c * p + d * r = r' at *
        generalize c * q + d * s = s' at *
        go_wp2_with fail
        refine (isLimited_any _ _ _ _ _).mono ?_
        rintro e w4 ⟨rfl, hb4⟩
        have hgm : w.heap.size < w1.heap.size := by omega
        have M3 : Kq w.heap.size a b c d w4 := Kq.call (Kq.put hgm (Kq.put hgm (Kq.put hgm (Kq.put hgm M2)))) hb4
        have R3 : KR w1.heap.size p' q' r' s' w4 := KR.call (KR.store R2 p' q' r' s') hb4
        have RR' : KR (w.heap.size + 1) 0 0 0 0 w4 := KR.call (KR.put hg (KR.put hg (KR.put hg (KR.put hg RR2)))) hb4
        have hs1 : w.heap.size ≤ w1.heap.size := by omega
        have B3 : Below w.heap.size w w4 := bstep (Below.setCell (Below.setCell (Below.setCell (Below.setCell B2 hs1 _) hs1 _) hs1 _) hs1 _) hb4
        rcases hl : limB p' q' r' s' with _ | _
        · have hno : limP (pw a b c d (k + 1)) = false := by rw [HN.out]; exact hl
          have EA := Lib.hid (pow_no hu hn (by omega) hno)
          clear hno
          obtain ⟨d0, d1, d2, d3, d4, d5, d6, d7, d8⟩ := id RR'
          go_wp2
          refine bodyPost_ret (v := .tuple #[.agg #[.int .i64 0, .int .i64 0, .int .i64 0, .int .i64 0], .int .i64 3]) (by simp [results, Tryd.results13, go_sem, d0, d1, d2, d3, d4]) rfl ⟨ret_val EA.out.symm, ?_⟩
          repeat (first | assumption | refine Below.setCell ?_ (by first | omega | (simp <;> omega)) _ | refine Below.alloc ?_ (by first | omega | (simp <;> omega)) _ | refine bstep ?_ (by assumption) | refine Below.drew ?_)
        · have hyes : okP a b c d (k + 1) = true := by
            have := HOK.out
            simp only [okP, this, Bool.true_and]; rw [HN.out]; exact hl
          have HY := Lib.hid hyes
          clear hyes
          go_wp2
          go_roundw
          case rel => exact ⟨k + 1, p', q', r', s', by go_num, by omega, hg, M3, R3, RR', HN.out, HY.out, B3⟩
          case measure => simp [intOf]; omega

set_option maxHeartbeats 8000000 in
theorem walkPow (a b c d n : Int) (w : World) (hU : UnitOK w) :
    Calls Tryd.prog 4 #[.agg #[.int .i64 a, .int .i64 b, .int .i64 c, .int .i64 d], .int .i64 n] w fun e w' => e = .returned (.bool true) ∧ Below w.heap.size w w' := by
  have he1 := eqM_rfl (powR a b c d n).1 (powR a b c d n).2.1 (powR a b c d n).2.2.1 (powR a b c d n).2.2.2.1
  go_enter Tryd.func4, Tryd.ntmps4
  go_wp2_with fail
  refine (toMat_any _ _ _ _ _).mono ?_
  rintro e w1 ⟨rfl, hb1⟩
  obtain ⟨hc1, hf1⟩ := bcell hb1
  have hz1a : w.heap.size < w1.heap.size := by have := hb1.size; (try simp at this); omega
  go_wp2_with fail
  refine (specPow_any _ _ _ _ _ _).mono ?_
  rintro e w2 ⟨he, hb2⟩
  unfold powV at he
  subst he
  obtain ⟨hc2, hf2⟩ := bcell hb2
  have hz2a : w.heap.size < w2.heap.size := by have := hb2.size; omega
  go_wp2_with fail
  refine (toMat_any _ _ _ _ _).mono ?_
  rintro e w3 ⟨rfl, hb3⟩
  obtain ⟨hc3, hf3⟩ := bcell hb3
  have hz3a : w.heap.size < w3.heap.size := by have := hb3.size; (try simp at this); omega
  go_wp2_with fail
  refine (implPow_any _ _ _ _ _ _ ((((UnitOK.alloc hU _).call hb1).call hb2 |>.alloc _).call hb3)).mono ?_
  rintro e w4 ⟨he, hb4⟩
  unfold powV at he
  subst he
  obtain ⟨hc4, hf4⟩ := bcell hb4
  have G4 : Kq w2.heap.size (powR a b c d n).1 (powR a b c d n).2.1 (powR a b c d n).2.2.1 (powR a b c d n).2.2.2.1 w4 := Kq.call (Kq.call (Kq.at _ rfl) hb3) hb4
  have g0 := G4.c0
  have g1 := G4.c1
  have g2 := G4.c2
  have g3 := G4.c3
  have hy4 : w2.heap.size < w4.heap.size := G4.1
  have hn4 : ¬ w2.heap.size = w4.heap.size := by omega
  go_wp2_with fail
  refine (eqMat_any _ _ _ _ _ _ _ _ _).mono ?_
  rintro e w5 ⟨rfl, hb5⟩
  obtain ⟨hc5, hf5⟩ := bcell hb5
  skip
  go_wp2
  go_ret
  refine ⟨rfl, ?_⟩
  repeat (first | exact Below.refl _ _ | refine Below.setCell ?_ (by first | omega | (simp <;> omega)) _ | refine Below.alloc ?_ (by first | omega | (simp <;> omega)) _ | refine bstep ?_ (by assumption) | refine Below.drew ?_)

end Go.Proofs.YtcphadkgmchnfaaDoor
