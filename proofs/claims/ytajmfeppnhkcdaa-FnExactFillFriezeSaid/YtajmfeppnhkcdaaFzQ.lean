/-
  PeriodOf in the program and in the model. Condition: the slice lies in a block of its own.
-/
import Derived.Test.YtajmfeppnhkcdaaFzP
namespace Go.Proofs.Ytajmfeppnhkcdaa
open Go.RowKit
set_option linter.unusedSimpArgs false
set_option linter.unusedVariables false

def perA (a b : Int) (n : Nat) (F : Nat → Int) : Int × Int := if friB a b n F = true then (((perN a.toNat b.toNat F : Nat) : Int), 0) else (0, 1)
theorem perA_no {a b : Int} {n : Nat} {F : Nat → Int} (h : friB a b n F = false) : perA a b n F = (0, 1) := by simp [perA, h]
theorem perA_yes {h w n : Nat} {F : Nat → Int} (p : FriI h w n F) : perA h w n F = (((perN h w F : Nat) : Int), 0) := by unfold perA; rw [if_pos p.b]; rfl
set_option maxHeartbeats 4000000 in
theorem specPer_any {lo hi n : Nat} {v : Value} {F : Nat → Int} {W : World} (a b : Int) (hv : SRow lo hi 1 v n F W) :
    Calls Try.prog 22 #[.agg #[.int .i64 a, .int .i64 b, v]] W fun e w' => (∃ p q : Int, perA a b n F = (p, q) ∧ e = .returned (.tuple #[.int .i64 p, .int .i64 q])) ∧ Below W.heap.size W w' := by
  have R := Lib.hid hv
  obtain ⟨ao, cap, rfl⟩ := hv.slice
  clear hv
  rcases hf : friB a b n F with _ | _
  · go_enter Try.func22, Try.ntmps22
    go_wp2_with (go_at_call 39; with_reducible refine (specIsFri_any a b (R.out.call ((Below.refl _ _).alloc (Nat.le_refl _) _))).mono ?_; rintro e w1 ⟨rfl, hb1⟩; rw [hf])
    go_ret2
    exact ⟨⟨_, _, perA_no hf, rfl⟩, bstep ((Below.refl _ _).alloc (Nat.le_refl _) _) hb1⟩
  · obtain ⟨h, w, rfl, rfl, p⟩ := friB_of hf
    have P := Lib.hid p
    clear p
    go_enter Try.func22, Try.ntmps22
    go_wp2_with fail
    with_reducible refine (specIsFri_any _ _ (R.out.call ((Below.refl _ _).alloc (Nat.le_refl _) _))).mono ?_
    rintro e w1 ⟨rfl, hb1⟩
    rw [hf]
    have R1 := Lib.hid (R.out.call (show Below W.heap.size W w1 from bstep ((Below.refl _ _).alloc (Nat.le_refl _) _) hb1))
    have B1 := Lib.hid (show Below W.heap.size W w1 from bstep ((Below.refl _ _).alloc (Nat.le_refl _) _) hb1)
    have k1 := bcell hb1
    have z1 := lt_alloc hb1
    go_wp2_with (go_at_call 56; with_reducible refine (l08Period_any P.out R1.out).mono ?_; rintro e w2 ⟨rfl, hb2⟩)
    go_ret2
    exact ⟨⟨_, _, perA_yes P.out, rfl⟩, bstep B1.out hb2⟩
set_option maxHeartbeats 4000000 in
theorem implPer_any {lo hi n : Nat} {v : Value} {F : Nat → Int} {W : World} (a b : Int) (hv : SRow lo hi 1 v n F W) :
    Calls Try.prog 21 #[.agg #[.int .i64 a, .int .i64 b, v]] W fun e w' => (∃ p q : Int, perA a b n F = (p, q) ∧ e = .returned (.tuple #[.int .i64 p, .int .i64 q])) ∧ Below W.heap.size W w' := by
  have R := Lib.hid hv
  obtain ⟨ao, cap, rfl⟩ := hv.slice
  clear hv
  rcases hf : friB a b n F with _ | _
  · go_enter Try.func21, Try.ntmps21
    go_wp2_with (go_at_call 45; with_reducible refine (friValid_any a b (R.out.call ((Below.refl _ _).alloc (Nat.le_refl _) _))).mono ?_; rintro e w1 ⟨rfl, hb1⟩; rw [hf])
    go_ret2
    exact ⟨⟨_, _, perA_no hf, rfl⟩, bstep ((Below.refl _ _).alloc (Nat.le_refl _) _) hb1⟩
  · obtain ⟨h, w, rfl, rfl, p⟩ := friB_of hf
    have P := Lib.hid p
    clear p
    go_enter Try.func21, Try.ntmps21
    go_wp2_with fail
    with_reducible refine (friValid_any _ _ (R.out.call ((Below.refl _ _).alloc (Nat.le_refl _) _))).mono ?_
    rintro e w1 ⟨rfl, hb1⟩
    rw [hf]
    have R1 := Lib.hid (R.out.call (show Below W.heap.size W w1 from bstep ((Below.refl _ _).alloc (Nat.le_refl _) _) hb1))
    have B1 := Lib.hid (show Below W.heap.size W w1 from bstep ((Below.refl _ _).alloc (Nat.le_refl _) _) hb1)
    have k1 := bcell hb1
    have z1 := lt_alloc hb1
    go_wp2_with (go_at_call 54; with_reducible refine (period_any P.out R1.out).mono ?_; rintro e w2 ⟨rfl, hb2⟩)
    go_ret2
    exact ⟨⟨_, _, perA_yes P.out, rfl⟩, bstep B1.out hb2⟩
end Go.Proofs.Ytajmfeppnhkcdaa
