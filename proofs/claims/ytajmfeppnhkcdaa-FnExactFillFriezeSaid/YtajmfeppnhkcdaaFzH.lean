/-
  FriezeName and FriezeSymmetries in the program and in the model. Condition: the slice lies in a block of its own.
-/
import Derived.Test.YtajmfeppnhkcdaaFzG
namespace Go.Proofs.Ytajmfeppnhkcdaa
open Go.RowKit
set_option linter.unusedSimpArgs false
set_option linter.unusedVariables false

def namA (a b : Int) (n : Nat) (F : Nat → Int) : ByteArray × Int := if friB a b n F = true then (nameN (symL a.toNat b.toNat F), 0) else (⟨#[]⟩, 1)
theorem namA_no {a b : Int} {n : Nat} {F : Nat → Int} (h : friB a b n F = false) : namA a b n F = (⟨#[]⟩, 1) := by simp [namA, h]
theorem namA_yes {h w n : Nat} {F : Nat → Int} (p : FriI h w n F) : namA h w n F = (nameN (symL h w F), 0) := by unfold namA; rw [if_pos p.b]; rfl
def symA (a b : Int) (n : Nat) (F : Nat → Int) : List FMo × Int := if friB a b n F = true then (symL a.toNat b.toNat F, 0) else ([], 1)
theorem symA_no {a b : Int} {n : Nat} {F : Nat → Int} (h : friB a b n F = false) : symA a b n F = ([], 1) := by simp [symA, h]
theorem symA_yes {h w n : Nat} {F : Nat → Int} (p : FriI h w n F) : symA h w n F = (symL h w F, 0) := by unfold symA; rw [if_pos p.b]; rfl
theorem symA_len (a b : Int) (n : Nat) (F : Nat → Int) : (symA a b n F).1.length ≤ 96 := by
  rcases hf : friB a b n F with _ | _
  · rw [symA_no hf]; simp
  · obtain ⟨h, w, rfl, rfl, p⟩ := friB_of hf
    rw [symA_yes p]; exact syms_len p
def NAns (r : ByteArray × Int) (W : World) (e : Ending) (w' : World) : Prop := (∃ (s : ByteArray) (c : Int), r = (s, c) ∧ e = .returned (.tuple #[.string s, .int .i64 c])) ∧ Below W.heap.size W w'
def SAns (r : List FMo × Int) (W : World) (e : Ending) (w' : World) : Prop :=
  ∃ (L : List FMo) (c : Int) (v : Value), r = (L, c) ∧ e = .returned (.tuple #[v, .int .i64 c]) ∧ w'.ownsRow W.heap.size 53 3 v L.length (cellsM L) ∧ Below W.heap.size W w'
set_option maxHeartbeats 4000000 in
theorem specName_no {lo hi n : Nat} {v : Value} {F : Nat → Int} {W : World} (a b : Int) (hv : SRow lo hi 1 v n F W) (hf : friB a b n F = false) :
    Calls Try.prog 35 #[.agg #[.int .i64 a, .int .i64 b, v]] W (NAns (namA a b n F) W) := by
  have R := Lib.hid hv
  obtain ⟨ao, cap, rfl⟩ := hv.slice
  clear hv
  go_enter Try.func35, Try.ntmps35
  go_wp2_with (go_at_call 39; with_reducible refine (specIsFri_any a b (R.out.call ((Below.refl _ _).alloc (Nat.le_refl _) _))).mono ?_; rintro e w1 ⟨rfl, hb1⟩; rw [hf])
  go_ret2
  exact ⟨⟨_, _, namA_no hf, rfl⟩, bstep ((Below.refl _ _).alloc (Nat.le_refl _) _) hb1⟩
set_option maxHeartbeats 4000000 in
theorem implName_no {lo hi n : Nat} {v : Value} {F : Nat → Int} {W : World} (a b : Int) (hv : SRow lo hi 1 v n F W) (hf : friB a b n F = false) :
    Calls Try.prog 29 #[.agg #[.int .i64 a, .int .i64 b, v]] W (NAns (namA a b n F) W) := by
  have R := Lib.hid hv
  obtain ⟨ao, cap, rfl⟩ := hv.slice
  clear hv
  go_enter Try.func29, Try.ntmps29
  go_wp2_with (go_at_call 45; with_reducible refine (friValid_any a b (R.out.call ((Below.refl _ _).alloc (Nat.le_refl _) _))).mono ?_; rintro e w1 ⟨rfl, hb1⟩; rw [hf])
  go_ret2
  exact ⟨⟨_, _, namA_no hf, rfl⟩, bstep ((Below.refl _ _).alloc (Nat.le_refl _) _) hb1⟩
theorem specName_any {lo hi n : Nat} {v : Value} {F : Nat → Int} {W : World} (a b : Int) (hv : SRow lo hi 1 v n F W) :
    Calls Try.prog 35 #[.agg #[.int .i64 a, .int .i64 b, v]] W (NAns (namA a b n F) W) := by
  rcases hf : friB a b n F with _ | _
  · exact specName_no a b hv hf
  · obtain ⟨h, w, rfl, rfl, p⟩ := friB_of hf
    refine (specName_yes p hv).mono ?_
    rintro e w' ⟨rfl, hb⟩
    exact ⟨⟨_, _, namA_yes p, rfl⟩, hb⟩
set_option maxHeartbeats 4000000 in
theorem implName_any {lo hi n : Nat} {v : Value} {F : Nat → Int} {W : World} (a b : Int) (hv : SRow lo hi 1 v n F W) :
    Calls Try.prog 29 #[.agg #[.int .i64 a, .int .i64 b, v]] W (NAns (namA a b n F) W) := by
  rcases hf : friB a b n F with _ | _
  · exact implName_no a b hv hf
  · obtain ⟨h, w, rfl, rfl, p⟩ := friB_of hf
    have R := Lib.hid hv
    have P := Lib.hid p
    obtain ⟨ao, cap, rfl⟩ := hv.slice
    clear hv p
    go_enter Try.func29, Try.ntmps29
    go_wp2_with fail
    with_reducible refine (friValid_any _ _ (R.out.call ((Below.refl _ _).alloc (Nat.le_refl _) _))).mono ?_
    rintro e w1 ⟨rfl, hb1⟩
    rw [hf]
    have R1 := Lib.hid (R.out.call (show Below W.heap.size W w1 from bstep ((Below.refl _ _).alloc (Nat.le_refl _) _) hb1))
    have B1 := Lib.hid (show Below W.heap.size W w1 from bstep ((Below.refl _ _).alloc (Nat.le_refl _) _) hb1)
    have k1 := bcell hb1
    have z1 := lt_alloc hb1
    go_wp2_with (go_at_call 63; with_reducible refine (name_any P.out R1.out).mono ?_; rintro e w2 ⟨rfl, hb2⟩)
    go_ret2
    exact ⟨⟨_, _, namA_yes P.out, rfl⟩, bstep B1.out hb2⟩
set_option maxHeartbeats 4000000 in
theorem specSym_any {lo hi n : Nat} {v : Value} {F : Nat → Int} {W : World} (a b : Int) (hv : SRow lo hi 1 v n F W) :
    Calls Try.prog 34 #[.agg #[.int .i64 a, .int .i64 b, v]] W (SAns (symA a b n F) W) := by
  have R := Lib.hid hv
  obtain ⟨ao, cap, rfl⟩ := hv.slice
  clear hv
  rcases hf : friB a b n F with _ | _
  · go_enter Try.func34, Try.ntmps34
    go_wp2_with (go_at_call 39; with_reducible refine (specIsFri_any a b (R.out.call ((Below.refl _ _).alloc (Nat.le_refl _) _))).mono ?_; rintro e w1 ⟨rfl, hb1⟩; rw [hf])
    go_ret2
    exact ⟨[], _, _, symA_no hf, rfl, ⟨rfl, .inl ⟨rfl, rfl⟩⟩, bstep ((Below.refl _ _).alloc (Nat.le_refl _) _) hb1⟩
  · obtain ⟨h, w, rfl, rfl, p⟩ := friB_of hf
    have P := Lib.hid p
    clear p
    go_enter Try.func34, Try.ntmps34
    go_wp2_with fail
    with_reducible refine (specIsFri_any _ _ (R.out.call ((Below.refl _ _).alloc (Nat.le_refl _) _))).mono ?_
    rintro e w1 ⟨rfl, hb1⟩
    rw [hf]
    have R1 := Lib.hid (R.out.call (show Below W.heap.size W w1 from bstep ((Below.refl _ _).alloc (Nat.le_refl _) _) hb1))
    have B1 := Lib.hid (show Below W.heap.size W w1 from bstep ((Below.refl _ _).alloc (Nat.le_refl _) _) hb1)
    have k1 := bcell hb1
    have z1 := lt_alloc hb1
    go_wp2_with (go_at_call 67; with_reducible refine (l08Syms_any P.out R1.out).mono ?_; rintro e w2 hh; unfold SymOwn at hh; obtain ⟨u, rfl, ho, hb2⟩ := hh)
    have HO := Lib.hid ho
    go_ret2
    exact ⟨_, _, _, symA_yes P.out, rfl, ownsRow_lower HO.out B1.out.size, bstep B1.out hb2⟩
set_option maxHeartbeats 4000000 in
theorem implSym_any {lo hi n : Nat} {v : Value} {F : Nat → Int} {W : World} (a b : Int) (hv : SRow lo hi 1 v n F W) :
    Calls Try.prog 33 #[.agg #[.int .i64 a, .int .i64 b, v]] W (SAns (symA a b n F) W) := by
  have R := Lib.hid hv
  obtain ⟨ao, cap, rfl⟩ := hv.slice
  clear hv
  rcases hf : friB a b n F with _ | _
  · go_enter Try.func33, Try.ntmps33
    go_wp2_with (go_at_call 45; with_reducible refine (friValid_any a b (R.out.call ((Below.refl _ _).alloc (Nat.le_refl _) _))).mono ?_; rintro e w1 ⟨rfl, hb1⟩; rw [hf])
    go_ret2
    exact ⟨[], _, _, symA_no hf, rfl, ⟨rfl, .inl ⟨rfl, rfl⟩⟩, bstep ((Below.refl _ _).alloc (Nat.le_refl _) _) hb1⟩
  · obtain ⟨h, w, rfl, rfl, p⟩ := friB_of hf
    have P := Lib.hid p
    clear p
    go_enter Try.func33, Try.ntmps33
    go_wp2_with fail
    with_reducible refine (friValid_any _ _ (R.out.call ((Below.refl _ _).alloc (Nat.le_refl _) _))).mono ?_
    rintro e w1 ⟨rfl, hb1⟩
    rw [hf]
    have R1 := Lib.hid (R.out.call (show Below W.heap.size W w1 from bstep ((Below.refl _ _).alloc (Nat.le_refl _) _) hb1))
    have B1 := Lib.hid (show Below W.heap.size W w1 from bstep ((Below.refl _ _).alloc (Nat.le_refl _) _) hb1)
    have k1 := bcell hb1
    have z1 := lt_alloc hb1
    go_wp2_with (go_at_call 66; with_reducible refine (syms_any P.out R1.out).mono ?_; rintro e w2 hh; unfold SymOwn at hh; obtain ⟨u, rfl, ho, hb2⟩ := hh)
    have HO := Lib.hid ho
    go_ret2
    exact ⟨_, _, _, symA_yes P.out, rfl, ownsRow_lower HO.out B1.out.size, bstep B1.out hb2⟩
end Go.Proofs.Ytajmfeppnhkcdaa
