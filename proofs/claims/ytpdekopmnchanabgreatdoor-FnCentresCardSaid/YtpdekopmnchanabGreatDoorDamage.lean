/-
  The model's l01Damage: it returns some text at most one byte longer than its argument and turns the source's block alone. Condition: the text has at most 1000 bytes.
-/
import Derived.Test.YtpdekopmnchanabGreatDoorDraw
import Derived.Test.YtpdekopmnchanabGreatDoorText
import Derived.Deep.RegionWith
import Derived.BigQuiet
import Derived.Deep.QuietTactic
namespace Go.Proofs.YtpdekopmnchanabGreatDoor
open Go.RowKit
set_option linter.unusedSimpArgs false
set_option linter.unusedVariables false

def NextK (m p : Nat) (a0 : Option Addr) (len cap : Nat) (w : World) (e : Ending) (w' : World) : Prop :=
  ∃ k : Nat, e = .returned (.int .i64 k) ∧ k ≤ m ∧ Src p a0 len cap w' ∧ Only p w w'
set_option maxHeartbeats 1000000 in
theorem next_one (p : Nat) (a0 : Option Addr) (len cap : Nat) (w : World) (h : Src p a0 len cap w) :
    Calls Tryz.prog 28 #[.pointer (some ⟨p, 0, none⟩), .int .i64 1] w (NextK 0 p a0 len cap w) := by
  go_enter Tryz.func28, Tryz.ntmps28
  go_wp2
  go_ret
  exact ⟨0, rfl, Nat.le_refl _, h, Only.refl _ _⟩
theorem next_k (m p : Nat) (a0 : Option Addr) (len cap : Nat) (w : World) (h : Src p a0 len cap w) :
    Calls Tryz.prog 28 #[.pointer (some ⟨p, 0, none⟩), .int .i64 ((m : Int) + 1)] w (NextK m p a0 len cap w) := by
  by_cases h0 : m = 0
  · subst h0
    exact next_one p a0 len cap w h
  · refine (next_any ((m : Int) + 1) p a0 len cap w h).mono ?_
    rintro e w1 ⟨x, rfl, x0, x1, S, O⟩
    obtain ⟨k, rfl⟩ := Int.eq_ofNat_of_zero_le x0
    exact ⟨k, rfl, by have := x1 (by omega); omega, S, O⟩

theorem only_cell {p : Nat} {W w1 : World} (h : Only p W w1) : ∀ b o, b < W.heap.size → ¬ b = p → w1.cell? ⟨b, o, none⟩ = W.cell? ⟨b, o, none⟩ := fun b o h1 h2 => h.cell (q := ⟨b, o, none⟩) h1 h2

theorem eightL (i : Nat) (h : i < 8) : ∃ u : ByteArray, u.size ≤ 1 ∧ ([.string ⟨#[48]⟩, .string ⟨#[49]⟩, .string ⟨#[32]⟩, .string ⟨#[45]⟩, .string ⟨#[44]⟩, .string ⟨#[59]⟩, .string ⟨#[10]⟩, .string ⟨#[97]⟩] : List Value)[i]'(by simpa using h) = .string u := by
  obtain rfl | rfl | rfl | rfl | rfl | rfl | rfl | rfl : i = 0 ∨ i = 1 ∨ i = 2 ∨ i = 3 ∨ i = 4 ∨ i = 5 ∨ i = 6 ∨ i = 7 := by omega
  all_goals exact ⟨_, Nat.le_refl _, rfl⟩

def DamPost (m p : Nat) (a0 : Option Addr) (len cap : Nat) (w : World) (e : Ending) (w' : World) : Prop :=
  ∃ u : ByteArray, e = .returned (.string u) ∧ u.size ≤ m + 1 ∧ Src p a0 len cap w' ∧ Only p w w'

theorem add_ok (a b : ByteArray) (h : a.size + b.size ≤ 5000) (W : World) : (Op.stringOp .add a b).run Tryz.prog W = .ok (.string (a ++ b)) W := run_string_add_sum W _ _ (by omega)
theorem ext_size (t : ByteArray) (i j : Nat) (h : j ≤ t.size) : (t.extract i j).size ≤ t.size := by rw [ByteArray.size_extract]; omega
theorem ext_pre (t : ByteArray) (k : Nat) (h : k ≤ t.size) : (t.extract 0 k).size = k := by rw [ByteArray.size_extract]; omega
theorem ext_post (t : ByteArray) (k : Nat) : (t.extract k t.size).size = t.size - k := by rw [ByteArray.size_extract]; omega

set_option maxHeartbeats 400000 in
theorem damage_any (t : ByteArray) (ht : t.size ≤ 1000) (p : Nat) (a0 : Option Addr) (len cap : Nat) (w : World) (h : Src p a0 len cap w) :
    Calls Tryz.prog 29 #[.pointer (some ⟨p, 0, none⟩), .string t] w (DamPost t.size p a0 len cap w) := by
  go_enter Tryz.func29, Tryz.ntmps29
  go_wp2_with fail
  refine (next_k t.size p a0 len cap _ h).mono ?_
  rintro e w1 ⟨k, rfl, hk, S1, O1⟩
  go_wp2_with fail
  refine (next_any _ p a0 len cap _ S1).mono ?_
  rintro e w2 ⟨x, rfl, x0, x1, S2, O2⟩
  have O2' : Only p w w2 := O1.trans O2
  have hk0 : (0 : Int) ≤ (k : Int) := by omega
  have hk1 : (k : Int) ≤ (t.size : Int) := by omega
  clear x1 S1 O1 O2
  rcases e0 : x == 0 with _ | _
  · rcases e1 : x == 1 with _ | _
    · rcases e2 : x == 2 with _ | _
      · go_wp2
        go_ret
        exact ⟨t, rfl, by omega, S2, O2'⟩
      · by_cases hlt : k < t.size
        · have hk2 : (k : Int) < (t.size : Int) := by omega
          have hk3 : (k : Int) + 1 ≤ (t.size : Int) := by omega
          have hk4 : IntKind.i64.wrap ((k : Int) + 1) = (k : Int) + 1 := IntWalk.i64_in _ (by omega)
          have hk5 : ((k : Int) + 1).toNat = k + 1 := by omega
          have hk6 : (0 : Int) ≤ (k : Int) + 1 := by omega
          have z1 := ext_pre t k (by omega)
          have z2 := ext_post t (k + 1)
          have ha := add_ok (t.extract 0 k) (t.extract (k + 1) t.size) (by omega)
          have Z : Hid ((t.extract 0 k ++ t.extract (k + 1) t.size).size ≤ t.size + 1) := by
            show (t.extract 0 k ++ t.extract (k + 1) t.size).size ≤ t.size + 1
            rw [ByteArray.size_append]; omega
          clear z1 z2
          go_wp2_with fail
          go_quiet (fail)
          go_wp2
          go_ret
          exact ⟨_, rfl, Z.out, S2.drewN _, O2'.drewN _⟩
        · have hlt' : decide ((k : Int) < (t.size : Int)) = false := decide_eq_false (by omega)
          go_wp2
          go_ret
          exact ⟨t, rfl, by omega, S2, O2'⟩
    · have z1 := ext_pre t k (by omega)
      have z2 := ext_post t k
      have Z1 := Lib.hid z1
      have Z2 := Lib.hid z2
      have HP := Lib.hid S2.lt
      have hpn : ¬ w2.heap.size = p := by have := S2.lt; omega
      clear z1 z2
      go_wp2_with fail
      go_region_with
        (first | (go_at_call 28; refine (next_any _ p a0 len cap _ ?_).mono ?_; (repeat (first | assumption | with_reducible refine Src.alloc ?_ _ | with_reducible refine Src.drew ?_)); rintro e w3 ⟨x3, rfl, x30, x31, S3, O3⟩; obtain ⟨i, rfl⟩ := Int.eq_ofNat_of_zero_le x30; have x32 : i < 8 := (by have := x31 (by omega); omega); obtain ⟨u, hu0, hu⟩ := eightL i x32; have hoc := only_cell O3; have hi1 : (i : Int) < 8 := (by omega); have ha1 := add_ok (t.extract 0 k) u (by rw [Z1.out]; omega); have ha2 := add_ok (t.extract 0 k ++ u) (t.extract k t.size) (by rw [ByteArray.size_append, Z1.out, Z2.out]; omega); have ZZ : Hid ((t.extract 0 k ++ u ++ t.extract k t.size).size ≤ t.size + 1) := (by show (t.extract 0 k ++ u ++ t.extract k t.size).size ≤ t.size + 1; rw [ByteArray.size_append, ByteArray.size_append, Z1.out, Z2.out]; omega); clear x31))
      all_goals
        go_wp2
        go_ret
        refine ⟨_, rfl, ZZ.out, ?_, ?_⟩
        · repeat (first | assumption | with_reducible refine Src.alloc ?_ _ | with_reducible refine Src.drew ?_)
        · repeat (first | assumption | with_reducible refine Only.alloc ?_ _ | with_reducible refine Only.drew ?_ | with_reducible refine Only.trans ?_ O3)
  · have z1 := Lib.hid (ext_pre t k (by omega))
    go_wp2
    go_ret
    exact ⟨_, rfl, by rw [z1.out]; omega, S2, O2'⟩

end Go.Proofs.YtpdekopmnchanabGreatDoor
