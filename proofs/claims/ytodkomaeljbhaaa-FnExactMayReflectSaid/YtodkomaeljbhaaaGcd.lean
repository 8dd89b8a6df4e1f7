/-
  Contracts of chapter 1's greatest common divisor: the program's loop and the model's recursion both answer the mathematical divisor. Condition: numbers from -1000000 to 1000000.
-/
import Derived.Test.YtodkomaeljbhaaaBase
import Derived.LoopTactic
import Derived.BigQuiet
import Derived.Deep.QuietTactic
import Derived.WalkSmall
namespace Go.Proofs.Ytodkomaeljbhaaa
open Go.RowKit

def gcdI (a b : Int) : Int := (Int.gcd a b : Nat)
theorem gcdI_step (x y : Int) : gcdI y (x.tmod y) = gcdI x y := by
  unfold gcdI
  simp only [Int.gcd, Int.natAbs_tmod]
  congr 1
  rw [Nat.gcd_comm x.natAbs y.natAbs, Nat.gcd_rec y.natAbs x.natAbs, Nat.gcd_comm]
theorem gcdI_zero (x : Int) : gcdI x 0 = max x (-x) := by
  unfold gcdI
  simp only [Int.gcd]
  simp
  omega
theorem tmod_lt (x y : Int) (h : y ≠ 0) : (x.tmod y).natAbs < y.natAbs := by
  rw [Int.natAbs_tmod]; exact Nat.mod_lt _ (by omega)

set_option maxHeartbeats 400000 in
theorem greatest_any (a b : Int) (w : World) (ha : -1000000 ≤ a) (ha' : a ≤ 1000000) (hb : -1000000 ≤ b) (hb' : b ≤ 1000000) :
    Calls Try.prog 61 #[.int .i64 a, .int .i64 b] w fun e w' => e = .returned (.int .i64 (gcdI a b)) ∧ Below w.heap.size w w' := by
  go_enter Try.func61, Try.ntmps61
  go_wp2_with fail
  go_loopw [0, 1] (fun s t W => ∃ x y : Int, s = .int .i64 x ∧ t = .int .i64 y ∧ -1000000 ≤ x ∧ x ≤ 1000000 ∧ -1000000 ≤ y ∧ y ≤ 1000000 ∧ Hid (gcdI x y = gcdI a b) ∧ Below w.heap.size w W) (fun _ t _ => (intOf t).natAbs)
  case atStart => exact ⟨a, b, rfl, rfl, ha, ha', hb, hb', rfl, Below.refl _ _⟩
  case round =>
    obtain ⟨x, y, rfl, rfl, hx, hx', hy, hy', hg, hB⟩ := hrel
    by_cases h0 : y = 0
    · subst h0
      have hm := gcdI_zero x
      have HM := Lib.hid hm
      clear hm
      go_wp2
      all_goals
        go_ret
        exact ⟨ret_int (by rw [← hg.out, HM.out]; omega), hB⟩
    · have h1 : (y != 0) = true := by simp [h0]
      have h2 : (y == 0) = false := by simp [h0]
      go_wp2
      go_quiet (fail)
      go_wp2
      have ht := tmod_lt x y h0
      go_roundw
      case rel => exact ⟨y, x.tmod y, rfl, rfl, hy, hy', by omega, by omega, (gcdI_step x y).trans hg.out, below_drewN hB _⟩
      case measure => simpa [intOf] using ht

set_option maxHeartbeats 400000 in
theorem divisor_any : ∀ (n : Nat) (a b : Int) (w : World), b.natAbs < n → -1000000 ≤ a → a ≤ 1000000 → -1000000 ≤ b → b ≤ 1000000 →
    Calls Try.prog 48 #[.int .i64 a, .int .i64 b] w fun e w' => e = .returned (.int .i64 (gcdI a b)) ∧ w = w' := by
  intro n
  induction n with
  | zero => intro a b w h; omega
  | succ n ih =>
    intro a b w h ha ha' hb hb'
    by_cases h0 : b = 0
    · subst h0
      have HM := Lib.hid (gcdI_zero a)
      clear ih
      go_enter Try.func48, Try.ntmps48
      go_wp2
      all_goals
        go_ret
        exact ⟨ret_int (by rw [HM.out]; omega), rfl⟩
    · have ht := tmod_lt a b h0
      have IH := Lib.hid (ih b (a.tmod b) w (by omega) hb hb' (by omega) (by omega))
      have HS := Lib.hid (gcdI_step a b)
      have h1 : (b == 0) = false := by simp [h0]
      clear ih ht h
      go_enter Try.func48, Try.ntmps48
      go_wp2_with fail
      refine (IH.out).mono ?_
      rintro e w1 ⟨rfl, rfl⟩
      go_wp2
      go_ret
      exact ⟨ret_int HS.out, rfl⟩

end Go.Proofs.Ytodkomaeljbhaaa
