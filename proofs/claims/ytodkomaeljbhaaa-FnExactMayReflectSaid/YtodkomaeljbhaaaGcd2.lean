/-
  Contracts of chapter 1's greatest common divisor at greater numbers: the program's loop and the model's recursion both answer the mathematical divisor. Condition: numbers from -2 * 10^18 to 2 * 10^18.
-/
import Derived.Test.YtodkomaeljbhaaaGcd
namespace Go.Proofs.Ytodkomaeljbhaaa
open Go.RowKit

set_option maxHeartbeats 1000000 in
theorem greatestBig_any (a b : Int) (w : World) (ha : -2000000000000000000 ≤ a) (ha' : a ≤ 2000000000000000000) (hb : -2000000000000000000 ≤ b) (hb' : b ≤ 2000000000000000000) :
    Calls Try.prog 61 #[.int .i64 a, .int .i64 b] w fun e w' => e = .returned (.int .i64 (gcdI a b)) ∧ Below w.heap.size w w' := by
  go_enter Try.func61, Try.ntmps61
  go_wp2_with fail
  go_loopw [0, 1] (fun s t W => ∃ x y : Int, s = .int .i64 x ∧ t = .int .i64 y ∧ -2000000000000000000 ≤ x ∧ x ≤ 2000000000000000000 ∧ -2000000000000000000 ≤ y ∧ y ≤ 2000000000000000000 ∧ Hid (gcdI x y = gcdI a b) ∧ Below w.heap.size w W) (fun _ t _ => (intOf t).natAbs)
  case atStart => exact ⟨a, b, rfl, rfl, ha, ha', hb, hb', rfl, Below.refl _ _⟩
  case round =>
    obtain ⟨x, y, rfl, rfl, hx, hx', hy, hy', hg, hB⟩ := hrel
    by_cases h0 : y = 0
    · subst h0
      have hm := gcdI_zero x
      have HM := Lib.hid hm
      clear hm
      go_wp2
      all_goals
        go_ret
        exact ⟨ret_int (by rw [← hg.out, HM.out]; omega), hB⟩
    · have h1 : (y != 0) = true := by simp [h0]
      have h2 : (y == 0) = false := by simp [h0]
      go_wp2
      go_quiet (fail)
      go_wp2
      have ht := tmod_lt x y h0
      go_roundw
      case rel => exact ⟨y, x.tmod y, rfl, rfl, hy, hy', by omega, by omega, (gcdI_step x y).trans hg.out, below_drewN hB _⟩
      case measure => simpa [intOf] using ht

set_option maxHeartbeats 1000000 in
theorem divisorBig_any : ∀ (n : Nat) (a b : Int) (w : World), b.natAbs < n → -2000000000000000000 ≤ a → a ≤ 2000000000000000000 → -2000000000000000000 ≤ b → b ≤ 2000000000000000000 →
    Calls Try.prog 48 #[.int .i64 a, .int .i64 b] w fun e w' => e = .returned (.int .i64 (gcdI a b)) ∧ w = w' := by
  intro n
  induction n with
  | zero => intro a b w h; omega
  | succ n ih =>
    intro a b w h ha ha' hb hb'
    by_cases h0 : b = 0
    · subst h0
      have HM := Lib.hid (gcdI_zero a)
      clear ih
      go_enter Try.func48, Try.ntmps48
      go_wp2
      all_goals
        go_ret
        exact ⟨ret_int (by rw [HM.out]; omega), rfl⟩
    · have ht := tmod_lt a b h0
      have IH := Lib.hid (ih b (a.tmod b) w (by omega) hb hb' (by omega) (by omega))
      have HS := Lib.hid (gcdI_step a b)
      have h1 : (b == 0) = false := by simp [h0]
      clear ih ht h
      go_enter Try.func48, Try.ntmps48
      go_wp2_with fail
      refine (IH.out).mono ?_
      rintro e w1 ⟨rfl, rfl⟩
      go_wp2
      go_ret
      exact ⟨ret_int HS.out, rfl⟩

theorem divisorBigB_any (a b : Int) (w : World) (ha : -2000000000000000000 ≤ a) (ha' : a ≤ 2000000000000000000) (hb : -2000000000000000000 ≤ b) (hb' : b ≤ 2000000000000000000) :
    Calls Try.prog 48 #[.int .i64 a, .int .i64 b] w fun e w' => e = .returned (.int .i64 (gcdI a b)) ∧ Below w.heap.size w w' :=
  (divisorBig_any _ a b w (Nat.lt_succ_self _) ha ha' hb hb').mono fun _ _ ⟨he, hw⟩ => ⟨he, hw ▸ Below.refl _ _⟩

end Go.Proofs.Ytodkomaeljbhaaa
