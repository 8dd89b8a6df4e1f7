/-
  Remainders in the program and in the model. Conditions: only the bounds that are stated.
-/
import Derived.Test.YtajmfeppnhkcdaaBase
import Derived.IntWalk
import Derived.BigQuiet
import Derived.Deep.QuietTactic
import Derived.Deep.RegionHeld3
namespace Go.Proofs.Ytajmfeppnhkcdaa
open Go.RowKit
set_option linter.unusedSimpArgs false
set_option linter.unusedVariables false

theorem tmod_lt (x y : Int) (h : y ≠ 0) : (x.tmod y).natAbs < y.natAbs := by
  rw [Int.natAbs_tmod]; exact Nat.mod_lt _ (by omega)
def bigI (a : Int) : Prop := -2000000000000000000 ≤ a ∧ a ≤ 2000000000000000000
theorem mod_val (a n : Int) (hn : 1 ≤ n) : (a.tmod n + n) % n = a % n := by
  have h3 := @Int.tmod_eq_emod a n
  rw [Int.add_emod_right, h3]
  split
  · simp
  · rw [show ((n.natAbs : Nat) : Int) = n by omega, Int.sub_emod_right, Int.emod_emod]
theorem mod_neg (a n : Int) (hn : 1 ≤ n) : (if a.tmod n < 0 then a.tmod n + n else a.tmod n) = a % n := by
  have h1 := Int.emod_nonneg a (show n ≠ 0 by omega)
  have h2 := Int.emod_lt_of_pos a (show 0 < n by omega)
  have h3 := @Int.tmod_eq_emod a n
  split at h3 <;> split <;> omega

set_option maxHeartbeats 1000000 in
theorem remainder_any (a n : Int) (w : World) (ha : bigI a) (hn : 1 ≤ n) (hn' : bigI n) :
    Calls Try.prog 77 #[.int .i64 a, .int .i64 n] w fun e w' => e = .returned (.int .i64 (a % n)) ∧ Below w.heap.size w w' := by
  have HV := Lib.hid (mod_val a n hn)
  have h0 : ¬ n = 0 := by omega
  have h4 : (a.tmod n).natAbs < n.natAbs := tmod_lt a n h0
  unfold bigI at ha hn'
  have hw1 : IntKind.i64.wrap (a.tmod n) = a.tmod n := IntWalk.i64_in _ (by omega)
  go_enter Try.func77, Try.ntmps77
  go_wp2
  go_ret
  refine ⟨ret_int HV.out, ?_⟩
  repeat (first | exact Below.refl _ _ | refine Below.setCell ?_ (by first | omega | (simp <;> omega)) _ | refine Below.alloc ?_ (by first | omega | (simp <;> omega)) _ | refine bstep ?_ (by assumption) | refine Below.drew ?_)

set_option maxHeartbeats 1000000 in
theorem l01Mod_any (a n : Int) (w : World) (ha : bigI a) (hn : 1 ≤ n) (hn' : bigI n) :
    Calls Try.prog 43 #[.int .i64 a, .int .i64 n] w fun e w' => e = .returned (.int .i64 (a % n)) ∧ Below w.heap.size w w' := by
  have hv := mod_neg a n hn
  have h0 : ¬ n = 0 := by omega
  have h4 : (a.tmod n).natAbs < n.natAbs := tmod_lt a n h0
  unfold bigI at ha hn'
  have hw1 : IntKind.i64.wrap (a.tmod n) = a.tmod n := IntWalk.i64_in _ (by omega)
  have hw2 : IntKind.i64.wrap (a.tmod n + n) = a.tmod n + n := IntWalk.i64_in _ (by omega)
  by_cases hs : a.tmod n < 0
  · rw [if_pos hs] at hv
    have HV := Lib.hid hv
    clear hv
    go_enter Try.func43, Try.ntmps43
    go_wp2
    go_ret
    refine ⟨ret_int HV.out, ?_⟩
    repeat (first | exact Below.refl _ _ | refine Below.setCell ?_ (by first | omega | (simp <;> omega)) _ | refine Below.alloc ?_ (by first | omega | (simp <;> omega)) _ | refine bstep ?_ (by assumption) | refine Below.drew ?_)
  · rw [if_neg hs] at hv
    have HV := Lib.hid hv
    clear hv
    go_enter Try.func43, Try.ntmps43
    go_wp2
    go_ret
    refine ⟨ret_int HV.out, ?_⟩
    repeat (first | exact Below.refl _ _ | refine Below.setCell ?_ (by first | omega | (simp <;> omega)) _ | refine Below.alloc ?_ (by first | omega | (simp <;> omega)) _ | refine bstep ?_ (by assumption) | refine Below.drew ?_)

end Go.Proofs.Ytajmfeppnhkcdaa
