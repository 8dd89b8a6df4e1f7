/-
  Contracts of chapter 1's order of vectors: the program's comparison and the model's have one and the same answer. No condition.
-/
import Derived.Test.YtapfjmmlogcmkaaKeep
import Derived.LoopTactic
import Derived.Deep.RegionHeld3
namespace Go.Proofs.Ytapfjmmlogcmkaa
open Go.RowKit
set_option linter.unusedSimpArgs false

def cmpI (x y : Int) : Int := if x < y then -1 else if y < x then 1 else 0
def orI (p q : Int) : Int := if p = 0 then q else p
def cmpW (x y x' y' : Int) : Int := orI (cmpI x x') (cmpI y y')

set_option maxHeartbeats 400000 in
theorem compare_any (x y : Int) (w : World) :
    Calls Try.prog 99 #[.int .i64 x, .int .i64 y] w fun e w' => e = .returned (.int .i64 (cmpI x y)) ∧ w = w' := by
  by_cases h : x < y
  · have EA := Lib.hid (show cmpI x y = -1 by simp [cmpI, h])
    go_enter Try.func99, Try.ntmps99
    go_wp2
    go_ret
    exact ⟨ret_int EA.out.symm, rfl⟩
  by_cases h' : y < x
  · have EA := Lib.hid (show cmpI x y = 1 by simp [cmpI, h, h'])
    go_enter Try.func99, Try.ntmps99
    go_wp2
    go_ret
    exact ⟨ret_int EA.out.symm, rfl⟩
  · have EA := Lib.hid (show cmpI x y = 0 by simp [cmpI, h, h'])
    go_enter Try.func99, Try.ntmps99
    go_wp2
    go_ret
    exact ⟨ret_int EA.out.symm, rfl⟩

set_option maxHeartbeats 400000 in
theorem or2_any (p q : Int) (b : Nat) (w : World) (h0 : w.cell? ⟨b, 0, none⟩ = some (.int .i64 p)) (h1 : w.cell? ⟨b, 1, none⟩ = some (.int .i64 q)) :
    Calls Try.prog 98 #[.slice (some ⟨b, 0, none⟩) 2 2] w fun e w' => e = .returned (.int .i64 (orI p q)) ∧ w = w' := by
  go_enter Try.func98, Try.ntmps98
  go_wp2_with fail
  go_loop [8] (fun i => ∃ k : Nat, k ≤ 2 ∧ i = .int .i64 k ∧ Hid ((0 < k → p = 0) ∧ (1 < k → q = 0))) (fun i => 2 - (intOf i).toNat)
  case atStart => exact ⟨0, by omega, rfl, by constructor <;> (intro h; omega)⟩
  case round =>
    obtain ⟨k, hk, rfl, hz⟩ := hrel
    obtain rfl | rfl | rfl : k = 0 ∨ k = 1 ∨ k = 2 := by omega
    · by_cases hp : p = 0
      · have hp1 : (p != 0) = false := by simp [hp]
        have HP := Lib.hid hp
        clear hp
        go_wp2
        go_round
        case rel => exact ⟨1, by omega, rfl, ⟨fun _ => HP.out, fun h => by omega⟩⟩
        case measure => simp [intOf]
      · have hp1 : (p != 0) = true := by simp [hp]
        have HP := Lib.hid (show orI p q = p by simp [orI, hp])
        clear hp
        go_wp2
        go_ret
        exact ⟨ret_int HP.out.symm, rfl⟩
    · have HP := Lib.hid (show orI p q = q by simp [orI, hz.1 (by omega)])
      by_cases hq : q = 0
      · have hq1 : (q != 0) = false := by simp [hq]
        have HQ := Lib.hid hq
        clear hq
        go_wp2
        go_round
        case rel => exact ⟨2, by omega, rfl, ⟨fun _ => hz.1 (by omega), fun _ => HQ.out⟩⟩
        case measure => simp [intOf]
      · have hq1 : (q != 0) = true := by simp [hq]
        clear hq
        go_wp2
        go_ret
        exact ⟨ret_int HP.out.symm, rfl⟩
    · have HP := Lib.hid (show orI p q = 0 by simp [orI, hz.1 (by omega), hz.2 (by omega)])
      go_wp2
      go_ret
      exact ⟨ret_int HP.out.symm, rfl⟩

set_option maxHeartbeats 800000 in
theorem vcompare_any (x y x' y' : Int) (w : World) :
    Calls Try.prog 75 #[.agg #[.int .i64 x, .int .i64 y], .agg #[.int .i64 x', .int .i64 y']] w fun e w' => e = .returned (.int .i64 (cmpW x y x' y')) ∧ Below w.heap.size w w' := by
  have K0 := K4.made w x y x' y' 29
  go_enter Try.func75, Try.ntmps75
  go_wp2_with fail
  go_region_held3 (fun W => W.cell? ⟨w.heap.size, 0, none⟩ = some (.int .i64 x) ∧ W.cell? ⟨w.heap.size, 1, none⟩ = some (.int .i64 y) ∧ W.cell? ⟨w.heap.size + 1, 0, none⟩ = some (.int .i64 x') ∧ W.cell? ⟨w.heap.size + 1, 1, none⟩ = some (.int .i64 y')) ((refine K4.cells ?_; repeat (first | assumption | with_reducible refine K4.alloc ?_ _ | with_reducible refine K4.drew ?_)))
    (first
      | (go_at_call 99; refine (compare_any _ _ _).mono ?_; rintro e w1 ⟨rfl, rfl⟩)
      | (go_at_call 98; refine (or2_any (cmpI x x') (cmpI y y') _ _ ?_ ?_).mono ?_; (simp [go_sem]); (simp [go_sem]); rintro e w1 ⟨rfl, rfl⟩))
  go_wp2
  go_ret
  refine ⟨ret_int rfl, ?_⟩
  repeat (first | exact Below.refl _ _ | refine Below.alloc ?_ (by first | omega | (simp <;> omega)) _ | refine Below.drew ?_)

def lessB (x y x' y' : Int) : Bool := decide (x < x' ∨ x = x' ∧ y < y')


end Go.Proofs.Ytapfjmmlogcmkaa
