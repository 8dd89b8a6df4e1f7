/-
  Contracts of chapter 1's order of vectors: the program's comparison and the model's have one and the same answer. No condition.
-/
import Derived.Test.YtodkomaeljbhaaaKeep
import Derived.LoopTactic
import Derived.Deep.RegionHeld3
namespace Go.Proofs.Ytodkomaeljbhaaa
open Go.RowKit
set_option linter.unusedSimpArgs false

def cmpIq (x y : Int) : Int := if x < y then -1 else if y < x then 1 else 0
def orIq (p q : Int) : Int := if p = 0 then q else p
def cmpWq (x y x' y' : Int) : Int := orIq (cmpIq x x') (cmpIq y y')

set_option maxHeartbeats 400000 in
theorem compareq_any (x y : Int) (w : World) :
    Calls Try.prog 80 #[.int .i64 x, .int .i64 y] w fun e w' => e = .returned (.int .i64 (cmpIq x y)) ∧ w = w' := by
  by_cases h : x < y
  · have EA := Lib.hid (show cmpIq x y = -1 by simp [cmpIq, h])
    go_enter Try.func80, Try.ntmps80
    go_wp2
    go_ret
    exact ⟨ret_int EA.out.symm, rfl⟩
  by_cases h' : y < x
  · have EA := Lib.hid (show cmpIq x y = 1 by simp [cmpIq, h, h'])
    go_enter Try.func80, Try.ntmps80
    go_wp2
    go_ret
    exact ⟨ret_int EA.out.symm, rfl⟩
  · have EA := Lib.hid (show cmpIq x y = 0 by simp [cmpIq, h, h'])
    go_enter Try.func80, Try.ntmps80
    go_wp2
    go_ret
    exact ⟨ret_int EA.out.symm, rfl⟩

set_option maxHeartbeats 400000 in
theorem or2q_any (p q : Int) (b : Nat) (w : World) (h0 : w.cell? ⟨b, 0, none⟩ = some (.int .i64 p)) (h1 : w.cell? ⟨b, 1, none⟩ = some (.int .i64 q)) :
    Calls Try.prog 79 #[.slice (some ⟨b, 0, none⟩) 2 2] w fun e w' => e = .returned (.int .i64 (orIq p q)) ∧ w = w' := by
  go_enter Try.func79, Try.ntmps79
  go_wp2_with fail
  go_loop [8] (fun i => ∃ k : Nat, k ≤ 2 ∧ i = .int .i64 k ∧ Hid ((0 < k → p = 0) ∧ (1 < k → q = 0))) (fun i => 2 - (intOf i).toNat)
  case atStart => exact ⟨0, by omega, rfl, by constructor <;> (intro h; omega)⟩
  case round =>
    obtain ⟨k, hk, rfl, hz⟩ := hrel
    obtain rfl | rfl | rfl : k = 0 ∨ k = 1 ∨ k = 2 := by omega
    · by_cases hp : p = 0
      · have hp1 : (p != 0) = false := by simp [hp]
        have HP := Lib.hid hp
        clear hp
        go_wp2
        go_round
        case rel => exact ⟨1, by omega, rfl, ⟨fun _ => HP.out, fun h => by omega⟩⟩
        case measure => simp [intOf]
      · have hp1 : (p != 0) = true := by simp [hp]
        have HP := Lib.hid (show orIq p q = p by simp [orIq, hp])
        clear hp
        go_wp2
        go_ret
        exact ⟨ret_int HP.out.symm, rfl⟩
    · have HP := Lib.hid (show orIq p q = q by simp [orIq, hz.1 (by omega)])
      by_cases hq : q = 0
      · have hq1 : (q != 0) = false := by simp [hq]
        have HQ := Lib.hid hq
        clear hq
        go_wp2
        go_round
        case rel => exact ⟨2, by omega, rfl, ⟨fun _ => hz.1 (by omega), fun _ => HQ.out⟩⟩
        case measure => simp [intOf]
      · have hq1 : (q != 0) = true := by simp [hq]
        clear hq
        go_wp2
        go_ret
        exact ⟨ret_int HP.out.symm, rfl⟩
    · have HP := Lib.hid (show orIq p q = 0 by simp [orIq, hz.1 (by omega), hz.2 (by omega)])
      go_wp2
      go_ret
      exact ⟨ret_int HP.out.symm, rfl⟩

set_option maxHeartbeats 800000 in
theorem vcompareq_any (x y x' y' : Int) (w : World) :
    Calls Try.prog 62 #[.agg #[.int .i64 x, .int .i64 y], .agg #[.int .i64 x', .int .i64 y']] w fun e w' => e = .returned (.int .i64 (cmpWq x y x' y')) ∧ Below w.heap.size w w' := by
  have K0 := K4.made w x y x' y' 34
  go_enter Try.func62, Try.ntmps62
  go_wp2_with fail
  go_region_held3 (fun W => W.cell? ⟨w.heap.size, 0, none⟩ = some (.int .i64 x) ∧ W.cell? ⟨w.heap.size, 1, none⟩ = some (.int .i64 y) ∧ W.cell? ⟨w.heap.size + 1, 0, none⟩ = some (.int .i64 x') ∧ W.cell? ⟨w.heap.size + 1, 1, none⟩ = some (.int .i64 y')) ((refine K4.cells ?_; repeat (first | assumption | with_reducible refine K4.alloc ?_ _ | with_reducible refine K4.drew ?_)))
    (first
      | (go_at_call 80; refine (compareq_any _ _ _).mono ?_; rintro e w1 ⟨rfl, rfl⟩)
      | (go_at_call 79; refine (or2q_any (cmpIq x x') (cmpIq y y') _ _ ?_ ?_).mono ?_; (simp [go_sem]); (simp [go_sem]); rintro e w1 ⟨rfl, rfl⟩))
  go_wp2
  go_ret
  refine ⟨ret_int rfl, ?_⟩
  repeat (first | exact Below.refl _ _ | refine Below.alloc ?_ (by first | omega | (simp <;> omega)) _ | refine Below.drew ?_)

def lessB (x y x' y' : Int) : Bool := decide (x < x' ∨ x = x' ∧ y < y')

set_option maxHeartbeats 800000 in
theorem lessq_any (x y x' y' : Int) (w : World) :
    Calls Try.prog 64 #[.agg #[.int .i64 x, .int .i64 y], .agg #[.int .i64 x', .int .i64 y']] w fun e w' => e = .returned (.bool (lessB x y x' y')) ∧ Below w.heap.size w w' := by
  by_cases h1 : x < x'
  · have EA := Lib.hid (show lessB x y x' y' = true by simp [lessB, h1])
    go_enter Try.func64, Try.ntmps64
    go_wp2
    go_ret
    refine ⟨ret_bool EA.out.symm, ?_⟩
    repeat (first | exact Below.refl _ _ | refine Below.alloc ?_ (by first | omega | (simp <;> omega)) _)
  by_cases h2 : x = x'
  · have h2b : (x == x') = true := by simp [h2]
    by_cases h3 : y < y'
    · have EA := Lib.hid (show lessB x y x' y' = true by simp [lessB, h1, h2, h3])
      clear h2
      go_enter Try.func64, Try.ntmps64
      go_wp2
      go_ret
      refine ⟨ret_bool EA.out.symm, ?_⟩
      repeat (first | exact Below.refl _ _ | refine Below.alloc ?_ (by first | omega | (simp <;> omega)) _)
    · have EA := Lib.hid (show lessB x y x' y' = false by simp [lessB, h1, h3])
      clear h2
      go_enter Try.func64, Try.ntmps64
      go_wp2
      go_ret
      refine ⟨ret_bool EA.out.symm, ?_⟩
      repeat (first | exact Below.refl _ _ | refine Below.alloc ?_ (by first | omega | (simp <;> omega)) _)
  · have h2b : (x == x') = false := by simp [h2]
    have EA := Lib.hid (show lessB x y x' y' = false by simp [lessB, h1, h2])
    clear h2
    go_enter Try.func64, Try.ntmps64
    go_wp2
    go_ret
    refine ⟨ret_bool EA.out.symm, ?_⟩
    repeat (first | exact Below.refl _ _ | refine Below.alloc ?_ (by first | omega | (simp <;> omega)) _)

end Go.Proofs.Ytodkomaeljbhaaa
