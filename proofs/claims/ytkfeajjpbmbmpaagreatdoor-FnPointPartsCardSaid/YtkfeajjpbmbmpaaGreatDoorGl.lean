/-
  Several of my texts in one: Cp6, SortL, St6.
-/
import Derived.Test.YtkfeajjpbmbmpaaGreatDoorGc
import Derived.Test.YtkfeajjpbmbmpaaGreatDoorGa
import Derived.Test.YtkfeajjpbmbmpaaGreatDoorGh
import Derived.Deep.RegionHeld3
import Derived.LoopTactic
import Derived.Sort.Grow
import Derived.Shelf.SlSortCmp.NoneTotal
import Derived.Shelf.SlGeneric
import Derived.Ground.SlsfProg
import Derived.Test.YtkfeajjpbmbmpaaGreatDoorRows
import Derived.Laws.OwnMore
namespace Go.Proofs.YtkfeajjpbmbmpaaGreatDoor
section
open Go.RowKit Go.Sort Go.Lib
set_option linter.unusedSimpArgs false
set_option linter.unusedVariables false

def cmpZ (x y : Int) : Int := if x < y then -1 else if y < x then 1 else 0
def orZ (p q : Int) : Int := if p = 0 then q else p
theorem cmpZ_0 {x y : Int} : cmpZ x y = 0 ↔ x = y := by unfold cmpZ; split <;> (try split) <;> omega
theorem toGrow {W w1 : World} (h : Below W.heap.size W w1) (hd : W.drawn ≤ w1.drawn) : ∃ q os, w1 = grow (W.drewN q) os := by
  refine ⟨w1.drawn - W.drawn, w1.heap.extract W.heap.size w1.heap.size, ?_⟩
  obtain ⟨h1, h2, h3, h4, h5⟩ := h
  obtain ⟨hp, tp, dr, os, out⟩ := w1
  simp only at h1 h2 h3 h4 h5 hd
  subst h1 h2 h3
  unfold grow World.drewN
  simp only [World.mk.injEq, true_and]
  refine ⟨?_, (Nat.add_sub_of_le hd).symm, trivial⟩
  apply Array.ext_getElem?
  intro i
  by_cases hi : i < W.heap.size
  · rw [Array.getElem?_append_left hi]; exact h5 i hi
  · rw [Array.getElem?_append_right (by omega), Array.getElem?_extract]
    split
    · congr 1; omega
    · rw [Array.getElem?_eq_none (by omega)]
set_option maxHeartbeats 400000 in
theorem compareZ_any (x y : Int) (w : World) :
    Calls Tryz.prog 307 #[.int .i64 x, .int .i64 y] w fun e w' => e = .returned (.int .i64 (cmpZ x y)) ∧ w = w' := by
  by_cases h : x < y
  · have EA := Lib.hid (show cmpZ x y = -1 by simp [cmpZ, h])
    go_enter Tryz.func307, Tryz.ntmps307
    go_wp2
    go_ret
    exact ⟨ret_int EA.out.symm, rfl⟩
  by_cases h' : y < x
  · have EA := Lib.hid (show cmpZ x y = 1 by simp [cmpZ, h, h'])
    go_enter Tryz.func307, Tryz.ntmps307
    go_wp2
    go_ret
    exact ⟨ret_int EA.out.symm, rfl⟩
  · have EA := Lib.hid (show cmpZ x y = 0 by simp [cmpZ, h, h'])
    go_enter Tryz.func307, Tryz.ntmps307
    go_wp2
    go_ret
    exact ⟨ret_int EA.out.symm, rfl⟩

set_option maxHeartbeats 400000 in
theorem orZ_any (p q : Int) (b : Nat) (w : World) (h0 : w.cell? ⟨b, 0, none⟩ = some (.int .i64 p)) (h1 : w.cell? ⟨b, 1, none⟩ = some (.int .i64 q)) :
    Calls Tryz.prog 260 #[.slice (some ⟨b, 0, none⟩) 2 2] w fun e w' => e = .returned (.int .i64 (orZ p q)) ∧ w = w' := by
  go_enter Tryz.func260, Tryz.ntmps260
  go_wp2_with fail
  go_loop [8] (fun i => ∃ k : Nat, k ≤ 2 ∧ i = .int .i64 k ∧ Hid ((0 < k → p = 0) ∧ (1 < k → q = 0))) (fun i => 2 - (intOf i).toNat)
  case atStart => exact ⟨0, by omega, rfl, by constructor <;> (intro h; omega)⟩
  case round =>
    obtain ⟨k, hk, rfl, hz⟩ := hrel
    obtain rfl | rfl | rfl : k = 0 ∨ k = 1 ∨ k = 2 := by omega
    · by_cases hp : p = 0
      · have hp1 : (p != 0) = false := by simp [hp]
        have HP := Lib.hid hp
        clear hp
        go_wp2
        go_round
        case rel => exact ⟨1, by omega, rfl, ⟨fun _ => HP.out, fun h => by omega⟩⟩
        case measure => simp [intOf]
      · have hp1 : (p != 0) = true := by simp [hp]
        have HP := Lib.hid (show orZ p q = p by simp [orZ, hp])
        clear hp
        go_wp2
        go_ret
        exact ⟨ret_int HP.out.symm, rfl⟩
    · have HP := Lib.hid (show orZ p q = q by simp [orZ, hz.1 (by omega)])
      by_cases hq : q = 0
      · have hq1 : (q != 0) = false := by simp [hq]
        have HQ := Lib.hid hq
        clear hq
        go_wp2
        go_round
        case rel => exact ⟨2, by omega, rfl, ⟨fun _ => hz.1 (by omega), fun _ => HQ.out⟩⟩
        case measure => simp [intOf]
      · have hq1 : (q != 0) = true := by simp [hq]
        clear hq
        go_wp2
        go_ret
        exact ⟨ret_int HP.out.symm, rfl⟩
    · have HP := Lib.hid (show orZ p q = 0 by simp [orZ, hz.1 (by omega), hz.2 (by omega)])
      go_wp2
      go_ret
      exact ⟨ret_int HP.out.symm, rfl⟩

def cmp2Z (x y x' y' : Int) : Int := orZ (cmpZ x x') (cmpZ y y')
set_option maxHeartbeats 800000 in
theorem vcmpZ_any (x y x' y' : Int) (w : World) :
    Calls Tryz.prog 262 #[.agg #[.int .i64 x, .int .i64 y], .agg #[.int .i64 x', .int .i64 y']] w fun e w' => e = .returned (.int .i64 (cmp2Z x y x' y')) ∧ Below w.heap.size w w' ∧ w.drawn ≤ w'.drawn := by
  have K0 := K4.made w x y x' y' 31
  go_enter Tryz.func262, Tryz.ntmps262
  go_wp2_with fail
  go_region_held3 (fun W => W.cell? ⟨w.heap.size, 0, none⟩ = some (.int .i64 x) ∧ W.cell? ⟨w.heap.size, 1, none⟩ = some (.int .i64 y) ∧ W.cell? ⟨w.heap.size + 1, 0, none⟩ = some (.int .i64 x') ∧ W.cell? ⟨w.heap.size + 1, 1, none⟩ = some (.int .i64 y')) ((refine K4.cells ?_; repeat (first | assumption | with_reducible refine K4.alloc ?_ _ | with_reducible refine K4.drew ?_)))
    (first
      | (go_at_call 307; refine (compareZ_any _ _ _).mono ?_; rintro e w1 ⟨rfl, rfl⟩)
      | (go_at_call 260; refine (orZ_any (cmpZ x x') (cmpZ y y') _ _ ?_ ?_).mono ?_; (simp [go_sem]); (simp [go_sem]); rintro e w1 ⟨rfl, rfl⟩))
  go_wp2
  go_ret
  refine ⟨ret_int rfl, ?_, ?_⟩
  · repeat (first | exact Below.refl _ _ | refine Below.alloc ?_ (by first | omega | (simp <;> omega)) _ | refine Below.drew ?_)
  · repeat (first | exact Nat.le_refl _ | exact Nat.le_succ _ | refine Nat.le_trans ?_ (Nat.le_succ _))
def cmp4Z (a b c d a' b' c' d' : Int) : Int := orZ (cmpZ a a') (orZ (cmpZ b b') (orZ (cmpZ c c') (cmpZ d d')))
theorem orZ_no {p q : Int} (h : p ≠ 0) : orZ p q = p := by simp [orZ, h]
theorem orZ_z (q : Int) : orZ 0 q = q := by simp [orZ]
set_option maxRecDepth 100000 in
set_option maxHeartbeats 4000000 in
theorem scmpZ_any (g g' : Nat) (a b c d a' b' c' d' : Int) (w : World) (h0 : w.cell? ⟨g, 0, none⟩ = some (.int .i64 a)) (h1 : w.cell? ⟨g, 1, none⟩ = some (.int .i64 b)) (h2 : w.cell? ⟨g, 2, none⟩ = some (.int .i64 c)) (h3 : w.cell? ⟨g, 3, none⟩ = some (.int .i64 d)) (k0 : w.cell? ⟨g', 0, none⟩ = some (.int .i64 a')) (k1 : w.cell? ⟨g', 1, none⟩ = some (.int .i64 b')) (k2 : w.cell? ⟨g', 2, none⟩ = some (.int .i64 c')) (k3 : w.cell? ⟨g', 3, none⟩ = some (.int .i64 d')) :
    Calls Tryz.prog 261 #[.slice (some ⟨g, 0, none⟩) 4 4, .slice (some ⟨g', 0, none⟩) 4 4] w fun e w' => e = .returned (.int .i64 (cmp4Z a b c d a' b' c' d')) ∧ w = w' := by
  have HC := Lib.hid (fun x y W => compareZ_any x y W)
  go_enter Tryz.func261, Tryz.ntmps261
  go_wp2_with fail
  go_loop [11] (fun i => ∃ k : Nat, k ≤ 4 ∧ i = .int .i64 k ∧ Hid ((0 < k → a = a') ∧ (1 < k → b = b') ∧ (2 < k → c = c') ∧ (3 < k → d = d'))) (fun i => 4 - (intOf i).toNat)
  case atStart => exact ⟨0, by omega, rfl, Lib.hid (by refine ⟨?_, ?_, ?_, ?_⟩ <;> (intro h; omega))⟩
  case round =>
    obtain ⟨k, hk, rfl, hz⟩ := hrel
    obtain rfl | rfl | rfl | rfl | rfl : k = 0 ∨ k = 1 ∨ k = 2 ∨ k = 3 ∨ k = 4 := by omega
    · have HV := Lib.hid (show cmp4Z a b c d a' b' c' d' = orZ (cmpZ a a') (orZ (cmpZ b b') (orZ (cmpZ c c') (cmpZ d d'))) by simp only [cmp4Z])
      by_cases hq : a = a'
      · have CC : Hid (∀ W, Calls Tryz.prog 307 #[.int .i64 a, .int .i64 a'] W fun e w' => e = .returned (.int .i64 0) ∧ W = w') := Lib.hid (fun W => by have h := HC.out a a' W; rw [cmpZ_0.2 hq] at h; exact h)
        have HQ := Lib.hid hq
        clear hq
        go_wp2_with (go_at_call 307; refine (CC.out _).mono ?_; rintro e w1 ⟨rfl, rfl⟩)
        go_round
        case rel => exact ⟨1, by omega, rfl, Lib.hid ⟨fun _ => HQ.out, fun h => by omega, fun h => by omega, fun h => by omega⟩⟩
        case measure => simp [intOf]
      · have hne : cmpZ a a' ≠ 0 := fun h => hq (cmpZ_0.1 h)
        have HR := Lib.hid (show cmp4Z a b c d a' b' c' d' = cmpZ a a' by rw [HV.out]; exact orZ_no hne)
        have CC := Lib.hid (fun W => HC.out a a' W)
        generalize cmpZ a a' = r at hne HR CC
        have hne1 : (r != 0) = true := by simp [hne]
        clear hq hne
        go_wp2_with (go_at_call 307; refine (CC.out _).mono ?_; rintro e w1 ⟨rfl, rfl⟩)
        go_ret
        exact ⟨ret_int HR.out.symm, rfl⟩
    · have HV := Lib.hid (show cmp4Z a b c d a' b' c' d' = orZ (cmpZ b b') (orZ (cmpZ c c') (cmpZ d d')) by simp only [cmp4Z, cmpZ_0.2 (hz.out.1 (by omega)), orZ_z])
      by_cases hq : b = b'
      · have CC : Hid (∀ W, Calls Tryz.prog 307 #[.int .i64 b, .int .i64 b'] W fun e w' => e = .returned (.int .i64 0) ∧ W = w') := Lib.hid (fun W => by have h := HC.out b b' W; rw [cmpZ_0.2 hq] at h; exact h)
        have HQ := Lib.hid hq
        clear hq
        go_wp2_with (go_at_call 307; refine (CC.out _).mono ?_; rintro e w1 ⟨rfl, rfl⟩)
        go_round
        case rel => exact ⟨2, by omega, rfl, Lib.hid ⟨fun _ => hz.out.1 (by omega), fun _ => HQ.out, fun h => by omega, fun h => by omega⟩⟩
        case measure => simp [intOf]
      · have hne : cmpZ b b' ≠ 0 := fun h => hq (cmpZ_0.1 h)
        have HR := Lib.hid (show cmp4Z a b c d a' b' c' d' = cmpZ b b' by rw [HV.out]; exact orZ_no hne)
        have CC := Lib.hid (fun W => HC.out b b' W)
        generalize cmpZ b b' = r at hne HR CC
        have hne1 : (r != 0) = true := by simp [hne]
        clear hq hne
        go_wp2_with (go_at_call 307; refine (CC.out _).mono ?_; rintro e w1 ⟨rfl, rfl⟩)
        go_ret
        exact ⟨ret_int HR.out.symm, rfl⟩
    · have HV := Lib.hid (show cmp4Z a b c d a' b' c' d' = orZ (cmpZ c c') (cmpZ d d') by simp only [cmp4Z, cmpZ_0.2 (hz.out.1 (by omega)), orZ_z, cmpZ_0.2 (hz.out.2.1 (by omega)), orZ_z])
      by_cases hq : c = c'
      · have CC : Hid (∀ W, Calls Tryz.prog 307 #[.int .i64 c, .int .i64 c'] W fun e w' => e = .returned (.int .i64 0) ∧ W = w') := Lib.hid (fun W => by have h := HC.out c c' W; rw [cmpZ_0.2 hq] at h; exact h)
        have HQ := Lib.hid hq
        clear hq
        go_wp2_with (go_at_call 307; refine (CC.out _).mono ?_; rintro e w1 ⟨rfl, rfl⟩)
        go_round
        case rel => exact ⟨3, by omega, rfl, Lib.hid ⟨fun _ => hz.out.1 (by omega), fun _ => hz.out.2.1 (by omega), fun _ => HQ.out, fun h => by omega⟩⟩
        case measure => simp [intOf]
      · have hne : cmpZ c c' ≠ 0 := fun h => hq (cmpZ_0.1 h)
        have HR := Lib.hid (show cmp4Z a b c d a' b' c' d' = cmpZ c c' by rw [HV.out]; exact orZ_no hne)
        have CC := Lib.hid (fun W => HC.out c c' W)
        generalize cmpZ c c' = r at hne HR CC
        have hne1 : (r != 0) = true := by simp [hne]
        clear hq hne
        go_wp2_with (go_at_call 307; refine (CC.out _).mono ?_; rintro e w1 ⟨rfl, rfl⟩)
        go_ret
        exact ⟨ret_int HR.out.symm, rfl⟩
    · have HV := Lib.hid (show cmp4Z a b c d a' b' c' d' = cmpZ d d' by simp only [cmp4Z, cmpZ_0.2 (hz.out.1 (by omega)), orZ_z, cmpZ_0.2 (hz.out.2.1 (by omega)), orZ_z, cmpZ_0.2 (hz.out.2.2.1 (by omega)), orZ_z])
      by_cases hq : d = d'
      · have CC : Hid (∀ W, Calls Tryz.prog 307 #[.int .i64 d, .int .i64 d'] W fun e w' => e = .returned (.int .i64 0) ∧ W = w') := Lib.hid (fun W => by have h := HC.out d d' W; rw [cmpZ_0.2 hq] at h; exact h)
        have HQ := Lib.hid hq
        clear hq
        go_wp2_with (go_at_call 307; refine (CC.out _).mono ?_; rintro e w1 ⟨rfl, rfl⟩)
        go_round
        case rel => exact ⟨4, by omega, rfl, Lib.hid ⟨fun _ => hz.out.1 (by omega), fun _ => hz.out.2.1 (by omega), fun _ => hz.out.2.2.1 (by omega), fun _ => HQ.out⟩⟩
        case measure => simp [intOf]
      · have hne : cmpZ d d' ≠ 0 := fun h => hq (cmpZ_0.1 h)
        have HR := Lib.hid (show cmp4Z a b c d a' b' c' d' = cmpZ d d' by rw [HV.out])
        have CC := Lib.hid (fun W => HC.out d d' W)
        generalize cmpZ d d' = r at hne HR CC
        have hne1 : (r != 0) = true := by simp [hne]
        clear hq hne
        go_wp2_with (go_at_call 307; refine (CC.out _).mono ?_; rintro e w1 ⟨rfl, rfl⟩)
        go_ret
        exact ⟨ret_int HR.out.symm, rfl⟩
    · have HR := Lib.hid (show cmp4Z a b c d a' b' c' d' = 0 by simp only [cmp4Z, cmpZ_0.2 (hz.out.1 (by omega)), cmpZ_0.2 (hz.out.2.1 (by omega)), cmpZ_0.2 (hz.out.2.2.1 (by omega)), cmpZ_0.2 (hz.out.2.2.2 (by omega)), orZ_z])
      go_wp2
      go_ret
      exact ⟨ret_int HR.out.symm, rfl⟩
def cmpMZ (m n : M6) : Int := orZ (cmp4Z m.1 m.2.1 m.2.2.1 m.2.2.2.1 n.1 n.2.1 n.2.2.1 n.2.2.2.1) (cmp2Z m.2.2.2.2.1 m.2.2.2.2.2 n.2.2.2.2.1 n.2.2.2.2.2)
theorem cmpMZ_iff (m n : M6) : cmpMZ m n < 0 ↔ (m.1 < n.1 ∨ m.1 = n.1 ∧ (m.2.1 < n.2.1 ∨ m.2.1 = n.2.1 ∧ (m.2.2.1 < n.2.2.1 ∨ m.2.2.1 = n.2.2.1 ∧ (m.2.2.2.1 < n.2.2.2.1 ∨ m.2.2.2.1 = n.2.2.2.1 ∧ (m.2.2.2.2.1 < n.2.2.2.2.1 ∨ m.2.2.2.2.1 = n.2.2.2.2.1 ∧ m.2.2.2.2.2 < n.2.2.2.2.2))))) := by
  obtain ⟨a, b, c, d, x, y⟩ := m
  obtain ⟨a', b', c', d', x', y'⟩ := n
  simp only [cmpMZ, cmp4Z, cmp2Z]
  by_cases h1 : a = a'
  · rw [cmpZ_0.2 h1, orZ_z]
    by_cases h2 : b = b'
    · rw [cmpZ_0.2 h2, orZ_z]
      by_cases h3 : c = c'
      · rw [cmpZ_0.2 h3, orZ_z]
        by_cases h4 : d = d'
        · rw [cmpZ_0.2 h4, orZ_z]
          by_cases h5 : x = x'
          · rw [cmpZ_0.2 h5, orZ_z]
            unfold cmpZ
            split <;> (try split) <;> omega
          · rw [orZ_no (fun h => h5 (cmpZ_0.1 h))]
            unfold cmpZ
            split <;> (try split) <;> omega
        · rw [orZ_no (fun h => h4 (cmpZ_0.1 h))]
          unfold cmpZ
          split <;> (try split) <;> omega
      · rw [orZ_no (show orZ (cmpZ c c') (cmpZ d d') ≠ 0 by rw [orZ_no (fun h => h3 (cmpZ_0.1 h))]; exact fun h => h3 (cmpZ_0.1 h)), orZ_no (fun h => h3 (cmpZ_0.1 h))]
        unfold cmpZ
        split <;> (try split) <;> omega
    · have e := orZ_no (p := cmpZ b b') (q := orZ (cmpZ c c') (cmpZ d d')) (fun h => h2 (cmpZ_0.1 h))
      rw [e, orZ_no (fun h => h2 (cmpZ_0.1 h))]
      unfold cmpZ
      split <;> (try split) <;> omega
  · have e := orZ_no (p := cmpZ a a') (q := orZ (cmpZ b b') (orZ (cmpZ c c') (cmpZ d d'))) (fun h => h1 (cmpZ_0.1 h))
    rw [e, orZ_no (fun h => h1 (cmpZ_0.1 h))]
    unfold cmpZ
    split <;> (try split) <;> omega
theorem cmpMZ_lt (m n : M6) : decide (cmpMZ m n < 0) = ltM m n := decide_eq_decide.2 (cmpMZ_iff m n)
theorem drew_le (W : World) : W.drawn ≤ W.drew.drawn := Nat.le_succ _
theorem alloc_le (W : World) (z : Obj) : W.drawn ≤ (W.alloc z).drawn := Nat.le_refl _
set_option maxRecDepth 100000 in
set_option maxHeartbeats 8000000 in
theorem mcmp_any (m n : M6) (w : World) :
    Calls Tryz.prog 168 #[.agg #[.int .i64 (m.1), .int .i64 (m.2.1), .int .i64 (m.2.2.1), .int .i64 (m.2.2.2.1), .int .i64 (m.2.2.2.2.1), .int .i64 (m.2.2.2.2.2)], .agg #[.int .i64 (n.1), .int .i64 (n.2.1), .int .i64 (n.2.2.1), .int .i64 (n.2.2.2.1), .int .i64 (n.2.2.2.2.1), .int .i64 (n.2.2.2.2.2)]] w fun e w' => e = .returned (.int .i64 (cmpMZ m n)) ∧ Below w.heap.size w w' ∧ w.drawn ≤ w'.drawn := by
  obtain ⟨a, b, c, d, x, y⟩ := m
  obtain ⟨a', b', c', d', x', y'⟩ := n
  have HV := Lib.hid (show orZ (cmp4Z a b c d a' b' c' d') (cmp2Z x y x' y') = cmpMZ (a, b, c, d, x, y) (a', b', c', d', x', y') from rfl)
  generalize cmpMZ (a, b, c, d, x, y) (a', b', c', d', x', y') = r at HV
  have HS := Lib.hid (fun g g' W => scmpZ_any g g' a b c d a' b' c' d' W)
  have HW := Lib.hid (fun W => vcmpZ_any x y x' y' W)
  generalize cmp4Z a b c d a' b' c' d' = p at HV HS
  generalize cmp2Z x y x' y' = q at HV HW
  dsimp only
  have M0 : Km w.heap.size a b c d x y ((w.alloc (.cells #[.int .i64 a, .int .i64 b, .int .i64 c, .int .i64 d, .int .i64 x, .int .i64 y] 126)).alloc (.cells #[.int .i64 a', .int .i64 b', .int .i64 c', .int .i64 d', .int .i64 x', .int .i64 y'] 126)) := (Km.at _ rfl).alloc _
  have N0 : Km (w.heap.size + 1) a' b' c' d' x' y' ((w.alloc (.cells #[.int .i64 a, .int .i64 b, .int .i64 c, .int .i64 d, .int .i64 x, .int .i64 y] 126)).alloc (.cells #[.int .i64 a', .int .i64 b', .int .i64 c', .int .i64 d', .int .i64 x', .int .i64 y'] 126)) := Km.at _ (by simp)
  have B0 : Below w.heap.size w ((w.alloc (.cells #[.int .i64 a, .int .i64 b, .int .i64 c, .int .i64 d, .int .i64 x, .int .i64 y] 126)).alloc (.cells #[.int .i64 a', .int .i64 b', .int .i64 c', .int .i64 d', .int .i64 x', .int .i64 y'] 126)) := ((Below.refl _ _).alloc (Nat.le_refl _) _).alloc (by simp) _
  have D0 : w.drawn ≤ ((w.alloc (.cells #[.int .i64 a, .int .i64 b, .int .i64 c, .int .i64 d, .int .i64 x, .int .i64 y] 126)).alloc (.cells #[.int .i64 a', .int .i64 b', .int .i64 c', .int .i64 d', .int .i64 x', .int .i64 y'] 126)).drawn := Nat.le_refl _
  go_enter Tryz.func168, Tryz.ntmps168
  go_wp2_with fail
  go_region_held3 (fun W => (W.cell? ⟨w.heap.size, 0, none⟩ = some (.int .i64 a) ∧ W.cell? ⟨w.heap.size, 1, none⟩ = some (.int .i64 b) ∧ W.cell? ⟨w.heap.size, 2, none⟩ = some (.int .i64 c) ∧ W.cell? ⟨w.heap.size, 3, none⟩ = some (.int .i64 d) ∧ W.cell? ⟨w.heap.size, 4, none⟩ = some (.int .i64 x) ∧ W.cell? ⟨w.heap.size, 5, none⟩ = some (.int .i64 y)) ∧ (W.cell? ⟨w.heap.size + 1, 0, none⟩ = some (.int .i64 a') ∧ W.cell? ⟨w.heap.size + 1, 1, none⟩ = some (.int .i64 b') ∧ W.cell? ⟨w.heap.size + 1, 2, none⟩ = some (.int .i64 c') ∧ W.cell? ⟨w.heap.size + 1, 3, none⟩ = some (.int .i64 d') ∧ W.cell? ⟨w.heap.size + 1, 4, none⟩ = some (.int .i64 x') ∧ W.cell? ⟨w.heap.size + 1, 5, none⟩ = some (.int .i64 y'))) ((refine And.intro (Km.cells ?_) (Km.cells ?_)) <;> repeat (first | with_reducible assumption | with_reducible refine Km.drew ?_ | with_reducible refine Km.alloc ?_ _ | with_reducible refine Km.call ?_ (by with_reducible assumption)))
    (first
      | (go_at_call 261; refine (HS.out _ _ _ ?_ ?_ ?_ ?_ ?_ ?_ ?_ ?_).mono ?_; (simp [go_sem, *]); (simp [go_sem, *]); (simp [go_sem, *]); (simp [go_sem, *]); (simp [go_sem, *]); (simp [go_sem, *]); (simp [go_sem, *]); (simp [go_sem, *]); rintro e w1 ⟨rfl, rfl⟩)
      | (go_at_call 262; refine (HW.out _).mono ?_; rintro e w2 ⟨rfl, hb2, hd2⟩; have M2 : Km w.heap.size a b c d x y w2 := (by repeat (first | with_reducible assumption | with_reducible refine Km.drew ?_ | with_reducible refine Km.alloc ?_ _ | with_reducible refine Km.call ?_ (by with_reducible assumption))); have N2 : Km (w.heap.size + 1) a' b' c' d' x' y' w2 := (by repeat (first | with_reducible assumption | with_reducible refine Km.drew ?_ | with_reducible refine Km.alloc ?_ _ | with_reducible refine Km.call ?_ (by with_reducible assumption))); have B2 : Below w.heap.size w w2 := (by repeat (first | with_reducible assumption | with_reducible exact Below.refl _ _ | with_reducible refine Below.alloc ?_ (by first | omega | (simp <;> omega)) _ | with_reducible refine bstep ?_ (by with_reducible assumption) | with_reducible refine Below.drew ?_)); have D2 : w.drawn ≤ w2.drawn := (by repeat (first | with_reducible assumption | with_reducible exact Nat.le_refl _ | with_reducible refine Nat.le_trans ?_ (drew_le _) | with_reducible refine Nat.le_trans ?_ (alloc_le _ _) | with_reducible refine Nat.le_trans ?_ (by with_reducible assumption))); have zz2 := B2.size)
      | (go_at_call 260; refine (orZ_any p q _ _ ?_ ?_).mono ?_; (simp [go_sem]); (simp [go_sem]); rintro e w3 ⟨rfl, rfl⟩))
  all_goals
    go_wp2
    go_ret
    refine ⟨ret_int HV.out, ?_, ?_⟩
    · repeat (first | with_reducible assumption | with_reducible exact Below.refl _ _ | with_reducible refine Below.alloc ?_ (by first | omega | (simp <;> omega)) _ | with_reducible refine bstep ?_ (by with_reducible assumption) | with_reducible refine Below.drew ?_)
    · repeat (first | with_reducible assumption | with_reducible exact Nat.le_refl _ | with_reducible refine Nat.le_trans ?_ (drew_le _) | with_reducible refine Nat.le_trans ?_ (alloc_le _ _) | with_reducible refine Nat.le_trans ?_ (by with_reducible assumption))
end
end Go.Proofs.YtkfeajjpbmbmpaaGreatDoor

section
namespace Go.Proofs
open Go.Shelf
def Tryz.sortMo_ren : Go.Shelf.Ren := ⟨fun | 6 => 173 | 15 => 266 | 14 => 265 | 28 => 316 | 29 => 317 | 20 => 308 | 21 => 309 | 22 => 310 | 23 => 311 | 24 => 312 | 25 => 313 | 26 => 314 | 27 => 315 | 46 => 332 | 47 => 333 | 48 => 334 | 49 => 335 | 50 => 336 | 57 => 342 | n => n, fun | 22 => 121 | 24 => 126 | 25 => 184 | 3 => 3 | 39 => 270 | 0 => 0 | 53 => 315 | 55 => 317 | 4 => 4 | 46 => 309 | 45 => 308 | 50 => 182 | 5 => 5 | 9 => 9 | 66 => 335 | 70 => 339 | 76 => 347 | 77 => 348 | n => n, fun | n => n⟩
theorem Tryz.sortMo : Go.Proofs.SlLaysF0.n6 Tryz.prog Tryz.sortMo_ren := {
  mixed := by kernel_rfl
  f6 := ⟨Tryz.f173.name, by decide, Tryz.func173.trans (congrArg some (by kernel_rfl))⟩
  f14 := ⟨Tryz.f265.name, by decide, Tryz.func265.trans (congrArg some (by kernel_rfl))⟩
  f15 := Tryz.func266.trans (congrArg some (by kernel_rfl))
  f20 := ⟨Tryz.f308.name, by decide, Tryz.func308.trans (congrArg some (by kernel_rfl))⟩
  f21 := ⟨Tryz.f309.name, by decide, Tryz.func309.trans (congrArg some (by kernel_rfl))⟩
  f22 := ⟨Tryz.f310.name, by decide, Tryz.func310.trans (congrArg some (by kernel_rfl))⟩
  f23 := ⟨Tryz.f311.name, by decide, Tryz.func311.trans (congrArg some (by kernel_rfl))⟩
  f24 := ⟨Tryz.f312.name, by decide, Tryz.func312.trans (congrArg some (by kernel_rfl))⟩
  f25 := ⟨Tryz.f313.name, by decide, Tryz.func313.trans (congrArg some (by kernel_rfl))⟩
  f26 := ⟨Tryz.f314.name, by decide, Tryz.func314.trans (congrArg some (by kernel_rfl))⟩
  f27 := ⟨Tryz.f315.name, by decide, Tryz.func315.trans (congrArg some (by kernel_rfl))⟩
  f28 := Tryz.func316.trans (congrArg some (by kernel_rfl))
  f29 := Tryz.func317.trans (congrArg some (by kernel_rfl))
  f46 := ⟨Tryz.f332.name, by decide, Tryz.func332.trans (congrArg some (by kernel_rfl))⟩
  f47 := Tryz.func333.trans (congrArg some (by kernel_rfl))
  f48 := Tryz.func334.trans (congrArg some (by kernel_rfl))
  f49 := ⟨Tryz.f335.name, by decide, Tryz.func335.trans (congrArg some (by kernel_rfl))⟩
  f50 := ⟨Tryz.f336.name, by decide, Tryz.func336.trans (congrArg some (by kernel_rfl))⟩
  f57 := ⟨Tryz.f342.name, by decide, Tryz.func342.trans (congrArg some (by kernel_rfl))⟩
  t0 := Tryz.underlying0
  a0 := Tryz.isAgg0
  z0 := Tryz.sizeOf0
  v0 := Tryz.zeroValue0
  t3 := Tryz.underlying3
  a3 := Tryz.isAgg3
  z3 := Tryz.sizeOf3
  v3 := Tryz.zeroValue3
  t4 := Tryz.underlying4
  a4 := Tryz.isAgg4
  z4 := Tryz.sizeOf4
  v4 := Tryz.zeroValue4
  t5 := Tryz.underlying5
  a5 := Tryz.isAgg5
  z5 := Tryz.sizeOf5
  v5 := Tryz.zeroValue5
  t9 := Tryz.underlying9
  a9 := Tryz.isAgg9
  z9 := Tryz.sizeOf9
  v9 := Tryz.zeroValue9
  t22 := Tryz.underlying121
  a22 := Tryz.isAgg121
  z22 := Tryz.sizeOf121
  v22 := Tryz.zeroValue121
  t25 := Tryz.underlying184
  a25 := Tryz.isAgg184
  z25 := Tryz.sizeOf184
  v25 := Tryz.zeroValue184
  t39 := Tryz.underlying270
  a39 := Tryz.isAgg270
  z39 := Tryz.sizeOf270
  v39 := Tryz.zeroValue270
  t45 := Tryz.underlying308
  a45 := Tryz.isAgg308
  z45 := Tryz.sizeOf308
  v45 := Tryz.zeroValue308
  t46 := Tryz.underlying309
  a46 := Tryz.isAgg309
  z46 := Tryz.sizeOf309
  v46 := Tryz.zeroValue309
  t50 := Tryz.underlying182
  a50 := Tryz.isAgg182
  z50 := Tryz.sizeOf182
  v50 := Tryz.zeroValue182
  t53 := Tryz.underlying315
  a53 := Tryz.isAgg315
  z53 := Tryz.sizeOf315
  v53 := Tryz.zeroValue315
  t55 := Tryz.underlying317
  a55 := Tryz.isAgg317
  z55 := Tryz.sizeOf317
  v55 := Tryz.zeroValue317
  t66 := Tryz.underlying335
  a66 := Tryz.isAgg335
  z66 := Tryz.sizeOf335
  v66 := Tryz.zeroValue335
  t70 := Tryz.underlying339
  a70 := Tryz.isAgg339
  z70 := Tryz.sizeOf339
  v70 := Tryz.zeroValue339
  t76 := Tryz.underlying347
  a76 := Tryz.isAgg347
  z76 := Tryz.sizeOf347
  v76 := Tryz.zeroValue347
  t77 := Tryz.underlying348
  a77 := Tryz.isAgg348
  z77 := Tryz.sizeOf348
  v77 := Tryz.zeroValue348 }
end Go.Proofs
end

namespace Go.Proofs.YtkfeajjpbmbmpaaGreatDoor
section
open Go.RowKit Go.Sort Go.Lib Go.Shelf
set_option linter.unusedSimpArgs false
set_option linter.unusedVariables false

def enc6 (m : M6) : List Value := [.int .i64 m.1, .int .i64 m.2.1, .int .i64 m.2.2.1, .int .i64 m.2.2.2.1, .int .i64 m.2.2.2.2.1, .int .i64 m.2.2.2.2.2]
theorem enc6_len (m : M6) : (enc6 m).length = 6 := rfl
theorem enc6_one (m : M6) : ∀ v ∈ enc6 m, v.oneCell' = true := one_six
theorem flat6 (d : List M6) : flatK enc6 6 d.toArray = (cells6 d).toArray := by
  refine ext_get! (by simp [cells6_len]) fun t ht => ?_
  have ht' : t < d.length * 6 := by simpa using ht
  rw [get_flatK _ _ _ _ (by simpa using ht')]
  have hi : t / 6 < d.length := by omega
  have hc := cells6_get d (t / 6) hi
  obtain ⟨c0, c1, c2, c3, c4, c5⟩ := hc
  have e : t = t / 6 * 6 + t % 6 := by omega
  have hg : ∀ v, (cells6 d)[t]? = some v → (cells6 d).toArray[t]! = v := fun v h => by simp [h]
  have hx : d.toArray[t / 6]! = d[t / 6] := by simp [hi]
  rw [hx]
  have h6 : t % 6 < 6 := by omega
  generalize t % 6 = c at e h6
  obtain rfl | rfl | rfl | rfl | rfl | rfl : c = 0 ∨ c = 1 ∨ c = 2 ∨ c = 3 ∨ c = 4 ∨ c = 5 := by omega
  · rw [hg _ (by rw [e]; exact c0)]; rfl
  · rw [hg _ (by rw [e]; exact c1)]; rfl
  · rw [hg _ (by rw [e]; exact c2)]; rfl
  · rw [hg _ (by rw [e]; exact c3)]; rfl
  · rw [hg _ (by rw [e]; exact c4)]; rfl
  · rw [hg _ (by rw [e]; exact c5)]; rfl
theorem holds_row {w : World} {g : Nat} {cur : Array Value} {e : TypeId} {l : List Value} (hb : w.heap[g]? = some (.cells cur e (0, 0))) (ht : cur.toList.take l.length = l) : Holds id w g 0 l.toArray := by
  intro j hj
  have hj' : j < l.length := by simpa using hj
  refine ⟨?_, by simp [World.frozen?, hb]⟩
  have h1 : (cur.toList.take l.length)[j]? = l[j]? := by rw [ht]
  rw [List.getElem?_take_of_lt hj'] at h1
  simp only [World.cell?, hb, Nat.zero_add]
  simp only [Option.isSome_none, Bool.false_eq_true, if_false]
  rw [← Array.getElem?_toList, h1]
  simp [hj']
theorem heap_put {w : World} {g n : Nat} {os : Array Obj} {cur : Array Value} {e : TypeId} {fr : Nat × Nat} (d : Array Value) (hb : w.heap[g]? = some (.cells cur e fr)) :
    (grow (putRow id (Sort.ahead w n) g 0 d) os).heap[g]? = some (.cells (putCells id 0 d cur) e fr) := by
  have hg : g < w.heap.size := (Array.getElem?_eq_some_iff.1 hb).1
  rw [heap_grow_old _ _ (by simpa using hg)]
  simp [putRow, mapBlock, Sort.ahead, Array.getElem?_modify, hb, onCells]
theorem grownBy_put {w : World} {g n : Nat} {os : Array Obj} (d : Array Value) : w.grownBy (grow (putRow id (Sort.ahead w n) g 0 d) os) (some g) := by
  refine ⟨rfl, rfl, rfl, by simp, fun k hk hne => ?_⟩
  rw [heap_grow_old _ _ (by simpa using hk)]
  have : g ≠ k := fun e => hne (by rw [e])
  simp [putRow, mapBlock, Sort.ahead, Array.getElem?_modify, this]
theorem take_put (cur : Array Value) (l : List Value) (h : l.length ≤ cur.size) : (putCells id 0 l.toArray cur).toList.take l.length = l := by
  apply List.ext_getElem?
  intro j
  by_cases hj : j < l.length
  · rw [List.getElem?_take_of_lt hj, Array.getElem?_toList]
    simp [putCells, hj, show j < cur.size by omega]
  · rw [List.getElem?_take_eq_none (by omega), List.getElem?_eq_none (by omega)]
theorem sort_len (xs : List M6) : (xs.mergeSort fun x y => !ltM y x).length = xs.length := (List.mergeSort_perm xs _).length_eq
theorem swoMZ : SWO (ltOf cmpMZ) := by
  have e : ltOf cmpMZ = ltM := by funext x y; exact cmpMZ_lt x y
  rw [e]
  refine ⟨ltM_irrefl, fun x y z h1 h2 => ltM_trans h1 h2, fun x y z h1 h2 => ?_⟩
  rcases hc : ltM x z with _ | _
  · rfl
  · rcases hxy : ltM y x with _ | _
    · have := ltM_total h1 hxy
      subst this
      rw [h2] at hc; cases hc
    · have := ltM_trans hxy hc
      rw [h2] at this; cases this
set_option maxRecDepth 100000 in
set_option maxHeartbeats 2000000 in
theorem sortMo_any {base g cap : Nat} {xs : List M6} {w : World} (hown : w.ownsRow base 126 6 (.slice (some ⟨g, 0, none⟩) xs.length cap) xs.length (cells6 xs)) (hn : xs.length ≤ 1000000) :
    Calls Tryz.prog 173 #[.slice (some ⟨g, 0, none⟩) xs.length cap, .func (.func 168) #[] #[]] w fun e w' => e = .returned (.tuple #[]) ∧ w'.ownsRow base 126 6 (.slice (some ⟨g, 0, none⟩) xs.length cap) xs.length (cells6 (xs.mergeSort fun x y => !ltM y x)) ∧ w.grownBy w' (some g) := by
  have hl := hown.1
  rcases hown.2 with ⟨h0, _⟩ | ⟨g', cap', cur, he, hg, hb, h1, h2, h3, h4⟩
  · simp at h0
  simp only [Value.slice.injEq, Option.some.injEq, Addr.mk.injEq, and_true, true_and] at he
  obtain ⟨rfl, rfl⟩ := he
  have hlen : (cells6 xs).length = xs.length * 6 := cells6_len xs
  have h4' : cur.toList.take (cells6 xs).length = cells6 xs := by rw [hlen]; exact h4
  have hH : HoldsK enc6 6 w g 0 xs.toArray := by
    unfold HoldsK
    rw [flat6]
    exact holds_row hb h4'
  have eg : ∀ args w, (callFunc 168 args).run Tryz.prog w = .ok (.enter 168 args) w := enters_of Tryz.func168 (by kernel_rfl) rfl
  have hcmp : CmpLays Tryz.prog 168 #[] enc6 6 cmpMZ g 0 xs.toArray.size w := fun _ _ _ _ x y => (mcmp_any x y _).mono fun _ _ ⟨he, hb, hd⟩ => ⟨he, toGrow hb hd⟩
  have hcon := AnyQ.slices_SortFunc_total Tryz.sortMo 6 Tryz.isAgg126 Tryz.sizeOf126 enc6 enc6_len enc6_one cmpMZ swoMZ 168 #[] g 0 cap xs.toArray w eg hcmp hH (Array.getElem?_eq_some_iff.1 hb).1 (by simp; omega) (fun x y a b => ltM_total (by rw [← cmpMZ_lt]; exact a) (by rw [← cmpMZ_lt]; exact b))
  refine Calls.mono hcon ?_
  rintro e w' ⟨rfl, n, os, rfl⟩
  have es : (xs.toArray.toList.mergeSort fun x y => !(ltOf cmpMZ) y x) = xs.mergeSort fun x y => !ltM y x := by
    congr 1
    funext x y
    show (!(decide (cmpMZ y x < 0))) = _
    rw [cmpMZ_lt]
  rw [es]
  have ef : sortWorldK enc6 6 w g 0 n (xs.mergeSort fun x y => !ltM y x).toArray os = grow (putRow id (Sort.ahead w n) g 0 (cells6 (xs.mergeSort fun x y => !ltM y x)).toArray) os := by
    unfold sortWorldK putRowK
    rw [flat6]
  rw [ef]
  refine ⟨rfl, ⟨by rw [cells6_len, sort_len], .inr ⟨g, cap, _, rfl, hg, heap_put _ hb, h1, h2, by simp [putCells, h3], ?_⟩⟩, grownBy_put _⟩
  have hs : (cells6 (xs.mergeSort fun x y => !ltM y x)).length = xs.length * 6 := by rw [cells6_len, sort_len]
  rw [← hs]
  exact take_put cur _ (by rw [hs, h3]; exact Nat.mul_le_mul_right 6 h1)
end
end Go.Proofs.YtkfeajjpbmbmpaaGreatDoor

