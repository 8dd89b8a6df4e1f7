/-
  The program's order of motions: one number for two motions, whatever world; what it leaves is the world with draws and new blocks. No condition.
-/
import Derived.Test.YtkfdaepnjdnnmaaGreatDoorGc
import Derived.Test.YtkfdaepnjdnnmaaGreatDoorGa
import Derived.Test.YtkfdaepnjdnnmaaGreatDoorGh
import Derived.Deep.RegionHeld3
import Derived.LoopTactic
import Derived.Sort.Grow
import Derived.Shelf.SlSortCmp.NoneTotal
namespace Go.Proofs.YtkfdaepnjdnnmaaGreatDoor
open Go.RowKit Go.Sort Go.Lib
set_option linter.unusedSimpArgs false
set_option linter.unusedVariables false

def cmpZ (x y : Int) : Int := if x < y then -1 else if y < x then 1 else 0
def orZ (p q : Int) : Int := if p = 0 then q else p
theorem cmpZ_0 {x y : Int} : cmpZ x y = 0 ↔ x = y := by unfold cmpZ; split <;> (try split) <;> omega
theorem toGrow {W w1 : World} (h : Below W.heap.size W w1) (hd : W.drawn ≤ w1.drawn) : ∃ q os, w1 = grow (W.drewN q) os := by
  refine ⟨w1.drawn - W.drawn, w1.heap.extract W.heap.size w1.heap.size, ?_⟩
  obtain ⟨h1, h2, h3, h4, h5⟩ := h
  obtain ⟨hp, tp, dr, os, out⟩ := w1
  simp only at h1 h2 h3 h4 h5 hd
  subst h1 h2 h3
  unfold grow World.drewN
  simp only [World.mk.injEq, true_and]
  refine ⟨?_, (Nat.add_sub_of_le hd).symm, trivial⟩
  apply Array.ext_getElem?
  intro i
  by_cases hi : i < W.heap.size
  · rw [Array.getElem?_append_left hi]; exact h5 i hi
  · rw [Array.getElem?_append_right (by omega), Array.getElem?_extract]
    split
    · congr 1; omega
    · rw [Array.getElem?_eq_none (by omega)]
set_option maxHeartbeats 400000 in
theorem compareZ_any (x y : Int) (w : World) :
    Calls Tryz.prog 150 #[.int .i64 x, .int .i64 y] w fun e w' => e = .returned (.int .i64 (cmpZ x y)) ∧ w = w' := by
  by_cases h : x < y
  · have EA := Lib.hid (show cmpZ x y = -1 by simp [cmpZ, h])
    go_enter Tryz.func150, Tryz.ntmps150
    go_wp2
    go_ret
    exact ⟨ret_int EA.out.symm, rfl⟩
  by_cases h' : y < x
  · have EA := Lib.hid (show cmpZ x y = 1 by simp [cmpZ, h, h'])
    go_enter Tryz.func150, Tryz.ntmps150
    go_wp2
    go_ret
    exact ⟨ret_int EA.out.symm, rfl⟩
  · have EA := Lib.hid (show cmpZ x y = 0 by simp [cmpZ, h, h'])
    go_enter Tryz.func150, Tryz.ntmps150
    go_wp2
    go_ret
    exact ⟨ret_int EA.out.symm, rfl⟩

set_option maxHeartbeats 400000 in
theorem orZ_any (p q : Int) (b : Nat) (w : World) (h0 : w.cell? ⟨b, 0, none⟩ = some (.int .i64 p)) (h1 : w.cell? ⟨b, 1, none⟩ = some (.int .i64 q)) :
    Calls Tryz.prog 121 #[.slice (some ⟨b, 0, none⟩) 2 2] w fun e w' => e = .returned (.int .i64 (orZ p q)) ∧ w = w' := by
  go_enter Tryz.func121, Tryz.ntmps121
  go_wp2_with fail
  go_loop [8] (fun i => ∃ k : Nat, k ≤ 2 ∧ i = .int .i64 k ∧ Hid ((0 < k → p = 0) ∧ (1 < k → q = 0))) (fun i => 2 - (intOf i).toNat)
  case atStart => exact ⟨0, by omega, rfl, by constructor <;> (intro h; omega)⟩
  case round =>
    obtain ⟨k, hk, rfl, hz⟩ := hrel
    obtain rfl | rfl | rfl : k = 0 ∨ k = 1 ∨ k = 2 := by omega
    · by_cases hp : p = 0
      · have hp1 : (p != 0) = false := by simp [hp]
        have HP := Lib.hid hp
        clear hp
        go_wp2
        go_round
        case rel => exact ⟨1, by omega, rfl, ⟨fun _ => HP.out, fun h => by omega⟩⟩
        case measure => simp [intOf]
      · have hp1 : (p != 0) = true := by simp [hp]
        have HP := Lib.hid (show orZ p q = p by simp [orZ, hp])
        clear hp
        go_wp2
        go_ret
        exact ⟨ret_int HP.out.symm, rfl⟩
    · have HP := Lib.hid (show orZ p q = q by simp [orZ, hz.1 (by omega)])
      by_cases hq : q = 0
      · have hq1 : (q != 0) = false := by simp [hq]
        have HQ := Lib.hid hq
        clear hq
        go_wp2
        go_round
        case rel => exact ⟨2, by omega, rfl, ⟨fun _ => hz.1 (by omega), fun _ => HQ.out⟩⟩
        case measure => simp [intOf]
      · have hq1 : (q != 0) = true := by simp [hq]
        clear hq
        go_wp2
        go_ret
        exact ⟨ret_int HP.out.symm, rfl⟩
    · have HP := Lib.hid (show orZ p q = 0 by simp [orZ, hz.1 (by omega), hz.2 (by omega)])
      go_wp2
      go_ret
      exact ⟨ret_int HP.out.symm, rfl⟩

def cmp2Z (x y x' y' : Int) : Int := orZ (cmpZ x x') (cmpZ y y')
set_option maxHeartbeats 800000 in
theorem vcmpZ_any (x y x' y' : Int) (w : World) :
    Calls Tryz.prog 123 #[.agg #[.int .i64 x, .int .i64 y], .agg #[.int .i64 x', .int .i64 y']] w fun e w' => e = .returned (.int .i64 (cmp2Z x y x' y')) ∧ Below w.heap.size w w' ∧ w.drawn ≤ w'.drawn := by
  have K0 := K4.made w x y x' y' 53
  go_enter Tryz.func123, Tryz.ntmps123
  go_wp2_with fail
  go_region_held3 (fun W => W.cell? ⟨w.heap.size, 0, none⟩ = some (.int .i64 x) ∧ W.cell? ⟨w.heap.size, 1, none⟩ = some (.int .i64 y) ∧ W.cell? ⟨w.heap.size + 1, 0, none⟩ = some (.int .i64 x') ∧ W.cell? ⟨w.heap.size + 1, 1, none⟩ = some (.int .i64 y')) ((refine K4.cells ?_; repeat (first | assumption | with_reducible refine K4.alloc ?_ _ | with_reducible refine K4.drew ?_)))
    (first
      | (go_at_call 150; refine (compareZ_any _ _ _).mono ?_; rintro e w1 ⟨rfl, rfl⟩)
      | (go_at_call 121; refine (orZ_any (cmpZ x x') (cmpZ y y') _ _ ?_ ?_).mono ?_; (simp [go_sem]); (simp [go_sem]); rintro e w1 ⟨rfl, rfl⟩))
  go_wp2
  go_ret
  refine ⟨ret_int rfl, ?_, ?_⟩
  · repeat (first | exact Below.refl _ _ | refine Below.alloc ?_ (by first | omega | (simp <;> omega)) _ | refine Below.drew ?_)
  · repeat (first | exact Nat.le_refl _ | exact Nat.le_succ _ | refine Nat.le_trans ?_ (Nat.le_succ _))
def cmp4Z (a b c d a' b' c' d' : Int) : Int := orZ (cmpZ a a') (orZ (cmpZ b b') (orZ (cmpZ c c') (cmpZ d d')))
theorem orZ_no {p q : Int} (h : p ≠ 0) : orZ p q = p := by simp [orZ, h]
theorem orZ_z (q : Int) : orZ 0 q = q := by simp [orZ]
set_option maxRecDepth 100000 in
set_option maxHeartbeats 4000000 in
theorem scmpZ_any (g g' : Nat) (a b c d a' b' c' d' : Int) (w : World) (h0 : w.cell? ⟨g, 0, none⟩ = some (.int .i64 a)) (h1 : w.cell? ⟨g, 1, none⟩ = some (.int .i64 b)) (h2 : w.cell? ⟨g, 2, none⟩ = some (.int .i64 c)) (h3 : w.cell? ⟨g, 3, none⟩ = some (.int .i64 d)) (k0 : w.cell? ⟨g', 0, none⟩ = some (.int .i64 a')) (k1 : w.cell? ⟨g', 1, none⟩ = some (.int .i64 b')) (k2 : w.cell? ⟨g', 2, none⟩ = some (.int .i64 c')) (k3 : w.cell? ⟨g', 3, none⟩ = some (.int .i64 d')) :
    Calls Tryz.prog 122 #[.slice (some ⟨g, 0, none⟩) 4 4, .slice (some ⟨g', 0, none⟩) 4 4] w fun e w' => e = .returned (.int .i64 (cmp4Z a b c d a' b' c' d')) ∧ w = w' := by
  have HC := Lib.hid (fun x y W => compareZ_any x y W)
  go_enter Tryz.func122, Tryz.ntmps122
  go_wp2_with fail
  go_loop [11] (fun i => ∃ k : Nat, k ≤ 4 ∧ i = .int .i64 k ∧ Hid ((0 < k → a = a') ∧ (1 < k → b = b') ∧ (2 < k → c = c') ∧ (3 < k → d = d'))) (fun i => 4 - (intOf i).toNat)
  case atStart => exact ⟨0, by omega, rfl, Lib.hid (by refine ⟨?_, ?_, ?_, ?_⟩ <;> (intro h; omega))⟩
  case round =>
    obtain ⟨k, hk, rfl, hz⟩ := hrel
    obtain rfl | rfl | rfl | rfl | rfl : k = 0 ∨ k = 1 ∨ k = 2 ∨ k = 3 ∨ k = 4 := by omega
    · have HV := Lib.hid (show cmp4Z a b c d a' b' c' d' = orZ (cmpZ a a') (orZ (cmpZ b b') (orZ (cmpZ c c') (cmpZ d d'))) by simp only [cmp4Z])
      by_cases hq : a = a'
      · have CC : Hid (∀ W, Calls Tryz.prog 150 #[.int .i64 a, .int .i64 a'] W fun e w' => e = .returned (.int .i64 0) ∧ W = w') := Lib.hid (fun W => by have h := HC.out a a' W; rw [cmpZ_0.2 hq] at h; exact h)
        have HQ := Lib.hid hq
        clear hq
        go_wp2_with (go_at_call 150; refine (CC.out _).mono ?_; rintro e w1 ⟨rfl, rfl⟩)
        go_round
        case rel => exact ⟨1, by omega, rfl, Lib.hid ⟨fun _ => HQ.out, fun h => by omega, fun h => by omega, fun h => by omega⟩⟩
        case measure => simp [intOf]
      · have hne : cmpZ a a' ≠ 0 := fun h => hq (cmpZ_0.1 h)
        have HR := Lib.hid (show cmp4Z a b c d a' b' c' d' = cmpZ a a' by rw [HV.out]; exact orZ_no hne)
        have CC := Lib.hid (fun W => HC.out a a' W)
        generalize cmpZ a a' = r at hne HR CC
        have hne1 : (r != 0) = true := by simp [hne]
        clear hq hne
        go_wp2_with (go_at_call 150; refine (CC.out _).mono ?_; rintro e w1 ⟨rfl, rfl⟩)
        go_ret
        exact ⟨ret_int HR.out.symm, rfl⟩
    · have HV := Lib.hid (show cmp4Z a b c d a' b' c' d' = orZ (cmpZ b b') (orZ (cmpZ c c') (cmpZ d d')) by simp only [cmp4Z, cmpZ_0.2 (hz.out.1 (by omega)), orZ_z])
      by_cases hq : b = b'
      · have CC : Hid (∀ W, Calls Tryz.prog 150 #[.int .i64 b, .int .i64 b'] W fun e w' => e = .returned (.int .i64 0) ∧ W = w') := Lib.hid (fun W => by have h := HC.out b b' W; rw [cmpZ_0.2 hq] at h; exact h)
        have HQ := Lib.hid hq
        clear hq
        go_wp2_with (go_at_call 150; refine (CC.out _).mono ?_; rintro e w1 ⟨rfl, rfl⟩)
        go_round
        case rel => exact ⟨2, by omega, rfl, Lib.hid ⟨fun _ => hz.out.1 (by omega), fun _ => HQ.out, fun h => by omega, fun h => by omega⟩⟩
        case measure => simp [intOf]
      · have hne : cmpZ b b' ≠ 0 := fun h => hq (cmpZ_0.1 h)
        have HR := Lib.hid (show cmp4Z a b c d a' b' c' d' = cmpZ b b' by rw [HV.out]; exact orZ_no hne)
        have CC := Lib.hid (fun W => HC.out b b' W)
        generalize cmpZ b b' = r at hne HR CC
        have hne1 : (r != 0) = true := by simp [hne]
        clear hq hne
        go_wp2_with (go_at_call 150; refine (CC.out _).mono ?_; rintro e w1 ⟨rfl, rfl⟩)
        go_ret
        exact ⟨ret_int HR.out.symm, rfl⟩
    · have HV := Lib.hid (show cmp4Z a b c d a' b' c' d' = orZ (cmpZ c c') (cmpZ d d') by simp only [cmp4Z, cmpZ_0.2 (hz.out.1 (by omega)), orZ_z, cmpZ_0.2 (hz.out.2.1 (by omega)), orZ_z])
      by_cases hq : c = c'
      · have CC : Hid (∀ W, Calls Tryz.prog 150 #[.int .i64 c, .int .i64 c'] W fun e w' => e = .returned (.int .i64 0) ∧ W = w') := Lib.hid (fun W => by have h := HC.out c c' W; rw [cmpZ_0.2 hq] at h; exact h)
        have HQ := Lib.hid hq
        clear hq
        go_wp2_with (go_at_call 150; refine (CC.out _).mono ?_; rintro e w1 ⟨rfl, rfl⟩)
        go_round
        case rel => exact ⟨3, by omega, rfl, Lib.hid ⟨fun _ => hz.out.1 (by omega), fun _ => hz.out.2.1 (by omega), fun _ => HQ.out, fun h => by omega⟩⟩
        case measure => simp [intOf]
      · have hne : cmpZ c c' ≠ 0 := fun h => hq (cmpZ_0.1 h)
        have HR := Lib.hid (show cmp4Z a b c d a' b' c' d' = cmpZ c c' by rw [HV.out]; exact orZ_no hne)
        have CC := Lib.hid (fun W => HC.out c c' W)
        generalize cmpZ c c' = r at hne HR CC
        have hne1 : (r != 0) = true := by simp [hne]
        clear hq hne
        go_wp2_with (go_at_call 150; refine (CC.out _).mono ?_; rintro e w1 ⟨rfl, rfl⟩)
        go_ret
        exact ⟨ret_int HR.out.symm, rfl⟩
    · have HV := Lib.hid (show cmp4Z a b c d a' b' c' d' = cmpZ d d' by simp only [cmp4Z, cmpZ_0.2 (hz.out.1 (by omega)), orZ_z, cmpZ_0.2 (hz.out.2.1 (by omega)), orZ_z, cmpZ_0.2 (hz.out.2.2.1 (by omega)), orZ_z])
      by_cases hq : d = d'
      · have CC : Hid (∀ W, Calls Tryz.prog 150 #[.int .i64 d, .int .i64 d'] W fun e w' => e = .returned (.int .i64 0) ∧ W = w') := Lib.hid (fun W => by have h := HC.out d d' W; rw [cmpZ_0.2 hq] at h; exact h)
        have HQ := Lib.hid hq
        clear hq
        go_wp2_with (go_at_call 150; refine (CC.out _).mono ?_; rintro e w1 ⟨rfl, rfl⟩)
        go_round
        case rel => exact ⟨4, by omega, rfl, Lib.hid ⟨fun _ => hz.out.1 (by omega), fun _ => hz.out.2.1 (by omega), fun _ => hz.out.2.2.1 (by omega), fun _ => HQ.out⟩⟩
        case measure => simp [intOf]
      · have hne : cmpZ d d' ≠ 0 := fun h => hq (cmpZ_0.1 h)
        have HR := Lib.hid (show cmp4Z a b c d a' b' c' d' = cmpZ d d' by rw [HV.out])
        have CC := Lib.hid (fun W => HC.out d d' W)
        generalize cmpZ d d' = r at hne HR CC
        have hne1 : (r != 0) = true := by simp [hne]
        clear hq hne
        go_wp2_with (go_at_call 150; refine (CC.out _).mono ?_; rintro e w1 ⟨rfl, rfl⟩)
        go_ret
        exact ⟨ret_int HR.out.symm, rfl⟩
    · have HR := Lib.hid (show cmp4Z a b c d a' b' c' d' = 0 by simp only [cmp4Z, cmpZ_0.2 (hz.out.1 (by omega)), cmpZ_0.2 (hz.out.2.1 (by omega)), cmpZ_0.2 (hz.out.2.2.1 (by omega)), cmpZ_0.2 (hz.out.2.2.2 (by omega)), orZ_z])
      go_wp2
      go_ret
      exact ⟨ret_int HR.out.symm, rfl⟩
def cmpMZ (m n : M6) : Int := orZ (cmp4Z m.1 m.2.1 m.2.2.1 m.2.2.2.1 n.1 n.2.1 n.2.2.1 n.2.2.2.1) (cmp2Z m.2.2.2.2.1 m.2.2.2.2.2 n.2.2.2.2.1 n.2.2.2.2.2)
theorem cmpMZ_iff (m n : M6) : cmpMZ m n < 0 ↔ (m.1 < n.1 ∨ m.1 = n.1 ∧ (m.2.1 < n.2.1 ∨ m.2.1 = n.2.1 ∧ (m.2.2.1 < n.2.2.1 ∨ m.2.2.1 = n.2.2.1 ∧ (m.2.2.2.1 < n.2.2.2.1 ∨ m.2.2.2.1 = n.2.2.2.1 ∧ (m.2.2.2.2.1 < n.2.2.2.2.1 ∨ m.2.2.2.2.1 = n.2.2.2.2.1 ∧ m.2.2.2.2.2 < n.2.2.2.2.2))))) := by
  obtain ⟨a, b, c, d, x, y⟩ := m
  obtain ⟨a', b', c', d', x', y'⟩ := n
  simp only [cmpMZ, cmp4Z, cmp2Z]
  by_cases h1 : a = a'
  · rw [cmpZ_0.2 h1, orZ_z]
    by_cases h2 : b = b'
    · rw [cmpZ_0.2 h2, orZ_z]
      by_cases h3 : c = c'
      · rw [cmpZ_0.2 h3, orZ_z]
        by_cases h4 : d = d'
        · rw [cmpZ_0.2 h4, orZ_z]
          by_cases h5 : x = x'
          · rw [cmpZ_0.2 h5, orZ_z]
            unfold cmpZ
            split <;> (try split) <;> omega
          · rw [orZ_no (fun h => h5 (cmpZ_0.1 h))]
            unfold cmpZ
            split <;> (try split) <;> omega
        · rw [orZ_no (fun h => h4 (cmpZ_0.1 h))]
          unfold cmpZ
          split <;> (try split) <;> omega
      · rw [orZ_no (show orZ (cmpZ c c') (cmpZ d d') ≠ 0 by rw [orZ_no (fun h => h3 (cmpZ_0.1 h))]; exact fun h => h3 (cmpZ_0.1 h)), orZ_no (fun h => h3 (cmpZ_0.1 h))]
        unfold cmpZ
        split <;> (try split) <;> omega
    · have e := orZ_no (p := cmpZ b b') (q := orZ (cmpZ c c') (cmpZ d d')) (fun h => h2 (cmpZ_0.1 h))
      rw [e, orZ_no (fun h => h2 (cmpZ_0.1 h))]
      unfold cmpZ
      split <;> (try split) <;> omega
  · have e := orZ_no (p := cmpZ a a') (q := orZ (cmpZ b b') (orZ (cmpZ c c') (cmpZ d d'))) (fun h => h1 (cmpZ_0.1 h))
    rw [e, orZ_no (fun h => h1 (cmpZ_0.1 h))]
    unfold cmpZ
    split <;> (try split) <;> omega
theorem cmpMZ_lt (m n : M6) : decide (cmpMZ m n < 0) = ltM m n := decide_eq_decide.2 (cmpMZ_iff m n)
theorem drew_le (W : World) : W.drawn ≤ W.drew.drawn := Nat.le_succ _
theorem alloc_le (W : World) (z : Obj) : W.drawn ≤ (W.alloc z).drawn := Nat.le_refl _
set_option maxRecDepth 100000 in
set_option maxHeartbeats 8000000 in
theorem mcmp_any (m n : M6) (w : World) :
    Calls Tryz.prog 79 #[.agg #[.int .i64 (m.1), .int .i64 (m.2.1), .int .i64 (m.2.2.1), .int .i64 (m.2.2.2.1), .int .i64 (m.2.2.2.2.1), .int .i64 (m.2.2.2.2.2)], .agg #[.int .i64 (n.1), .int .i64 (n.2.1), .int .i64 (n.2.2.1), .int .i64 (n.2.2.2.1), .int .i64 (n.2.2.2.2.1), .int .i64 (n.2.2.2.2.2)]] w fun e w' => e = .returned (.int .i64 (cmpMZ m n)) ∧ Below w.heap.size w w' ∧ w.drawn ≤ w'.drawn := by
  obtain ⟨a, b, c, d, x, y⟩ := m
  obtain ⟨a', b', c', d', x', y'⟩ := n
  have HV := Lib.hid (show orZ (cmp4Z a b c d a' b' c' d') (cmp2Z x y x' y') = cmpMZ (a, b, c, d, x, y) (a', b', c', d', x', y') from rfl)
  generalize cmpMZ (a, b, c, d, x, y) (a', b', c', d', x', y') = r at HV
  have HS := Lib.hid (fun g g' W => scmpZ_any g g' a b c d a' b' c' d' W)
  have HW := Lib.hid (fun W => vcmpZ_any x y x' y' W)
  generalize cmp4Z a b c d a' b' c' d' = p at HV HS
  generalize cmp2Z x y x' y' = q at HV HW
  dsimp only
  have M0 : Km w.heap.size a b c d x y ((w.alloc (.cells #[.int .i64 a, .int .i64 b, .int .i64 c, .int .i64 d, .int .i64 x, .int .i64 y] 82)).alloc (.cells #[.int .i64 a', .int .i64 b', .int .i64 c', .int .i64 d', .int .i64 x', .int .i64 y'] 82)) := (Km.at _ rfl).alloc _
  have N0 : Km (w.heap.size + 1) a' b' c' d' x' y' ((w.alloc (.cells #[.int .i64 a, .int .i64 b, .int .i64 c, .int .i64 d, .int .i64 x, .int .i64 y] 82)).alloc (.cells #[.int .i64 a', .int .i64 b', .int .i64 c', .int .i64 d', .int .i64 x', .int .i64 y'] 82)) := Km.at _ (by simp)
  have B0 : Below w.heap.size w ((w.alloc (.cells #[.int .i64 a, .int .i64 b, .int .i64 c, .int .i64 d, .int .i64 x, .int .i64 y] 82)).alloc (.cells #[.int .i64 a', .int .i64 b', .int .i64 c', .int .i64 d', .int .i64 x', .int .i64 y'] 82)) := ((Below.refl _ _).alloc (Nat.le_refl _) _).alloc (by simp) _
  have D0 : w.drawn ≤ ((w.alloc (.cells #[.int .i64 a, .int .i64 b, .int .i64 c, .int .i64 d, .int .i64 x, .int .i64 y] 82)).alloc (.cells #[.int .i64 a', .int .i64 b', .int .i64 c', .int .i64 d', .int .i64 x', .int .i64 y'] 82)).drawn := Nat.le_refl _
  go_enter Tryz.func79, Tryz.ntmps79
  go_wp2_with fail
  go_region_held3 (fun W => (W.cell? ⟨w.heap.size, 0, none⟩ = some (.int .i64 a) ∧ W.cell? ⟨w.heap.size, 1, none⟩ = some (.int .i64 b) ∧ W.cell? ⟨w.heap.size, 2, none⟩ = some (.int .i64 c) ∧ W.cell? ⟨w.heap.size, 3, none⟩ = some (.int .i64 d) ∧ W.cell? ⟨w.heap.size, 4, none⟩ = some (.int .i64 x) ∧ W.cell? ⟨w.heap.size, 5, none⟩ = some (.int .i64 y)) ∧ (W.cell? ⟨w.heap.size + 1, 0, none⟩ = some (.int .i64 a') ∧ W.cell? ⟨w.heap.size + 1, 1, none⟩ = some (.int .i64 b') ∧ W.cell? ⟨w.heap.size + 1, 2, none⟩ = some (.int .i64 c') ∧ W.cell? ⟨w.heap.size + 1, 3, none⟩ = some (.int .i64 d') ∧ W.cell? ⟨w.heap.size + 1, 4, none⟩ = some (.int .i64 x') ∧ W.cell? ⟨w.heap.size + 1, 5, none⟩ = some (.int .i64 y'))) ((refine And.intro (Km.cells ?_) (Km.cells ?_)) <;> repeat (first | with_reducible assumption | with_reducible refine Km.drew ?_ | with_reducible refine Km.alloc ?_ _ | with_reducible refine Km.call ?_ (by with_reducible assumption)))
    (first
      | (go_at_call 122; refine (HS.out _ _ _ ?_ ?_ ?_ ?_ ?_ ?_ ?_ ?_).mono ?_; (simp [go_sem, *]); (simp [go_sem, *]); (simp [go_sem, *]); (simp [go_sem, *]); (simp [go_sem, *]); (simp [go_sem, *]); (simp [go_sem, *]); (simp [go_sem, *]); rintro e w1 ⟨rfl, rfl⟩)
      | (go_at_call 123; refine (HW.out _).mono ?_; rintro e w2 ⟨rfl, hb2, hd2⟩; have M2 : Km w.heap.size a b c d x y w2 := (by repeat (first | with_reducible assumption | with_reducible refine Km.drew ?_ | with_reducible refine Km.alloc ?_ _ | with_reducible refine Km.call ?_ (by with_reducible assumption))); have N2 : Km (w.heap.size + 1) a' b' c' d' x' y' w2 := (by repeat (first | with_reducible assumption | with_reducible refine Km.drew ?_ | with_reducible refine Km.alloc ?_ _ | with_reducible refine Km.call ?_ (by with_reducible assumption))); have B2 : Below w.heap.size w w2 := (by repeat (first | with_reducible assumption | with_reducible exact Below.refl _ _ | with_reducible refine Below.alloc ?_ (by first | omega | (simp <;> omega)) _ | with_reducible refine bstep ?_ (by with_reducible assumption) | with_reducible refine Below.drew ?_)); have D2 : w.drawn ≤ w2.drawn := (by repeat (first | with_reducible assumption | with_reducible exact Nat.le_refl _ | with_reducible refine Nat.le_trans ?_ (drew_le _) | with_reducible refine Nat.le_trans ?_ (alloc_le _ _) | with_reducible refine Nat.le_trans ?_ (by with_reducible assumption))); have zz2 := B2.size)
      | (go_at_call 121; refine (orZ_any p q _ _ ?_ ?_).mono ?_; (simp [go_sem]); (simp [go_sem]); rintro e w3 ⟨rfl, rfl⟩))
  all_goals
    go_wp2
    go_ret
    refine ⟨ret_int HV.out, ?_, ?_⟩
    · repeat (first | with_reducible assumption | with_reducible exact Below.refl _ _ | with_reducible refine Below.alloc ?_ (by first | omega | (simp <;> omega)) _ | with_reducible refine bstep ?_ (by with_reducible assumption) | with_reducible refine Below.drew ?_)
    · repeat (first | with_reducible assumption | with_reducible exact Nat.le_refl _ | with_reducible refine Nat.le_trans ?_ (drew_le _) | with_reducible refine Nat.le_trans ?_ (alloc_le _ _) | with_reducible refine Nat.le_trans ?_ (by with_reducible assumption))
end Go.Proofs.YtkfdaepnjdnnmaaGreatDoor
