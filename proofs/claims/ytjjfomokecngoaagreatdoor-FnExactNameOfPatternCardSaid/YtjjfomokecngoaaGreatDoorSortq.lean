/-
 The library's insertion sort at eight vectors, and slices.SortFunc over it: the row holds the same vectors, in order. Conditions: the row holds eight different vectors in a block of its own.
-/
import Derived.Test.YtjjfomokecngoaaGreatDoorGd
import Derived.Test.YtjjfomokecngoaaGreatDoorGa
import Derived.Test.YtjjfomokecngoaaGreatDoorGb
import Derived.Deep.RegionHeld3
import Derived.BigQuiet
import Derived.Deep.QuietTactic
import Derived.BigRegion
import Derived.Test.YtjjfomokecngoaaGreatDoorGf
namespace Go.Proofs.YtjjfomokecngoaaGreatDoor
open Go.RowKit
set_option linter.unusedSimpArgs false
set_option linter.unusedVariables false

theorem pkSortq0 {P : Prop} (h : P := by repeat (first | assumption | with_reducible refine Ko2.alloc ?_ _ | with_reducible refine Ko2.drew ?_ | with_reducible refine Ko2.call ?_ (by assumption))) : P := h
def rowE (E : Nat → Int × Int) (t : Nat) : Int := if t % 2 = 0 then (E (t / 2)).1 else (E (t / 2)).2
theorem rowE_0 (E : Nat → Int × Int) (k : Nat) : rowE E (k * 2) = (E k).1 := by
 unfold rowE; rw [if_pos (by omega), show k * 2 / 2 = k by omega]
theorem rowE_1 (E : Nat → Int × Int) (k : Nat) : rowE E (k * 2 + 1) = (E k).2 := by
 unfold rowE; rw [if_neg (by omega), show (k * 2 + 1) / 2 = k by omega]
def swapE (E : Nat → Int × Int) (j : Nat) (k : Nat) : Int × Int := if k = j then E (j - 1) else if k = j - 1 then E j else E k
structure SameE (E0 E : Nat → Int × Int) : Prop where
 mem : ∀ w, (∃ k, k < 8 ∧ E k = w) ↔ ∃ k, k < 8 ∧ E0 k = w
 inj : ∀ k l, k < 8 → l < 8 → E k = E l → k = l
def sw (j k : Nat) : Nat := if k = j then j - 1 else if k = j - 1 then j else k
theorem swapE_eq (E : Nat → Int × Int) (j k : Nat) : swapE E j k = E (sw j k) := by
 unfold swapE sw
 split
 ·rfl
 ·split <;> rfl
theorem sw_lt {j k : Nat} (h1 : 1 ≤ j) (h8 : j < 8) (hk : k < 8) : sw j k < 8 := by
 unfold sw
 split
 ·omega
 ·split <;> omega
theorem sw_sw {j k : Nat} (h1 : 1 ≤ j) : sw j (sw j k) = k := by
 unfold sw
 by_cases c1 : k = j
 ·rw [if_pos c1, if_neg (by omega), if_pos rfl, c1]
 ·rw [if_neg c1]
  by_cases c2 : k = j - 1
  ·rw [if_pos c2, if_pos rfl, c2]
  ·rw [if_neg c2, if_neg c1, if_neg c2]
theorem SameE.swap {E0 E : Nat → Int × Int} (h : SameE E0 E) {j : Nat} (h1 : 1 ≤ j) (h8 : j < 8) : SameE E0 (swapE E j) := by
 refine ⟨fun w => ?_, ?_⟩
 ·rw [← h.mem w]
  constructor
  ·rintro ⟨k, hk, rfl⟩
   exact ⟨sw j k, sw_lt h1 h8 hk, (swapE_eq E j k).symm⟩
  ·rintro ⟨k, hk, rfl⟩
   exact ⟨sw j k, sw_lt h1 h8 hk, by rw [swapE_eq, sw_sw h1]⟩
 ·intro k l hk hl e
  rw [swapE_eq, swapE_eq] at e
  have := h.inj _ _ (sw_lt h1 h8 hk) (sw_lt h1 h8 hl) e
  have h2 := congrArg (sw j) this
  rwa [sw_sw h1, sw_sw h1] at h2
def ordE (E : Nat → Int × Int) (i : Nat) : Prop := ∀ k l, k < l → l < i → ¬ lexlt (E l) (E k)
def insE (E : Nat → Int × Int) (i j : Nat) : Prop := ∀ k l, k < l → l ≤ i → l ≠ j → ¬ lexlt (E l) (E k)
theorem insE_start {E : Nat → Int × Int} {i : Nat} (h : ordE E i) : insE E i i := fun k l h1 h2 h3 => h k l h1 (by omega)
theorem insE_zero {E : Nat → Int × Int} {i : Nat} (h : insE E i 0) : ordE E (i + 1) := fun k l h1 h2 => h k l h1 (by omega) (by omega)
theorem not_lt_trans {a b c : Int × Int} (h : ¬ lexlt b a) (h' : ¬ lexlt c b) : ¬ lexlt c a := by
 unfold lexlt at *; omega
theorem insE_stop {E : Nat → Int × Int} {i j : Nat} (h : insE E i j) (h1 : 1 ≤ j) (hji : j ≤ i) (hc : ¬ lexlt (E j) (E (j - 1))) : ordE E (i + 1) := by
 intro k l hkl hl
 by_cases c : l = j
 ·subst c
  by_cases c2 : k = l - 1
  ·subst c2; exact hc
  ·exact not_lt_trans (h k (l - 1) (by omega) (by omega) (by omega)) hc
 ·exact h k l hkl (by omega) c
theorem lexlt_asymm {a b : Int × Int} (h : lexlt a b) : ¬ lexlt b a := by unfold lexlt at *; omega
theorem insE_step {E : Nat → Int × Int} {i j : Nat} (h : insE E i j) (h1 : 1 ≤ j) (hji : j ≤ i) (hc : lexlt (E j) (E (j - 1))) : insE (swapE E j) i (j - 1) := by
 intro k l hkl hl hne
 unfold swapE
 by_cases c1 : l = j
 ·rw [if_pos c1]
  by_cases c2 : k = j - 1
  ·rw [if_neg (by omega), if_pos c2]; exact lexlt_asymm hc
  ·rw [if_neg (by omega), if_neg c2]; exact h k (j - 1) (by omega) (by omega) (by omega)
 ·rw [if_neg c1, if_neg hne]
  by_cases c2 : k = j
  ·rw [if_pos c2]; exact h (j - 1) l (by omega) hl c1
  ·by_cases c3 : k = j - 1
   ·rw [if_neg c2, if_pos c3]; exact h j l (by omega) hl c1
   ·rw [if_neg c2, if_neg c3]; exact h k l hkl hl c1
theorem cmpW_neg (a b : Int × Int) : cmpWq a.1 a.2 b.1 b.2 < 0 ↔ lexlt a b := by
 unfold cmpWq orIq cmpIq lexlt
 constructor
 ·intro h
  repeat' split at h
  all_goals omega
 ·intro h
  repeat' split
  all_goals omega
theorem IRow.swap {g : Nat} {E : Nat → Int × Int} {W : World} (h : IRow g 16 (rowE E) W) {j : Nat} (h1 : 1 ≤ j) (h8 : j < 8) :
  IRow g 16 (rowE (swapE E j)) ((((W.setCell ⟨g, j * 2, none⟩ (.int .i64 (E (j - 1)).1)).setCell ⟨g, j * 2 + 1, none⟩ (.int .i64 (E (j - 1)).2)).setCell ⟨g, (j - 1) * 2, none⟩ (.int .i64 (E j).1)).setCell ⟨g, (j - 1) * 2 + 1, none⟩ (.int .i64 (E j).2)) := by
 refine ((((h.put (j * 2) (by omega) _).put (j * 2 + 1) (by omega) _).put ((j - 1) * 2) (by omega) _).put ((j - 1) * 2 + 1) (by omega) _).ext ?_
 intro t ht
 unfold rowE swapE
 by_cases e : t % 2 = 0
 ·rw [if_neg (by omega)]
  by_cases c1 : t = (j - 1) * 2
  ·rw [if_pos c1, if_pos e, if_neg (by omega), if_pos (by omega)]
  ·rw [if_neg c1, if_neg (by omega)]
   by_cases c2 : t = j * 2
   ·rw [if_pos c2, if_pos e, if_pos (by omega)]
   ·rw [if_neg c2, if_pos e, if_pos e, if_neg (by omega), if_neg (by omega)]
 ·by_cases c1 : t = (j - 1) * 2 + 1
  ·rw [if_pos c1, if_neg e, if_neg (by omega), if_pos (by omega)]
  ·rw [if_neg c1, if_neg (by omega)]
   by_cases c2 : t = j * 2 + 1
   ·rw [if_pos c2, if_neg e, if_pos (by omega)]
   ·rw [if_neg c2, if_neg (by omega), if_neg e, if_neg e, if_neg (by omega), if_neg (by omega)]
theorem IRow.swapm {g : Nat} {E : Nat → Int × Int} {W : World} (h : IRow g 16 (rowE E) W) {j m : Nat} (hm : j = m + 1) (h8 : j < 8) :
  IRow g 16 (rowE (swapE E j)) ((((W.setCell ⟨g, j * 2, none⟩ (.int .i64 (E m).1)).setCell ⟨g, j * 2 + 1, none⟩ (.int .i64 (E m).2)).setCell ⟨g, m * 2, none⟩ (.int .i64 (E j).1)).setCell ⟨g, m * 2 + 1, none⟩ (.int .i64 (E j).2)) := by
 subst hm
 exact h.swap (by omega) h8
def SortPost (g : Nat) (E0 : Nat → Int × Int) (w : World) (e : Ending) (w' : World) : Prop :=
 e = .returned (.tuple #[]) ∧ ∃ E, IRow g 16 (rowE E) w' ∧ SameE E0 E ∧ ordE E 8 ∧ Below g w w'
abbrev cmpV : Value := .func (.func 226) #[] #[]
set_option maxRecDepth 100000 in
set_option maxHeartbeats 4000000 in
theorem insertion_any (g cap : Nat) (E0 : Nat → Int × Int) (w : World) (hR : IRow g 16 (rowE E0) w) (hS : SameE E0 E0) :
  Calls Tryz.prog 279 #[.slice (some ⟨g, 0, none⟩) 8 cap, .int .i64 0, .int .i64 8, cmpV] w (SortPost g E0 w) := by
 have HR := Lib.hid hR
 have HS0 := Lib.hid hS
 clear hR hS
 go_enter Tryz.func279, Tryz.ntmps279
 go_wp2_with fail
 go_loopw [8] (fun u W => ∃ (i : Nat) (E : Nat → Int × Int), u = .int .i64 (i : Int) ∧ 1 ≤ i ∧ i ≤ 8 ∧ IRow g 16 (rowE E) W ∧ Hid (SameE E0 E) ∧ Hid (ordE E i) ∧ Below g w W) (fun u _ => 8 - (intOf u).toNat)
 case atStart => exact ⟨1, E0, rfl, by omega, by omega, HR.out, HS0.out, fun k l h1 h2 => by omega, Below.refl _ _⟩
 case round =>
  obtain ⟨i, E, rfl, hi1, hi8, hR, hS, hO, hB⟩ := hrel
  by_cases hi : i < 8
  ·have hi2 : (i : Int) < 8 := by omega
   have HI := Lib.hid (show 1 ≤ i ∧ i < 8 from ⟨hi1, hi⟩)
   clear hi1 hi8 hi
   go_wp2_with fail
   go_loopw [9] (fun u W => ∃ (j : Nat) (E : Nat → Int × Int), u = .int .i64 (j : Int) ∧ j ≤ i ∧ IRow g 16 (rowE E) W ∧ Hid (SameE E0 E) ∧ Hid (insE E i j) ∧ Below g w W) (fun u _ => (intOf u).toNat)
   case atStart => exact ⟨i, E, rfl, by omega, hR, hS, insE_start hO.out, hB⟩
   case round =>
    clear hR hS hO hB
    obtain ⟨j, E, rfl, hj, hR, hS, hO, hB⟩ := hrel
    by_cases hj0 : j = 0
    ·subst hj0
     have hO2 := Lib.hid (insE_zero hO.out)
     have hg0 : decide ((0 : Int) < ((0 : Nat) : Int)) = false := by decide
     go_wp2_with fail
     go_quiet (fail)
     go_wp2
     have hi := HI.out
     go_roundw
     case rel => exact ⟨i + 1, E, by go_num, by omega, by omega, hR.call (below_drewN (Below.refl _ _) _), hS, hO2.out, below_drewN hB _⟩
     case measure => first | (simp [intOf]; done) | (simp [intOf]; omega)
    ·obtain ⟨m, hm⟩ : ∃ m : Nat, j = m + 1 := ⟨j - 1, by omega⟩
     have HI8 := HI.out
     have q1 := hR.ko2 (j * 2) (by omega)
     have q2 := hR.ko2 (m * 2) (by omega)
     rw [rowE_0, rowE_1] at q1 q2
     have hsub : (j : Int) - 1 = (m : Int) := by omega
     have hwm : IntKind.i64.wrap (m : Int) = (m : Int) := IntWalk.i64_in _ (by omega)
     have hmn : m < 8 := by omega
     have hjp : 0 < (j : Int) := by omega
     have hjn : 0 < j := by omega
     have hdj : decide (0 < j) = true := decide_eq_true hjn
     have hj8 : (j : Int) < 8 := by omega
     have hj9 : (0 : Int) ≤ (j : Int) := by omega
     have hm9 : (0 : Int) ≤ (m : Int) := by omega
     have hm8 : (m : Int) < 8 := by omega
     have HR := Lib.hid hR
     have HJ := Lib.hid (show j = m + 1 ∧ j ≤ i ∧ 1 ≤ j from ⟨hm, hj, by omega⟩)
     have c1 := q1.cells
     have c2 := q2.cells
     have hjm : E (j - 1) = E m := by rw [hm]; rfl
     have HZ := Lib.hid hjm
     clear hR hj hj0 hm HI8 hjm
     rcases hc : decide (cmpWq (E j).1 (E j).2 (E m).1 (E m).2 < 0) with _ | _
     ·have HC := Lib.hid (show ¬ lexlt (E j) (E m) by rw [← cmpW_neg]; simpa using hc)
      have hc' : ¬ cmpWq (E j).1 (E j).2 (E m).1 (E m).2 < 0 := by simpa using hc
      go_wp2_with fail
      go_region_held3 (fun W => (W.cell? ⟨g, j * 2, none⟩ = some (.int .i64 (E j).1) ∧ W.cell? ⟨g, j * 2 + 1, none⟩ = some (.int .i64 (E j).2)) ∧ (W.cell? ⟨g, m * 2, none⟩ = some (.int .i64 (E m).1) ∧ W.cell? ⟨g, m * 2 + 1, none⟩ = some (.int .i64 (E m).2))) (((refine And.intro (Ko2.cells ?_) (Ko2.cells ?_)) <;> (exact pkSortq0)))
       (first | (go_at_call 226; refine (vcompareq_any _ _ _ _ _).mono ?_; rintro e u1 ⟨rfl, hb1⟩; have Q1 : Ko2 g (j * 2) (E j).1 (E j).2 u1 := (by exact pkSortq0); have Q2 : Ko2 g (m * 2) (E m).1 (E m).2 u1 := (by exact pkSortq0); have HBu : Below wr.heap.size wr u1 := (by repeat (first | exact Below.refl _ _ | with_reducible refine Below.drew ?_ | with_reducible refine bstep ?_ (by assumption)))))
      all_goals
       have hR2 := HR.out.call HBu
       have hB2 := hB.trans (HBu.mono (Nat.le_of_lt HR.out.1))
       obtain ⟨hm, hj, hj1⟩ := HJ.out
       have hO2 := Lib.hid (insE_stop hO.out hj1 hj (by rw [HZ.out]; exact HC.out))
       clear hm hj hj1 c1 c2 q1 q2 Q1 Q2 HBu hb1
       go_wp2
       have hi := HI.out
       go_roundw
       case rel => exact ⟨i + 1, E, by go_num, by omega, by omega, hR2, hS, hO2.out, hB2⟩
       case measure => first | (simp [intOf]; done) | (simp [intOf]; omega)
     ·have HC := Lib.hid (show lexlt (E j) (E m) by rw [← cmpW_neg]; simpa using hc)
      have hc' : cmpWq (E j).1 (E j).2 (E m).1 (E m).2 < 0 := by simpa using hc
      go_wp2_with fail
      go_region_held3 (fun W => (W.cell? ⟨g, j * 2, none⟩ = some (.int .i64 (E j).1) ∧ W.cell? ⟨g, j * 2 + 1, none⟩ = some (.int .i64 (E j).2)) ∧ (W.cell? ⟨g, m * 2, none⟩ = some (.int .i64 (E m).1) ∧ W.cell? ⟨g, m * 2 + 1, none⟩ = some (.int .i64 (E m).2))) (((refine And.intro (Ko2.cells ?_) (Ko2.cells ?_)) <;> (exact pkSortq0)))
       (first | (go_at_call 226; refine (vcompareq_any _ _ _ _ _).mono ?_; rintro e u1 ⟨rfl, hb1⟩; have Q1 : Ko2 g (j * 2) (E j).1 (E j).2 u1 := (by exact pkSortq0); have Q2 : Ko2 g (m * 2) (E m).1 (E m).2 u1 := (by exact pkSortq0); have HBu : Below wr.heap.size wr u1 := (by repeat (first | exact Below.refl _ _ | with_reducible refine Below.drew ?_ | with_reducible refine bstep ?_ (by assumption)))))
      all_goals
       have hR2 := HR.out.call HBu
       have hB2 := hB.trans (HBu.mono (Nat.le_of_lt HR.out.1))
       obtain ⟨d1, d2, d3⟩ := id Q1
       obtain ⟨d4, d5, d6⟩ := id Q2
       have HR2 := Lib.hid hR2
       have f1 := hR2.free (j * 2) (by have := HI.out; have := HJ.out; omega)
       have f2 := hR2.free (j * 2 + 1) (by have := HI.out; have := HJ.out; omega)
       have f3 := hR2.free (m * 2) (by have := HI.out; have := HJ.out; omega)
       have f4 := hR2.free (m * 2 + 1) (by have := HI.out; have := HJ.out; omega)
       clear hR2 c1 c2 q1 q2 Q1 Q2 HBu hb1 hB
       go_wp2_with fail
       have B3 : Below g w ((((u1.drew.setCell ⟨g, j * 2, none⟩ (.int .i64 (E m).1)).setCell ⟨g, j * 2 + 1, none⟩ (.int .i64 (E m).2)).setCell ⟨g, m * 2, none⟩ (.int .i64 (E j).1)).setCell ⟨g, m * 2 + 1, none⟩ (.int .i64 (E j).2)) := (((hB2.drew.setCell (Nat.le_refl _) _).setCell (Nat.le_refl _) _).setCell (Nat.le_refl _) _).setCell (Nat.le_refl _) _
       have R3 : IRow g 16 (rowE (swapE E j)) ((((u1.drew.setCell ⟨g, j * 2, none⟩ (.int .i64 (E m).1)).setCell ⟨g, j * 2 + 1, none⟩ (.int .i64 (E m).2)).setCell ⟨g, m * 2, none⟩ (.int .i64 (E j).1)).setCell ⟨g, m * 2 + 1, none⟩ (.int .i64 (E j).2)) := IRow.swapm (HR2.out.call (Below.refl _ _).drew) HJ.out.1 (by have := HI.out; have := HJ.out; omega)
       have S3 := Lib.hid (hS.out.swap HJ.out.2.2 (by have := HI.out; have := HJ.out; omega))
       have O3 := Lib.hid (insE_step hO.out HJ.out.2.2 HJ.out.2.1 (by rw [HZ.out]; exact HC.out))
       have hjm1 : j - 1 = m := by have := HJ.out; omega
       rw [hjm1] at O3
       clear hjm1 hB2
       go_region
       all_goals
        go_wp2
        go_roundw
        case rel => exact ⟨m, _, rfl, by have := HJ.out; omega, R3, S3.out, O3.out, B3⟩
        case measure => have := HJ.out; simp [intOf]; omega
  ·obtain rfl : i = 8 := by omega
   clear hi hi1 hi8
   go_wp2
   go_end0
   exact ⟨rfl, E, hR, hS.out, hO.out, hB⟩
end Go.Proofs.YtjjfomokecngoaaGreatDoor
