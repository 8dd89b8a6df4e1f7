/-
  The contract of the program's CompareVecs. No condition.
-/
import Derived.Test.YtcjefepjnomfaaaDoorCmp
import Derived.Test.YtcjefepjnomfaaaDoorChap1
namespace Go.Proofs.YtcjefepjnomfaaaDoor
open Go.RowKit
set_option linter.unusedSimpArgs false

def cmpR (x y x' y' : Int) : Int × Int := bif vecB x y && vecB x' y' then (cmpW x y x' y', 0) else (0, 1)
def cmpV (x y x' y' : Int) : Value := .tuple #[.int .i64 (cmpR x y x' y').1, .int .i64 (cmpR x y x' y').2]
theorem cmp_less {x y x' y' : Int} (h : lessB x y x' y' = true) : cmpW x y x' y' = -1 := by
  simp [lessB] at h
  unfold cmpW orI cmpI
  split <;> (try split) <;> (try split) <;> (try split) <;> omega
theorem cmp_more {x y x' y' : Int} (h : lessB x' y' x y = true) : cmpW x y x' y' = 1 := by
  simp [lessB] at h
  unfold cmpW orI cmpI
  split <;> (try split) <;> (try split) <;> (try split) <;> omega
theorem cmp_same {x y x' y' : Int} (h : lessB x y x' y' = false) (h' : lessB x' y' x y = false) : cmpW x y x' y' = 0 := by
  simp [lessB] at h h'
  unfold cmpW orI cmpI
  split <;> (try split) <;> (try split) <;> (try split) <;> omega

set_option maxHeartbeats 1000000 in
theorem implCmp_any (x y x' y' : Int) (w : World) :
    Calls Tryd.prog 28 #[.agg #[.int .i64 x, .int .i64 y], .agg #[.int .i64 x', .int .i64 y']] w fun e w' => e = .returned (cmpV x y x' y') ∧ Below w.heap.size w w' := by
  rcases hu : vecB x y with _ | _
  · have ea : cmpV x y x' y' = .tuple #[.int .i64 0, .int .i64 1] := by simp [cmpV, cmpR, hu]
    have EA := Lib.hid ea
    clear ea
    go_enter Tryd.func28, Tryd.ntmps28
    go_wp2_with fail
    refine (isValid_any _ _ _).mono ?_
    rintro e w1 ⟨rfl, hb1⟩
    obtain ⟨hc1, hf1⟩ := bcell hb1
    obtain ⟨hz1a, hz1b⟩ : w.heap.size < w1.heap.size ∧ w.heap.size + 1 < w1.heap.size := by have := hb1.size; (try simp at this); omega
    go_wp2
    go_ret2
    refine ⟨ret_val EA.out.symm, ?_⟩
    repeat (first | exact Below.refl _ _ | refine Below.setCell ?_ (by first | omega | (simp <;> omega)) _ | refine Below.alloc ?_ (by first | omega | (simp <;> omega)) _ | refine bstep ?_ (by assumption) | refine Below.drew ?_)
  rcases hv : vecB x' y' with _ | _
  · have ea : cmpV x y x' y' = .tuple #[.int .i64 0, .int .i64 1] := by simp [cmpV, cmpR, hv]
    have EA := Lib.hid ea
    clear ea
    go_enter Tryd.func28, Tryd.ntmps28
    go_wp2_with fail
    refine (isValid_any _ _ _).mono ?_
    rintro e w1 ⟨rfl, hb1⟩
    obtain ⟨hc1, hf1⟩ := bcell hb1
    obtain ⟨hz1a, hz1b⟩ : w.heap.size < w1.heap.size ∧ w.heap.size + 1 < w1.heap.size := by have := hb1.size; (try simp at this); omega
    go_wp2_with fail
    refine (isValid_any _ _ _).mono ?_
    rintro e w2 ⟨rfl, hb2⟩
    obtain ⟨hc2, hf2⟩ := bcell hb2
    obtain ⟨hz2a, hz2b⟩ : w.heap.size < w2.heap.size ∧ w.heap.size + 1 < w2.heap.size := by have := hb2.size; (try simp at this); omega
    go_wp2
    go_ret2
    refine ⟨ret_val EA.out.symm, ?_⟩
    repeat (first | exact Below.refl _ _ | refine Below.setCell ?_ (by first | omega | (simp <;> omega)) _ | refine Below.alloc ?_ (by first | omega | (simp <;> omega)) _ | refine bstep ?_ (by assumption) | refine Below.drew ?_)
  · have ea : cmpV x y x' y' = .tuple #[.int .i64 (cmpW x y x' y'), .int .i64 0] := by simp [cmpV, cmpR, hu, hv]
    have EA := Lib.hid ea
    clear ea
    go_enter Tryd.func28, Tryd.ntmps28
    go_wp2_with fail
    refine (isValid_any _ _ _).mono ?_
    rintro e w1 ⟨rfl, hb1⟩
    obtain ⟨hc1, hf1⟩ := bcell hb1
    obtain ⟨hz1a, hz1b⟩ : w.heap.size < w1.heap.size ∧ w.heap.size + 1 < w1.heap.size := by have := hb1.size; (try simp at this); omega
    go_wp2_with fail
    refine (isValid_any _ _ _).mono ?_
    rintro e w2 ⟨rfl, hb2⟩
    obtain ⟨hc2, hf2⟩ := bcell hb2
    obtain ⟨hz2a, hz2b⟩ : w.heap.size < w2.heap.size ∧ w.heap.size + 1 < w2.heap.size := by have := hb2.size; (try simp at this); omega
    go_wp2_with fail
    refine (vcompare_any _ _ _ _ _).mono ?_
    rintro e w3 ⟨rfl, hb3⟩
    obtain ⟨hc3, hf3⟩ := bcell hb3
    obtain ⟨hz3a, hz3b⟩ : w.heap.size < w3.heap.size ∧ w.heap.size + 1 < w3.heap.size := by have := hb3.size; (try simp at this); omega
    go_wp2
    go_ret2
    refine ⟨ret_val EA.out.symm, ?_⟩
    repeat (first | exact Below.refl _ _ | refine Below.setCell ?_ (by first | omega | (simp <;> omega)) _ | refine Below.alloc ?_ (by first | omega | (simp <;> omega)) _ | refine bstep ?_ (by assumption) | refine Below.drew ?_)

end Go.Proofs.YtcjefepjnomfaaaDoor
