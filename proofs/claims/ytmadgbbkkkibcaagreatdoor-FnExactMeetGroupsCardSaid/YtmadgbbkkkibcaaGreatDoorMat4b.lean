/-
  Contracts of chapter 2's kinds: the model's kind, and whether the program sees a reflection. Condition: the numbers lie from -1000 to 1000.
-/
import Derived.Test.YtmadgbbkkkibcaaGreatDoorMat4
namespace Go.Proofs.YtmadgbbkkkibcaaGreatDoor
open Go.RowKit
set_option linter.unusedSimpArgs false
set_option linter.unusedVariables false

set_option maxHeartbeats 1000000 in
theorem isReflection_any (a b c d : Int) (w : World) (h : limB a b c d = true) :
    Calls Tryz.prog 243 #[.agg #[.int .i64 a, .int .i64 b, .int .i64 c, .int .i64 d]] w fun e w' => e = .returned (.bool (reflB a b c d)) ∧ Below w.heap.size w w' := by
  rcases h1 : a * d - b * c == -1 with _ | _
  · have ea : reflB a b c d = false := by simp [reflB, h1]
    have EA := Lib.hid ea
    clear ea
    go_enter Tryz.func243, Tryz.ntmps243
    go_wp2_with fail
    refine (det_any _ _ _ _ _ h).mono ?_
    rintro e w1 ⟨rfl, hb1⟩
    obtain ⟨hc1, hf1⟩ := bcell hb1
    have hz1a : w.heap.size < w1.heap.size := by have := hb1.size; (try simp at this); omega
    go_wp2
    go_ret
    refine ⟨ret_bool EA.out.symm, ?_⟩
    repeat (first | exact Below.refl _ _ | refine Below.setCell ?_ (by first | omega | (simp <;> omega)) _ | refine Below.alloc ?_ (by first | omega | (simp <;> omega)) _ | refine bstep ?_ (by assumption) | refine Below.drew ?_)
  rcases h2 : a + d == 0 with _ | _
  · have ea : reflB a b c d = false := by simp [reflB, h2]
    have EA := Lib.hid ea
    clear ea
    go_enter Tryz.func243, Tryz.ntmps243
    go_wp2_with fail
    refine (det_any _ _ _ _ _ h).mono ?_
    rintro e w1 ⟨rfl, hb1⟩
    obtain ⟨hc1, hf1⟩ := bcell hb1
    have hz1a : w.heap.size < w1.heap.size := by have := hb1.size; (try simp at this); omega
    go_wp2_with fail
    refine (trace_any _ _ _ _ _ h).mono ?_
    rintro e w2 ⟨rfl, hb2⟩
    obtain ⟨hc2, hf2⟩ := bcell hb2
    have hz2a : w.heap.size < w2.heap.size := by have := hb2.size; (try simp at this); omega
    go_wp2
    go_ret
    refine ⟨ret_bool EA.out.symm, ?_⟩
    repeat (first | exact Below.refl _ _ | refine Below.setCell ?_ (by first | omega | (simp <;> omega)) _ | refine Below.alloc ?_ (by first | omega | (simp <;> omega)) _ | refine bstep ?_ (by assumption) | refine Below.drew ?_)
  · have ea : reflB a b c d = true := by simp [reflB, h1, h2]
    have EA := Lib.hid ea
    clear ea
    go_enter Tryz.func243, Tryz.ntmps243
    go_wp2_with fail
    refine (det_any _ _ _ _ _ h).mono ?_
    rintro e w1 ⟨rfl, hb1⟩
    obtain ⟨hc1, hf1⟩ := bcell hb1
    have hz1a : w.heap.size < w1.heap.size := by have := hb1.size; (try simp at this); omega
    go_wp2_with fail
    refine (trace_any _ _ _ _ _ h).mono ?_
    rintro e w2 ⟨rfl, hb2⟩
    obtain ⟨hc2, hf2⟩ := bcell hb2
    have hz2a : w.heap.size < w2.heap.size := by have := hb2.size; (try simp at this); omega
    go_wp2
    go_ret
    refine ⟨ret_bool EA.out.symm, ?_⟩
    repeat (first | exact Below.refl _ _ | refine Below.setCell ?_ (by first | omega | (simp <;> omega)) _ | refine Below.alloc ?_ (by first | omega | (simp <;> omega)) _ | refine bstep ?_ (by assumption) | refine Below.drew ?_)

end Go.Proofs.YtmadgbbkkkibcaaGreatDoor
