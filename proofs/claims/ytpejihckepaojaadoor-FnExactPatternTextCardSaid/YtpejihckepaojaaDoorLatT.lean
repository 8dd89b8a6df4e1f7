/-
  Contracts of LatticeText (program and model) and the walk of its exact law. Condition: the library's table of powers of ten reads as its initialiser lays it.
-/
import Derived.Test.YtpejihckepaojaaDoorNText
import Derived.Test.YtpejihckepaojaaDoorLat3
namespace Go.Proofs.YtpejihckepaojaaDoor
open Go.RowKit
set_option linter.unusedSimpArgs false
set_option linter.unusedVariables false

def latText (A B C : Int) : ByteArray := bif latB A B C then numsS [A, B, C] else ⟨#[]⟩
theorem ints_three {g : Nat} (W : World) (a b c : Int) (T : TypeId) (hg : g = W.heap.size) : Ints g [a, b, c] (W.alloc (.cells #[.int .i64 a, .int .i64 b, .int .i64 c] T)) := by
  subst hg
  refine ⟨by simp, fun i hi => ?_⟩
  match i, hi with
  | 0, _ => simp [go_sem]
  | 1, _ => simp [go_sem]
  | 2, _ => simp [go_sem]
theorem latI_N {A B C : Int} (h : latI A B C) : bigN [A, B, C] := by
  have := latI_bd h
  obtain ⟨h1, h2, h3, h4, h5⟩ := h
  intro n hn
  simp at hn
  omega

set_option maxHeartbeats 4000000 in
theorem ltext_any (A B C : Int) (w : World) (hT : TabOK w) (h : latI A B C) :
    Calls Tryd.prog 77 #[.agg #[.int .i64 A, .int .i64 B, .int .i64 C]] w fun e w' => e = .returned (.string (numsS [A, B, C])) ∧ Below w.heap.size w w' := by
  have hN := latI_N h
  have B0 : Below w.heap.size w ((w.alloc (.cells #[.int .i64 A, .int .i64 B, .int .i64 C] 28)).alloc (.cells #[.int .i64 A, .int .i64 B, .int .i64 C] 2)) := by
    repeat (first | exact Below.refl _ _ | refine Below.setCell ?_ (by first | omega | (simp <;> omega)) _ | refine Below.alloc ?_ (by first | omega | (simp <;> omega)) _ | refine bstep ?_ (by assumption) | refine Below.drew ?_)
  go_enter Tryd.func77, Tryd.ntmps77
  go_wp2_with fail
  refine (numbersText_any [A, B, C] _ _ _ (hT.on B0) (ints_three _ A B C _ (by simp)) hN (by simp) (by simp)).mono ?_
  rintro e w1 ⟨rfl, hb1⟩
  go_wp2
  go_ret
  exact ⟨rfl, bstep B0 hb1⟩
set_option maxHeartbeats 4000000 in
theorem specLText_any (A B C : Int) (w : World) :
    Calls Tryd.prog 74 #[.agg #[.int .i64 A, .int .i64 B, .int .i64 C]] w fun e w' => e = .returned (.string (latText A B C)) ∧ Below w.heap.size w w' := by
  rcases hu : latB A B C with _ | _
  · have EA := Lib.hid (show latText A B C = ⟨#[]⟩ by simp [latText, hu])
    go_enter Tryd.func74, Tryd.ntmps74
    go_wp2_with fail
    refine (specIsLattice_any _ _ _ _).mono ?_
    rintro e w1 ⟨rfl, hb1⟩
    obtain ⟨hc1, hf1⟩ := bcell hb1
    have hz1a : w.heap.size < w1.heap.size := by have := hb1.size; (try simp at this); omega
    go_wp2
    go_ret
    refine ⟨ret_str EA.out.symm, ?_⟩
    repeat (first | exact Below.refl _ _ | refine Below.setCell ?_ (by first | omega | (simp <;> omega)) _ | refine Below.alloc ?_ (by first | omega | (simp <;> omega)) _ | refine bstep ?_ (by assumption) | refine Below.drew ?_)
  · have EA := Lib.hid (show latText A B C = numsS [A, B, C] by simp [latText, hu])
    have hi := latB_iff.1 hu
    have hN := latI_N hi
    go_enter Tryd.func74, Tryd.ntmps74
    go_wp2_with fail
    refine (specIsLattice_any _ _ _ _).mono ?_
    rintro e w1 ⟨rfl, hb1⟩
    obtain ⟨hc1, hf1⟩ := bcell hb1
    have hz1a : w.heap.size < w1.heap.size := by have := hb1.size; (try simp at this); omega
    have B1 : Below w.heap.size w w1 := by
      repeat (first | exact Below.refl _ _ | refine Below.setCell ?_ (by first | omega | (simp <;> omega)) _ | refine Below.alloc ?_ (by first | omega | (simp <;> omega)) _ | refine bstep ?_ (by assumption) | refine Below.drew ?_)
    have B2 : Below w.heap.size w (w1.alloc (.cells #[.int .i64 A, .int .i64 B, .int .i64 C] 2)) := B1.alloc B1.size _
    go_wp2_with fail
    refine (joinN_any [A, B, C] _ _ _ (ints_three _ A B C _ (by simp)) hN (by simp)).mono ?_
    rintro e w2 ⟨rfl, hb2⟩
    go_wp2
    go_ret
    exact ⟨ret_str EA.out.symm, bstep B2 hb2⟩

end Go.Proofs.YtpejihckepaojaaDoor
