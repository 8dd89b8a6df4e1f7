/-
  Contracts of chapter 2's MatText (the program's function and the model's have one and the same answer), and the walk of its exact law. Condition: the library's table of powers of ten reads as its initialiser lays it.
-/
import Derived.Test.YtpdekopmnchanabGreatDoorMatT
namespace Go.Proofs.YtpdekopmnchanabGreatDoor
open Go.RowKit
set_option linter.unusedSimpArgs false
set_option linter.unusedVariables false

def mtextS (a b c d : Int) : ByteArray := bif matB a b c d then matS a b c d else ⟨#[]⟩

set_option maxHeartbeats 1000000 in
theorem l02Numbers_any (a b c d : Int) (w : World) :
    Calls Tryz.prog 64 #[.agg #[.int .i64 a, .int .i64 b, .int .i64 c, .int .i64 d]] w fun e w' => e = .returned (.slice (some ⟨w.heap.size + 1, 0, none⟩) 4 4) ∧ Kq (w.heap.size + 1) a b c d w' ∧ Below w.heap.size w w' := by
  go_enter Tryz.func64, Tryz.ntmps64
  go_wp2
  go_ret
  refine ⟨rfl, Kq.at _ (by simp), ?_⟩
  repeat (first | exact Below.refl _ _ | refine Below.setCell ?_ (by first | omega | (simp <;> omega)) _ | refine Below.alloc ?_ (by first | omega | (simp <;> omega)) _ | refine bstep ?_ (by assumption) | refine Below.drew ?_)

set_option maxHeartbeats 1000000 in
theorem specMText_any (a b c d : Int) (w : World) :
    Calls Tryz.prog 33 #[.agg #[.int .i64 a, .int .i64 b, .int .i64 c, .int .i64 d]] w fun e w' => e = .returned (.string (mtextS a b c d)) ∧ Below w.heap.size w w' := by
  rcases hu : matB a b c d with _ | _
  · have ea : mtextS a b c d = ⟨#[]⟩ := by simp [mtextS, hu]
    have EA := Lib.hid ea
    clear ea
    go_enter Tryz.func33, Tryz.ntmps33
    go_wp2_with fail
    refine (specIsMat_any _ _ _ _ _).mono ?_
    rintro e w1 ⟨rfl, hb1⟩
    obtain ⟨hc1, hf1⟩ := bcell hb1
    have hz1a : w.heap.size < w1.heap.size := by have := hb1.size; (try simp at this); omega
    go_wp2
    go_ret
    refine ⟨ret_str EA.out.symm, ?_⟩
    repeat (first | exact Below.refl _ _ | refine Below.setCell ?_ (by first | omega | (simp <;> omega)) _ | refine Below.alloc ?_ (by first | omega | (simp <;> omega)) _ | refine bstep ?_ (by assumption) | refine Below.drew ?_)
  · have lu := matB_lim hu
    have ea : mtextS a b c d = matS a b c d := by simp [mtextS, hu]
    have EA := Lib.hid ea
    clear ea
    go_enter Tryz.func33, Tryz.ntmps33
    go_wp2_with fail
    refine (specIsMat_any _ _ _ _ _).mono ?_
    rintro e w1 ⟨rfl, hb1⟩
    obtain ⟨hc1, hf1⟩ := bcell hb1
    have hz1a : w.heap.size < w1.heap.size := by have := hb1.size; (try simp at this); omega
    go_wp2_with fail
    refine (l02Numbers_any _ _ _ _ _).mono ?_
    rintro e w2 ⟨rfl, K2, hb2⟩
    go_wp2_with fail
    refine (join_any _ _ _ _ _ _ lu K2).mono ?_
    rintro e w3 ⟨rfl, hb3⟩
    obtain ⟨hc3, hf3⟩ := bcell hb3
    have hz3a : w.heap.size < w3.heap.size := by have := hb3.size; have := hb2.size; (try simp at *); omega
    go_wp2
    go_ret
    refine ⟨ret_str EA.out.symm, ?_⟩
    repeat (first | exact Below.refl _ _ | refine Below.setCell ?_ (by first | omega | (simp <;> omega)) _ | refine Below.alloc ?_ (by first | omega | (simp <;> omega)) _ | refine bstep ?_ (by assumption) | refine Below.drew ?_)

end Go.Proofs.YtpdekopmnchanabGreatDoor
