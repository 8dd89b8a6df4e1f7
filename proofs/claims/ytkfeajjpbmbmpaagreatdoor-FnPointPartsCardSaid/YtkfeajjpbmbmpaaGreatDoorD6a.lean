/-
  The draw of a frame and a lattice (the model's l06DrawLattice): it returns some numbers and turns nothing that was there but the source. Condition: the source's bytes can be read.
-/
import Derived.Test.YtkfeajjpbmbmpaaGreatDoorDrawL1
import Derived.Test.YtkfeajjpbmbmpaaGreatDoorDrawNr
namespace Go.Proofs.YtkfeajjpbmbmpaaGreatDoor
open Go.RowKit
set_option linter.unusedSimpArgs false
set_option linter.unusedVariables false

def FLPost (p : Nat) (a0 : Option Addr) (len cap : Nat) (w : World) (e : Ending) (w' : World) : Prop :=
  ∃ f a b c : Int, e = .returned (.tuple #[.int .i64 f, .agg #[.int .i64 a, .int .i64 b, .int .i64 c]]) ∧ Src p a0 len cap w' ∧ Only p w w'
set_option maxRecDepth 100000 in
set_option maxHeartbeats 8000000 in
theorem drawFL_any (p : Nat) (a0 : Option Addr) (len cap : Nat) (w : World) (h : Src p a0 len cap w) :
    Calls Tryz.prog 151 #[.pointer (some ⟨p, 0, none⟩)] w (FLPost p a0 len cap w) := by
  have hp := h.lt
  have hne : w.heap.size ≠ p := by omega
  go_enter Tryz.func151, Tryz.ntmps151
  go_wp2_with fail
  refine (drawFrame_any p a0 len cap _ (h.alloc _)).mono ?_
  rintro e w1 ⟨f, rfl, S1, O1⟩
  have R1 : KL w.heap.size 0 0 0 w1 := KL.only (KL.at _ rfl) O1 hne
  have O1' : Only p w w1 := ((Only.refl _ _).alloc _).trans O1
  clear O1
  go_wp2_with fail
  refine (next_any _ p a0 len cap _ S1).mono ?_
  rintro e w2 ⟨x, rfl, x0, x1, S2, O2⟩
  have R2 := R1.only O2 hne
  have O2' := O1'.trans O2
  clear x1 S1 R1 O1' O2
  have hlt2 := S2.lt
  by_cases hx0 : x = 0
  · subst hx0
    go_wp2_with fail
    refine (drawLat_any p a0 len cap _ S2).mono ?_
    rintro e w3 ⟨a, b, c, rfl, S3, O3⟩
    have R3 := R2.only O3 hne
    have O3' := O2'.trans O3
    clear S2 R2 O2' O3
    obtain ⟨g0, g1, g2, g3, g4, g5, g6⟩ := id R3
    have hlt3 := S3.lt
    go_wp2
    refine bodyPost_ret (v := .tuple #[.int .i64 f, .agg #[.int .i64 a, .int .i64 b, .int .i64 c]]) (by simp [results, Tryz.results151, go_sem, *]) rfl ⟨f, a, b, c, rfl, ?_, ?_⟩
    · repeat (first | with_reducible assumption | (with_reducible refine Src.put (by first | omega | (simp; omega)) ?_) | with_reducible refine Src.alloc ?_ _ | with_reducible refine Src.drew ?_)
    · repeat (first | with_reducible assumption | (with_reducible refine Only.put ?_ (by first | exact Nat.le_refl _ | omega | (simp; omega)) _) | with_reducible refine Only.alloc ?_ _ | with_reducible refine Only.drew ?_)
  have b0 : (x == 0) = false := by simpa using hx0
  by_cases hx1 : x = 1
  · subst hx1
    go_wp2_with fail
    refine (next_any _ p a0 len cap _ S2).mono ?_
    rintro e w3 ⟨y, rfl, y0, y1, S3, O3⟩
    have y2 : y < 4 := y1 (by omega)
    have R3 := R2.only O3 hne
    have O3' := O2'.trans O3
    clear y1 S2 R2 O2' O3
    go_wp2_with fail
    refine (next_any _ p a0 len cap _ S3).mono ?_
    rintro e w4 ⟨z, rfl, z0, z1, S4, O4⟩
    have z2 : z < 4 := z1 (by omega)
    have R4 := R3.only O4 hne
    have O4' := O3'.trans O4
    clear z1 S3 R3 O3' O4
    obtain ⟨g0, g1, g2, g3, g4, g5, g6⟩ := id R4
    have hlt4 := S4.lt
    go_wp2
    refine bodyPost_ret (v := .tuple #[.int .i64 f, .agg #[.int .i64 (1 + y), .int .i64 0, .int .i64 (1 + z)]]) (by simp [results, Tryz.results151, go_sem, *]) rfl ⟨f, 1 + y, 0, 1 + z, rfl, ?_, ?_⟩
    · repeat (first | with_reducible assumption | (with_reducible refine Src.put (by first | omega | (simp; omega)) ?_) | with_reducible refine Src.alloc ?_ _ | with_reducible refine Src.drew ?_)
    · repeat (first | with_reducible assumption | (with_reducible refine Only.put ?_ (by first | exact Nat.le_refl _ | omega | (simp; omega)) _) | with_reducible refine Only.alloc ?_ _ | with_reducible refine Only.drew ?_)
  have b1 : (x == 1) = false := by simpa using hx1
  by_cases hx2 : x = 2
  · subst hx2
    obtain ⟨g0, g1, g2, g3, g4, g5, g6⟩ := id R2
    rcases hf : (f == 0) with _ | _
    · go_wp2
      refine bodyPost_ret (v := .tuple #[.int .i64 f, .agg #[.int .i64 3, .int .i64 1, .int .i64 1]]) (by simp [results, Tryz.results151, go_sem, *]) rfl ⟨f, 3, 1, 1, rfl, ?_, ?_⟩
      · repeat (first | with_reducible assumption | (with_reducible refine Src.put (by first | omega | (simp; omega)) ?_) | with_reducible refine Src.alloc ?_ _ | with_reducible refine Src.drew ?_)
      · repeat (first | with_reducible assumption | (with_reducible refine Only.put ?_ (by first | exact Nat.le_refl _ | omega | (simp; omega)) _) | with_reducible refine Only.alloc ?_ _ | with_reducible refine Only.drew ?_)
    · go_wp2
      refine bodyPost_ret (v := .tuple #[.int .i64 f, .agg #[.int .i64 2, .int .i64 1, .int .i64 1]]) (by simp [results, Tryz.results151, go_sem, *]) rfl ⟨f, 2, 1, 1, rfl, ?_, ?_⟩
      · repeat (first | with_reducible assumption | (with_reducible refine Src.put (by first | omega | (simp; omega)) ?_) | with_reducible refine Src.alloc ?_ _ | with_reducible refine Src.drew ?_)
      · repeat (first | with_reducible assumption | (with_reducible refine Only.put ?_ (by first | exact Nat.le_refl _ | omega | (simp; omega)) _) | with_reducible refine Only.alloc ?_ _ | with_reducible refine Only.drew ?_)
  have b2 : (x == 2) = false := by simpa using hx2
  go_wp2_with fail
  refine (next_any _ p a0 len cap _ S2).mono ?_
  rintro e w3 ⟨y, rfl, y0, y1, S3, O3⟩
  have y2 : y < 4 := y1 (by omega)
  have R3 := R2.only O3 hne
  have O3' := O2'.trans O3
  clear y1 S2 R2 O2' O3
  obtain ⟨g0, g1, g2, g3, g4, g5, g6⟩ := id R3
  have hlt3 := S3.lt
  go_wp2
  refine bodyPost_ret (v := .tuple #[.int .i64 f, .agg #[.int .i64 (1 + y), .int .i64 0, .int .i64 (1 + y)]]) (by simp [results, Tryz.results151, go_sem, *]) rfl ⟨f, 1 + y, 0, 1 + y, rfl, ?_, ?_⟩
  · repeat (first | with_reducible assumption | (with_reducible refine Src.put (by first | omega | (simp; omega)) ?_) | with_reducible refine Src.alloc ?_ _ | with_reducible refine Src.drew ?_)
  · repeat (first | with_reducible assumption | (with_reducible refine Only.put ?_ (by first | exact Nat.le_refl _ | omega | (simp; omega)) _) | with_reducible refine Only.alloc ?_ _ | with_reducible refine Only.drew ?_)
end Go.Proofs.YtkfeajjpbmbmpaaGreatDoor
