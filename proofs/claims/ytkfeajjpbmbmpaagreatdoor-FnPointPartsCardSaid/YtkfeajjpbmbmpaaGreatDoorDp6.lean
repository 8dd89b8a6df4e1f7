/-
  The draw of a frame, a lattice and a list of motions by the code alone. Condition: the code's bytes can be read, at most 2^47 of them.
-/
import Derived.Test.YtkfeajjpbmbmpaaGreatDoorD6c
import Derived.Test.YtkfeajjpbmbmpaaGreatDoorDraws1
namespace Go.Proofs.YtkfeajjpbmbmpaaGreatDoor
open Go.RowKit
set_option linter.unusedSimpArgs false
set_option linter.unusedVariables false

def GrFin (w : World) (e : Ending) (w' : World) : Prop :=
  ∃ (f A B C : Int) (v : Value) (n : Nat) (F : Nat → Int), e = .returned (.tuple #[.int .i64 f, .agg #[.int .i64 A, .int .i64 B, .int .i64 C], v]) ∧ n ≤ 769 ∧ SRow w.heap.size w'.heap.size 6 v n F w' ∧ Below w.heap.size w w'
/- a row of motions as a list -/
def toXs (n : Nat) (F : Nat → Int) : List M6 := (List.range n).map fun i => (F (i * 6), F (i * 6 + 1), F (i * 6 + 2), F (i * 6 + 3), F (i * 6 + 4), F (i * 6 + 5))
theorem toXs_len (n : Nat) (F : Nat → Int) : (toXs n F).length = n := by simp [toXs]
theorem toXs_fm (n : Nat) (F : Nat → Int) (t : Nat) (ht : t < n * 6) : F t = fm (toXs n F) t := by
  have h : t / 6 < (toXs n F).length := by rw [toXs_len]; omega
  obtain ⟨a0, a1, a2, a3, a4, a5⟩ := fm_get (toXs n F) (t / 6) h
  have e : (toXs n F)[t / 6] = (F (t / 6 * 6), F (t / 6 * 6 + 1), F (t / 6 * 6 + 2), F (t / 6 * 6 + 3), F (t / 6 * 6 + 4), F (t / 6 * 6 + 5)) := by simp [toXs]
  rw [e] at a0 a1 a2 a3 a4 a5
  have hm : t = t / 6 * 6 ∨ t = t / 6 * 6 + 1 ∨ t = t / 6 * 6 + 2 ∨ t = t / 6 * 6 + 3 ∨ t = t / 6 * 6 + 4 ∨ t = t / 6 * 6 + 5 := by omega
  rcases hm with h | h | h | h | h | h <;> rw [h] <;> simp only [a0, a1, a2, a3, a4, a5]
theorem SRow.extX {lo hi K n : Nat} {v : Value} {F F' : Nat → Int} {W : World} (h : SRow lo hi K v n F W) (he : ∀ t, t < n * K → F t = F' t) : SRow lo hi K v n F' W := by
  obtain ⟨h1, h2, h3⟩ := h
  refine ⟨h1, h2, h3.imp id ?_⟩
  rintro ⟨g, cap, e, a, b, r⟩
  exact ⟨g, cap, e, a, b, r.ext he⟩
theorem SRow.toXs {lo hi n : Nat} {v : Value} {F : Nat → Int} {W : World} (h : SRow lo hi 6 v n F W) : SRow lo hi 6 v (toXs n F).length (fm (toXs n F)) W := by
  rw [toXs_len]; exact h.extX (toXs_fm n F)
set_option maxRecDepth 100000 in
set_option maxHeartbeats 4000000 in
theorem drawPP_any (a0 : Option Addr) (len cap : Nat) (w : World) (hl : len ≤ 140737488355328) (hB : Bts a0 len w.heap.size w) :
    Calls Tryz.prog 33 #[.slice a0 len cap] w (GrFin w) := by
  go_enter Tryz.func33, Tryz.ntmps33
  go_wp2_with fail
  refine (from_at (w.heap.size + 1) a0 len cap _ (by simp) hl (hB.grow (Below.alloc (Below.refl _ _) (by first | omega | (simp <;> omega)) _) (by omega))).mono ?_
  rintro e w1 ⟨rfl, S1, H1⟩
  have R1 : KL w.heap.size 0 0 0 w1 := KL.call (KL.at _ rfl) H1
  have B1 : Below w.heap.size w w1 := bstep (Below.alloc (Below.refl _ _) (by first | omega | (simp <;> omega)) _) H1
  have z1 := S1.lt
  clear H1
  go_wp2_with fail
  refine (drawGr_any (w.heap.size + 1) a0 len cap _ S1).mono ?_
  rintro e w2 ⟨f, A, B, C, v, n, F, rfl, hn, hS, S2, O2⟩
  have R2 := KL.only R1 O2 (by omega)
  have B2 := bonly B1 O2 (by omega)
  have z2 := S2.lt
  have hS2 : SRow (w.heap.size + 1) w2.heap.size 6 v n F w2 := hS.lower7X (by omega)
  clear S1 R1 B1 O2 hS
  obtain ⟨r0, r1, r2, r3, r4, r5, r6⟩ := id R2
  go_wp2
  refine bodyPost_ret (v := .tuple #[.int .i64 f, .agg #[.int .i64 A, .int .i64 B, .int .i64 C], v]) (by simp [results, Tryz.results33, go_sem, *]) rfl ⟨f, A, B, C, v, n, F, rfl, hn, ?_, ?_⟩
  · refine SRow.upX (hi := w2.heap.size) (SRow.lower7X (lo := w.heap.size + 1) ?_ (by omega))
    repeat (first | with_reducible assumption | with_reducible refine SRow.putX (by first | omega | (dsimp only; omega)) _ ?_ | with_reducible refine SRow.drewX ?_)
  · repeat (first | with_reducible assumption | with_reducible exact Below.refl _ _ | with_reducible refine Below.setCell ?_ (by first | omega | (simp <;> omega)) _ | with_reducible refine Below.alloc ?_ (by first | omega | (simp <;> omega)) _ | with_reducible refine bstep ?_ (by with_reducible assumption) | with_reducible refine Below.drew ?_)

end Go.Proofs.YtkfeajjpbmbmpaaGreatDoor
