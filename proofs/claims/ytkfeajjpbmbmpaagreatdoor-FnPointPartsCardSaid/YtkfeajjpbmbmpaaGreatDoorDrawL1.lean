/-
  The draw of a lattice (the model's l03Draw): it returns some three numbers and turns nothing that was there but the source. Condition: the code's bytes can be read.
-/
import Derived.Test.YtkfeajjpbmbmpaaGreatDoorDraw
import Derived.Test.YtkfeajjpbmbmpaaGreatDoorGa
namespace Go.Proofs.YtkfeajjpbmbmpaaGreatDoor
open Go.RowKit
set_option linter.unusedSimpArgs false
set_option linter.unusedVariables false

theorem KL.only {R p : Nat} {a b c : Int} {W w1 : World} (h : KL R a b c W) (o : Only p W w1) (hp : R ≠ p) : KL R a b c w1 :=
  ⟨Nat.lt_of_lt_of_le h.lt o.size, by rw [o.cell h.lt hp]; exact h.c0, by rw [o.cell h.lt hp]; exact h.c1, by rw [o.cell h.lt hp]; exact h.c2, by rw [o.frozen h.lt hp]; exact h.f0, by rw [o.frozen h.lt hp]; exact h.f1, by rw [o.frozen h.lt hp]; exact h.f2⟩
theorem cells2p (W : World) (a b : Int) (T : TypeId) : ∀ i, i < 2 → ∃ v : Int, (W.alloc (.cells #[.int .i64 a, .int .i64 b] T)).cell? ⟨W.heap.size, i, none⟩ = some (.int .i64 v) := by
  intro i hi
  obtain rfl | rfl : i = 0 ∨ i = 1 := by omega
  · exact ⟨a, by simp [go_sem]⟩
  · exact ⟨b, by simp [go_sem]⟩
def LatPost (p : Nat) (a0 : Option Addr) (len cap : Nat) (w : World) (e : Ending) (w' : World) : Prop :=
  ∃ a b c : Int, e = .returned (.agg #[.int .i64 a, .int .i64 b, .int .i64 c]) ∧ Src p a0 len cap w' ∧ Only p w w'

set_option maxHeartbeats 4000000 in
theorem drawLat_any (p : Nat) (a0 : Option Addr) (len cap : Nat) (w : World) (h : Src p a0 len cap w) :
    Calls Tryz.prog 243 #[.pointer (some ⟨p, 0, none⟩)] w (LatPost p a0 len cap w) := by
  have hp := h.lt
  go_enter Tryz.func243, Tryz.ntmps243
  go_wp2_with fail
  refine (next_any _ p a0 len cap _ (h.alloc _)).mono ?_
  rintro e w1 ⟨x, rfl, x0, x1, S1, O1⟩
  have R1 : KL w.heap.size 0 0 0 w1 := KL.only (KL.at _ rfl) O1 (by omega)
  have O1' : Only p w w1 := ((Only.refl _ _).alloc _).trans O1
  have x2 : x < 6 := x1 (by omega)
  clear O1 x1
  go_wp2_with fail
  refine (next_any _ p a0 len cap _ S1).mono ?_
  rintro e w2 ⟨y, rfl, y0, y1, S2, O2⟩
  have R2 := R1.only O2 (by omega)
  have O2' := O1'.trans O2
  have y2 : y < 6 := y1 (by omega)
  clear O2 y1 S1 O1' R1
  have hg : w.heap.size < w2.heap.size := R2.lt
  have hle : w.heap.size ≤ w2.heap.size := Nat.le_of_lt hg
  have hlt : p < w2.heap.size := by omega
  have ng : ¬ w.heap.size = w2.heap.size := by omega
  go_wp2_with fail
  refine (next_any _ p a0 len cap _ (S2.alloc _)).mono ?_
  rintro e w3 ⟨z, rfl, z0, z1, S3, O3⟩
  have G3 : KL w2.heap.size (1 + x) 0 (1 + y) w3 := KL.only (KL.at _ rfl) O3 (by omega)
  have R3 := (R2.alloc _).only O3 (by omega)
  have O3' := (O2'.alloc _).trans O3
  clear z0 z1 O3 O2' S2 R2
  obtain ⟨g0, g1, g2, g3, g4, g5, g6⟩ := id G3
  go_wp2_with fail
  have S3' := Src.put (u := .int .i64 z) (q := ⟨w2.heap.size, 1, none⟩) hlt S3
  have R3' := KL.put (u := .int .i64 z) (p := ⟨w2.heap.size, 1, none⟩) hg R3
  have G3' := G3.store1 z
  have O3'' := O3'.put (q := ⟨w2.heap.size, 1, none⟩) hle (.int .i64 z)
  clear S3 R3 G3 O3' g0 g1 g2 g3 g4 g5 g6
  refine (next_any _ p a0 len cap _ S3').mono ?_
  rintro e w4 ⟨k, rfl, k0, k1, S4, O4⟩
  have G4 := G3'.only O4 (by omega)
  have R4 := R3'.only O4 (by omega)
  have O4' := O3''.trans O4
  clear k0 k1 O4 O3'' S3' R3' G3'
  rcases hk : k == 0 with _ | _
  · rcases hk1 : k == 1 with _ | _
    · rcases hk2 : k == 2 with _ | _
      · obtain ⟨d0, d1, d2, d3, d4, d5, d6⟩ := id R4
        obtain ⟨g0, g1, g2, g3, g4, g5, g6⟩ := id G4
        go_wp2
        refine bodyPost_ret (v := .agg #[.int .i64 (1 + x), .int .i64 z, .int .i64 (1 + y)]) (by simp [results, Tryz.results243, go_sem, *]) rfl ⟨_, _, _, rfl, ?_, ?_⟩
        · exact Src.put hp (Src.put hp (Src.put hp (S4)))
        · exact Only.put (Only.put (Only.put (O4') (Nat.le_refl _) _) (Nat.le_refl _) _) (Nat.le_refl _) _
      · obtain ⟨g0, g1, g2, g3, g4, g5, g6⟩ := id G4
        go_wp2_with fail
        refine (pick_any p _ 2 a0 len cap _ (S4.alloc _) (by omega) (by omega) (by simp) (by have := S4.lt; omega) (cells2p _ _ _ _)).mono ?_
        rintro e w5 ⟨n, rfl, S5, O5⟩
        have R5 := (R4.alloc _).only O5 (by omega)
        have G5 := (G4.alloc _).only O5 (by omega)
        have O5' := (O4'.alloc _).trans O5
        clear O4' O5 S4 R4 G4
        clear g0 g1 g2 g3 g4 g5 g6
        obtain ⟨d0, d1, d2, d3, d4, d5, d6⟩ := id R5
        obtain ⟨g0, g1, g2, g3, g4, g5, g6⟩ := id G5
        go_wp2
        refine bodyPost_ret (v := .agg #[.int .i64 8, .int .i64 3, .int .i64 n]) (by simp [results, Tryz.results243, go_sem, *]) rfl ⟨_, _, _, rfl, ?_, ?_⟩
        · exact Src.put hp (Src.put hp (Src.put hp (Src.put hlt (Src.put hlt (Src.put hlt (S5))))))
        · exact Only.put (Only.put (Only.put (Only.put (Only.put (Only.put (O5') hle _) hle _) hle _) (Nat.le_refl _) _) (Nat.le_refl _) _) (Nat.le_refl _) _
    · obtain ⟨g0, g1, g2, g3, g4, g5, g6⟩ := id G4
      go_wp2_with fail
      refine (pick_any p _ 3 a0 len cap _ (S4.alloc _) (by omega) (by omega) (by simp) (by have := S4.lt; omega) (dcl3 _ _ _ _ _)).mono ?_
      rintro e w5 ⟨n, rfl, S5, O5⟩
      have R5 := (R4.alloc _).only O5 (by omega)
      have G5 := (G4.alloc _).only O5 (by omega)
      have O5' := (O4'.alloc _).trans O5
      clear O4' O5 S4 R4 G4
      clear g0 g1 g2 g3 g4 g5 g6
      obtain ⟨d0, d1, d2, d3, d4, d5, d6⟩ := id R5
      obtain ⟨g0, g1, g2, g3, g4, g5, g6⟩ := id G5
      go_wp2
      refine bodyPost_ret (v := .agg #[.int .i64 (1 + x), .int .i64 n, .int .i64 (1 + y)]) (by simp [results, Tryz.results243, go_sem, *]) rfl ⟨_, _, _, rfl, ?_, ?_⟩
      · exact Src.put hp (Src.put hp (Src.put hp (Src.put hlt (S5))))
      · exact Only.put (Only.put (Only.put (Only.put (O5') hle _) (Nat.le_refl _) _) (Nat.le_refl _) _) (Nat.le_refl _) _
  · obtain ⟨g0, g1, g2, g3, g4, g5, g6⟩ := id G4
    go_wp2_with fail
    refine (pick_any p _ 4 a0 len cap _ (S4.alloc _) (by omega) (by omega) (by simp) (by have := S4.lt; omega) (dcl4 _ _ _ _ _ _)).mono ?_
    rintro e w5 ⟨n, rfl, S5, O5⟩
    have R5 := (R4.alloc _).only O5 (by omega)
    have G5 := (G4.alloc _).only O5 (by omega)
    have O5' := (O4'.alloc _).trans O5
    clear O4' O5 S4 R4 G4
    clear g0 g1 g2 g3 g4 g5 g6
    obtain ⟨d0, d1, d2, d3, d4, d5, d6⟩ := id R5
    obtain ⟨g0, g1, g2, g3, g4, g5, g6⟩ := id G5
    go_wp2
    refine bodyPost_ret (v := .agg #[.int .i64 n, .int .i64 z, .int .i64 (1 + y)]) (by simp [results, Tryz.results243, go_sem, *]) rfl ⟨_, _, _, rfl, ?_, ?_⟩
    · exact Src.put hp (Src.put hp (Src.put hp (Src.put hlt (S5))))
    · exact Only.put (Only.put (Only.put (Only.put (O5') hle _) (Nat.le_refl _) _) (Nat.le_refl _) _) (Nat.le_refl _) _

end Go.Proofs.YtkfeajjpbmbmpaaGreatDoor
