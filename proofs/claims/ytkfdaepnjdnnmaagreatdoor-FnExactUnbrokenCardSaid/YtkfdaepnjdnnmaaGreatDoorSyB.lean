/-
  The first witness against a motion, and whether a motion breaks a pattern, in the program. Conditions: the pattern is valid, the motion's numbers are small.
-/
import Derived.Test.YtkfdaepnjdnnmaaGreatDoorSyA
import Derived.Test.YtkfdaepnjdnnmaaGreatDoorPtB
import Derived.Deep.RegionHeld3
import Derived.WalkMore
namespace Go.Proofs.YtkfdaepnjdnnmaaGreatDoor
open Go.RowKit
set_option linter.unusedSimpArgs false
set_option linter.unusedVariables false

set_option maxRecDepth 100000 in
set_option maxHeartbeats 16000000 in
theorem witness_any {lo hi p q n : Nat} {f B : Int} {v : Value} {F : Nat → Int} {W : World} (h : PatI f p B q n F) (hv : SRow lo hi 1 v n F W) (a b c d x y : Int) (hl : limB a b c d = true) (hxy : vecB x y = true) :
    Calls Tryz.prog 81 #[.agg #[.int .i64 f, .int .i64 (p : Int), .int .i64 B, .int .i64 (q : Int), v], .agg #[.int .i64 a, .int .i64 b, .int .i64 c, .int .i64 d, .int .i64 x, .int .i64 y]] W fun e w' => e = .returned (.tuple #[.agg #[.int .i64 ((witV (witR (p : Int) B (q : Int) F a b c d x y (cellP q p))).1), .int .i64 ((witV (witR (p : Int) B (q : Int) F a b c d x y (cellP q p))).2)], .bool (witR (p : Int) B (q : Int) F a b c d x y (cellP q p)).isSome]) ∧ Below W.heap.size W w' := by
  have R := Lib.hid hv
  have HH := Lib.hid h
  obtain ⟨hp1, hp2, hq1, hq2, hn64, hn1⟩ := h.bd
  obtain ⟨g, cap, rfl, hg, _, r⟩ := hv.irow hn1
  have hgs := hv.1
  have hgw : g < W.heap.size := by omega
  have HLI := Lib.hid (And.intro hl hxy)
  obtain ⟨ro, hro⟩ : ∃ z, z = witR (p : Int) B (q : Int) F a b c d x y (cellP q p) := ⟨_, rfl⟩
  rw [← hro]
  have HRO := Lib.hid (show ro = (cellP q p).find? (brk (p : Int) B (q : Int) F a b c d x y) from hro)
  clear hv h hl hxy hro
  go_enter Tryz.func81, Tryz.ntmps81
  have P1 : Bx W.heap.size [.int .i64 f, .int .i64 (p : Int), .int .i64 B, .int .i64 (q : Int), .slice (some ⟨g, 0, none⟩) n cap] ((((W.alloc (.cells #[.int .i64 f, .int .i64 (p : Int), .int .i64 B, .int .i64 (q : Int), .slice (some ⟨g, 0, none⟩) n cap] 35)).alloc (.cells #[.int .i64 a, .int .i64 b, .int .i64 c, .int .i64 d, .int .i64 x, .int .i64 y] 82)).alloc (.cells #[.int .i64 0, .int .i64 0] 53)).alloc (.cells #[.int .i64 0, .int .i64 0] 53)) := ((((Bx.at _ rfl).alloc _).alloc _).alloc _)
  have M1 : Bx (W.heap.size + 1) [.int .i64 a, .int .i64 b, .int .i64 c, .int .i64 d, .int .i64 x, .int .i64 y] ((((W.alloc (.cells #[.int .i64 f, .int .i64 (p : Int), .int .i64 B, .int .i64 (q : Int), .slice (some ⟨g, 0, none⟩) n cap] 35)).alloc (.cells #[.int .i64 a, .int .i64 b, .int .i64 c, .int .i64 d, .int .i64 x, .int .i64 y] 82)).alloc (.cells #[.int .i64 0, .int .i64 0] 53)).alloc (.cells #[.int .i64 0, .int .i64 0] 53)) := (((Bx.at _ (by simp)).alloc _).alloc _)
  have R1 : BX (W.heap.size + 1 + 1) [.int .i64 0, .int .i64 0] ((((W.alloc (.cells #[.int .i64 f, .int .i64 (p : Int), .int .i64 B, .int .i64 (q : Int), .slice (some ⟨g, 0, none⟩) n cap] 35)).alloc (.cells #[.int .i64 a, .int .i64 b, .int .i64 c, .int .i64 d, .int .i64 x, .int .i64 y] 82)).alloc (.cells #[.int .i64 0, .int .i64 0] 53)).alloc (.cells #[.int .i64 0, .int .i64 0] 53)) := (BX.at _ (by simp)).alloc _
  have F1 : BX (W.heap.size + 1 + 1 + 1) [.int .i64 0, .int .i64 0] ((((W.alloc (.cells #[.int .i64 f, .int .i64 (p : Int), .int .i64 B, .int .i64 (q : Int), .slice (some ⟨g, 0, none⟩) n cap] 35)).alloc (.cells #[.int .i64 a, .int .i64 b, .int .i64 c, .int .i64 d, .int .i64 x, .int .i64 y] 82)).alloc (.cells #[.int .i64 0, .int .i64 0] 53)).alloc (.cells #[.int .i64 0, .int .i64 0] 53)) := BX.at _ (by simp)
  have B1 : Below W.heap.size W ((((W.alloc (.cells #[.int .i64 f, .int .i64 (p : Int), .int .i64 B, .int .i64 (q : Int), .slice (some ⟨g, 0, none⟩) n cap] 35)).alloc (.cells #[.int .i64 a, .int .i64 b, .int .i64 c, .int .i64 d, .int .i64 x, .int .i64 y] 82)).alloc (.cells #[.int .i64 0, .int .i64 0] 53)).alloc (.cells #[.int .i64 0, .int .i64 0] 53)) := by repeat (first | with_reducible exact Below.refl _ _ | with_reducible assumption | with_reducible refine Below.setCell ?_ (by first | omega | (dsimp only; omega) | (simp <;> omega)) _ | with_reducible refine Below.alloc ?_ (by first | omega | (simp <;> omega)) _ | with_reducible refine bstep ?_ (by with_reducible assumption) | with_reducible refine Below.drew ?_ | with_reducible refine below_drewN ?_ _)
  have p1c0 := P1.c0
  have p1c1 := P1.c1
  have p1c2 := P1.c2
  have p1c3 := P1.c3
  have p1c4 := P1.c4
  have p1l := P1.lt
  go_wp2
  go_step3
  go_wp2
  go_step3
  go_wp2_with fail
  obtain ⟨w1, hw1⟩ : ∃ w1, ((((W.alloc (.cells #[.int .i64 f, .int .i64 (p : Int), .int .i64 B, .int .i64 (q : Int), .slice (some ⟨g, 0, none⟩) n cap] 35)).alloc (.cells #[.int .i64 a, .int .i64 b, .int .i64 c, .int .i64 d, .int .i64 x, .int .i64 y] 82)).alloc (.cells #[.int .i64 0, .int .i64 0] 53)).alloc (.cells #[.int .i64 0, .int .i64 0] 53)) = w1 := ⟨_, rfl⟩
  rw [hw1] at P1 M1 R1 F1 B1
  (try rw [hw1])
  clear hw1 p1c0 p1c1 p1c2 p1c3 p1c4 p1l
  go_loopw [7, 14] (fun s7 s X => ∃ i : Nat, s7 = .bool false ∧ s = .int .i64 (i : Int) ∧ i ≤ p ∧ (∀ v ∈ cellP q i, (brk (p : Int) B (q : Int) F a b c d x y) v = false) ∧ Below w1.heap.size w1 X) (fun _ s _ => p - (intOf s).toNat)
  case atStart => exact ⟨0, rfl, rfl, by omega, fun v hv => by simp [cellP] at hv, Below.refl _ _⟩
  case round =>
    obtain ⟨wo, hwo⟩ : ∃ z, z = wr := ⟨_, rfl⟩
    subst hwo
    obtain ⟨i, rfl, rfl, hi, hall, hB⟩ := hrel
    have HALL := Lib.hid hall
    clear hall
    have P2 := P1.call hB
    have M2 := M1.call hB
    have R2 := R1.call hB
    have F2 := F1.call hB
    have B2 := bstep B1 hB
    have p2c0 := P2.c0
    have p2c1 := P2.c1
    have p2c2 := P2.c2
    have p2c3 := P2.c3
    have p2c4 := P2.c4
    have p2l := P2.lt
    have r2c0 := R2.c0
    have r2c1 := R2.c1
    have r2f0 := R2.f0
    have r2f1 := R2.f1
    have r2l := R2.lt
    have f2c0 := F2.c0
    have f2c1 := F2.c1
    have f2f0 := F2.f0
    have f2f1 := F2.f1
    have f2l := F2.lt
    have n23 : ¬ W.heap.size + 1 + 1 = W.heap.size + 1 + 1 + 1 := by omega
    have n32 : ¬ W.heap.size + 1 + 1 + 1 = W.heap.size + 1 + 1 := by omega
    by_cases hi1 : i < p
    · have hi2 : (i : Int) < (p : Int) := by omega
      have hi3 : (i : Int) ≤ 64 := by omega
      go_wp2_with fail
      go_loopw [7, 20] (fun s7 s X => ∃ j : Nat, s7 = .bool false ∧ s = .int .i64 (j : Int) ∧ j ≤ q ∧ (∀ v ∈ cellP q i ++ cellR i j, (brk (p : Int) B (q : Int) F a b c d x y) v = false) ∧ Below wo.heap.size wo X) (fun _ s _ => q - (intOf s).toNat)
      case atStart => exact ⟨0, rfl, rfl, by omega, fun v hv => by simp [cellR] at hv; exact HALL.out v hv, Below.refl _ _⟩
      case round =>
        obtain ⟨wi, hwi⟩ : ∃ z, z = wr := ⟨_, rfl⟩
        subst hwi
        obtain ⟨j, rfl, rfl, hj, hall, hB3⟩ := hrel
        have HALL2 := Lib.hid hall
        clear hall
        have P3 := P2.call hB3
        have M3 := M2.call hB3
        have R3 := R2.call hB3
        have F3 := F2.call hB3
        have B3 := bstep B2 hB3
        by_cases hj1 : j < q
        · have hj2 : (j : Int) < (q : Int) := by omega
          have hj3 : (j : Int) ≤ 64 := by omega
          have hla := limB_bd HLI.out.1
          have hvb := vecB_bd HLI.out.2
          have m1 := bd9 hla.1.1 (t := (i : Int)) (by omega)
          have m2 := bd9 hla.1.2 (t := (j : Int)) (by omega)
          have m3 := bd9 hla.2.1 (t := (i : Int)) (by omega)
          have m4 := bd9 hla.2.2 (t := (j : Int)) (by omega)
          have HAP := Lib.hid (fun X => applyMo9_any a b c d x y (i : Int) (j : Int) X HLI.out.1 ⟨by unfold midI; omega, by unfold midI; omega⟩ (by simp [vecB]; omega))
          have MID := Lib.hid (show midI (a * (i : Int) + b * (j : Int) + x) ∧ midI (c * (i : Int) + d * (j : Int) + y) from ⟨by unfold midI; omega, by unfold midI; omega⟩)
          clear hla hvb m1 m2 m3 m4
          obtain ⟨X1, hX1⟩ : ∃ z, z = a * (i : Int) + b * (j : Int) + x := ⟨_, rfl⟩
          obtain ⟨X2, hX2⟩ : ∃ z, z = c * (i : Int) + d * (j : Int) + y := ⟨_, rfl⟩
          rw [← hX1, ← hX2] at HAP MID
          obtain ⟨b1, hb1⟩ : ∃ b, b = F (numP (p : Int) B (q : Int) X1 X2) := ⟨_, rfl⟩
          obtain ⟨b0, hb0⟩ : ∃ b, b = F (numP (p : Int) B (q : Int) (i : Int) (j : Int)) := ⟨_, rfl⟩
          have HA1 := Lib.hid (fun X (hX : Below wi.heap.size wi X) => (show Calls Tryz.prog 124 #[.agg #[.int .i64 f, .int .i64 (p : Int), .int .i64 B, .int .i64 (q : Int), .slice (some ⟨g, 0, none⟩) n cap], .agg #[.int .i64 X1, .int .i64 X2]] X (fun e w' => e = .returned (.int .i64 b1) ∧ Below X.heap.size X w') from by rw [hb1]; exact at_any HH.out (R.out.call (bstep B3 hX)) _ _ MID.out.1 MID.out.2))
          have HA0 := Lib.hid (fun X (hX : Below wi.heap.size wi X) => (show Calls Tryz.prog 124 #[.agg #[.int .i64 f, .int .i64 (p : Int), .int .i64 B, .int .i64 (q : Int), .slice (some ⟨g, 0, none⟩) n cap], .agg #[.int .i64 ((i : Int)), .int .i64 ((j : Int))]] X (fun e w' => e = .returned (.int .i64 b0) ∧ Below X.heap.size X w') from by rw [hb0]; exact at_any HH.out (R.out.call (bstep B3 hX)) _ _ (by unfold midI; omega) (by unfold midI; omega)))
          have HBRK := Lib.hid (show (brk (p : Int) B (q : Int) F a b c d x y) ((i : Int), (j : Int)) = !(b1 == b0) from by unfold brk; dsimp only; rw [← hX1, ← hX2, ← hb1, ← hb0])
          clear hX1 hX2 hb1 hb0
          have HI1 := Lib.hid hi1
          have HJ1 := Lib.hid hj1
          by_cases hbb : b1 = b0
          · have HBF := Lib.hid (show (brk (p : Int) B (q : Int) F a b c d x y) ((i : Int), (j : Int)) = false from by rw [HBRK.out, hbb]; simp)
            subst hbb
            go_wp2_with fail
            have P4 : Bx W.heap.size [.int .i64 f, .int .i64 (p : Int), .int .i64 B, .int .i64 (q : Int), .slice (some ⟨g, 0, none⟩) n cap] (wi.alloc (.cells #[.int .i64 (i : Int), .int .i64 (j : Int)] 53)) := P3.alloc _
            have M4 : Bx (W.heap.size + 1) [.int .i64 a, .int .i64 b, .int .i64 c, .int .i64 d, .int .i64 x, .int .i64 y] (wi.alloc (.cells #[.int .i64 (i : Int), .int .i64 (j : Int)] 53)) := M3.alloc _
            have R4 : BX (W.heap.size + 1 + 1) [.int .i64 0, .int .i64 0] (wi.alloc (.cells #[.int .i64 (i : Int), .int .i64 (j : Int)] 53)) := R3.alloc _
            have F4 : BX (W.heap.size + 1 + 1 + 1) [.int .i64 0, .int .i64 0] (wi.alloc (.cells #[.int .i64 (i : Int), .int .i64 (j : Int)] 53)) := F3.alloc _
            have V4 : Bx wi.heap.size [.int .i64 (i : Int), .int .i64 (j : Int)] (wi.alloc (.cells #[.int .i64 (i : Int), .int .i64 (j : Int)] 53)) := Bx.at _ rfl
            have D4 : Below wi.heap.size wi (wi.alloc (.cells #[.int .i64 (i : Int), .int .i64 (j : Int)] 53)) := (Below.refl _ _).alloc (Nat.le_refl _) _
            go_region_held3 (fun W9 => (W9.cell? ⟨W.heap.size, 0, none⟩ = some (.int .i64 f) ∧ W9.cell? ⟨W.heap.size, 1, none⟩ = some (.int .i64 (p : Int)) ∧ W9.cell? ⟨W.heap.size, 2, none⟩ = some (.int .i64 B) ∧ W9.cell? ⟨W.heap.size, 3, none⟩ = some (.int .i64 (q : Int)) ∧ W9.cell? ⟨W.heap.size, 4, none⟩ = some (.slice (some ⟨g, 0, none⟩) n cap)) ∧ (W9.cell? ⟨(W.heap.size + 1), 0, none⟩ = some (.int .i64 a) ∧ W9.cell? ⟨(W.heap.size + 1), 1, none⟩ = some (.int .i64 b) ∧ W9.cell? ⟨(W.heap.size + 1), 2, none⟩ = some (.int .i64 c) ∧ W9.cell? ⟨(W.heap.size + 1), 3, none⟩ = some (.int .i64 d) ∧ W9.cell? ⟨(W.heap.size + 1), 4, none⟩ = some (.int .i64 x) ∧ W9.cell? ⟨(W.heap.size + 1), 5, none⟩ = some (.int .i64 y)) ∧ (W9.cell? ⟨wi.heap.size, 0, none⟩ = some (.int .i64 (i : Int)) ∧ W9.cell? ⟨wi.heap.size, 1, none⟩ = some (.int .i64 (j : Int)))) ((refine And.intro (Bx.cells5 ?_) (And.intro (Bx.cells6 ?_) (Bx.cells2 ?_))) <;> (repeat (first | with_reducible assumption | with_reducible exact Bx.at _ rfl | with_reducible refine Bx.drew ?_ | with_reducible refine Bx.alloc ?_ _ | with_reducible refine Bx.call ?_ (by with_reducible assumption) | with_reducible refine BX.drew ?_ | with_reducible refine BX.alloc ?_ _ | with_reducible refine BX.call ?_ (by with_reducible assumption))))
              (first
                | (go_at_call 125; with_reducible refine (HAP.out _).mono ?_; rintro e w5 ⟨rfl, hb5⟩; have P5 : Bx W.heap.size [.int .i64 f, .int .i64 (p : Int), .int .i64 B, .int .i64 (q : Int), .slice (some ⟨g, 0, none⟩) n cap] w5 := (by repeat (first | with_reducible assumption | with_reducible exact Bx.at _ rfl | with_reducible refine Bx.drew ?_ | with_reducible refine Bx.alloc ?_ _ | with_reducible refine Bx.call ?_ (by with_reducible assumption) | with_reducible refine BX.drew ?_ | with_reducible refine BX.alloc ?_ _ | with_reducible refine BX.call ?_ (by with_reducible assumption))); have M5 : Bx (W.heap.size + 1) [.int .i64 a, .int .i64 b, .int .i64 c, .int .i64 d, .int .i64 x, .int .i64 y] w5 := (by repeat (first | with_reducible assumption | with_reducible exact Bx.at _ rfl | with_reducible refine Bx.drew ?_ | with_reducible refine Bx.alloc ?_ _ | with_reducible refine Bx.call ?_ (by with_reducible assumption) | with_reducible refine BX.drew ?_ | with_reducible refine BX.alloc ?_ _ | with_reducible refine BX.call ?_ (by with_reducible assumption))); have V5 : Bx wi.heap.size [.int .i64 (i : Int), .int .i64 (j : Int)] w5 := (by repeat (first | with_reducible assumption | with_reducible exact Bx.at _ rfl | with_reducible refine Bx.drew ?_ | with_reducible refine Bx.alloc ?_ _ | with_reducible refine Bx.call ?_ (by with_reducible assumption) | with_reducible refine BX.drew ?_ | with_reducible refine BX.alloc ?_ _ | with_reducible refine BX.call ?_ (by with_reducible assumption))); have R5 : BX (W.heap.size + 1 + 1) [.int .i64 0, .int .i64 0] w5 := (by repeat (first | with_reducible assumption | with_reducible exact Bx.at _ rfl | with_reducible refine Bx.drew ?_ | with_reducible refine Bx.alloc ?_ _ | with_reducible refine Bx.call ?_ (by with_reducible assumption) | with_reducible refine BX.drew ?_ | with_reducible refine BX.alloc ?_ _ | with_reducible refine BX.call ?_ (by with_reducible assumption))); have F5 : BX (W.heap.size + 1 + 1 + 1) [.int .i64 0, .int .i64 0] w5 := (by repeat (first | with_reducible assumption | with_reducible exact Bx.at _ rfl | with_reducible refine Bx.drew ?_ | with_reducible refine Bx.alloc ?_ _ | with_reducible refine Bx.call ?_ (by with_reducible assumption) | with_reducible refine BX.drew ?_ | with_reducible refine BX.alloc ?_ _ | with_reducible refine BX.call ?_ (by with_reducible assumption))); have D5 : Below wi.heap.size wi w5 := (by repeat (first | with_reducible assumption | with_reducible exact Below.refl _ _ | with_reducible refine Below.drew ?_ | with_reducible refine Below.alloc ?_ (by first | omega | (simp <;> omega)) _ | with_reducible refine Below.setCell ?_ (by first | omega | (dsimp only; omega)) _ | with_reducible refine bstep ?_ (by with_reducible assumption))))
                | (go_at_call 124; with_reducible refine (HA1.out _ (by repeat (first | with_reducible assumption | with_reducible exact Below.refl _ _ | with_reducible refine Below.drew ?_ | with_reducible refine Below.alloc ?_ (by first | omega | (simp <;> omega)) _ | with_reducible refine Below.setCell ?_ (by first | omega | (dsimp only; omega)) _ | with_reducible refine bstep ?_ (by with_reducible assumption)))).mono ?_; rintro e w6 ⟨rfl, hb6⟩; have P6 : Bx W.heap.size [.int .i64 f, .int .i64 (p : Int), .int .i64 B, .int .i64 (q : Int), .slice (some ⟨g, 0, none⟩) n cap] w6 := (by repeat (first | with_reducible assumption | with_reducible exact Bx.at _ rfl | with_reducible refine Bx.drew ?_ | with_reducible refine Bx.alloc ?_ _ | with_reducible refine Bx.call ?_ (by with_reducible assumption) | with_reducible refine BX.drew ?_ | with_reducible refine BX.alloc ?_ _ | with_reducible refine BX.call ?_ (by with_reducible assumption))); have M6 : Bx (W.heap.size + 1) [.int .i64 a, .int .i64 b, .int .i64 c, .int .i64 d, .int .i64 x, .int .i64 y] w6 := (by repeat (first | with_reducible assumption | with_reducible exact Bx.at _ rfl | with_reducible refine Bx.drew ?_ | with_reducible refine Bx.alloc ?_ _ | with_reducible refine Bx.call ?_ (by with_reducible assumption) | with_reducible refine BX.drew ?_ | with_reducible refine BX.alloc ?_ _ | with_reducible refine BX.call ?_ (by with_reducible assumption))); have V6 : Bx wi.heap.size [.int .i64 (i : Int), .int .i64 (j : Int)] w6 := (by repeat (first | with_reducible assumption | with_reducible exact Bx.at _ rfl | with_reducible refine Bx.drew ?_ | with_reducible refine Bx.alloc ?_ _ | with_reducible refine Bx.call ?_ (by with_reducible assumption) | with_reducible refine BX.drew ?_ | with_reducible refine BX.alloc ?_ _ | with_reducible refine BX.call ?_ (by with_reducible assumption))); have R6 : BX (W.heap.size + 1 + 1) [.int .i64 0, .int .i64 0] w6 := (by repeat (first | with_reducible assumption | with_reducible exact Bx.at _ rfl | with_reducible refine Bx.drew ?_ | with_reducible refine Bx.alloc ?_ _ | with_reducible refine Bx.call ?_ (by with_reducible assumption) | with_reducible refine BX.drew ?_ | with_reducible refine BX.alloc ?_ _ | with_reducible refine BX.call ?_ (by with_reducible assumption))); have F6 : BX (W.heap.size + 1 + 1 + 1) [.int .i64 0, .int .i64 0] w6 := (by repeat (first | with_reducible assumption | with_reducible exact Bx.at _ rfl | with_reducible refine Bx.drew ?_ | with_reducible refine Bx.alloc ?_ _ | with_reducible refine Bx.call ?_ (by with_reducible assumption) | with_reducible refine BX.drew ?_ | with_reducible refine BX.alloc ?_ _ | with_reducible refine BX.call ?_ (by with_reducible assumption))); have D6 : Below wi.heap.size wi w6 := (by repeat (first | with_reducible assumption | with_reducible exact Below.refl _ _ | with_reducible refine Below.drew ?_ | with_reducible refine Below.alloc ?_ (by first | omega | (simp <;> omega)) _ | with_reducible refine Below.setCell ?_ (by first | omega | (dsimp only; omega)) _ | with_reducible refine bstep ?_ (by with_reducible assumption))))
                | (go_at_call 124; with_reducible refine (HA0.out _ (by repeat (first | with_reducible assumption | with_reducible exact Below.refl _ _ | with_reducible refine Below.drew ?_ | with_reducible refine Below.alloc ?_ (by first | omega | (simp <;> omega)) _ | with_reducible refine Below.setCell ?_ (by first | omega | (dsimp only; omega)) _ | with_reducible refine bstep ?_ (by with_reducible assumption)))).mono ?_; rintro e w7 ⟨rfl, hb7⟩; have P7 : Bx W.heap.size [.int .i64 f, .int .i64 (p : Int), .int .i64 B, .int .i64 (q : Int), .slice (some ⟨g, 0, none⟩) n cap] w7 := (by repeat (first | with_reducible assumption | with_reducible exact Bx.at _ rfl | with_reducible refine Bx.drew ?_ | with_reducible refine Bx.alloc ?_ _ | with_reducible refine Bx.call ?_ (by with_reducible assumption) | with_reducible refine BX.drew ?_ | with_reducible refine BX.alloc ?_ _ | with_reducible refine BX.call ?_ (by with_reducible assumption))); have M7 : Bx (W.heap.size + 1) [.int .i64 a, .int .i64 b, .int .i64 c, .int .i64 d, .int .i64 x, .int .i64 y] w7 := (by repeat (first | with_reducible assumption | with_reducible exact Bx.at _ rfl | with_reducible refine Bx.drew ?_ | with_reducible refine Bx.alloc ?_ _ | with_reducible refine Bx.call ?_ (by with_reducible assumption) | with_reducible refine BX.drew ?_ | with_reducible refine BX.alloc ?_ _ | with_reducible refine BX.call ?_ (by with_reducible assumption))); have V7 : Bx wi.heap.size [.int .i64 (i : Int), .int .i64 (j : Int)] w7 := (by repeat (first | with_reducible assumption | with_reducible exact Bx.at _ rfl | with_reducible refine Bx.drew ?_ | with_reducible refine Bx.alloc ?_ _ | with_reducible refine Bx.call ?_ (by with_reducible assumption) | with_reducible refine BX.drew ?_ | with_reducible refine BX.alloc ?_ _ | with_reducible refine BX.call ?_ (by with_reducible assumption))); have R7 : BX (W.heap.size + 1 + 1) [.int .i64 0, .int .i64 0] w7 := (by repeat (first | with_reducible assumption | with_reducible exact Bx.at _ rfl | with_reducible refine Bx.drew ?_ | with_reducible refine Bx.alloc ?_ _ | with_reducible refine Bx.call ?_ (by with_reducible assumption) | with_reducible refine BX.drew ?_ | with_reducible refine BX.alloc ?_ _ | with_reducible refine BX.call ?_ (by with_reducible assumption))); have F7 : BX (W.heap.size + 1 + 1 + 1) [.int .i64 0, .int .i64 0] w7 := (by repeat (first | with_reducible assumption | with_reducible exact Bx.at _ rfl | with_reducible refine Bx.drew ?_ | with_reducible refine Bx.alloc ?_ _ | with_reducible refine Bx.call ?_ (by with_reducible assumption) | with_reducible refine BX.drew ?_ | with_reducible refine BX.alloc ?_ _ | with_reducible refine BX.call ?_ (by with_reducible assumption))); have D7 : Below wi.heap.size wi w7 := (by repeat (first | with_reducible assumption | with_reducible exact Below.refl _ _ | with_reducible refine Below.drew ?_ | with_reducible refine Below.alloc ?_ (by first | omega | (simp <;> omega)) _ | with_reducible refine Below.setCell ?_ (by first | omega | (dsimp only; omega)) _ | with_reducible refine bstep ?_ (by with_reducible assumption))); have v7c0 := V7.c0; have v7c1 := V7.c1; have v7l := V7.lt; have r7c0 := R7.c0; have r7c1 := R7.c1; have r7f0 := R7.f0; have r7f1 := R7.f1; have r7l := R7.lt; have f7c0 := F7.c0; have f7c1 := F7.c1; have f7f0 := F7.f0; have f7f1 := F7.f1; have f7l := F7.lt; have n23 : ¬ W.heap.size + 1 + 1 = W.heap.size + 1 + 1 + 1 := (by omega); have n32 : ¬ W.heap.size + 1 + 1 + 1 = W.heap.size + 1 + 1 := (by omega); have n3v : ¬ W.heap.size + 1 + 1 + 1 = wi.heap.size := (by have := F3.lt; omega); have nv3 : ¬ wi.heap.size = W.heap.size + 1 + 1 + 1 := (by have := F3.lt; omega)))
            all_goals
              go_wp2
              go_roundw
              case rel =>
                refine ⟨j + 1, rfl, by go_num, by have := HJ1.out; omega, fun v hv => ?_, hB3.trans (D7.mono hB3.size)⟩
                rw [cellR_succ, ← List.append_assoc, List.mem_append] at hv
                rcases hv with hv | hv
                · exact HALL2.out v hv
                · have e9 : v = ((i : Int), (j : Int)) := by simpa using hv
                  rw [e9]; exact HBF.out
              case measure => first | (simp [intOf]; done) | (simp [intOf]; omega)
          · have HBT := Lib.hid (show (brk (p : Int) B (q : Int) F a b c d x y) ((i : Int), (j : Int)) = true from by rw [HBRK.out]; simp [hbb])
            have ER := Lib.hid (show ro = some ((i : Int), (j : Int)) from HRO.out.trans (find_cell HI1.out HJ1.out HALL2.out HBT.out))
            have hbn : (b1 != b0) = true := by simp [hbb]
            go_wp2_with fail
            have P4 : Bx W.heap.size [.int .i64 f, .int .i64 (p : Int), .int .i64 B, .int .i64 (q : Int), .slice (some ⟨g, 0, none⟩) n cap] (wi.alloc (.cells #[.int .i64 (i : Int), .int .i64 (j : Int)] 53)) := P3.alloc _
            have M4 : Bx (W.heap.size + 1) [.int .i64 a, .int .i64 b, .int .i64 c, .int .i64 d, .int .i64 x, .int .i64 y] (wi.alloc (.cells #[.int .i64 (i : Int), .int .i64 (j : Int)] 53)) := M3.alloc _
            have R4 : BX (W.heap.size + 1 + 1) [.int .i64 0, .int .i64 0] (wi.alloc (.cells #[.int .i64 (i : Int), .int .i64 (j : Int)] 53)) := R3.alloc _
            have F4 : BX (W.heap.size + 1 + 1 + 1) [.int .i64 0, .int .i64 0] (wi.alloc (.cells #[.int .i64 (i : Int), .int .i64 (j : Int)] 53)) := F3.alloc _
            have V4 : Bx wi.heap.size [.int .i64 (i : Int), .int .i64 (j : Int)] (wi.alloc (.cells #[.int .i64 (i : Int), .int .i64 (j : Int)] 53)) := Bx.at _ rfl
            have D4 : Below wi.heap.size wi (wi.alloc (.cells #[.int .i64 (i : Int), .int .i64 (j : Int)] 53)) := (Below.refl _ _).alloc (Nat.le_refl _) _
            go_region_held3 (fun W9 => (W9.cell? ⟨W.heap.size, 0, none⟩ = some (.int .i64 f) ∧ W9.cell? ⟨W.heap.size, 1, none⟩ = some (.int .i64 (p : Int)) ∧ W9.cell? ⟨W.heap.size, 2, none⟩ = some (.int .i64 B) ∧ W9.cell? ⟨W.heap.size, 3, none⟩ = some (.int .i64 (q : Int)) ∧ W9.cell? ⟨W.heap.size, 4, none⟩ = some (.slice (some ⟨g, 0, none⟩) n cap)) ∧ (W9.cell? ⟨(W.heap.size + 1), 0, none⟩ = some (.int .i64 a) ∧ W9.cell? ⟨(W.heap.size + 1), 1, none⟩ = some (.int .i64 b) ∧ W9.cell? ⟨(W.heap.size + 1), 2, none⟩ = some (.int .i64 c) ∧ W9.cell? ⟨(W.heap.size + 1), 3, none⟩ = some (.int .i64 d) ∧ W9.cell? ⟨(W.heap.size + 1), 4, none⟩ = some (.int .i64 x) ∧ W9.cell? ⟨(W.heap.size + 1), 5, none⟩ = some (.int .i64 y)) ∧ (W9.cell? ⟨wi.heap.size, 0, none⟩ = some (.int .i64 (i : Int)) ∧ W9.cell? ⟨wi.heap.size, 1, none⟩ = some (.int .i64 (j : Int)))) ((refine And.intro (Bx.cells5 ?_) (And.intro (Bx.cells6 ?_) (Bx.cells2 ?_))) <;> (repeat (first | with_reducible assumption | with_reducible exact Bx.at _ rfl | with_reducible refine Bx.drew ?_ | with_reducible refine Bx.alloc ?_ _ | with_reducible refine Bx.call ?_ (by with_reducible assumption) | with_reducible refine BX.drew ?_ | with_reducible refine BX.alloc ?_ _ | with_reducible refine BX.call ?_ (by with_reducible assumption))))
              (first
                | (go_at_call 125; with_reducible refine (HAP.out _).mono ?_; rintro e w5 ⟨rfl, hb5⟩; have P5 : Bx W.heap.size [.int .i64 f, .int .i64 (p : Int), .int .i64 B, .int .i64 (q : Int), .slice (some ⟨g, 0, none⟩) n cap] w5 := (by repeat (first | with_reducible assumption | with_reducible exact Bx.at _ rfl | with_reducible refine Bx.drew ?_ | with_reducible refine Bx.alloc ?_ _ | with_reducible refine Bx.call ?_ (by with_reducible assumption) | with_reducible refine BX.drew ?_ | with_reducible refine BX.alloc ?_ _ | with_reducible refine BX.call ?_ (by with_reducible assumption))); have M5 : Bx (W.heap.size + 1) [.int .i64 a, .int .i64 b, .int .i64 c, .int .i64 d, .int .i64 x, .int .i64 y] w5 := (by repeat (first | with_reducible assumption | with_reducible exact Bx.at _ rfl | with_reducible refine Bx.drew ?_ | with_reducible refine Bx.alloc ?_ _ | with_reducible refine Bx.call ?_ (by with_reducible assumption) | with_reducible refine BX.drew ?_ | with_reducible refine BX.alloc ?_ _ | with_reducible refine BX.call ?_ (by with_reducible assumption))); have V5 : Bx wi.heap.size [.int .i64 (i : Int), .int .i64 (j : Int)] w5 := (by repeat (first | with_reducible assumption | with_reducible exact Bx.at _ rfl | with_reducible refine Bx.drew ?_ | with_reducible refine Bx.alloc ?_ _ | with_reducible refine Bx.call ?_ (by with_reducible assumption) | with_reducible refine BX.drew ?_ | with_reducible refine BX.alloc ?_ _ | with_reducible refine BX.call ?_ (by with_reducible assumption))); have R5 : BX (W.heap.size + 1 + 1) [.int .i64 0, .int .i64 0] w5 := (by repeat (first | with_reducible assumption | with_reducible exact Bx.at _ rfl | with_reducible refine Bx.drew ?_ | with_reducible refine Bx.alloc ?_ _ | with_reducible refine Bx.call ?_ (by with_reducible assumption) | with_reducible refine BX.drew ?_ | with_reducible refine BX.alloc ?_ _ | with_reducible refine BX.call ?_ (by with_reducible assumption))); have F5 : BX (W.heap.size + 1 + 1 + 1) [.int .i64 0, .int .i64 0] w5 := (by repeat (first | with_reducible assumption | with_reducible exact Bx.at _ rfl | with_reducible refine Bx.drew ?_ | with_reducible refine Bx.alloc ?_ _ | with_reducible refine Bx.call ?_ (by with_reducible assumption) | with_reducible refine BX.drew ?_ | with_reducible refine BX.alloc ?_ _ | with_reducible refine BX.call ?_ (by with_reducible assumption))); have D5 : Below wi.heap.size wi w5 := (by repeat (first | with_reducible assumption | with_reducible exact Below.refl _ _ | with_reducible refine Below.drew ?_ | with_reducible refine Below.alloc ?_ (by first | omega | (simp <;> omega)) _ | with_reducible refine Below.setCell ?_ (by first | omega | (dsimp only; omega)) _ | with_reducible refine bstep ?_ (by with_reducible assumption))))
                | (go_at_call 124; with_reducible refine (HA1.out _ (by repeat (first | with_reducible assumption | with_reducible exact Below.refl _ _ | with_reducible refine Below.drew ?_ | with_reducible refine Below.alloc ?_ (by first | omega | (simp <;> omega)) _ | with_reducible refine Below.setCell ?_ (by first | omega | (dsimp only; omega)) _ | with_reducible refine bstep ?_ (by with_reducible assumption)))).mono ?_; rintro e w6 ⟨rfl, hb6⟩; have P6 : Bx W.heap.size [.int .i64 f, .int .i64 (p : Int), .int .i64 B, .int .i64 (q : Int), .slice (some ⟨g, 0, none⟩) n cap] w6 := (by repeat (first | with_reducible assumption | with_reducible exact Bx.at _ rfl | with_reducible refine Bx.drew ?_ | with_reducible refine Bx.alloc ?_ _ | with_reducible refine Bx.call ?_ (by with_reducible assumption) | with_reducible refine BX.drew ?_ | with_reducible refine BX.alloc ?_ _ | with_reducible refine BX.call ?_ (by with_reducible assumption))); have M6 : Bx (W.heap.size + 1) [.int .i64 a, .int .i64 b, .int .i64 c, .int .i64 d, .int .i64 x, .int .i64 y] w6 := (by repeat (first | with_reducible assumption | with_reducible exact Bx.at _ rfl | with_reducible refine Bx.drew ?_ | with_reducible refine Bx.alloc ?_ _ | with_reducible refine Bx.call ?_ (by with_reducible assumption) | with_reducible refine BX.drew ?_ | with_reducible refine BX.alloc ?_ _ | with_reducible refine BX.call ?_ (by with_reducible assumption))); have V6 : Bx wi.heap.size [.int .i64 (i : Int), .int .i64 (j : Int)] w6 := (by repeat (first | with_reducible assumption | with_reducible exact Bx.at _ rfl | with_reducible refine Bx.drew ?_ | with_reducible refine Bx.alloc ?_ _ | with_reducible refine Bx.call ?_ (by with_reducible assumption) | with_reducible refine BX.drew ?_ | with_reducible refine BX.alloc ?_ _ | with_reducible refine BX.call ?_ (by with_reducible assumption))); have R6 : BX (W.heap.size + 1 + 1) [.int .i64 0, .int .i64 0] w6 := (by repeat (first | with_reducible assumption | with_reducible exact Bx.at _ rfl | with_reducible refine Bx.drew ?_ | with_reducible refine Bx.alloc ?_ _ | with_reducible refine Bx.call ?_ (by with_reducible assumption) | with_reducible refine BX.drew ?_ | with_reducible refine BX.alloc ?_ _ | with_reducible refine BX.call ?_ (by with_reducible assumption))); have F6 : BX (W.heap.size + 1 + 1 + 1) [.int .i64 0, .int .i64 0] w6 := (by repeat (first | with_reducible assumption | with_reducible exact Bx.at _ rfl | with_reducible refine Bx.drew ?_ | with_reducible refine Bx.alloc ?_ _ | with_reducible refine Bx.call ?_ (by with_reducible assumption) | with_reducible refine BX.drew ?_ | with_reducible refine BX.alloc ?_ _ | with_reducible refine BX.call ?_ (by with_reducible assumption))); have D6 : Below wi.heap.size wi w6 := (by repeat (first | with_reducible assumption | with_reducible exact Below.refl _ _ | with_reducible refine Below.drew ?_ | with_reducible refine Below.alloc ?_ (by first | omega | (simp <;> omega)) _ | with_reducible refine Below.setCell ?_ (by first | omega | (dsimp only; omega)) _ | with_reducible refine bstep ?_ (by with_reducible assumption))))
                | (go_at_call 124; with_reducible refine (HA0.out _ (by repeat (first | with_reducible assumption | with_reducible exact Below.refl _ _ | with_reducible refine Below.drew ?_ | with_reducible refine Below.alloc ?_ (by first | omega | (simp <;> omega)) _ | with_reducible refine Below.setCell ?_ (by first | omega | (dsimp only; omega)) _ | with_reducible refine bstep ?_ (by with_reducible assumption)))).mono ?_; rintro e w7 ⟨rfl, hb7⟩; have P7 : Bx W.heap.size [.int .i64 f, .int .i64 (p : Int), .int .i64 B, .int .i64 (q : Int), .slice (some ⟨g, 0, none⟩) n cap] w7 := (by repeat (first | with_reducible assumption | with_reducible exact Bx.at _ rfl | with_reducible refine Bx.drew ?_ | with_reducible refine Bx.alloc ?_ _ | with_reducible refine Bx.call ?_ (by with_reducible assumption) | with_reducible refine BX.drew ?_ | with_reducible refine BX.alloc ?_ _ | with_reducible refine BX.call ?_ (by with_reducible assumption))); have M7 : Bx (W.heap.size + 1) [.int .i64 a, .int .i64 b, .int .i64 c, .int .i64 d, .int .i64 x, .int .i64 y] w7 := (by repeat (first | with_reducible assumption | with_reducible exact Bx.at _ rfl | with_reducible refine Bx.drew ?_ | with_reducible refine Bx.alloc ?_ _ | with_reducible refine Bx.call ?_ (by with_reducible assumption) | with_reducible refine BX.drew ?_ | with_reducible refine BX.alloc ?_ _ | with_reducible refine BX.call ?_ (by with_reducible assumption))); have V7 : Bx wi.heap.size [.int .i64 (i : Int), .int .i64 (j : Int)] w7 := (by repeat (first | with_reducible assumption | with_reducible exact Bx.at _ rfl | with_reducible refine Bx.drew ?_ | with_reducible refine Bx.alloc ?_ _ | with_reducible refine Bx.call ?_ (by with_reducible assumption) | with_reducible refine BX.drew ?_ | with_reducible refine BX.alloc ?_ _ | with_reducible refine BX.call ?_ (by with_reducible assumption))); have R7 : BX (W.heap.size + 1 + 1) [.int .i64 0, .int .i64 0] w7 := (by repeat (first | with_reducible assumption | with_reducible exact Bx.at _ rfl | with_reducible refine Bx.drew ?_ | with_reducible refine Bx.alloc ?_ _ | with_reducible refine Bx.call ?_ (by with_reducible assumption) | with_reducible refine BX.drew ?_ | with_reducible refine BX.alloc ?_ _ | with_reducible refine BX.call ?_ (by with_reducible assumption))); have F7 : BX (W.heap.size + 1 + 1 + 1) [.int .i64 0, .int .i64 0] w7 := (by repeat (first | with_reducible assumption | with_reducible exact Bx.at _ rfl | with_reducible refine Bx.drew ?_ | with_reducible refine Bx.alloc ?_ _ | with_reducible refine Bx.call ?_ (by with_reducible assumption) | with_reducible refine BX.drew ?_ | with_reducible refine BX.alloc ?_ _ | with_reducible refine BX.call ?_ (by with_reducible assumption))); have D7 : Below wi.heap.size wi w7 := (by repeat (first | with_reducible assumption | with_reducible exact Below.refl _ _ | with_reducible refine Below.drew ?_ | with_reducible refine Below.alloc ?_ (by first | omega | (simp <;> omega)) _ | with_reducible refine Below.setCell ?_ (by first | omega | (dsimp only; omega)) _ | with_reducible refine bstep ?_ (by with_reducible assumption))); have v7c0 := V7.c0; have v7c1 := V7.c1; have v7l := V7.lt; have r7c0 := R7.c0; have r7c1 := R7.c1; have r7f0 := R7.f0; have r7f1 := R7.f1; have r7l := R7.lt; have f7c0 := F7.c0; have f7c1 := F7.c1; have f7f0 := F7.f0; have f7f1 := F7.f1; have f7l := F7.lt; have n23 : ¬ W.heap.size + 1 + 1 = W.heap.size + 1 + 1 + 1 := (by omega); have n32 : ¬ W.heap.size + 1 + 1 + 1 = W.heap.size + 1 + 1 := (by omega); have n3v : ¬ W.heap.size + 1 + 1 + 1 = wi.heap.size := (by have := F3.lt; omega); have nv3 : ¬ wi.heap.size = W.heap.size + 1 + 1 + 1 := (by have := F3.lt; omega)))
            all_goals
              have B7 := bstep B3 D7
              go_wp2
              (try rw [Exit.noGoto_ret])
              refine bodyPost_ret (v := .tuple #[.agg #[.int .i64 ((i : Int)), .int .i64 ((j : Int))], .bool true]) (by simp [results, Tryz.results81, go_sem, *]) rfl ⟨by rw [ER.out]; rfl, ?_⟩
              repeat (first | with_reducible exact Below.refl _ _ | with_reducible assumption | with_reducible refine Below.setCell ?_ (by first | omega | (dsimp only; omega) | (simp <;> omega)) _ | with_reducible refine Below.alloc ?_ (by first | omega | (simp <;> omega)) _ | with_reducible refine bstep ?_ (by with_reducible assumption) | with_reducible refine Below.drew ?_ | with_reducible refine below_drewN ?_ _)
        · obtain rfl : j = q := by omega
          have HC := Lib.hid (show ∀ v ∈ cellP j (i + 1), (brk (p : Int) B (j : Int) F a b c d x y) v = false from by rw [cellP_succ]; exact HALL2.out)
          have hB9 := hB.trans (hB3.mono hB.size)
          go_wp2
          go_roundw
          case rel => exact ⟨i + 1, rfl, by go_num, by omega, HC.out, hB9⟩
          case measure => first | (simp [intOf]; done) | (simp [intOf]; omega)
    · obtain rfl : i = p := by omega
      have ER := Lib.hid (show ro = none from HRO.out.trans (find_none HALL.out))
      go_wp2
      (try rw [Exit.noGoto_ret])
      refine bodyPost_ret (v := .tuple #[.agg #[.int .i64 0, .int .i64 0], .bool false]) (by simp [results, Tryz.results81, go_sem, *]) rfl ⟨by rw [ER.out]; rfl, ?_⟩
      repeat (first | with_reducible exact Below.refl _ _ | with_reducible assumption | with_reducible refine Below.setCell ?_ (by first | omega | (dsimp only; omega) | (simp <;> omega)) _ | with_reducible refine Below.alloc ?_ (by first | omega | (simp <;> omega)) _ | with_reducible refine bstep ?_ (by with_reducible assumption) | with_reducible refine Below.drew ?_ | with_reducible refine below_drewN ?_ _)
set_option maxRecDepth 100000 in
set_option maxHeartbeats 8000000 in
theorem broken_any {lo hi p q n : Nat} {f B : Int} {v : Value} {F : Nat → Int} {W : World} (h : PatI f p B q n F) (hv : SRow lo hi 1 v n F W) (a b c d x y : Int) (hl : limB a b c d = true) (hxy : vecB x y = true) :
    Calls Tryz.prog 40 #[.agg #[.int .i64 f, .int .i64 (p : Int), .int .i64 B, .int .i64 (q : Int), v], .agg #[.int .i64 a, .int .i64 b, .int .i64 c, .int .i64 d, .int .i64 x, .int .i64 y]] W fun e w' => e = .returned (.bool (!(kepM (p : Int) B (q : Int) F a b c d x y (cellP q p)))) ∧ Below W.heap.size W w' := by
  have R := Lib.hid hv
  have HH := Lib.hid h
  obtain ⟨hp1, hp2, hq1, hq2, hn64, hn1⟩ := h.bd
  obtain ⟨g, cap, rfl, hg, _, r⟩ := hv.irow hn1
  have hgs := hv.1
  have hgw : g < W.heap.size := by omega
  obtain ⟨ro, hro⟩ : ∃ z, z = witR (p : Int) B (q : Int) F a b c d x y (cellP q p) := ⟨_, rfl⟩
  have HW := Lib.hid (fun X (hX : Below W.heap.size W X) => (show Calls Tryz.prog 81 #[.agg #[.int .i64 f, .int .i64 (p : Int), .int .i64 B, .int .i64 (q : Int), .slice (some ⟨g, 0, none⟩) n cap], .agg #[.int .i64 a, .int .i64 b, .int .i64 c, .int .i64 d, .int .i64 x, .int .i64 y]] X (fun e w' => e = .returned (.tuple #[.agg #[.int .i64 ((witV ro).1), .int .i64 ((witV ro).2)], .bool ro.isSome]) ∧ Below X.heap.size X w') from by rw [hro]; exact witness_any HH.out (R.out.call hX) a b c d x y hl hxy))
  have HE := Lib.hid (show (!(kepM (p : Int) B (q : Int) F a b c d x y (cellP q p))) = ro.isSome from by rw [hro, wit_some])
  clear hv h hro hl hxy
  have P0 : Bx W.heap.size [.int .i64 f, .int .i64 (p : Int), .int .i64 B, .int .i64 (q : Int), .slice (some ⟨g, 0, none⟩) n cap] ((W.alloc (.cells #[.int .i64 f, .int .i64 (p : Int), .int .i64 B, .int .i64 (q : Int), .slice (some ⟨g, 0, none⟩) n cap] 35)).alloc (.cells #[.int .i64 a, .int .i64 b, .int .i64 c, .int .i64 d, .int .i64 x, .int .i64 y] 82)) := (Bx.at _ rfl).alloc _
  have M0 : Bx (W.heap.size + 1) [.int .i64 a, .int .i64 b, .int .i64 c, .int .i64 d, .int .i64 x, .int .i64 y] ((W.alloc (.cells #[.int .i64 f, .int .i64 (p : Int), .int .i64 B, .int .i64 (q : Int), .slice (some ⟨g, 0, none⟩) n cap] 35)).alloc (.cells #[.int .i64 a, .int .i64 b, .int .i64 c, .int .i64 d, .int .i64 x, .int .i64 y] 82)) := Bx.at _ (by simp)
  have B0 : Below W.heap.size W ((W.alloc (.cells #[.int .i64 f, .int .i64 (p : Int), .int .i64 B, .int .i64 (q : Int), .slice (some ⟨g, 0, none⟩) n cap] 35)).alloc (.cells #[.int .i64 a, .int .i64 b, .int .i64 c, .int .i64 d, .int .i64 x, .int .i64 y] 82)) := by repeat (first | with_reducible exact Below.refl _ _ | with_reducible assumption | with_reducible refine Below.setCell ?_ (by first | omega | (dsimp only; omega) | (simp <;> omega)) _ | with_reducible refine Below.alloc ?_ (by first | omega | (simp <;> omega)) _ | with_reducible refine bstep ?_ (by with_reducible assumption) | with_reducible refine Below.drew ?_ | with_reducible refine below_drewN ?_ _)
  obtain ⟨z0, z1, hzz⟩ : ∃ z0 z1, witV ro = (z0, z1) := ⟨_, _, rfl⟩
  rw [hzz] at HW
  dsimp only at HW
  go_enter Tryz.func40, Tryz.ntmps40
  have p0c0 := P0.c0
  have p0c1 := P0.c1
  have p0c2 := P0.c2
  have p0c3 := P0.c3
  have p0c4 := P0.c4
  have p0l := P0.lt
  have m0c0 := M0.c0
  have m0c1 := M0.c1
  have m0c2 := M0.c2
  have m0c3 := M0.c3
  have m0c4 := M0.c4
  have m0c5 := M0.c5
  have m0l := M0.lt
  go_wp2_with fail
  refine (HW.out _ B0).mono ?_
  rintro e w1 ⟨rfl, hb1⟩
  have B1 := bstep B0 hb1
  have z1z := B1.size
  clear P0 M0 B0 hb1 p0c0 p0c1 p0c2 p0c3 p0c4 m0c0 m0c1 m0c2 m0c3 m0c4 m0c5 p0l m0l
  go_wp2
  go_ret
  exact ⟨by rw [HE.out]; rfl, by repeat (first | with_reducible exact Below.refl _ _ | with_reducible assumption | with_reducible refine Below.setCell ?_ (by first | omega | (dsimp only; omega) | (simp <;> omega)) _ | with_reducible refine Below.alloc ?_ (by first | omega | (simp <;> omega)) _ | with_reducible refine bstep ?_ (by with_reducible assumption) | with_reducible refine Below.drew ?_ | with_reducible refine below_drewN ?_ _)⟩
end Go.Proofs.YtkfdaepnjdnnmaaGreatDoor
