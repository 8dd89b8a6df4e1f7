/-
  ReducedBasis: program and model give the same, and the exact law's walk. No condition.
-/
import Derived.Test.YtcdjkcmagfakfaaRbS
namespace Go.Proofs.Ytcdjkcmagfakfaa
open Go.RowKit
set_option linter.unusedSimpArgs false
set_option linter.unusedVariables false

def rbR (f A B C : Int) : (Int × Int) × (Int × Int) × Int := bif flB f A B C then (rbU f A B C, rbV f A B C (rbU f A B C), 0) else ((0, 0), (0, 0), 1)
def RbAny (f A B C : Int) (w : World) (e : Ending) (w' : World) : Prop :=
  e = .returned (.tuple #[.agg #[.int .i64 ((rbR f A B C).1.1), .int .i64 ((rbR f A B C).1.2)], .agg #[.int .i64 ((rbR f A B C).2.1.1), .int .i64 ((rbR f A B C).2.1.2)], .int .i64 (rbR f A B C).2.2]) ∧ Below w.heap.size w w'
set_option maxRecDepth 100000 in
set_option maxHeartbeats 4000000 in
theorem implRb_any (f A B C : Int) (w : World) : Calls Try.prog 17 #[.int .i64 f, .agg #[.int .i64 A, .int .i64 B, .int .i64 C]] w (RbAny f A B C w) := by
  have Z0 : Kt w.heap.size A B C (((w.alloc (.cells #[.int .i64 A, .int .i64 B, .int .i64 C] 25)).alloc (.cells #[.int .i64 0, .int .i64 0] 29)).alloc (.cells #[.int .i64 0, .int .i64 0] 29)) := Kt.alloc (Kt.alloc (Kt.at _ rfl) _) _
  have U0 : KW (w.heap.size + 1) 0 0 (((w.alloc (.cells #[.int .i64 A, .int .i64 B, .int .i64 C] 25)).alloc (.cells #[.int .i64 0, .int .i64 0] 29)).alloc (.cells #[.int .i64 0, .int .i64 0] 29)) := KW.alloc (KW.at _ (by simp)) _
  have V0 : KW (w.heap.size + 1 + 1) 0 0 (((w.alloc (.cells #[.int .i64 A, .int .i64 B, .int .i64 C] 25)).alloc (.cells #[.int .i64 0, .int .i64 0] 29)).alloc (.cells #[.int .i64 0, .int .i64 0] 29)) := KW.at _ (by simp)
  have B0 : Below w.heap.size w (((w.alloc (.cells #[.int .i64 A, .int .i64 B, .int .i64 C] 25)).alloc (.cells #[.int .i64 0, .int .i64 0] 29)).alloc (.cells #[.int .i64 0, .int .i64 0] 29)) := (((Below.refl _ _).alloc (Nat.le_refl _) _).alloc (by simp) _).alloc (by simp <;> omega) _
  have n1 : ¬ (w.heap.size + 1 = w.heap.size + 1 + 1) := by omega
  have n2 : ¬ (w.heap.size + 1 + 1 = w.heap.size + 1) := by omega
  have fin : ∀ W, Below w.heap.size w W → Below w.heap.size w ((((W.setCell ⟨w.heap.size + 1, 0, none⟩ (.int .i64 0)).setCell ⟨w.heap.size + 1, 1, none⟩ (.int .i64 0)).setCell ⟨w.heap.size + 1 + 1, 0, none⟩ (.int .i64 0)).setCell ⟨w.heap.size + 1 + 1, 1, none⟩ (.int .i64 0)) := fun W h => Below.setCell (p := ⟨w.heap.size + 1 + 1, 1, none⟩) (Below.setCell (p := ⟨w.heap.size + 1 + 1, 0, none⟩) (Below.setCell (p := ⟨w.heap.size + 1, 1, none⟩) (Below.setCell (p := ⟨w.heap.size + 1, 0, none⟩) h (by dsimp only; omega) _) (by dsimp only; omega) _) (by dsimp only; omega) _) (by dsimp only; omega) _
  have FIN := Lib.hid fin
  clear fin
  rcases hf : frB f with _ | _
  · have E := Lib.hid (show rbR f A B C = ((0, 0), (0, 0), 1) by simp [rbR, flB, hf])
    go_enter Try.func17, Try.ntmps17
    go_wp2_with fail
    refine (planeOf_no _ _ hf).mono ?_
    rintro e w1 ⟨rfl, hb1⟩
    have B1 := bstep B0 hb1
    obtain ⟨a0, a1, a2, a3, a4⟩ := id (U0.call hb1)
    obtain ⟨b0, b1, b2, b3, b4⟩ := id (V0.call hb1)
    obtain ⟨k0, k1, k2, k3⟩ := id (Z0.call hb1)
    clear Z0 U0 V0 B0 hb1
    go_wp2_with fail
    first
      | go_region
      | skip
    all_goals
      go_wp2
      refine bodyPost_ret (v := .tuple #[.agg #[.int .i64 0, .int .i64 0], .agg #[.int .i64 0, .int .i64 0], .int .i64 1]) (by simp [results, Try.results17, go_sem, *]) rfl ?_
      refine ⟨by rw [E.out], ?_⟩
      first | exact FIN.out _ B1 | exact FIN.out _ (Below.drew B1) | exact FIN.out _ (Below.drew (Below.drew B1))
  rcases hl : latB A B C with _ | _
  · have E := Lib.hid (show rbR f A B C = ((0, 0), (0, 0), 1) by simp [rbR, flB, hf, hl])
    go_enter Try.func17, Try.ntmps17
    go_wp2_with fail
    refine (planeOf_yes _ _ hf).mono ?_
    rintro e w1 ⟨rfl, hb1⟩
    have B1 := bstep B0 hb1
    have U1 := U0.call hb1
    have V1 := V0.call hb1
    obtain ⟨k0, k1, k2, k3⟩ := id (Z0.call hb1)
    clear Z0 U0 V0 B0 hb1
    go_wp2_with fail
    refine (isValidL_any _ _ _ _).mono ?_
    rintro e w2 ⟨rfl, hb2⟩
    rw [hl]
    have B2 := bstep B1 hb2
    obtain ⟨a0, a1, a2, a3, a4⟩ := id (U1.call hb2)
    obtain ⟨b0, b1, b2, b3, b4⟩ := id (V1.call hb2)
    clear U1 V1 B1 hb2 k0 k1 k2 k3
    go_wp2_with fail
    first
      | go_region
      | skip
    all_goals
      go_wp2
      refine bodyPost_ret (v := .tuple #[.agg #[.int .i64 0, .int .i64 0], .agg #[.int .i64 0, .int .i64 0], .int .i64 1]) (by simp [results, Try.results17, go_sem, *]) rfl ?_
      refine ⟨by rw [E.out], ?_⟩
      first | exact FIN.out _ B2 | exact FIN.out _ (Below.drew B2) | exact FIN.out _ (Below.drew (Below.drew B2))
  · refine (implRb_good f A B C w hf hl).mono ?_
    rintro e w1 ⟨rfl, hb⟩
    have E : rbR f A B C = (rbU f A B C, rbV f A B C (rbU f A B C), 0) := by simp [rbR, flB, hf, hl]
    exact ⟨by rw [E], hb⟩
set_option maxRecDepth 100000 in
set_option maxHeartbeats 4000000 in
theorem specRb_any (f A B C : Int) (w : World) : Calls Try.prog 18 #[.int .i64 f, .agg #[.int .i64 A, .int .i64 B, .int .i64 C]] w (RbAny f A B C w) := by
  have Z0 : Kt w.heap.size A B C (((w.alloc (.cells #[.int .i64 A, .int .i64 B, .int .i64 C] 25)).alloc (.cells #[.int .i64 0, .int .i64 0] 29)).alloc (.cells #[.int .i64 0, .int .i64 0] 29)) := Kt.alloc (Kt.alloc (Kt.at _ rfl) _) _
  have U0 : KW (w.heap.size + 1) 0 0 (((w.alloc (.cells #[.int .i64 A, .int .i64 B, .int .i64 C] 25)).alloc (.cells #[.int .i64 0, .int .i64 0] 29)).alloc (.cells #[.int .i64 0, .int .i64 0] 29)) := KW.alloc (KW.at _ (by simp)) _
  have V0 : KW (w.heap.size + 1 + 1) 0 0 (((w.alloc (.cells #[.int .i64 A, .int .i64 B, .int .i64 C] 25)).alloc (.cells #[.int .i64 0, .int .i64 0] 29)).alloc (.cells #[.int .i64 0, .int .i64 0] 29)) := KW.at _ (by simp)
  have B0 : Below w.heap.size w (((w.alloc (.cells #[.int .i64 A, .int .i64 B, .int .i64 C] 25)).alloc (.cells #[.int .i64 0, .int .i64 0] 29)).alloc (.cells #[.int .i64 0, .int .i64 0] 29)) := (((Below.refl _ _).alloc (Nat.le_refl _) _).alloc (by simp) _).alloc (by simp <;> omega) _
  have n1 : ¬ (w.heap.size + 1 = w.heap.size + 1 + 1) := by omega
  have n2 : ¬ (w.heap.size + 1 + 1 = w.heap.size + 1) := by omega
  have fin : ∀ W, Below w.heap.size w W → Below w.heap.size w ((((W.setCell ⟨w.heap.size + 1, 0, none⟩ (.int .i64 0)).setCell ⟨w.heap.size + 1, 1, none⟩ (.int .i64 0)).setCell ⟨w.heap.size + 1 + 1, 0, none⟩ (.int .i64 0)).setCell ⟨w.heap.size + 1 + 1, 1, none⟩ (.int .i64 0)) := fun W h => Below.setCell (p := ⟨w.heap.size + 1 + 1, 1, none⟩) (Below.setCell (p := ⟨w.heap.size + 1 + 1, 0, none⟩) (Below.setCell (p := ⟨w.heap.size + 1, 1, none⟩) (Below.setCell (p := ⟨w.heap.size + 1, 0, none⟩) h (by dsimp only; omega) _) (by dsimp only; omega) _) (by dsimp only; omega) _) (by dsimp only; omega) _
  have FIN := Lib.hid fin
  clear fin
  rcases h : flB f A B C with _ | _
  · have E := Lib.hid (show rbR f A B C = ((0, 0), (0, 0), 1) by simp [rbR, h])
    have EC : flC f A B C = 1 := by simp [flC, h]
    go_enter Try.func18, Try.ntmps18
    go_wp2_with fail
    refine (l04Code_any _ _ _ _ _).mono ?_
    rintro e w1 ⟨rfl, hb1⟩
    rw [EC]
    have B1 := bstep B0 hb1
    obtain ⟨a0, a1, a2, a3, a4⟩ := id (U0.call hb1)
    obtain ⟨b0, b1, b2, b3, b4⟩ := id (V0.call hb1)
    clear Z0 U0 V0 B0 hb1
    go_wp2_with fail
    first
      | go_region
      | skip
    all_goals
      go_wp2
      refine bodyPost_ret (v := .tuple #[.agg #[.int .i64 0, .int .i64 0], .agg #[.int .i64 0, .int .i64 0], .int .i64 1]) (by simp [results, Try.results18, go_sem, *]) rfl ?_
      refine ⟨by rw [E.out], ?_⟩
      first | exact FIN.out _ B1 | exact FIN.out _ (Below.drew B1) | exact FIN.out _ (Below.drew (Below.drew B1))
  · have hfl : frB f = true ∧ latB A B C = true := by simpa [flB] using h
    refine (specRb_good f A B C w hfl.1 hfl.2).mono ?_
    rintro e w1 ⟨rfl, hb⟩
    have E : rbR f A B C = (rbU f A B C, rbV f A B C (rbU f A B C), 0) := by simp [rbR, h]
    exact ⟨by rw [E], hb⟩
set_option maxRecDepth 100000 in
set_option maxHeartbeats 4000000 in
theorem walkRb (f A B C : Int) (w : World) : Calls Try.prog 13 #[.int .i64 f, .agg #[.int .i64 A, .int .i64 B, .int .i64 C]] w fun e w' => e = .returned (.bool true) ∧ Below w.heap.size w w' := by
  go_enter Try.func13, Try.ntmps13
  go_wp2_with fail
  refine (toLat_any _ _ _ _).mono ?_
  rintro e x1 ⟨rfl, c1⟩
  have Kx1 : Kt w.heap.size A B C x1 := Kt.call (Kt.at _ rfl) c1
  have C1 : Below w.heap.size w x1 := bstep ((Below.refl _ _).alloc (Nat.le_refl _) _) c1
  clear c1
  have IM : Hid (∀ W, Calls Try.prog 17 #[.int .i64 f, .agg #[.int .i64 A, .int .i64 B, .int .i64 C]] W fun e w' => e = .returned (.tuple #[.agg #[.int .i64 ((rbR f A B C).1.1), .int .i64 ((rbR f A B C).1.2)], .agg #[.int .i64 ((rbR f A B C).2.1.1), .int .i64 ((rbR f A B C).2.1.2)], .int .i64 (rbR f A B C).2.2]) ∧ Below W.heap.size W w') := Lib.hid (fun W => implRb_any f A B C W)
  go_wp2_with fail
  refine (specRb_any f A B C _).mono ?_
  rintro e w1 ⟨rfl, b1⟩
  have B1 := bstep C1 b1
  have K1 := Kx1.call b1
  clear Kx1 C1 b1
  generalize rbR f A B C = R at *
  obtain ⟨⟨r1, r2⟩, ⟨r3, r4⟩, r5⟩ := R
  simp only at IM
  have z1 := B1.size
  have P0 : KW w1.heap.size r1 r2 ((w1.alloc (.cells #[.int .i64 r1, .int .i64 r2] 29)).alloc (.cells #[.int .i64 r3, .int .i64 r4] 29)) := KW.alloc (KW.at _ rfl) _
  have Q0 : KW (w1.heap.size + 1) r3 r4 ((w1.alloc (.cells #[.int .i64 r1, .int .i64 r2] 29)).alloc (.cells #[.int .i64 r3, .int .i64 r4] 29)) := KW.at _ (by simp)
  have K2 := (K1.alloc (.cells #[.int .i64 r1, .int .i64 r2] 29)).alloc (.cells #[.int .i64 r3, .int .i64 r4] 29)
  have B2 : Below w.heap.size w ((w1.alloc (.cells #[.int .i64 r1, .int .i64 r2] 29)).alloc (.cells #[.int .i64 r3, .int .i64 r4] 29)) := (B1.alloc z1 _).alloc (by simp; omega) _
  obtain ⟨k0, k1, k2, k3⟩ := id K2
  clear K1 B1
  go_wp2_with fail
  refine (toLat_any _ _ _ _).mono ?_
  rintro e x2 ⟨rfl, c2⟩
  have P2 := P0.call c2
  have Q2 := Q0.call c2
  have B3 := bstep B2 c2
  clear P0 Q0 K2 B2 c2 k0 k1 k2 k3
  go_wp2_with fail
  refine (IM.out _).mono ?_
  rintro e w2 ⟨rfl, b2⟩
  have P3 := (P2.call b2).alloc (.cells #[.int .i64 r1, .int .i64 r2] 29) |>.alloc (.cells #[.int .i64 r3, .int .i64 r4] 29)
  have Q3 := (Q2.call b2).alloc (.cells #[.int .i64 r1, .int .i64 r2] 29) |>.alloc (.cells #[.int .i64 r3, .int .i64 r4] 29)
  have B4 := bstep B3 b2
  have z4 := B4.size
  have M3 : KW w2.heap.size r1 r2 ((w2.alloc (.cells #[.int .i64 r1, .int .i64 r2] 29)).alloc (.cells #[.int .i64 r3, .int .i64 r4] 29)) := KW.alloc (KW.at _ rfl) _
  have N3 : KW (w2.heap.size + 1) r3 r4 ((w2.alloc (.cells #[.int .i64 r1, .int .i64 r2] 29)).alloc (.cells #[.int .i64 r3, .int .i64 r4] 29)) := KW.at _ (by simp)
  have B5 : Below w.heap.size w ((w2.alloc (.cells #[.int .i64 r1, .int .i64 r2] 29)).alloc (.cells #[.int .i64 r3, .int .i64 r4] 29)) := (B4.alloc z4 _).alloc (by simp; omega) _
  clear P2 Q2 B3 b2 B4
  have e1 : eqB r1 r2 r1 r2 = true := by simp [eqB]
  have e2 : eqB r3 r4 r3 r4 = true := by simp [eqB]
  obtain ⟨a0, a1, a2, a3, a4⟩ := id P3
  obtain ⟨b0, b1, b2, b3, b4⟩ := id Q3
  obtain ⟨c0, c1, c2, c3, c4⟩ := id M3
  obtain ⟨d0, d1, d2, d3, d4⟩ := id N3
  go_wp2_with fail
  refine (eqVec_any _ _ _ _ _).mono ?_
  rintro e w5 ⟨rfl, f5⟩
  rw [e1]
  have P4 := P3.call f5
  have Q4 := Q3.call f5
  have M4 := M3.call f5
  have N4 := N3.call f5
  have B6 := bstep B5 f5
  clear P3 Q3 M3 N3 B5 f5 a0 a1 a2 a3 a4 b0 b1 b2 b3 b4 c0 c1 c2 c3 c4 d0 d1 d2 d3 d4
  obtain ⟨a0, a1, a2, a3, a4⟩ := id P4
  obtain ⟨b0, b1, b2, b3, b4⟩ := id Q4
  obtain ⟨c0, c1, c2, c3, c4⟩ := id M4
  obtain ⟨d0, d1, d2, d3, d4⟩ := id N4
  go_wp2_with fail
  refine (eqVec_any _ _ _ _ _).mono ?_
  rintro e w6 ⟨rfl, f6⟩
  rw [e2]
  have B7 := bstep B6 f6
  clear P4 Q4 M4 N4 B6 f6 a0 a1 a2 a3 a4 b0 b1 b2 b3 b4 c0 c1 c2 c3 c4 d0 d1 d2 d3 d4
  go_wp2
  go_ret
  exact ⟨rfl, B7⟩
end Go.Proofs.Ytcdjkcmagfakfaa
