/-
  ReducedBasis: program and model give the same, and the exact law's walk. No condition.
-/
import Derived.Test.YtapfjmmlogcmkaaRbS
namespace Go.Proofs.Ytapfjmmlogcmkaa
open Go.RowKit
set_option linter.unusedSimpArgs false
set_option linter.unusedVariables false

def rbR (f A B C : Int) : (Int × Int) × (Int × Int) × Int := bif flB f A B C then (rbU f A B C, rbV f A B C (rbU f A B C), 0) else ((0, 0), (0, 0), 1)
def RbAny (f A B C : Int) (w : World) (e : Ending) (w' : World) : Prop :=
  e = .returned (.tuple #[.agg #[.int .i64 ((rbR f A B C).1.1), .int .i64 ((rbR f A B C).1.2)], .agg #[.int .i64 ((rbR f A B C).2.1.1), .int .i64 ((rbR f A B C).2.1.2)], .int .i64 (rbR f A B C).2.2]) ∧ Below w.heap.size w w'
set_option maxRecDepth 100000 in
set_option maxHeartbeats 4000000 in
theorem implRb_any (f A B C : Int) (w : World) : Calls Try.prog 7 #[.int .i64 f, .agg #[.int .i64 A, .int .i64 B, .int .i64 C]] w (RbAny f A B C w) := by
  have Z0 : Kt w.heap.size A B C (((w.alloc (.cells #[.int .i64 A, .int .i64 B, .int .i64 C] 25)).alloc (.cells #[.int .i64 0, .int .i64 0] 29)).alloc (.cells #[.int .i64 0, .int .i64 0] 29)) := Kt.alloc (Kt.alloc (Kt.at _ rfl) _) _
  have U0 : KW (w.heap.size + 1) 0 0 (((w.alloc (.cells #[.int .i64 A, .int .i64 B, .int .i64 C] 25)).alloc (.cells #[.int .i64 0, .int .i64 0] 29)).alloc (.cells #[.int .i64 0, .int .i64 0] 29)) := KW.alloc (KW.at _ (by simp)) _
  have V0 : KW (w.heap.size + 1 + 1) 0 0 (((w.alloc (.cells #[.int .i64 A, .int .i64 B, .int .i64 C] 25)).alloc (.cells #[.int .i64 0, .int .i64 0] 29)).alloc (.cells #[.int .i64 0, .int .i64 0] 29)) := KW.at _ (by simp)
  have B0 : Below w.heap.size w (((w.alloc (.cells #[.int .i64 A, .int .i64 B, .int .i64 C] 25)).alloc (.cells #[.int .i64 0, .int .i64 0] 29)).alloc (.cells #[.int .i64 0, .int .i64 0] 29)) := (((Below.refl _ _).alloc (Nat.le_refl _) _).alloc (by simp) _).alloc (by simp <;> omega) _
  have n1 : ¬ (w.heap.size + 1 = w.heap.size + 1 + 1) := by omega
  have n2 : ¬ (w.heap.size + 1 + 1 = w.heap.size + 1) := by omega
  have fin : ∀ W, Below w.heap.size w W → Below w.heap.size w ((((W.setCell ⟨w.heap.size + 1, 0, none⟩ (.int .i64 0)).setCell ⟨w.heap.size + 1, 1, none⟩ (.int .i64 0)).setCell ⟨w.heap.size + 1 + 1, 0, none⟩ (.int .i64 0)).setCell ⟨w.heap.size + 1 + 1, 1, none⟩ (.int .i64 0)) := fun W h => Below.setCell (p := ⟨w.heap.size + 1 + 1, 1, none⟩) (Below.setCell (p := ⟨w.heap.size + 1 + 1, 0, none⟩) (Below.setCell (p := ⟨w.heap.size + 1, 1, none⟩) (Below.setCell (p := ⟨w.heap.size + 1, 0, none⟩) h (by dsimp only; omega) _) (by dsimp only; omega) _) (by dsimp only; omega) _) (by dsimp only; omega) _
  have FIN := Lib.hid fin
  clear fin
  rcases hf : frB f with _ | _
  · have E := Lib.hid (show rbR f A B C = ((0, 0), (0, 0), 1) by simp [rbR, flB, hf])
    go_enter Try.func7, Try.ntmps7
    go_wp2_with fail
    refine (planeOf_no _ _ hf).mono ?_
    rintro e w1 ⟨rfl, hb1⟩
    have B1 := bstep B0 hb1
    obtain ⟨a0, a1, a2, a3, a4⟩ := id (U0.call hb1)
    obtain ⟨b0, b1, b2, b3, b4⟩ := id (V0.call hb1)
    obtain ⟨k0, k1, k2, k3⟩ := id (Z0.call hb1)
    clear Z0 U0 V0 B0 hb1
    go_wp2_with fail
    first
      | go_region
      | skip
    all_goals
      go_wp2
      refine bodyPost_ret (v := .tuple #[.agg #[.int .i64 0, .int .i64 0], .agg #[.int .i64 0, .int .i64 0], .int .i64 1]) (by simp [results, Try.results7, go_sem, *]) rfl ?_
      refine ⟨by rw [E.out], ?_⟩
      first | exact FIN.out _ B1 | exact FIN.out _ (Below.drew B1) | exact FIN.out _ (Below.drew (Below.drew B1))
  rcases hl : latB A B C with _ | _
  · have E := Lib.hid (show rbR f A B C = ((0, 0), (0, 0), 1) by simp [rbR, flB, hf, hl])
    go_enter Try.func7, Try.ntmps7
    go_wp2_with fail
    refine (planeOf_yes _ _ hf).mono ?_
    rintro e w1 ⟨rfl, hb1⟩
    have B1 := bstep B0 hb1
    have U1 := U0.call hb1
    have V1 := V0.call hb1
    obtain ⟨k0, k1, k2, k3⟩ := id (Z0.call hb1)
    clear Z0 U0 V0 B0 hb1
    go_wp2_with fail
    refine (isValidL_any _ _ _ _).mono ?_
    rintro e w2 ⟨rfl, hb2⟩
    rw [hl]
    have B2 := bstep B1 hb2
    obtain ⟨a0, a1, a2, a3, a4⟩ := id (U1.call hb2)
    obtain ⟨b0, b1, b2, b3, b4⟩ := id (V1.call hb2)
    clear U1 V1 B1 hb2 k0 k1 k2 k3
    go_wp2_with fail
    first
      | go_region
      | skip
    all_goals
      go_wp2
      refine bodyPost_ret (v := .tuple #[.agg #[.int .i64 0, .int .i64 0], .agg #[.int .i64 0, .int .i64 0], .int .i64 1]) (by simp [results, Try.results7, go_sem, *]) rfl ?_
      refine ⟨by rw [E.out], ?_⟩
      first | exact FIN.out _ B2 | exact FIN.out _ (Below.drew B2) | exact FIN.out _ (Below.drew (Below.drew B2))
  · refine (implRb_good f A B C w hf hl).mono ?_
    rintro e w1 ⟨rfl, hb⟩
    have E : rbR f A B C = (rbU f A B C, rbV f A B C (rbU f A B C), 0) := by simp [rbR, flB, hf, hl]
    exact ⟨by rw [E], hb⟩
set_option maxRecDepth 100000 in
set_option maxHeartbeats 4000000 in
theorem specRb_any (f A B C : Int) (w : World) : Calls Try.prog 8 #[.int .i64 f, .agg #[.int .i64 A, .int .i64 B, .int .i64 C]] w (RbAny f A B C w) := by
  have Z0 : Kt w.heap.size A B C (((w.alloc (.cells #[.int .i64 A, .int .i64 B, .int .i64 C] 25)).alloc (.cells #[.int .i64 0, .int .i64 0] 29)).alloc (.cells #[.int .i64 0, .int .i64 0] 29)) := Kt.alloc (Kt.alloc (Kt.at _ rfl) _) _
  have U0 : KW (w.heap.size + 1) 0 0 (((w.alloc (.cells #[.int .i64 A, .int .i64 B, .int .i64 C] 25)).alloc (.cells #[.int .i64 0, .int .i64 0] 29)).alloc (.cells #[.int .i64 0, .int .i64 0] 29)) := KW.alloc (KW.at _ (by simp)) _
  have V0 : KW (w.heap.size + 1 + 1) 0 0 (((w.alloc (.cells #[.int .i64 A, .int .i64 B, .int .i64 C] 25)).alloc (.cells #[.int .i64 0, .int .i64 0] 29)).alloc (.cells #[.int .i64 0, .int .i64 0] 29)) := KW.at _ (by simp)
  have B0 : Below w.heap.size w (((w.alloc (.cells #[.int .i64 A, .int .i64 B, .int .i64 C] 25)).alloc (.cells #[.int .i64 0, .int .i64 0] 29)).alloc (.cells #[.int .i64 0, .int .i64 0] 29)) := (((Below.refl _ _).alloc (Nat.le_refl _) _).alloc (by simp) _).alloc (by simp <;> omega) _
  have n1 : ¬ (w.heap.size + 1 = w.heap.size + 1 + 1) := by omega
  have n2 : ¬ (w.heap.size + 1 + 1 = w.heap.size + 1) := by omega
  have fin : ∀ W, Below w.heap.size w W → Below w.heap.size w ((((W.setCell ⟨w.heap.size + 1, 0, none⟩ (.int .i64 0)).setCell ⟨w.heap.size + 1, 1, none⟩ (.int .i64 0)).setCell ⟨w.heap.size + 1 + 1, 0, none⟩ (.int .i64 0)).setCell ⟨w.heap.size + 1 + 1, 1, none⟩ (.int .i64 0)) := fun W h => Below.setCell (p := ⟨w.heap.size + 1 + 1, 1, none⟩) (Below.setCell (p := ⟨w.heap.size + 1 + 1, 0, none⟩) (Below.setCell (p := ⟨w.heap.size + 1, 1, none⟩) (Below.setCell (p := ⟨w.heap.size + 1, 0, none⟩) h (by dsimp only; omega) _) (by dsimp only; omega) _) (by dsimp only; omega) _) (by dsimp only; omega) _
  have FIN := Lib.hid fin
  clear fin
  rcases h : flB f A B C with _ | _
  · have E := Lib.hid (show rbR f A B C = ((0, 0), (0, 0), 1) by simp [rbR, h])
    have EC : flC f A B C = 1 := by simp [flC, h]
    go_enter Try.func8, Try.ntmps8
    go_wp2_with fail
    refine (l04Code_any _ _ _ _ _).mono ?_
    rintro e w1 ⟨rfl, hb1⟩
    rw [EC]
    have B1 := bstep B0 hb1
    obtain ⟨a0, a1, a2, a3, a4⟩ := id (U0.call hb1)
    obtain ⟨b0, b1, b2, b3, b4⟩ := id (V0.call hb1)
    clear Z0 U0 V0 B0 hb1
    go_wp2_with fail
    first
      | go_region
      | skip
    all_goals
      go_wp2
      refine bodyPost_ret (v := .tuple #[.agg #[.int .i64 0, .int .i64 0], .agg #[.int .i64 0, .int .i64 0], .int .i64 1]) (by simp [results, Try.results8, go_sem, *]) rfl ?_
      refine ⟨by rw [E.out], ?_⟩
      first | exact FIN.out _ B1 | exact FIN.out _ (Below.drew B1) | exact FIN.out _ (Below.drew (Below.drew B1))
  · have hfl : frB f = true ∧ latB A B C = true := by simpa [flB] using h
    refine (specRb_good f A B C w hfl.1 hfl.2).mono ?_
    rintro e w1 ⟨rfl, hb⟩
    have E : rbR f A B C = (rbU f A B C, rbV f A B C (rbU f A B C), 0) := by simp [rbR, h]
    exact ⟨by rw [E], hb⟩
end Go.Proofs.Ytapfjmmlogcmkaa
