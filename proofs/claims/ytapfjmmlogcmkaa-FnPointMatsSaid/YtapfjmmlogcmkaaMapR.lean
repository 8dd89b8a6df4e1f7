/-
  Contracts of chapter 4's MapLattice: the program's function and the model's have one and the same answer; the walk of its exact law. No condition.
-/
import Derived.Test.YtapfjmmlogcmkaaMapL
import Derived.Test.YtapfjmmlogcmkaaLat3
namespace Go.Proofs.Ytapfjmmlogcmkaa
open Go.RowKit
set_option linter.unusedSimpArgs false
set_option linter.unusedVariables false

def flB (f A B C : Int) : Bool := frB f && latB A B C
def flC (f A B C : Int) : Int := bif flB f A B C then 0 else 1
set_option maxHeartbeats 4000000 in
theorem l04Code_any (f A B C : Int) (w : World) :
    Calls Try.prog 40 #[.int .i64 f, .agg #[.int .i64 A, .int .i64 B, .int .i64 C]] w fun e w' => e = .returned (.int .i64 (flC f A B C)) ∧ Below w.heap.size w w' := by
  rcases h : frB f with _ | _
  · have E := Lib.hid (show flC f A B C = 1 by simp [flC, flB, h])
    go_enter Try.func40, Try.ntmps40
    go_wp2_with fail
    refine (specIsFrame_any _ _).mono ?_
    rintro e w1 ⟨rfl, rfl⟩
    rw [h]
    go_wp2
    go_ret
    exact ⟨ret_int E.out.symm, (Below.refl _ _).alloc (Nat.le_refl _) _⟩
  rcases hl : latB A B C with _ | _
  all_goals
    have E := Lib.hid (show flC f A B C = _ by simp only [flC, flB, h, hl, Bool.true_and]; rfl)
    go_enter Try.func40, Try.ntmps40
    go_wp2_with fail
    refine (specIsFrame_any _ _).mono ?_
    rintro e w1 ⟨rfl, rfl⟩
    rw [h]
    go_wp2_with fail
    refine (specIsLattice_any _ _ _ _).mono ?_
    rintro e w2 ⟨rfl, hb2⟩
    rw [hl]
    go_wp2
    go_ret
    exact ⟨ret_int E.out.symm, bstep ((Below.refl _ _).alloc (Nat.le_refl _) _) hb2⟩
def mapR (f a b c d A B C : Int) : Int × Int × Int × Int := bif flB f A B C then (bif pmB f a b c d then ((mapI A B C a b c d).1, (mapI A B C a b c d).2.1, (mapI A B C a b c d).2.2, 0) else (0, 0, 0, 2)) else (0, 0, 0, 1)
def mapT (f a b c d A B C : Int) : Value := latT (mapR f a b c d A B C)
theorem pm_keep {f a b c d : Int} (h : pmB f a b c d = true) : frB f = true ∧ matB a b c d = true ∧ keepB f a b c d = true := by
  simpa [pmB, and_assoc] using h
set_option maxHeartbeats 8000000 in
theorem implMap_any (f a b c d A B C : Int) (w : World) :
    Calls Try.prog 16 #[.int .i64 f, .agg #[.int .i64 a, .int .i64 b, .int .i64 c, .int .i64 d], .agg #[.int .i64 A, .int .i64 B, .int .i64 C]] w fun e w' => e = .returned (mapT f a b c d A B C) ∧ Below w.heap.size w w' := by
  have KM0 : Kq w.heap.size a b c d (((w.alloc (.cells #[.int .i64 a, .int .i64 b, .int .i64 c, .int .i64 d] 44)).alloc (.cells #[.int .i64 A, .int .i64 B, .int .i64 C] 25)).alloc (.cells #[.int .i64 0, .int .i64 0, .int .i64 0] 25)) := Kq.alloc (Kq.alloc (Kq.at _ rfl) _) _
  have KL0 : Kt (w.heap.size + 1) A B C (((w.alloc (.cells #[.int .i64 a, .int .i64 b, .int .i64 c, .int .i64 d] 44)).alloc (.cells #[.int .i64 A, .int .i64 B, .int .i64 C] 25)).alloc (.cells #[.int .i64 0, .int .i64 0, .int .i64 0] 25)) := Kt.alloc (Kt.at _ (by simp)) _
  have KR0 : KL (w.heap.size + 1 + 1) 0 0 0 (((w.alloc (.cells #[.int .i64 a, .int .i64 b, .int .i64 c, .int .i64 d] 44)).alloc (.cells #[.int .i64 A, .int .i64 B, .int .i64 C] 25)).alloc (.cells #[.int .i64 0, .int .i64 0, .int .i64 0] 25)) := KL.at _ (by simp)
  have BB0 : Below w.heap.size w (((w.alloc (.cells #[.int .i64 a, .int .i64 b, .int .i64 c, .int .i64 d] 44)).alloc (.cells #[.int .i64 A, .int .i64 B, .int .i64 C] 25)).alloc (.cells #[.int .i64 0, .int .i64 0, .int .i64 0] 25)) := by repeat (first | assumption | exact Below.refl _ _ | refine Below.setCell ?_ (by first | omega | (simp <;> omega)) _ | refine Below.alloc ?_ (by first | omega | (simp <;> omega)) _ | refine bstep ?_ (by assumption) | refine Below.drew ?_)
  rcases h : frB f with _ | _
  · have EA := Lib.hid (show mapT f a b c d A B C = .tuple #[.agg #[.int .i64 0, .int .i64 0, .int .i64 0], .int .i64 1] by simp [mapT, mapR, flB, h, latT])
    go_enter Try.func16, Try.ntmps16
    go_wp2_with fail
    refine (implIsFrame_any _ _).mono ?_
    rintro e w1 ⟨rfl, hb⟩
    have KM1 := KM0.call hb
    have KL1 := KL0.call hb
    have KR1 := KR0.call hb
    have BB1 := bstep BB0 hb
    clear KM0 KL0 KR0 BB0 hb
    obtain ⟨i0, i1, i2, i3, i4⟩ := id KM1
    obtain ⟨j0, j1, j2, j3⟩ := id KL1
    rw [h]
    obtain ⟨r0, r1, r2, r3, r4, r5, r6⟩ := id KR1
    go_wp2
    refine bodyPost_ret (v := .tuple #[.agg #[.int .i64 0, .int .i64 0, .int .i64 0], .int .i64 1]) (by simp [results, Try.results16, go_sem, r0, r1, r2, r3, r4, r5, r6]) rfl ⟨ret_val EA.out.symm, ?_⟩
    repeat (first | assumption | refine Below.setCell ?_ (by first | omega | (simp <;> omega)) _)
  rcases hl : latB A B C with _ | _
  · have EA := Lib.hid (show mapT f a b c d A B C = .tuple #[.agg #[.int .i64 0, .int .i64 0, .int .i64 0], .int .i64 1] by simp [mapT, mapR, flB, h, hl, latT])
    go_enter Try.func16, Try.ntmps16
    go_wp2_with fail
    refine (implIsFrame_any _ _).mono ?_
    rintro e w1 ⟨rfl, hb⟩
    have KM1 := KM0.call hb
    have KL1 := KL0.call hb
    have KR1 := KR0.call hb
    have BB1 := bstep BB0 hb
    clear KM0 KL0 KR0 BB0 hb
    obtain ⟨i0, i1, i2, i3, i4⟩ := id KM1
    obtain ⟨j0, j1, j2, j3⟩ := id KL1
    rw [h]
    go_wp2_with fail
    refine (isValidL_any _ _ _ _).mono ?_
    rintro e w2 ⟨rfl, hb⟩
    have KM2 := KM1.call hb
    have KL2 := KL1.call hb
    have KR2 := KR1.call hb
    have BB2 := bstep BB1 hb
    clear i0 i1 i2 i3 i4 j0 j1 j2 j3
    clear KM1 KL1 KR1 BB1 hb
    obtain ⟨i0, i1, i2, i3, i4⟩ := id KM2
    obtain ⟨j0, j1, j2, j3⟩ := id KL2
    rw [hl]
    obtain ⟨r0, r1, r2, r3, r4, r5, r6⟩ := id KR2
    go_wp2
    refine bodyPost_ret (v := .tuple #[.agg #[.int .i64 0, .int .i64 0, .int .i64 0], .int .i64 1]) (by simp [results, Try.results16, go_sem, r0, r1, r2, r3, r4, r5, r6]) rfl ⟨ret_val EA.out.symm, ?_⟩
    repeat (first | assumption | refine Below.setCell ?_ (by first | omega | (simp <;> omega)) _)
  rcases hp : pmB f a b c d with _ | _
  · have EA := Lib.hid (show mapT f a b c d A B C = .tuple #[.agg #[.int .i64 0, .int .i64 0, .int .i64 0], .int .i64 2] by simp [mapT, mapR, flB, h, hl, hp, latT])
    go_enter Try.func16, Try.ntmps16
    go_wp2_with fail
    refine (implIsFrame_any _ _).mono ?_
    rintro e w1 ⟨rfl, hb⟩
    have KM1 := KM0.call hb
    have KL1 := KL0.call hb
    have KR1 := KR0.call hb
    have BB1 := bstep BB0 hb
    clear KM0 KL0 KR0 BB0 hb
    obtain ⟨i0, i1, i2, i3, i4⟩ := id KM1
    obtain ⟨j0, j1, j2, j3⟩ := id KL1
    rw [h]
    go_wp2_with fail
    refine (isValidL_any _ _ _ _).mono ?_
    rintro e w2 ⟨rfl, hb⟩
    have KM2 := KM1.call hb
    have KL2 := KL1.call hb
    have KR2 := KR1.call hb
    have BB2 := bstep BB1 hb
    clear i0 i1 i2 i3 i4 j0 j1 j2 j3
    clear KM1 KL1 KR1 BB1 hb
    obtain ⟨i0, i1, i2, i3, i4⟩ := id KM2
    obtain ⟨j0, j1, j2, j3⟩ := id KL2
    rw [hl]
    go_wp2_with fail
    refine (implIsPoint_any _ _ _ _ _ _).mono ?_
    rintro e w3 ⟨rfl, hb⟩
    have KM3 := KM2.call hb
    have KL3 := KL2.call hb
    have KR3 := KR2.call hb
    have BB3 := bstep BB2 hb
    clear i0 i1 i2 i3 i4 j0 j1 j2 j3
    clear KM2 KL2 KR2 BB2 hb
    obtain ⟨i0, i1, i2, i3, i4⟩ := id KM3
    obtain ⟨j0, j1, j2, j3⟩ := id KL3
    rw [hp]
    obtain ⟨r0, r1, r2, r3, r4, r5, r6⟩ := id KR3
    go_wp2
    refine bodyPost_ret (v := .tuple #[.agg #[.int .i64 0, .int .i64 0, .int .i64 0], .int .i64 2]) (by simp [results, Try.results16, go_sem, r0, r1, r2, r3, r4, r5, r6]) rfl ⟨ret_val EA.out.symm, ?_⟩
    repeat (first | assumption | refine Below.setCell ?_ (by first | omega | (simp <;> omega)) _)
  · have EA := Lib.hid (show mapT f a b c d A B C = .tuple #[.agg #[.int .i64 ((mapI A B C a b c d).1), .int .i64 ((mapI A B C a b c d).2.1), .int .i64 ((mapI A B C a b c d).2.2)], .int .i64 0] by simp [mapT, mapR, flB, h, hl, hp, latT])
    obtain ⟨_, _, hk⟩ := pm_keep hp
    have hli := latB_iff.1 hl
    go_enter Try.func16, Try.ntmps16
    go_wp2_with fail
    refine (implIsFrame_any _ _).mono ?_
    rintro e w1 ⟨rfl, hb⟩
    have KM1 := KM0.call hb
    have KL1 := KL0.call hb
    have KR1 := KR0.call hb
    have BB1 := bstep BB0 hb
    clear KM0 KL0 KR0 BB0 hb
    obtain ⟨i0, i1, i2, i3, i4⟩ := id KM1
    obtain ⟨j0, j1, j2, j3⟩ := id KL1
    rw [h]
    go_wp2_with fail
    refine (isValidL_any _ _ _ _).mono ?_
    rintro e w2 ⟨rfl, hb⟩
    have KM2 := KM1.call hb
    have KL2 := KL1.call hb
    have KR2 := KR1.call hb
    have BB2 := bstep BB1 hb
    clear i0 i1 i2 i3 i4 j0 j1 j2 j3
    clear KM1 KL1 KR1 BB1 hb
    obtain ⟨i0, i1, i2, i3, i4⟩ := id KM2
    obtain ⟨j0, j1, j2, j3⟩ := id KL2
    rw [hl]
    go_wp2_with fail
    refine (implIsPoint_any _ _ _ _ _ _).mono ?_
    rintro e w3 ⟨rfl, hb⟩
    have KM3 := KM2.call hb
    have KL3 := KL2.call hb
    have KR3 := KR2.call hb
    have BB3 := bstep BB2 hb
    clear i0 i1 i2 i3 i4 j0 j1 j2 j3
    clear KM2 KL2 KR2 BB2 hb
    obtain ⟨i0, i1, i2, i3, i4⟩ := id KM3
    obtain ⟨j0, j1, j2, j3⟩ := id KL3
    rw [hp]
    have Zb := BB3.size
    go_wp2_with fail
    go_region_held3 (fun W => (W.cell? ⟨w.heap.size, 0, none⟩ = some (.int .i64 a) ∧ W.cell? ⟨w.heap.size, 1, none⟩ = some (.int .i64 b) ∧ W.cell? ⟨w.heap.size, 2, none⟩ = some (.int .i64 c) ∧ W.cell? ⟨w.heap.size, 3, none⟩ = some (.int .i64 d)) ∧ (W.cell? ⟨w.heap.size + 1, 0, none⟩ = some (.int .i64 A) ∧ W.cell? ⟨w.heap.size + 1, 1, none⟩ = some (.int .i64 B) ∧ W.cell? ⟨w.heap.size + 1, 2, none⟩ = some (.int .i64 C))) ((refine ⟨Kq.cells ?_, Kt.cells ?_⟩; (repeat (first | assumption | with_reducible refine Kq.alloc ?_ _ | with_reducible refine Kq.drew ?_ | with_reducible refine Kq.call ?_ (by assumption) | ((with_reducible refine Kq.far ?_ ?_); (first | omega | (dsimp only; omega))))); (repeat (first | assumption | with_reducible refine Kt.alloc ?_ _ | with_reducible refine Kt.drew ?_ | with_reducible refine Kt.call ?_ (by assumption) | ((with_reducible refine Kt.put ?_ ?_); (first | omega | (dsimp only; omega)))))))
      (first
        | (go_at_call 53; refine (matrixOf_any _ _ _ _ _).mono ?_; rintro e u1 ⟨rfl, hb1⟩; have Km1 : Kq w.heap.size a b c d u1 := (by repeat (first | assumption | with_reducible refine Kq.alloc ?_ _ | with_reducible refine Kq.drew ?_ | with_reducible refine Kq.call ?_ (by assumption) | ((with_reducible refine Kq.far ?_ ?_); (first | omega | (dsimp only; omega))))); have Kl1 : Kt (w.heap.size + 1) A B C u1 := (by repeat (first | assumption | with_reducible refine Kt.alloc ?_ _ | with_reducible refine Kt.drew ?_ | with_reducible refine Kt.call ?_ (by assumption) | ((with_reducible refine Kt.put ?_ ?_); (first | omega | (dsimp only; omega))))); have Kr1 : KL (w.heap.size + 1 + 1) 0 0 0 u1 := (by repeat (first | assumption | with_reducible refine KL.alloc ?_ _ | with_reducible refine KL.drew ?_ | with_reducible refine KL.call ?_ (by assumption))); have Bb1 : Below w.heap.size w u1 := (by repeat (first | assumption | exact Below.refl _ _ | refine Below.setCell ?_ (by first | omega | (simp <;> omega)) _ | refine Below.alloc ?_ (by first | omega | (simp <;> omega)) _ | refine bstep ?_ (by assumption) | refine Below.drew ?_)); have Zb1 := Bb1.size)
        | (go_at_call 47; refine (mapped_any f _ _ _ _ _ _ _ _ h hli hk).mono ?_; rintro e u2 ⟨rfl, hb2⟩; have Km2 : Kq w.heap.size a b c d u2 := (by repeat (first | assumption | with_reducible refine Kq.alloc ?_ _ | with_reducible refine Kq.drew ?_ | with_reducible refine Kq.call ?_ (by assumption) | ((with_reducible refine Kq.far ?_ ?_); (first | omega | (dsimp only; omega))))); have Kl2 : Kt (w.heap.size + 1) A B C u2 := (by repeat (first | assumption | with_reducible refine Kt.alloc ?_ _ | with_reducible refine Kt.drew ?_ | with_reducible refine Kt.call ?_ (by assumption) | ((with_reducible refine Kt.put ?_ ?_); (first | omega | (dsimp only; omega))))); have Kr2 : KL (w.heap.size + 1 + 1) 0 0 0 u2 := (by repeat (first | assumption | with_reducible refine KL.alloc ?_ _ | with_reducible refine KL.drew ?_ | with_reducible refine KL.call ?_ (by assumption))); have Bb2 : Below w.heap.size w u2 := (by repeat (first | assumption | exact Below.refl _ _ | refine Below.setCell ?_ (by first | omega | (simp <;> omega)) _ | refine Below.alloc ?_ (by first | omega | (simp <;> omega)) _ | refine bstep ?_ (by assumption) | refine Below.drew ?_)); have Zb2 := Bb2.size; obtain ⟨r0, r1, r2, r3, r4, r5, r6⟩ := id Kr2))
    all_goals
      go_wp2
      refine bodyPost_ret (v := .tuple #[.agg #[.int .i64 ((mapI A B C a b c d).1), .int .i64 ((mapI A B C a b c d).2.1), .int .i64 ((mapI A B C a b c d).2.2)], .int .i64 0]) (by simp [results, Try.results16, go_sem, r0, r1, r2, r3, r4, r5, r6]) rfl ⟨ret_val EA.out.symm, ?_⟩
      repeat (first | assumption | refine Below.setCell ?_ (by first | omega | (simp <;> omega)) _)
set_option maxHeartbeats 8000000 in
theorem specMap_any (f a b c d A B C : Int) (w : World) :
    Calls Try.prog 25 #[.int .i64 f, .agg #[.int .i64 a, .int .i64 b, .int .i64 c, .int .i64 d], .agg #[.int .i64 A, .int .i64 B, .int .i64 C]] w fun e w' => e = .returned (mapT f a b c d A B C) ∧ Below w.heap.size w w' := by
  have KM0 : Kq w.heap.size a b c d (((w.alloc (.cells #[.int .i64 a, .int .i64 b, .int .i64 c, .int .i64 d] 44)).alloc (.cells #[.int .i64 A, .int .i64 B, .int .i64 C] 25)).alloc (.cells #[.int .i64 0, .int .i64 0, .int .i64 0] 25)) := Kq.alloc (Kq.alloc (Kq.at _ rfl) _) _
  have KL0 : Kt (w.heap.size + 1) A B C (((w.alloc (.cells #[.int .i64 a, .int .i64 b, .int .i64 c, .int .i64 d] 44)).alloc (.cells #[.int .i64 A, .int .i64 B, .int .i64 C] 25)).alloc (.cells #[.int .i64 0, .int .i64 0, .int .i64 0] 25)) := Kt.alloc (Kt.at _ (by simp)) _
  have KR0 : KL (w.heap.size + 1 + 1) 0 0 0 (((w.alloc (.cells #[.int .i64 a, .int .i64 b, .int .i64 c, .int .i64 d] 44)).alloc (.cells #[.int .i64 A, .int .i64 B, .int .i64 C] 25)).alloc (.cells #[.int .i64 0, .int .i64 0, .int .i64 0] 25)) := KL.at _ (by simp)
  have BB0 : Below w.heap.size w (((w.alloc (.cells #[.int .i64 a, .int .i64 b, .int .i64 c, .int .i64 d] 44)).alloc (.cells #[.int .i64 A, .int .i64 B, .int .i64 C] 25)).alloc (.cells #[.int .i64 0, .int .i64 0, .int .i64 0] 25)) := by repeat (first | assumption | exact Below.refl _ _ | refine Below.setCell ?_ (by first | omega | (simp <;> omega)) _ | refine Below.alloc ?_ (by first | omega | (simp <;> omega)) _ | refine bstep ?_ (by assumption) | refine Below.drew ?_)
  rcases h : flB f A B C with _ | _
  · have EA := Lib.hid (show mapT f a b c d A B C = .tuple #[.agg #[.int .i64 0, .int .i64 0, .int .i64 0], .int .i64 1] by simp [mapT, mapR, h, latT])
    have EC : flC f A B C = 1 := by simp [flC, h]
    go_enter Try.func25, Try.ntmps25
    go_wp2_with fail
    refine (l04Code_any _ _ _ _ _).mono ?_
    rintro e w1 ⟨rfl, hb⟩
    have KM1 := KM0.call hb
    have KL1 := KL0.call hb
    have KR1 := KR0.call hb
    have BB1 := bstep BB0 hb
    clear KM0 KL0 KR0 BB0 hb
    obtain ⟨i0, i1, i2, i3, i4⟩ := id KM1
    obtain ⟨j0, j1, j2, j3⟩ := id KL1
    rw [EC]
    obtain ⟨r0, r1, r2, r3, r4, r5, r6⟩ := id KR1
    go_wp2
    refine bodyPost_ret (v := .tuple #[.agg #[.int .i64 0, .int .i64 0, .int .i64 0], .int .i64 1]) (by simp [results, Try.results25, go_sem, r0, r1, r2, r3, r4, r5, r6]) rfl ⟨ret_val EA.out.symm, ?_⟩
    repeat (first | assumption | refine Below.setCell ?_ (by first | omega | (simp <;> omega)) _)
  have EC : flC f A B C = 0 := by simp [flC, h]
  rcases hp : pmB f a b c d with _ | _
  · have EA := Lib.hid (show mapT f a b c d A B C = .tuple #[.agg #[.int .i64 0, .int .i64 0, .int .i64 0], .int .i64 2] by simp [mapT, mapR, h, hp, latT])
    go_enter Try.func25, Try.ntmps25
    go_wp2_with fail
    refine (l04Code_any _ _ _ _ _).mono ?_
    rintro e w1 ⟨rfl, hb⟩
    have KM1 := KM0.call hb
    have KL1 := KL0.call hb
    have KR1 := KR0.call hb
    have BB1 := bstep BB0 hb
    clear KM0 KL0 KR0 BB0 hb
    obtain ⟨i0, i1, i2, i3, i4⟩ := id KM1
    obtain ⟨j0, j1, j2, j3⟩ := id KL1
    rw [EC]
    go_wp2_with fail
    refine (specIsPoint_any _ _ _ _ _ _).mono ?_
    rintro e w2 ⟨rfl, hb⟩
    have KM2 := KM1.call hb
    have KL2 := KL1.call hb
    have KR2 := KR1.call hb
    have BB2 := bstep BB1 hb
    clear i0 i1 i2 i3 i4 j0 j1 j2 j3
    clear KM1 KL1 KR1 BB1 hb
    obtain ⟨i0, i1, i2, i3, i4⟩ := id KM2
    obtain ⟨j0, j1, j2, j3⟩ := id KL2
    rw [hp]
    obtain ⟨r0, r1, r2, r3, r4, r5, r6⟩ := id KR2
    go_wp2
    refine bodyPost_ret (v := .tuple #[.agg #[.int .i64 0, .int .i64 0, .int .i64 0], .int .i64 2]) (by simp [results, Try.results25, go_sem, r0, r1, r2, r3, r4, r5, r6]) rfl ⟨ret_val EA.out.symm, ?_⟩
    repeat (first | assumption | refine Below.setCell ?_ (by first | omega | (simp <;> omega)) _)
  · have EA := Lib.hid (show mapT f a b c d A B C = .tuple #[.agg #[.int .i64 ((mapI A B C a b c d).1), .int .i64 ((mapI A B C a b c d).2.1), .int .i64 ((mapI A B C a b c d).2.2)], .int .i64 0] by simp [mapT, mapR, h, hp, latT])
    obtain ⟨hf, _, hk⟩ := pm_keep hp
    have hli : latI A B C := latB_iff.1 (by simpa [flB, hf] using h)
    obtain ⟨_, _, hI, _⟩ := mapI_facts hf hli hk
    have ER : latT (limR ((mapI A B C a b c d).1, (mapI A B C a b c d).2.1, (mapI A B C a b c d).2.2)) = .tuple #[.agg #[.int .i64 ((mapI A B C a b c d).1), .int .i64 ((mapI A B C a b c d).2.1), .int .i64 ((mapI A B C a b c d).2.2)], .int .i64 0] := by simp [limR, latB_iff.2 hI, latT]
    clear hI
    go_enter Try.func25, Try.ntmps25
    go_wp2_with fail
    refine (l04Code_any _ _ _ _ _).mono ?_
    rintro e w1 ⟨rfl, hb⟩
    have KM1 := KM0.call hb
    have KL1 := KL0.call hb
    have KR1 := KR0.call hb
    have BB1 := bstep BB0 hb
    clear KM0 KL0 KR0 BB0 hb
    obtain ⟨i0, i1, i2, i3, i4⟩ := id KM1
    obtain ⟨j0, j1, j2, j3⟩ := id KL1
    rw [EC]
    go_wp2_with fail
    refine (specIsPoint_any _ _ _ _ _ _).mono ?_
    rintro e w2 ⟨rfl, hb⟩
    have KM2 := KM1.call hb
    have KL2 := KL1.call hb
    have KR2 := KR1.call hb
    have BB2 := bstep BB1 hb
    clear i0 i1 i2 i3 i4 j0 j1 j2 j3
    clear KM1 KL1 KR1 BB1 hb
    obtain ⟨i0, i1, i2, i3, i4⟩ := id KM2
    obtain ⟨j0, j1, j2, j3⟩ := id KL2
    rw [hp]
    go_wp2_with fail
    refine (l04Image_any f _ _ _ _ _ _ _ _ hf hli hk).mono ?_
    rintro e w3 ⟨rfl, hb⟩
    have KM3 := KM2.call hb
    have KL3 := KL2.call hb
    have KR3 := KR2.call hb
    have BB3 := bstep BB2 hb
    clear i0 i1 i2 i3 i4 j0 j1 j2 j3
    clear KM2 KL2 KR2 BB2 hb
    obtain ⟨i0, i1, i2, i3, i4⟩ := id KM3
    obtain ⟨j0, j1, j2, j3⟩ := id KL3
    go_wp2_with fail
    refine (resLat_any _ _ _ _).mono ?_
    rintro e w4 ⟨rfl, hb⟩
    have KM4 := KM3.call hb
    have KL4 := KL3.call hb
    have KR4 := KR3.call hb
    have BB4 := bstep BB3 hb
    clear i0 i1 i2 i3 i4 j0 j1 j2 j3
    clear KM3 KL3 KR3 BB3 hb
    obtain ⟨i0, i1, i2, i3, i4⟩ := id KM4
    obtain ⟨j0, j1, j2, j3⟩ := id KL4
    rw [ER]
    obtain ⟨r0, r1, r2, r3, r4, r5, r6⟩ := id KR4
    go_wp2
    refine bodyPost_ret (v := .tuple #[.agg #[.int .i64 ((mapI A B C a b c d).1), .int .i64 ((mapI A B C a b c d).2.1), .int .i64 ((mapI A B C a b c d).2.2)], .int .i64 0]) (by simp [results, Try.results25, go_sem, r0, r1, r2, r3, r4, r5, r6]) rfl ⟨ret_val EA.out.symm, ?_⟩
    repeat (first | assumption | refine Below.setCell ?_ (by first | omega | (simp <;> omega)) _)
end Go.Proofs.Ytapfjmmlogcmkaa
