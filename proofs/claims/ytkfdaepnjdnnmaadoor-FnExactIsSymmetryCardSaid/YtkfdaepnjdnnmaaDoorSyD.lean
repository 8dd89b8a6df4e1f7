/-
  The model's l10Code, IsSymmetry and WitnessAgainst. Condition: a slice that lies in a block of its own.
-/
import Derived.Test.YtkfdaepnjdnnmaaDoorSyC
namespace Go.Proofs.YtkfdaepnjdnnmaaDoor
open Go.RowKit
set_option linter.unusedSimpArgs false
set_option linter.unusedVariables false

theorem syA_zero {f A B C : Int} {n : Nat} {F : Nat → Int} {a b c d x y : Int} (h : (syA f A B C n F a b c d x y).2 = 0) : patB f A B C n F = true ∧ syS f A B C F a b c d x y = true ∧ (syA f A B C n F a b c d x y).1 = syW A B C F a b c d x y := by
  unfold syA at h ⊢
  rcases h1 : patB f A B C n F with _ | _
  · rw [h1] at h; simp at h
  · rcases h2 : syS f A B C F a b c d x y with _ | _
    · rw [h1, h2] at h; simp at h
    · simp
theorem find_take {br : V29 → Bool} {L : List V29} {k : Nat} (hk : k < L.length) (h : ∀ v ∈ L.take k, br v = false) (hb : br L[k] = true) : L.find? br = some L[k] := by
  rw [List.find?_eq_some_iff_append]
  refine ⟨hb, L.take k, L.drop (k + 1), ?_, fun v hv => by simp [h v hv]⟩
  rw [← List.drop_eq_getElem_cons hk, List.take_append_drop]
/- what l10Code answers -/
def CdP (f A B C : Int) (n : Nat) (F : Nat → Int) (a b c d x y : Int) (w : World) (e : Ending) (w' : World) : Prop :=
  ∃ (A' B' C' : Int) (ao' : Option Addr) (m' cap' : Nat), e = .returned (.tuple #[.agg #[.int .i64 f, .int .i64 A', .int .i64 B', .int .i64 C', .slice ao' m' cap'], .int .i64 (syA f A B C n F a b c d x y).2]) ∧
    ((syA f A B C n F a b c d x y).2 = 0 → ∃ (p' q' : Nat) (G' : Nat → Int), A' = (p' : Int) ∧ C' = (q' : Int) ∧ PatI f p' B' q' m' G' ∧ (syA f A B C n F a b c d x y).1 = witR (p' : Int) B' (q' : Int) G' a b c d x y (cellP q' p') ∧ (limB a b c d = true ∧ vecB x y = true) ∧ SRow w.heap.size w'.heap.size 1 (.slice ao' m' cap') m' G' w') ∧ Below w.heap.size w w'
set_option maxRecDepth 100000 in
set_option maxHeartbeats 16000000 in
theorem l10Code_any {lo hi n : Nat} {v : Value} {F : Nat → Int} {w : World} (f A B C a b c d x y : Int) (hv : SRow lo hi 1 v n F w) :
    Calls Tryd.prog 48 #[.agg #[.int .i64 f, .int .i64 A, .int .i64 B, .int .i64 C, v], .agg #[.int .i64 a, .int .i64 b, .int .i64 c, .int .i64 d, .int .i64 x, .int .i64 y]] w (CdP f A B C n F a b c d x y w) := by
  have R9 := Lib.hid hv
  obtain ⟨ao, cap, rfl⟩ := hv.slice
  clear hv
  have P0 : Bx w.heap.size [.int .i64 f, .int .i64 A, .int .i64 B, .int .i64 C, .slice ao n cap] (((w.alloc (.cells #[.int .i64 f, .int .i64 A, .int .i64 B, .int .i64 C, .slice ao n cap] 33)).alloc (.cells #[.int .i64 a, .int .i64 b, .int .i64 c, .int .i64 d, .int .i64 x, .int .i64 y] 51)).alloc (.cells #[.int .i64 0, .int .i64 0, .int .i64 0, .int .i64 0, .slice none 0 0] 33)) := ((Bx.at _ rfl).alloc _).alloc _
  have M0 : Bx (w.heap.size + 1) [.int .i64 a, .int .i64 b, .int .i64 c, .int .i64 d, .int .i64 x, .int .i64 y] (((w.alloc (.cells #[.int .i64 f, .int .i64 A, .int .i64 B, .int .i64 C, .slice ao n cap] 33)).alloc (.cells #[.int .i64 a, .int .i64 b, .int .i64 c, .int .i64 d, .int .i64 x, .int .i64 y] 51)).alloc (.cells #[.int .i64 0, .int .i64 0, .int .i64 0, .int .i64 0, .slice none 0 0] 33)) := (Bx.at _ (by simp)).alloc _
  have R0 : BX (w.heap.size + 1 + 1) [.int .i64 0, .int .i64 0, .int .i64 0, .int .i64 0, .slice none 0 0] (((w.alloc (.cells #[.int .i64 f, .int .i64 A, .int .i64 B, .int .i64 C, .slice ao n cap] 33)).alloc (.cells #[.int .i64 a, .int .i64 b, .int .i64 c, .int .i64 d, .int .i64 x, .int .i64 y] 51)).alloc (.cells #[.int .i64 0, .int .i64 0, .int .i64 0, .int .i64 0, .slice none 0 0] 33)) := BX.at _ (by simp)
  have B0 : Below w.heap.size w (((w.alloc (.cells #[.int .i64 f, .int .i64 A, .int .i64 B, .int .i64 C, .slice ao n cap] 33)).alloc (.cells #[.int .i64 a, .int .i64 b, .int .i64 c, .int .i64 d, .int .i64 x, .int .i64 y] 51)).alloc (.cells #[.int .i64 0, .int .i64 0, .int .i64 0, .int .i64 0, .slice none 0 0] 33)) := by repeat (first | with_reducible exact Below.refl _ _ | with_reducible assumption | with_reducible refine Below.setCell ?_ (by first | omega | (dsimp only; omega) | (simp <;> omega)) _ | with_reducible refine Below.alloc ?_ (by first | omega | (simp <;> omega)) _ | with_reducible refine bstep ?_ (by with_reducible assumption) | with_reducible refine Below.drew ?_ | with_reducible refine below_drewN ?_ _)
  rcases k1 : patB f A B C n F with _ | _
  · have EA := Lib.hid (show (syA f A B C n F a b c d x y).2 = 1 by simp [syA, *])
    go_enter Tryd.func48, Tryd.ntmps48
    go_wp2_with fail
    with_reducible refine (specIsPat_any f A B C (R9.out.call B0)).mono ?_
    rintro e w1 ⟨rfl, hb1⟩
    rw [k1]
    have P1 := P0.call hb1
    have M1 := M0.call hb1
    have R1 := R0.call hb1
    have B1 := bstep B0 hb1
    clear P0 M0 R0 B0 hb1
    have p1c0 := P1.c0
    have p1c1 := P1.c1
    have p1c2 := P1.c2
    have p1c3 := P1.c3
    have p1c4 := P1.c4
    have p1l := P1.lt
    have r1c0 := R1.c0
    have r1c1 := R1.c1
    have r1c2 := R1.c2
    have r1c3 := R1.c3
    have r1c4 := R1.c4
    have r1f0 := R1.f0
    have r1f1 := R1.f1
    have r1f2 := R1.f2
    have r1f3 := R1.f3
    have r1f4 := R1.f4
    have r1l := R1.lt
    go_wp2
    refine bodyPost_ret (v := .tuple #[.agg #[.int .i64 f, .int .i64 A, .int .i64 B, .int .i64 C, .slice ao n cap], .int .i64 1]) (by simp [results, Tryd.results48, go_sem, *]) rfl ⟨_, _, _, _, _, _, by rw [EA.out], (fun h => by (rw [EA.out] at h; cases h)), by repeat (first | with_reducible exact Below.refl _ _ | with_reducible assumption | with_reducible refine Below.setCell ?_ (by first | omega | (dsimp only; omega) | (simp <;> omega)) _ | with_reducible refine Below.alloc ?_ (by first | omega | (simp <;> omega)) _ | with_reducible refine bstep ?_ (by with_reducible assumption) | with_reducible refine Below.drew ?_ | with_reducible refine below_drewN ?_ _)⟩
  obtain ⟨l0, e0⟩ : ∃ z : Int, z = (leaP A B C F : Int) := ⟨_, rfl⟩
  obtain ⟨l1, e1⟩ : ∃ z : Int, z = (fulI A B C F).2.1 := ⟨_, rfl⟩
  obtain ⟨l2, e2⟩ : ∃ z : Int, z = (leaQ A B C F : Int) := ⟨_, rfl⟩
  obtain ⟨lm, em⟩ : ∃ z : Nat, z = leaP A B C F * leaQ A B C F := ⟨_, rfl⟩
  obtain ⟨lG, eG⟩ : ∃ z : Nat → Int, z = (onG A B C F (leaP A B C F) (leaQ A B C F)) := ⟨_, rfl⟩
  have HLE := Lib.hid (fun (X : World) (hX : Below w.heap.size w X) => (show Calls Tryd.prog 37 #[.agg #[.int .i64 f, .int .i64 A, .int .i64 B, .int .i64 C, .slice ao n cap]] X (fun e w' => ∃ v' : Value, e = .returned (.agg #[.int .i64 f, .int .i64 l0, .int .i64 l1, .int .i64 l2, v']) ∧ SRow X.heap.size w'.heap.size 1 v' lm lG w' ∧ Below X.heap.size X w') from by
    obtain ⟨p, q, rfl, rfl, hp⟩ := patB_of k1
    rw [e0, e1, e2, em, eG]
    exact l09Lean_any hp (fulI_at hp.lat).1 (fulI_at hp.lat).2 (R9.out.call hX)))
  rcases k2 : syS f A B C F a b c d x y with _ | _
  · have EA := Lib.hid (show (syA f A B C n F a b c d x y).2 = 2 by simp [syA, *])
    have k2' : suitB f l0 l1 l2 a b c d x y = false := by rw [e0, e1, e2]; exact k2
    clear e0 e1 e2 em eG k2
    go_enter Tryd.func48, Tryd.ntmps48
    go_wp2_with fail
    with_reducible refine (specIsPat_any f A B C (R9.out.call B0)).mono ?_
    rintro e w1 ⟨rfl, hb1⟩
    rw [k1]
    have P1 := P0.call hb1
    have M1 := M0.call hb1
    have R1 := R0.call hb1
    have B1 := bstep B0 hb1
    clear P0 M0 R0 B0 hb1
    have p1c0 := P1.c0
    have p1c1 := P1.c1
    have p1c2 := P1.c2
    have p1c3 := P1.c3
    have p1c4 := P1.c4
    have p1l := P1.lt
    go_wp2_with fail
    with_reducible refine (HLE.out _ B1).mono ?_
    rintro e w2 ⟨v2, rfl, r2, hb2⟩
    obtain ⟨ao2, cap2, rfl⟩ := r2.slice
    clear p1c0 p1c1 p1c2 p1c3 p1c4 p1l
    have y1 := B1.size
    have hw0 : w.heap.size + 3 ≤ w1.heap.size := by have := R1.lt; omega
    have P2 := P1.call hb2
    have M2 := M1.call hb2
    have R2 := R1.call hb2
    have B2 := bstep B1 hb2
    clear P1 M1 R1 B1 hb2
    have r3 := r2.call ((Below.refl _ _).alloc (Nat.le_refl _) (.cells #[.int .i64 f, .int .i64 l0, .int .i64 l1, .int .i64 l2, .slice ao2 lm cap2] 33))
    have P3 := P2.alloc (.cells #[.int .i64 f, .int .i64 l0, .int .i64 l1, .int .i64 l2, .slice ao2 lm cap2] 33)
    have M3 := M2.alloc (.cells #[.int .i64 f, .int .i64 l0, .int .i64 l1, .int .i64 l2, .slice ao2 lm cap2] 33)
    have R3 := R2.alloc (.cells #[.int .i64 f, .int .i64 l0, .int .i64 l1, .int .i64 l2, .slice ao2 lm cap2] 33)
    have B3 : Below w.heap.size w (w2.alloc (.cells #[.int .i64 f, .int .i64 l0, .int .i64 l1, .int .i64 l2, .slice ao2 lm cap2] 33)) := B2.alloc B2.size _
    have Q3 : Bx w2.heap.size [.int .i64 f, .int .i64 l0, .int .i64 l1, .int .i64 l2, .slice ao2 lm cap2] (w2.alloc (.cells #[.int .i64 f, .int .i64 l0, .int .i64 l1, .int .i64 l2, .slice ao2 lm cap2] 33)) := Bx.at _ rfl
    have p2c0 := P2.c0
    have p2c1 := P2.c1
    have p2c2 := P2.c2
    have p2c3 := P2.c3
    have p2c4 := P2.c4
    have p2l := P2.lt
    have m2c0 := M2.c0
    have m2c1 := M2.c1
    have m2c2 := M2.c2
    have m2c3 := M2.c3
    have m2c4 := M2.c4
    have m2c5 := M2.c5
    have m2l := M2.lt
    go_wp2_with fail
    with_reducible refine (specSuit_any f l0 l1 l2 a b c d x y _).mono ?_
    rintro e w4 ⟨rfl, hb4⟩
    rw [k2']
    have HR4 := Lib.hid ((r3.call hb4).low (lo' := w.heap.size + 3) hw0)
    have hq2 : ¬ w2.heap.size = w.heap.size + 1 + 1 := by have := R2.lt; omega
    have hq3 : ¬ w.heap.size + 1 + 1 = w2.heap.size := by have := R2.lt; omega
    have Q4 := Q3.call hb4
    clear Q3
    have P4 := P3.call hb4
    have M4 := M3.call hb4
    have R4 := R3.call hb4
    have B4 := bstep B3 hb4
    clear P3 M3 R3 B3 hb4
    clear p2c0 p2c1 p2c2 p2c3 p2c4 m2c0 m2c1 m2c2 m2c3 m2c4 m2c5 p2l m2l r2 r3 P2 M2 R2 B2
    have r4c0 := R4.c0
    have r4c1 := R4.c1
    have r4c2 := R4.c2
    have r4c3 := R4.c3
    have r4c4 := R4.c4
    have r4f0 := R4.f0
    have r4f1 := R4.f1
    have r4f2 := R4.f2
    have r4f3 := R4.f3
    have r4f4 := R4.f4
    have r4l := R4.lt
    have p4c0 := P4.c0
    have p4c1 := P4.c1
    have p4c2 := P4.c2
    have p4c3 := P4.c3
    have p4c4 := P4.c4
    have p4l := P4.lt
    go_wp2
    refine bodyPost_ret (v := .tuple #[.agg #[.int .i64 f, .int .i64 A, .int .i64 B, .int .i64 C, .slice ao n cap], .int .i64 2]) (by simp [results, Tryd.results48, go_sem, *]) rfl ⟨_, _, _, _, _, _, by rw [EA.out], (fun h => by (rw [EA.out] at h; cases h)), by repeat (first | with_reducible exact Below.refl _ _ | with_reducible assumption | with_reducible refine Below.setCell ?_ (by first | omega | (dsimp only; omega) | (simp <;> omega)) _ | with_reducible refine Below.alloc ?_ (by first | omega | (simp <;> omega)) _ | with_reducible refine bstep ?_ (by with_reducible assumption) | with_reducible refine Below.drew ?_ | with_reducible refine below_drewN ?_ _)⟩
  · have EA := Lib.hid (show (syA f A B C n F a b c d x y).2 = 0 by simp [syA, *])
    have k2' : suitB f l0 l1 l2 a b c d x y = true := by rw [e0, e1, e2]; exact k2
    have HPI := Lib.hid (show ∃ (p' q' : Nat) (G' : Nat → Int), l0 = (p' : Int) ∧ l2 = (q' : Int) ∧ lG = G' ∧ PatI f p' l1 q' lm G' ∧ (syA f A B C n F a b c d x y).1 = witR (p' : Int) l1 (q' : Int) G' a b c d x y (cellP q' p') from by
      have hz := syA_zero EA.out
      obtain ⟨p, q, rfl, rfl, hp⟩ := patB_of k1
      refine ⟨_, _, _, e0, e2, eG, ?_, ?_⟩
      · rw [e1, em]; exact lean_pat hp
      · rw [hz.2.2, e1]; rfl)
    have HBD := Lib.hid (suit_bd k2')
    clear e0 e1 e2 em eG k2
    go_enter Tryd.func48, Tryd.ntmps48
    go_wp2_with fail
    with_reducible refine (specIsPat_any f A B C (R9.out.call B0)).mono ?_
    rintro e w1 ⟨rfl, hb1⟩
    rw [k1]
    have P1 := P0.call hb1
    have M1 := M0.call hb1
    have R1 := R0.call hb1
    have B1 := bstep B0 hb1
    clear P0 M0 R0 B0 hb1
    have p1c0 := P1.c0
    have p1c1 := P1.c1
    have p1c2 := P1.c2
    have p1c3 := P1.c3
    have p1c4 := P1.c4
    have p1l := P1.lt
    go_wp2_with fail
    with_reducible refine (HLE.out _ B1).mono ?_
    rintro e w2 ⟨v2, rfl, r2, hb2⟩
    obtain ⟨ao2, cap2, rfl⟩ := r2.slice
    clear p1c0 p1c1 p1c2 p1c3 p1c4 p1l
    have y1 := B1.size
    have hw0 : w.heap.size + 3 ≤ w1.heap.size := by have := R1.lt; omega
    have P2 := P1.call hb2
    have M2 := M1.call hb2
    have R2 := R1.call hb2
    have B2 := bstep B1 hb2
    clear P1 M1 R1 B1 hb2
    have r3 := r2.call ((Below.refl _ _).alloc (Nat.le_refl _) (.cells #[.int .i64 f, .int .i64 l0, .int .i64 l1, .int .i64 l2, .slice ao2 lm cap2] 33))
    have P3 := P2.alloc (.cells #[.int .i64 f, .int .i64 l0, .int .i64 l1, .int .i64 l2, .slice ao2 lm cap2] 33)
    have M3 := M2.alloc (.cells #[.int .i64 f, .int .i64 l0, .int .i64 l1, .int .i64 l2, .slice ao2 lm cap2] 33)
    have R3 := R2.alloc (.cells #[.int .i64 f, .int .i64 l0, .int .i64 l1, .int .i64 l2, .slice ao2 lm cap2] 33)
    have B3 : Below w.heap.size w (w2.alloc (.cells #[.int .i64 f, .int .i64 l0, .int .i64 l1, .int .i64 l2, .slice ao2 lm cap2] 33)) := B2.alloc B2.size _
    have Q3 : Bx w2.heap.size [.int .i64 f, .int .i64 l0, .int .i64 l1, .int .i64 l2, .slice ao2 lm cap2] (w2.alloc (.cells #[.int .i64 f, .int .i64 l0, .int .i64 l1, .int .i64 l2, .slice ao2 lm cap2] 33)) := Bx.at _ rfl
    have p2c0 := P2.c0
    have p2c1 := P2.c1
    have p2c2 := P2.c2
    have p2c3 := P2.c3
    have p2c4 := P2.c4
    have p2l := P2.lt
    have m2c0 := M2.c0
    have m2c1 := M2.c1
    have m2c2 := M2.c2
    have m2c3 := M2.c3
    have m2c4 := M2.c4
    have m2c5 := M2.c5
    have m2l := M2.lt
    go_wp2_with fail
    with_reducible refine (specSuit_any f l0 l1 l2 a b c d x y _).mono ?_
    rintro e w4 ⟨rfl, hb4⟩
    rw [k2']
    have HR4 := Lib.hid ((r3.call hb4).low (lo' := w.heap.size + 3) hw0)
    have hq2 : ¬ w2.heap.size = w.heap.size + 1 + 1 := by have := R2.lt; omega
    have hq3 : ¬ w.heap.size + 1 + 1 = w2.heap.size := by have := R2.lt; omega
    have Q4 := Q3.call hb4
    clear Q3
    have P4 := P3.call hb4
    have M4 := M3.call hb4
    have R4 := R3.call hb4
    have B4 := bstep B3 hb4
    clear P3 M3 R3 B3 hb4
    clear p2c0 p2c1 p2c2 p2c3 p2c4 m2c0 m2c1 m2c2 m2c3 m2c4 m2c5 p2l m2l r2 r3 P2 M2 R2 B2
    have r4c0 := R4.c0
    have r4c1 := R4.c1
    have r4c2 := R4.c2
    have r4c3 := R4.c3
    have r4c4 := R4.c4
    have r4f0 := R4.f0
    have r4f1 := R4.f1
    have r4f2 := R4.f2
    have r4f3 := R4.f3
    have r4f4 := R4.f4
    have r4l := R4.lt
    have q4c0 := Q4.c0
    have q4c1 := Q4.c1
    have q4c2 := Q4.c2
    have q4c3 := Q4.c3
    have q4c4 := Q4.c4
    have q4l := Q4.lt
    go_wp2
    refine bodyPost_ret (v := .tuple #[.agg #[.int .i64 f, .int .i64 l0, .int .i64 l1, .int .i64 l2, .slice ao2 lm cap2], .int .i64 0]) (by simp [results, Tryd.results48, go_sem, *]) rfl ⟨_, _, _, _, _, _, by rw [EA.out], fun _ => ?_, by repeat (first | with_reducible exact Below.refl _ _ | with_reducible assumption | with_reducible refine Below.setCell ?_ (by first | omega | (dsimp only; omega) | (simp <;> omega)) _ | with_reducible refine Below.alloc ?_ (by first | omega | (simp <;> omega)) _ | with_reducible refine bstep ?_ (by with_reducible assumption) | with_reducible refine Below.drew ?_ | with_reducible refine below_drewN ?_ _)⟩
    obtain ⟨p', q', G', rfl, rfl, rfl, hpi, hwr⟩ := HPI.out
    refine ⟨p', q', lG, rfl, rfl, hpi, hwr, HBD.out, ?_⟩
    refine SRow.up (hi := w2.heap.size) (SRow.low (lo := w.heap.size + 3) ?_ (by omega))
    repeat (first | with_reducible exact HR4.out | with_reducible refine SRow.put (by first | omega | (dsimp only; omega)) _ ?_)
set_option maxRecDepth 100000 in
set_option maxHeartbeats 16000000 in
theorem specSym_any {lo hi n : Nat} {v : Value} {F : Nat → Int} {w : World} (f A B C a b c d x y : Int) (hv : SRow lo hi 1 v n F w) :
    Calls Tryd.prog 18 #[.agg #[.int .i64 f, .int .i64 A, .int .i64 B, .int .i64 C, v], .agg #[.int .i64 a, .int .i64 b, .int .i64 c, .int .i64 d, .int .i64 x, .int .i64 y]] w fun e w' => e = .returned (.tuple #[.bool (isB (syA f A B C n F a b c d x y)), .int .i64 (syA f A B C n F a b c d x y).2]) ∧ Below w.heap.size w w' := by
  have R9 := Lib.hid hv
  obtain ⟨ao, cap, rfl⟩ := hv.slice
  clear hv
  have P0 : Bx w.heap.size [.int .i64 f, .int .i64 A, .int .i64 B, .int .i64 C, .slice ao n cap] ((w.alloc (.cells #[.int .i64 f, .int .i64 A, .int .i64 B, .int .i64 C, .slice ao n cap] 33)).alloc (.cells #[.int .i64 a, .int .i64 b, .int .i64 c, .int .i64 d, .int .i64 x, .int .i64 y] 51)) := (Bx.at _ rfl).alloc _
  have M0 : Bx (w.heap.size + 1) [.int .i64 a, .int .i64 b, .int .i64 c, .int .i64 d, .int .i64 x, .int .i64 y] ((w.alloc (.cells #[.int .i64 f, .int .i64 A, .int .i64 B, .int .i64 C, .slice ao n cap] 33)).alloc (.cells #[.int .i64 a, .int .i64 b, .int .i64 c, .int .i64 d, .int .i64 x, .int .i64 y] 51)) := Bx.at _ (by simp)
  have B0 : Below w.heap.size w ((w.alloc (.cells #[.int .i64 f, .int .i64 A, .int .i64 B, .int .i64 C, .slice ao n cap] 33)).alloc (.cells #[.int .i64 a, .int .i64 b, .int .i64 c, .int .i64 d, .int .i64 x, .int .i64 y] 51)) := by repeat (first | with_reducible exact Below.refl _ _ | with_reducible assumption | with_reducible refine Below.setCell ?_ (by first | omega | (dsimp only; omega) | (simp <;> omega)) _ | with_reducible refine Below.alloc ?_ (by first | omega | (simp <;> omega)) _ | with_reducible refine bstep ?_ (by with_reducible assumption) | with_reducible refine Below.drew ?_ | with_reducible refine below_drewN ?_ _)
  obtain ⟨ro, rc, hr⟩ : ∃ ro rc, syA f A B C n F a b c d x y = (ro, rc) := ⟨_, _, rfl⟩
  have HR := Lib.hid hr
  rw [hr]
  clear hr
  by_cases h0 : rc = 0
  · subst h0
    go_enter Tryd.func18, Tryd.ntmps18
    go_wp2_with fail
    with_reducible refine (l10Code_any f A B C a b c d x y (R9.out.call B0)).mono ?_
    rintro e w1 hh
    unfold CdP at hh
    obtain ⟨A', B', C', ao1, m1, cap1, rfl, hok, hb1⟩ := hh
    have HOK := Lib.hid hok
    clear hok
    have B1 := bstep B0 hb1
    have M1 := M0.call hb1
    rw [HR.out] at HOK ⊢
    dsimp only at HOK ⊢
    clear P0 M0 B0 hb1
    obtain ⟨p', q', G', rfl, rfl, hpi, hwr, hbd, r1⟩ := HOK.out rfl
    have HB9 := Lib.hid (show isB (ro, 0) = kepM (p' : Int) B' (q' : Int) G' a b c d x y (cellP q' p') from by unfold isB; dsimp only; rw [hwr, wit_some]; simp)
    have R1 := Lib.hid r1
    have HPI := Lib.hid hpi
    have HBD := Lib.hid hbd
    clear HOK hpi hwr hbd r1
    have M2 := M1.alloc (.cells #[.int .i64 f, .int .i64 (p' : Int), .int .i64 B', .int .i64 (q' : Int), .slice ao1 m1 cap1] 33)
    have B2 : Below w.heap.size w (w1.alloc (.cells #[.int .i64 f, .int .i64 (p' : Int), .int .i64 B', .int .i64 (q' : Int), .slice ao1 m1 cap1] 33)) := B1.alloc B1.size _
    have RR := Lib.hid (R1.out.call ((Below.refl _ _).alloc (Nat.le_refl _) (.cells #[.int .i64 f, .int .i64 (p' : Int), .int .i64 B', .int .i64 (q' : Int), .slice ao1 m1 cap1] 33)))
    have n1 : ¬ w.heap.size + 1 = w1.heap.size := by have := M1.lt; omega
    have m1c0 := M1.c0
    have m1c1 := M1.c1
    have m1c2 := M1.c2
    have m1c3 := M1.c3
    have m1c4 := M1.c4
    have m1c5 := M1.c5
    have m1l := M1.lt
    go_wp2_with fail
    with_reducible refine (l09Keeps_any HPI.out RR.out a b c d x y HBD.out.1 HBD.out.2).mono ?_
    rintro e w3 ⟨rfl, hb3⟩
    have B3 := bstep B2 hb3
    go_wp2
    go_ret2
    exact ⟨by rw [HB9.out]; rfl, by repeat (first | with_reducible exact Below.refl _ _ | with_reducible assumption | with_reducible refine Below.setCell ?_ (by first | omega | (dsimp only; omega) | (simp <;> omega)) _ | with_reducible refine Below.alloc ?_ (by first | omega | (simp <;> omega)) _ | with_reducible refine bstep ?_ (by with_reducible assumption) | with_reducible refine Below.drew ?_ | with_reducible refine below_drewN ?_ _)⟩
  · have h9 : (rc == 0) = false := by simpa using h0
    have h7 : (rc != 0) = true := by simpa using h0
    have h8 : isB (ro, rc) = false := by simp [isB, h9]
    rw [h8]
    clear h8
    go_enter Tryd.func18, Tryd.ntmps18
    go_wp2_with fail
    with_reducible refine (l10Code_any f A B C a b c d x y (R9.out.call B0)).mono ?_
    rintro e w1 hh
    unfold CdP at hh
    obtain ⟨A', B', C', ao1, m1, cap1, rfl, hok, hb1⟩ := hh
    have HOK := Lib.hid hok
    clear hok
    have B1 := bstep B0 hb1
    have M1 := M0.call hb1
    rw [HR.out] at HOK ⊢
    dsimp only at HOK ⊢
    clear P0 M0 B0 hb1
    have y1 := B1.size
    go_wp2
    go_ret2
    exact ⟨rfl, by repeat (first | with_reducible exact Below.refl _ _ | with_reducible assumption | with_reducible refine Below.setCell ?_ (by first | omega | (dsimp only; omega) | (simp <;> omega)) _ | with_reducible refine Below.alloc ?_ (by first | omega | (simp <;> omega)) _ | with_reducible refine bstep ?_ (by with_reducible assumption) | with_reducible refine Below.drew ?_ | with_reducible refine below_drewN ?_ _)⟩
set_option maxRecDepth 100000 in
set_option maxHeartbeats 16000000 in
theorem specWit_any {lo hi n : Nat} {v : Value} {F : Nat → Int} {w : World} (f A B C a b c d x y : Int) (hv : SRow lo hi 1 v n F w) :
    Calls Tryd.prog 21 #[.agg #[.int .i64 f, .int .i64 A, .int .i64 B, .int .i64 C, v], .agg #[.int .i64 a, .int .i64 b, .int .i64 c, .int .i64 d, .int .i64 x, .int .i64 y]] w fun e w' => e = .returned (.tuple #[.agg #[.int .i64 ((waA (syA f A B C n F a b c d x y)).1.1), .int .i64 ((waA (syA f A B C n F a b c d x y)).1.2)], .int .i64 (waA (syA f A B C n F a b c d x y)).2]) ∧ Below w.heap.size w w' := by
  have R9 := Lib.hid hv
  obtain ⟨ao, cap, rfl⟩ := hv.slice
  clear hv
  have P0 : Bx w.heap.size [.int .i64 f, .int .i64 A, .int .i64 B, .int .i64 C, .slice ao n cap] (((w.alloc (.cells #[.int .i64 f, .int .i64 A, .int .i64 B, .int .i64 C, .slice ao n cap] 33)).alloc (.cells #[.int .i64 a, .int .i64 b, .int .i64 c, .int .i64 d, .int .i64 x, .int .i64 y] 51)).alloc (.cells #[.int .i64 0, .int .i64 0] 49)) := ((Bx.at _ rfl).alloc _).alloc _
  have M0 : Bx (w.heap.size + 1) [.int .i64 a, .int .i64 b, .int .i64 c, .int .i64 d, .int .i64 x, .int .i64 y] (((w.alloc (.cells #[.int .i64 f, .int .i64 A, .int .i64 B, .int .i64 C, .slice ao n cap] 33)).alloc (.cells #[.int .i64 a, .int .i64 b, .int .i64 c, .int .i64 d, .int .i64 x, .int .i64 y] 51)).alloc (.cells #[.int .i64 0, .int .i64 0] 49)) := (Bx.at _ (by simp)).alloc _
  have R0 : BX (w.heap.size + 1 + 1) [.int .i64 0, .int .i64 0] (((w.alloc (.cells #[.int .i64 f, .int .i64 A, .int .i64 B, .int .i64 C, .slice ao n cap] 33)).alloc (.cells #[.int .i64 a, .int .i64 b, .int .i64 c, .int .i64 d, .int .i64 x, .int .i64 y] 51)).alloc (.cells #[.int .i64 0, .int .i64 0] 49)) := BX.at _ (by simp)
  have B0 : Below w.heap.size w (((w.alloc (.cells #[.int .i64 f, .int .i64 A, .int .i64 B, .int .i64 C, .slice ao n cap] 33)).alloc (.cells #[.int .i64 a, .int .i64 b, .int .i64 c, .int .i64 d, .int .i64 x, .int .i64 y] 51)).alloc (.cells #[.int .i64 0, .int .i64 0] 49)) := by repeat (first | with_reducible exact Below.refl _ _ | with_reducible assumption | with_reducible refine Below.setCell ?_ (by first | omega | (dsimp only; omega) | (simp <;> omega)) _ | with_reducible refine Below.alloc ?_ (by first | omega | (simp <;> omega)) _ | with_reducible refine bstep ?_ (by with_reducible assumption) | with_reducible refine Below.drew ?_ | with_reducible refine below_drewN ?_ _)
  obtain ⟨ro, rc, hr⟩ : ∃ ro rc, syA f A B C n F a b c d x y = (ro, rc) := ⟨_, _, rfl⟩
  have HR := Lib.hid hr
  rw [hr]
  clear hr
  by_cases h0 : rc = 0
  · subst h0
    obtain ⟨wa, hwa⟩ : ∃ z, z = waA (ro, 0) := ⟨_, rfl⟩
    rw [← hwa]
    have HWA := Lib.hid hwa
    clear hwa
    go_enter Tryd.func21, Tryd.ntmps21
    go_wp2_with fail
    with_reducible refine (l10Code_any f A B C a b c d x y (R9.out.call B0)).mono ?_
    rintro e w1 hh
    unfold CdP at hh
    obtain ⟨A', B', C', ao1, m1, cap1, rfl, hok, hb1⟩ := hh
    have HOK := Lib.hid hok
    clear hok
    have B1 := bstep B0 hb1
    have M1 := M0.call hb1
    have R1 := R0.call hb1
    rw [HR.out] at HOK ⊢
    dsimp only at HOK ⊢
    clear P0 M0 B0 hb1
    obtain ⟨p', q', G', rfl, rfl, hpi, hwr, hbd, r1⟩ := HOK.out rfl
    have HRO := Lib.hid (show ro = (cellP q' p').find? (brk (p' : Int) B' (q' : Int) G' a b c d x y) from hwr)
    have RP := Lib.hid r1
    have HH := Lib.hid hpi
    have HBD := Lib.hid hbd
    obtain ⟨hp1, hp2, hq1, hq2, hn64, hn1⟩ := hpi.bd
    have hpq : p' * q' ≤ 64 := by rw [← hpi.nn]; exact hn64
    have hpq1 : 1 ≤ p' * q' := by rw [← hpi.nn]; exact hn1
    clear HOK hpi hwr hbd r1 R0
    obtain ⟨w2, hw2⟩ : ∃ w2, w1.alloc (.cells #[.int .i64 f, .int .i64 (p' : Int), .int .i64 B', .int .i64 (q' : Int), .slice ao1 m1 cap1] 33) = w2 := ⟨_, rfl⟩
    have P2 : Bx w1.heap.size [.int .i64 f, .int .i64 (p' : Int), .int .i64 B', .int .i64 (q' : Int), .slice ao1 m1 cap1] w2 := by rw [← hw2]; exact Bx.at _ rfl
    have M2 : Bx (w.heap.size + 1) [.int .i64 a, .int .i64 b, .int .i64 c, .int .i64 d, .int .i64 x, .int .i64 y] w2 := by rw [← hw2]; exact M1.alloc _
    have R2' : BX (w.heap.size + 1 + 1) [.int .i64 0, .int .i64 0] w2 := by rw [← hw2]; exact R1.alloc _
    have B2 : Below w.heap.size w w2 := by rw [← hw2]; exact B1.alloc B1.size _
    have RR : Below w1.heap.size w1 w2 := by rw [← hw2]; exact (Below.refl _ _).alloc (Nat.le_refl _) _
    have RQ := Lib.hid (RP.out.call RR)
    have p2c0 := P2.c0
    have p2c1 := P2.c1
    have p2c2 := P2.c2
    have p2c3 := P2.c3
    have p2c4 := P2.c4
    have p2l := P2.lt
    go_wp2_with fail
    (try rw [hw2])
    clear hw2 RP RR M1 R1 B1
    with_reducible refine (l03Cells_any p' q' B' _ hp2 hq2).mono ?_
    rintro e w3 ⟨vc, rfl, hown, hb3⟩
    have P3 := P2.call hb3
    have M3 := M2.call hb3
    have R2 := R2'.call hb3
    have B3 := bstep B2 hb3
    obtain ⟨N, hN⟩ : ∃ N, N = (cellP q' p').length := ⟨_, rfl⟩
    have hNpq : N = p' * q' := by rw [hN, cellP_len]
    have hN64 : N ≤ 64 := by omega
    rw [← hN] at hown
    have HSR := SRow.of hown (cells2_int _) (by omega)
    obtain ⟨gc, capc, rfl, hgc, hgc2, rc⟩ := HSR.irow (by omega)
    rw [hN] at rc
    have hNi : (N : Int) ≤ 64 := by omega
    have HN := Lib.hid hN
    have HGN := Lib.hid (show ¬ gc = w.heap.size + 1 + 1 from by have := R2'.lt; have := hown.lt gc rfl; omega)
    clear hown P2 M2 R2' hNpq hN HSR p2c0 p2c1 p2c2 p2c3 p2c4 p2l
    have hl1 := M3.lt
    go_wp2_with fail
    go_loopw [9] (fun s X => ∃ k : Nat, s = .int .i64 (k : Int) ∧ k ≤ N ∧ (∀ v ∈ (cellP q' p').take k, (brk (p' : Int) B' (q' : Int) G' a b c d x y) v = false) ∧ Below w3.heap.size w3 X) (fun s _ => N - (intOf s).toNat)
    case atStart => exact ⟨0, rfl, by omega, fun v hv => by simp at hv, Below.refl _ _⟩
    case round =>
      obtain ⟨k, rfl, hk, hall, hB⟩ := hrel
      have HALL := Lib.hid hall
      clear hall
      have hB2 := bstep B3 hB
      by_cases hk1 : k < N
      · have hk2 : (k : Int) < (N : Int) := by omega
        have hkc : k < (cellP q' p').length := by rw [← HN.out]; exact hk1
        obtain ⟨⟨x0, x1⟩, hxx⟩ : ∃ v, v = (cellP q' p')[k] := ⟨_, rfl⟩
        have KK := (rc.v29 k hkc).call hB
        rw [← hxx] at KK
        dsimp only at KK
        have hmem : ((x0, x1) : V29) ∈ cellP q' p' := by rw [hxx]; exact List.getElem_mem hkc
        have hbd := cellP_mem9 hmem
        dsimp only at hbd
        have hbd2 : (0 ≤ x0 ∧ x0 ≤ 64) ∧ (0 ≤ x1 ∧ x1 ≤ 64) := by have := HH.out.bd; omega
        have hla := limB_bd HBD.out.1
        have hvb := vecB_bd HBD.out.2
        have m1 := bd9 hla.1.1 hbd2.1
        have m2 := bd9 hla.1.2 hbd2.2
        have m3 := bd9 hla.2.1 hbd2.1
        have m4 := bd9 hla.2.2 hbd2.2
        have HPL := Lib.hid (fun X => l05Apply_any a b c d x y x0 x1 X HBD.out.1 HBD.out.2 (by simp [vecB]; omega))
        have MID := Lib.hid (show midI (a * x0 + b * x1 + x) ∧ midI (c * x0 + d * x1 + y) from ⟨by unfold midI; omega, by unfold midI; omega⟩)
        clear hla hvb m1 m2 m3 m4
        obtain ⟨X1, hX1⟩ : ∃ z, z = a * x0 + b * x1 + x := ⟨_, rfl⟩
        obtain ⟨X2, hX2⟩ : ∃ z, z = c * x0 + d * x1 + y := ⟨_, rfl⟩
        rw [← hX1, ← hX2] at HPL MID
        obtain ⟨b1, hb1⟩ : ∃ b, b = G' (numP (p' : Int) B' (q' : Int) X1 X2) := ⟨_, rfl⟩
        obtain ⟨b0, hb0⟩ : ∃ b, b = G' (numP (p' : Int) B' (q' : Int) x0 x1) := ⟨_, rfl⟩
        have RW := Lib.hid (RQ.out.call hb3)
        have HA1 := Lib.hid (fun X (hX : Below wr.heap.size wr X) => (show Calls Tryd.prog 53 #[.agg #[.int .i64 f, .int .i64 (p' : Int), .int .i64 B', .int .i64 (q' : Int), .slice ao1 m1 cap1], .agg #[.int .i64 X1, .int .i64 X2]] X (fun e w' => e = .returned (.int .i64 b1) ∧ Below X.heap.size X w') from by rw [hb1]; exact l09At_any HH.out (RW.out.call (hB.trans (hX.mono hB.size))) _ _ MID.out.1 MID.out.2))
        have HA0 := Lib.hid (fun X (hX : Below wr.heap.size wr X) => (show Calls Tryd.prog 53 #[.agg #[.int .i64 f, .int .i64 (p' : Int), .int .i64 B', .int .i64 (q' : Int), .slice ao1 m1 cap1], .agg #[.int .i64 x0, .int .i64 x1]] X (fun e w' => e = .returned (.int .i64 b0) ∧ Below X.heap.size X w') from by rw [hb0]; exact l09At_any HH.out (RW.out.call (hB.trans (hX.mono hB.size))) _ _ (by unfold midI; omega) (by unfold midI; omega)))
        have HBRK := Lib.hid (show (brk (p' : Int) B' (q' : Int) G' a b c d x y) (x0, x1) = !(b1 == b0) from by unfold brk; dsimp only; rw [← hX1, ← hX2, ← hb1, ← hb0])
        have P0 := (P3.call hB).drew
        have M0 := (M3.call hB).drew
        have K0 := KK.drew
        have D0 : Below wr.heap.size wr wr.drew := (Below.refl _ _).drew
        have HX := Lib.hid hxx
        have HK := Lib.hid hk1
        have HKC := Lib.hid hkc
        clear hmem hbd hbd2 hxx hX1 hX2 KK hb1 hb0
        by_cases hbb : b1 = b0
        · have HBF := Lib.hid (show (brk (p' : Int) B' (q' : Int) G' a b c d x y) (x0, x1) = false from by rw [HBRK.out, hbb]; simp)
          subst hbb
          go_wp2_with fail
          refine wp_region_held_drew (S := (fun W9 => (W9.cell? ⟨w1.heap.size, 0, none⟩ = some (.int .i64 f) ∧ W9.cell? ⟨w1.heap.size, 1, none⟩ = some (.int .i64 (p' : Int)) ∧ W9.cell? ⟨w1.heap.size, 2, none⟩ = some (.int .i64 B') ∧ W9.cell? ⟨w1.heap.size, 3, none⟩ = some (.int .i64 (q' : Int)) ∧ W9.cell? ⟨w1.heap.size, 4, none⟩ = some (.slice ao1 m1 cap1)) ∧ (W9.cell? ⟨(w.heap.size + 1), 0, none⟩ = some (.int .i64 a) ∧ W9.cell? ⟨(w.heap.size + 1), 1, none⟩ = some (.int .i64 b) ∧ W9.cell? ⟨(w.heap.size + 1), 2, none⟩ = some (.int .i64 c) ∧ W9.cell? ⟨(w.heap.size + 1), 3, none⟩ = some (.int .i64 d) ∧ W9.cell? ⟨(w.heap.size + 1), 4, none⟩ = some (.int .i64 x) ∧ W9.cell? ⟨(w.heap.size + 1), 5, none⟩ = some (.int .i64 y)) ∧ (W9.cell? ⟨gc, k * 2, none⟩ = some (.int .i64 x0) ∧ W9.cell? ⟨gc, k * 2 + 1, none⟩ = some (.int .i64 x1)))) (by kernel_rfl) ?_ (fun hHeld => ?_)
          · exact ⟨Bx.cells5 P0, Bx.cells6 M0, Ko2.cells K0⟩
          refine wpAnyH_take (i := 0) (v := ?_) (by (simp only [List.getElem?_toArray, List.getElem?_cons_succ, List.getElem?_cons_zero]); rfl) (by kernel_rfl) (by kernel_rfl) (by kernel_rfl) (by exact fun _ _ _ h => h) (Or.inl ⟨by rfl, ?_⟩) (by assumption) ?_
          rotate_left 1
          · (intro w hSw; (try dsimp only at hSw); go_simp) <;> with_reducible rfl
          (try simp only [Act.put, List.setIfInBounds_toArray, List.set_cons_zero, List.set_cons_succ])
          refine wpAnyH_take (i := 1) (v := ?_) (by (simp only [List.getElem?_toArray, List.getElem?_cons_succ, List.getElem?_cons_zero]); rfl) (by kernel_rfl) (by kernel_rfl) (by kernel_rfl) (by exact fun _ _ _ h => h) (Or.inl ⟨by rfl, ?_⟩) (by assumption) ?_
          rotate_left 1
          · (intro w hSw; (try dsimp only at hSw); go_simp) <;> with_reducible rfl
          (try simp only [Act.put, List.setIfInBounds_toArray, List.set_cons_zero, List.set_cons_succ])
          refine wpAnyH_take (i := 2) (v := ?_) (by (simp only [List.getElem?_toArray, List.getElem?_cons_succ, List.getElem?_cons_zero]); rfl) (by kernel_rfl) (by kernel_rfl) (by kernel_rfl) (by exact fun _ _ _ h => h) (Or.inl ⟨by rfl, ?_⟩) (by assumption) ?_
          rotate_left 1
          · (intro w hSw; (try dsimp only at hSw); go_simp) <;> with_reducible rfl
          (try simp only [Act.put, List.setIfInBounds_toArray, List.set_cons_zero, List.set_cons_succ])
          refine wpAnyH_take (i := 3) (v := ?_) (by (simp only [List.getElem?_toArray, List.getElem?_cons_succ, List.getElem?_cons_zero]); rfl) (by kernel_rfl) (by kernel_rfl) (by kernel_rfl) (by exact fun _ _ _ h => h) (Or.inl ⟨by rfl, ?_⟩) (by assumption) ?_
          rotate_left 1
          · (intro w hSw; (try dsimp only at hSw); go_simp) <;> with_reducible rfl
          (try simp only [Act.put, List.setIfInBounds_toArray, List.set_cons_zero, List.set_cons_succ])
          refine wpAnyH_take (i := 4) (v := ?_) (by (simp only [List.getElem?_toArray, List.getElem?_cons_succ, List.getElem?_cons_zero]); rfl) (by kernel_rfl) (by kernel_rfl) (by kernel_rfl) (by exact fun _ _ _ h => h) (Or.inl ⟨by rfl, ?_⟩) (by assumption) ?_
          rotate_left 1
          · (intro w hSw; (try dsimp only at hSw); go_simp) <;> with_reducible rfl
          (try simp only [Act.put, List.setIfInBounds_toArray, List.set_cons_zero, List.set_cons_succ])
          refine wpAnyH_take (i := 5) (v := ?_) (by (simp only [List.getElem?_toArray, List.getElem?_cons_succ, List.getElem?_cons_zero]); rfl) (by kernel_rfl) (by kernel_rfl) (by kernel_rfl) (by exact fun _ _ _ h => h) (Or.inl ⟨by rfl, ?_⟩) (by assumption) ?_
          rotate_left 1
          · (intro w hSw; (try dsimp only at hSw); go_simp) <;> with_reducible rfl
          (try simp only [Act.put, List.setIfInBounds_toArray, List.set_cons_zero, List.set_cons_succ])
          refine wpAnyH_take (i := 8) (v := ?_) (by (simp only [List.getElem?_toArray, List.getElem?_cons_succ, List.getElem?_cons_zero]); rfl) (by kernel_rfl) (by kernel_rfl) (by kernel_rfl) (by exact fun _ _ _ h => h) (Or.inl ⟨by rfl, ?_⟩) (by assumption) ?_
          rotate_left 1
          · (intro w hSw; (try dsimp only at hSw); go_simp) <;> with_reducible rfl
          (try simp only [Act.put, List.setIfInBounds_toArray, List.set_cons_zero, List.set_cons_succ])
          refine wpAnyH_take (i := 9) (v := ?_) (by (simp only [List.getElem?_toArray, List.getElem?_cons_succ, List.getElem?_cons_zero]); rfl) (by kernel_rfl) (by kernel_rfl) (by kernel_rfl) (by exact fun _ _ _ h => h) (Or.inl ⟨by rfl, ?_⟩) (by assumption) ?_
          rotate_left 1
          · (intro w hSw; (try dsimp only at hSw); go_simp) <;> with_reducible rfl
          (try simp only [Act.put, List.setIfInBounds_toArray, List.set_cons_zero, List.set_cons_succ])
          refine wpAnyH_take (i := 10) (v := ?_) (by (simp only [List.getElem?_toArray, List.getElem?_cons_succ, List.getElem?_cons_zero]); rfl) (by kernel_rfl) (by kernel_rfl) (by kernel_rfl) (by exact fun _ _ _ h => h) (Or.inl ⟨by rfl, ?_⟩) (by assumption) ?_
          rotate_left 1
          · (intro w hSw; (try dsimp only at hSw); go_simp) <;> with_reducible rfl
          (try simp only [Act.put, List.setIfInBounds_toArray, List.set_cons_zero, List.set_cons_succ])
          refine wpAnyH_take (i := 11) (v := ?_) (by (simp only [List.getElem?_toArray, List.getElem?_cons_succ, List.getElem?_cons_zero]); rfl) (by kernel_rfl) (by kernel_rfl) (by kernel_rfl) (by exact fun _ _ _ h => h) (Or.inl ⟨by rfl, ?_⟩) (by assumption) ?_
          rotate_left 1
          · (intro w hSw; (try dsimp only at hSw); go_simp) <;> with_reducible rfl
          (try simp only [Act.put, List.setIfInBounds_toArray, List.set_cons_zero, List.set_cons_succ])
          refine wpAnyH_take (i := 12) (v := ?_) (by (simp only [List.getElem?_toArray, List.getElem?_cons_succ, List.getElem?_cons_zero]); rfl) (by kernel_rfl) (by kernel_rfl) (by kernel_rfl) (by exact fun _ _ _ h => h) (Or.inl ⟨by rfl, ?_⟩) (by assumption) ?_
          rotate_left 1
          · (intro w hSw; (try dsimp only at hSw); go_simp) <;> with_reducible rfl
          (try simp only [Act.put, List.setIfInBounds_toArray, List.set_cons_zero, List.set_cons_succ])
          refine wpAnyH_ready (rs := [6]) (by kernel_rfl) (by simp) ?_
          refine AllReadyH.cons (o := _) (by (simp only [List.getElem?_toArray, List.getElem?_cons_succ, List.getElem?_cons_zero]); rfl) (fun K hK => ?_) AllReadyH.nil
          go_simp
          go_at_call 54
          with_reducible refine (HPL.out _).mono ?_
          rintro e u1 ⟨rfl, hb1⟩
          have P1 : Bx w1.heap.size [.int .i64 f, .int .i64 (p' : Int), .int .i64 B', .int .i64 (q' : Int), .slice ao1 m1 cap1] u1 := (by repeat (first | with_reducible assumption | with_reducible refine Bx.drew ?_ | with_reducible refine Ko2.drew ?_ | with_reducible refine Bx.call ?_ (by with_reducible assumption) | with_reducible refine Ko2.call ?_ (by with_reducible assumption)))
          have M1 : Bx (w.heap.size + 1) [.int .i64 a, .int .i64 b, .int .i64 c, .int .i64 d, .int .i64 x, .int .i64 y] u1 := (by repeat (first | with_reducible assumption | with_reducible refine Bx.drew ?_ | with_reducible refine Ko2.drew ?_ | with_reducible refine Bx.call ?_ (by with_reducible assumption) | with_reducible refine Ko2.call ?_ (by with_reducible assumption)))
          have K1 : Ko2 gc (k * 2) x0 x1 u1 := (by repeat (first | with_reducible assumption | with_reducible refine Bx.drew ?_ | with_reducible refine Ko2.drew ?_ | with_reducible refine Bx.call ?_ (by with_reducible assumption) | with_reducible refine Ko2.call ?_ (by with_reducible assumption)))
          have D1 : Below wr.heap.size wr u1 := (by repeat (first | with_reducible assumption | with_reducible refine Below.drew ?_ | with_reducible refine bstep ?_ (by with_reducible assumption)))
          clear hb1
          (try go_wp2_with fail)
          refine hK.out _ _ ?_ (fun hHeld => ?_)
          · (try dsimp only)
            exact ⟨Bx.cells5 P1, Bx.cells6 M1, Ko2.cells K1⟩
          clear hK K
          (try simp only [Act.put, List.setIfInBounds_toArray, List.set_cons_zero, List.set_cons_succ])
          refine wpAnyH_ready (rs := [7]) (by kernel_rfl) (by simp) ?_
          refine AllReadyH.cons (o := _) (by (simp only [List.getElem?_toArray, List.getElem?_cons_succ, List.getElem?_cons_zero]); rfl) (fun K hK => ?_) AllReadyH.nil
          go_simp
          go_at_call 53
          with_reducible refine (HA1.out _ D1).mono ?_
          rintro e u2 ⟨rfl, hb2⟩
          have P2 : Bx w1.heap.size [.int .i64 f, .int .i64 (p' : Int), .int .i64 B', .int .i64 (q' : Int), .slice ao1 m1 cap1] u2 := (by repeat (first | with_reducible assumption | with_reducible refine Bx.drew ?_ | with_reducible refine Ko2.drew ?_ | with_reducible refine Bx.call ?_ (by with_reducible assumption) | with_reducible refine Ko2.call ?_ (by with_reducible assumption)))
          have M2 : Bx (w.heap.size + 1) [.int .i64 a, .int .i64 b, .int .i64 c, .int .i64 d, .int .i64 x, .int .i64 y] u2 := (by repeat (first | with_reducible assumption | with_reducible refine Bx.drew ?_ | with_reducible refine Ko2.drew ?_ | with_reducible refine Bx.call ?_ (by with_reducible assumption) | with_reducible refine Ko2.call ?_ (by with_reducible assumption)))
          have K2 : Ko2 gc (k * 2) x0 x1 u2 := (by repeat (first | with_reducible assumption | with_reducible refine Bx.drew ?_ | with_reducible refine Ko2.drew ?_ | with_reducible refine Bx.call ?_ (by with_reducible assumption) | with_reducible refine Ko2.call ?_ (by with_reducible assumption)))
          have D2 : Below wr.heap.size wr u2 := (by repeat (first | with_reducible assumption | with_reducible refine Below.drew ?_ | with_reducible refine bstep ?_ (by with_reducible assumption)))
          clear hb2
          (try go_wp2_with fail)
          refine hK.out _ _ ?_ (fun hHeld => ?_)
          · (try dsimp only)
            exact ⟨Bx.cells5 P2, Bx.cells6 M2, Ko2.cells K2⟩
          clear hK K
          (try simp only [Act.put, List.setIfInBounds_toArray, List.set_cons_zero, List.set_cons_succ])
          refine wpAnyH_ready (rs := [13]) (by kernel_rfl) (by simp) ?_
          refine AllReadyH.cons (o := _) (by (simp only [List.getElem?_toArray, List.getElem?_cons_succ, List.getElem?_cons_zero]); rfl) (fun K hK => ?_) AllReadyH.nil
          go_simp
          go_at_call 53
          with_reducible refine (HA0.out _ D2).mono ?_
          rintro e u3 ⟨rfl, hb3⟩
          have P3 : Bx w1.heap.size [.int .i64 f, .int .i64 (p' : Int), .int .i64 B', .int .i64 (q' : Int), .slice ao1 m1 cap1] u3 := (by repeat (first | with_reducible assumption | with_reducible refine Bx.drew ?_ | with_reducible refine Ko2.drew ?_ | with_reducible refine Bx.call ?_ (by with_reducible assumption) | with_reducible refine Ko2.call ?_ (by with_reducible assumption)))
          have M3 : Bx (w.heap.size + 1) [.int .i64 a, .int .i64 b, .int .i64 c, .int .i64 d, .int .i64 x, .int .i64 y] u3 := (by repeat (first | with_reducible assumption | with_reducible refine Bx.drew ?_ | with_reducible refine Ko2.drew ?_ | with_reducible refine Bx.call ?_ (by with_reducible assumption) | with_reducible refine Ko2.call ?_ (by with_reducible assumption)))
          have K3 : Ko2 gc (k * 2) x0 x1 u3 := (by repeat (first | with_reducible assumption | with_reducible refine Bx.drew ?_ | with_reducible refine Ko2.drew ?_ | with_reducible refine Bx.call ?_ (by with_reducible assumption) | with_reducible refine Ko2.call ?_ (by with_reducible assumption)))
          have D3 : Below wr.heap.size wr u3 := (by repeat (first | with_reducible assumption | with_reducible refine Below.drew ?_ | with_reducible refine bstep ?_ (by with_reducible assumption)))
          clear hb3
          (try go_wp2_with fail)
          refine hK.out _ _ ?_ (fun hHeld => ?_)
          · (try dsimp only)
            exact ⟨Bx.cells5 P3, Bx.cells6 M3, Ko2.cells K3⟩
          clear hK K
          (try simp only [Act.put, List.setIfInBounds_toArray, List.set_cons_zero, List.set_cons_succ])
          refine wpAnyH_take (i := 14) (v := ?_) (by (simp only [List.getElem?_toArray, List.getElem?_cons_succ, List.getElem?_cons_zero]); rfl) (by kernel_rfl) (by kernel_rfl) (by kernel_rfl) (by exact fun _ _ _ h => h) (Or.inl ⟨by rfl, ?_⟩) (by assumption) ?_
          rotate_left 1
          · (intro w hSw; (try dsimp only at hSw); go_simp) <;> with_reducible rfl
          (try simp only [Act.put, List.setIfInBounds_toArray, List.set_cons_zero, List.set_cons_succ])
          refine wpAnyH_done (by kernel_rfl) ?_ _
          go_wp2
          go_roundw
          case rel =>
            refine ⟨k + 1, by go_num, by have := HK.out; omega, fun v hv => ?_, hB.trans (D3.mono hB.size)⟩
            rw [List.take_succ_eq_append_getElem HKC.out, List.mem_append] at hv
            rcases hv with hv | hv
            · exact HALL.out v hv
            · have e9 : v = (x0, x1) := by rw [HX.out]; simpa using hv
              rw [e9]; exact HBF.out
          case measure => first | (simp [intOf]; done) | (simp [intOf]; omega)
        · have HBT := Lib.hid (show (brk (p' : Int) B' (q' : Int) G' a b c d x y) (x0, x1) = true from by rw [HBRK.out]; simp [hbb])
          have ER := Lib.hid (show wa = ((x0, x1), 0) from by
            have h9 := find_take HKC.out HALL.out (by rw [← HX.out]; exact HBT.out)
            rw [HWA.out, HRO.out, h9, ← HX.out]
            rfl)
          have hbn : (b1 != b0) = true := by simp [hbb]
          go_wp2_with fail
          refine wp_region_held_drew (S := (fun W9 => (W9.cell? ⟨w1.heap.size, 0, none⟩ = some (.int .i64 f) ∧ W9.cell? ⟨w1.heap.size, 1, none⟩ = some (.int .i64 (p' : Int)) ∧ W9.cell? ⟨w1.heap.size, 2, none⟩ = some (.int .i64 B') ∧ W9.cell? ⟨w1.heap.size, 3, none⟩ = some (.int .i64 (q' : Int)) ∧ W9.cell? ⟨w1.heap.size, 4, none⟩ = some (.slice ao1 m1 cap1)) ∧ (W9.cell? ⟨(w.heap.size + 1), 0, none⟩ = some (.int .i64 a) ∧ W9.cell? ⟨(w.heap.size + 1), 1, none⟩ = some (.int .i64 b) ∧ W9.cell? ⟨(w.heap.size + 1), 2, none⟩ = some (.int .i64 c) ∧ W9.cell? ⟨(w.heap.size + 1), 3, none⟩ = some (.int .i64 d) ∧ W9.cell? ⟨(w.heap.size + 1), 4, none⟩ = some (.int .i64 x) ∧ W9.cell? ⟨(w.heap.size + 1), 5, none⟩ = some (.int .i64 y)) ∧ (W9.cell? ⟨gc, k * 2, none⟩ = some (.int .i64 x0) ∧ W9.cell? ⟨gc, k * 2 + 1, none⟩ = some (.int .i64 x1)))) (by kernel_rfl) ?_ (fun hHeld => ?_)
          · exact ⟨Bx.cells5 P0, Bx.cells6 M0, Ko2.cells K0⟩
          refine wpAnyH_take (i := 0) (v := ?_) (by (simp only [List.getElem?_toArray, List.getElem?_cons_succ, List.getElem?_cons_zero]); rfl) (by kernel_rfl) (by kernel_rfl) (by kernel_rfl) (by exact fun _ _ _ h => h) (Or.inl ⟨by rfl, ?_⟩) (by assumption) ?_
          rotate_left 1
          · (intro w hSw; (try dsimp only at hSw); go_simp) <;> with_reducible rfl
          (try simp only [Act.put, List.setIfInBounds_toArray, List.set_cons_zero, List.set_cons_succ])
          refine wpAnyH_take (i := 1) (v := ?_) (by (simp only [List.getElem?_toArray, List.getElem?_cons_succ, List.getElem?_cons_zero]); rfl) (by kernel_rfl) (by kernel_rfl) (by kernel_rfl) (by exact fun _ _ _ h => h) (Or.inl ⟨by rfl, ?_⟩) (by assumption) ?_
          rotate_left 1
          · (intro w hSw; (try dsimp only at hSw); go_simp) <;> with_reducible rfl
          (try simp only [Act.put, List.setIfInBounds_toArray, List.set_cons_zero, List.set_cons_succ])
          refine wpAnyH_take (i := 2) (v := ?_) (by (simp only [List.getElem?_toArray, List.getElem?_cons_succ, List.getElem?_cons_zero]); rfl) (by kernel_rfl) (by kernel_rfl) (by kernel_rfl) (by exact fun _ _ _ h => h) (Or.inl ⟨by rfl, ?_⟩) (by assumption) ?_
          rotate_left 1
          · (intro w hSw; (try dsimp only at hSw); go_simp) <;> with_reducible rfl
          (try simp only [Act.put, List.setIfInBounds_toArray, List.set_cons_zero, List.set_cons_succ])
          refine wpAnyH_take (i := 3) (v := ?_) (by (simp only [List.getElem?_toArray, List.getElem?_cons_succ, List.getElem?_cons_zero]); rfl) (by kernel_rfl) (by kernel_rfl) (by kernel_rfl) (by exact fun _ _ _ h => h) (Or.inl ⟨by rfl, ?_⟩) (by assumption) ?_
          rotate_left 1
          · (intro w hSw; (try dsimp only at hSw); go_simp) <;> with_reducible rfl
          (try simp only [Act.put, List.setIfInBounds_toArray, List.set_cons_zero, List.set_cons_succ])
          refine wpAnyH_take (i := 4) (v := ?_) (by (simp only [List.getElem?_toArray, List.getElem?_cons_succ, List.getElem?_cons_zero]); rfl) (by kernel_rfl) (by kernel_rfl) (by kernel_rfl) (by exact fun _ _ _ h => h) (Or.inl ⟨by rfl, ?_⟩) (by assumption) ?_
          rotate_left 1
          · (intro w hSw; (try dsimp only at hSw); go_simp) <;> with_reducible rfl
          (try simp only [Act.put, List.setIfInBounds_toArray, List.set_cons_zero, List.set_cons_succ])
          refine wpAnyH_take (i := 5) (v := ?_) (by (simp only [List.getElem?_toArray, List.getElem?_cons_succ, List.getElem?_cons_zero]); rfl) (by kernel_rfl) (by kernel_rfl) (by kernel_rfl) (by exact fun _ _ _ h => h) (Or.inl ⟨by rfl, ?_⟩) (by assumption) ?_
          rotate_left 1
          · (intro w hSw; (try dsimp only at hSw); go_simp) <;> with_reducible rfl
          (try simp only [Act.put, List.setIfInBounds_toArray, List.set_cons_zero, List.set_cons_succ])
          refine wpAnyH_take (i := 8) (v := ?_) (by (simp only [List.getElem?_toArray, List.getElem?_cons_succ, List.getElem?_cons_zero]); rfl) (by kernel_rfl) (by kernel_rfl) (by kernel_rfl) (by exact fun _ _ _ h => h) (Or.inl ⟨by rfl, ?_⟩) (by assumption) ?_
          rotate_left 1
          · (intro w hSw; (try dsimp only at hSw); go_simp) <;> with_reducible rfl
          (try simp only [Act.put, List.setIfInBounds_toArray, List.set_cons_zero, List.set_cons_succ])
          refine wpAnyH_take (i := 9) (v := ?_) (by (simp only [List.getElem?_toArray, List.getElem?_cons_succ, List.getElem?_cons_zero]); rfl) (by kernel_rfl) (by kernel_rfl) (by kernel_rfl) (by exact fun _ _ _ h => h) (Or.inl ⟨by rfl, ?_⟩) (by assumption) ?_
          rotate_left 1
          · (intro w hSw; (try dsimp only at hSw); go_simp) <;> with_reducible rfl
          (try simp only [Act.put, List.setIfInBounds_toArray, List.set_cons_zero, List.set_cons_succ])
          refine wpAnyH_take (i := 10) (v := ?_) (by (simp only [List.getElem?_toArray, List.getElem?_cons_succ, List.getElem?_cons_zero]); rfl) (by kernel_rfl) (by kernel_rfl) (by kernel_rfl) (by exact fun _ _ _ h => h) (Or.inl ⟨by rfl, ?_⟩) (by assumption) ?_
          rotate_left 1
          · (intro w hSw; (try dsimp only at hSw); go_simp) <;> with_reducible rfl
          (try simp only [Act.put, List.setIfInBounds_toArray, List.set_cons_zero, List.set_cons_succ])
          refine wpAnyH_take (i := 11) (v := ?_) (by (simp only [List.getElem?_toArray, List.getElem?_cons_succ, List.getElem?_cons_zero]); rfl) (by kernel_rfl) (by kernel_rfl) (by kernel_rfl) (by exact fun _ _ _ h => h) (Or.inl ⟨by rfl, ?_⟩) (by assumption) ?_
          rotate_left 1
          · (intro w hSw; (try dsimp only at hSw); go_simp) <;> with_reducible rfl
          (try simp only [Act.put, List.setIfInBounds_toArray, List.set_cons_zero, List.set_cons_succ])
          refine wpAnyH_take (i := 12) (v := ?_) (by (simp only [List.getElem?_toArray, List.getElem?_cons_succ, List.getElem?_cons_zero]); rfl) (by kernel_rfl) (by kernel_rfl) (by kernel_rfl) (by exact fun _ _ _ h => h) (Or.inl ⟨by rfl, ?_⟩) (by assumption) ?_
          rotate_left 1
          · (intro w hSw; (try dsimp only at hSw); go_simp) <;> with_reducible rfl
          (try simp only [Act.put, List.setIfInBounds_toArray, List.set_cons_zero, List.set_cons_succ])
          refine wpAnyH_ready (rs := [6]) (by kernel_rfl) (by simp) ?_
          refine AllReadyH.cons (o := _) (by (simp only [List.getElem?_toArray, List.getElem?_cons_succ, List.getElem?_cons_zero]); rfl) (fun K hK => ?_) AllReadyH.nil
          go_simp
          go_at_call 54
          with_reducible refine (HPL.out _).mono ?_
          rintro e u1 ⟨rfl, hb1⟩
          have P1 : Bx w1.heap.size [.int .i64 f, .int .i64 (p' : Int), .int .i64 B', .int .i64 (q' : Int), .slice ao1 m1 cap1] u1 := (by repeat (first | with_reducible assumption | with_reducible refine Bx.drew ?_ | with_reducible refine Ko2.drew ?_ | with_reducible refine Bx.call ?_ (by with_reducible assumption) | with_reducible refine Ko2.call ?_ (by with_reducible assumption)))
          have M1 : Bx (w.heap.size + 1) [.int .i64 a, .int .i64 b, .int .i64 c, .int .i64 d, .int .i64 x, .int .i64 y] u1 := (by repeat (first | with_reducible assumption | with_reducible refine Bx.drew ?_ | with_reducible refine Ko2.drew ?_ | with_reducible refine Bx.call ?_ (by with_reducible assumption) | with_reducible refine Ko2.call ?_ (by with_reducible assumption)))
          have K1 : Ko2 gc (k * 2) x0 x1 u1 := (by repeat (first | with_reducible assumption | with_reducible refine Bx.drew ?_ | with_reducible refine Ko2.drew ?_ | with_reducible refine Bx.call ?_ (by with_reducible assumption) | with_reducible refine Ko2.call ?_ (by with_reducible assumption)))
          have D1 : Below wr.heap.size wr u1 := (by repeat (first | with_reducible assumption | with_reducible refine Below.drew ?_ | with_reducible refine bstep ?_ (by with_reducible assumption)))
          clear hb1
          (try go_wp2_with fail)
          refine hK.out _ _ ?_ (fun hHeld => ?_)
          · (try dsimp only)
            exact ⟨Bx.cells5 P1, Bx.cells6 M1, Ko2.cells K1⟩
          clear hK K
          (try simp only [Act.put, List.setIfInBounds_toArray, List.set_cons_zero, List.set_cons_succ])
          refine wpAnyH_ready (rs := [7]) (by kernel_rfl) (by simp) ?_
          refine AllReadyH.cons (o := _) (by (simp only [List.getElem?_toArray, List.getElem?_cons_succ, List.getElem?_cons_zero]); rfl) (fun K hK => ?_) AllReadyH.nil
          go_simp
          go_at_call 53
          with_reducible refine (HA1.out _ D1).mono ?_
          rintro e u2 ⟨rfl, hb2⟩
          have P2 : Bx w1.heap.size [.int .i64 f, .int .i64 (p' : Int), .int .i64 B', .int .i64 (q' : Int), .slice ao1 m1 cap1] u2 := (by repeat (first | with_reducible assumption | with_reducible refine Bx.drew ?_ | with_reducible refine Ko2.drew ?_ | with_reducible refine Bx.call ?_ (by with_reducible assumption) | with_reducible refine Ko2.call ?_ (by with_reducible assumption)))
          have M2 : Bx (w.heap.size + 1) [.int .i64 a, .int .i64 b, .int .i64 c, .int .i64 d, .int .i64 x, .int .i64 y] u2 := (by repeat (first | with_reducible assumption | with_reducible refine Bx.drew ?_ | with_reducible refine Ko2.drew ?_ | with_reducible refine Bx.call ?_ (by with_reducible assumption) | with_reducible refine Ko2.call ?_ (by with_reducible assumption)))
          have K2 : Ko2 gc (k * 2) x0 x1 u2 := (by repeat (first | with_reducible assumption | with_reducible refine Bx.drew ?_ | with_reducible refine Ko2.drew ?_ | with_reducible refine Bx.call ?_ (by with_reducible assumption) | with_reducible refine Ko2.call ?_ (by with_reducible assumption)))
          have D2 : Below wr.heap.size wr u2 := (by repeat (first | with_reducible assumption | with_reducible refine Below.drew ?_ | with_reducible refine bstep ?_ (by with_reducible assumption)))
          clear hb2
          (try go_wp2_with fail)
          refine hK.out _ _ ?_ (fun hHeld => ?_)
          · (try dsimp only)
            exact ⟨Bx.cells5 P2, Bx.cells6 M2, Ko2.cells K2⟩
          clear hK K
          (try simp only [Act.put, List.setIfInBounds_toArray, List.set_cons_zero, List.set_cons_succ])
          refine wpAnyH_ready (rs := [13]) (by kernel_rfl) (by simp) ?_
          refine AllReadyH.cons (o := _) (by (simp only [List.getElem?_toArray, List.getElem?_cons_succ, List.getElem?_cons_zero]); rfl) (fun K hK => ?_) AllReadyH.nil
          go_simp
          go_at_call 53
          with_reducible refine (HA0.out _ D2).mono ?_
          rintro e u3 ⟨rfl, hb3⟩
          have P3 : Bx w1.heap.size [.int .i64 f, .int .i64 (p' : Int), .int .i64 B', .int .i64 (q' : Int), .slice ao1 m1 cap1] u3 := (by repeat (first | with_reducible assumption | with_reducible refine Bx.drew ?_ | with_reducible refine Ko2.drew ?_ | with_reducible refine Bx.call ?_ (by with_reducible assumption) | with_reducible refine Ko2.call ?_ (by with_reducible assumption)))
          have M3 : Bx (w.heap.size + 1) [.int .i64 a, .int .i64 b, .int .i64 c, .int .i64 d, .int .i64 x, .int .i64 y] u3 := (by repeat (first | with_reducible assumption | with_reducible refine Bx.drew ?_ | with_reducible refine Ko2.drew ?_ | with_reducible refine Bx.call ?_ (by with_reducible assumption) | with_reducible refine Ko2.call ?_ (by with_reducible assumption)))
          have K3 : Ko2 gc (k * 2) x0 x1 u3 := (by repeat (first | with_reducible assumption | with_reducible refine Bx.drew ?_ | with_reducible refine Ko2.drew ?_ | with_reducible refine Bx.call ?_ (by with_reducible assumption) | with_reducible refine Ko2.call ?_ (by with_reducible assumption)))
          have D3 : Below wr.heap.size wr u3 := (by repeat (first | with_reducible assumption | with_reducible refine Below.drew ?_ | with_reducible refine bstep ?_ (by with_reducible assumption)))
          clear hb3
          (try go_wp2_with fail)
          refine hK.out _ _ ?_ (fun hHeld => ?_)
          · (try dsimp only)
            exact ⟨Bx.cells5 P3, Bx.cells6 M3, Ko2.cells K3⟩
          clear hK K
          (try simp only [Act.put, List.setIfInBounds_toArray, List.set_cons_zero, List.set_cons_succ])
          refine wpAnyH_take (i := 14) (v := ?_) (by (simp only [List.getElem?_toArray, List.getElem?_cons_succ, List.getElem?_cons_zero]); rfl) (by kernel_rfl) (by kernel_rfl) (by kernel_rfl) (by exact fun _ _ _ h => h) (Or.inl ⟨by rfl, ?_⟩) (by assumption) ?_
          rotate_left 1
          · (intro w hSw; (try dsimp only at hSw); go_simp) <;> with_reducible rfl
          (try simp only [Act.put, List.setIfInBounds_toArray, List.set_cons_zero, List.set_cons_succ])
          refine wpAnyH_done (by kernel_rfl) ?_ _
          have B9 := bstep (bstep B2 hb3) (hB.trans (D3.mono hB.size))
          have R9 := (R2.call hB).call D3
          have gn : ¬ gc = w.heap.size + 1 + 1 := HGN.out
          have gn2 : ¬ w.heap.size + 1 + 1 = gc := fun h => HGN.out h.symm
          have k3 := K3.cells
          obtain ⟨k30, k31⟩ := k3
          have r9c0 := R9.c0
          have r9c1 := R9.c1
          have r9f0 := R9.f0
          have r9f1 := R9.f1
          have r9l := R9.lt
          go_wp2
          refine bodyPost_ret (v := .tuple #[.agg #[.int .i64 x0, .int .i64 x1], .int .i64 0]) (by simp [results, Tryd.results21, go_sem, *]) rfl ⟨by rw [ER.out], ?_⟩
          repeat (first | with_reducible exact Below.refl _ _ | with_reducible assumption | with_reducible refine Below.setCell ?_ (by first | omega | (dsimp only; omega) | (simp <;> omega)) _ | with_reducible refine Below.alloc ?_ (by first | omega | (simp <;> omega)) _ | with_reducible refine bstep ?_ (by with_reducible assumption) | with_reducible refine Below.drew ?_ | with_reducible refine below_drewN ?_ _)
      · obtain rfl : k = N := by omega
        have ER := Lib.hid (show wa = ((0, 0), 4) from by
          have h9 := find_none (L := cellP q' p') (br := (brk (p' : Int) B' (q' : Int) G' a b c d x y)) (fun v hv => HALL.out v (by rw [HN.out, List.take_length]; exact hv))
          rw [HWA.out, HRO.out, h9]
          rfl)
        have R9 := R2.call hB
        have r9c0 := R9.c0
        have r9c1 := R9.c1
        have r9f0 := R9.f0
        have r9f1 := R9.f1
        have r9l := R9.lt
        go_wp2
        refine bodyPost_ret (v := .tuple #[.agg #[.int .i64 0, .int .i64 0], .int .i64 4]) (by simp [results, Tryd.results21, go_sem, *]) rfl ⟨by rw [ER.out], ?_⟩
        repeat (first | with_reducible exact Below.refl _ _ | with_reducible assumption | with_reducible refine Below.setCell ?_ (by first | omega | (dsimp only; omega) | (simp <;> omega)) _ | with_reducible refine Below.alloc ?_ (by first | omega | (simp <;> omega)) _ | with_reducible refine bstep ?_ (by with_reducible assumption) | with_reducible refine Below.drew ?_ | with_reducible refine below_drewN ?_ _)
  · have h9 : (rc == 0) = false := by simpa using h0
    have h7 : (rc != 0) = true := by simpa using h0
    have ER := Lib.hid (show waA (ro, rc) = (witV ro, rc) by simp [waA, h0])
    have EO := Lib.hid (show rc ≠ 0 → witV ro = (0, 0) from fun _ => by
      have h5 := HR.out
      unfold syA at h5
      split at h5
      · split at h5
        · simp only [Prod.mk.injEq] at h5; exact absurd h5.2.symm h0
        · simp only [Prod.mk.injEq] at h5; rw [← h5.1]; rfl
      · simp only [Prod.mk.injEq] at h5; rw [← h5.1]; rfl)
    rw [show waA (ro, rc) = ((0, 0), rc) from by rw [ER.out, EO.out h0]]
    go_enter Tryd.func21, Tryd.ntmps21
    go_wp2_with fail
    with_reducible refine (l10Code_any f A B C a b c d x y (R9.out.call B0)).mono ?_
    rintro e w1 hh
    unfold CdP at hh
    obtain ⟨A', B', C', ao1, m1, cap1, rfl, hok, hb1⟩ := hh
    have HOK := Lib.hid hok
    clear hok
    have B1 := bstep B0 hb1
    have M1 := M0.call hb1
    have R1 := R0.call hb1
    rw [HR.out] at HOK ⊢
    dsimp only at HOK ⊢
    clear P0 M0 B0 hb1
    have n1 : ¬ w1.heap.size = w.heap.size + 1 + 1 := by have := R1.lt; omega
    have n2 : ¬ w.heap.size + 1 + 1 = w1.heap.size := by have := R1.lt; omega
    have y1 := B1.size
    have r1c0 := R1.c0
    have r1c1 := R1.c1
    have r1f0 := R1.f0
    have r1f1 := R1.f1
    have r1l := R1.lt
    clear R0
    go_wp2
    refine bodyPost_ret (v := .tuple #[.agg #[.int .i64 0, .int .i64 0], .int .i64 rc]) (by simp [results, Tryd.results21, go_sem, *]) rfl ⟨rfl, ?_⟩
    repeat (first | with_reducible exact Below.refl _ _ | with_reducible assumption | with_reducible refine Below.setCell ?_ (by first | omega | (dsimp only; omega) | (simp <;> omega)) _ | with_reducible refine Below.alloc ?_ (by first | omega | (simp <;> omega)) _ | with_reducible refine bstep ?_ (by with_reducible assumption) | with_reducible refine Below.drew ?_ | with_reducible refine below_drewN ?_ _)
end Go.Proofs.YtkfdaepnjdnnmaaDoor
