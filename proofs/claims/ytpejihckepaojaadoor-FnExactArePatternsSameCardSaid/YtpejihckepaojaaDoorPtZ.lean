/-
  Are two patterns the same, in the program and in the model. Conditions: slices that lie in blocks of their own; the program's variable unitMatrix holds the unit.
-/
import Derived.Test.YtpejihckepaojaaDoorPtY
import Derived.Test.YtpejihckepaojaaDoorPtE
namespace Go.Proofs.YtpejihckepaojaaDoor
open Go.RowKit
set_option linter.unusedSimpArgs false
set_option linter.unusedVariables false

def leaN (A B C : Int) (F : Nat → Int) : Nat := leaP A B C F * leaQ A B C F
def leaG (A B C : Int) (F : Nat → Int) : Nat → Int := onG A B C F (leaP A B C F) (leaQ A B C F)
def smA (f A B C : Int) (n : Nat) (F : Nat → Int) (f' A' B' C' : Int) (m : Nat) (G : Nat → Int) : Bool × Int := if patB f A B C n F = true ∧ patB f' A' B' C' m G = true then (patEq f (leaP A B C F : Int) (fulI A B C F).2.1 (leaQ A B C F : Int) (leaN A B C F) (leaG A B C F) f' (leaP A' B' C' G : Int) (fulI A' B' C' G).2.1 (leaQ A' B' C' G : Int) (leaN A' B' C' G) (leaG A' B' C' G), 0) else (false, 1)
theorem leaN_pos {A B C : Int} {F : Nat → Int} (h : latI A B C) : 1 ≤ leaN A B C F := by
  have hl := (fulI_at (F := F) h).2
  have h1 := hl.1
  have h2 := hl.2.1
  exact Nat.mul_pos (by omega) (by omega)
set_option maxRecDepth 100000 in
set_option maxHeartbeats 16000000 in
theorem implSame_any {lo hi lo' hi' n m : Nat} {v v' : Value} {F G : Nat → Int} {w : World} {b : Bool} {c : Int} (f A B C f' A' B' C' : Int) (hr : smA f A B C n F f' A' B' C' m G = (b, c)) (h1 : SRow lo hi 1 v n F w) (h2 : SRow lo' hi' 1 v' m G w) (hU : UnitOK w) :
    Calls Tryd.prog 19 #[.agg #[.int .i64 f, .int .i64 A, .int .i64 B, .int .i64 C, v], .agg #[.int .i64 f', .int .i64 A', .int .i64 B', .int .i64 C', v']] w fun e w' => e = .returned (.tuple #[.bool b, .int .i64 c]) ∧ Below w.heap.size w w' := by
  have R1 := Lib.hid h1
  have R2 := Lib.hid h2
  have HU := Lib.hid hU
  obtain ⟨ao, cap, rfl⟩ := h1.slice
  obtain ⟨ao', cap', rfl⟩ := h2.slice
  clear h1 h2 hU
  have P0 : Bx w.heap.size [.int .i64 f, .int .i64 A, .int .i64 B, .int .i64 C, .slice ao n cap] ((w.alloc (.cells #[.int .i64 f, .int .i64 A, .int .i64 B, .int .i64 C, .slice ao n cap] 30)).alloc (.cells #[.int .i64 f', .int .i64 A', .int .i64 B', .int .i64 C', .slice ao' m cap'] 30)) := (Bx.at _ rfl).alloc _
  have Q0 : Bx (w.heap.size + 1) [.int .i64 f', .int .i64 A', .int .i64 B', .int .i64 C', .slice ao' m cap'] ((w.alloc (.cells #[.int .i64 f, .int .i64 A, .int .i64 B, .int .i64 C, .slice ao n cap] 30)).alloc (.cells #[.int .i64 f', .int .i64 A', .int .i64 B', .int .i64 C', .slice ao' m cap'] 30)) := Bx.at _ (by simp)
  have B0 : Below w.heap.size w ((w.alloc (.cells #[.int .i64 f, .int .i64 A, .int .i64 B, .int .i64 C, .slice ao n cap] 30)).alloc (.cells #[.int .i64 f', .int .i64 A', .int .i64 B', .int .i64 C', .slice ao' m cap'] 30)) := by repeat (first | with_reducible exact Below.refl _ _ | with_reducible assumption | with_reducible refine Below.setCell ?_ (by first | omega | (dsimp only; omega) | (simp <;> omega)) _ | with_reducible refine Below.alloc ?_ (by first | omega | (simp <;> omega)) _ | with_reducible refine bstep ?_ (by with_reducible assumption) | with_reducible refine Below.drew ?_ | with_reducible refine below_drewN ?_ _)
  rcases k1 : patB f A B C n F with _ | _
  · have HE : Hid (false = b ∧ (1 : Int) = c) := Lib.hid (by simpa [smA, k1] using hr)
    clear hr
    go_enter Tryd.func19, Tryd.ntmps19
    go_wp2_with fail
    with_reducible refine (patValid_any f A B C (R1.out.call B0)).mono ?_
    rintro e w1 ⟨rfl, hb1⟩
    rw [k1]
    have P1 := P0.call hb1
    have Q1 := Q0.call hb1
    have B1 := bstep B0 hb1
    clear P0 Q0 B0 hb1
    have p1c0 := P1.c0
    have p1c1 := P1.c1
    have p1c2 := P1.c2
    have p1c3 := P1.c3
    have p1c4 := P1.c4
    have p1l := P1.lt
    have q1c0 := Q1.c0
    have q1c1 := Q1.c1
    have q1c2 := Q1.c2
    have q1c3 := Q1.c3
    have q1c4 := Q1.c4
    have q1l := Q1.lt
    go_wp2
    refine bodyPost_ret (v := .tuple #[.bool false, .int .i64 1]) (by simp [results, Tryd.results19, go_sem, *]) rfl ⟨by rw [← HE.out.1, ← HE.out.2], ?_⟩
    repeat (first | with_reducible exact Below.refl _ _ | with_reducible assumption | with_reducible refine Below.setCell ?_ (by first | omega | (dsimp only; omega) | (simp <;> omega)) _ | with_reducible refine Below.alloc ?_ (by first | omega | (simp <;> omega)) _ | with_reducible refine bstep ?_ (by with_reducible assumption) | with_reducible refine Below.drew ?_ | with_reducible refine below_drewN ?_ _)
  rcases k2 : patB f' A' B' C' m G with _ | _
  · have HE : Hid (false = b ∧ (1 : Int) = c) := Lib.hid (by simpa [smA, k1, k2] using hr)
    clear hr
    go_enter Tryd.func19, Tryd.ntmps19
    go_wp2_with fail
    with_reducible refine (patValid_any f A B C (R1.out.call B0)).mono ?_
    rintro e w1 ⟨rfl, hb1⟩
    rw [k1]
    have P1 := P0.call hb1
    have Q1 := Q0.call hb1
    have B1 := bstep B0 hb1
    clear P0 Q0 B0 hb1
    have p1c0 := P1.c0
    have p1c1 := P1.c1
    have p1c2 := P1.c2
    have p1c3 := P1.c3
    have p1c4 := P1.c4
    have p1l := P1.lt
    have q1c0 := Q1.c0
    have q1c1 := Q1.c1
    have q1c2 := Q1.c2
    have q1c3 := Q1.c3
    have q1c4 := Q1.c4
    have q1l := Q1.lt
    go_wp2_with fail
    with_reducible refine (patValid_any f' A' B' C' (R2.out.call B1)).mono ?_
    rintro e w2 ⟨rfl, hb2⟩
    rw [k2]
    have P2 := P1.call hb2
    have Q2 := Q1.call hb2
    have B2 := bstep B1 hb2
    clear P1 Q1 B1 hb2 p1c0 q1c0 p1c1 q1c1 p1c2 q1c2 p1c3 q1c3 p1c4 q1c4 p1l q1l
    have p2c0 := P2.c0
    have p2c1 := P2.c1
    have p2c2 := P2.c2
    have p2c3 := P2.c3
    have p2c4 := P2.c4
    have p2l := P2.lt
    have q2c0 := Q2.c0
    have q2c1 := Q2.c1
    have q2c2 := Q2.c2
    have q2c3 := Q2.c3
    have q2c4 := Q2.c4
    have q2l := Q2.lt
    go_wp2
    refine bodyPost_ret (v := .tuple #[.bool false, .int .i64 1]) (by simp [results, Tryd.results19, go_sem, *]) rfl ⟨by rw [← HE.out.1, ← HE.out.2], ?_⟩
    repeat (first | with_reducible exact Below.refl _ _ | with_reducible assumption | with_reducible refine Below.setCell ?_ (by first | omega | (dsimp only; omega) | (simp <;> omega)) _ | with_reducible refine Below.alloc ?_ (by first | omega | (simp <;> omega)) _ | with_reducible refine bstep ?_ (by with_reducible assumption) | with_reducible refine Below.drew ?_ | with_reducible refine below_drewN ?_ _)
  have HE : Hid (patEq f (leaP A B C F : Int) (fulI A B C F).2.1 (leaQ A B C F : Int) (leaN A B C F) (leaG A B C F) f' (leaP A' B' C' G : Int) (fulI A' B' C' G).2.1 (leaQ A' B' C' G : Int) (leaN A' B' C' G) (leaG A' B' C' G) = b ∧ (0 : Int) = c) := Lib.hid (by simpa [smA, k1, k2] using hr)
  clear hr
  have HL1 := Lib.hid (fun (X : World) (hX : Below w.heap.size w X) => (show Calls Tryd.prog 29 #[.agg #[.int .i64 f, .int .i64 A, .int .i64 B, .int .i64 C, .slice ao n cap]] X (fun e w' => ∃ u : Value, e = .returned (.agg #[.int .i64 f, .int .i64 (leaP A B C F : Int), .int .i64 (fulI A B C F).2.1, .int .i64 (leaQ A B C F : Int), u]) ∧ SRow X.heap.size w'.heap.size 1 u (leaN A B C F) (leaG A B C F) w' ∧ Below X.heap.size X w') from by
      obtain ⟨p, q, e1, e2, hp⟩ := patB_of k1
      rw [e1, e2] at *
      exact lean_any hp (fulI_at hp.lat).1 (fulI_at hp.lat).2 (R1.out.call hX) (HU.out.call hX)))
  have HL2 := Lib.hid (fun (X : World) (hX : Below w.heap.size w X) => (show Calls Tryd.prog 29 #[.agg #[.int .i64 f', .int .i64 A', .int .i64 B', .int .i64 C', .slice ao' m cap']] X (fun e w' => ∃ u : Value, e = .returned (.agg #[.int .i64 f', .int .i64 (leaP A' B' C' G : Int), .int .i64 (fulI A' B' C' G).2.1, .int .i64 (leaQ A' B' C' G : Int), u]) ∧ SRow X.heap.size w'.heap.size 1 u (leaN A' B' C' G) (leaG A' B' C' G) w' ∧ Below X.heap.size X w') from by
      obtain ⟨p, q, e1, e2, hp⟩ := patB_of k2
      rw [e1, e2] at *
      exact lean_any hp (fulI_at hp.lat).1 (fulI_at hp.lat).2 (R2.out.call hX) (HU.out.call hX)))
  have HEQ := Lib.hid (fun (lo hi lo' hi' : Nat) (x1 x2 : Value) (X : World) (r1 : SRow lo hi 1 x1 (leaN A B C F) (leaG A B C F) X) (r2 : SRow lo' hi' 1 x2 (leaN A' B' C' G) (leaG A' B' C' G) X) => (show Calls Tryd.prog 44 #[(.agg #[.int .i64 f, .int .i64 (leaP A B C F : Int), .int .i64 (fulI A B C F).2.1, .int .i64 (leaQ A B C F : Int), x1]), (.agg #[.int .i64 f', .int .i64 (leaP A' B' C' G : Int), .int .i64 (fulI A' B' C' G).2.1, .int .i64 (leaQ A' B' C' G : Int), x2])] X (fun e w' => e = .returned (.bool b) ∧ Below X.heap.size X w') from by
      have n1 : 1 ≤ leaN A B C F := by obtain ⟨p, q, e1, e2, hp⟩ := patB_of k1; exact leaN_pos (by rw [e1, e2]; exact hp.lat)
      have n2 : 1 ≤ leaN A' B' C' G := by obtain ⟨p, q, e1, e2, hp⟩ := patB_of k2; exact leaN_pos (by rw [e1, e2]; exact hp.lat)
      have h9 := equals_any f (leaP A B C F : Int) (fulI A B C F).2.1 (leaQ A B C F : Int) f' (leaP A' B' C' G : Int) (fulI A' B' C' G).2.1 (leaQ A' B' C' G : Int) r1 r2 n1 n2
      rw [HE.out.1] at h9
      exact h9))
  go_enter Tryd.func19, Tryd.ntmps19
  go_wp2_with fail
  with_reducible refine (patValid_any f A B C (R1.out.call B0)).mono ?_
  rintro e w1 ⟨rfl, hb1⟩
  rw [k1]
  have P1 := P0.call hb1
  have Q1 := Q0.call hb1
  have B1 := bstep B0 hb1
  clear P0 Q0 B0 hb1
  have p1c0 := P1.c0
  have p1c1 := P1.c1
  have p1c2 := P1.c2
  have p1c3 := P1.c3
  have p1c4 := P1.c4
  have p1l := P1.lt
  have q1c0 := Q1.c0
  have q1c1 := Q1.c1
  have q1c2 := Q1.c2
  have q1c3 := Q1.c3
  have q1c4 := Q1.c4
  have q1l := Q1.lt
  go_wp2_with fail
  with_reducible refine (patValid_any f' A' B' C' (R2.out.call B1)).mono ?_
  rintro e w2 ⟨rfl, hb2⟩
  rw [k2]
  have P2 := P1.call hb2
  have Q2 := Q1.call hb2
  have B2 := bstep B1 hb2
  clear P1 Q1 B1 hb2 p1c0 q1c0 p1c1 q1c1 p1c2 q1c2 p1c3 q1c3 p1c4 q1c4 p1l q1l
  have p2c0 := P2.c0
  have p2c1 := P2.c1
  have p2c2 := P2.c2
  have p2c3 := P2.c3
  have p2c4 := P2.c4
  have p2l := P2.lt
  have q2c0 := Q2.c0
  have q2c1 := Q2.c1
  have q2c2 := Q2.c2
  have q2c3 := Q2.c3
  have q2c4 := Q2.c4
  have q2l := Q2.lt
  go_wp2_with fail
  go_region_held3 (fun W9 => (W9.cell? ⟨w.heap.size, 0, none⟩ = some (.int .i64 f) ∧ W9.cell? ⟨w.heap.size, 1, none⟩ = some (.int .i64 A) ∧ W9.cell? ⟨w.heap.size, 2, none⟩ = some (.int .i64 B) ∧ W9.cell? ⟨w.heap.size, 3, none⟩ = some (.int .i64 C) ∧ W9.cell? ⟨w.heap.size, 4, none⟩ = some (.slice ao n cap)) ∧ (W9.cell? ⟨(w.heap.size + 1), 0, none⟩ = some (.int .i64 f') ∧ W9.cell? ⟨(w.heap.size + 1), 1, none⟩ = some (.int .i64 A') ∧ W9.cell? ⟨(w.heap.size + 1), 2, none⟩ = some (.int .i64 B') ∧ W9.cell? ⟨(w.heap.size + 1), 3, none⟩ = some (.int .i64 C') ∧ W9.cell? ⟨(w.heap.size + 1), 4, none⟩ = some (.slice ao' m cap'))) ((refine And.intro (Bx.cells5 ?_) (Bx.cells5 ?_)) <;> repeat (first | with_reducible assumption | with_reducible refine Bx.drew ?_ | with_reducible refine Bx.alloc ?_ _ | with_reducible refine Bx.call ?_ (by with_reducible assumption) | with_reducible refine BX.drew ?_ | with_reducible refine BX.alloc ?_ _ | with_reducible refine BX.call ?_ (by with_reducible assumption) | with_reducible refine Bx.far (by first | omega | (dsimp only; omega)) ?_))
    (first
      | (go_at_call_of 29 (Value.agg #[.int .i64 f, .int .i64 A, .int .i64 B, .int .i64 C, .slice ao n cap]); with_reducible refine (HL1.out _ (by repeat (first | with_reducible assumption | with_reducible exact Below.refl _ _ | with_reducible refine Below.drew ?_ | with_reducible refine Below.alloc ?_ (by first | omega | (simp <;> omega)) _ | with_reducible refine Below.setCell ?_ (by first | omega | (dsimp only; omega)) _ | with_reducible refine bstep ?_ (by with_reducible assumption)))).mono ?_; rintro e u1 ⟨x1, rfl, r1, hb1⟩; obtain ⟨ao1, cap1, rfl⟩ := r1.slice; have C1 : Below w2.heap.size w2 u1 := (by repeat (first | with_reducible assumption | with_reducible exact Below.refl _ _ | with_reducible refine Below.drew ?_ | with_reducible refine Below.alloc ?_ (by first | omega | (simp <;> omega)) _ | with_reducible refine Below.setCell ?_ (by first | omega | (dsimp only; omega)) _ | with_reducible refine bstep ?_ (by with_reducible assumption))))
      | (go_at_call_of 29 (Value.agg #[.int .i64 f', .int .i64 A', .int .i64 B', .int .i64 C', .slice ao' m cap']); with_reducible refine (HL2.out _ (by repeat (first | with_reducible assumption | with_reducible exact Below.refl _ _ | with_reducible refine Below.drew ?_ | with_reducible refine Below.alloc ?_ (by first | omega | (simp <;> omega)) _ | with_reducible refine Below.setCell ?_ (by first | omega | (dsimp only; omega)) _ | with_reducible refine bstep ?_ (by with_reducible assumption)))).mono ?_; rintro e u2 ⟨x2, rfl, r2, hb2⟩; obtain ⟨ao2, cap2, rfl⟩ := r2.slice; have C2 : Below w2.heap.size w2 u2 := (by repeat (first | with_reducible assumption | with_reducible exact Below.refl _ _ | with_reducible refine Below.drew ?_ | with_reducible refine Below.alloc ?_ (by first | omega | (simp <;> omega)) _ | with_reducible refine Below.setCell ?_ (by first | omega | (dsimp only; omega)) _ | with_reducible refine bstep ?_ (by with_reducible assumption))))
      | (go_at_call 44; with_reducible refine (HEQ.out _ _ _ _ _ _ _ (SRow.call r1 (by repeat (first | with_reducible assumption | with_reducible exact Below.refl _ _ | with_reducible refine Below.drew ?_ | with_reducible refine Below.alloc ?_ (by first | omega | (simp <;> omega)) _ | with_reducible refine Below.setCell ?_ (by first | omega | (dsimp only; omega)) _ | with_reducible refine bstep ?_ (by with_reducible assumption)))) (SRow.call r2 (by repeat (first | with_reducible assumption | with_reducible exact Below.refl _ _ | with_reducible refine Below.drew ?_ | with_reducible refine Below.alloc ?_ (by first | omega | (simp <;> omega)) _ | with_reducible refine Below.setCell ?_ (by first | omega | (dsimp only; omega)) _ | with_reducible refine bstep ?_ (by with_reducible assumption))))).mono ?_; rintro e u3 ⟨rfl, hb3⟩; have C3 : Below w2.heap.size w2 u3 := (by repeat (first | with_reducible assumption | with_reducible exact Below.refl _ _ | with_reducible refine Below.drew ?_ | with_reducible refine Below.alloc ?_ (by first | omega | (simp <;> omega)) _ | with_reducible refine Below.setCell ?_ (by first | omega | (dsimp only; omega)) _ | with_reducible refine bstep ?_ (by with_reducible assumption)))))
  all_goals
    go_wp2
    refine bodyPost_ret (v := .tuple #[.bool b, .int .i64 0]) (by simp [results, Tryd.results19, go_sem, *]) rfl ⟨by rw [← HE.out.2], ?_⟩
    exact B2.trans (C3.mono B2.size)
set_option maxRecDepth 100000 in
set_option maxHeartbeats 16000000 in
theorem specSame_any {lo hi lo' hi' n m : Nat} {v v' : Value} {F G : Nat → Int} {w : World} {b : Bool} {c : Int} (f A B C f' A' B' C' : Int) (hr : smA f A B C n F f' A' B' C' m G = (b, c)) (h1 : SRow lo hi 1 v n F w) (h2 : SRow lo' hi' 1 v' m G w) :
    Calls Tryd.prog 18 #[.agg #[.int .i64 f, .int .i64 A, .int .i64 B, .int .i64 C, v], .agg #[.int .i64 f', .int .i64 A', .int .i64 B', .int .i64 C', v']] w fun e w' => e = .returned (.tuple #[.bool b, .int .i64 c]) ∧ Below w.heap.size w w' := by
  have R1 := Lib.hid h1
  have R2 := Lib.hid h2
  obtain ⟨ao, cap, rfl⟩ := h1.slice
  obtain ⟨ao', cap', rfl⟩ := h2.slice
  clear h1 h2
  have P0 : Bx w.heap.size [.int .i64 f, .int .i64 A, .int .i64 B, .int .i64 C, .slice ao n cap] ((w.alloc (.cells #[.int .i64 f, .int .i64 A, .int .i64 B, .int .i64 C, .slice ao n cap] 30)).alloc (.cells #[.int .i64 f', .int .i64 A', .int .i64 B', .int .i64 C', .slice ao' m cap'] 30)) := (Bx.at _ rfl).alloc _
  have Q0 : Bx (w.heap.size + 1) [.int .i64 f', .int .i64 A', .int .i64 B', .int .i64 C', .slice ao' m cap'] ((w.alloc (.cells #[.int .i64 f, .int .i64 A, .int .i64 B, .int .i64 C, .slice ao n cap] 30)).alloc (.cells #[.int .i64 f', .int .i64 A', .int .i64 B', .int .i64 C', .slice ao' m cap'] 30)) := Bx.at _ (by simp)
  have B0 : Below w.heap.size w ((w.alloc (.cells #[.int .i64 f, .int .i64 A, .int .i64 B, .int .i64 C, .slice ao n cap] 30)).alloc (.cells #[.int .i64 f', .int .i64 A', .int .i64 B', .int .i64 C', .slice ao' m cap'] 30)) := by repeat (first | with_reducible exact Below.refl _ _ | with_reducible assumption | with_reducible refine Below.setCell ?_ (by first | omega | (dsimp only; omega) | (simp <;> omega)) _ | with_reducible refine Below.alloc ?_ (by first | omega | (simp <;> omega)) _ | with_reducible refine bstep ?_ (by with_reducible assumption) | with_reducible refine Below.drew ?_ | with_reducible refine below_drewN ?_ _)
  rcases k1 : patB f A B C n F with _ | _
  · have HE : Hid (false = b ∧ (1 : Int) = c) := Lib.hid (by simpa [smA, k1] using hr)
    clear hr
    go_enter Tryd.func18, Tryd.ntmps18
    go_wp2_with fail
    with_reducible refine (specIsPat_any f A B C (R1.out.call B0)).mono ?_
    rintro e w1 ⟨rfl, hb1⟩
    rw [k1]
    have P1 := P0.call hb1
    have Q1 := Q0.call hb1
    have B1 := bstep B0 hb1
    clear P0 Q0 B0 hb1
    have p1c0 := P1.c0
    have p1c1 := P1.c1
    have p1c2 := P1.c2
    have p1c3 := P1.c3
    have p1c4 := P1.c4
    have p1l := P1.lt
    have q1c0 := Q1.c0
    have q1c1 := Q1.c1
    have q1c2 := Q1.c2
    have q1c3 := Q1.c3
    have q1c4 := Q1.c4
    have q1l := Q1.lt
    go_wp2
    refine bodyPost_ret (v := .tuple #[.bool false, .int .i64 1]) (by simp [results, Tryd.results18, go_sem, *]) rfl ⟨by rw [← HE.out.1, ← HE.out.2], ?_⟩
    repeat (first | with_reducible exact Below.refl _ _ | with_reducible assumption | with_reducible refine Below.setCell ?_ (by first | omega | (dsimp only; omega) | (simp <;> omega)) _ | with_reducible refine Below.alloc ?_ (by first | omega | (simp <;> omega)) _ | with_reducible refine bstep ?_ (by with_reducible assumption) | with_reducible refine Below.drew ?_ | with_reducible refine below_drewN ?_ _)
  rcases k2 : patB f' A' B' C' m G with _ | _
  · have HE : Hid (false = b ∧ (1 : Int) = c) := Lib.hid (by simpa [smA, k1, k2] using hr)
    clear hr
    go_enter Tryd.func18, Tryd.ntmps18
    go_wp2_with fail
    with_reducible refine (specIsPat_any f A B C (R1.out.call B0)).mono ?_
    rintro e w1 ⟨rfl, hb1⟩
    rw [k1]
    have P1 := P0.call hb1
    have Q1 := Q0.call hb1
    have B1 := bstep B0 hb1
    clear P0 Q0 B0 hb1
    have p1c0 := P1.c0
    have p1c1 := P1.c1
    have p1c2 := P1.c2
    have p1c3 := P1.c3
    have p1c4 := P1.c4
    have p1l := P1.lt
    have q1c0 := Q1.c0
    have q1c1 := Q1.c1
    have q1c2 := Q1.c2
    have q1c3 := Q1.c3
    have q1c4 := Q1.c4
    have q1l := Q1.lt
    go_wp2_with fail
    with_reducible refine (specIsPat_any f' A' B' C' (R2.out.call B1)).mono ?_
    rintro e w2 ⟨rfl, hb2⟩
    rw [k2]
    have P2 := P1.call hb2
    have Q2 := Q1.call hb2
    have B2 := bstep B1 hb2
    clear P1 Q1 B1 hb2 p1c0 q1c0 p1c1 q1c1 p1c2 q1c2 p1c3 q1c3 p1c4 q1c4 p1l q1l
    have p2c0 := P2.c0
    have p2c1 := P2.c1
    have p2c2 := P2.c2
    have p2c3 := P2.c3
    have p2c4 := P2.c4
    have p2l := P2.lt
    have q2c0 := Q2.c0
    have q2c1 := Q2.c1
    have q2c2 := Q2.c2
    have q2c3 := Q2.c3
    have q2c4 := Q2.c4
    have q2l := Q2.lt
    go_wp2
    refine bodyPost_ret (v := .tuple #[.bool false, .int .i64 1]) (by simp [results, Tryd.results18, go_sem, *]) rfl ⟨by rw [← HE.out.1, ← HE.out.2], ?_⟩
    repeat (first | with_reducible exact Below.refl _ _ | with_reducible assumption | with_reducible refine Below.setCell ?_ (by first | omega | (dsimp only; omega) | (simp <;> omega)) _ | with_reducible refine Below.alloc ?_ (by first | omega | (simp <;> omega)) _ | with_reducible refine bstep ?_ (by with_reducible assumption) | with_reducible refine Below.drew ?_ | with_reducible refine below_drewN ?_ _)
  have HE : Hid (patEq f (leaP A B C F : Int) (fulI A B C F).2.1 (leaQ A B C F : Int) (leaN A B C F) (leaG A B C F) f' (leaP A' B' C' G : Int) (fulI A' B' C' G).2.1 (leaQ A' B' C' G : Int) (leaN A' B' C' G) (leaG A' B' C' G) = b ∧ (0 : Int) = c) := Lib.hid (by simpa [smA, k1, k2] using hr)
  clear hr
  have HL1 := Lib.hid (fun (X : World) (hX : Below w.heap.size w X) => (show Calls Tryd.prog 26 #[.agg #[.int .i64 f, .int .i64 A, .int .i64 B, .int .i64 C, .slice ao n cap]] X (fun e w' => ∃ u : Value, e = .returned (.agg #[.int .i64 f, .int .i64 (leaP A B C F : Int), .int .i64 (fulI A B C F).2.1, .int .i64 (leaQ A B C F : Int), u]) ∧ SRow X.heap.size w'.heap.size 1 u (leaN A B C F) (leaG A B C F) w' ∧ Below X.heap.size X w') from by
      obtain ⟨p, q, e1, e2, hp⟩ := patB_of k1
      rw [e1, e2] at *
      exact l09Lean_any hp (fulI_at hp.lat).1 (fulI_at hp.lat).2 (R1.out.call hX)))
  have HL2 := Lib.hid (fun (X : World) (hX : Below w.heap.size w X) => (show Calls Tryd.prog 26 #[.agg #[.int .i64 f', .int .i64 A', .int .i64 B', .int .i64 C', .slice ao' m cap']] X (fun e w' => ∃ u : Value, e = .returned (.agg #[.int .i64 f', .int .i64 (leaP A' B' C' G : Int), .int .i64 (fulI A' B' C' G).2.1, .int .i64 (leaQ A' B' C' G : Int), u]) ∧ SRow X.heap.size w'.heap.size 1 u (leaN A' B' C' G) (leaG A' B' C' G) w' ∧ Below X.heap.size X w') from by
      obtain ⟨p, q, e1, e2, hp⟩ := patB_of k2
      rw [e1, e2] at *
      exact l09Lean_any hp (fulI_at hp.lat).1 (fulI_at hp.lat).2 (R2.out.call hX)))
  have HEQ := Lib.hid (fun (lo hi lo' hi' : Nat) (x1 x2 : Value) (X : World) (r1 : SRow lo hi 1 x1 (leaN A B C F) (leaG A B C F) X) (r2 : SRow lo' hi' 1 x2 (leaN A' B' C' G) (leaG A' B' C' G) X) => (show Calls Tryd.prog 43 #[(.agg #[.int .i64 f, .int .i64 (leaP A B C F : Int), .int .i64 (fulI A B C F).2.1, .int .i64 (leaQ A B C F : Int), x1]), (.agg #[.int .i64 f', .int .i64 (leaP A' B' C' G : Int), .int .i64 (fulI A' B' C' G).2.1, .int .i64 (leaQ A' B' C' G : Int), x2])] X (fun e w' => e = .returned (.bool b) ∧ Below X.heap.size X w') from by
      have n1 : 1 ≤ leaN A B C F := by obtain ⟨p, q, e1, e2, hp⟩ := patB_of k1; exact leaN_pos (by rw [e1, e2]; exact hp.lat)
      have n2 : 1 ≤ leaN A' B' C' G := by obtain ⟨p, q, e1, e2, hp⟩ := patB_of k2; exact leaN_pos (by rw [e1, e2]; exact hp.lat)
      have h9 := l09Same_any f (leaP A B C F : Int) (fulI A B C F).2.1 (leaQ A B C F : Int) f' (leaP A' B' C' G : Int) (fulI A' B' C' G).2.1 (leaQ A' B' C' G : Int) r1 r2 n1 n2
      rw [HE.out.1] at h9
      exact h9))
  go_enter Tryd.func18, Tryd.ntmps18
  go_wp2_with fail
  with_reducible refine (specIsPat_any f A B C (R1.out.call B0)).mono ?_
  rintro e w1 ⟨rfl, hb1⟩
  rw [k1]
  have P1 := P0.call hb1
  have Q1 := Q0.call hb1
  have B1 := bstep B0 hb1
  clear P0 Q0 B0 hb1
  have p1c0 := P1.c0
  have p1c1 := P1.c1
  have p1c2 := P1.c2
  have p1c3 := P1.c3
  have p1c4 := P1.c4
  have p1l := P1.lt
  have q1c0 := Q1.c0
  have q1c1 := Q1.c1
  have q1c2 := Q1.c2
  have q1c3 := Q1.c3
  have q1c4 := Q1.c4
  have q1l := Q1.lt
  go_wp2_with fail
  with_reducible refine (specIsPat_any f' A' B' C' (R2.out.call B1)).mono ?_
  rintro e w2 ⟨rfl, hb2⟩
  rw [k2]
  have P2 := P1.call hb2
  have Q2 := Q1.call hb2
  have B2 := bstep B1 hb2
  clear P1 Q1 B1 hb2 p1c0 q1c0 p1c1 q1c1 p1c2 q1c2 p1c3 q1c3 p1c4 q1c4 p1l q1l
  have p2c0 := P2.c0
  have p2c1 := P2.c1
  have p2c2 := P2.c2
  have p2c3 := P2.c3
  have p2c4 := P2.c4
  have p2l := P2.lt
  have q2c0 := Q2.c0
  have q2c1 := Q2.c1
  have q2c2 := Q2.c2
  have q2c3 := Q2.c3
  have q2c4 := Q2.c4
  have q2l := Q2.lt
  go_wp2_with fail
  go_region_held3 (fun W9 => (W9.cell? ⟨w.heap.size, 0, none⟩ = some (.int .i64 f) ∧ W9.cell? ⟨w.heap.size, 1, none⟩ = some (.int .i64 A) ∧ W9.cell? ⟨w.heap.size, 2, none⟩ = some (.int .i64 B) ∧ W9.cell? ⟨w.heap.size, 3, none⟩ = some (.int .i64 C) ∧ W9.cell? ⟨w.heap.size, 4, none⟩ = some (.slice ao n cap)) ∧ (W9.cell? ⟨(w.heap.size + 1), 0, none⟩ = some (.int .i64 f') ∧ W9.cell? ⟨(w.heap.size + 1), 1, none⟩ = some (.int .i64 A') ∧ W9.cell? ⟨(w.heap.size + 1), 2, none⟩ = some (.int .i64 B') ∧ W9.cell? ⟨(w.heap.size + 1), 3, none⟩ = some (.int .i64 C') ∧ W9.cell? ⟨(w.heap.size + 1), 4, none⟩ = some (.slice ao' m cap'))) ((refine And.intro (Bx.cells5 ?_) (Bx.cells5 ?_)) <;> repeat (first | with_reducible assumption | with_reducible refine Bx.drew ?_ | with_reducible refine Bx.alloc ?_ _ | with_reducible refine Bx.call ?_ (by with_reducible assumption) | with_reducible refine BX.drew ?_ | with_reducible refine BX.alloc ?_ _ | with_reducible refine BX.call ?_ (by with_reducible assumption) | with_reducible refine Bx.far (by first | omega | (dsimp only; omega)) ?_))
    (first
      | (go_at_call_of 26 (Value.agg #[.int .i64 f, .int .i64 A, .int .i64 B, .int .i64 C, .slice ao n cap]); with_reducible refine (HL1.out _ (by repeat (first | with_reducible assumption | with_reducible exact Below.refl _ _ | with_reducible refine Below.drew ?_ | with_reducible refine Below.alloc ?_ (by first | omega | (simp <;> omega)) _ | with_reducible refine Below.setCell ?_ (by first | omega | (dsimp only; omega)) _ | with_reducible refine bstep ?_ (by with_reducible assumption)))).mono ?_; rintro e u1 ⟨x1, rfl, r1, hb1⟩; obtain ⟨ao1, cap1, rfl⟩ := r1.slice; have C1 : Below w2.heap.size w2 u1 := (by repeat (first | with_reducible assumption | with_reducible exact Below.refl _ _ | with_reducible refine Below.drew ?_ | with_reducible refine Below.alloc ?_ (by first | omega | (simp <;> omega)) _ | with_reducible refine Below.setCell ?_ (by first | omega | (dsimp only; omega)) _ | with_reducible refine bstep ?_ (by with_reducible assumption))))
      | (go_at_call_of 26 (Value.agg #[.int .i64 f', .int .i64 A', .int .i64 B', .int .i64 C', .slice ao' m cap']); with_reducible refine (HL2.out _ (by repeat (first | with_reducible assumption | with_reducible exact Below.refl _ _ | with_reducible refine Below.drew ?_ | with_reducible refine Below.alloc ?_ (by first | omega | (simp <;> omega)) _ | with_reducible refine Below.setCell ?_ (by first | omega | (dsimp only; omega)) _ | with_reducible refine bstep ?_ (by with_reducible assumption)))).mono ?_; rintro e u2 ⟨x2, rfl, r2, hb2⟩; obtain ⟨ao2, cap2, rfl⟩ := r2.slice; have C2 : Below w2.heap.size w2 u2 := (by repeat (first | with_reducible assumption | with_reducible exact Below.refl _ _ | with_reducible refine Below.drew ?_ | with_reducible refine Below.alloc ?_ (by first | omega | (simp <;> omega)) _ | with_reducible refine Below.setCell ?_ (by first | omega | (dsimp only; omega)) _ | with_reducible refine bstep ?_ (by with_reducible assumption))))
      | (go_at_call 43; with_reducible refine (HEQ.out _ _ _ _ _ _ _ (SRow.call r1 (by repeat (first | with_reducible assumption | with_reducible exact Below.refl _ _ | with_reducible refine Below.drew ?_ | with_reducible refine Below.alloc ?_ (by first | omega | (simp <;> omega)) _ | with_reducible refine Below.setCell ?_ (by first | omega | (dsimp only; omega)) _ | with_reducible refine bstep ?_ (by with_reducible assumption)))) (SRow.call r2 (by repeat (first | with_reducible assumption | with_reducible exact Below.refl _ _ | with_reducible refine Below.drew ?_ | with_reducible refine Below.alloc ?_ (by first | omega | (simp <;> omega)) _ | with_reducible refine Below.setCell ?_ (by first | omega | (dsimp only; omega)) _ | with_reducible refine bstep ?_ (by with_reducible assumption))))).mono ?_; rintro e u3 ⟨rfl, hb3⟩; have C3 : Below w2.heap.size w2 u3 := (by repeat (first | with_reducible assumption | with_reducible exact Below.refl _ _ | with_reducible refine Below.drew ?_ | with_reducible refine Below.alloc ?_ (by first | omega | (simp <;> omega)) _ | with_reducible refine Below.setCell ?_ (by first | omega | (dsimp only; omega)) _ | with_reducible refine bstep ?_ (by with_reducible assumption)))))
  all_goals
    go_wp2
    refine bodyPost_ret (v := .tuple #[.bool b, .int .i64 0]) (by simp [results, Tryd.results18, go_sem, *]) rfl ⟨by rw [← HE.out.2], ?_⟩
    exact B2.trans (C3.mono B2.size)
end Go.Proofs.YtpejihckepaojaaDoor
