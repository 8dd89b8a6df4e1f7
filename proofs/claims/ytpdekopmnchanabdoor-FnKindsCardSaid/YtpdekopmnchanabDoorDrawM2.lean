/-
  The functions of the model that draw arguments for chapter 5: each returns some motions or vectors and turns nothing that was there. Condition: the code's bytes can be read, at most 2^47 of them.
-/
import Derived.Test.YtpdekopmnchanabDoorDrawMo
namespace Go.Proofs.YtpdekopmnchanabDoor
open Go.RowKit
set_option linter.unusedSimpArgs false
set_option linter.unusedVariables false

def OneMo (w : World) (e : Ending) (w' : World) : Prop := ∃ a b c d x y : Int, e = .returned (.agg #[.int .i64 a, .int .i64 b, .int .i64 c, .int .i64 d, .int .i64 x, .int .i64 y]) ∧ Below w.heap.size w w'
def TwoMo (w : World) (e : Ending) (w' : World) : Prop := ∃ a b c d x y a' b' c' d' x' y' : Int, e = .returned (.tuple #[.agg #[.int .i64 a, .int .i64 b, .int .i64 c, .int .i64 d, .int .i64 x, .int .i64 y], .agg #[.int .i64 a', .int .i64 b', .int .i64 c', .int .i64 d', .int .i64 x', .int .i64 y']]) ∧ Below w.heap.size w w'
def MoVec (w : World) (e : Ending) (w' : World) : Prop := ∃ a b c d x y p q : Int, e = .returned (.tuple #[.agg #[.int .i64 a, .int .i64 b, .int .i64 c, .int .i64 d, .int .i64 x, .int .i64 y], .agg #[.int .i64 p, .int .i64 q]]) ∧ Below w.heap.size w w'
theorem KM.kq4 {R : Nat} {a b c d x y : Int} {W : World} (h : KM R a b c d x y W) (u v : Value) : Kq R a b c d ((W.setCell ⟨R, 4, none⟩ u).setCell ⟨R, 5, none⟩ v) := by
  obtain ⟨h0, h1, h2, h3, h4, h5, h6, h7, h8, h9, h10, h11, h12⟩ := h
  refine ⟨by simpa [World.setCell] using h0, ?_, ?_, ?_, ?_⟩ <;> simp [go_sem, *]
def SomeVec (w : World) (e : Ending) (w' : World) : Prop := ∃ p q : Int, e = .returned (.agg #[.int .i64 p, .int .i64 q]) ∧ Below w.heap.size w w'
set_option maxRecDepth 100000 in
set_option maxHeartbeats 2000000 in
theorem app_some (a b c d x y : Int) (w : World) : Calls Tryd.prog 49 #[.agg #[.int .i64 a, .int .i64 b, .int .i64 c, .int .i64 d], .agg #[.int .i64 x, .int .i64 y]] w (SomeVec w) := by
  go_enter Tryd.func49, Tryd.ntmps49
  go_wp2
  refine bodyPost_ret (v := .agg #[.int .i64 _, .int .i64 _]) (by simp [results, Tryd.results49, go_sem]; exact ⟨rfl, rfl⟩) rfl ⟨_, _, rfl, ?_⟩
  repeat (first | exact Below.refl _ _ | refine Below.setCell ?_ (by first | omega | (simp <;> omega)) _ | refine Below.alloc ?_ (by first | omega | (simp <;> omega)) _ | refine bstep ?_ (by assumption) | refine Below.drew ?_)

set_option maxRecDepth 100000 in
set_option maxHeartbeats 2000000 in
theorem add_some (a b x y : Int) (w : World) : Calls Tryd.prog 47 #[.agg #[.int .i64 a, .int .i64 b], .agg #[.int .i64 x, .int .i64 y]] w (SomeVec w) := by
  go_enter Tryd.func47, Tryd.ntmps47
  go_wp2
  refine bodyPost_ret (v := .agg #[.int .i64 _, .int .i64 _]) (by simp [results, Tryd.results47, go_sem]; exact ⟨rfl, rfl⟩) rfl ⟨_, _, rfl, ?_⟩
  repeat (first | exact Below.refl _ _ | refine Below.setCell ?_ (by first | omega | (simp <;> omega)) _ | refine Below.alloc ?_ (by first | omega | (simp <;> omega)) _ | refine bstep ?_ (by assumption) | refine Below.drew ?_)

set_option maxRecDepth 100000 in
set_option maxHeartbeats 2000000 in
theorem scale_some (x y n : Int) (w : World) : Calls Tryd.prog 48 #[.agg #[.int .i64 x, .int .i64 y], .int .i64 n] w (SomeVec w) := by
  go_enter Tryd.func48, Tryd.ntmps48
  go_wp2
  refine bodyPost_ret (v := .agg #[.int .i64 _, .int .i64 _]) (by simp [results, Tryd.results48, go_sem]; exact ⟨rfl, rfl⟩) rfl ⟨_, _, rfl, ?_⟩
  repeat (first | exact Below.refl _ _ | refine Below.setCell ?_ (by first | omega | (simp <;> omega)) _ | refine Below.alloc ?_ (by first | omega | (simp <;> omega)) _ | refine bstep ?_ (by assumption) | refine Below.drew ?_)

set_option maxRecDepth 100000 in
set_option maxHeartbeats 2000000 in
theorem drawInvMo_any (a0 : Option Addr) (len cap : Nat) (w : World) (hl : len ≤ 140737488355328) (hB : Bts a0 len w.heap.size w) :
    Calls Tryd.prog 9 #[.slice a0 len cap] w (OneMo w) := by
  go_enter Tryd.func9, Tryd.ntmps9
  go_wp2_with fail
  refine (from_at (w.heap.size + 1) a0 len cap _ (by simp) hl (hB.grow (Below.alloc (Below.refl _ _) (by first | omega | (simp <;> omega)) _) (by omega))).mono ?_
  rintro e w1 ⟨rfl, S1, H1⟩
  have R1 : KM (w.heap.size) 0 0 0 0 0 0 w1 := KM.call (KM.at (w.heap.size) (by simp)) H1
  have B1 : Below w.heap.size w w1 := bstep (Below.alloc (Below.refl _ _) (by first | omega | (simp <;> omega)) _) H1
  clear H1
  go_wp2_with fail
  refine (drawMo_any (w.heap.size + 1) a0 len cap _ S1).mono ?_
  rintro e w2 ⟨a, b, c, d, x, y, rfl, S2, O2⟩
  have R2 := KM.only R1 O2 (by have := B1.size; omega)
  have B2 := bonly B1 O2 (by omega)
  clear S1 O2 B1 R1
  obtain ⟨R2l, R2c0, R2c1, R2c2, R2c3, R2c4, R2c5, R2f0, R2f1, R2f2, R2f3, R2f4, R2f5⟩ := id R2
  go_wp2
  refine bodyPost_ret (v := .agg #[.int .i64 a, .int .i64 b, .int .i64 c, .int .i64 d, .int .i64 x, .int .i64 y]) (by simp [results, Tryd.results9, go_sem, *]) rfl ⟨a, b, c, d, x, y, rfl, ?_⟩
  repeat (first | with_reducible assumption | with_reducible exact Below.refl _ _ | with_reducible refine Below.setCell ?_ (by first | omega | (simp <;> omega)) _ | with_reducible refine Below.alloc ?_ (by first | omega | (simp <;> omega)) _ | with_reducible refine bstep ?_ (by with_reducible assumption) | with_reducible refine Below.drew ?_)

set_option maxRecDepth 100000 in
set_option maxHeartbeats 2000000 in
theorem drawApmo_any (a0 : Option Addr) (len cap : Nat) (w : World) (hl : len ≤ 140737488355328) (hB : Bts a0 len w.heap.size w) :
    Calls Tryd.prog 12 #[.slice a0 len cap] w (MoVec w) := by
  go_enter Tryd.func12, Tryd.ntmps12
  go_wp2_with fail
  refine (from_at (w.heap.size + 1 + 1) a0 len cap _ (by simp) hl (hB.grow (Below.alloc (Below.alloc (Below.refl _ _) (by first | omega | (simp <;> omega)) _) (by first | omega | (simp <;> omega)) _) (by omega))).mono ?_
  rintro e w1 ⟨rfl, S1, H1⟩
  have R1 : KM (w.heap.size) 0 0 0 0 0 0 w1 := KM.call (KM.alloc (KM.at (w.heap.size) (by simp)) _) H1
  have Q1 : KF (w.heap.size + 1) 0 0 w1 := KF.call (KF.at (w.heap.size + 1) (by simp)) H1
  have B1 : Below w.heap.size w w1 := bstep (Below.alloc (Below.alloc (Below.refl _ _) (by first | omega | (simp <;> omega)) _) (by first | omega | (simp <;> omega)) _) H1
  clear H1
  go_wp2_with fail
  refine (drawMo_any (w.heap.size + 1 + 1) a0 len cap _ S1).mono ?_
  rintro e w2 ⟨a, b, c, d, x, y, rfl, S2, O2⟩
  have R2 := KM.only R1 O2 (by have := B1.size; omega)
  have Q2 := KF.only Q1 O2 (by have := B1.size; omega)
  have B2 := bonly B1 O2 (by omega)
  clear S1 O2 B1 R1 Q1
  go_wp2_with fail
  refine (draw_any (w.heap.size + 1 + 1) a0 len cap _ S2).mono ?_
  rintro e w3 ⟨p, q, rfl, S3, O3⟩
  have R3 := KM.only R2 O3 (by have := B2.size; omega)
  have Q3 := KF.only Q2 O3 (by have := B2.size; omega)
  have B3 := bonly B2 O3 (by omega)
  clear S2 O3 B2 R2 Q2
  obtain ⟨R3l, R3c0, R3c1, R3c2, R3c3, R3c4, R3c5, R3f0, R3f1, R3f2, R3f3, R3f4, R3f5⟩ := id R3
  obtain ⟨Q3l, Q3c0, Q3c1, Q3f0, Q3f1⟩ := id Q3
  go_wp2
  refine bodyPost_ret (v := .tuple #[.agg #[.int .i64 a, .int .i64 b, .int .i64 c, .int .i64 d, .int .i64 x, .int .i64 y], .agg #[.int .i64 p, .int .i64 q]]) (by simp [results, Tryd.results12, go_sem, *]) rfl ⟨a, b, c, d, x, y, p, q, rfl, ?_⟩
  repeat (first | with_reducible assumption | with_reducible exact Below.refl _ _ | with_reducible refine Below.setCell ?_ (by first | omega | (simp <;> omega)) _ | with_reducible refine Below.alloc ?_ (by first | omega | (simp <;> omega)) _ | with_reducible refine bstep ?_ (by with_reducible assumption) | with_reducible refine Below.drew ?_)

set_option maxRecDepth 100000 in
set_option maxHeartbeats 2000000 in
theorem drawCmp_any (a0 : Option Addr) (len cap : Nat) (w : World) (hl : len ≤ 140737488355328) (hB : Bts a0 len w.heap.size w) :
    Calls Tryd.prog 6 #[.slice a0 len cap] w (TwoMo w) := by
  go_enter Tryd.func6, Tryd.ntmps6
  go_wp2_with fail
  refine (from_at (w.heap.size + 1 + 1) a0 len cap _ (by simp) hl (hB.grow (Below.alloc (Below.alloc (Below.refl _ _) (by first | omega | (simp <;> omega)) _) (by first | omega | (simp <;> omega)) _) (by omega))).mono ?_
  rintro e w1 ⟨rfl, S1, H1⟩
  have R1 : KM (w.heap.size) 0 0 0 0 0 0 w1 := KM.call (KM.alloc (KM.at (w.heap.size) (by simp)) _) H1
  have Q1 : KM (w.heap.size + 1) 0 0 0 0 0 0 w1 := KM.call (KM.at (w.heap.size + 1) (by simp)) H1
  have B1 : Below w.heap.size w w1 := bstep (Below.alloc (Below.alloc (Below.refl _ _) (by first | omega | (simp <;> omega)) _) (by first | omega | (simp <;> omega)) _) H1
  clear H1
  go_wp2_with fail
  refine (next_any _ (w.heap.size + 1 + 1) a0 len cap _ S1).mono ?_
  rintro e w2 ⟨k, rfl, k0, k1, S2, O2⟩
  have R2 := KM.only R1 O2 (by have := B1.size; omega)
  have Q2 := KM.only Q1 O2 (by have := B1.size; omega)
  have B2 := bonly B1 O2 (by omega)
  clear S1 O2 B1 R1 Q1
  clear k0 k1
  rcases hk : k == 0 with _ | _
  · go_wp2_with fail
    refine (next_any _ (w.heap.size + 1 + 1) a0 len cap _ S2).mono ?_
    rintro e w3 ⟨f, rfl, f0, f1, S3, O3⟩
    have R3 := KM.only R2 O3 (by have := B2.size; omega)
    have Q3 := KM.only Q2 O3 (by have := B2.size; omega)
    have B3 := bonly B2 O3 (by omega)
    clear S2 O3 B2 R2 Q2
    clear f0 f1
    go_wp2_with fail
    refine (drawPm_any _ (w.heap.size + 1 + 1) a0 len cap _ S3).mono ?_
    rintro e w4 ⟨a, b, c, d, rfl, S4, O4⟩
    have R4 := KM.only R3 O4 (by have := B3.size; omega)
    have Q4 := KM.only Q3 O4 (by have := B3.size; omega)
    have B4 := bonly B3 O4 (by omega)
    clear S3 O4 B3 R3 Q3
    go_wp2_with fail
    refine (draw_any (w.heap.size + 1 + 1) a0 len cap _ S4).mono ?_
    rintro e w5 ⟨x, y, rfl, S5, O5⟩
    have R5 := KM.only R4 O5 (by have := B4.size; omega)
    have Q5 := KM.only Q4 O5 (by have := B4.size; omega)
    have B5 := bonly B4 O5 (by omega)
    clear S4 O5 B4 R4 Q4
    go_wp2_with fail
    refine (drawPm_any _ (w.heap.size + 1 + 1) a0 len cap _ S5).mono ?_
    rintro e w6 ⟨a', b', c', d', rfl, S6, O6⟩
    have R6 := KM.only R5 O6 (by have := B5.size; omega)
    have Q6 := KM.only Q5 O6 (by have := B5.size; omega)
    have B6 := bonly B5 O6 (by omega)
    clear S5 O6 B5 R5 Q5
    go_wp2_with fail
    refine (draw_any (w.heap.size + 1 + 1) a0 len cap _ S6).mono ?_
    rintro e w7 ⟨x', y', rfl, S7, O7⟩
    have R7 := KM.only R6 O7 (by have := B6.size; omega)
    have Q7 := KM.only Q6 O7 (by have := B6.size; omega)
    have B7 := bonly B6 O7 (by omega)
    clear S6 O7 B6 R6 Q6
    obtain ⟨R7l, R7c0, R7c1, R7c2, R7c3, R7c4, R7c5, R7f0, R7f1, R7f2, R7f3, R7f4, R7f5⟩ := id R7
    obtain ⟨Q7l, Q7c0, Q7c1, Q7c2, Q7c3, Q7c4, Q7c5, Q7f0, Q7f1, Q7f2, Q7f3, Q7f4, Q7f5⟩ := id Q7
    go_wp2
    refine bodyPost_ret (v := .tuple #[.agg #[.int .i64 a, .int .i64 b, .int .i64 c, .int .i64 d, .int .i64 x, .int .i64 y], .agg #[.int .i64 a', .int .i64 b', .int .i64 c', .int .i64 d', .int .i64 x', .int .i64 y']]) (by simp [results, Tryd.results6, go_sem, *]) rfl ⟨a, b, c, d, x, y, a', b', c', d', x', y', rfl, ?_⟩
    repeat (first | with_reducible assumption | with_reducible exact Below.refl _ _ | with_reducible refine Below.setCell ?_ (by first | omega | (simp <;> omega)) _ | with_reducible refine Below.alloc ?_ (by first | omega | (simp <;> omega)) _ | with_reducible refine bstep ?_ (by with_reducible assumption) | with_reducible refine Below.drew ?_)
  · go_wp2_with fail
    refine (drawMo_any (w.heap.size + 1 + 1) a0 len cap _ S2).mono ?_
    rintro e w3 ⟨a, b, c, d, x, y, rfl, S3, O3⟩
    have R3 := KM.only R2 O3 (by have := B2.size; omega)
    have Q3 := KM.only Q2 O3 (by have := B2.size; omega)
    have B3 := bonly B2 O3 (by omega)
    clear S2 O3 B2 R2 Q2
    go_wp2_with fail
    refine (drawMo_any (w.heap.size + 1 + 1) a0 len cap _ S3).mono ?_
    rintro e w4 ⟨a', b', c', d', x', y', rfl, S4, O4⟩
    have R4 := KM.only R3 O4 (by have := B3.size; omega)
    have Q4 := KM.only Q3 O4 (by have := B3.size; omega)
    have B4 := bonly B3 O4 (by omega)
    clear S3 O4 B3 R3 Q3
    obtain ⟨R4l, R4c0, R4c1, R4c2, R4c3, R4c4, R4c5, R4f0, R4f1, R4f2, R4f3, R4f4, R4f5⟩ := id R4
    obtain ⟨Q4l, Q4c0, Q4c1, Q4c2, Q4c3, Q4c4, Q4c5, Q4f0, Q4f1, Q4f2, Q4f3, Q4f4, Q4f5⟩ := id Q4
    go_wp2
    refine bodyPost_ret (v := .tuple #[.agg #[.int .i64 a, .int .i64 b, .int .i64 c, .int .i64 d, .int .i64 x, .int .i64 y], .agg #[.int .i64 a', .int .i64 b', .int .i64 c', .int .i64 d', .int .i64 x', .int .i64 y']]) (by simp [results, Tryd.results6, go_sem, *]) rfl ⟨a, b, c, d, x, y, a', b', c', d', x', y', rfl, ?_⟩
    repeat (first | with_reducible assumption | with_reducible exact Below.refl _ _ | with_reducible refine Below.setCell ?_ (by first | omega | (simp <;> omega)) _ | with_reducible refine Below.alloc ?_ (by first | omega | (simp <;> omega)) _ | with_reducible refine bstep ?_ (by with_reducible assumption) | with_reducible refine Below.drew ?_)

theorem KF.far5 {R : Nat} {a b : Int} {W : World} {q : Addr} {u : Value} (hq : q.block ≠ R) (h : KF R a b W) : KF R a b (W.setCell q u) :=
  h.only ((Only.refl q.block W).setCell rfl u) (Ne.symm hq)
set_option maxRecDepth 100000 in
set_option maxHeartbeats 2000000 in
theorem drawKnd_any (a0 : Option Addr) (len cap : Nat) (w : World) (hl : len ≤ 140737488355328) (hB : Bts a0 len w.heap.size w) :
    Calls Tryd.prog 17 #[.slice a0 len cap] w (OneMo w) := by
  go_enter Tryd.func17, Tryd.ntmps17
  go_wp2_with fail
  refine (from_at (w.heap.size + 1) a0 len cap _ (by simp) hl (hB.grow (Below.alloc (Below.refl _ _) (by first | omega | (simp <;> omega)) _) (by omega))).mono ?_
  rintro e w1 ⟨rfl, S1, H1⟩
  have R1 : KM (w.heap.size) 0 0 0 0 0 0 w1 := KM.call (KM.at (w.heap.size) (by simp)) H1
  have B1 : Below w.heap.size w w1 := bstep (Below.alloc (Below.refl _ _) (by first | omega | (simp <;> omega)) _) H1
  clear H1
  go_wp2_with fail
  refine (drawMo_any (w.heap.size + 1) a0 len cap _ S1).mono ?_
  rintro e w2 ⟨a, b, c, d, x, y, rfl, S2, O2⟩
  have R2 := KM.only R1 O2 (by have := B1.size; omega)
  have B2 := bonly B1 O2 (by omega)
  clear S1 O2 B1 R1
  go_wp2_with fail
  refine (next_any _ (w.heap.size + 1) a0 len cap _ (S2.alloc _)).mono ?_
  rintro e w3 ⟨k, rfl, k0, k1, S3, O3⟩
  have hpg := S2.lt
  have R3 := KM.only (KM.alloc R2 _) O3 (by have := B2.size; omega)
  have G3 := KM.only (KM.at (w2.heap.size) (by simp) : KM (w2.heap.size) a b c d x y _) O3 (by have := S2.lt; omega)
  have B3 := bonly (Below.alloc B2 (by have := B2.size; first | omega | (simp <;> omega)) _) O3 (by omega)
  clear S2 O3 B2 R2
  clear k0 k1
  rcases hk : k == 0 with _ | _
  · obtain ⟨R3l, R3c0, R3c1, R3c2, R3c3, R3c4, R3c5, R3f0, R3f1, R3f2, R3f3, R3f4, R3f5⟩ := id R3
    obtain ⟨G3l, G3c0, G3c1, G3c2, G3c3, G3c4, G3c5, G3f0, G3f1, G3f2, G3f3, G3f4, G3f5⟩ := id G3
    go_wp2
    refine bodyPost_ret (v := .agg #[.int .i64 a, .int .i64 b, .int .i64 c, .int .i64 d, .int .i64 x, .int .i64 y]) (by simp [results, Tryd.results17, go_sem, *]) rfl ⟨a, b, c, d, x, y, rfl, ?_⟩
    repeat (first | with_reducible assumption | with_reducible exact Below.refl _ _ | with_reducible refine Below.setCell ?_ (by first | omega | (simp <;> omega)) _ | with_reducible refine Below.alloc ?_ (by first | omega | (simp <;> omega)) _ | with_reducible refine bstep ?_ (by with_reducible assumption) | with_reducible refine Below.drew ?_)
  · obtain ⟨G3l, G3c0, G3c1, G3c2, G3c3, G3c4, G3c5, G3f0, G3f1, G3f2, G3f3, G3f4, G3f5⟩ := id G3
    go_wp2_with fail
    refine (det_some _ _ _ _ _).mono ?_
    rintro e w4 ⟨t, rfl, hb4⟩
    have R4 := R3.call hb4
    have G4 := G3.call hb4
    have S4 := S3.call hb4
    have B4 := bstep B3 hb4
    clear hb4 R3 G3 S3 B3 G3l G3c0 G3f0 G3c1 G3f1 G3c2 G3f2 G3c3 G3f3 G3c4 G3f4 G3c5 G3f5
    rcases ht : t == -1 with _ | _
    · obtain ⟨R4l, R4c0, R4c1, R4c2, R4c3, R4c4, R4c5, R4f0, R4f1, R4f2, R4f3, R4f4, R4f5⟩ := id R4
      obtain ⟨G4l, G4c0, G4c1, G4c2, G4c3, G4c4, G4c5, G4f0, G4f1, G4f2, G4f3, G4f4, G4f5⟩ := id G4
      go_wp2
      refine bodyPost_ret (v := .agg #[.int .i64 a, .int .i64 b, .int .i64 c, .int .i64 d, .int .i64 x, .int .i64 y]) (by simp [results, Tryd.results17, go_sem, *]) rfl ⟨a, b, c, d, x, y, rfl, ?_⟩
      repeat (first | with_reducible assumption | with_reducible exact Below.refl _ _ | with_reducible refine Below.setCell ?_ (by first | omega | (simp <;> omega)) _ | with_reducible refine Below.alloc ?_ (by first | omega | (simp <;> omega)) _ | with_reducible refine bstep ?_ (by with_reducible assumption) | with_reducible refine Below.drew ?_)
    · go_wp2_with fail
      refine (draw_any (w.heap.size + 1) a0 len cap _ S4).mono ?_
      rintro e w5 ⟨v0, v1, rfl, S5, O5⟩
      have R5 := KM.only R4 O5 (by have := B4.size; omega)
      have G5 := KM.only G4 O5 (by have := B4.size; omega)
      have B5 := bonly B4 O5 (by omega)
      clear S4 O5 B4 R4 G4
      have hV : KF w5.heap.size v0 v1 (w5.alloc (.cells #[.int .i64 v0, .int .i64 v1] 27)) := KF.at _ rfl
      have G5l := G5.lt
      have R5l := R5.lt
      have B5s := B5.size
      skip
      go_wp2_with fail
      go_region_held3 (fun W => (W.cell? ⟨w2.heap.size, 0, none⟩ = some (.int .i64 a) ∧ W.cell? ⟨w2.heap.size, 1, none⟩ = some (.int .i64 b) ∧ W.cell? ⟨w2.heap.size, 2, none⟩ = some (.int .i64 c) ∧ W.cell? ⟨w2.heap.size, 3, none⟩ = some (.int .i64 d)) ∧ (W.cell? ⟨w5.heap.size, 0, none⟩ = some (.int .i64 v0) ∧ W.cell? ⟨w5.heap.size, 1, none⟩ = some (.int .i64 v1))) ((refine And.intro ?_ ?_; (first | (refine Kq.cells (KM.kq4 (x := x) (y := y) (by repeat (first | with_reducible assumption | with_reducible refine KM.drew ?_ | with_reducible refine KM.alloc ?_ _ | with_reducible refine KM.call ?_ (by with_reducible assumption))) _ _)) | (refine ⟨KM.c0 (x := x) (y := y) (d := d) (c := c) (b := b) ?_, KM.c1 (a := a) (x := x) (y := y) (d := d) (c := c) ?_, KM.c2 (a := a) (b := b) (x := x) (y := y) (d := d) ?_, KM.c3 (a := a) (b := b) (c := c) (x := x) (y := y) ?_⟩ <;> repeat (first | with_reducible assumption | with_reducible refine KM.drew ?_ | with_reducible refine KM.alloc ?_ _ | with_reducible refine KM.call ?_ (by with_reducible assumption))) | fail); (refine And.intro (KF.c0 (b := v1) ?_) (KF.c1 (a := v0) ?_) <;> repeat (first | with_reducible assumption | with_reducible refine KF.drew ?_ | with_reducible refine KF.alloc ?_ _ | with_reducible refine KF.call ?_ (by with_reducible assumption) | ((with_reducible refine KF.far5 ?_ ?_); (first | omega | (dsimp only; omega)))))))
        (first
          | (go_at_call 49; ((with_reducible refine (app_some _ _ _ _ _ _ _).mono ?_); rintro e w6 ⟨p1, q1, rfl, hb6⟩; have G6 : KM w2.heap.size a b c d x y w6 := (by repeat (first | with_reducible assumption | with_reducible refine KM.drew ?_ | with_reducible refine KM.alloc ?_ _ | with_reducible refine KM.call ?_ (by with_reducible assumption))); have R6 : KM w.heap.size 0 0 0 0 0 0 w6 := (by repeat (first | with_reducible assumption | with_reducible refine KM.drew ?_ | with_reducible refine KM.alloc ?_ _ | with_reducible refine KM.call ?_ (by with_reducible assumption))); have V6 : KF w5.heap.size v0 v1 w6 := (by repeat (first | with_reducible assumption | with_reducible refine KF.drew ?_ | with_reducible refine KF.alloc ?_ _ | with_reducible refine KF.call ?_ (by with_reducible assumption))); have B6 : Below w.heap.size w w6 := (by repeat (first | with_reducible assumption | with_reducible exact Below.refl _ _ | with_reducible refine Below.setCell ?_ (by first | omega | (simp <;> omega)) _ | with_reducible refine Below.alloc ?_ (by first | omega | (simp <;> omega)) _ | with_reducible refine bstep ?_ (by with_reducible assumption) | with_reducible refine Below.drew ?_)); obtain ⟨G6l, G6c0, G6c1, G6c2, G6c3, G6c4, G6c5, G6f0, G6f1, G6f2, G6f3, G6f4, G6f5⟩ := id G6; have V6l := V6.lt))
          | (go_at_call 48; ((with_reducible refine (scale_some _ _ _ _).mono ?_); rintro e w7 ⟨p2, q2, rfl, hb7⟩; have G7 : KM w2.heap.size a b c d x y w7 := (by repeat (first | with_reducible assumption | with_reducible refine KM.drew ?_ | with_reducible refine KM.alloc ?_ _ | with_reducible refine KM.call ?_ (by with_reducible assumption))); have R7 : KM w.heap.size 0 0 0 0 0 0 w7 := (by repeat (first | with_reducible assumption | with_reducible refine KM.drew ?_ | with_reducible refine KM.alloc ?_ _ | with_reducible refine KM.call ?_ (by with_reducible assumption))); have V7 : KF w5.heap.size v0 v1 w7 := (by repeat (first | with_reducible assumption | with_reducible refine KF.drew ?_ | with_reducible refine KF.alloc ?_ _ | with_reducible refine KF.call ?_ (by with_reducible assumption))); have B7 : Below w.heap.size w w7 := (by repeat (first | with_reducible assumption | with_reducible exact Below.refl _ _ | with_reducible refine Below.setCell ?_ (by first | omega | (simp <;> omega)) _ | with_reducible refine Below.alloc ?_ (by first | omega | (simp <;> omega)) _ | with_reducible refine bstep ?_ (by with_reducible assumption) | with_reducible refine Below.drew ?_)); obtain ⟨G7l, G7c0, G7c1, G7c2, G7c3, G7c4, G7c5, G7f0, G7f1, G7f2, G7f3, G7f4, G7f5⟩ := id G7; have V7l := V7.lt))
          | (go_at_call 47; ((with_reducible refine (add_some _ _ _ _ _).mono ?_); rintro e w8 ⟨p3, q3, rfl, hb8⟩; have G8 : KM w2.heap.size a b c d x y w8 := (by repeat (first | with_reducible assumption | with_reducible refine KM.drew ?_ | with_reducible refine KM.alloc ?_ _ | with_reducible refine KM.call ?_ (by with_reducible assumption))); have R8 : KM w.heap.size 0 0 0 0 0 0 w8 := (by repeat (first | with_reducible assumption | with_reducible refine KM.drew ?_ | with_reducible refine KM.alloc ?_ _ | with_reducible refine KM.call ?_ (by with_reducible assumption))); have V8 : KF w5.heap.size v0 v1 w8 := (by repeat (first | with_reducible assumption | with_reducible refine KF.drew ?_ | with_reducible refine KF.alloc ?_ _ | with_reducible refine KF.call ?_ (by with_reducible assumption))); have B8 : Below w.heap.size w w8 := (by repeat (first | with_reducible assumption | with_reducible exact Below.refl _ _ | with_reducible refine Below.setCell ?_ (by first | omega | (simp <;> omega)) _ | with_reducible refine Below.alloc ?_ (by first | omega | (simp <;> omega)) _ | with_reducible refine bstep ?_ (by with_reducible assumption) | with_reducible refine Below.drew ?_)); obtain ⟨G8l, G8c0, G8c1, G8c2, G8c3, G8c4, G8c5, G8f0, G8f1, G8f2, G8f3, G8f4, G8f5⟩ := id G8; have V8l := V8.lt)))
      all_goals
        have G9 := KM.storeT G8 p3 q3
        have R9 : KM w.heap.size 0 0 0 0 0 0 ((w8.setCell ⟨w2.heap.size, 4, none⟩ (.int .i64 p3)).setCell ⟨w2.heap.size, 5, none⟩ (.int .i64 q3)) := by repeat (first | with_reducible assumption | with_reducible refine KM.drew ?_ | ((with_reducible refine KM.far ?_ ?_); (first | omega | (dsimp only; omega))))
        obtain ⟨G9l, G9c0, G9c1, G9c2, G9c3, G9c4, G9c5, G9f0, G9f1, G9f2, G9f3, G9f4, G9f5⟩ := G9
        obtain ⟨R9l, R9c0, R9c1, R9c2, R9c3, R9c4, R9c5, R9f0, R9f1, R9f2, R9f3, R9f4, R9f5⟩ := R9
        go_wp2
        refine bodyPost_ret (v := .agg #[.int .i64 a, .int .i64 b, .int .i64 c, .int .i64 d, .int .i64 p3, .int .i64 q3]) (by simp [results, Tryd.results17, go_sem, *]) rfl ⟨a, b, c, d, p3, q3, rfl, ?_⟩
        repeat (first | with_reducible assumption | with_reducible exact Below.refl _ _ | with_reducible refine Below.setCell ?_ (by first | omega | (simp <;> omega)) _ | with_reducible refine Below.alloc ?_ (by first | omega | (simp <;> omega)) _ | with_reducible refine bstep ?_ (by with_reducible assumption) | with_reducible refine Below.drew ?_)

set_option maxRecDepth 100000 in
set_option maxHeartbeats 2000000 in
theorem drawTwg_any (a0 : Option Addr) (len cap : Nat) (w : World) (hl : len ≤ 140737488355328) (hB : Bts a0 len w.heap.size w) :
    Calls Tryd.prog 22 #[.slice a0 len cap] w (OneMo w) := by
  go_enter Tryd.func22, Tryd.ntmps22
  go_wp2_with fail
  refine (from_at (w.heap.size + 1) a0 len cap _ (by simp) hl (hB.grow (Below.alloc (Below.refl _ _) (by first | omega | (simp <;> omega)) _) (by omega))).mono ?_
  rintro e w1 ⟨rfl, S1, H1⟩
  have R1 : KM (w.heap.size) 0 0 0 0 0 0 w1 := KM.call (KM.at (w.heap.size) (by simp)) H1
  have B1 : Below w.heap.size w w1 := bstep (Below.alloc (Below.refl _ _) (by first | omega | (simp <;> omega)) _) H1
  clear H1
  go_wp2_with fail
  refine (drawMo_any (w.heap.size + 1) a0 len cap _ S1).mono ?_
  rintro e w2 ⟨a, b, c, d, x, y, rfl, S2, O2⟩
  have R2 := KM.only R1 O2 (by have := B1.size; omega)
  have B2 := bonly B1 O2 (by omega)
  clear S1 O2 B1 R1
  have hRG : w.heap.size < w2.heap.size := R2.lt
  have hpg := S2.lt
  have G2 : KM w2.heap.size a b c d x y (w2.alloc (.cells #[.int .i64 a, .int .i64 b, .int .i64 c, .int .i64 d, .int .i64 x, .int .i64 y] 29)) := KM.at _ rfl
  go_wp2_with fail
  refine (det_some _ _ _ _ _).mono ?_
  rintro e w3 ⟨t, rfl, hb3⟩
  have R3 := (R2.alloc _).call hb3
  have G3 := G2.call hb3
  have S3 := (S2.alloc _).call hb3
  have B3 := bstep (Below.alloc B2 (by have := B2.size; first | omega | (simp <;> omega)) _) hb3
  clear hb3 R2 G2 S2 B2
  rcases ht : t == 1 with _ | _
  · obtain ⟨R3l, R3c0, R3c1, R3c2, R3c3, R3c4, R3c5, R3f0, R3f1, R3f2, R3f3, R3f4, R3f5⟩ := id R3
    obtain ⟨G3l, G3c0, G3c1, G3c2, G3c3, G3c4, G3c5, G3f0, G3f1, G3f2, G3f3, G3f4, G3f5⟩ := id G3
    go_wp2
    refine bodyPost_ret (v := .agg #[.int .i64 a, .int .i64 b, .int .i64 c, .int .i64 d, .int .i64 x, .int .i64 y]) (by simp [results, Tryd.results22, go_sem, *]) rfl ⟨a, b, c, d, x, y, rfl, ?_⟩
    repeat (first | with_reducible assumption | with_reducible exact Below.refl _ _ | with_reducible refine Below.setCell ?_ (by first | omega | (simp <;> omega)) _ | with_reducible refine Below.alloc ?_ (by first | omega | (simp <;> omega)) _ | with_reducible refine bstep ?_ (by with_reducible assumption) | with_reducible refine Below.drew ?_)
  · go_wp2_with fail
    refine (next_any _ (w.heap.size + 1) a0 len cap _ S3).mono ?_
    rintro e w4 ⟨k, rfl, k0, k1, S4, O4⟩
    have R4 := KM.only R3 O4 (by have := B3.size; omega)
    have G4 := KM.only G3 O4 (by have := B3.size; omega)
    have B4 := bonly B3 O4 (by omega)
    clear S3 O4 B3 R3 G3
    by_cases hk : k > 0
    · obtain ⟨G4l, G4c0, G4c1, G4c2, G4c3, G4c4, G4c5, G4f0, G4f1, G4f2, G4f3, G4f4, G4f5⟩ := id G4
      go_wp2_with fail
      refine (mul_some _ _ _ _ _ _ _ _ _).mono ?_
      rintro e w5 ⟨p1, q1, r1, s1, rfl, hb5⟩
      have R5 := R4.call hb5
      have G5 := G4.call hb5
      have B5 := bstep B4 hb5
      clear hb5 G4c0 G4f0 G4c1 G4f1 G4c2 G4f2 G4c3 G4f3 G4c4 G4f4 G4c5 G4f5
      obtain ⟨G5l, G5c0, G5c1, G5c2, G5c3, G5c4, G5c5, G5f0, G5f1, G5f2, G5f3, G5f4, G5f5⟩ := id G5
      have R5l := R5.lt
      have hGR : w.heap.size < w2.heap.size := by have := hRG; omega
      obtain ⟨R5l, R5c0, R5c1, R5c2, R5c3, R5c4, R5c5, R5f0, R5f1, R5f2, R5f3, R5f4, R5f5⟩ := id R5
      go_wp2
      refine bodyPost_ret (v := .agg #[.int .i64 p1, .int .i64 q1, .int .i64 r1, .int .i64 s1, .int .i64 x, .int .i64 y]) (by simp [results, Tryd.results22, go_sem, *]) rfl ⟨p1, q1, r1, s1, x, y, rfl, ?_⟩
      repeat (first | with_reducible assumption | with_reducible exact Below.refl _ _ | with_reducible refine Below.setCell ?_ (by first | omega | (simp <;> omega)) _ | with_reducible refine Below.alloc ?_ (by first | omega | (simp <;> omega)) _ | with_reducible refine bstep ?_ (by with_reducible assumption) | with_reducible refine Below.drew ?_)
    · obtain ⟨R4l, R4c0, R4c1, R4c2, R4c3, R4c4, R4c5, R4f0, R4f1, R4f2, R4f3, R4f4, R4f5⟩ := id R4
      obtain ⟨G4l, G4c0, G4c1, G4c2, G4c3, G4c4, G4c5, G4f0, G4f1, G4f2, G4f3, G4f4, G4f5⟩ := id G4
      go_wp2
      refine bodyPost_ret (v := .agg #[.int .i64 a, .int .i64 b, .int .i64 c, .int .i64 d, .int .i64 x, .int .i64 y]) (by simp [results, Tryd.results22, go_sem, *]) rfl ⟨a, b, c, d, x, y, rfl, ?_⟩
      repeat (first | with_reducible assumption | with_reducible exact Below.refl _ _ | with_reducible refine Below.setCell ?_ (by first | omega | (simp <;> omega)) _ | with_reducible refine Below.alloc ?_ (by first | omega | (simp <;> omega)) _ | with_reducible refine bstep ?_ (by with_reducible assumption) | with_reducible refine Below.drew ?_)

end Go.Proofs.YtpdekopmnchanabDoor
