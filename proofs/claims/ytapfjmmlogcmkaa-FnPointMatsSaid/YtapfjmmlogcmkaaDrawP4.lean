/-
  The draws of frames with a vector, a matrix, a lattice (chapter 4). Condition: the code's bytes can be read, at most 2^47 of them.
-/
import Derived.Test.YtapfjmmlogcmkaaDrawNr
import Derived.Test.YtapfjmmlogcmkaaDrawL1
import Derived.Test.YtapfjmmlogcmkaaDrawPm
import Derived.Test.YtapfjmmlogcmkaaDrawsM2p
namespace Go.Proofs.Ytapfjmmlogcmkaa
open Go.RowKit
set_option linter.unusedSimpArgs false
set_option linter.unusedVariables false

def OneInt5 (w : World) (e : Ending) (w' : World) : Prop := ∃ f : Int, e = .returned (.int .i64 f) ∧ Below w.heap.size w w'
def FrVec (w : World) (e : Ending) (w' : World) : Prop := ∃ f x y : Int, e = .returned (.tuple #[.int .i64 f, .agg #[.int .i64 x, .int .i64 y]]) ∧ Below w.heap.size w w'
def FrMat (w : World) (e : Ending) (w' : World) : Prop := ∃ f a b c d : Int, e = .returned (.tuple #[.int .i64 f, .agg #[.int .i64 a, .int .i64 b, .int .i64 c, .int .i64 d]]) ∧ Below w.heap.size w w'
def FrMatLat (w : World) (e : Ending) (w' : World) : Prop := ∃ f a b c d p q r : Int, e = .returned (.tuple #[.int .i64 f, .agg #[.int .i64 a, .int .i64 b, .int .i64 c, .int .i64 d], .agg #[.int .i64 p, .int .i64 q, .int .i64 r]]) ∧ Below w.heap.size w w'
set_option maxRecDepth 100000 in
set_option maxHeartbeats 8000000 in
theorem drawPms_any (a0 : Option Addr) (len cap : Nat) (w : World) (hl : len ≤ 140737488355328) (hB : Bts a0 len w.heap.size w) :
    Calls Try.prog 17 #[.slice a0 len cap] w (OneInt5 w) := by
  go_enter Try.func17, Try.ntmps17
  go_wp2_with fail
  refine (from_at w.heap.size a0 len cap _ rfl hl hB).mono ?_
  rintro e w1 ⟨rfl, S1, H1⟩
  have B1 : Below w.heap.size w w1 := bstep (Below.refl _ _) H1
  clear H1
  go_wp2_with fail
  refine (drawFrame_any (w.heap.size) a0 len cap _ S1).mono ?_
  rintro e w2 ⟨f, rfl, S2, O2⟩
  have B2 := bonly B1 O2 (by omega)
  clear S1 O2 B1
  go_wp2
  go_ret
  exact ⟨f, rfl, B2⟩

set_option maxRecDepth 100000 in
set_option maxHeartbeats 8000000 in
theorem drawNo_any (a0 : Option Addr) (len cap : Nat) (w : World) (hl : len ≤ 140737488355328) (hB : Bts a0 len w.heap.size w) :
    Calls Try.prog 20 #[.slice a0 len cap] w (FrVec w) := by
  go_enter Try.func20, Try.ntmps20
  go_wp2_with fail
  refine (from_at (w.heap.size + 1) a0 len cap _ (by simp) hl (hB.grow (Below.alloc (Below.refl _ _) (by first | omega | (simp <;> omega)) _) (by omega))).mono ?_
  rintro e w1 ⟨rfl, S1, H1⟩
  have Q1 : KF (w.heap.size) 0 0 w1 := KF.call (KF.at (w.heap.size) (by simp)) H1
  have B1 : Below w.heap.size w w1 := bstep (Below.alloc (Below.refl _ _) (by first | omega | (simp <;> omega)) _) H1
  clear H1
  go_wp2_with fail
  refine (drawFrame_any (w.heap.size + 1) a0 len cap _ S1).mono ?_
  rintro e w2 ⟨f, rfl, S2, O2⟩
  have Q2 := KF.only Q1 O2 (by have := B1.size; omega)
  have B2 := bonly B1 O2 (by omega)
  clear S1 O2 B1 Q1
  go_wp2_with fail
  refine (draw_any (w.heap.size + 1) a0 len cap _ S2).mono ?_
  rintro e w3 ⟨x, y, rfl, S3, O3⟩
  have Q3 := KF.only Q2 O3 (by have := B2.size; omega)
  have B3 := bonly B2 O3 (by omega)
  clear S2 O3 B2 Q2
  obtain ⟨Q3l, Q3c0, Q3c1, Q3f0, Q3f1⟩ := id Q3
  go_wp2
  refine bodyPost_ret (v := .tuple #[.int .i64 f, .agg #[.int .i64 x, .int .i64 y]]) (by simp [results, Try.results20, go_sem, *]) rfl ⟨f, x, y, rfl, ?_⟩
  repeat (first | with_reducible assumption | with_reducible exact Below.refl _ _ | with_reducible refine Below.setCell ?_ (by first | omega | (simp <;> omega)) _ | with_reducible refine Below.alloc ?_ (by first | omega | (simp <;> omega)) _ | with_reducible refine bstep ?_ (by with_reducible assumption) | with_reducible refine Below.drew ?_)

set_option maxRecDepth 100000 in
set_option maxHeartbeats 8000000 in
theorem drawIp_any (a0 : Option Addr) (len cap : Nat) (w : World) (hl : len ≤ 140737488355328) (hB : Bts a0 len w.heap.size w) :
    Calls Try.prog 23 #[.slice a0 len cap] w (FrMat w) := by
  go_enter Try.func23, Try.ntmps23
  go_wp2_with fail
  refine (from_at (w.heap.size + 1) a0 len cap _ (by simp) hl (hB.grow (Below.alloc (Below.refl _ _) (by first | omega | (simp <;> omega)) _) (by omega))).mono ?_
  rintro e w1 ⟨rfl, S1, H1⟩
  have R1 : KR (w.heap.size) 0 0 0 0 w1 := KR.call (KR.at (w.heap.size) (by simp)) H1
  have B1 : Below w.heap.size w w1 := bstep (Below.alloc (Below.refl _ _) (by first | omega | (simp <;> omega)) _) H1
  clear H1
  go_wp2_with fail
  refine (drawFrame_any (w.heap.size + 1) a0 len cap _ S1).mono ?_
  rintro e w2 ⟨f, rfl, S2, O2⟩
  have R2 := KR.only R1 O2 (by have := B1.size; omega)
  have B2 := bonly B1 O2 (by omega)
  clear S1 O2 B1 R1
  go_wp2_with fail
  refine (next_any _ (w.heap.size + 1) a0 len cap _ S2).mono ?_
  rintro e w3 ⟨k, rfl, k0, k1, S3, O3⟩
  have R3 := KR.only R2 O3 (by have := B2.size; omega)
  have B3 := bonly B2 O3 (by omega)
  clear S2 O3 B2 R2
  clear k0 k1
  rcases hk : k == 0 with _ | _
  · go_wp2_with fail
    refine (drawMat_any (w.heap.size + 1) a0 len cap _ S3).mono ?_
    rintro e w4 ⟨a, b, c, d, rfl, S4, O4⟩
    have R4 := KR.only R3 O4 (by have := B3.size; omega)
    have B4 := bonly B3 O4 (by omega)
    clear S3 O4 B3 R3
    obtain ⟨R4l, R4c0, R4c1, R4c2, R4c3, R4f0, R4f1, R4f2, R4f3⟩ := id R4
    go_wp2
    refine bodyPost_ret (v := .tuple #[.int .i64 f, .agg #[.int .i64 a, .int .i64 b, .int .i64 c, .int .i64 d]]) (by simp [results, Try.results23, go_sem, *]) rfl ⟨f, a, b, c, d, rfl, ?_⟩
    repeat (first | with_reducible assumption | with_reducible exact Below.refl _ _ | with_reducible refine Below.setCell ?_ (by first | omega | (simp <;> omega)) _ | with_reducible refine Below.alloc ?_ (by first | omega | (simp <;> omega)) _ | with_reducible refine bstep ?_ (by with_reducible assumption) | with_reducible refine Below.drew ?_)
  · go_wp2_with fail
    refine (drawPm_any _ (w.heap.size + 1) a0 len cap _ S3).mono ?_
    rintro e w4 ⟨a, b, c, d, rfl, S4, O4⟩
    have R4 := KR.only R3 O4 (by have := B3.size; omega)
    have B4 := bonly B3 O4 (by omega)
    clear S3 O4 B3 R3
    obtain ⟨R4l, R4c0, R4c1, R4c2, R4c3, R4f0, R4f1, R4f2, R4f3⟩ := id R4
    go_wp2
    refine bodyPost_ret (v := .tuple #[.int .i64 f, .agg #[.int .i64 a, .int .i64 b, .int .i64 c, .int .i64 d]]) (by simp [results, Try.results23, go_sem, *]) rfl ⟨f, a, b, c, d, rfl, ?_⟩
    repeat (first | with_reducible assumption | with_reducible exact Below.refl _ _ | with_reducible refine Below.setCell ?_ (by first | omega | (simp <;> omega)) _ | with_reducible refine Below.alloc ?_ (by first | omega | (simp <;> omega)) _ | with_reducible refine bstep ?_ (by with_reducible assumption) | with_reducible refine Below.drew ?_)

set_option maxRecDepth 100000 in
set_option maxHeartbeats 8000000 in
theorem drawMl_any (a0 : Option Addr) (len cap : Nat) (w : World) (hl : len ≤ 140737488355328) (hB : Bts a0 len w.heap.size w) :
    Calls Try.prog 24 #[.slice a0 len cap] w (FrMatLat w) := by
  go_enter Try.func24, Try.ntmps24
  go_wp2_with fail
  refine (from_at (w.heap.size + 1 + 1) a0 len cap _ (by simp) hl (hB.grow (Below.alloc (Below.alloc (Below.refl _ _) (by first | omega | (simp <;> omega)) _) (by first | omega | (simp <;> omega)) _) (by omega))).mono ?_
  rintro e w1 ⟨rfl, S1, H1⟩
  have R1 : KR (w.heap.size) 0 0 0 0 w1 := KR.call (KR.alloc (KR.at (w.heap.size) (by simp)) _) H1
  have Q1 : KL (w.heap.size + 1) 0 0 0 w1 := KL.call (KL.at (w.heap.size + 1) (by simp)) H1
  have B1 : Below w.heap.size w w1 := bstep (Below.alloc (Below.alloc (Below.refl _ _) (by first | omega | (simp <;> omega)) _) (by first | omega | (simp <;> omega)) _) H1
  clear H1
  go_wp2_with fail
  refine (drawFrame_any (w.heap.size + 1 + 1) a0 len cap _ S1).mono ?_
  rintro e w2 ⟨f, rfl, S2, O2⟩
  have R2 := KR.only R1 O2 (by have := B1.size; omega)
  have Q2 := KL.only Q1 O2 (by have := B1.size; omega)
  have B2 := bonly B1 O2 (by omega)
  clear S1 O2 B1 R1 Q1
  go_wp2_with fail
  refine (next_any _ (w.heap.size + 1 + 1) a0 len cap _ S2).mono ?_
  rintro e w3 ⟨k, rfl, k0, k1, S3, O3⟩
  have R3 := KR.only R2 O3 (by have := B2.size; omega)
  have Q3 := KL.only Q2 O3 (by have := B2.size; omega)
  have B3 := bonly B2 O3 (by omega)
  clear S2 O3 B2 R2 Q2
  clear k0 k1
  rcases hk : k == 0 with _ | _
  · go_wp2_with fail
    refine (drawPm_any _ (w.heap.size + 1 + 1) a0 len cap _ S3).mono ?_
    rintro e w4 ⟨a, b, c, d, rfl, S4, O4⟩
    have R4 := KR.only R3 O4 (by have := B3.size; omega)
    have Q4 := KL.only Q3 O4 (by have := B3.size; omega)
    have B4 := bonly B3 O4 (by omega)
    clear S3 O4 B3 R3 Q3
    go_wp2_with fail
    refine (drawLat_any (w.heap.size + 1 + 1) a0 len cap _ S4).mono ?_
    rintro e w5 ⟨p, q, r, rfl, S5, O5⟩
    have R5 := KR.only R4 O5 (by have := B4.size; omega)
    have Q5 := KL.only Q4 O5 (by have := B4.size; omega)
    have B5 := bonly B4 O5 (by omega)
    clear S4 O5 B4 R4 Q4
    obtain ⟨R5l, R5c0, R5c1, R5c2, R5c3, R5f0, R5f1, R5f2, R5f3⟩ := id R5
    obtain ⟨Q5l, Q5c0, Q5c1, Q5c2, Q5f0, Q5f1, Q5f2⟩ := id Q5
    go_wp2
    refine bodyPost_ret (v := .tuple #[.int .i64 f, .agg #[.int .i64 a, .int .i64 b, .int .i64 c, .int .i64 d], .agg #[.int .i64 p, .int .i64 q, .int .i64 r]]) (by simp [results, Try.results24, go_sem, *]) rfl ⟨f, a, b, c, d, p, q, r, rfl, ?_⟩
    repeat (first | with_reducible assumption | with_reducible exact Below.refl _ _ | with_reducible refine Below.setCell ?_ (by first | omega | (simp <;> omega)) _ | with_reducible refine Below.alloc ?_ (by first | omega | (simp <;> omega)) _ | with_reducible refine bstep ?_ (by with_reducible assumption) | with_reducible refine Below.drew ?_)
  · go_wp2_with fail
    refine (drawMat_any (w.heap.size + 1 + 1) a0 len cap _ S3).mono ?_
    rintro e w4 ⟨a, b, c, d, rfl, S4, O4⟩
    have R4 := KR.only R3 O4 (by have := B3.size; omega)
    have Q4 := KL.only Q3 O4 (by have := B3.size; omega)
    have B4 := bonly B3 O4 (by omega)
    clear S3 O4 B3 R3 Q3
    go_wp2_with fail
    refine (drawLat_any (w.heap.size + 1 + 1) a0 len cap _ S4).mono ?_
    rintro e w5 ⟨p, q, r, rfl, S5, O5⟩
    have R5 := KR.only R4 O5 (by have := B4.size; omega)
    have Q5 := KL.only Q4 O5 (by have := B4.size; omega)
    have B5 := bonly B4 O5 (by omega)
    clear S4 O5 B4 R4 Q4
    obtain ⟨R5l, R5c0, R5c1, R5c2, R5c3, R5f0, R5f1, R5f2, R5f3⟩ := id R5
    obtain ⟨Q5l, Q5c0, Q5c1, Q5c2, Q5f0, Q5f1, Q5f2⟩ := id Q5
    go_wp2
    refine bodyPost_ret (v := .tuple #[.int .i64 f, .agg #[.int .i64 a, .int .i64 b, .int .i64 c, .int .i64 d], .agg #[.int .i64 p, .int .i64 q, .int .i64 r]]) (by simp [results, Try.results24, go_sem, *]) rfl ⟨f, a, b, c, d, p, q, r, rfl, ?_⟩
    repeat (first | with_reducible assumption | with_reducible exact Below.refl _ _ | with_reducible refine Below.setCell ?_ (by first | omega | (simp <;> omega)) _ | with_reducible refine Below.alloc ?_ (by first | omega | (simp <;> omega)) _ | with_reducible refine bstep ?_ (by with_reducible assumption) | with_reducible refine Below.drew ?_)

end Go.Proofs.Ytapfjmmlogcmkaa
