/-
  The functions of the model that draw arguments for chapter 2: each returns some matrices, vectors or numbers and turns nothing that was there. Condition: the code's bytes can be read, at most 2^47 of them.
-/
import Derived.Test.YtcphadkgmchnfaaDoorDrawsM2
import Derived.Test.YtcphadkgmchnfaaDoorDraws1
namespace Go.Proofs.YtcphadkgmchnfaaDoor
open Go.RowKit
set_option linter.unusedSimpArgs false
set_option linter.unusedVariables false

def OneMat (w : World) (e : Ending) (w' : World) : Prop := ∃ a b c d : Int, e = .returned (.agg #[.int .i64 a, .int .i64 b, .int .i64 c, .int .i64 d]) ∧ Below w.heap.size w w'
def TwoMats (w : World) (e : Ending) (w' : World) : Prop := ∃ a b c d a' b' c' d' : Int, e = .returned (.tuple #[.agg #[.int .i64 a, .int .i64 b, .int .i64 c, .int .i64 d], .agg #[.int .i64 a', .int .i64 b', .int .i64 c', .int .i64 d']]) ∧ Below w.heap.size w w'
def MatVec (w : World) (e : Ending) (w' : World) : Prop := ∃ a b c d x y : Int, e = .returned (.tuple #[.agg #[.int .i64 a, .int .i64 b, .int .i64 c, .int .i64 d], .agg #[.int .i64 x, .int .i64 y]]) ∧ Below w.heap.size w w'
def MatInt (w : World) (e : Ending) (w' : World) : Prop := ∃ a b c d n : Int, e = .returned (.tuple #[.agg #[.int .i64 a, .int .i64 b, .int .i64 c, .int .i64 d], .int .i64 n]) ∧ Below w.heap.size w w'

set_option maxHeartbeats 6000000 in
theorem drawOrder_any (a0 : Option Addr) (len cap : Nat) (w : World) (hl : len ≤ 140737488355328) (hB : Bts a0 len w.heap.size w) :
    Calls Tryd.prog 9 #[.slice a0 len cap] w (OneMat w) := by
  go_enter Tryd.func9, Tryd.ntmps9
  go_wp2_with fail
  refine (from_at (w.heap.size + 1) a0 len cap _ (by simp) hl (hB.grow (Below.alloc (Below.refl _ _) (by first | omega | (simp <;> omega)) _) (by omega))).mono ?_
  rintro e w1 ⟨rfl, S1, H1⟩
  have B1 : Below w.heap.size w w1 := bstep (Below.alloc (Below.refl _ _) (by first | omega | (simp <;> omega)) _) H1
  have R1 : KR (w.heap.size) 0 0 0 0 w1 := KR.call (KR.at (w.heap.size) (by simp)) H1
  clear H1
  go_wp2_with fail
  refine (drawMat_any (w.heap.size + 1) a0 len cap _ (S1)).mono ?_
  rintro e w2 ⟨a, b, c, d, rfl, S2, O2⟩
  have R2 := (R1).only O2 (by omega)
  have B2 := bonly (B1) O2 (by omega)
  clear S1 O2 B1 R1
  obtain ⟨r0, r1, r2, r3, r4, r5, r6, r7, r8⟩ := id R2
  go_wp2
  refine bodyPost_ret (v := .agg #[.int .i64 a, .int .i64 b, .int .i64 c, .int .i64 d]) (by simp [results, Tryd.results9, go_sem, r1, r2, r3, r4]) rfl ⟨a, b, c, d, rfl, ?_⟩
  repeat (first | assumption | refine Below.setCell ?_ (by first | omega | (simp <;> omega)) _ | refine Below.alloc ?_ (by first | omega | (simp <;> omega)) _ | refine Below.drew ?_)

set_option maxHeartbeats 6000000 in
theorem drawKind_any (a0 : Option Addr) (len cap : Nat) (w : World) (hl : len ≤ 140737488355328) (hB : Bts a0 len w.heap.size w) :
    Calls Tryd.prog 15 #[.slice a0 len cap] w (OneMat w) := by
  go_enter Tryd.func15, Tryd.ntmps15
  go_wp2_with fail
  refine (from_at (w.heap.size + 1) a0 len cap _ (by simp) hl (hB.grow (Below.alloc (Below.refl _ _) (by first | omega | (simp <;> omega)) _) (by omega))).mono ?_
  rintro e w1 ⟨rfl, S1, H1⟩
  have B1 : Below w.heap.size w w1 := bstep (Below.alloc (Below.refl _ _) (by first | omega | (simp <;> omega)) _) H1
  have R1 : KR (w.heap.size) 0 0 0 0 w1 := KR.call (KR.at (w.heap.size) (by simp)) H1
  clear H1
  go_wp2_with fail
  refine (drawMat_any (w.heap.size + 1) a0 len cap _ (S1)).mono ?_
  rintro e w2 ⟨a, b, c, d, rfl, S2, O2⟩
  have R2 := (R1).only O2 (by omega)
  have B2 := bonly (B1) O2 (by omega)
  clear S1 O2 B1 R1
  obtain ⟨r0, r1, r2, r3, r4, r5, r6, r7, r8⟩ := id R2
  go_wp2
  refine bodyPost_ret (v := .agg #[.int .i64 a, .int .i64 b, .int .i64 c, .int .i64 d]) (by simp [results, Tryd.results15, go_sem, r1, r2, r3, r4]) rfl ⟨a, b, c, d, rfl, ?_⟩
  repeat (first | assumption | refine Below.setCell ?_ (by first | omega | (simp <;> omega)) _ | refine Below.alloc ?_ (by first | omega | (simp <;> omega)) _ | refine Below.drew ?_)

set_option maxHeartbeats 6000000 in
theorem drawPow_any (a0 : Option Addr) (len cap : Nat) (w : World) (hl : len ≤ 140737488355328) (hB : Bts a0 len w.heap.size w) :
    Calls Tryd.prog 12 #[.slice a0 len cap] w (MatInt w) := by
  go_enter Tryd.func12, Tryd.ntmps12
  go_wp2_with fail
  refine (from_at (w.heap.size + 1) a0 len cap _ (by simp) hl (hB.grow (Below.alloc (Below.refl _ _) (by first | omega | (simp <;> omega)) _) (by omega))).mono ?_
  rintro e w1 ⟨rfl, S1, H1⟩
  have B1 : Below w.heap.size w w1 := bstep (Below.alloc (Below.refl _ _) (by first | omega | (simp <;> omega)) _) H1
  have R1 : KR (w.heap.size) 0 0 0 0 w1 := KR.call (KR.at (w.heap.size) (by simp)) H1
  clear H1
  go_wp2_with fail
  refine (next_any _ (w.heap.size + 1) a0 len cap _ (S1)).mono ?_
  rintro e w2 ⟨x, rfl, x0, x1, S2, O2⟩
  have R2 := (R1).only O2 (by omega)
  have B2 := bonly (B1) O2 (by omega)
  clear S1 O2 B1 R1
  rcases hx : x == 0 with _ | _
  · go_wp2_with fail
    refine (drawMat_any (w.heap.size + 1) a0 len cap _ (S2)).mono ?_
    rintro e w3 ⟨a, b, c, d, rfl, S3, O3⟩
    have R3 := (R2).only O3 (by omega)
    have B3 := bonly (B2) O3 (by omega)
    clear S2 O3 B2 R2
    go_wp2_with fail
    refine (next_any _ (w.heap.size + 1) a0 len cap _ (S3)).mono ?_
    rintro e w4 ⟨n, rfl, n0, n1, S4, O4⟩
    have R4 := (R3).only O4 (by omega)
    have B4 := bonly (B3) O4 (by omega)
    clear S3 O4 B3 R3
    obtain ⟨r0, r1, r2, r3, r4, r5, r6, r7, r8⟩ := id R4
    go_wp2
    refine bodyPost_ret (v := .tuple #[.agg #[.int .i64 a, .int .i64 b, .int .i64 c, .int .i64 d], .int .i64 n]) (by simp [results, Tryd.results12, go_sem, r1, r2, r3, r4]) rfl ⟨a, b, c, d, n, rfl, ?_⟩
    repeat (first | assumption | refine Below.setCell ?_ (by first | omega | (simp <;> omega)) _ | refine Below.alloc ?_ (by first | omega | (simp <;> omega)) _ | refine Below.drew ?_)
  · go_wp2_with fail
    refine (drawMat_any (w.heap.size + 1) a0 len cap _ (S2)).mono ?_
    rintro e w3 ⟨a, b, c, d, rfl, S3, O3⟩
    have R3 := (R2).only O3 (by omega)
    have B3 := bonly (B2) O3 (by omega)
    clear S2 O3 B2 R2
    go_wp2_with fail
    refine (pick_any (w.heap.size + 1) _ 4 a0 len cap _ (S3.alloc _) (by omega) (by omega) (by simp) (by have := S3.lt; omega) (cells4 _ _ _ _ _ _)).mono ?_
    rintro e w4 ⟨n, rfl, S4, O4⟩
    have R4 := (R3.alloc _).only O4 (by omega)
    have B4 := bonly (Below.alloc (B3) (by have := B3.size; first | omega | (simp <;> omega)) _) O4 (by omega)
    clear S3 O4 B3 R3
    obtain ⟨r0, r1, r2, r3, r4, r5, r6, r7, r8⟩ := id R4
    go_wp2
    refine bodyPost_ret (v := .tuple #[.agg #[.int .i64 a, .int .i64 b, .int .i64 c, .int .i64 d], .int .i64 n]) (by simp [results, Tryd.results12, go_sem, r1, r2, r3, r4]) rfl ⟨a, b, c, d, n, rfl, ?_⟩
    repeat (first | assumption | refine Below.setCell ?_ (by first | omega | (simp <;> omega)) _ | refine Below.alloc ?_ (by first | omega | (simp <;> omega)) _ | refine Below.drew ?_)

end Go.Proofs.YtcphadkgmchnfaaDoor
