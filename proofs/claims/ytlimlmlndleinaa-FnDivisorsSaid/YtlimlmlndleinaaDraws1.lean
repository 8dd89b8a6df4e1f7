/-
  The functions of the model that draw arguments for chapter 1: each returns some vectors or numbers and turns nothing that was there. Condition: the code's bytes can be read, at most 2^47 of them.
-/
import Derived.Test.YtlimlmlndleinaaDraw
namespace Go.Proofs.Ytlimlmlndleinaa
open Go.RowKit
set_option linter.unusedSimpArgs false
set_option linter.unusedVariables false

theorem KF.at {w : World} {a b : Int} {T : TypeId} (R : Nat) (hR : R = w.heap.size) : KF R a b (w.alloc (.cells #[.int .i64 a, .int .i64 b] T)) := hR ▸ KF.made w a b T
theorem Bts.grow {a0 : Option Addr} {len p q : Nat} {W w1 : World} (h : Bts a0 len p W) (hb : Below p W w1) (hq : p ≤ q) : Bts a0 len q w1 := by
  rcases h with h | ⟨b, off, e, hlt, hc⟩
  · exact .inl h
  · refine .inr ⟨b, off, e, by omega, fun i hi => ?_⟩
    obtain ⟨z, z0, z1, hz⟩ := hc i hi
    exact ⟨z, z0, z1, by rw [hb.cell (by show b < _; omega)]; exact hz⟩
theorem bonly {p : Nat} {w W w1 : World} (h : Below w.heap.size w W) (o : Only p W w1) (hp : w.heap.size ≤ p) : Below w.heap.size w w1 := h.trans (o.below hp h.size)
def FromAt (p : Nat) (a0 : Option Addr) (len cap : Nat) (w : World) (e : Ending) (w' : World) : Prop :=
  e = .returned (.pointer (some ⟨p, 0, none⟩)) ∧ Src p a0 len cap w' ∧ Below w.heap.size w w'
theorem from_at (p : Nat) (a0 : Option Addr) (len cap : Nat) (w : World) (hp : p = w.heap.size) (hl : len ≤ 140737488355328) (hB : Bts a0 len p w) :
    Calls Try.prog 34 #[.slice a0 len cap] w (FromAt p a0 len cap w) := by
  subst hp
  exact from_any a0 len cap w hl hB

def TwoVecs (w : World) (e : Ending) (w' : World) : Prop := ∃ x y x' y' : Int, e = .returned (.tuple #[.agg #[.int .i64 x, .int .i64 y], .agg #[.int .i64 x', .int .i64 y']]) ∧ Below w.heap.size w w'
def VecInt (w : World) (e : Ending) (w' : World) : Prop := ∃ x y n : Int, e = .returned (.tuple #[.agg #[.int .i64 x, .int .i64 y], .int .i64 n]) ∧ Below w.heap.size w w'
def OneVec (w : World) (e : Ending) (w' : World) : Prop := ∃ x y : Int, e = .returned (.agg #[.int .i64 x, .int .i64 y]) ∧ Below w.heap.size w w'
def TwoInts (w : World) (e : Ending) (w' : World) : Prop := ∃ a b : Int, e = .returned (.tuple #[.int .i64 a, .int .i64 b]) ∧ Below w.heap.size w w'

set_option maxHeartbeats 1000000 in
theorem drawAdd_any (a0 : Option Addr) (len cap : Nat) (w : World) (hl : len ≤ 140737488355328) (hB : Bts a0 len w.heap.size w) :
    Calls Try.prog 13 #[.slice a0 len cap] w (TwoVecs w) := by
  go_enter Try.func13, Try.ntmps13
  go_wp2_with fail
  refine (from_at (w.heap.size + 1 + 1) a0 len cap _ (by simp) hl (hB.grow (Below.alloc (Below.alloc (Below.refl _ _) (by first | omega | (simp <;> omega)) _) (by first | omega | (simp <;> omega)) _) (by omega))).mono ?_
  rintro e w1 ⟨rfl, S1, H1⟩
  have B1 : Below w.heap.size w w1 := bstep (Below.alloc (Below.alloc (Below.refl _ _) (by first | omega | (simp <;> omega)) _) (by first | omega | (simp <;> omega)) _) H1
  have R0_1 : KF (w.heap.size) 0 0 w1 := KF.call ((KF.at (w.heap.size) (by simp) : KF (w.heap.size) 0 0 _).alloc _) H1
  have R1_1 : KF (w.heap.size + 1) 0 0 w1 := KF.call ((KF.at (w.heap.size + 1) (by simp) : KF (w.heap.size + 1) 0 0 _)) H1
  clear H1
  go_wp2_with fail
  refine (draw_any (w.heap.size + 1 + 1) a0 len cap _ S1).mono ?_
  rintro e w2 ⟨x2, y2, rfl, S2, O2⟩
  have R0_2 := KF.only (R0_1) O2 (by omega)
  have R1_2 := KF.only (R1_1) O2 (by omega)
  have B2 := bonly (B1) O2 (by omega)
  clear S1 O2 B1 R0_1 R1_1
  go_wp2_with fail
  refine (draw_any (w.heap.size + 1 + 1) a0 len cap _ S2).mono ?_
  rintro e w3 ⟨x3, y3, rfl, S3, O3⟩
  have R0_3 := KF.only (R0_2) O3 (by omega)
  have R1_3 := KF.only (R1_2) O3 (by omega)
  have B3 := bonly (B2) O3 (by omega)
  clear S2 O3 B2 R0_2 R1_2
  have e0c0 := R0_3.c0
  have e0c1 := R0_3.c1
  have e0f0 := R0_3.f0
  have e0f1 := R0_3.f1
  have e1c0 := R1_3.c0
  have e1c1 := R1_3.c1
  have e1f0 := R1_3.f0
  have e1f1 := R1_3.f1
  go_wp2
  refine bodyPost_ret (v := .tuple #[.agg #[.int .i64 x2, .int .i64 y2], .agg #[.int .i64 x3, .int .i64 y3]]) (by simp [results, Try.results13, go_sem, e0c0, e0c1, e1c0, e1c1]) rfl ⟨x2, y2, x3, y3, rfl, ?_⟩
  repeat (first | assumption | refine Below.setCell ?_ (by first | omega | (simp <;> omega)) _ | refine Below.alloc ?_ (by first | omega | (simp <;> omega)) _ | refine Below.drew ?_)

set_option maxHeartbeats 1000000 in
theorem drawScale_any (a0 : Option Addr) (len cap : Nat) (w : World) (hl : len ≤ 140737488355328) (hB : Bts a0 len w.heap.size w) :
    Calls Try.prog 16 #[.slice a0 len cap] w (VecInt w) := by
  go_enter Try.func16, Try.ntmps16
  go_wp2_with fail
  refine (from_at (w.heap.size + 1) a0 len cap _ (by simp) hl (hB.grow (Below.alloc (Below.refl _ _) (by first | omega | (simp <;> omega)) _) (by omega))).mono ?_
  rintro e w1 ⟨rfl, S1, H1⟩
  have B1 : Below w.heap.size w w1 := bstep (Below.alloc (Below.refl _ _) (by first | omega | (simp <;> omega)) _) H1
  have R0_1 : KF (w.heap.size) 0 0 w1 := KF.call ((KF.at (w.heap.size) (by simp) : KF (w.heap.size) 0 0 _)) H1
  clear H1
  go_wp2_with fail
  refine (next_any _ (w.heap.size + 1) a0 len cap _ S1).mono ?_
  rintro e w2 ⟨x2, rfl, y2, z2, S2, O2⟩
  have R0_2 := KF.only (R0_1) O2 (by omega)
  have B2 := bonly (B1) O2 (by omega)
  clear S1 O2 B1 R0_1
  rcases hx2 : x2 == 0 with _ | _
  · go_wp2_with fail
    refine (draw_any (w.heap.size + 1) a0 len cap _ S2).mono ?_
    rintro e w3 ⟨x3, y3, rfl, S3, O3⟩
    have R0_3 := KF.only (R0_2) O3 (by omega)
    have B3 := bonly (B2) O3 (by omega)
    clear S2 O3 B2 R0_2
    go_wp2_with fail
    refine (next_any _ (w.heap.size + 1) a0 len cap _ S3).mono ?_
    rintro e w4 ⟨x4, rfl, y4, z4, S4, O4⟩
    have R0_4 := KF.only (R0_3) O4 (by omega)
    have B4 := bonly (B3) O4 (by omega)
    clear S3 O4 B3 R0_3
    have e0c0 := R0_4.c0
    have e0c1 := R0_4.c1
    have e0f0 := R0_4.f0
    have e0f1 := R0_4.f1
    go_wp2
    refine bodyPost_ret (v := .tuple #[.agg #[.int .i64 x3, .int .i64 y3], .int .i64 _]) (by simp [results, Try.results16, go_sem, e0c0, e0c1]; rfl) rfl ⟨x3, y3, _, rfl, ?_⟩
    repeat (first | assumption | refine Below.setCell ?_ (by first | omega | (simp <;> omega)) _ | refine Below.alloc ?_ (by first | omega | (simp <;> omega)) _ | refine Below.drew ?_)
  · go_wp2_with fail
    refine (draw_any (w.heap.size + 1) a0 len cap _ S2).mono ?_
    rintro e w3 ⟨x3, y3, rfl, S3, O3⟩
    have R0_3 := KF.only (R0_2) O3 (by omega)
    have B3 := bonly (B2) O3 (by omega)
    clear S2 O3 B2 R0_2
    go_wp2_with fail
    refine (pick_any (w.heap.size + 1) _ 4 a0 len cap _ (S3.alloc _) (by omega) (by omega) (by simp) (by have := S3.lt; omega) (cells4 _ _ _ _ _ _)).mono ?_
    rintro e w4 ⟨x4, rfl, S4, O4⟩
    have R0_4 := KF.only (R0_3.alloc _) O4 (by omega)
    have B4 := bonly (Below.alloc (B3) (by have := B3.size; first | omega | (simp <;> omega)) _) O4 (by omega)
    clear S3 O4 B3 R0_3
    have e0c0 := R0_4.c0
    have e0c1 := R0_4.c1
    have e0f0 := R0_4.f0
    have e0f1 := R0_4.f1
    go_wp2
    refine bodyPost_ret (v := .tuple #[.agg #[.int .i64 x3, .int .i64 y3], .int .i64 x4]) (by simp [results, Try.results16, go_sem, e0c0, e0c1]) rfl ⟨x3, y3, x4, rfl, ?_⟩
    repeat (first | assumption | refine Below.setCell ?_ (by first | omega | (simp <;> omega)) _ | refine Below.alloc ?_ (by first | omega | (simp <;> omega)) _ | refine Below.drew ?_)

set_option maxHeartbeats 1000000 in
theorem drawPrim_any (a0 : Option Addr) (len cap : Nat) (w : World) (hl : len ≤ 140737488355328) (hB : Bts a0 len w.heap.size w) :
    Calls Try.prog 26 #[.slice a0 len cap] w (OneVec w) := by
  go_enter Try.func26, Try.ntmps26
  go_wp2_with fail
  refine (from_at (w.heap.size + 1) a0 len cap _ (by simp) hl (hB.grow (Below.alloc (Below.refl _ _) (by first | omega | (simp <;> omega)) _) (by omega))).mono ?_
  rintro e w1 ⟨rfl, S1, H1⟩
  have B1 : Below w.heap.size w w1 := bstep (Below.alloc (Below.refl _ _) (by first | omega | (simp <;> omega)) _) H1
  have R0_1 : KF (w.heap.size) 0 0 w1 := KF.call ((KF.at (w.heap.size) (by simp) : KF (w.heap.size) 0 0 _)) H1
  clear H1
  go_wp2_with fail
  refine (next_any _ (w.heap.size + 1) a0 len cap _ S1).mono ?_
  rintro e w2 ⟨x2, rfl, y2, z2, S2, O2⟩
  have R0_2 := KF.only (R0_1) O2 (by omega)
  have B2 := bonly (B1) O2 (by omega)
  clear S1 O2 B1 R0_1
  rcases hx2 : x2 == 0 with _ | _
  · go_wp2_with fail
    refine (draw_any (w.heap.size + 1) a0 len cap _ S2).mono ?_
    rintro e w3 ⟨x3, y3, rfl, S3, O3⟩
    have R0_3 := KF.only (R0_2) O3 (by omega)
    have B3 := bonly (B2) O3 (by omega)
    clear S2 O3 B2 R0_2
    have e0c0 := R0_3.c0
    have e0c1 := R0_3.c1
    have e0f0 := R0_3.f0
    have e0f1 := R0_3.f1
    go_wp2
    refine bodyPost_ret (v := .agg #[.int .i64 x3, .int .i64 y3]) (by simp [results, Try.results26, go_sem, e0c0, e0c1]) rfl ⟨x3, y3, rfl, ?_⟩
    repeat (first | assumption | refine Below.setCell ?_ (by first | omega | (simp <;> omega)) _ | refine Below.alloc ?_ (by first | omega | (simp <;> omega)) _ | refine Below.drew ?_)
  · have e0c0 := R0_2.c0
    have e0c1 := R0_2.c1
    have e0f0 := R0_2.f0
    have e0f1 := R0_2.f1
    go_wp2
    refine bodyPost_ret (v := .agg #[.int .i64 0, .int .i64 0]) (by simp [results, Try.results26, go_sem, e0c0, e0c1]) rfl ⟨0, 0, rfl, ?_⟩
    repeat (first | assumption | refine Below.setCell ?_ (by first | omega | (simp <;> omega)) _ | refine Below.alloc ?_ (by first | omega | (simp <;> omega)) _ | refine Below.drew ?_)

set_option maxHeartbeats 1000000 in
theorem drawDiv_any (a0 : Option Addr) (len cap : Nat) (w : World) (hl : len ≤ 140737488355328) (hB : Bts a0 len w.heap.size w) :
    Calls Try.prog 29 #[.slice a0 len cap] w (TwoInts w) := by
  go_enter Try.func29, Try.ntmps29
  go_wp2_with fail
  refine (from_at (w.heap.size) a0 len cap _ (by simp) hl (hB.grow (Below.refl _ _) (by omega))).mono ?_
  rintro e w1 ⟨rfl, S1, H1⟩
  have B1 : Below w.heap.size w w1 := bstep (Below.refl _ _) H1
  clear H1
  go_wp2_with fail
  refine (next_any _ (w.heap.size) a0 len cap _ S1).mono ?_
  rintro e w2 ⟨x2, rfl, y2, z2, S2, O2⟩
  have B2 := bonly (B1) O2 (by omega)
  clear S1 O2 B1
  rcases hx2 : x2 == 0 with _ | _
  · go_wp2_with fail
    refine (next_any _ (w.heap.size) a0 len cap _ S2).mono ?_
    rintro e w3 ⟨x3, rfl, y3, z3, S3, O3⟩
    have B3 := bonly (B2) O3 (by omega)
    clear S2 O3 B2
    go_wp2_with fail
    refine (next_any _ (w.heap.size) a0 len cap _ S3).mono ?_
    rintro e w4 ⟨x4, rfl, y4, z4, S4, O4⟩
    have B4 := bonly (B3) O4 (by omega)
    clear S3 O4 B3
    go_wp2_with fail
    refine (next_any _ (w.heap.size) a0 len cap _ S4).mono ?_
    rintro e w5 ⟨x5, rfl, y5, z5, S5, O5⟩
    have B5 := bonly (B4) O5 (by omega)
    clear S4 O5 B4
    go_wp2
    go_ret2
    exact ⟨_, _, rfl, B5⟩
  · go_wp2_with fail
    refine (pick_any (w.heap.size) _ 4 a0 len cap _ (S2.alloc _) (by omega) (by omega) (by simp) (by have := S2.lt; omega) (cells4 _ _ _ _ _ _)).mono ?_
    rintro e w3 ⟨x3, rfl, S3, O3⟩
    have B3 := bonly (Below.alloc (B2) (by have := B2.size; first | omega | (simp <;> omega)) _) O3 (by omega)
    clear S2 O3 B2
    go_wp2_with fail
    refine (pick_any (w.heap.size) _ 3 a0 len cap _ (S3.alloc _) (by omega) (by omega) (by simp) (by have := S3.lt; omega) (cells3 _ _ _ _ _)).mono ?_
    rintro e w4 ⟨x4, rfl, S4, O4⟩
    have B4 := bonly (Below.alloc (B3) (by have := B3.size; first | omega | (simp <;> omega)) _) O4 (by omega)
    clear S3 O4 B3
    go_wp2
    go_ret2
    exact ⟨_, _, rfl, B4⟩

end Go.Proofs.Ytlimlmlndleinaa
