/-
  The functions of the model that draw a vector's text or a vector: they return some vector or text and turn nothing that was there. Condition: the code's bytes can be read, at most 2^47 of them.
-/
import Derived.Test.YtcjefepjnomfaaaDoorDamage
import Derived.Test.YtcjefepjnomfaaaDoorText2
namespace Go.Proofs.YtcjefepjnomfaaaDoor
open Go.RowKit
set_option linter.unusedSimpArgs false
set_option linter.unusedVariables false

theorem KF.at {w : World} {a b : Int} {T : TypeId} (R : Nat) (hR : R = w.heap.size) : KF R a b (w.alloc (.cells #[.int .i64 a, .int .i64 b] T)) := hR ▸ KF.made w a b T
theorem Bts.grow {a0 : Option Addr} {len p q : Nat} {W w1 : World} (h : Bts a0 len p W) (hb : Below p W w1) (hq : p ≤ q) : Bts a0 len q w1 := by
  rcases h with h | ⟨b, off, e, hlt, hc⟩
  · exact .inl h
  · refine .inr ⟨b, off, e, by omega, fun i hi => ?_⟩
    obtain ⟨z, z0, z1, hz⟩ := hc i hi
    exact ⟨z, z0, z1, by rw [hb.cell (by show b < _; omega)]; exact hz⟩
theorem bonly {p : Nat} {w W w1 : World} (h : Below w.heap.size w W) (o : Only p W w1) (hp : w.heap.size ≤ p) : Below w.heap.size w w1 := h.trans (o.below hp h.size)
def FromAt (p : Nat) (a0 : Option Addr) (len cap : Nat) (w : World) (e : Ending) (w' : World) : Prop :=
  e = .returned (.pointer (some ⟨p, 0, none⟩)) ∧ Src p a0 len cap w' ∧ Below w.heap.size w w'
theorem from_at (p : Nat) (a0 : Option Addr) (len cap : Nat) (w : World) (hp : p = w.heap.size) (hl : len ≤ 140737488355328) (hB : Bts a0 len p w) :
    Calls Tryd.prog 40 #[.slice a0 len cap] w (FromAt p a0 len cap w) := by
  subst hp
  exact from_any a0 len cap w hl hB

def TwoVecs (w : World) (e : Ending) (w' : World) : Prop := ∃ x y x' y' : Int, e = .returned (.tuple #[.agg #[.int .i64 x, .int .i64 y], .agg #[.int .i64 x', .int .i64 y']]) ∧ Below w.heap.size w w'
def VecInt (w : World) (e : Ending) (w' : World) : Prop := ∃ x y n : Int, e = .returned (.tuple #[.agg #[.int .i64 x, .int .i64 y], .int .i64 n]) ∧ Below w.heap.size w w'
def OneVec (w : World) (e : Ending) (w' : World) : Prop := ∃ x y : Int, e = .returned (.agg #[.int .i64 x, .int .i64 y]) ∧ Below w.heap.size w w'
def TwoInts (w : World) (e : Ending) (w' : World) : Prop := ∃ a b : Int, e = .returned (.tuple #[.int .i64 a, .int .i64 b]) ∧ Below w.heap.size w w'

set_option maxHeartbeats 1000000 in
theorem drawText_any (a0 : Option Addr) (len cap : Nat) (w : World) (hl : len ≤ 140737488355328) (hB : Bts a0 len w.heap.size w) :
    Calls Tryd.prog 12 #[.slice a0 len cap] w (OneVec w) := by
  go_enter Tryd.func12, Tryd.ntmps12
  go_wp2_with fail
  refine (from_at (w.heap.size + 1) a0 len cap _ (by simp) hl (hB.grow (Below.alloc (Below.refl _ _) (by first | omega | (simp <;> omega)) _) (by omega))).mono ?_
  rintro e w1 ⟨rfl, S1, H1⟩
  have B1 : Below w.heap.size w w1 := bstep (Below.alloc (Below.refl _ _) (by first | omega | (simp <;> omega)) _) H1
  have R0_1 : KF (w.heap.size) 0 0 w1 := KF.call ((KF.at (w.heap.size) (by simp) : KF (w.heap.size) 0 0 _)) H1
  clear H1
  go_wp2_with fail
  refine (draw_any (w.heap.size + 1) a0 len cap _ S1).mono ?_
  rintro e w2 ⟨x2, y2, rfl, S2, O2⟩
  have R0_2 := KF.only (R0_1) O2 (by omega)
  have B2 := bonly (B1) O2 (by omega)
  clear S1 O2 B1 R0_1
  have e0c0 := R0_2.c0
  have e0c1 := R0_2.c1
  have e0f0 := R0_2.f0
  have e0f1 := R0_2.f1
  go_wp2
  refine bodyPost_ret (v := .agg #[.int .i64 x2, .int .i64 y2]) (by simp [results, Tryd.results12, go_sem, e0c0, e0c1]) rfl ⟨x2, y2, rfl, ?_⟩
  repeat (first | assumption | refine Below.setCell ?_ (by first | omega | (simp <;> omega)) _ | refine Below.alloc ?_ (by first | omega | (simp <;> omega)) _ | refine Below.drew ?_)

def OneText (w : World) (e : Ending) (w' : World) : Prop := ∃ u : ByteArray, e = .returned (.string u) ∧ u.size ≤ 1001 ∧ Below w.heap.size w w'
theorem textS_size (x y : Int) : (textS x y).size ≤ 43 := by
  unfold textS
  rcases hv : vecB x y with _ | _
  · exact Nat.zero_le _
  · obtain ⟨⟨a1, a2⟩, a3, a4⟩ := vecB_bd hv
    have h1 := numS_size x (by omega) (by omega)
    have h2 := numS_size y (by omega) (by omega)
    show (numS x ++ ⟨#[44]⟩ ++ numS y).size ≤ 43
    rw [ByteArray.size_append, ByteArray.size_append]
    show (numS x).size + 1 + (numS y).size ≤ 43
    omega

set_option maxHeartbeats 1000000 in
theorem drawRead_any (a0 : Option Addr) (len cap : Nat) (w : World) (hl : len ≤ 140737488355328) (hB : Bts a0 len w.heap.size w) :
    Calls Tryd.prog 15 #[.slice a0 len cap] w (OneText w) := by
  go_enter Tryd.func15, Tryd.ntmps15
  go_wp2_with fail
  refine (from_at (w.heap.size) a0 len cap _ (by simp) hl (hB.grow (Below.refl _ _) (by omega))).mono ?_
  rintro e w1 ⟨rfl, S1, H1⟩
  have B1 : Below w.heap.size w w1 := bstep (Below.refl _ _) H1
  clear H1
  go_wp2_with fail
  refine (draw_any (w.heap.size) a0 len cap _ S1).mono ?_
  rintro e w2 ⟨x2, y2, rfl, S2, O2⟩
  have B2 := bonly (B1) O2 (by omega)
  clear S1 O2 B1
  go_wp2_with fail
  refine (specText_any _ _ _).mono ?_
  rintro e w3 ⟨rfl, hb3⟩
  have hz := textS_size x2 y2
  have S3 := S2.call hb3
  have B3 := bstep B2 hb3
  clear S2 B2 hb3
  go_wp2_with fail
  refine (next_any _ (w.heap.size) a0 len cap _ S3).mono ?_
  rintro e w4 ⟨x4, rfl, y4, z4, S4, O4⟩
  have B4 := bonly (B3) O4 (by omega)
  clear S3 O4 B3
  rcases hx4 : x4 == 0 with _ | _
  · go_wp2
    go_ret
    exact ⟨_, rfl, by omega, B4⟩
  · go_wp2_with fail
    refine (damage_any _ (by omega) (w.heap.size) a0 len cap _ S4).mono ?_
    rintro e w5 ⟨u, rfl, hu, S5, O5⟩
    have B5 := bonly B4 O5 (by omega)
    go_wp2
    go_ret
    exact ⟨_, rfl, by omega, B5⟩

end Go.Proofs.YtcjefepjnomfaaaDoor
