/-
  The functions of the model that draw arguments for chapter 1: each returns some vectors or numbers and turns nothing that was there. Condition: the code's bytes can be read, at most 2^47 of them.
-/
import Derived.Test.YtkfeajjpbmbmpaaGreatDoorDraw
namespace Go.Proofs.YtkfeajjpbmbmpaaGreatDoor
open Go.RowKit
set_option linter.unusedSimpArgs false
set_option linter.unusedVariables false

theorem KF.at {w : World} {a b : Int} {T : TypeId} (R : Nat) (hR : R = w.heap.size) : KF R a b (w.alloc (.cells #[.int .i64 a, .int .i64 b] T)) := hR ▸ KF.made w a b T
theorem Bts.grow {a0 : Option Addr} {len p q : Nat} {W w1 : World} (h : Bts a0 len p W) (hb : Below p W w1) (hq : p ≤ q) : Bts a0 len q w1 := by
  rcases h with h | ⟨b, off, e, hlt, hc⟩
  · exact .inl h
  · refine .inr ⟨b, off, e, by omega, fun i hi => ?_⟩
    obtain ⟨z, z0, z1, hz⟩ := hc i hi
    exact ⟨z, z0, z1, by rw [hb.cell (by show b < _; omega)]; exact hz⟩
theorem bonly {p : Nat} {w W w1 : World} (h : Below w.heap.size w W) (o : Only p W w1) (hp : w.heap.size ≤ p) : Below w.heap.size w w1 := h.trans (o.below hp h.size)
def FromAt (p : Nat) (a0 : Option Addr) (len cap : Nat) (w : World) (e : Ending) (w' : World) : Prop :=
  e = .returned (.pointer (some ⟨p, 0, none⟩)) ∧ Src p a0 len cap w' ∧ Below w.heap.size w w'
theorem from_at (p : Nat) (a0 : Option Addr) (len cap : Nat) (w : World) (hp : p = w.heap.size) (hl : len ≤ 140737488355328) (hB : Bts a0 len p w) :
    Calls Tryz.prog 94 #[.slice a0 len cap] w (FromAt p a0 len cap w) := by
  subst hp
  exact from_any a0 len cap w hl hB

end Go.Proofs.YtkfeajjpbmbmpaaGreatDoor
