/-
  The draws of chapter 1 (the model's l01From, l01Draw and the functions that draw arguments): each returns some vectors or numbers and turns nothing that was there. Condition: the code's bytes can be read.
-/
import Derived.Test.YtkfeajjpbmbmpaaGreatDoorSrc
namespace Go.Proofs.YtkfeajjpbmbmpaaGreatDoor
open Go.RowKit

theorem Only.put {p : Nat} {a b : World} (h : Only p a b) {q : Addr} (hq : a.heap.size ≤ q.block) (u : Value) : Only p a (b.setCell q u) :=
  ⟨h.os, h.tape, h.output, by simpa [World.setCell] using h.size, fun k hk hp => (Below.heap_setCell _ _ _ _ (by omega)).trans (h.block k hk hp)⟩
theorem Only.then {p : Nat} {a b c : World} (h : Only p a b) (k : Below b.heap.size b c) : Only p a c := h.trans (.of k)

theorem dcl3 (W : World) (a b c : Int) (T : TypeId) : ∀ i, i < 3 → ∃ v : Int, (W.alloc (.cells #[.int .i64 a, .int .i64 b, .int .i64 c] T)).cell? ⟨W.heap.size, i, none⟩ = some (.int .i64 v) := by
  intro i hi
  obtain rfl | rfl | rfl : i = 0 ∨ i = 1 ∨ i = 2 := by omega
  · exact ⟨a, by simp [go_sem]⟩
  · exact ⟨b, by simp [go_sem]⟩
  · exact ⟨c, by simp [go_sem]⟩
theorem dcl4 (W : World) (a b c d : Int) (T : TypeId) : ∀ i, i < 4 → ∃ v : Int, (W.alloc (.cells #[.int .i64 a, .int .i64 b, .int .i64 c, .int .i64 d] T)).cell? ⟨W.heap.size, i, none⟩ = some (.int .i64 v) := by
  intro i hi
  obtain rfl | rfl | rfl | rfl : i = 0 ∨ i = 1 ∨ i = 2 ∨ i = 3 := by omega
  · exact ⟨a, by simp [go_sem]⟩
  · exact ⟨b, by simp [go_sem]⟩
  · exact ⟨c, by simp [go_sem]⟩
  · exact ⟨d, by simp [go_sem]⟩

theorem Src.made (w : World) (a0 : Option Addr) (len cap : Nat) (T : TypeId) (hl : len ≤ 140737488355328) (hB : Bts a0 len w.heap.size w) :
    Src w.heap.size a0 len cap (w.alloc (.cells #[.slice a0 len cap, .int .i64 0, .int .i64 93001] T)) :=
  ⟨by simp, hl, ⟨0, 93001, by omega, by omega, by omega, by simp [go_sem], by simp [go_sem], by simp [go_sem]⟩, by simp [go_sem], by simp [go_sem], hB.call ((Below.refl _ _).alloc (Nat.le_refl _) _) (Nat.le_refl _)⟩

def FromPost (a0 : Option Addr) (len cap : Nat) (w : World) (e : Ending) (w' : World) : Prop :=
  e = .returned (.pointer (some ⟨w.heap.size, 0, none⟩)) ∧ Src w.heap.size a0 len cap w' ∧ Below w.heap.size w w'

set_option maxHeartbeats 1000000 in
theorem from_any (a0 : Option Addr) (len cap : Nat) (w : World) (hl : len ≤ 140737488355328) (hB : Bts a0 len w.heap.size w) :
    Calls Tryz.prog 94 #[.slice a0 len cap] w (FromPost a0 len cap w) := by
  have S0 := Src.made w a0 len cap 214 hl hB
  have B0 : Below w.heap.size w (w.alloc (.cells #[.slice a0 len cap, .int .i64 0, .int .i64 93001] 214)) := (Below.refl _ _).alloc (Nat.le_refl _) _
  go_enter Tryz.func94, Tryz.ntmps94
  go_wp2_with fail
  go_loopw [4] (fun i W => ∃ k : Nat, i = .int .i64 k ∧ k ≤ len ∧ k ≤ 64 ∧ Src w.heap.size a0 len cap W ∧ Below w.heap.size w W) (fun i _ => 64 - (intOf i).toNat)
  case atStart => exact ⟨0, rfl, by omega, by omega, S0, B0⟩
  case round =>
    obtain ⟨k, rfl, hk, hk', hS, hW⟩ := hrel
    clear S0 B0
    by_cases h1 : k < len
    · by_cases h2 : k < 64
      · rcases hS.bytes with h0 | ⟨b, off, rfl, hbp, hc⟩
        · omega
        obtain ⟨z, z0, z1, hz⟩ := hc k h1
        obtain ⟨j, s, g1, g2, g3, g4, g5, g6⟩ := hS.cells
        have f2 := hS.free2
        have hbp1 : ¬ b = w.heap.size := by omega
        have hbp2 : ¬ w.heap.size = b := by omega
        have hk0 : (0 : Int) ≤ (k : Int) := by omega
        have hk1 : (k : Int) < (len : Int) := by omega
        have hk2 : (k : Int) < 64 := by omega
        clear hc
        go_wp2
        go_region
        go_wp2
        have hm := Int.emod_nonneg (s * 73 + z) (b := 2147483647) (by omega)
        have hm' := Int.emod_lt_of_pos (s * 73 + z) (b := 2147483647) (by omega)
        go_roundw
        case rel => exact ⟨k + 1, by go_num, by omega, by omega, (hS.seed _ hm hm').drew, (Below.setCell (p := ⟨w.heap.size, 2, none⟩) hW (Nat.le_refl _) _).drew⟩
        case measure => simp [intOf]; omega
      · have h2b : decide ((k : Int) < 64) = false := by simp; omega
        go_wp2
        go_ret
        exact ⟨rfl, hS, hW⟩
    · have h1b : decide ((k : Int) < (len : Int)) = false := by simp; omega
      go_wp2
      go_ret
      exact ⟨rfl, hS, hW⟩

/- a vector's block that may be written -/
structure KF (R : Nat) (a b : Int) (W : World) : Prop where
  lt : R < W.heap.size
  c0 : W.cell? ⟨R, 0, none⟩ = some (.int .i64 a)
  c1 : W.cell? ⟨R, 1, none⟩ = some (.int .i64 b)
  f0 : W.frozen? ⟨R, 0, none⟩ = false
  f1 : W.frozen? ⟨R, 1, none⟩ = false
theorem KF.made (w : World) (a b : Int) (T : TypeId) : KF w.heap.size a b (w.alloc (.cells #[.int .i64 a, .int .i64 b] T)) := by
  refine ⟨by simp, ?_, ?_, ?_, ?_⟩ <;> simp [go_sem]
theorem KF.call {R : Nat} {a b : Int} {W w1 : World} (h : KF R a b W) (hb : Below W.heap.size W w1) : KF R a b w1 :=
  ⟨Nat.lt_of_lt_of_le h.lt hb.size, by rw [hb.cell h.lt]; exact h.c0, by rw [hb.cell h.lt]; exact h.c1, by rw [hb.frozen h.lt]; exact h.f0, by rw [hb.frozen h.lt]; exact h.f1⟩
theorem KF.alloc {R : Nat} {a b : Int} {W : World} (h : KF R a b W) (o : Obj) : KF R a b (W.alloc o) := h.call ((Below.refl _ _).alloc (Nat.le_refl _) _)
theorem KF.drew {R : Nat} {a b : Int} {W : World} (h : KF R a b W) : KF R a b W.drew := h.call (Below.refl _ _).drew
theorem KF.only {R p : Nat} {a b : Int} {W w1 : World} (h : KF R a b W) (hb : Only p W w1) (hp : R ≠ p) : KF R a b w1 :=
  ⟨Nat.lt_of_lt_of_le h.lt hb.size, by rw [hb.cell h.lt hp]; exact h.c0, by rw [hb.cell h.lt hp]; exact h.c1, by rw [hb.frozen h.lt hp]; exact h.f0, by rw [hb.frozen h.lt hp]; exact h.f1⟩
theorem KF.put {R : Nat} {a b : Int} {W : World} {q : Addr} {u : Value} (h : KF R a b W) (hq : R < q.block) : KF R a b (W.setCell q u) := by
  have hb : Below (R + 1) W (W.setCell q u) := (Below.refl _ _).setCell (by omega) u
  have hl : R < R + 1 := Nat.lt_succ_self _
  exact ⟨Nat.lt_of_lt_of_le h.lt hb.size, by rw [hb.cell hl]; exact h.c0, by rw [hb.cell hl]; exact h.c1, by rw [hb.frozen hl]; exact h.f0, by rw [hb.frozen hl]; exact h.f1⟩

end Go.Proofs.YtkfeajjpbmbmpaaGreatDoor
