/-
  The draw of a motion for a frame and a lattice (the model's l06DrawMotion): it returns six numbers, those of a suitable motion if frame and lattice are valid, and turns nothing that was there but the source. Condition: the source's bytes can be read.
-/
import Derived.Test.YtkfeajjpbmbmpaaGreatDoorD6a
import Derived.Test.YtkfeajjpbmbmpaaGreatDoorD6f
import Derived.Test.YtkfeajjpbmbmpaaGreatDoorBx
import Derived.Test.YtkfeajjpbmbmpaaGreatDoorGc
import Derived.Deep.RegionHeld3
import Derived.IntWalk
namespace Go.Proofs.YtkfeajjpbmbmpaaGreatDoor
open Go.RowKit
set_option linter.unusedSimpArgs false
set_option linter.unusedVariables false

theorem IRow.onlyD {g N p : Nat} {F : Nat → Int} {W w1 : World} (h : IRow g N F W) (o : Only p W w1) (hp : g ≠ p) : IRow g N F w1 :=
  ⟨Nat.lt_of_lt_of_le h.1 o.size, fun t ht => ⟨by rw [o.cell (q := ⟨g, t, none⟩) h.1 hp]; exact (h.2 t ht).1, by rw [o.frozen (q := ⟨g, t, none⟩) h.1 hp]; exact (h.2 t ht).2⟩⟩
theorem Bx.onlyD {g p : Nat} {us : List Value} {W w1 : World} (h : Bx g us W) (o : Only p W w1) (hp : g ≠ p) : Bx g us w1 :=
  ⟨Nat.lt_of_lt_of_le h.lt o.size, fun i u e => by rw [o.cell (q := ⟨g, i, none⟩) h.lt hp]; exact h.cel i u e⟩
theorem KM.onlyD {R p : Nat} {a b c d x y : Int} {W w1 : World} (h : KM R a b c d x y W) (hb : Only p W w1) (hp : R ≠ p) : KM R a b c d x y w1 :=
  ⟨Nat.lt_of_lt_of_le h.lt hb.size, by rw [hb.cell h.lt hp]; exact h.c0, by rw [hb.cell h.lt hp]; exact h.c1, by rw [hb.cell h.lt hp]; exact h.c2, by rw [hb.cell h.lt hp]; exact h.c3, by rw [hb.cell h.lt hp]; exact h.c4, by rw [hb.cell h.lt hp]; exact h.c5, by rw [hb.frozen h.lt hp]; exact h.f0, by rw [hb.frozen h.lt hp]; exact h.f1, by rw [hb.frozen h.lt hp]; exact h.f2, by rw [hb.frozen h.lt hp]; exact h.f3, by rw [hb.frozen h.lt hp]; exact h.f4, by rw [hb.frozen h.lt hp]; exact h.f5⟩
theorem KR.onlyD {R p : Nat} {a b c d : Int} {W w1 : World} (h : KR R a b c d W) (hb : Only p W w1) (hp : R ≠ p) : KR R a b c d w1 :=
  ⟨Nat.lt_of_lt_of_le h.lt hb.size, by rw [hb.cell h.lt hp]; exact h.c0, by rw [hb.cell h.lt hp]; exact h.c1, by rw [hb.cell h.lt hp]; exact h.c2, by rw [hb.cell h.lt hp]; exact h.c3, by rw [hb.frozen h.lt hp]; exact h.f0, by rw [hb.frozen h.lt hp]; exact h.f1, by rw [hb.frozen h.lt hp]; exact h.f2, by rw [hb.frozen h.lt hp]; exact h.f3⟩
theorem KR.farD {R : Nat} {a b c d : Int} {W : World} {q : Addr} {u : Value} (hq : q.block ≠ R) (h : KR R a b c d W) : KR R a b c d (W.setCell q u) :=
  h.onlyD ((Only.refl q.block W).setCell rfl u) (Ne.symm hq)
theorem KR.storeD {R : Nat} {a b c d : Int} {W : World} (h : KR R a b c d W) (a' b' c' d' : Int) :
    KR R a' b' c' d' ((((W.setCell ⟨R, 0, none⟩ (.int .i64 a')).setCell ⟨R, 1, none⟩ (.int .i64 b')).setCell ⟨R, 2, none⟩ (.int .i64 c')).setCell ⟨R, 3, none⟩ (.int .i64 d')) := by
  obtain ⟨h0, h1, h2, h3, h4, h5, h6, h7, h8⟩ := h
  refine ⟨by simpa [World.setCell] using h0, ?_, ?_, ?_, ?_, ?_, ?_, ?_, ?_⟩ <;> simp [go_sem, *]
theorem stab_two {f A B C : Int} (h : flB f A B C = true) : 2 ≤ (stabL f A B C).length := by
  simp only [flB, Bool.and_eq_true] at h
  have h1 := stab_six (A := A) (B := B) (C := C) h.1 (latB_iff.1 h.2) (.inl rfl)
  have h2 := stab_six (A := A) (B := B) (C := C) h.1 (latB_iff.1 h.2) (.inr rfl)
  match hL : stabL f A B C with
  | [] => rw [hL] at h1; cases h1
  | [z] =>
    rw [hL] at h1 h2
    simp only [List.mem_singleton] at h1 h2
    rw [← h1] at h2
    simp at h2
  | _ :: _ :: _ => simp
def DMPost (f A B C : Int) (p : Nat) (a0 : Option Addr) (len cap : Nat) (w : World) (e : Ending) (w' : World) : Prop :=
  ∃ a b c d x y : Int, e = .returned (.agg #[.int .i64 a, .int .i64 b, .int .i64 c, .int .i64 d, .int .i64 x, .int .i64 y]) ∧ (flB f A B C = true → (a, b, c, d) ∈ stabL f A B C ∧ vecB x y = true) ∧ Src p a0 len cap w' ∧ Only p w w'
set_option maxRecDepth 100000 in
set_option maxHeartbeats 16000000 in
theorem drawDM_any (f A B C : Int) (p : Nat) (a0 : Option Addr) (len cap : Nat) (w : World) (h : Src p a0 len cap w) :
    Calls Tryz.prog 152 #[.pointer (some ⟨p, 0, none⟩), .int .i64 f, .agg #[.int .i64 A, .int .i64 B, .int .i64 C]] w (DMPost f A B C p a0 len cap w) := by
  have hp := h.lt
  have hne : w.heap.size ≠ p := by omega
  have L0 : Bx w.heap.size [.int .i64 A, .int .i64 B, .int .i64 C] ((w.alloc (.cells #[.int .i64 A, .int .i64 B, .int .i64 C] 25)).alloc (.cells #[.int .i64 0, .int .i64 0, .int .i64 0, .int .i64 0, .int .i64 0, .int .i64 0] 37)) := (Bx.at (us := [.int .i64 A, .int .i64 B, .int .i64 C]) _ rfl).alloc _
  have R0 : KM (w.heap.size + 1) 0 0 0 0 0 0 ((w.alloc (.cells #[.int .i64 A, .int .i64 B, .int .i64 C] 25)).alloc (.cells #[.int .i64 0, .int .i64 0, .int .i64 0, .int .i64 0, .int .i64 0, .int .i64 0] 37)) := KM.at _ (by simp)
  have S0 : Src p a0 len cap ((w.alloc (.cells #[.int .i64 A, .int .i64 B, .int .i64 C] 25)).alloc (.cells #[.int .i64 0, .int .i64 0, .int .i64 0, .int .i64 0, .int .i64 0, .int .i64 0] 37)) := (h.alloc _).alloc _
  have O0 : Only p w ((w.alloc (.cells #[.int .i64 A, .int .i64 B, .int .i64 C] 25)).alloc (.cells #[.int .i64 0, .int .i64 0, .int .i64 0, .int .i64 0, .int .i64 0, .int .i64 0] 37)) := ((Only.refl _ _).alloc _).alloc _
  go_enter Tryz.func152, Tryz.ntmps152
  go_wp2_with fail
  with_reducible refine (l02Unit_any _).mono ?_
  rintro e w1 ⟨rfl, hb1⟩
  have L1 := (L0.call hb1).alloc (.cells #[.int .i64 1, .int .i64 0, .int .i64 0, .int .i64 1] 27)
  have R1 := (R0.call hb1).alloc (.cells #[.int .i64 1, .int .i64 0, .int .i64 0, .int .i64 1] 27)
  have S1 := (S0.call hb1).alloc (.cells #[.int .i64 1, .int .i64 0, .int .i64 0, .int .i64 1] 27)
  have O1 := (O0.then hb1).alloc (.cells #[.int .i64 1, .int .i64 0, .int .i64 0, .int .i64 1] 27)
  have M1 : KR w1.heap.size 1 0 0 1 (w1.alloc (.cells #[.int .i64 1, .int .i64 0, .int .i64 0, .int .i64 1] 27)) := KR.at _ rfl
  have z1 : w.heap.size + 2 ≤ w1.heap.size := by have := hb1.size; simp at this; omega
  clear L0 R0 S0 O0 hb1 h
  have l1c0 := L1.c0
  have l1c1 := L1.c1
  have l1c2 := L1.c2
  have l1l := L1.lt
  go_wp2_with fail
  with_reducible refine (l04Code_any f A B C _).mono ?_
  rintro e w2 ⟨rfl, hb2⟩
  have L2 := L1.call hb2
  have R2 := R1.call hb2
  have S2 := S1.call hb2
  have O2 := O1.then hb2
  have M2 := M1.call hb2
  clear L1 R1 S1 O1 M1 hb2 l1c0 l1c1 l1c2 l1l
  have hgp : w1.heap.size ≠ p := by omega
  have hRp : w.heap.size + 1 ≠ p := by omega
  have hgR : w.heap.size + 1 < w1.heap.size := by omega
  have hpg : p < w1.heap.size := by omega
  generalize hgm : w1.heap.size = g at *
  generalize hR : w.heap.size + 1 = R at *
  unfold flC
  rcases hfl : flB f A B C with _ | _
  · have HS := Lib.hid (show flB f A B C = true → ((1 : Int), (0 : Int), (0 : Int), (1 : Int)) ∈ stabL f A B C by rw [hfl]; intro h; cases h)
    have M7 := M2
    have R7 := R2
    have S7 := S2
    have O7 := O2
    clear M2 R2 S2 O2 L2
    simp only [cond_false]
    have M7l := M7.lt
    have R7l := R7.lt
    go_wp2_with fail
    go_region_held3 (fun W9 => (W9.cell? ⟨g, 0, none⟩ = some (.int .i64 1) ∧ W9.cell? ⟨g, 1, none⟩ = some (.int .i64 0) ∧ W9.cell? ⟨g, 2, none⟩ = some (.int .i64 0) ∧ W9.cell? ⟨g, 3, none⟩ = some (.int .i64 1))) ((refine KR.cells5 ?_; repeat (first | with_reducible assumption | with_reducible refine KR.drew ?_ | with_reducible refine KR.alloc ?_ _ | ((with_reducible refine KR.put ?_ ?_); (first | omega | (dsimp only; omega))) | ((with_reducible refine KR.farD ?_ ?_); (first | omega | (dsimp only; omega))))))
      (first | (go_at_call 122; ((with_reducible refine (next_any _ p a0 len cap _ ?_).mono ?_); (repeat (first | with_reducible exact S7 | with_reducible refine Src.drew ?_ | with_reducible refine Src.alloc ?_ _))); rintro e w8 ⟨x8, rfl, y8, z8, S8, O8'⟩; have t8 : x8 < 9 := z8 (by omega); have M8 : KR g 1 0 0 1 w8 := KR.onlyD (by (repeat (first | with_reducible exact M7 | with_reducible refine KR.drew ?_ | with_reducible refine KR.alloc ?_ _))) O8' hgp; have R8 : KM R 0 0 0 0 0 0 w8 := KM.onlyD (by (repeat (first | with_reducible exact R7 | with_reducible refine KM.drew ?_ | with_reducible refine KM.alloc ?_ _))) O8' hRp; have O8 : Only p w w8 := Only.trans (by (repeat (first | with_reducible exact O7 | with_reducible refine Only.drew ?_ | with_reducible refine Only.alloc ?_ _))) O8') | (go_at_call 122; ((with_reducible refine (next_any _ p a0 len cap _ ?_).mono ?_); (repeat (first | with_reducible exact S8 | with_reducible refine Src.drew ?_ | with_reducible refine Src.alloc ?_ _))); rintro e w9 ⟨x9, rfl, y9, z9, S9, O9'⟩; have t9 : x9 < 9 := z9 (by omega); have M9 : KR g 1 0 0 1 w9 := KR.onlyD (by (repeat (first | with_reducible exact M8 | with_reducible refine KR.drew ?_ | with_reducible refine KR.alloc ?_ _))) O9' hgp; have R9 : KM R 0 0 0 0 0 0 w9 := KM.onlyD (by (repeat (first | with_reducible exact R8 | with_reducible refine KM.drew ?_ | with_reducible refine KM.alloc ?_ _))) O9' hRp; have O9 : Only p w w9 := Only.trans (by (repeat (first | with_reducible exact O8 | with_reducible refine Only.drew ?_ | with_reducible refine Only.alloc ?_ _))) O9'; obtain ⟨r9, r9a0, r9a1, r9a2, r9a3, r9a4, r9a5, r9b0, r9b1, r9b2, r9b3, r9b4, r9b5⟩ := id R9; have M9l := M9.lt))
    all_goals
      have W8 : IntKind.i64.wrap (x8 - 4) = x8 - 4 := IntWalk.i64_in _ (by omega)
      have W9 : IntKind.i64.wrap (x9 - 4) = x9 - 4 := IntWalk.i64_in _ (by omega)
      go_wp2
      refine bodyPost_ret (v := .agg #[.int .i64 1, .int .i64 0, .int .i64 0, .int .i64 1, .int .i64 (x8 - 4), .int .i64 (x9 - 4)]) (by simp [results, Tryz.results152, go_sem, *]) rfl ⟨_, _, _, _, _, _, rfl, fun hh => ⟨HS.out hh, by simp only [vecB, Bool.and_eq_true, decide_eq_true_eq]; omega⟩, ?_, ?_⟩
      · repeat (first | with_reducible assumption | (with_reducible refine Src.put (by first | omega | (simp; omega)) ?_) | with_reducible refine Src.alloc ?_ _ | with_reducible refine Src.drew ?_)
      · repeat (first | with_reducible assumption | (with_reducible refine Only.put ?_ (by first | exact Nat.le_refl _ | omega | (simp; omega)) _) | with_reducible refine Only.alloc ?_ _ | with_reducible refine Only.drew ?_)
  · have hfr : frB f = true := by simp only [flB, Bool.and_eq_true] at hfl; exact hfl.1
    have hla : latI A B C := by simp only [flB, Bool.and_eq_true] at hfl; exact latB_iff.1 hfl.2
    have h2 := stab_two hfl
    have h81 := stab_len f A B C
    have HLA := Lib.hid (fun W => l04Stable_any f A B C W hfr hla)
    clear hla hfr
    simp only [cond_true]
    have l2c0 := L2.c0
    have l2c1 := L2.c1
    have l2c2 := L2.c2
    have l2l := L2.lt
    go_wp2_with fail
    with_reducible refine (HLA.out _).mono ?_
    rintro e w3 ⟨v, rfl, hA, hb3⟩
    have R3 := R2.call hb3
    have S3 := S2.call hb3
    have O3 := O2.then hb3
    have M3 := M2.call hb3
    have SA := SRow.of hA (cells4_int _) (Nat.le_trans h81 (by omega))
    obtain ⟨ga, cap', rfl, hga1, hga2, RA⟩ := SA.2.2.resolve_left (fun h => by have := h.1; omega)
    have hgap : ga ≠ p := by have := S2.lt; omega
    have hgag : ga ≠ g := by have := M2.lt; omega
    clear L2 R2 S2 O2 M2 hb3 l2c0 l2c1 l2c2 l2l hA SA HLA
    go_wp2_with fail
    with_reducible refine (next_any _ p a0 len cap _ S3).mono ?_
    rintro e w4 ⟨x, rfl, x0, x1, S4, O4'⟩
    have x2 := x1 (by omega)
    obtain ⟨k, rfl⟩ : ∃ k : Nat, x = (k : Int) := ⟨x.toNat, by omega⟩
    have hk : k < (stabL f A B C).length := by omega
    have R4 := R3.onlyD O4' hRp
    have M4 := M3.onlyD O4' hgp
    have O4 := O3.trans O4'
    have RA4 := RA.onlyD O4' hgap
    have q1 := RA4.ko4 (k * 4) (by omega)
    have HS := Lib.hid (show flB f A B C = true → (stabL f A B C)[k] ∈ stabL f A B C from fun _ => List.getElem_mem hk)
    have hget := cells4_get (stabL f A B C) k hk
    rw [show intAt (cells4 (stabL f A B C)) (k * 4) = (stabL f A B C)[k].1 by simp [intAt, hget.1], show intAt (cells4 (stabL f A B C)) (k * 4 + 1) = (stabL f A B C)[k].2.1 by simp [intAt, hget.2.1], show intAt (cells4 (stabL f A B C)) (k * 4 + 2) = (stabL f A B C)[k].2.2.1 by simp [intAt, hget.2.2.1], show intAt (cells4 (stabL f A B C)) (k * 4 + 3) = (stabL f A B C)[k].2.2.2 by simp [intAt, hget.2.2.2]] at q1
    clear hget RA4 RA R3 S3 O3 M3 O4' x1
    generalize (stabL f A B C)[k] = m at q1 HS
    obtain ⟨a, b, c, d⟩ := m
    dsimp only at q1
    obtain ⟨q10, q11, q12, q13, q14⟩ := id q1
    obtain ⟨m0, m1, m2, m3, m4, m5, m6, m7, m8⟩ := id M4
    have M7 := M4.storeD a b c d
    have S7 : Src p a0 len cap ((((w4.setCell ⟨g, 0, none⟩ (.int .i64 a)).setCell ⟨g, 1, none⟩ (.int .i64 b)).setCell ⟨g, 2, none⟩ (.int .i64 c)).setCell ⟨g, 3, none⟩ (.int .i64 d)) := Src.put hpg (Src.put hpg (Src.put hpg (Src.put hpg S4)))
    have R7 : KM R 0 0 0 0 0 0 ((((w4.setCell ⟨g, 0, none⟩ (.int .i64 a)).setCell ⟨g, 1, none⟩ (.int .i64 b)).setCell ⟨g, 2, none⟩ (.int .i64 c)).setCell ⟨g, 3, none⟩ (.int .i64 d)) := KM.put hgR (KM.put hgR (KM.put hgR (KM.put hgR R4)))
    have O7 : Only p w ((((w4.setCell ⟨g, 0, none⟩ (.int .i64 a)).setCell ⟨g, 1, none⟩ (.int .i64 b)).setCell ⟨g, 2, none⟩ (.int .i64 c)).setCell ⟨g, 3, none⟩ (.int .i64 d)) := (((O4.put (by show _ ≤ g; omega) _).put (by show _ ≤ g; omega) _).put (by show _ ≤ g; omega) _).put (by show _ ≤ g; omega) _
    clear R4 O4 M4
    have M7l := M7.lt
    have R7l := R7.lt
    go_wp2_with fail
    go_region_held3 (fun W9 => (W9.cell? ⟨g, 0, none⟩ = some (.int .i64 a) ∧ W9.cell? ⟨g, 1, none⟩ = some (.int .i64 b) ∧ W9.cell? ⟨g, 2, none⟩ = some (.int .i64 c) ∧ W9.cell? ⟨g, 3, none⟩ = some (.int .i64 d))) ((refine KR.cells5 ?_; repeat (first | with_reducible assumption | with_reducible refine KR.drew ?_ | with_reducible refine KR.alloc ?_ _ | ((with_reducible refine KR.put ?_ ?_); (first | omega | (dsimp only; omega))) | ((with_reducible refine KR.farD ?_ ?_); (first | omega | (dsimp only; omega))))))
      (first | (go_at_call 122; ((with_reducible refine (next_any _ p a0 len cap _ ?_).mono ?_); (repeat (first | with_reducible exact S7 | with_reducible refine Src.drew ?_ | with_reducible refine Src.alloc ?_ _))); rintro e w8 ⟨x8, rfl, y8, z8, S8, O8'⟩; have t8 : x8 < 9 := z8 (by omega); have M8 : KR g a b c d w8 := KR.onlyD (by (repeat (first | with_reducible exact M7 | with_reducible refine KR.drew ?_ | with_reducible refine KR.alloc ?_ _))) O8' hgp; have R8 : KM R 0 0 0 0 0 0 w8 := KM.onlyD (by (repeat (first | with_reducible exact R7 | with_reducible refine KM.drew ?_ | with_reducible refine KM.alloc ?_ _))) O8' hRp; have O8 : Only p w w8 := Only.trans (by (repeat (first | with_reducible exact O7 | with_reducible refine Only.drew ?_ | with_reducible refine Only.alloc ?_ _))) O8') | (go_at_call 122; ((with_reducible refine (next_any _ p a0 len cap _ ?_).mono ?_); (repeat (first | with_reducible exact S8 | with_reducible refine Src.drew ?_ | with_reducible refine Src.alloc ?_ _))); rintro e w9 ⟨x9, rfl, y9, z9, S9, O9'⟩; have t9 : x9 < 9 := z9 (by omega); have M9 : KR g a b c d w9 := KR.onlyD (by (repeat (first | with_reducible exact M8 | with_reducible refine KR.drew ?_ | with_reducible refine KR.alloc ?_ _))) O9' hgp; have R9 : KM R 0 0 0 0 0 0 w9 := KM.onlyD (by (repeat (first | with_reducible exact R8 | with_reducible refine KM.drew ?_ | with_reducible refine KM.alloc ?_ _))) O9' hRp; have O9 : Only p w w9 := Only.trans (by (repeat (first | with_reducible exact O8 | with_reducible refine Only.drew ?_ | with_reducible refine Only.alloc ?_ _))) O9'; obtain ⟨r9, r9a0, r9a1, r9a2, r9a3, r9a4, r9a5, r9b0, r9b1, r9b2, r9b3, r9b4, r9b5⟩ := id R9; have M9l := M9.lt))
    all_goals
      have W8 : IntKind.i64.wrap (x8 - 4) = x8 - 4 := IntWalk.i64_in _ (by omega)
      have W9 : IntKind.i64.wrap (x9 - 4) = x9 - 4 := IntWalk.i64_in _ (by omega)
      go_wp2
      refine bodyPost_ret (v := .agg #[.int .i64 a, .int .i64 b, .int .i64 c, .int .i64 d, .int .i64 (x8 - 4), .int .i64 (x9 - 4)]) (by simp [results, Tryz.results152, go_sem, *]) rfl ⟨_, _, _, _, _, _, rfl, fun hh => ⟨HS.out hh, by simp only [vecB, Bool.and_eq_true, decide_eq_true_eq]; omega⟩, ?_, ?_⟩
      · repeat (first | with_reducible assumption | (with_reducible refine Src.put (by first | omega | (simp; omega)) ?_) | with_reducible refine Src.alloc ?_ _ | with_reducible refine Src.drew ?_)
      · repeat (first | with_reducible assumption | (with_reducible refine Only.put ?_ (by first | exact Nat.le_refl _ | omega | (simp; omega)) _) | with_reducible refine Only.alloc ?_ _ | with_reducible refine Only.drew ?_)
end Go.Proofs.YtkfeajjpbmbmpaaGreatDoor
