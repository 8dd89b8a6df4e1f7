/-
  The draws of motions (chapter 5): each returns some motions and turns nothing that was there but the source. Condition: the code's bytes can be read.
-/
import Derived.Test.YtpdekopmnchanabGreatDoorFrPm
import Derived.Test.YtpdekopmnchanabGreatDoorDrawsM2
import Derived.Test.YtpdekopmnchanabGreatDoorDraws1
import Derived.Test.YtpdekopmnchanabGreatDoorKeep5
import Derived.Deep.RegionHeld3
namespace Go.Proofs.YtpdekopmnchanabGreatDoor
open Go.RowKit
set_option linter.unusedSimpArgs false
set_option linter.unusedVariables false

theorem KM.only {R p : Nat} {a b c d x y : Int} {W w1 : World} (h : KM R a b c d x y W) (hb : Only p W w1) (hp : R ≠ p) : KM R a b c d x y w1 :=
  ⟨Nat.lt_of_lt_of_le h.lt hb.size, by rw [hb.cell h.lt hp]; exact h.c0, by rw [hb.cell h.lt hp]; exact h.c1, by rw [hb.cell h.lt hp]; exact h.c2, by rw [hb.cell h.lt hp]; exact h.c3, by rw [hb.cell h.lt hp]; exact h.c4, by rw [hb.cell h.lt hp]; exact h.c5, by rw [hb.frozen h.lt hp]; exact h.f0, by rw [hb.frozen h.lt hp]; exact h.f1, by rw [hb.frozen h.lt hp]; exact h.f2, by rw [hb.frozen h.lt hp]; exact h.f3, by rw [hb.frozen h.lt hp]; exact h.f4, by rw [hb.frozen h.lt hp]; exact h.f5⟩
theorem Kq.only4 {R p : Nat} {a b c d : Int} {W w1 : World} (h : Kq R a b c d W) (hb : Only p W w1) (hp : R ≠ p) : Kq R a b c d w1 :=
  ⟨Nat.lt_of_lt_of_le h.1 hb.size, by rw [hb.cell h.1 hp]; exact h.2.1, by rw [hb.cell h.1 hp]; exact h.2.2.1, by rw [hb.cell h.1 hp]; exact h.2.2.2.1, by rw [hb.cell h.1 hp]; exact h.2.2.2.2⟩
def MoPost (p : Nat) (a0 : Option Addr) (len cap : Nat) (w : World) (e : Ending) (w' : World) : Prop :=
  ∃ a b c d x y : Int, e = .returned (.agg #[.int .i64 a, .int .i64 b, .int .i64 c, .int .i64 d, .int .i64 x, .int .i64 y]) ∧ Src p a0 len cap w' ∧ Only p w w'
def MoMid (p : Nat) (a0 : Option Addr) (len cap : Nat) (w : World) (g : Nat) (W : World) : Prop :=
  ∃ a b c d : Int, KR g a b c d W ∧ KM w.heap.size 0 0 0 0 0 0 W ∧ Src p a0 len cap W ∧ Only p w W
set_option maxRecDepth 100000 in
set_option maxHeartbeats 8000000 in
theorem drawMo_any (p : Nat) (a0 : Option Addr) (len cap : Nat) (w : World) (h : Src p a0 len cap w) :
    Calls Tryz.prog 13 #[.pointer (some ⟨p, 0, none⟩)] w (MoPost p a0 len cap w) := by
  have hp := h.lt
  have R0 : KM w.heap.size 0 0 0 0 0 0 (w.alloc (.cells #[.int .i64 0, .int .i64 0, .int .i64 0, .int .i64 0, .int .i64 0, .int .i64 0] 29)) := KM.at _ rfl
  have S0 : Src p a0 len cap (w.alloc (.cells #[.int .i64 0, .int .i64 0, .int .i64 0, .int .i64 0, .int .i64 0, .int .i64 0] 29)) := h.alloc _
  have O0 : Only p w (w.alloc (.cells #[.int .i64 0, .int .i64 0, .int .i64 0, .int .i64 0, .int .i64 0, .int .i64 0] 29)) := (Only.refl _ _).alloc _
  have hne : w.heap.size ≠ p := by omega
  go_enter Tryz.func13, Tryz.ntmps13
  go_wp2_with fail
  refine (next_any _ p a0 len cap _ S0).mono ?_
  rintro e w1 ⟨f, rfl, f0, f1, S1, O1'⟩
  have R1 := R0.only O1' hne
  have O1 := O0.trans O1'
  clear f0 f1 R0 S0 O0 O1'
  go_wp2_with fail
  refine (drawPm_any _ p a0 len cap _ S1).mono ?_
  rintro e w2 ⟨a, b, c, d, rfl, S2, O2'⟩
  have R2 := R1.only O2' hne
  have O2 := O1.trans O2'
  clear R1 S1 O1 O2'
  have hg : w.heap.size < w2.heap.size := R2.lt
  have hgp : w2.heap.size ≠ p := by omega
  have hlt : p < w2.heap.size := by omega
  have hle : w.heap.size ≤ w2.heap.size := by omega
  have ng : ¬ w.heap.size = w2.heap.size := by omega
  go_wp2_with fail
  refine (next_any _ p a0 len cap _ (S2.alloc _)).mono ?_
  rintro e w3 ⟨k, rfl, k0, k1, S3, O3'⟩
  have K3 : KR w2.heap.size a b c d w3 := KR.only4 (KR.at _ rfl) O3' hgp
  have R3 := (R2.alloc _).only O3' hne
  have O3 := (O2.alloc _).trans O3'
  clear k0 k1 R2 S2 O2 O3'
  generalize hG : w2.heap.size = g at *
  rcases hk0 : k == 0 with _ | _
  · rcases hk1 : k == 1 with _ | _
    · rcases hk2 : k == 2 with _ | _
      · go_wp2_with fail
        refine (next_any _ p a0 len cap _ S3).mono ?_
        rintro e w8 ⟨j, rfl, j0, j1, S8, O8'⟩
        have K8 := KR.only4 K3 O8' hgp
        have R8 := KM.only R3 O8' hne
        have O8 := Only.trans O3 O8'
        clear j0 j1 O8'
        rcases hj : j == 0 with _ | _
        · have K8l := K8.lt
          have R8l := R8.lt
          go_wp2_with fail
          go_region_held3 (fun W => (W.cell? ⟨g, 0, none⟩ = some (.int .i64 a) ∧ W.cell? ⟨g, 1, none⟩ = some (.int .i64 b) ∧ W.cell? ⟨g, 2, none⟩ = some (.int .i64 c) ∧ W.cell? ⟨g, 3, none⟩ = some (.int .i64 d))) ((refine KR.cells5 ?_; repeat (first | with_reducible assumption | with_reducible refine KR.drew ?_ | with_reducible refine KR.alloc ?_ _ | ((with_reducible refine KR.put ?_ ?_); (first | omega | (dsimp only; omega))) | ((with_reducible refine KR.far ?_ ?_); (first | omega | (dsimp only; omega))))))
            (first | (go_at_call 39; ((with_reducible refine (draw_any p a0 len cap _ ?_).mono ?_); (repeat (first | with_reducible assumption | with_reducible refine Src.drew ?_ | with_reducible refine Src.alloc ?_ _)); rintro e w9 ⟨x, y, rfl, S9, O9'⟩; have K9 : KR g a b c d w9 := (KR.only4 (by repeat (first | with_reducible assumption | with_reducible refine KR.drew ?_ | with_reducible refine KR.alloc ?_ _ | ((with_reducible refine KR.put ?_ ?_); (first | omega | (dsimp only; omega))) | ((with_reducible refine KR.far ?_ ?_); (first | omega | (dsimp only; omega))))) O9' hgp); have R9 : KM w.heap.size 0 0 0 0 0 0 w9 := (KM.only (by repeat (first | with_reducible assumption | with_reducible refine KM.drew ?_ | with_reducible refine KM.alloc ?_ _ | ((with_reducible refine KM.put ?_ ?_); (first | omega | (dsimp only; omega))) | ((with_reducible refine KM.far ?_ ?_); (first | omega | (dsimp only; omega))))) O9' hne); have O9 : Only p w w9 := (Only.trans (by repeat (first | with_reducible assumption | with_reducible refine Only.drew ?_ | with_reducible refine Only.alloc ?_ _)) O9'); obtain ⟨r9, r9a0, r9a1, r9a2, r9a3, r9a4, r9a5, r9b0, r9b1, r9b2, r9b3, r9b4, r9b5⟩ := id R9; have K9l := K9.lt)))
          all_goals
            go_wp2
            refine bodyPost_ret (v := .agg #[.int .i64 a, .int .i64 b, .int .i64 c, .int .i64 d, .int .i64 x, .int .i64 y]) (by simp [results, Tryz.results13, go_sem, *]) rfl ⟨_, _, _, _, _, _, rfl, ?_, ?_⟩
            · first | exact Src.put hp (Src.put hp (Src.put hp (Src.put hp (Src.put hp (Src.put hp S9))))) | exact Src.put hp (Src.put hp (Src.put hp (Src.put hp (Src.put hp (Src.put hp S9.drew)))))
            · first | exact ((((((O9.put (Nat.le_refl _) _).put (Nat.le_refl _) _).put (Nat.le_refl _) _).put (Nat.le_refl _) _).put (Nat.le_refl _) _).put (Nat.le_refl _) _) | exact ((((((O9.drew.put (Nat.le_refl _) _).put (Nat.le_refl _) _).put (Nat.le_refl _) _).put (Nat.le_refl _) _).put (Nat.le_refl _) _).put (Nat.le_refl _) _)
        · obtain ⟨d0, d1, d2, d3, d4, d5, d6, d7, d8⟩ := id K8
          obtain ⟨r8, r8a0, r8a1, r8a2, r8a3, r8a4, r8a5, r8b0, r8b1, r8b2, r8b3, r8b4, r8b5⟩ := id R8
          go_wp2
          refine bodyPost_ret (v := .agg #[.int .i64 a, .int .i64 b, .int .i64 c, .int .i64 d, .int .i64 0, .int .i64 0]) (by simp [results, Tryz.results13, go_sem, *]) rfl ⟨_, _, _, _, _, _, rfl, ?_, ?_⟩
          · exact Src.put hp (Src.put hp (Src.put hp (Src.put hp (Src.put hp (Src.put hp S8)))))
          · exact ((((((O8.put (Nat.le_refl _) _).put (Nat.le_refl _) _).put (Nat.le_refl _) _).put (Nat.le_refl _) _).put (Nat.le_refl _) _).put (Nat.le_refl _) _)
      · obtain ⟨d0, d1, d2, d3, d4, d5, d6, d7, d8⟩ := id K3
        go_wp2_with fail
        refine (drawFinite_any p a0 len cap _ S3).mono ?_
        rintro e w7 ⟨a', b', c', d', rfl, S7, O7'⟩
        have K7 := KR.only4 K3 O7' hgp
        have R7 := KM.only R3 O7' hne
        have O7 := O3.trans O7'
        clear O7' K3 R3 S3 O3 d0 d1 d2 d3 d4 d5 d6 d7 d8
        have K7s := KR.store K7 a' b' c' d'
        obtain ⟨d0, d1, d2, d3, d4, d5, d6, d7, d8⟩ := id K7
        go_wp2_with fail
        refine (next_any _ p a0 len cap _ (Src.put hlt (Src.put hlt (Src.put hlt (Src.put hlt S7))))).mono ?_
        rintro e w8 ⟨j, rfl, j0, j1, S8, O8'⟩
        have K8 := KR.only4 K7s O8' hgp
        have R8 := KM.only (KM.put hg (KM.put hg (KM.put hg (KM.put hg R7)))) O8' hne
        have O8 := Only.trans ((((O7.put hle _).put hle _).put hle _).put hle _) O8'
        clear j0 j1 O8'
        rcases hj : j == 0 with _ | _
        · have K8l := K8.lt
          have R8l := R8.lt
          go_wp2_with fail
          go_region_held3 (fun W => (W.cell? ⟨g, 0, none⟩ = some (.int .i64 a') ∧ W.cell? ⟨g, 1, none⟩ = some (.int .i64 b') ∧ W.cell? ⟨g, 2, none⟩ = some (.int .i64 c') ∧ W.cell? ⟨g, 3, none⟩ = some (.int .i64 d'))) ((refine KR.cells5 ?_; repeat (first | with_reducible assumption | with_reducible refine KR.drew ?_ | with_reducible refine KR.alloc ?_ _ | ((with_reducible refine KR.put ?_ ?_); (first | omega | (dsimp only; omega))) | ((with_reducible refine KR.far ?_ ?_); (first | omega | (dsimp only; omega))))))
            (first | (go_at_call 39; ((with_reducible refine (draw_any p a0 len cap _ ?_).mono ?_); (repeat (first | with_reducible assumption | with_reducible refine Src.drew ?_ | with_reducible refine Src.alloc ?_ _)); rintro e w9 ⟨x, y, rfl, S9, O9'⟩; have K9 : KR g a' b' c' d' w9 := (KR.only4 (by repeat (first | with_reducible assumption | with_reducible refine KR.drew ?_ | with_reducible refine KR.alloc ?_ _ | ((with_reducible refine KR.put ?_ ?_); (first | omega | (dsimp only; omega))) | ((with_reducible refine KR.far ?_ ?_); (first | omega | (dsimp only; omega))))) O9' hgp); have R9 : KM w.heap.size 0 0 0 0 0 0 w9 := (KM.only (by repeat (first | with_reducible assumption | with_reducible refine KM.drew ?_ | with_reducible refine KM.alloc ?_ _ | ((with_reducible refine KM.put ?_ ?_); (first | omega | (dsimp only; omega))) | ((with_reducible refine KM.far ?_ ?_); (first | omega | (dsimp only; omega))))) O9' hne); have O9 : Only p w w9 := (Only.trans (by repeat (first | with_reducible assumption | with_reducible refine Only.drew ?_ | with_reducible refine Only.alloc ?_ _)) O9'); obtain ⟨r9, r9a0, r9a1, r9a2, r9a3, r9a4, r9a5, r9b0, r9b1, r9b2, r9b3, r9b4, r9b5⟩ := id R9; have K9l := K9.lt)))
          all_goals
            go_wp2
            refine bodyPost_ret (v := .agg #[.int .i64 a', .int .i64 b', .int .i64 c', .int .i64 d', .int .i64 x, .int .i64 y]) (by simp [results, Tryz.results13, go_sem, *]) rfl ⟨_, _, _, _, _, _, rfl, ?_, ?_⟩
            · first | exact Src.put hp (Src.put hp (Src.put hp (Src.put hp (Src.put hp (Src.put hp S9))))) | exact Src.put hp (Src.put hp (Src.put hp (Src.put hp (Src.put hp (Src.put hp S9.drew)))))
            · first | exact ((((((O9.put (Nat.le_refl _) _).put (Nat.le_refl _) _).put (Nat.le_refl _) _).put (Nat.le_refl _) _).put (Nat.le_refl _) _).put (Nat.le_refl _) _) | exact ((((((O9.drew.put (Nat.le_refl _) _).put (Nat.le_refl _) _).put (Nat.le_refl _) _).put (Nat.le_refl _) _).put (Nat.le_refl _) _).put (Nat.le_refl _) _)
        · obtain ⟨d0, d1, d2, d3, d4, d5, d6, d7, d8⟩ := id K8
          obtain ⟨r8, r8a0, r8a1, r8a2, r8a3, r8a4, r8a5, r8b0, r8b1, r8b2, r8b3, r8b4, r8b5⟩ := id R8
          go_wp2
          refine bodyPost_ret (v := .agg #[.int .i64 a', .int .i64 b', .int .i64 c', .int .i64 d', .int .i64 0, .int .i64 0]) (by simp [results, Tryz.results13, go_sem, *]) rfl ⟨_, _, _, _, _, _, rfl, ?_, ?_⟩
          · exact Src.put hp (Src.put hp (Src.put hp (Src.put hp (Src.put hp (Src.put hp S8)))))
          · exact ((((((O8.put (Nat.le_refl _) _).put (Nat.le_refl _) _).put (Nat.le_refl _) _).put (Nat.le_refl _) _).put (Nat.le_refl _) _).put (Nat.le_refl _) _)
    · obtain ⟨d0, d1, d2, d3, d4, d5, d6, d7, d8⟩ := id K3
      go_wp2_with fail
      refine (l02Unit_any _).mono ?_
      rintro e w7 ⟨rfl, hb7⟩
      have K7 := K3.call hb7
      have R7 := R3.call hb7
      have S7 := S3.call hb7
      have O7 := O3.then hb7
      clear hb7 K3 R3 S3 O3 d0 d1 d2 d3 d4 d5 d6 d7 d8
      have K7s := KR.store K7 1 0 0 1
      obtain ⟨d0, d1, d2, d3, d4, d5, d6, d7, d8⟩ := id K7
      go_wp2_with fail
      refine (next_any _ p a0 len cap _ (Src.put hlt (Src.put hlt (Src.put hlt (Src.put hlt S7))))).mono ?_
      rintro e w8 ⟨j, rfl, j0, j1, S8, O8'⟩
      have K8 := KR.only4 K7s O8' hgp
      have R8 := KM.only (KM.put hg (KM.put hg (KM.put hg (KM.put hg R7)))) O8' hne
      have O8 := Only.trans ((((O7.put hle _).put hle _).put hle _).put hle _) O8'
      clear j0 j1 O8'
      rcases hj : j == 0 with _ | _
      · have K8l := K8.lt
        have R8l := R8.lt
        go_wp2_with fail
        go_region_held3 (fun W => (W.cell? ⟨g, 0, none⟩ = some (.int .i64 1) ∧ W.cell? ⟨g, 1, none⟩ = some (.int .i64 0) ∧ W.cell? ⟨g, 2, none⟩ = some (.int .i64 0) ∧ W.cell? ⟨g, 3, none⟩ = some (.int .i64 1))) ((refine KR.cells5 ?_; repeat (first | with_reducible assumption | with_reducible refine KR.drew ?_ | with_reducible refine KR.alloc ?_ _ | ((with_reducible refine KR.put ?_ ?_); (first | omega | (dsimp only; omega))) | ((with_reducible refine KR.far ?_ ?_); (first | omega | (dsimp only; omega))))))
          (first | (go_at_call 39; ((with_reducible refine (draw_any p a0 len cap _ ?_).mono ?_); (repeat (first | with_reducible assumption | with_reducible refine Src.drew ?_ | with_reducible refine Src.alloc ?_ _)); rintro e w9 ⟨x, y, rfl, S9, O9'⟩; have K9 : KR g 1 0 0 1 w9 := (KR.only4 (by repeat (first | with_reducible assumption | with_reducible refine KR.drew ?_ | with_reducible refine KR.alloc ?_ _ | ((with_reducible refine KR.put ?_ ?_); (first | omega | (dsimp only; omega))) | ((with_reducible refine KR.far ?_ ?_); (first | omega | (dsimp only; omega))))) O9' hgp); have R9 : KM w.heap.size 0 0 0 0 0 0 w9 := (KM.only (by repeat (first | with_reducible assumption | with_reducible refine KM.drew ?_ | with_reducible refine KM.alloc ?_ _ | ((with_reducible refine KM.put ?_ ?_); (first | omega | (dsimp only; omega))) | ((with_reducible refine KM.far ?_ ?_); (first | omega | (dsimp only; omega))))) O9' hne); have O9 : Only p w w9 := (Only.trans (by repeat (first | with_reducible assumption | with_reducible refine Only.drew ?_ | with_reducible refine Only.alloc ?_ _)) O9'); obtain ⟨r9, r9a0, r9a1, r9a2, r9a3, r9a4, r9a5, r9b0, r9b1, r9b2, r9b3, r9b4, r9b5⟩ := id R9; have K9l := K9.lt)))
        all_goals
          go_wp2
          refine bodyPost_ret (v := .agg #[.int .i64 1, .int .i64 0, .int .i64 0, .int .i64 1, .int .i64 x, .int .i64 y]) (by simp [results, Tryz.results13, go_sem, *]) rfl ⟨_, _, _, _, _, _, rfl, ?_, ?_⟩
          · first | exact Src.put hp (Src.put hp (Src.put hp (Src.put hp (Src.put hp (Src.put hp S9))))) | exact Src.put hp (Src.put hp (Src.put hp (Src.put hp (Src.put hp (Src.put hp S9.drew)))))
          · first | exact ((((((O9.put (Nat.le_refl _) _).put (Nat.le_refl _) _).put (Nat.le_refl _) _).put (Nat.le_refl _) _).put (Nat.le_refl _) _).put (Nat.le_refl _) _) | exact ((((((O9.drew.put (Nat.le_refl _) _).put (Nat.le_refl _) _).put (Nat.le_refl _) _).put (Nat.le_refl _) _).put (Nat.le_refl _) _).put (Nat.le_refl _) _)
      · obtain ⟨d0, d1, d2, d3, d4, d5, d6, d7, d8⟩ := id K8
        obtain ⟨r8, r8a0, r8a1, r8a2, r8a3, r8a4, r8a5, r8b0, r8b1, r8b2, r8b3, r8b4, r8b5⟩ := id R8
        go_wp2
        refine bodyPost_ret (v := .agg #[.int .i64 1, .int .i64 0, .int .i64 0, .int .i64 1, .int .i64 0, .int .i64 0]) (by simp [results, Tryz.results13, go_sem, *]) rfl ⟨_, _, _, _, _, _, rfl, ?_, ?_⟩
        · exact Src.put hp (Src.put hp (Src.put hp (Src.put hp (Src.put hp (Src.put hp S8)))))
        · exact ((((((O8.put (Nat.le_refl _) _).put (Nat.le_refl _) _).put (Nat.le_refl _) _).put (Nat.le_refl _) _).put (Nat.le_refl _) _).put (Nat.le_refl _) _)
  · obtain ⟨d0, d1, d2, d3, d4, d5, d6, d7, d8⟩ := id K3
    go_wp2_with fail
    refine (drawMat_any p a0 len cap _ S3).mono ?_
    rintro e w7 ⟨a', b', c', d', rfl, S7, O7'⟩
    have K7 := KR.only4 K3 O7' hgp
    have R7 := KM.only R3 O7' hne
    have O7 := O3.trans O7'
    clear O7' K3 R3 S3 O3 d0 d1 d2 d3 d4 d5 d6 d7 d8
    have K7s := KR.store K7 a' b' c' d'
    obtain ⟨d0, d1, d2, d3, d4, d5, d6, d7, d8⟩ := id K7
    go_wp2_with fail
    refine (next_any _ p a0 len cap _ (Src.put hlt (Src.put hlt (Src.put hlt (Src.put hlt S7))))).mono ?_
    rintro e w8 ⟨j, rfl, j0, j1, S8, O8'⟩
    have K8 := KR.only4 K7s O8' hgp
    have R8 := KM.only (KM.put hg (KM.put hg (KM.put hg (KM.put hg R7)))) O8' hne
    have O8 := Only.trans ((((O7.put hle _).put hle _).put hle _).put hle _) O8'
    clear j0 j1 O8'
    rcases hj : j == 0 with _ | _
    · have K8l := K8.lt
      have R8l := R8.lt
      go_wp2_with fail
      go_region_held3 (fun W => (W.cell? ⟨g, 0, none⟩ = some (.int .i64 a') ∧ W.cell? ⟨g, 1, none⟩ = some (.int .i64 b') ∧ W.cell? ⟨g, 2, none⟩ = some (.int .i64 c') ∧ W.cell? ⟨g, 3, none⟩ = some (.int .i64 d'))) ((refine KR.cells5 ?_; repeat (first | with_reducible assumption | with_reducible refine KR.drew ?_ | with_reducible refine KR.alloc ?_ _ | ((with_reducible refine KR.put ?_ ?_); (first | omega | (dsimp only; omega))) | ((with_reducible refine KR.far ?_ ?_); (first | omega | (dsimp only; omega))))))
        (first | (go_at_call 39; ((with_reducible refine (draw_any p a0 len cap _ ?_).mono ?_); (repeat (first | with_reducible assumption | with_reducible refine Src.drew ?_ | with_reducible refine Src.alloc ?_ _)); rintro e w9 ⟨x, y, rfl, S9, O9'⟩; have K9 : KR g a' b' c' d' w9 := (KR.only4 (by repeat (first | with_reducible assumption | with_reducible refine KR.drew ?_ | with_reducible refine KR.alloc ?_ _ | ((with_reducible refine KR.put ?_ ?_); (first | omega | (dsimp only; omega))) | ((with_reducible refine KR.far ?_ ?_); (first | omega | (dsimp only; omega))))) O9' hgp); have R9 : KM w.heap.size 0 0 0 0 0 0 w9 := (KM.only (by repeat (first | with_reducible assumption | with_reducible refine KM.drew ?_ | with_reducible refine KM.alloc ?_ _ | ((with_reducible refine KM.put ?_ ?_); (first | omega | (dsimp only; omega))) | ((with_reducible refine KM.far ?_ ?_); (first | omega | (dsimp only; omega))))) O9' hne); have O9 : Only p w w9 := (Only.trans (by repeat (first | with_reducible assumption | with_reducible refine Only.drew ?_ | with_reducible refine Only.alloc ?_ _)) O9'); obtain ⟨r9, r9a0, r9a1, r9a2, r9a3, r9a4, r9a5, r9b0, r9b1, r9b2, r9b3, r9b4, r9b5⟩ := id R9; have K9l := K9.lt)))
      all_goals
        go_wp2
        refine bodyPost_ret (v := .agg #[.int .i64 a', .int .i64 b', .int .i64 c', .int .i64 d', .int .i64 x, .int .i64 y]) (by simp [results, Tryz.results13, go_sem, *]) rfl ⟨_, _, _, _, _, _, rfl, ?_, ?_⟩
        · first | exact Src.put hp (Src.put hp (Src.put hp (Src.put hp (Src.put hp (Src.put hp S9))))) | exact Src.put hp (Src.put hp (Src.put hp (Src.put hp (Src.put hp (Src.put hp S9.drew)))))
        · first | exact ((((((O9.put (Nat.le_refl _) _).put (Nat.le_refl _) _).put (Nat.le_refl _) _).put (Nat.le_refl _) _).put (Nat.le_refl _) _).put (Nat.le_refl _) _) | exact ((((((O9.drew.put (Nat.le_refl _) _).put (Nat.le_refl _) _).put (Nat.le_refl _) _).put (Nat.le_refl _) _).put (Nat.le_refl _) _).put (Nat.le_refl _) _)
    · obtain ⟨d0, d1, d2, d3, d4, d5, d6, d7, d8⟩ := id K8
      obtain ⟨r8, r8a0, r8a1, r8a2, r8a3, r8a4, r8a5, r8b0, r8b1, r8b2, r8b3, r8b4, r8b5⟩ := id R8
      go_wp2
      refine bodyPost_ret (v := .agg #[.int .i64 a', .int .i64 b', .int .i64 c', .int .i64 d', .int .i64 0, .int .i64 0]) (by simp [results, Tryz.results13, go_sem, *]) rfl ⟨_, _, _, _, _, _, rfl, ?_, ?_⟩
      · exact Src.put hp (Src.put hp (Src.put hp (Src.put hp (Src.put hp (Src.put hp S8)))))
      · exact ((((((O8.put (Nat.le_refl _) _).put (Nat.le_refl _) _).put (Nat.le_refl _) _).put (Nat.le_refl _) _).put (Nat.le_refl _) _).put (Nat.le_refl _) _)
end Go.Proofs.YtpdekopmnchanabGreatDoor
