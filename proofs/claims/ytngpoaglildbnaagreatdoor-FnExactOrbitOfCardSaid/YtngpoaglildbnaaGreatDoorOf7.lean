/-
  The contract of the model's OrbitOf. Condition: the list's length is below the model's bound.
-/
import Derived.Test.YtngpoaglildbnaaGreatDoorOb7
import Derived.Test.YtngpoaglildbnaaGreatDoorSb7
import Derived.Deep.RegionHeld3
import Derived.IntWalk
namespace Go.Proofs.YtngpoaglildbnaaGreatDoor
open Go.RowKit
set_option linter.unusedSimpArgs false
set_option linter.unusedVariables false

def oL (f A B C : Int) (xs : List M6) (p q : Int) : List V2 := bif sbB f A B C xs p q then orbL A B C xs (p, q) else []
theorem oL_len (f A B C : Int) (xs : List M6) (p q : Int) : (oL f A B C xs p q).length ≤ 768 := by
  rcases h : sbB f A B C xs p q with _ | _
  · simp [oL, h]
  · simp only [oL, h, cond_true]
    exact Nat.le_trans (orbL_len _ _ _ _ _) (grp_len (sb_parts h).1)
def oF (f A B C : Int) (xs : List M6) (p q : Int) : Nat → Int := intAt (cells2 (oL f A B C xs p q))
theorem SRow.lower8 {lo lo' hi K n : Nat} {v : Value} {F : Nat → Int} {W : World} (h : SRow lo hi K v n F W) (hl : lo' ≤ lo) : SRow lo' hi K v n F W := by
  obtain ⟨h1, h2, h3⟩ := h
  refine ⟨h1, h2, ?_⟩
  rcases h3 with h3 | ⟨g, cap, e, h4, h5, h6⟩
  · exact .inl h3
  · exact .inr ⟨g, cap, e, Nat.le_trans hl h4, h5, h6⟩
set_option maxRecDepth 100000 in
set_option maxHeartbeats 16000000 in
theorem specOrbit_any {lo hi : Nat} {v : Value} {xs : List M6} {w : World} (f A B C p q : Int) (h : SRow lo hi 6 v xs.length (fm xs) w) (hn : xs.length ≤ 1048576) :
    Calls Tryz.prog 24 #[.int .i64 f, .agg #[.int .i64 A, .int .i64 B, .int .i64 C], v, .agg #[.int .i64 p, .int .i64 q]] w (LAns 2 (oL f A B C xs p q).length (oF f A B C xs p q) (cod6 f A B C (sbB f A B C xs p q)) w) := by
  have HN := Lib.hid hn
  have HA := Lib.hid h
  have L0 : Kt w.heap.size A B C ((w.alloc (.cells #[.int .i64 A, .int .i64 B, .int .i64 C] 31)).alloc (.cells #[.int .i64 p, .int .i64 q] 34)) := Kt.alloc (Kt.at _ rfl) _
  have V0 : Kg (w.heap.size + 1) p q ((w.alloc (.cells #[.int .i64 A, .int .i64 B, .int .i64 C] 31)).alloc (.cells #[.int .i64 p, .int .i64 q] 34)) := Kg.at2 _ (by simp)
  have B0 : Below w.heap.size w ((w.alloc (.cells #[.int .i64 A, .int .i64 B, .int .i64 C] 31)).alloc (.cells #[.int .i64 p, .int .i64 q] 34)) := (((Below.refl _ _).alloc (Nat.le_refl _) _).alloc (by simp) _)
  have L0c := L0.cells
  have V0c := V0.cells
  have C1 := Lib.hid (fun W => l07Cell_any A B C p q W)
  have CC : Hid (∀ W, Below w.heap.size w W → Calls Tryz.prog 41 #[.int .i64 f, .agg #[.int .i64 A, .int .i64 B, .int .i64 C], v, .bool (cel7 A C p q)] W fun e w' => e = .returned (.int .i64 (cod6 f A B C (sbB f A B C xs p q))) ∧ Below W.heap.size W w') := Lib.hid (fun W hW => l07Code_any f A B C (cel7 A C p q) (HA.out.grow hW HA.out.1) HN.out)
  have HCO : Hid ((sbB f A B C xs p q = true ∧ cod6 f A B C (sbB f A B C xs p q) = 0) ∨ (sbB f A B C xs p q = false ∧ (cod6 f A B C (sbB f A B C xs p q) != 0) = true)) := Lib.hid (by
    rcases hb : sbB f A B C xs p q with _ | _
    · exact .inr ⟨rfl, cod6_nz f A B C⟩
    · exact .inl ⟨rfl, cod6_ok (sb_parts hb).1⟩)
  rcases HCO.out with ⟨hg, hc⟩ | ⟨hg, hc⟩
  case inr =>
    obtain ⟨ao, cap, rfl⟩ := srow_shape h
    clear h hn
    have HZ := Lib.hid (show (oL f A B C xs p q).length = 0 by simp [oL, hg])
    clear hg HCO
    generalize cod6 f A B C (sbB f A B C xs p q) = cc at CC hc ⊢
    generalize cel7 A C p q = r at C1 CC
    go_enter Tryz.func24, Tryz.ntmps24
    go_wp2_with fail
    go_region_held3 (fun W => (W.cell? ⟨w.heap.size, 0, none⟩ = some (.int .i64 A) ∧ W.cell? ⟨w.heap.size, 1, none⟩ = some (.int .i64 B) ∧ W.cell? ⟨w.heap.size, 2, none⟩ = some (.int .i64 C)) ∧ (W.cell? ⟨w.heap.size + 1, 0, none⟩ = some (.int .i64 p) ∧ W.cell? ⟨w.heap.size + 1, 1, none⟩ = some (.int .i64 q))) ((refine And.intro (Kt.cells ?_) (Kg.cells ?_)) <;> repeat (first | with_reducible assumption | with_reducible refine Kt.drew ?_ | with_reducible refine Kt.alloc ?_ _ | with_reducible refine Kt.call ?_ (by with_reducible assumption) | with_reducible refine Kg.drew ?_ | with_reducible refine Kg.alloc ?_ _ | with_reducible refine Kg.call ?_ (by with_reducible assumption)))
      (first
        | (go_at_call 42; with_reducible refine (C1.out _).mono ?_; rintro e u1 ⟨rfl, hb1⟩; have L1 : Kt w.heap.size A B C u1 := (by repeat (first | with_reducible assumption | with_reducible refine Kt.drew ?_ | with_reducible refine Kt.alloc ?_ _ | with_reducible refine Kt.call ?_ (by with_reducible assumption) | with_reducible refine Kg.drew ?_ | with_reducible refine Kg.alloc ?_ _ | with_reducible refine Kg.call ?_ (by with_reducible assumption))); have V1 : Kg (w.heap.size + 1) p q u1 := (by repeat (first | with_reducible assumption | with_reducible refine Kt.drew ?_ | with_reducible refine Kt.alloc ?_ _ | with_reducible refine Kt.call ?_ (by with_reducible assumption) | with_reducible refine Kg.drew ?_ | with_reducible refine Kg.alloc ?_ _ | with_reducible refine Kg.call ?_ (by with_reducible assumption))); have B1 : Below w.heap.size w u1 := (by repeat (first | with_reducible assumption | with_reducible exact Below.refl _ _ | with_reducible refine Below.alloc ?_ (by first | omega | (simp <;> omega)) _ | with_reducible refine bstep ?_ (by with_reducible assumption) | with_reducible refine Below.drew ?_)))
        | (go_at_call 41; with_reducible refine (CC.out _ (by repeat (first | with_reducible assumption | with_reducible exact Below.refl _ _ | with_reducible refine Below.alloc ?_ (by first | omega | (simp <;> omega)) _ | with_reducible refine bstep ?_ (by with_reducible assumption) | with_reducible refine Below.drew ?_))).mono ?_; rintro e u2 ⟨rfl, hb2⟩; have L2 : Kt w.heap.size A B C u2 := (by repeat (first | with_reducible assumption | with_reducible refine Kt.drew ?_ | with_reducible refine Kt.alloc ?_ _ | with_reducible refine Kt.call ?_ (by with_reducible assumption) | with_reducible refine Kg.drew ?_ | with_reducible refine Kg.alloc ?_ _ | with_reducible refine Kg.call ?_ (by with_reducible assumption))); have V2 : Kg (w.heap.size + 1) p q u2 := (by repeat (first | with_reducible assumption | with_reducible refine Kt.drew ?_ | with_reducible refine Kt.alloc ?_ _ | with_reducible refine Kt.call ?_ (by with_reducible assumption) | with_reducible refine Kg.drew ?_ | with_reducible refine Kg.alloc ?_ _ | with_reducible refine Kg.call ?_ (by with_reducible assumption))); have B2 : Below w.heap.size w u2 := (by repeat (first | with_reducible assumption | with_reducible exact Below.refl _ _ | with_reducible refine Below.alloc ?_ (by first | omega | (simp <;> omega)) _ | with_reducible refine bstep ?_ (by with_reducible assumption) | with_reducible refine Below.drew ?_))))
    all_goals
      go_wp2
      go_ret2
      exact LAns.bad HZ.out rfl (by repeat (first | with_reducible assumption | with_reducible exact Below.refl _ _ | with_reducible refine Below.drew ?_ | with_reducible refine below_drewN ?_ _ | with_reducible refine Below.alloc ?_ (by first | omega | (simp <;> omega)) _ | with_reducible refine bstep ?_ (by with_reducible assumption)))
  have HST := Lib.hid hg
  have HG := Lib.hid (sb_parts hg).1
  have HCL := Lib.hid (sb_parts hg).2
  rw [hc] at CC ⊢
  have HLE := Lib.hid (show oL f A B C xs p q = orbL A B C xs (p, q) by simp [oL, hg])
  have HLN := Lib.hid (oL_len f A B C xs p q)
  have CO : Hid (∀ W, Below w.heap.size w W → Calls Tryz.prog 69 #[.agg #[.int .i64 A, .int .i64 B, .int .i64 C], v, .agg #[.int .i64 p, .int .i64 q]] W fun e w' => ∃ g cap, e = .returned (.slice (some ⟨g, 0, none⟩) (orbL A B C xs (p, q)).length cap) ∧ KO2 g W.heap.size cap 34 (orbL A B C xs (p, q)) w' ∧ Below W.heap.size W w') := Lib.hid (fun W hW => l07Orbit_any p q HG.out HCL.out (HA.out.grow hW HA.out.1))
  obtain ⟨ao, cap, rfl⟩ := srow_shape h
  clear h hn hg hc HCO
  unfold oF
  generalize oL f A B C xs p q = O at *
  rw [← HLE.out] at CO
  generalize cel7 A C p q = r at C1 CC
  go_enter Tryz.func24, Tryz.ntmps24
  go_wp2_with fail
  go_region_held3 (fun W => (W.cell? ⟨w.heap.size, 0, none⟩ = some (.int .i64 A) ∧ W.cell? ⟨w.heap.size, 1, none⟩ = some (.int .i64 B) ∧ W.cell? ⟨w.heap.size, 2, none⟩ = some (.int .i64 C)) ∧ (W.cell? ⟨w.heap.size + 1, 0, none⟩ = some (.int .i64 p) ∧ W.cell? ⟨w.heap.size + 1, 1, none⟩ = some (.int .i64 q))) ((refine And.intro (Kt.cells ?_) (Kg.cells ?_)) <;> repeat (first | with_reducible assumption | with_reducible refine Kt.drew ?_ | with_reducible refine Kt.alloc ?_ _ | with_reducible refine Kt.call ?_ (by with_reducible assumption) | with_reducible refine Kg.drew ?_ | with_reducible refine Kg.alloc ?_ _ | with_reducible refine Kg.call ?_ (by with_reducible assumption)))
    (first
      | (go_at_call 42; with_reducible refine (C1.out _).mono ?_; rintro e u1 ⟨rfl, hb1⟩; have L1 : Kt w.heap.size A B C u1 := (by repeat (first | with_reducible assumption | with_reducible refine Kt.drew ?_ | with_reducible refine Kt.alloc ?_ _ | with_reducible refine Kt.call ?_ (by with_reducible assumption) | with_reducible refine Kg.drew ?_ | with_reducible refine Kg.alloc ?_ _ | with_reducible refine Kg.call ?_ (by with_reducible assumption))); have V1 : Kg (w.heap.size + 1) p q u1 := (by repeat (first | with_reducible assumption | with_reducible refine Kt.drew ?_ | with_reducible refine Kt.alloc ?_ _ | with_reducible refine Kt.call ?_ (by with_reducible assumption) | with_reducible refine Kg.drew ?_ | with_reducible refine Kg.alloc ?_ _ | with_reducible refine Kg.call ?_ (by with_reducible assumption))); have B1 : Below w.heap.size w u1 := (by repeat (first | with_reducible assumption | with_reducible exact Below.refl _ _ | with_reducible refine Below.alloc ?_ (by first | omega | (simp <;> omega)) _ | with_reducible refine bstep ?_ (by with_reducible assumption) | with_reducible refine Below.drew ?_)))
      | (go_at_call 41; with_reducible refine (CC.out _ (by repeat (first | with_reducible assumption | with_reducible exact Below.refl _ _ | with_reducible refine Below.alloc ?_ (by first | omega | (simp <;> omega)) _ | with_reducible refine bstep ?_ (by with_reducible assumption) | with_reducible refine Below.drew ?_))).mono ?_; rintro e u2 ⟨rfl, hb2⟩; have L2 : Kt w.heap.size A B C u2 := (by repeat (first | with_reducible assumption | with_reducible refine Kt.drew ?_ | with_reducible refine Kt.alloc ?_ _ | with_reducible refine Kt.call ?_ (by with_reducible assumption) | with_reducible refine Kg.drew ?_ | with_reducible refine Kg.alloc ?_ _ | with_reducible refine Kg.call ?_ (by with_reducible assumption))); have V2 : Kg (w.heap.size + 1) p q u2 := (by repeat (first | with_reducible assumption | with_reducible refine Kt.drew ?_ | with_reducible refine Kt.alloc ?_ _ | with_reducible refine Kt.call ?_ (by with_reducible assumption) | with_reducible refine Kg.drew ?_ | with_reducible refine Kg.alloc ?_ _ | with_reducible refine Kg.call ?_ (by with_reducible assumption))); have B2 : Below w.heap.size w u2 := (by repeat (first | with_reducible assumption | with_reducible exact Below.refl _ _ | with_reducible refine Below.alloc ?_ (by first | omega | (simp <;> omega)) _ | with_reducible refine bstep ?_ (by with_reducible assumption) | with_reducible refine Below.drew ?_))))
  all_goals
    have L2c := L2.cells
    have V2c := V2.cells
    clear L1 B1 V1 L0 B0 L0c V0 V0c hb1 hb2 L2 V2
    go_wp2_with fail
    refine (CO.out _ B2).mono ?_
    rintro e u3 ⟨g, cap3, rfl, K3, hb3⟩
    have B3 := bstep B2 hb3
    have zq := B2.size
    have S3 := Lib.hid (SRow.lower8 (SRow.of (show u3.ownsRow u2.heap.size 34 2 (.slice (some ⟨g, 0, none⟩) O.length cap3) O.length (cells2 O) from K3) (cells2_int _) (by have := HLN.out; omega)) zq)
    clear hb3 B2 K3 L2c V2c
    go_wp2
    go_ret2
    exact ⟨_, rfl, S3.out, B3⟩

end Go.Proofs.YtngpoaglildbnaaGreatDoor
