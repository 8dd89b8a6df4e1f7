/-
  Several of my texts in one: SyA, SyB, SyS.
-/
import Derived.Test.YtjjfomokecngoaaGreatDoorPtJ
import Derived.Test.YtjjfomokecngoaaGreatDoorVb
import Derived.Test.YtjjfomokecngoaaGreatDoorPtB
import Derived.Deep.RegionHeld3
import Derived.WalkMore
import Derived.Test.YtjjfomokecngoaaGreatDoorSyM
namespace Go.Proofs.YtjjfomokecngoaaGreatDoor
section
open Go.RowKit
set_option linter.unusedSimpArgs false
set_option linter.unusedVariables false

def brk (A B C : Int) (F : Nat → Int) (a b c d x y : Int) (v : V29) : Bool := !(F (numP A B C (a * v.1 + b * v.2 + x) (c * v.1 + d * v.2 + y)) == F (numP A B C v.1 v.2))
def witR (A B C : Int) (F : Nat → Int) (a b c d x y : Int) (L : List V29) : Option V29 := L.find? (brk A B C F a b c d x y)
def witV (r : Option V29) : V29 := r.getD (0, 0)
theorem wit_some (A B C : Int) (F : Nat → Int) (a b c d x y : Int) (L : List V29) : (witR A B C F a b c d x y L).isSome = !(kepM A B C F a b c d x y L) := by
  unfold witR kepM
  rw [Bool.eq_iff_iff, List.find?_isSome]
  simp [brk]
theorem cellP_pre (q : Nat) {i : Nat} : ∀ {p : Nat}, i ≤ p → ∃ r, cellP q p = cellP q i ++ r := by
  intro p
  induction p with
  | zero => intro h; obtain rfl : i = 0 := by omega
            exact ⟨[], by simp⟩
  | succ p ih =>
    intro h
    by_cases e : i = p + 1
    · subst e; exact ⟨[], by simp⟩
    · obtain ⟨r, hr⟩ := ih (by omega)
      exact ⟨r ++ cellR p q, by rw [cellP_succ, hr, List.append_assoc]⟩
theorem cellR_pre (a : Nat) {i : Nat} : ∀ {q : Nat}, i ≤ q → ∃ r, cellR a q = cellR a i ++ r := by
  intro p
  induction p with
  | zero => intro h; obtain rfl : i = 0 := by omega
            exact ⟨[], by simp⟩
  | succ p ih =>
    intro h
    by_cases e : i = p + 1
    · subst e; exact ⟨[], by simp⟩
    · obtain ⟨r, hr⟩ := ih (by omega)
      exact ⟨r ++ [((a : Int), (p : Int))], by rw [cellR_succ, hr, List.append_assoc]⟩
theorem find_cell {br : V29 → Bool} {p q i j : Nat} (hi : i < p) (hj : j < q) (h : ∀ v ∈ cellP q i ++ cellR i j, br v = false) (hb : br ((i : Int), (j : Int)) = true) : (cellP q p).find? br = some ((i : Int), (j : Int)) := by
  obtain ⟨r1, e1⟩ := cellP_pre q (show i + 1 ≤ p from hi)
  obtain ⟨r2, e2⟩ := cellR_pre i (show j + 1 ≤ q from hj)
  rw [e1, cellP_succ, e2, cellR_succ, List.find?_eq_some_iff_append]
  refine ⟨hb, cellP q i ++ cellR i j, r2 ++ r1, by simp, fun v hv => by simp [h v hv]⟩
theorem find_none {br : V29 → Bool} {L : List V29} (h : ∀ v ∈ L, br v = false) : L.find? br = none := List.find?_eq_none.2 fun v hv => by simp [h v hv]
theorem lean_pat {f B : Int} {p q n : Nat} {F : Nat → Int} (h : PatI f p B q n F) : PatI f (leaP (p : Int) B (q : Int) F) (fulI (p : Int) B (q : Int) F).2.1 (leaQ (p : Int) B (q : Int) F) (leaP (p : Int) B (q : Int) F * leaQ (p : Int) B (q : Int) F) (onG (p : Int) B (q : Int) F (leaP (p : Int) B (q : Int) F) (leaQ (p : Int) B (q : Int) F)) := by
  refine ⟨h.fr, (fulI_at h.lat).2, rfl, fun t ht => ?_⟩
  unfold onG cpyG
  rw [cpyL_unit]
  have hl : t < ((cellP (leaQ (p : Int) B (q : Int) F) (leaP (p : Int) B (q : Int) F)).map fun v => F (numP (p : Int) B (q : Int) v.1 v.2)).length := by rw [List.length_map, cellP_len]; exact ht
  rw [intAt_intsV hl, List.getElem_map]
  exact h.col _ (numP_lt h _ _)
end
end Go.Proofs.YtjjfomokecngoaaGreatDoor

namespace Go.Proofs.YtjjfomokecngoaaGreatDoor
section
open Go.RowKit
set_option linter.unusedSimpArgs false
set_option linter.unusedVariables false

set_option maxRecDepth 100000 in
set_option maxHeartbeats 16000000 in
theorem witness_any {lo hi p q n : Nat} {f B : Int} {v : Value} {F : Nat → Int} {W : World} (h : PatI f p B q n F) (hv : SRow lo hi 1 v n F W) (a b c d x y : Int) (hl : limB a b c d = true) (hxy : vecB x y = true) :
    Calls Tryz.prog 209 #[.agg #[.int .i64 f, .int .i64 (p : Int), .int .i64 B, .int .i64 (q : Int), v], .agg #[.int .i64 a, .int .i64 b, .int .i64 c, .int .i64 d, .int .i64 x, .int .i64 y]] W fun e w' => e = .returned (.tuple #[.agg #[.int .i64 ((witV (witR (p : Int) B (q : Int) F a b c d x y (cellP q p))).1), .int .i64 ((witV (witR (p : Int) B (q : Int) F a b c d x y (cellP q p))).2)], .bool (witR (p : Int) B (q : Int) F a b c d x y (cellP q p)).isSome]) ∧ Below W.heap.size W w' := by
  have R := Lib.hid hv
  have HH := Lib.hid h
  obtain ⟨hp1, hp2, hq1, hq2, hn64, hn1⟩ := h.bd
  obtain ⟨g, cap, rfl, hg, _, r⟩ := hv.irow hn1
  have hgs := hv.1
  have hgw : g < W.heap.size := by omega
  have HLI := Lib.hid (And.intro hl hxy)
  obtain ⟨ro, hro⟩ : ∃ z, z = witR (p : Int) B (q : Int) F a b c d x y (cellP q p) := ⟨_, rfl⟩
  rw [← hro]
  have HRO := Lib.hid (show ro = (cellP q p).find? (brk (p : Int) B (q : Int) F a b c d x y) from hro)
  clear hv h hl hxy hro
  go_enter Tryz.func209, Tryz.ntmps209
  have P1 : Bx W.heap.size [.int .i64 f, .int .i64 (p : Int), .int .i64 B, .int .i64 (q : Int), .slice (some ⟨g, 0, none⟩) n cap] ((((W.alloc (.cells #[.int .i64 f, .int .i64 (p : Int), .int .i64 B, .int .i64 (q : Int), .slice (some ⟨g, 0, none⟩) n cap] 40)).alloc (.cells #[.int .i64 a, .int .i64 b, .int .i64 c, .int .i64 d, .int .i64 x, .int .i64 y] 145)).alloc (.cells #[.int .i64 0, .int .i64 0] 63)).alloc (.cells #[.int .i64 0, .int .i64 0] 63)) := ((((Bx.at _ rfl).alloc _).alloc _).alloc _)
  have M1 : Bx (W.heap.size + 1) [.int .i64 a, .int .i64 b, .int .i64 c, .int .i64 d, .int .i64 x, .int .i64 y] ((((W.alloc (.cells #[.int .i64 f, .int .i64 (p : Int), .int .i64 B, .int .i64 (q : Int), .slice (some ⟨g, 0, none⟩) n cap] 40)).alloc (.cells #[.int .i64 a, .int .i64 b, .int .i64 c, .int .i64 d, .int .i64 x, .int .i64 y] 145)).alloc (.cells #[.int .i64 0, .int .i64 0] 63)).alloc (.cells #[.int .i64 0, .int .i64 0] 63)) := (((Bx.at _ (by simp)).alloc _).alloc _)
  have R1 : BX (W.heap.size + 1 + 1) [.int .i64 0, .int .i64 0] ((((W.alloc (.cells #[.int .i64 f, .int .i64 (p : Int), .int .i64 B, .int .i64 (q : Int), .slice (some ⟨g, 0, none⟩) n cap] 40)).alloc (.cells #[.int .i64 a, .int .i64 b, .int .i64 c, .int .i64 d, .int .i64 x, .int .i64 y] 145)).alloc (.cells #[.int .i64 0, .int .i64 0] 63)).alloc (.cells #[.int .i64 0, .int .i64 0] 63)) := (BX.at _ (by simp)).alloc _
  have F1 : BX (W.heap.size + 1 + 1 + 1) [.int .i64 0, .int .i64 0] ((((W.alloc (.cells #[.int .i64 f, .int .i64 (p : Int), .int .i64 B, .int .i64 (q : Int), .slice (some ⟨g, 0, none⟩) n cap] 40)).alloc (.cells #[.int .i64 a, .int .i64 b, .int .i64 c, .int .i64 d, .int .i64 x, .int .i64 y] 145)).alloc (.cells #[.int .i64 0, .int .i64 0] 63)).alloc (.cells #[.int .i64 0, .int .i64 0] 63)) := BX.at _ (by simp)
  have B1 : Below W.heap.size W ((((W.alloc (.cells #[.int .i64 f, .int .i64 (p : Int), .int .i64 B, .int .i64 (q : Int), .slice (some ⟨g, 0, none⟩) n cap] 40)).alloc (.cells #[.int .i64 a, .int .i64 b, .int .i64 c, .int .i64 d, .int .i64 x, .int .i64 y] 145)).alloc (.cells #[.int .i64 0, .int .i64 0] 63)).alloc (.cells #[.int .i64 0, .int .i64 0] 63)) := by repeat (first | with_reducible exact Below.refl _ _ | with_reducible assumption | with_reducible refine Below.setCell ?_ (by first | omega | (dsimp only; omega) | (simp <;> omega)) _ | with_reducible refine Below.alloc ?_ (by first | omega | (simp <;> omega)) _ | with_reducible refine bstep ?_ (by with_reducible assumption) | with_reducible refine Below.drew ?_ | with_reducible refine below_drewN ?_ _)
  have p1c0 := P1.c0
  have p1c1 := P1.c1
  have p1c2 := P1.c2
  have p1c3 := P1.c3
  have p1c4 := P1.c4
  have p1l := P1.lt
  go_wp2
  go_step3
  go_wp2
  go_step3
  go_wp2_with fail
  obtain ⟨w1, hw1⟩ : ∃ w1, ((((W.alloc (.cells #[.int .i64 f, .int .i64 (p : Int), .int .i64 B, .int .i64 (q : Int), .slice (some ⟨g, 0, none⟩) n cap] 40)).alloc (.cells #[.int .i64 a, .int .i64 b, .int .i64 c, .int .i64 d, .int .i64 x, .int .i64 y] 145)).alloc (.cells #[.int .i64 0, .int .i64 0] 63)).alloc (.cells #[.int .i64 0, .int .i64 0] 63)) = w1 := ⟨_, rfl⟩
  rw [hw1] at P1 M1 R1 F1 B1
  (try rw [hw1])
  clear hw1 p1c0 p1c1 p1c2 p1c3 p1c4 p1l
  go_loopw [7, 14] (fun s7 s X => ∃ i : Nat, s7 = .bool false ∧ s = .int .i64 (i : Int) ∧ i ≤ p ∧ (∀ v ∈ cellP q i, (brk (p : Int) B (q : Int) F a b c d x y) v = false) ∧ Below w1.heap.size w1 X) (fun _ s _ => p - (intOf s).toNat)
  case atStart => exact ⟨0, rfl, rfl, by omega, fun v hv => by simp [cellP] at hv, Below.refl _ _⟩
  case round =>
    obtain ⟨wo, hwo⟩ : ∃ z, z = wr := ⟨_, rfl⟩
    subst hwo
    obtain ⟨i, rfl, rfl, hi, hall, hB⟩ := hrel
    have HALL := Lib.hid hall
    clear hall
    have P2 := P1.call hB
    have M2 := M1.call hB
    have R2 := R1.call hB
    have F2 := F1.call hB
    have B2 := bstep B1 hB
    have p2c0 := P2.c0
    have p2c1 := P2.c1
    have p2c2 := P2.c2
    have p2c3 := P2.c3
    have p2c4 := P2.c4
    have p2l := P2.lt
    have r2c0 := R2.c0
    have r2c1 := R2.c1
    have r2f0 := R2.f0
    have r2f1 := R2.f1
    have r2l := R2.lt
    have f2c0 := F2.c0
    have f2c1 := F2.c1
    have f2f0 := F2.f0
    have f2f1 := F2.f1
    have f2l := F2.lt
    have n23 : ¬ W.heap.size + 1 + 1 = W.heap.size + 1 + 1 + 1 := by omega
    have n32 : ¬ W.heap.size + 1 + 1 + 1 = W.heap.size + 1 + 1 := by omega
    by_cases hi1 : i < p
    · have hi2 : (i : Int) < (p : Int) := by omega
      have hi3 : (i : Int) ≤ 64 := by omega
      go_wp2_with fail
      go_loopw [7, 20] (fun s7 s X => ∃ j : Nat, s7 = .bool false ∧ s = .int .i64 (j : Int) ∧ j ≤ q ∧ (∀ v ∈ cellP q i ++ cellR i j, (brk (p : Int) B (q : Int) F a b c d x y) v = false) ∧ Below wo.heap.size wo X) (fun _ s _ => q - (intOf s).toNat)
      case atStart => exact ⟨0, rfl, rfl, by omega, fun v hv => by simp [cellR] at hv; exact HALL.out v hv, Below.refl _ _⟩
      case round =>
        obtain ⟨wi, hwi⟩ : ∃ z, z = wr := ⟨_, rfl⟩
        subst hwi
        obtain ⟨j, rfl, rfl, hj, hall, hB3⟩ := hrel
        have HALL2 := Lib.hid hall
        clear hall
        have P3 := P2.call hB3
        have M3 := M2.call hB3
        have R3 := R2.call hB3
        have F3 := F2.call hB3
        have B3 := bstep B2 hB3
        by_cases hj1 : j < q
        · have hj2 : (j : Int) < (q : Int) := by omega
          have hj3 : (j : Int) ≤ 64 := by omega
          have hla := limB_bd HLI.out.1
          have hvb := vecB_bd HLI.out.2
          have m1 := bd9 hla.1.1 (t := (i : Int)) (by omega)
          have m2 := bd9 hla.1.2 (t := (j : Int)) (by omega)
          have m3 := bd9 hla.2.1 (t := (i : Int)) (by omega)
          have m4 := bd9 hla.2.2 (t := (j : Int)) (by omega)
          have HAP := Lib.hid (fun X => applyMo9_any a b c d x y (i : Int) (j : Int) X HLI.out.1 ⟨by unfold midI; omega, by unfold midI; omega⟩ (by simp [vecB]; omega))
          have MID := Lib.hid (show midI (a * (i : Int) + b * (j : Int) + x) ∧ midI (c * (i : Int) + d * (j : Int) + y) from ⟨by unfold midI; omega, by unfold midI; omega⟩)
          clear hla hvb m1 m2 m3 m4
          obtain ⟨X1, hX1⟩ : ∃ z, z = a * (i : Int) + b * (j : Int) + x := ⟨_, rfl⟩
          obtain ⟨X2, hX2⟩ : ∃ z, z = c * (i : Int) + d * (j : Int) + y := ⟨_, rfl⟩
          rw [← hX1, ← hX2] at HAP MID
          obtain ⟨b1, hb1⟩ : ∃ b, b = F (numP (p : Int) B (q : Int) X1 X2) := ⟨_, rfl⟩
          obtain ⟨b0, hb0⟩ : ∃ b, b = F (numP (p : Int) B (q : Int) (i : Int) (j : Int)) := ⟨_, rfl⟩
          have HA1 := Lib.hid (fun X (hX : Below wi.heap.size wi X) => (show Calls Tryz.prog 245 #[.agg #[.int .i64 f, .int .i64 (p : Int), .int .i64 B, .int .i64 (q : Int), .slice (some ⟨g, 0, none⟩) n cap], .agg #[.int .i64 X1, .int .i64 X2]] X (fun e w' => e = .returned (.int .i64 b1) ∧ Below X.heap.size X w') from by rw [hb1]; exact at_any HH.out (R.out.call (bstep B3 hX)) _ _ MID.out.1 MID.out.2))
          have HA0 := Lib.hid (fun X (hX : Below wi.heap.size wi X) => (show Calls Tryz.prog 245 #[.agg #[.int .i64 f, .int .i64 (p : Int), .int .i64 B, .int .i64 (q : Int), .slice (some ⟨g, 0, none⟩) n cap], .agg #[.int .i64 ((i : Int)), .int .i64 ((j : Int))]] X (fun e w' => e = .returned (.int .i64 b0) ∧ Below X.heap.size X w') from by rw [hb0]; exact at_any HH.out (R.out.call (bstep B3 hX)) _ _ (by unfold midI; omega) (by unfold midI; omega)))
          have HBRK := Lib.hid (show (brk (p : Int) B (q : Int) F a b c d x y) ((i : Int), (j : Int)) = !(b1 == b0) from by unfold brk; dsimp only; rw [← hX1, ← hX2, ← hb1, ← hb0])
          clear hX1 hX2 hb1 hb0
          have HI1 := Lib.hid hi1
          have HJ1 := Lib.hid hj1
          by_cases hbb : b1 = b0
          · have HBF := Lib.hid (show (brk (p : Int) B (q : Int) F a b c d x y) ((i : Int), (j : Int)) = false from by rw [HBRK.out, hbb]; simp)
            subst hbb
            go_wp2_with fail
            have P4 : Bx W.heap.size [.int .i64 f, .int .i64 (p : Int), .int .i64 B, .int .i64 (q : Int), .slice (some ⟨g, 0, none⟩) n cap] (wi.alloc (.cells #[.int .i64 (i : Int), .int .i64 (j : Int)] 63)) := P3.alloc _
            have M4 : Bx (W.heap.size + 1) [.int .i64 a, .int .i64 b, .int .i64 c, .int .i64 d, .int .i64 x, .int .i64 y] (wi.alloc (.cells #[.int .i64 (i : Int), .int .i64 (j : Int)] 63)) := M3.alloc _
            have R4 : BX (W.heap.size + 1 + 1) [.int .i64 0, .int .i64 0] (wi.alloc (.cells #[.int .i64 (i : Int), .int .i64 (j : Int)] 63)) := R3.alloc _
            have F4 : BX (W.heap.size + 1 + 1 + 1) [.int .i64 0, .int .i64 0] (wi.alloc (.cells #[.int .i64 (i : Int), .int .i64 (j : Int)] 63)) := F3.alloc _
            have V4 : Bx wi.heap.size [.int .i64 (i : Int), .int .i64 (j : Int)] (wi.alloc (.cells #[.int .i64 (i : Int), .int .i64 (j : Int)] 63)) := Bx.at _ rfl
            have D4 : Below wi.heap.size wi (wi.alloc (.cells #[.int .i64 (i : Int), .int .i64 (j : Int)] 63)) := (Below.refl _ _).alloc (Nat.le_refl _) _
            go_region_held3 (fun W9 => (W9.cell? ⟨W.heap.size, 0, none⟩ = some (.int .i64 f) ∧ W9.cell? ⟨W.heap.size, 1, none⟩ = some (.int .i64 (p : Int)) ∧ W9.cell? ⟨W.heap.size, 2, none⟩ = some (.int .i64 B) ∧ W9.cell? ⟨W.heap.size, 3, none⟩ = some (.int .i64 (q : Int)) ∧ W9.cell? ⟨W.heap.size, 4, none⟩ = some (.slice (some ⟨g, 0, none⟩) n cap)) ∧ (W9.cell? ⟨(W.heap.size + 1), 0, none⟩ = some (.int .i64 a) ∧ W9.cell? ⟨(W.heap.size + 1), 1, none⟩ = some (.int .i64 b) ∧ W9.cell? ⟨(W.heap.size + 1), 2, none⟩ = some (.int .i64 c) ∧ W9.cell? ⟨(W.heap.size + 1), 3, none⟩ = some (.int .i64 d) ∧ W9.cell? ⟨(W.heap.size + 1), 4, none⟩ = some (.int .i64 x) ∧ W9.cell? ⟨(W.heap.size + 1), 5, none⟩ = some (.int .i64 y)) ∧ (W9.cell? ⟨wi.heap.size, 0, none⟩ = some (.int .i64 (i : Int)) ∧ W9.cell? ⟨wi.heap.size, 1, none⟩ = some (.int .i64 (j : Int)))) ((refine And.intro (Bx.cells5 ?_) (And.intro (Bx.cells6 ?_) (Bx.cells2 ?_))) <;> (repeat (first | with_reducible assumption | with_reducible exact Bx.at _ rfl | with_reducible refine Bx.drew ?_ | with_reducible refine Bx.alloc ?_ _ | with_reducible refine Bx.call ?_ (by with_reducible assumption) | with_reducible refine BX.drew ?_ | with_reducible refine BX.alloc ?_ _ | with_reducible refine BX.call ?_ (by with_reducible assumption))))
              (first
                | (go_at_call 233; with_reducible refine (HAP.out _).mono ?_; rintro e w5 ⟨rfl, hb5⟩; have P5 : Bx W.heap.size [.int .i64 f, .int .i64 (p : Int), .int .i64 B, .int .i64 (q : Int), .slice (some ⟨g, 0, none⟩) n cap] w5 := (by repeat (first | with_reducible assumption | with_reducible exact Bx.at _ rfl | with_reducible refine Bx.drew ?_ | with_reducible refine Bx.alloc ?_ _ | with_reducible refine Bx.call ?_ (by with_reducible assumption) | with_reducible refine BX.drew ?_ | with_reducible refine BX.alloc ?_ _ | with_reducible refine BX.call ?_ (by with_reducible assumption))); have M5 : Bx (W.heap.size + 1) [.int .i64 a, .int .i64 b, .int .i64 c, .int .i64 d, .int .i64 x, .int .i64 y] w5 := (by repeat (first | with_reducible assumption | with_reducible exact Bx.at _ rfl | with_reducible refine Bx.drew ?_ | with_reducible refine Bx.alloc ?_ _ | with_reducible refine Bx.call ?_ (by with_reducible assumption) | with_reducible refine BX.drew ?_ | with_reducible refine BX.alloc ?_ _ | with_reducible refine BX.call ?_ (by with_reducible assumption))); have V5 : Bx wi.heap.size [.int .i64 (i : Int), .int .i64 (j : Int)] w5 := (by repeat (first | with_reducible assumption | with_reducible exact Bx.at _ rfl | with_reducible refine Bx.drew ?_ | with_reducible refine Bx.alloc ?_ _ | with_reducible refine Bx.call ?_ (by with_reducible assumption) | with_reducible refine BX.drew ?_ | with_reducible refine BX.alloc ?_ _ | with_reducible refine BX.call ?_ (by with_reducible assumption))); have R5 : BX (W.heap.size + 1 + 1) [.int .i64 0, .int .i64 0] w5 := (by repeat (first | with_reducible assumption | with_reducible exact Bx.at _ rfl | with_reducible refine Bx.drew ?_ | with_reducible refine Bx.alloc ?_ _ | with_reducible refine Bx.call ?_ (by with_reducible assumption) | with_reducible refine BX.drew ?_ | with_reducible refine BX.alloc ?_ _ | with_reducible refine BX.call ?_ (by with_reducible assumption))); have F5 : BX (W.heap.size + 1 + 1 + 1) [.int .i64 0, .int .i64 0] w5 := (by repeat (first | with_reducible assumption | with_reducible exact Bx.at _ rfl | with_reducible refine Bx.drew ?_ | with_reducible refine Bx.alloc ?_ _ | with_reducible refine Bx.call ?_ (by with_reducible assumption) | with_reducible refine BX.drew ?_ | with_reducible refine BX.alloc ?_ _ | with_reducible refine BX.call ?_ (by with_reducible assumption))); have D5 : Below wi.heap.size wi w5 := (by repeat (first | with_reducible assumption | with_reducible exact Below.refl _ _ | with_reducible refine Below.drew ?_ | with_reducible refine Below.alloc ?_ (by first | omega | (simp <;> omega)) _ | with_reducible refine Below.setCell ?_ (by first | omega | (dsimp only; omega)) _ | with_reducible refine bstep ?_ (by with_reducible assumption))))
                | (go_at_call 245; with_reducible refine (HA1.out _ (by repeat (first | with_reducible assumption | with_reducible exact Below.refl _ _ | with_reducible refine Below.drew ?_ | with_reducible refine Below.alloc ?_ (by first | omega | (simp <;> omega)) _ | with_reducible refine Below.setCell ?_ (by first | omega | (dsimp only; omega)) _ | with_reducible refine bstep ?_ (by with_reducible assumption)))).mono ?_; rintro e w6 ⟨rfl, hb6⟩; have P6 : Bx W.heap.size [.int .i64 f, .int .i64 (p : Int), .int .i64 B, .int .i64 (q : Int), .slice (some ⟨g, 0, none⟩) n cap] w6 := (by repeat (first | with_reducible assumption | with_reducible exact Bx.at _ rfl | with_reducible refine Bx.drew ?_ | with_reducible refine Bx.alloc ?_ _ | with_reducible refine Bx.call ?_ (by with_reducible assumption) | with_reducible refine BX.drew ?_ | with_reducible refine BX.alloc ?_ _ | with_reducible refine BX.call ?_ (by with_reducible assumption))); have M6 : Bx (W.heap.size + 1) [.int .i64 a, .int .i64 b, .int .i64 c, .int .i64 d, .int .i64 x, .int .i64 y] w6 := (by repeat (first | with_reducible assumption | with_reducible exact Bx.at _ rfl | with_reducible refine Bx.drew ?_ | with_reducible refine Bx.alloc ?_ _ | with_reducible refine Bx.call ?_ (by with_reducible assumption) | with_reducible refine BX.drew ?_ | with_reducible refine BX.alloc ?_ _ | with_reducible refine BX.call ?_ (by with_reducible assumption))); have V6 : Bx wi.heap.size [.int .i64 (i : Int), .int .i64 (j : Int)] w6 := (by repeat (first | with_reducible assumption | with_reducible exact Bx.at _ rfl | with_reducible refine Bx.drew ?_ | with_reducible refine Bx.alloc ?_ _ | with_reducible refine Bx.call ?_ (by with_reducible assumption) | with_reducible refine BX.drew ?_ | with_reducible refine BX.alloc ?_ _ | with_reducible refine BX.call ?_ (by with_reducible assumption))); have R6 : BX (W.heap.size + 1 + 1) [.int .i64 0, .int .i64 0] w6 := (by repeat (first | with_reducible assumption | with_reducible exact Bx.at _ rfl | with_reducible refine Bx.drew ?_ | with_reducible refine Bx.alloc ?_ _ | with_reducible refine Bx.call ?_ (by with_reducible assumption) | with_reducible refine BX.drew ?_ | with_reducible refine BX.alloc ?_ _ | with_reducible refine BX.call ?_ (by with_reducible assumption))); have F6 : BX (W.heap.size + 1 + 1 + 1) [.int .i64 0, .int .i64 0] w6 := (by repeat (first | with_reducible assumption | with_reducible exact Bx.at _ rfl | with_reducible refine Bx.drew ?_ | with_reducible refine Bx.alloc ?_ _ | with_reducible refine Bx.call ?_ (by with_reducible assumption) | with_reducible refine BX.drew ?_ | with_reducible refine BX.alloc ?_ _ | with_reducible refine BX.call ?_ (by with_reducible assumption))); have D6 : Below wi.heap.size wi w6 := (by repeat (first | with_reducible assumption | with_reducible exact Below.refl _ _ | with_reducible refine Below.drew ?_ | with_reducible refine Below.alloc ?_ (by first | omega | (simp <;> omega)) _ | with_reducible refine Below.setCell ?_ (by first | omega | (dsimp only; omega)) _ | with_reducible refine bstep ?_ (by with_reducible assumption))))
                | (go_at_call 245; with_reducible refine (HA0.out _ (by repeat (first | with_reducible assumption | with_reducible exact Below.refl _ _ | with_reducible refine Below.drew ?_ | with_reducible refine Below.alloc ?_ (by first | omega | (simp <;> omega)) _ | with_reducible refine Below.setCell ?_ (by first | omega | (dsimp only; omega)) _ | with_reducible refine bstep ?_ (by with_reducible assumption)))).mono ?_; rintro e w7 ⟨rfl, hb7⟩; have P7 : Bx W.heap.size [.int .i64 f, .int .i64 (p : Int), .int .i64 B, .int .i64 (q : Int), .slice (some ⟨g, 0, none⟩) n cap] w7 := (by repeat (first | with_reducible assumption | with_reducible exact Bx.at _ rfl | with_reducible refine Bx.drew ?_ | with_reducible refine Bx.alloc ?_ _ | with_reducible refine Bx.call ?_ (by with_reducible assumption) | with_reducible refine BX.drew ?_ | with_reducible refine BX.alloc ?_ _ | with_reducible refine BX.call ?_ (by with_reducible assumption))); have M7 : Bx (W.heap.size + 1) [.int .i64 a, .int .i64 b, .int .i64 c, .int .i64 d, .int .i64 x, .int .i64 y] w7 := (by repeat (first | with_reducible assumption | with_reducible exact Bx.at _ rfl | with_reducible refine Bx.drew ?_ | with_reducible refine Bx.alloc ?_ _ | with_reducible refine Bx.call ?_ (by with_reducible assumption) | with_reducible refine BX.drew ?_ | with_reducible refine BX.alloc ?_ _ | with_reducible refine BX.call ?_ (by with_reducible assumption))); have V7 : Bx wi.heap.size [.int .i64 (i : Int), .int .i64 (j : Int)] w7 := (by repeat (first | with_reducible assumption | with_reducible exact Bx.at _ rfl | with_reducible refine Bx.drew ?_ | with_reducible refine Bx.alloc ?_ _ | with_reducible refine Bx.call ?_ (by with_reducible assumption) | with_reducible refine BX.drew ?_ | with_reducible refine BX.alloc ?_ _ | with_reducible refine BX.call ?_ (by with_reducible assumption))); have R7 : BX (W.heap.size + 1 + 1) [.int .i64 0, .int .i64 0] w7 := (by repeat (first | with_reducible assumption | with_reducible exact Bx.at _ rfl | with_reducible refine Bx.drew ?_ | with_reducible refine Bx.alloc ?_ _ | with_reducible refine Bx.call ?_ (by with_reducible assumption) | with_reducible refine BX.drew ?_ | with_reducible refine BX.alloc ?_ _ | with_reducible refine BX.call ?_ (by with_reducible assumption))); have F7 : BX (W.heap.size + 1 + 1 + 1) [.int .i64 0, .int .i64 0] w7 := (by repeat (first | with_reducible assumption | with_reducible exact Bx.at _ rfl | with_reducible refine Bx.drew ?_ | with_reducible refine Bx.alloc ?_ _ | with_reducible refine Bx.call ?_ (by with_reducible assumption) | with_reducible refine BX.drew ?_ | with_reducible refine BX.alloc ?_ _ | with_reducible refine BX.call ?_ (by with_reducible assumption))); have D7 : Below wi.heap.size wi w7 := (by repeat (first | with_reducible assumption | with_reducible exact Below.refl _ _ | with_reducible refine Below.drew ?_ | with_reducible refine Below.alloc ?_ (by first | omega | (simp <;> omega)) _ | with_reducible refine Below.setCell ?_ (by first | omega | (dsimp only; omega)) _ | with_reducible refine bstep ?_ (by with_reducible assumption))); have v7c0 := V7.c0; have v7c1 := V7.c1; have v7l := V7.lt; have r7c0 := R7.c0; have r7c1 := R7.c1; have r7f0 := R7.f0; have r7f1 := R7.f1; have r7l := R7.lt; have f7c0 := F7.c0; have f7c1 := F7.c1; have f7f0 := F7.f0; have f7f1 := F7.f1; have f7l := F7.lt; have n23 : ¬ W.heap.size + 1 + 1 = W.heap.size + 1 + 1 + 1 := (by omega); have n32 : ¬ W.heap.size + 1 + 1 + 1 = W.heap.size + 1 + 1 := (by omega); have n3v : ¬ W.heap.size + 1 + 1 + 1 = wi.heap.size := (by have := F3.lt; omega); have nv3 : ¬ wi.heap.size = W.heap.size + 1 + 1 + 1 := (by have := F3.lt; omega)))
            all_goals
              go_wp2
              go_roundw
              case rel =>
                refine ⟨j + 1, rfl, by go_num, by have := HJ1.out; omega, fun v hv => ?_, hB3.trans (D7.mono hB3.size)⟩
                rw [cellR_succ, ← List.append_assoc, List.mem_append] at hv
                rcases hv with hv | hv
                · exact HALL2.out v hv
                · have e9 : v = ((i : Int), (j : Int)) := by simpa using hv
                  rw [e9]; exact HBF.out
              case measure => first | (simp [intOf]; done) | (simp [intOf]; omega)
          · have HBT := Lib.hid (show (brk (p : Int) B (q : Int) F a b c d x y) ((i : Int), (j : Int)) = true from by rw [HBRK.out]; simp [hbb])
            have ER := Lib.hid (show ro = some ((i : Int), (j : Int)) from HRO.out.trans (find_cell HI1.out HJ1.out HALL2.out HBT.out))
            have hbn : (b1 != b0) = true := by simp [hbb]
            go_wp2_with fail
            have P4 : Bx W.heap.size [.int .i64 f, .int .i64 (p : Int), .int .i64 B, .int .i64 (q : Int), .slice (some ⟨g, 0, none⟩) n cap] (wi.alloc (.cells #[.int .i64 (i : Int), .int .i64 (j : Int)] 63)) := P3.alloc _
            have M4 : Bx (W.heap.size + 1) [.int .i64 a, .int .i64 b, .int .i64 c, .int .i64 d, .int .i64 x, .int .i64 y] (wi.alloc (.cells #[.int .i64 (i : Int), .int .i64 (j : Int)] 63)) := M3.alloc _
            have R4 : BX (W.heap.size + 1 + 1) [.int .i64 0, .int .i64 0] (wi.alloc (.cells #[.int .i64 (i : Int), .int .i64 (j : Int)] 63)) := R3.alloc _
            have F4 : BX (W.heap.size + 1 + 1 + 1) [.int .i64 0, .int .i64 0] (wi.alloc (.cells #[.int .i64 (i : Int), .int .i64 (j : Int)] 63)) := F3.alloc _
            have V4 : Bx wi.heap.size [.int .i64 (i : Int), .int .i64 (j : Int)] (wi.alloc (.cells #[.int .i64 (i : Int), .int .i64 (j : Int)] 63)) := Bx.at _ rfl
            have D4 : Below wi.heap.size wi (wi.alloc (.cells #[.int .i64 (i : Int), .int .i64 (j : Int)] 63)) := (Below.refl _ _).alloc (Nat.le_refl _) _
            go_region_held3 (fun W9 => (W9.cell? ⟨W.heap.size, 0, none⟩ = some (.int .i64 f) ∧ W9.cell? ⟨W.heap.size, 1, none⟩ = some (.int .i64 (p : Int)) ∧ W9.cell? ⟨W.heap.size, 2, none⟩ = some (.int .i64 B) ∧ W9.cell? ⟨W.heap.size, 3, none⟩ = some (.int .i64 (q : Int)) ∧ W9.cell? ⟨W.heap.size, 4, none⟩ = some (.slice (some ⟨g, 0, none⟩) n cap)) ∧ (W9.cell? ⟨(W.heap.size + 1), 0, none⟩ = some (.int .i64 a) ∧ W9.cell? ⟨(W.heap.size + 1), 1, none⟩ = some (.int .i64 b) ∧ W9.cell? ⟨(W.heap.size + 1), 2, none⟩ = some (.int .i64 c) ∧ W9.cell? ⟨(W.heap.size + 1), 3, none⟩ = some (.int .i64 d) ∧ W9.cell? ⟨(W.heap.size + 1), 4, none⟩ = some (.int .i64 x) ∧ W9.cell? ⟨(W.heap.size + 1), 5, none⟩ = some (.int .i64 y)) ∧ (W9.cell? ⟨wi.heap.size, 0, none⟩ = some (.int .i64 (i : Int)) ∧ W9.cell? ⟨wi.heap.size, 1, none⟩ = some (.int .i64 (j : Int)))) ((refine And.intro (Bx.cells5 ?_) (And.intro (Bx.cells6 ?_) (Bx.cells2 ?_))) <;> (repeat (first | with_reducible assumption | with_reducible exact Bx.at _ rfl | with_reducible refine Bx.drew ?_ | with_reducible refine Bx.alloc ?_ _ | with_reducible refine Bx.call ?_ (by with_reducible assumption) | with_reducible refine BX.drew ?_ | with_reducible refine BX.alloc ?_ _ | with_reducible refine BX.call ?_ (by with_reducible assumption))))
              (first
                | (go_at_call 233; with_reducible refine (HAP.out _).mono ?_; rintro e w5 ⟨rfl, hb5⟩; have P5 : Bx W.heap.size [.int .i64 f, .int .i64 (p : Int), .int .i64 B, .int .i64 (q : Int), .slice (some ⟨g, 0, none⟩) n cap] w5 := (by repeat (first | with_reducible assumption | with_reducible exact Bx.at _ rfl | with_reducible refine Bx.drew ?_ | with_reducible refine Bx.alloc ?_ _ | with_reducible refine Bx.call ?_ (by with_reducible assumption) | with_reducible refine BX.drew ?_ | with_reducible refine BX.alloc ?_ _ | with_reducible refine BX.call ?_ (by with_reducible assumption))); have M5 : Bx (W.heap.size + 1) [.int .i64 a, .int .i64 b, .int .i64 c, .int .i64 d, .int .i64 x, .int .i64 y] w5 := (by repeat (first | with_reducible assumption | with_reducible exact Bx.at _ rfl | with_reducible refine Bx.drew ?_ | with_reducible refine Bx.alloc ?_ _ | with_reducible refine Bx.call ?_ (by with_reducible assumption) | with_reducible refine BX.drew ?_ | with_reducible refine BX.alloc ?_ _ | with_reducible refine BX.call ?_ (by with_reducible assumption))); have V5 : Bx wi.heap.size [.int .i64 (i : Int), .int .i64 (j : Int)] w5 := (by repeat (first | with_reducible assumption | with_reducible exact Bx.at _ rfl | with_reducible refine Bx.drew ?_ | with_reducible refine Bx.alloc ?_ _ | with_reducible refine Bx.call ?_ (by with_reducible assumption) | with_reducible refine BX.drew ?_ | with_reducible refine BX.alloc ?_ _ | with_reducible refine BX.call ?_ (by with_reducible assumption))); have R5 : BX (W.heap.size + 1 + 1) [.int .i64 0, .int .i64 0] w5 := (by repeat (first | with_reducible assumption | with_reducible exact Bx.at _ rfl | with_reducible refine Bx.drew ?_ | with_reducible refine Bx.alloc ?_ _ | with_reducible refine Bx.call ?_ (by with_reducible assumption) | with_reducible refine BX.drew ?_ | with_reducible refine BX.alloc ?_ _ | with_reducible refine BX.call ?_ (by with_reducible assumption))); have F5 : BX (W.heap.size + 1 + 1 + 1) [.int .i64 0, .int .i64 0] w5 := (by repeat (first | with_reducible assumption | with_reducible exact Bx.at _ rfl | with_reducible refine Bx.drew ?_ | with_reducible refine Bx.alloc ?_ _ | with_reducible refine Bx.call ?_ (by with_reducible assumption) | with_reducible refine BX.drew ?_ | with_reducible refine BX.alloc ?_ _ | with_reducible refine BX.call ?_ (by with_reducible assumption))); have D5 : Below wi.heap.size wi w5 := (by repeat (first | with_reducible assumption | with_reducible exact Below.refl _ _ | with_reducible refine Below.drew ?_ | with_reducible refine Below.alloc ?_ (by first | omega | (simp <;> omega)) _ | with_reducible refine Below.setCell ?_ (by first | omega | (dsimp only; omega)) _ | with_reducible refine bstep ?_ (by with_reducible assumption))))
                | (go_at_call 245; with_reducible refine (HA1.out _ (by repeat (first | with_reducible assumption | with_reducible exact Below.refl _ _ | with_reducible refine Below.drew ?_ | with_reducible refine Below.alloc ?_ (by first | omega | (simp <;> omega)) _ | with_reducible refine Below.setCell ?_ (by first | omega | (dsimp only; omega)) _ | with_reducible refine bstep ?_ (by with_reducible assumption)))).mono ?_; rintro e w6 ⟨rfl, hb6⟩; have P6 : Bx W.heap.size [.int .i64 f, .int .i64 (p : Int), .int .i64 B, .int .i64 (q : Int), .slice (some ⟨g, 0, none⟩) n cap] w6 := (by repeat (first | with_reducible assumption | with_reducible exact Bx.at _ rfl | with_reducible refine Bx.drew ?_ | with_reducible refine Bx.alloc ?_ _ | with_reducible refine Bx.call ?_ (by with_reducible assumption) | with_reducible refine BX.drew ?_ | with_reducible refine BX.alloc ?_ _ | with_reducible refine BX.call ?_ (by with_reducible assumption))); have M6 : Bx (W.heap.size + 1) [.int .i64 a, .int .i64 b, .int .i64 c, .int .i64 d, .int .i64 x, .int .i64 y] w6 := (by repeat (first | with_reducible assumption | with_reducible exact Bx.at _ rfl | with_reducible refine Bx.drew ?_ | with_reducible refine Bx.alloc ?_ _ | with_reducible refine Bx.call ?_ (by with_reducible assumption) | with_reducible refine BX.drew ?_ | with_reducible refine BX.alloc ?_ _ | with_reducible refine BX.call ?_ (by with_reducible assumption))); have V6 : Bx wi.heap.size [.int .i64 (i : Int), .int .i64 (j : Int)] w6 := (by repeat (first | with_reducible assumption | with_reducible exact Bx.at _ rfl | with_reducible refine Bx.drew ?_ | with_reducible refine Bx.alloc ?_ _ | with_reducible refine Bx.call ?_ (by with_reducible assumption) | with_reducible refine BX.drew ?_ | with_reducible refine BX.alloc ?_ _ | with_reducible refine BX.call ?_ (by with_reducible assumption))); have R6 : BX (W.heap.size + 1 + 1) [.int .i64 0, .int .i64 0] w6 := (by repeat (first | with_reducible assumption | with_reducible exact Bx.at _ rfl | with_reducible refine Bx.drew ?_ | with_reducible refine Bx.alloc ?_ _ | with_reducible refine Bx.call ?_ (by with_reducible assumption) | with_reducible refine BX.drew ?_ | with_reducible refine BX.alloc ?_ _ | with_reducible refine BX.call ?_ (by with_reducible assumption))); have F6 : BX (W.heap.size + 1 + 1 + 1) [.int .i64 0, .int .i64 0] w6 := (by repeat (first | with_reducible assumption | with_reducible exact Bx.at _ rfl | with_reducible refine Bx.drew ?_ | with_reducible refine Bx.alloc ?_ _ | with_reducible refine Bx.call ?_ (by with_reducible assumption) | with_reducible refine BX.drew ?_ | with_reducible refine BX.alloc ?_ _ | with_reducible refine BX.call ?_ (by with_reducible assumption))); have D6 : Below wi.heap.size wi w6 := (by repeat (first | with_reducible assumption | with_reducible exact Below.refl _ _ | with_reducible refine Below.drew ?_ | with_reducible refine Below.alloc ?_ (by first | omega | (simp <;> omega)) _ | with_reducible refine Below.setCell ?_ (by first | omega | (dsimp only; omega)) _ | with_reducible refine bstep ?_ (by with_reducible assumption))))
                | (go_at_call 245; with_reducible refine (HA0.out _ (by repeat (first | with_reducible assumption | with_reducible exact Below.refl _ _ | with_reducible refine Below.drew ?_ | with_reducible refine Below.alloc ?_ (by first | omega | (simp <;> omega)) _ | with_reducible refine Below.setCell ?_ (by first | omega | (dsimp only; omega)) _ | with_reducible refine bstep ?_ (by with_reducible assumption)))).mono ?_; rintro e w7 ⟨rfl, hb7⟩; have P7 : Bx W.heap.size [.int .i64 f, .int .i64 (p : Int), .int .i64 B, .int .i64 (q : Int), .slice (some ⟨g, 0, none⟩) n cap] w7 := (by repeat (first | with_reducible assumption | with_reducible exact Bx.at _ rfl | with_reducible refine Bx.drew ?_ | with_reducible refine Bx.alloc ?_ _ | with_reducible refine Bx.call ?_ (by with_reducible assumption) | with_reducible refine BX.drew ?_ | with_reducible refine BX.alloc ?_ _ | with_reducible refine BX.call ?_ (by with_reducible assumption))); have M7 : Bx (W.heap.size + 1) [.int .i64 a, .int .i64 b, .int .i64 c, .int .i64 d, .int .i64 x, .int .i64 y] w7 := (by repeat (first | with_reducible assumption | with_reducible exact Bx.at _ rfl | with_reducible refine Bx.drew ?_ | with_reducible refine Bx.alloc ?_ _ | with_reducible refine Bx.call ?_ (by with_reducible assumption) | with_reducible refine BX.drew ?_ | with_reducible refine BX.alloc ?_ _ | with_reducible refine BX.call ?_ (by with_reducible assumption))); have V7 : Bx wi.heap.size [.int .i64 (i : Int), .int .i64 (j : Int)] w7 := (by repeat (first | with_reducible assumption | with_reducible exact Bx.at _ rfl | with_reducible refine Bx.drew ?_ | with_reducible refine Bx.alloc ?_ _ | with_reducible refine Bx.call ?_ (by with_reducible assumption) | with_reducible refine BX.drew ?_ | with_reducible refine BX.alloc ?_ _ | with_reducible refine BX.call ?_ (by with_reducible assumption))); have R7 : BX (W.heap.size + 1 + 1) [.int .i64 0, .int .i64 0] w7 := (by repeat (first | with_reducible assumption | with_reducible exact Bx.at _ rfl | with_reducible refine Bx.drew ?_ | with_reducible refine Bx.alloc ?_ _ | with_reducible refine Bx.call ?_ (by with_reducible assumption) | with_reducible refine BX.drew ?_ | with_reducible refine BX.alloc ?_ _ | with_reducible refine BX.call ?_ (by with_reducible assumption))); have F7 : BX (W.heap.size + 1 + 1 + 1) [.int .i64 0, .int .i64 0] w7 := (by repeat (first | with_reducible assumption | with_reducible exact Bx.at _ rfl | with_reducible refine Bx.drew ?_ | with_reducible refine Bx.alloc ?_ _ | with_reducible refine Bx.call ?_ (by with_reducible assumption) | with_reducible refine BX.drew ?_ | with_reducible refine BX.alloc ?_ _ | with_reducible refine BX.call ?_ (by with_reducible assumption))); have D7 : Below wi.heap.size wi w7 := (by repeat (first | with_reducible assumption | with_reducible exact Below.refl _ _ | with_reducible refine Below.drew ?_ | with_reducible refine Below.alloc ?_ (by first | omega | (simp <;> omega)) _ | with_reducible refine Below.setCell ?_ (by first | omega | (dsimp only; omega)) _ | with_reducible refine bstep ?_ (by with_reducible assumption))); have v7c0 := V7.c0; have v7c1 := V7.c1; have v7l := V7.lt; have r7c0 := R7.c0; have r7c1 := R7.c1; have r7f0 := R7.f0; have r7f1 := R7.f1; have r7l := R7.lt; have f7c0 := F7.c0; have f7c1 := F7.c1; have f7f0 := F7.f0; have f7f1 := F7.f1; have f7l := F7.lt; have n23 : ¬ W.heap.size + 1 + 1 = W.heap.size + 1 + 1 + 1 := (by omega); have n32 : ¬ W.heap.size + 1 + 1 + 1 = W.heap.size + 1 + 1 := (by omega); have n3v : ¬ W.heap.size + 1 + 1 + 1 = wi.heap.size := (by have := F3.lt; omega); have nv3 : ¬ wi.heap.size = W.heap.size + 1 + 1 + 1 := (by have := F3.lt; omega)))
            all_goals
              have B7 := bstep B3 D7
              go_wp2
              (try rw [Exit.noGoto_ret])
              refine bodyPost_ret (v := .tuple #[.agg #[.int .i64 ((i : Int)), .int .i64 ((j : Int))], .bool true]) (by simp [results, Tryz.results209, go_sem, *]) rfl ⟨by rw [ER.out]; rfl, ?_⟩
              repeat (first | with_reducible exact Below.refl _ _ | with_reducible assumption | with_reducible refine Below.setCell ?_ (by first | omega | (dsimp only; omega) | (simp <;> omega)) _ | with_reducible refine Below.alloc ?_ (by first | omega | (simp <;> omega)) _ | with_reducible refine bstep ?_ (by with_reducible assumption) | with_reducible refine Below.drew ?_ | with_reducible refine below_drewN ?_ _)
        · obtain rfl : j = q := by omega
          have HC := Lib.hid (show ∀ v ∈ cellP j (i + 1), (brk (p : Int) B (j : Int) F a b c d x y) v = false from by rw [cellP_succ]; exact HALL2.out)
          have hB9 := hB.trans (hB3.mono hB.size)
          go_wp2
          go_roundw
          case rel => exact ⟨i + 1, rfl, by go_num, by omega, HC.out, hB9⟩
          case measure => first | (simp [intOf]; done) | (simp [intOf]; omega)
    · obtain rfl : i = p := by omega
      have ER := Lib.hid (show ro = none from HRO.out.trans (find_none HALL.out))
      go_wp2
      (try rw [Exit.noGoto_ret])
      refine bodyPost_ret (v := .tuple #[.agg #[.int .i64 0, .int .i64 0], .bool false]) (by simp [results, Tryz.results209, go_sem, *]) rfl ⟨by rw [ER.out]; rfl, ?_⟩
      repeat (first | with_reducible exact Below.refl _ _ | with_reducible assumption | with_reducible refine Below.setCell ?_ (by first | omega | (dsimp only; omega) | (simp <;> omega)) _ | with_reducible refine Below.alloc ?_ (by first | omega | (simp <;> omega)) _ | with_reducible refine bstep ?_ (by with_reducible assumption) | with_reducible refine Below.drew ?_ | with_reducible refine below_drewN ?_ _)
set_option maxRecDepth 100000 in
set_option maxHeartbeats 8000000 in
theorem broken_any {lo hi p q n : Nat} {f B : Int} {v : Value} {F : Nat → Int} {W : World} (h : PatI f p B q n F) (hv : SRow lo hi 1 v n F W) (a b c d x y : Int) (hl : limB a b c d = true) (hxy : vecB x y = true) :
    Calls Tryz.prog 140 #[.agg #[.int .i64 f, .int .i64 (p : Int), .int .i64 B, .int .i64 (q : Int), v], .agg #[.int .i64 a, .int .i64 b, .int .i64 c, .int .i64 d, .int .i64 x, .int .i64 y]] W fun e w' => e = .returned (.bool (!(kepM (p : Int) B (q : Int) F a b c d x y (cellP q p)))) ∧ Below W.heap.size W w' := by
  have R := Lib.hid hv
  have HH := Lib.hid h
  obtain ⟨hp1, hp2, hq1, hq2, hn64, hn1⟩ := h.bd
  obtain ⟨g, cap, rfl, hg, _, r⟩ := hv.irow hn1
  have hgs := hv.1
  have hgw : g < W.heap.size := by omega
  obtain ⟨ro, hro⟩ : ∃ z, z = witR (p : Int) B (q : Int) F a b c d x y (cellP q p) := ⟨_, rfl⟩
  have HW := Lib.hid (fun X (hX : Below W.heap.size W X) => (show Calls Tryz.prog 209 #[.agg #[.int .i64 f, .int .i64 (p : Int), .int .i64 B, .int .i64 (q : Int), .slice (some ⟨g, 0, none⟩) n cap], .agg #[.int .i64 a, .int .i64 b, .int .i64 c, .int .i64 d, .int .i64 x, .int .i64 y]] X (fun e w' => e = .returned (.tuple #[.agg #[.int .i64 ((witV ro).1), .int .i64 ((witV ro).2)], .bool ro.isSome]) ∧ Below X.heap.size X w') from by rw [hro]; exact witness_any HH.out (R.out.call hX) a b c d x y hl hxy))
  have HE := Lib.hid (show (!(kepM (p : Int) B (q : Int) F a b c d x y (cellP q p))) = ro.isSome from by rw [hro, wit_some])
  clear hv h hro hl hxy
  have P0 : Bx W.heap.size [.int .i64 f, .int .i64 (p : Int), .int .i64 B, .int .i64 (q : Int), .slice (some ⟨g, 0, none⟩) n cap] ((W.alloc (.cells #[.int .i64 f, .int .i64 (p : Int), .int .i64 B, .int .i64 (q : Int), .slice (some ⟨g, 0, none⟩) n cap] 40)).alloc (.cells #[.int .i64 a, .int .i64 b, .int .i64 c, .int .i64 d, .int .i64 x, .int .i64 y] 145)) := (Bx.at _ rfl).alloc _
  have M0 : Bx (W.heap.size + 1) [.int .i64 a, .int .i64 b, .int .i64 c, .int .i64 d, .int .i64 x, .int .i64 y] ((W.alloc (.cells #[.int .i64 f, .int .i64 (p : Int), .int .i64 B, .int .i64 (q : Int), .slice (some ⟨g, 0, none⟩) n cap] 40)).alloc (.cells #[.int .i64 a, .int .i64 b, .int .i64 c, .int .i64 d, .int .i64 x, .int .i64 y] 145)) := Bx.at _ (by simp)
  have B0 : Below W.heap.size W ((W.alloc (.cells #[.int .i64 f, .int .i64 (p : Int), .int .i64 B, .int .i64 (q : Int), .slice (some ⟨g, 0, none⟩) n cap] 40)).alloc (.cells #[.int .i64 a, .int .i64 b, .int .i64 c, .int .i64 d, .int .i64 x, .int .i64 y] 145)) := by repeat (first | with_reducible exact Below.refl _ _ | with_reducible assumption | with_reducible refine Below.setCell ?_ (by first | omega | (dsimp only; omega) | (simp <;> omega)) _ | with_reducible refine Below.alloc ?_ (by first | omega | (simp <;> omega)) _ | with_reducible refine bstep ?_ (by with_reducible assumption) | with_reducible refine Below.drew ?_ | with_reducible refine below_drewN ?_ _)
  obtain ⟨z0, z1, hzz⟩ : ∃ z0 z1, witV ro = (z0, z1) := ⟨_, _, rfl⟩
  rw [hzz] at HW
  dsimp only at HW
  go_enter Tryz.func140, Tryz.ntmps140
  have p0c0 := P0.c0
  have p0c1 := P0.c1
  have p0c2 := P0.c2
  have p0c3 := P0.c3
  have p0c4 := P0.c4
  have p0l := P0.lt
  have m0c0 := M0.c0
  have m0c1 := M0.c1
  have m0c2 := M0.c2
  have m0c3 := M0.c3
  have m0c4 := M0.c4
  have m0c5 := M0.c5
  have m0l := M0.lt
  go_wp2_with fail
  refine (HW.out _ B0).mono ?_
  rintro e w1 ⟨rfl, hb1⟩
  have B1 := bstep B0 hb1
  have z1z := B1.size
  clear P0 M0 B0 hb1 p0c0 p0c1 p0c2 p0c3 p0c4 m0c0 m0c1 m0c2 m0c3 m0c4 m0c5 p0l m0l
  go_wp2
  go_ret
  exact ⟨by rw [HE.out]; rfl, by repeat (first | with_reducible exact Below.refl _ _ | with_reducible assumption | with_reducible refine Below.setCell ?_ (by first | omega | (dsimp only; omega) | (simp <;> omega)) _ | with_reducible refine Below.alloc ?_ (by first | omega | (simp <;> omega)) _ | with_reducible refine bstep ?_ (by with_reducible assumption) | with_reducible refine Below.drew ?_ | with_reducible refine below_drewN ?_ _)⟩
end
end Go.Proofs.YtjjfomokecngoaaGreatDoor

namespace Go.Proofs.YtjjfomokecngoaaGreatDoor
section
open Go.RowKit Go.Shelf
attribute [local go_sem] Oper.semAt_some
set_option linter.unusedSimpArgs false
set_option linter.unusedVariables false

/- whether a motion of the list keeps the pattern -/
def kepB (p : Nat) (B : Int) (q : Nat) (F : Nat → Int) (m : M6) : Bool := kepM (p : Int) B (q : Int) F m.1 m.2.1 m.2.2.1 m.2.2.2.1 m.2.2.2.2.1 m.2.2.2.2.2 (cellP q p)
def symL (f : Int) (p : Nat) (B : Int) (q : Nat) (F : Nat → Int) : List M6 := (motL f p B q).filter (kepB p B q F)
theorem infoMoS : (Tryz.prog.info? 145).map (fun i => (i.zero, i.size, i.bytes)) = some (some (.agg #[.int .i64 0, .int .i64 0, .int .i64 0, .int .i64 0, .int .i64 0, .int .i64 0]), 6, 48) := by kernel_rfl
theorem cells6_snocS (xs : List M6) (x : M6) : cells6 (xs ++ [x]) = cells6 xs ++ [.int .i64 x.1, .int .i64 x.2.1, .int .i64 x.2.2.1, .int .i64 x.2.2.2.1, .int .i64 x.2.2.2.2.1, .int .i64 x.2.2.2.2.2] := by
  unfold cells6
  rw [List.flatMap_append]
  simp
theorem keepT_app {w5 w6 : World} {gb nn k : Nat} {v u : Value} {xs : List Value} {tmp : Obj} (hv : Boxed w5 gb 110 v) (hrow : w5.ownsRow nn 145 6 v k xs) (hgrow : (w5.alloc tmp).grownBy w6 v.ownBlock) : KeepT w5 (w6.setCell ⟨gb, 0, none⟩ u) := by
  refine ⟨by have := hgrow.size; simp at this; simp [World.setCell]; omega, fun b cs T e h1 h2 => ?_⟩
  have lb := (Array.getElem?_eq_some_iff.1 e).1
  have hb : b ≠ gb := by
    rintro rfl
    rw [show w5.heap[b]? = _ from hv] at e
    simp only [Option.some.injEq, Obj.cells.injEq] at e
    exact h2 e.2.1.symm
  have hn : some b ≠ v.ownBlock := by
    rcases hrow.2 with ⟨rfl, _⟩ | ⟨g, cap, cur, rfl, hg, hgb, _⟩
    · simp [Value.ownBlock]
    · intro e'
      obtain rfl : b = g := by simpa [Value.ownBlock] using e'
      rw [hgb] at e
      simp only [Option.some.injEq, Obj.cells.injEq] at e
      exact h1 e.2.1.symm
  exact (Below.heap_setCell w6 _ _ b (by dsimp only; omega)).trans ((hgrow.block b (by simp; omega) hn).trans (Below.heap_alloc w5 _ _ lb))
def SyI (f : Int) (p : Nat) (B : Int) (q : Nat) (F : Nat → Int) (g n cap : Nat) (W : World) (pre : List (MS f p B q)) (X : World) : Prop := ((∃ v, Boxed X (W.heap.size + 1) 110 v ∧ X.ownsRow (W.heap.size + 1) 145 6 v ((pre.map Subtype.val).filter (kepB p B q F)).length (cells6 ((pre.map Subtype.val).filter (kepB p B q F))) ∧ True) ∧ X.heap[W.heap.size]? = some (.cells #[.int .i64 f, .int .i64 (p : Int), .int .i64 B, .int .i64 (q : Int), .slice (some ⟨g, 0, none⟩) n cap] 40 (0, 0))) ∧ Below W.heap.size W X
theorem SyI.of {f : Int} {p : Nat} {B : Int} {q : Nat} {F : Nat → Int} {g n cap : Nat} {W : World} {pre : List (MS f p B q)} {X : World} (h : ((∃ v, Boxed X (W.heap.size + 1) 110 v ∧ X.ownsRow (W.heap.size + 1) 145 6 v ((pre.map Subtype.val).filter (kepB p B q F)).length (cells6 ((pre.map Subtype.val).filter (kepB p B q F))) ∧ True) ∧ X.heap[W.heap.size]? = some (.cells #[.int .i64 f, .int .i64 (p : Int), .int .i64 B, .int .i64 (q : Int), .slice (some ⟨g, 0, none⟩) n cap] 40 (0, 0))) ∧ Below W.heap.size W X) : SyI f p B q F g n cap W pre X := h
theorem SyI.own {f : Int} {p : Nat} {B : Int} {q : Nat} {F : Nat → Int} {g n cap : Nat} {W W0 : World} (z2 : W.heap.size ≤ W0.heap.size) : OwnFrom W0.heap.size (SyI f p B q F g n cap W) :=
  (OwnFrom.and (OwnFrom.and (Own.from (holdsRow_own (W.heap.size + 1) (W.heap.size + 1) 110 145 6 (fun pre : List (MS f p B q) => ((pre.map Subtype.val).filter (kepB p B q F)).length) (fun pre => cells6 ((pre.map Subtype.val).filter (kepB p B q F))) (fun _ _ => True)) _) (Own.from (at_own4 _ _ rfl) _)) (ownFrom_below (Nat.le_refl _) z2))
theorem motQ_lim {f : Int} {p : Nat} {B : Int} {q : Nat} {m : M6} (hf : frB f = true) (hp : p ≤ 64) (hq : q ≤ 64) (h : MotQ f p B q m) : limB m.1 m.2.1 m.2.2.1 m.2.2.2.1 = true ∧ vecB m.2.2.2.2.1 m.2.2.2.2.2 = true := by
  obtain ⟨⟨h1, _⟩, h2, h3⟩ := h
  have hs := keep_small hf h1
  refine ⟨?_, by simp [vecB]; omega⟩
  simp [limB, vecB]
  omega
set_option maxRecDepth 100000 in
set_option maxHeartbeats 16000000 in
theorem symm_any {lo hi p q n : Nat} {f B : Int} {v : Value} {F : Nat → Int} {W : World} (h : PatI f p B q n F) (hv : SRow lo hi 1 v n F W) :
    Calls Tryz.prog 68 #[.agg #[.int .i64 f, .int .i64 (p : Int), .int .i64 B, .int .i64 (q : Int), v]] W fun e w' => ∃ v', e = .returned v' ∧ w'.ownsRow W.heap.size 145 6 v' (symL f p B q F).length (cells6 (symL f p B q F)) ∧ Below W.heap.size W w' := by
  obtain ⟨i0, hi0, hz0, hz1, hz2⟩ := info_parts infoMoS
  have R := Lib.hid hv
  have HH := Lib.hid h
  obtain ⟨hp1, hp2, hq1, hq2, hn64, hn1⟩ := h.bd
  obtain ⟨g, cap, rfl, hg, _, r⟩ := hv.irow hn1
  have hgs := hv.1
  have hgw : g < W.heap.size := by omega
  have hf := h.fr
  have HL := Lib.hid h.lat
  have P0 : Bx W.heap.size [.int .i64 f, .int .i64 (p : Int), .int .i64 B, .int .i64 (q : Int), .slice (some ⟨g, 0, none⟩) n cap] ((W.alloc (.cells #[.int .i64 f, .int .i64 (p : Int), .int .i64 B, .int .i64 (q : Int), .slice (some ⟨g, 0, none⟩) n cap] 40)).alloc (.cells #[.slice none 0 0] 110)) := (Bx.at _ rfl).alloc _
  have G0 : Boxed ((W.alloc (.cells #[.int .i64 f, .int .i64 (p : Int), .int .i64 B, .int .i64 (q : Int), .slice (some ⟨g, 0, none⟩) n cap] 40)).alloc (.cells #[.slice none 0 0] 110)) (W.heap.size + 1) 110 (.slice none 0 0) := by have h9 := Boxed.new (W.alloc (.cells #[.int .i64 f, .int .i64 (p : Int), .int .i64 B, .int .i64 (q : Int), .slice (some ⟨g, 0, none⟩) n cap] 40)) 110 (.slice none 0 0); simpa using h9
  have B0 : Below W.heap.size W ((W.alloc (.cells #[.int .i64 f, .int .i64 (p : Int), .int .i64 B, .int .i64 (q : Int), .slice (some ⟨g, 0, none⟩) n cap] 40)).alloc (.cells #[.slice none 0 0] 110)) := by repeat (first | with_reducible exact Below.refl _ _ | with_reducible assumption | with_reducible refine Below.setCell ?_ (by first | omega | (dsimp only; omega) | (simp <;> omega)) _ | with_reducible refine Below.alloc ?_ (by first | omega | (simp <;> omega)) _ | with_reducible refine bstep ?_ (by with_reducible assumption) | with_reducible refine Below.drew ?_ | with_reducible refine below_drewN ?_ _)
  have O0 : ((W.alloc (.cells #[.int .i64 f, .int .i64 (p : Int), .int .i64 B, .int .i64 (q : Int), .slice (some ⟨g, 0, none⟩) n cap] 40)).alloc (.cells #[.slice none 0 0] 110)).heap[W.heap.size]? = some (.cells #[.int .i64 f, .int .i64 (p : Int), .int .i64 B, .int .i64 (q : Int), .slice (some ⟨g, 0, none⟩) n cap] 40 (0, 0)) := (Below.heap_alloc _ _ _ (by simp)).trans (World.alloc_heap_new W _)
  clear hv h
  refine (callsIn_wide (n := 9)).1 ?_
  refine callsIn_of_wp_marks Tryz.func68 rfl trivial ?_ rfl
  simp only [Tryz.ntmps68, List.size_toArray, List.length_cons, List.length_nil, Nat.reduceAdd, Nat.reduceSub, Array.replicate_succ, Array.replicate_zero, List.push_toArray, List.append_toArray, List.nil_append, List.cons_append]
  have p0c0 := P0.c0
  have p0c1 := P0.c1
  have p0c2 := P0.c2
  have p0c3 := P0.c3
  have p0c4 := P0.c4
  have p0l := P0.lt
  gi_wp2_with (first
    | (refine ⟨trivial, ?_⟩; gi_at_call 66; refine (callsIn_wide.2 (planeOf_yes _ _ hf)).mono ?_; rintro e w1 ⟨rfl, hb1⟩; have P1 := P0.call hb1; have G1 := boxed_call G0 hb1; have B1 := bstep B0 hb1; have O1 := (hb1.block _ (by simp; omega)).trans O0; have z1 := hb1.size; have p1c0 := P1.c0; have p1c1 := P1.c1; have p1c2 := P1.c2; have p1c3 := P1.c3; have p1c4 := P1.c4; have p1l := P1.lt)
    | (refine ⟨trivial, ?_⟩; gi_at_call 139; refine (mots_in _ _ _ _ _ _).mono ?_; rintro e w2 ⟨rfl, rfl⟩))
  have AL : Below w1.heap.size w1 ((w1.alloc (.cells #[.int .i64 (p : Int), .int .i64 B, .int .i64 (q : Int)] 28)).alloc (.cells #[.iface (planeT f) (.agg #[])] 106)) := ((Below.refl _ _).alloc (Nat.le_refl _) _).alloc (by simp) _
  have bL : ((w1.alloc (.cells #[.int .i64 (p : Int), .int .i64 B, .int .i64 (q : Int)] 28)).alloc (.cells #[.iface (planeT f) (.agg #[])] 106)).heap[w1.heap.size]? = some (.cells #[.int .i64 (p : Int), .int .i64 B, .int .i64 (q : Int)] 28 (0, 0)) := (Below.heap_alloc _ _ _ (by simp)).trans (World.alloc_heap_new w1 _)
  have bP : ((w1.alloc (.cells #[.int .i64 (p : Int), .int .i64 B, .int .i64 (q : Int)] 28)).alloc (.cells #[.iface (planeT f) (.agg #[])] 106)).heap[w1.heap.size + 1]? = some (.cells #[.iface (planeT f) (.agg #[])] 106 (0, 0)) := by simpa using World.alloc_heap_new (w1.alloc (.cells #[.int .i64 (p : Int), .int .i64 B, .int .i64 (q : Int)] 28)) (.cells #[.iface (planeT f) (.agg #[])] 106)
  obtain ⟨W0, hW0⟩ : ∃ W0, (w1.alloc (.cells #[.int .i64 (p : Int), .int .i64 B, .int .i64 (q : Int)] 28)).alloc (.cells #[.iface (planeT f) (.agg #[])] 106) = W0 := ⟨_, rfl⟩
  rw [hW0] at AL bL bP
  (try rw [hW0])
  clear hW0
  have O2 := (AL.block _ (Array.getElem?_eq_some_iff.1 O1).1).trans O1
  have G2 := boxed_call G1 AL
  have B2 := bstep B1 AL
  have z2 := B2.size
  clear O0 O1 G0 G1 B0 B1 P0 P1 hb1 AL p0c0 p0c1 p0c2 p0c3 p0c4 p0l p1c0 p1c1 p1c2 p1c3 p1c4 p1l
  refine wpIn_rangeFunc_all rfl (by omega) (gf := 206) (lb := #[.pointer (some ⟨w1.heap.size + 1, 0, none⟩), .pointer (some ⟨w1.heap.size, 0, none⟩)]) rfl trivial (enters_of Tryz.func206 (by kernel_rfl) rfl)
    (mots_all f p B q hf HL.out _ _ W0 bP bL) (fun _ => rfl) (fun h k => h.trans k) (fun X l o o' h1 h2 h3 h4 => KeepT.put X l o o' h1 h2 h3 h4)
    (SyI f p B q F g n cap W)
    (SyI.own z2)
    (SyI.of ⟨⟨⟨_, G2, World.ownsRow_nil _ _ _ _, trivial⟩, O2⟩, B2⟩)
    (fun x a' X => ∃ bxx : Nat, X.heap[bxx]? = some (.cells #[.int .i64 x.1.1, .int .i64 x.1.2.1, .int .i64 x.1.2.2.1, .int .i64 x.1.2.2.2.1, .int .i64 x.1.2.2.2.2.1, .int .i64 x.1.2.2.2.2.2] 145 (0, 0)) ∧ a' = { tmps := #[.agg #[.int .i64 f, .int .i64 (p : Int), .int .i64 B, .int .i64 (q : Int), .slice (some ⟨g, 0, none⟩) n cap], .pointer (some ⟨W.heap.size, 0, none⟩), .slice none 0 0, .pointer (some ⟨W.heap.size + 1, 0, none⟩), .iface (planeT f) (.agg #[]), .bool true, .pointer (some ⟨bxx, 0, none⟩), .tuple #[.iface (planeT f) (.agg #[]), .bool true], .pointer (some ⟨W.heap.size, 0, none⟩), .int .i64 f, .tuple #[.iface (planeT f) (.agg #[]), .bool true], .iface (planeT f) (.agg #[]), .bool true, .pointer (some ⟨W.heap.size, 1, none⟩), .agg #[.int .i64 ((p : Int)), .int .i64 B, .int .i64 ((q : Int))], .iface (planeT f) (.agg #[]), .func (.func 206) #[] #[.pointer (some ⟨w1.heap.size + 1, 0, none⟩), .pointer (some ⟨w1.heap.size, 0, none⟩)], .agg #[.int .i64 x.1.1, .int .i64 x.1.2.1, .int .i64 x.1.2.2.1, .int .i64 x.1.2.2.2.1, .int .i64 x.1.2.2.2.2.1, .int .i64 x.1.2.2.2.2.2], undef, undef, undef, undef, undef, undef, undef, undef, undef], defers := [] })
    (fun x a' _ X Y row hs hg hr => by obtain ⟨bxx, h2, h3⟩ := hs; exact ⟨bxx, at_own4 bxx _ rfl () X Y row h2 hg (fun r e => (hr r e).2), h3⟩)
    ?assign ?body ?done
  case assign =>
    rintro l pre x X K ⟨⟨⟨v, hv, hrow, _⟩, hO⟩, hB1⟩ hK
    gi_wp2
    exact hK _ _ ((KeepsOthers.alloc _ _).from _) (KeepT.below ((Below.refl _ _).alloc (Nat.le_refl _) _)) (SyI.of ⟨⟨⟨v, hv.alloc _, hrow.alloc _, trivial⟩, (Below.heap_alloc X _ _ (Array.getElem?_eq_some_iff.1 hO).1).trans hO⟩, hB1.alloc hB1.size _⟩) ⟨X.heap.size, World.alloc_heap_new X _, rfl⟩
  case body =>
    rintro l pre x a' X ⟨⟨⟨v, hv, hrow, _⟩, hO⟩, hB1⟩ ⟨bxx, bX, rfl⟩ hlt
    obtain ⟨⟨a, b, c, d, s, t⟩, hq⟩ := x
    dsimp only at bX
    have hlim := motQ_lim hf hp2 hq2 hq
    have P3 : Bx W.heap.size [.int .i64 f, .int .i64 (p : Int), .int .i64 B, .int .i64 (q : Int), .slice (some ⟨g, 0, none⟩) n cap] X := Bx.of_heap hO
    have cX : X.cell? ⟨bxx, 0, none⟩ = some (.int .i64 a) ∧ X.cell? ⟨bxx, 1, none⟩ = some (.int .i64 b) ∧ X.cell? ⟨bxx, 2, none⟩ = some (.int .i64 c) ∧ X.cell? ⟨bxx, 3, none⟩ = some (.int .i64 d) ∧ X.cell? ⟨bxx, 4, none⟩ = some (.int .i64 s) ∧ X.cell? ⟨bxx, 5, none⟩ = some (.int .i64 t) := by simp [World.cell?, bX]
    have HSN := Lib.hid (show ((pre ++ [(⟨(a, b, c, d, s, t), hq⟩ : MS f p B q)]).map Subtype.val).filter (kepB p B q F) = ((pre.map Subtype.val).filter (kepB p B q F)) ++ (if kepB p B q F (a, b, c, d, s, t) = true then [(a, b, c, d, s, t)] else []) from by
      rw [List.map_append, List.filter_append]
      congr 1
      rcases hk9 : kepB p B q F (a, b, c, d, s, t) with _ | _ <;> simp [hk9])
    have HLN := Lib.hid (show ((pre.map Subtype.val).filter (kepB p B q F)).length < 5184 from Nat.lt_of_le_of_lt (List.length_filter_le _ _) (by rw [List.length_map]; exact hlt))
    obtain ⟨kb, hkb⟩ : ∃ kb, kb = kepB p B q F (a, b, c, d, s, t) := ⟨_, rfl⟩
    have HBR := Lib.hid (show Calls Tryz.prog 140 #[.agg #[.int .i64 f, .int .i64 (p : Int), .int .i64 B, .int .i64 (q : Int), .slice (some ⟨g, 0, none⟩) n cap], .agg #[.int .i64 a, .int .i64 b, .int .i64 c, .int .i64 d, .int .i64 s, .int .i64 t]] X (fun e w' => e = .returned (.bool (!kb)) ∧ Below X.heap.size X w') from by rw [hkb]; exact broken_any HH.out (R.out.call hB1) a b c d s t hlim.1 hlim.2)
    rw [← hkb] at HSN
    generalize (pre.map Subtype.val).filter (kepB p B q F) = zs at hrow HSN HLN
    have HR9 := Lib.hid hrow
    have HV9 := Lib.hid hv
    have HO9 := Lib.hid hO
    have HBX := Lib.hid bX
    have ltO := (Array.getElem?_eq_some_iff.1 hO).1
    have zX := hB1.size
    clear hkb hlt hlim hO hrow
    obtain ⟨cX0, cX1, cX2, cX3, cX4, cX5⟩ := cX
    have p3c0 := P3.c0
    have p3c1 := P3.c1
    have p3c2 := P3.c2
    have p3c3 := P3.c3
    have p3c4 := P3.c4
    have p3l := P3.lt
    rcases kb with _ | _
    · gi_wp2_with (refine ⟨trivial, ?_⟩; gi_at_call 140; refine (CallsIn.inRound l (callsIn_wide.2 HBR.out)).mono ?_; rintro e w5 ⟨rfl, hb5⟩)
      refine ⟨keepsFrom_below _ hb5, KeepT.below hb5, SyI.of ⟨⟨⟨v, boxed_call hv hb5, ?_, trivial⟩, (hb5.block _ ltO).trans HO9.out⟩, hB1.trans (hb5.mono zX)⟩⟩
      rw [HSN.out]
      simpa using ownsRow_call9 HR9.out hb5
    · gi_wp2_with (first
        | (refine ⟨trivial, ?_⟩; gi_at_call 140; refine (CallsIn.inRound l (callsIn_wide.2 HBR.out)).mono ?_; rintro e w5 ⟨rfl, hb5⟩; have hv5 := boxed_call hv hb5; have hr5 := ownsRow_call9 HR9.out hb5; have h5c := hv5.cell; have bX5 := (hb5.block _ (Array.getElem?_eq_some_iff.1 HBX.out).1).trans HBX.out; have d5 : w5.cell? ⟨bxx, 0, none⟩ = some (.int .i64 a) ∧ w5.cell? ⟨bxx, 1, none⟩ = some (.int .i64 b) ∧ w5.cell? ⟨bxx, 2, none⟩ = some (.int .i64 c) ∧ w5.cell? ⟨bxx, 3, none⟩ = some (.int .i64 d) ∧ w5.cell? ⟨bxx, 4, none⟩ = some (.int .i64 s) ∧ w5.cell? ⟨bxx, 5, none⟩ = some (.int .i64 t) := (by simp [World.cell?, bX5]); obtain ⟨d50, d51, d52, d53, d54, d55⟩ := d5; have z5 := hb5.size; clear cX0 cX1 cX2 cX3 cX4 cX5 p3c0 p3c1 p3c2 p3c3 p3c4 p3l)
        | (gi_at_builtin; refine wpListIn_append_own _ rfl _ _ 110 rfl (W.heap.size + 1) 145 i0 (.agg #[.int .i64 0, .int .i64 0, .int .i64 0, .int .i64 0, .int .i64 0, .int .i64 0]) 6 48 Tryz.underlying110 hi0 hz0 hz1 hz2 rfl (by decide) _ _ _ rfl (hr5.alloc _) ⟨w5.heap.size, 0, none⟩ 1 1 [.int .i64 a, .int .i64 b, .int .i64 c, .int .i64 d, .int .i64 s, .int .i64 t] rfl rfl (new_six _ _ _ _ _ _ _ rfl) one_six (by have := HLN.out; unfold maxLen; omega) (by have := HLN.out; omega) (by have := hv5.lt; simp; omega) ?_; intro v' w6 hown' hgrow _; obtain ⟨g', cap', rfl⟩ := ownsRow_succ hown'; obtain ⟨hv1, hv2, hr2, hk2, hb2⟩ := hv5.appended (by decide) hr5 (by have := hv5.lt; omega) (Nat.le_refl _) hown' hgrow; have HKT := Lib.hid (keepT_app (u := .slice (some ⟨g', 0, none⟩) (zs.length + 1) cap') hv5 hr5 hgrow); have hc1 := hv1.cell; have hf1 := hv1.frozen))
      have HB5 : KeepsFrom W0.heap.size X w5 := keepsFrom_below _ hb5
      refine ⟨HB5.trans (hk2.from _), (KeepT.below hb5).trans HKT.out, SyI.of ⟨⟨⟨_, hv2, ?_, trivial⟩, ?_⟩, hB1.trans ((hb5.mono zX).trans (hb2.mono (by omega)))⟩⟩
      · rw [HSN.out]
        first | rw [if_pos rfl] | rw [if_pos trivial]
        rw [List.length_append, cells6_snocS]
        simpa using hr2
      · exact (hb2.block _ (by omega)).trans ((hb5.block _ ltO).trans HO9.out)
  case done =>
    rintro D zs X hD hzs ⟨⟨⟨v, hv, hrow, _⟩, hO⟩, hB1⟩ hK
    have cS := hv.cell
    have HR9 := Lib.hid (ownsRow_putObj hrow (.deferred none) hK rfl)
    clear hrow
    gi_wp2
    refine ⟨by simp, .inl ⟨_, _, rfl, run_takeDeferred hK, ?_⟩⟩
    refine ⟨_, results_tmp rfl _ _ _, v, rfl, ?_, hB1.trans (belowK_b (w := W) (Nat.le_refl _) X D _ _ (by omega) hK rfl rfl)⟩
    have h9 := HR9.out
    rw [hzs] at h9
    exact ownsRow_lower h9 (by omega)
end
end Go.Proofs.YtjjfomokecngoaaGreatDoor

