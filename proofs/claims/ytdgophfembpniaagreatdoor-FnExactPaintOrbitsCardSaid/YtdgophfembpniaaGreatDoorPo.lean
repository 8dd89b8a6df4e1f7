/-
 PaintOrbits in the program and in the model. Conditions: slices that lie in blocks of their own, the lists' lengths are below the model's bound; the program's variable unitMatrix holds the unit.
-/
import Derived.Test.YtdgophfembpniaaGreatDoorPn
import Derived.Test.YtdgophfembpniaaGreatDoorSb8
import Derived.Test.YtdgophfembpniaaGreatDoorPtV9
import Derived.Deep.RegionHeld3
import Derived.IntWalk
import Derived.BigQuiet
namespace Go.Proofs.YtdgophfembpniaaGreatDoor
open Go.RowKit
set_option linter.unusedSimpArgs false
set_option linter.unusedVariables false

theorem pkPo0 {P : Prop} (h : P := by repeat (first | with_reducible exact Below.refl _ _ | with_reducible assumption | with_reducible refine Below.setCell ?_ (by first | omega | (dsimp only; omega) | (simp <;> omega)) _ | with_reducible refine Below.alloc ?_ (by first | omega | (simp <;> omega)) _ | with_reducible refine bstep ?_ (by with_reducible assumption) | with_reducible refine Below.drew ?_ | with_reducible refine below_drewN ?_ _)) : P := h
theorem pkPo1 {P : Prop} (h : P := by repeat (first | with_reducible assumption | with_reducible exact Below.refl _ _ | with_reducible refine Below.drew ?_ | with_reducible refine Below.alloc ?_ (by first | omega | (simp <;> omega)) _ | with_reducible refine Below.setCell ?_ (by first | omega | (dsimp only; omega)) _ | with_reducible refine bstep ?_ (by with_reducible assumption))) : P := h
theorem pkPo3 {P : Prop} (h : P := by repeat (first | assumption | refine Bx.drew ?_ | refine Bx.alloc ?_ _ | refine Bx.call ?_ (by assumption))) : P := h
abbrev PK := Int × Int × Int × Int × Nat × (Nat → Int) × Int
def PAnK (r : PK) (W : World) (e : Ending) (w' : World) : Prop :=
 ∃ (f A B C : Int) (m : Nat) (G : Nat → Int) (c : Int) (v : Value), r = (f, A, B, C, m, G, c) ∧ e = .returned (.tuple #[.agg #[.int .i64 f, .int .i64 A, .int .i64 B, .int .i64 C, v], .int .i64 c]) ∧ SRow W.heap.size w'.heap.size 1 v m G w' ∧ Below W.heap.size W w'
def noPK (c : Int) : PK := (0, 0, 0, 0, 0, fun _ => 0, c)
def poB (f A B C : Int) (xs : List M6) (m : Nat) (D : Nat → Int) : Bool := grpB f A B C xs && (decide (m = (orbF A.toNat C.toNat B xs).length) && colB m D)
noncomputable def poR (f A B C : Int) (xs : List M6) (m : Nat) (D : Nat → Int) : PK := if poB f A B C xs m D = true then (f, A, B, C, A.toNat * C.toNat, pnG D (nuX A.toNat C.toNat B xs) (A.toNat * C.toNat), 0) else noPK (cod6 f A B C false)
theorem po_bad {f A B C : Int} {xs : List M6} {m : Nat} {D : Nat → Int} (h : poB f A B C xs m D = false) : poR f A B C xs m D = noPK (cod6 f A B C false) := by simp [poR, h]
theorem po_good {f : Int} {p q : Nat} {B : Int} {xs : List M6} {m : Nat} {D : Nat → Int} (h : poB f (p : Int) B (q : Int) xs m D = true) : poR f (p : Int) B (q : Int) xs m D = (f, (p : Int), B, (q : Int), p * q, pnG D (nuX p q B xs) (p * q), 0) := by simp [poR, h]
theorem latI_pq {p q : Nat} {B : Int} (h : latI (p : Int) B (q : Int)) : 1 ≤ p * q ∧ p * q ≤ 64 := by
 have h1 := (show PatI 0 p B q (p * q) (fun _ => 0) from ⟨rfl, h, rfl, fun t _ => by omega⟩).bd
 exact ⟨h1.2.2.2.2.2, h1.2.2.2.2.1⟩
set_option maxRecDepth 100000 in
set_option maxHeartbeats 16000000 in
theorem implPo_any {lo hi lo' hi' m : Nat} {v v9 : Value} {D : Nat → Int} {xs : List M6} {w : World} (f A B C : Int) (hx : SRow lo' hi' 6 v9 xs.length (fm xs) w) (hn : xs.length ≤ 1048576) (hv : SRow lo hi 1 v m D w) (hU : UnitOK w) :
  Calls Tryz.prog 28 #[.int .i64 f, .agg #[.int .i64 A, .int .i64 B, .int .i64 C], v9, v] w (PAnK (poR f A B C xs m D) w) := by
 have RV := Lib.hid hv
 have RX := Lib.hid hx
 have HN := Lib.hid hn
 have hm2 := hv.2.1
 have hmi : (m : Int) ≤ 2000000 := by omega
 obtain ⟨ao, cap, rfl⟩ := hv.slice
 clear hv hx hn
 have L0 : Bx w.heap.size [.int .i64 A, .int .i64 B, .int .i64 C] ((w.alloc (.cells #[.int .i64 A, .int .i64 B, .int .i64 C] 32)).alloc (.cells #[.int .i64 0, .int .i64 0, .int .i64 0, .int .i64 0, .slice none 0 0] 34)) := (Bx.at _ rfl).alloc _
 have R0 : BX (w.heap.size + 1) [.int .i64 0, .int .i64 0, .int .i64 0, .int .i64 0, .slice none 0 0] ((w.alloc (.cells #[.int .i64 A, .int .i64 B, .int .i64 C] 32)).alloc (.cells #[.int .i64 0, .int .i64 0, .int .i64 0, .int .i64 0, .slice none 0 0] 34)) := BX.at _ (by simp)
 have B0 : Below w.heap.size w ((w.alloc (.cells #[.int .i64 A, .int .i64 B, .int .i64 C] 32)).alloc (.cells #[.int .i64 0, .int .i64 0, .int .i64 0, .int .i64 0, .slice none 0 0] 34)) := by exact pkPo0
 have CG := Lib.hid (groupOf_any f A B C (RX.out.call B0) HN.out (Kq.call hU B0))
 unfold GrpPost at CG
 clear hU
 rcases hg : grpB f A B C xs with _ | _
 ·have EA := Lib.hid (po_bad (show poB f A B C xs m D = false by simp [poB, hg]))
  have hc := cod6_nz f A B C
  rw [hg] at CG
  clear hg
  generalize cod6 f A B C false = cc at CG hc EA
  go_enter Tryz.func28, Tryz.ntmps28
  have l0c0 := L0.c0
  have l0c1 := L0.c1
  have l0c2 := L0.c2
  have l0l := L0.lt
  go_wp2_with fail
  refine CG.out.mono ?_
  rintro e w1 ⟨v1, rfl, hr, hv1, hb1⟩
  have R1 := R0.call hb1
  have B1 := bstep B0 hb1
  have hv2 := hv1 (by first | rfl | trivial)
  subst hv2
  clear hr hv1 hb1 L0 R0 B0 CG l0c0 l0c1 l0c2 l0l
  have r1c0 := R1.c0
  have r1c1 := R1.c1
  have r1c2 := R1.c2
  have r1c3 := R1.c3
  have r1c4 := R1.c4
  have r1f0 := R1.f0
  have r1f1 := R1.f1
  have r1f2 := R1.f2
  have r1f3 := R1.f3
  have r1f4 := R1.f4
  have r1l := R1.lt
  go_wp2
  refine bodyPost_ret (v := .tuple #[(.agg #[.int .i64 0, .int .i64 0, .int .i64 0, .int .i64 0, .slice none 0 0]), .int .i64 cc]) (by simp [results, Tryz.results28, go_sem, *]) rfl ⟨_, _, _, _, _, _, _, _, EA.out, rfl, ?_, ?_⟩
  ·exact SRow.nil _ 1 _ _
  ·exact pkPo0
 ·obtain ⟨p, q, rfl, rfl⟩ := lat_nat7 (grp_good hg).1
  have HG := Lib.hid hg
  have hck := cod6_ok hg
  have hrg := cod6_rng hg
  rw [hg, hck] at CG
  have hpq := latI_pq (grp_good hg).1
  have hlen := orbF_len64 B xs (p := p) (q := q) hpq.2
  have hli : ((orbF p q B xs).length : Int) ≤ 64 := by omega
  by_cases hmc : m = (orbF p q B xs).length
  ·have hmn : ((m : Int) != ((orbF p q B xs).length : Int)) = false := by simp [hmc]
   have HMC := Lib.hid hmc
   rcases hcol : colB m D with _ | _
   ·have EA := Lib.hid (po_bad (show poB f (p : Int) B (q : Int) xs m D = false by simp [poB, hcol]))
    rw [hrg] at EA
    have CA := Lib.hid (fun (X : World) (hX : Below w.heap.size w X) => areCol_any (RV.out.call hX) hm2)
    rw [hcol] at CA
    clear hg hck hrg hmc hcol
    go_enter Tryz.func28, Tryz.ntmps28
    have l0c0 := L0.c0
    have l0c1 := L0.c1
    have l0c2 := L0.c2
    have l0l := L0.lt
    go_wp2_with fail
    refine CG.out.mono ?_
    rintro e w1 ⟨v1, rfl, hr, hv1, hb1⟩
    have R1 := R0.call hb1
    have B1 := bstep B0 hb1
    obtain ⟨g1, cap1, rfl, _, r1⟩ := own_irow (n := 0) (hr (by first | rfl | trivial)) (grp_pos HG.out) HN.out
    have L1 := L0.call hb1
    have CO := Lib.hid (orbI_any (cap := cap1) HG.out r1)
    clear L0 R0 B0 hb1 CG r1 hr hv1 l0c0 l0c1 l0c2 l0l
    have l1c0 := L1.c0
    have l1c1 := L1.c1
    have l1c2 := L1.c2
    have l1l := L1.lt
    go_wp2_with fail
    refine CO.out.mono ?_
    rintro e w2 ⟨J, I, rfl, hM, hb2⟩
    have HM := Lib.hid hM
    have L2 := L1.call hb2
    have R2 := R1.call hb2
    have B2 := bstep B1 hb2
    have hn0 : (w2.alloc (.cells #[.int .i64 0, .int .i64 0, .int .i64 0, .int .i64 0, .int .i64 0, .int .i64 0, .int .i64 0, .int .i64 0, .int .i64 0, .int .i64 0, .int .i64 0, .int .i64 0, .int .i64 0, .int .i64 0, .int .i64 0, .int .i64 0, .int .i64 0, .int .i64 0, .int .i64 0, .int .i64 0, .int .i64 0, .int .i64 0, .int .i64 0, .int .i64 0, .int .i64 0, .int .i64 0, .int .i64 0, .int .i64 0, .int .i64 0, .int .i64 0, .int .i64 0, .int .i64 0, .int .i64 0, .int .i64 0, .int .i64 0, .int .i64 0, .int .i64 0, .int .i64 0, .int .i64 0, .int .i64 0, .int .i64 0, .int .i64 0, .int .i64 0, .int .i64 0, .int .i64 0, .int .i64 0, .int .i64 0, .int .i64 0, .int .i64 0, .int .i64 0, .int .i64 0, .int .i64 0, .int .i64 0, .int .i64 0, .int .i64 0, .int .i64 0, .int .i64 0, .int .i64 0, .int .i64 0, .int .i64 0, .int .i64 0, .int .i64 0, .int .i64 0, .int .i64 0] 100)).heap[w2.heap.size]? = some (.cells (rowI fun _ => 0) 100 (0, 0)) := by rw [show (#[.int .i64 0, .int .i64 0, .int .i64 0, .int .i64 0, .int .i64 0, .int .i64 0, .int .i64 0, .int .i64 0, .int .i64 0, .int .i64 0, .int .i64 0, .int .i64 0, .int .i64 0, .int .i64 0, .int .i64 0, .int .i64 0, .int .i64 0, .int .i64 0, .int .i64 0, .int .i64 0, .int .i64 0, .int .i64 0, .int .i64 0, .int .i64 0, .int .i64 0, .int .i64 0, .int .i64 0, .int .i64 0, .int .i64 0, .int .i64 0, .int .i64 0, .int .i64 0, .int .i64 0, .int .i64 0, .int .i64 0, .int .i64 0, .int .i64 0, .int .i64 0, .int .i64 0, .int .i64 0, .int .i64 0, .int .i64 0, .int .i64 0, .int .i64 0, .int .i64 0, .int .i64 0, .int .i64 0, .int .i64 0, .int .i64 0, .int .i64 0, .int .i64 0, .int .i64 0, .int .i64 0, .int .i64 0, .int .i64 0, .int .i64 0, .int .i64 0, .int .i64 0, .int .i64 0, .int .i64 0, .int .i64 0, .int .i64 0, .int .i64 0, .int .i64 0] : Array Value) = rowI (fun _ => 0) from rfl]; exact World.alloc_heap_new _ _
    have hst : Sem.run Tryz.prog (storeCells ⟨w2.heap.size, 0, none⟩ (rowI I).toList 0) (w2.alloc (.cells #[.int .i64 0, .int .i64 0, .int .i64 0, .int .i64 0, .int .i64 0, .int .i64 0, .int .i64 0, .int .i64 0, .int .i64 0, .int .i64 0, .int .i64 0, .int .i64 0, .int .i64 0, .int .i64 0, .int .i64 0, .int .i64 0, .int .i64 0, .int .i64 0, .int .i64 0, .int .i64 0, .int .i64 0, .int .i64 0, .int .i64 0, .int .i64 0, .int .i64 0, .int .i64 0, .int .i64 0, .int .i64 0, .int .i64 0, .int .i64 0, .int .i64 0, .int .i64 0, .int .i64 0, .int .i64 0, .int .i64 0, .int .i64 0, .int .i64 0, .int .i64 0, .int .i64 0, .int .i64 0, .int .i64 0, .int .i64 0, .int .i64 0, .int .i64 0, .int .i64 0, .int .i64 0, .int .i64 0, .int .i64 0, .int .i64 0, .int .i64 0, .int .i64 0, .int .i64 0, .int .i64 0, .int .i64 0, .int .i64 0, .int .i64 0, .int .i64 0, .int .i64 0, .int .i64 0, .int .i64 0, .int .i64 0, .int .i64 0, .int .i64 0, .int .i64 0] 100)) = .ok () ((w2.alloc (.cells #[.int .i64 0, .int .i64 0, .int .i64 0, .int .i64 0, .int .i64 0, .int .i64 0, .int .i64 0, .int .i64 0, .int .i64 0, .int .i64 0, .int .i64 0, .int .i64 0, .int .i64 0, .int .i64 0, .int .i64 0, .int .i64 0, .int .i64 0, .int .i64 0, .int .i64 0, .int .i64 0, .int .i64 0, .int .i64 0, .int .i64 0, .int .i64 0, .int .i64 0, .int .i64 0, .int .i64 0, .int .i64 0, .int .i64 0, .int .i64 0, .int .i64 0, .int .i64 0, .int .i64 0, .int .i64 0, .int .i64 0, .int .i64 0, .int .i64 0, .int .i64 0, .int .i64 0, .int .i64 0, .int .i64 0, .int .i64 0, .int .i64 0, .int .i64 0, .int .i64 0, .int .i64 0, .int .i64 0, .int .i64 0, .int .i64 0, .int .i64 0, .int .i64 0, .int .i64 0, .int .i64 0, .int .i64 0, .int .i64 0, .int .i64 0, .int .i64 0, .int .i64 0, .int .i64 0, .int .i64 0, .int .i64 0, .int .i64 0, .int .i64 0, .int .i64 0] 100)).setRow w2.heap.size (rowI I)) := store64 hn0
    have hA3 : ARI w2.heap.size I ((w2.alloc (.cells #[.int .i64 0, .int .i64 0, .int .i64 0, .int .i64 0, .int .i64 0, .int .i64 0, .int .i64 0, .int .i64 0, .int .i64 0, .int .i64 0, .int .i64 0, .int .i64 0, .int .i64 0, .int .i64 0, .int .i64 0, .int .i64 0, .int .i64 0, .int .i64 0, .int .i64 0, .int .i64 0, .int .i64 0, .int .i64 0, .int .i64 0, .int .i64 0, .int .i64 0, .int .i64 0, .int .i64 0, .int .i64 0, .int .i64 0, .int .i64 0, .int .i64 0, .int .i64 0, .int .i64 0, .int .i64 0, .int .i64 0, .int .i64 0, .int .i64 0, .int .i64 0, .int .i64 0, .int .i64 0, .int .i64 0, .int .i64 0, .int .i64 0, .int .i64 0, .int .i64 0, .int .i64 0, .int .i64 0, .int .i64 0, .int .i64 0, .int .i64 0, .int .i64 0, .int .i64 0, .int .i64 0, .int .i64 0, .int .i64 0, .int .i64 0, .int .i64 0, .int .i64 0, .int .i64 0, .int .i64 0, .int .i64 0, .int .i64 0, .int .i64 0, .int .i64 0] 100)).setRow w2.heap.size (rowI I)) := setRow_heap _ _ _ _ _ _ hn0
    have hb3 : Below w2.heap.size w2 ((w2.alloc (.cells #[.int .i64 0, .int .i64 0, .int .i64 0, .int .i64 0, .int .i64 0, .int .i64 0, .int .i64 0, .int .i64 0, .int .i64 0, .int .i64 0, .int .i64 0, .int .i64 0, .int .i64 0, .int .i64 0, .int .i64 0, .int .i64 0, .int .i64 0, .int .i64 0, .int .i64 0, .int .i64 0, .int .i64 0, .int .i64 0, .int .i64 0, .int .i64 0, .int .i64 0, .int .i64 0, .int .i64 0, .int .i64 0, .int .i64 0, .int .i64 0, .int .i64 0, .int .i64 0, .int .i64 0, .int .i64 0, .int .i64 0, .int .i64 0, .int .i64 0, .int .i64 0, .int .i64 0, .int .i64 0, .int .i64 0, .int .i64 0, .int .i64 0, .int .i64 0, .int .i64 0, .int .i64 0, .int .i64 0, .int .i64 0, .int .i64 0, .int .i64 0, .int .i64 0, .int .i64 0, .int .i64 0, .int .i64 0, .int .i64 0, .int .i64 0, .int .i64 0, .int .i64 0, .int .i64 0, .int .i64 0, .int .i64 0, .int .i64 0, .int .i64 0, .int .i64 0] 100)).setRow w2.heap.size (rowI I)) := below_row ((Below.refl _ _).alloc (Nat.le_refl _) _) (Nat.le_refl _) _
    have L3 := L2.call hb3
    have R3 := R2.call hb3
    have B3 := bstep B2 hb3
    clear hn0 hb2 hb3 L1 R1 B1 CO hM L2 R2 B2 l1c0 l1c1 l1c2 l1l
    generalize ((w2.alloc (.cells #[.int .i64 0, .int .i64 0, .int .i64 0, .int .i64 0, .int .i64 0, .int .i64 0, .int .i64 0, .int .i64 0, .int .i64 0, .int .i64 0, .int .i64 0, .int .i64 0, .int .i64 0, .int .i64 0, .int .i64 0, .int .i64 0, .int .i64 0, .int .i64 0, .int .i64 0, .int .i64 0, .int .i64 0, .int .i64 0, .int .i64 0, .int .i64 0, .int .i64 0, .int .i64 0, .int .i64 0, .int .i64 0, .int .i64 0, .int .i64 0, .int .i64 0, .int .i64 0, .int .i64 0, .int .i64 0, .int .i64 0, .int .i64 0, .int .i64 0, .int .i64 0, .int .i64 0, .int .i64 0, .int .i64 0, .int .i64 0, .int .i64 0, .int .i64 0, .int .i64 0, .int .i64 0, .int .i64 0, .int .i64 0, .int .i64 0, .int .i64 0, .int .i64 0, .int .i64 0, .int .i64 0, .int .i64 0, .int .i64 0, .int .i64 0, .int .i64 0, .int .i64 0, .int .i64 0, .int .i64 0, .int .i64 0, .int .i64 0, .int .i64 0, .int .i64 0] 100)).setRow w2.heap.size (rowI I)) = w3 at hst hA3 L3 R3 B3
    go_wp2_with fail
    refine (CA.out _ B3).mono ?_
    rintro e w4 ⟨rfl, hb4⟩
    have R4 := R3.call hb4
    have B4 := bstep B3 hb4
    clear L3 R3 B3 hb4 hst hA3 CA
    have r4c0 := R4.c0
    have r4c1 := R4.c1
    have r4c2 := R4.c2
    have r4c3 := R4.c3
    have r4c4 := R4.c4
    have r4f0 := R4.f0
    have r4f1 := R4.f1
    have r4f2 := R4.f2
    have r4f3 := R4.f3
    have r4f4 := R4.f4
    have r4l := R4.lt
    go_wp2
    refine bodyPost_ret (v := .tuple #[(.agg #[.int .i64 0, .int .i64 0, .int .i64 0, .int .i64 0, .slice none 0 0]), .int .i64 2]) (by simp [results, Tryz.results28, go_sem, *]) rfl ⟨_, _, _, _, _, _, _, _, EA.out, rfl, ?_, ?_⟩
    ·exact SRow.nil _ 1 _ _
    ·exact pkPo0
   ·have EA := Lib.hid (po_good (show poB f (p : Int) B (q : Int) xs m D = true by unfold poB; rw [hg]; simp only [Int.toNat_natCast, Bool.true_and]; rw [hcol, Bool.and_true]; exact decide_eq_true hmc))
    have CA := Lib.hid (fun (X : World) (hX : Below w.heap.size w X) => areCol_any (RV.out.call hX) hm2)
    rw [hcol] at CA
    have HL := Lib.hid (grp_good hg).1
    clear hg hck hrg hmc hcol
    go_enter Tryz.func28, Tryz.ntmps28
    have l0c0 := L0.c0
    have l0c1 := L0.c1
    have l0c2 := L0.c2
    have l0l := L0.lt
    go_wp2_with fail
    refine CG.out.mono ?_
    rintro e w1 ⟨v1, rfl, hr, hv1, hb1⟩
    have R1 := R0.call hb1
    have B1 := bstep B0 hb1
    obtain ⟨g1, cap1, rfl, _, r1⟩ := own_irow (n := 0) (hr (by first | rfl | trivial)) (grp_pos HG.out) HN.out
    have L1 := L0.call hb1
    have CO := Lib.hid (orbI_any (cap := cap1) HG.out r1)
    clear L0 R0 B0 hb1 CG r1 hr hv1 l0c0 l0c1 l0c2 l0l
    have l1c0 := L1.c0
    have l1c1 := L1.c1
    have l1c2 := L1.c2
    have l1l := L1.lt
    go_wp2_with fail
    refine CO.out.mono ?_
    rintro e w2 ⟨J, I, rfl, hM, hb2⟩
    have HM := Lib.hid hM
    have L2 := L1.call hb2
    have R2 := R1.call hb2
    have B2 := bstep B1 hb2
    have hn0 : (w2.alloc (.cells #[.int .i64 0, .int .i64 0, .int .i64 0, .int .i64 0, .int .i64 0, .int .i64 0, .int .i64 0, .int .i64 0, .int .i64 0, .int .i64 0, .int .i64 0, .int .i64 0, .int .i64 0, .int .i64 0, .int .i64 0, .int .i64 0, .int .i64 0, .int .i64 0, .int .i64 0, .int .i64 0, .int .i64 0, .int .i64 0, .int .i64 0, .int .i64 0, .int .i64 0, .int .i64 0, .int .i64 0, .int .i64 0, .int .i64 0, .int .i64 0, .int .i64 0, .int .i64 0, .int .i64 0, .int .i64 0, .int .i64 0, .int .i64 0, .int .i64 0, .int .i64 0, .int .i64 0, .int .i64 0, .int .i64 0, .int .i64 0, .int .i64 0, .int .i64 0, .int .i64 0, .int .i64 0, .int .i64 0, .int .i64 0, .int .i64 0, .int .i64 0, .int .i64 0, .int .i64 0, .int .i64 0, .int .i64 0, .int .i64 0, .int .i64 0, .int .i64 0, .int .i64 0, .int .i64 0, .int .i64 0, .int .i64 0, .int .i64 0, .int .i64 0, .int .i64 0] 100)).heap[w2.heap.size]? = some (.cells (rowI fun _ => 0) 100 (0, 0)) := by rw [show (#[.int .i64 0, .int .i64 0, .int .i64 0, .int .i64 0, .int .i64 0, .int .i64 0, .int .i64 0, .int .i64 0, .int .i64 0, .int .i64 0, .int .i64 0, .int .i64 0, .int .i64 0, .int .i64 0, .int .i64 0, .int .i64 0, .int .i64 0, .int .i64 0, .int .i64 0, .int .i64 0, .int .i64 0, .int .i64 0, .int .i64 0, .int .i64 0, .int .i64 0, .int .i64 0, .int .i64 0, .int .i64 0, .int .i64 0, .int .i64 0, .int .i64 0, .int .i64 0, .int .i64 0, .int .i64 0, .int .i64 0, .int .i64 0, .int .i64 0, .int .i64 0, .int .i64 0, .int .i64 0, .int .i64 0, .int .i64 0, .int .i64 0, .int .i64 0, .int .i64 0, .int .i64 0, .int .i64 0, .int .i64 0, .int .i64 0, .int .i64 0, .int .i64 0, .int .i64 0, .int .i64 0, .int .i64 0, .int .i64 0, .int .i64 0, .int .i64 0, .int .i64 0, .int .i64 0, .int .i64 0, .int .i64 0, .int .i64 0, .int .i64 0, .int .i64 0] : Array Value) = rowI (fun _ => 0) from rfl]; exact World.alloc_heap_new _ _
    have hst : Sem.run Tryz.prog (storeCells ⟨w2.heap.size, 0, none⟩ (rowI I).toList 0) (w2.alloc (.cells #[.int .i64 0, .int .i64 0, .int .i64 0, .int .i64 0, .int .i64 0, .int .i64 0, .int .i64 0, .int .i64 0, .int .i64 0, .int .i64 0, .int .i64 0, .int .i64 0, .int .i64 0, .int .i64 0, .int .i64 0, .int .i64 0, .int .i64 0, .int .i64 0, .int .i64 0, .int .i64 0, .int .i64 0, .int .i64 0, .int .i64 0, .int .i64 0, .int .i64 0, .int .i64 0, .int .i64 0, .int .i64 0, .int .i64 0, .int .i64 0, .int .i64 0, .int .i64 0, .int .i64 0, .int .i64 0, .int .i64 0, .int .i64 0, .int .i64 0, .int .i64 0, .int .i64 0, .int .i64 0, .int .i64 0, .int .i64 0, .int .i64 0, .int .i64 0, .int .i64 0, .int .i64 0, .int .i64 0, .int .i64 0, .int .i64 0, .int .i64 0, .int .i64 0, .int .i64 0, .int .i64 0, .int .i64 0, .int .i64 0, .int .i64 0, .int .i64 0, .int .i64 0, .int .i64 0, .int .i64 0, .int .i64 0, .int .i64 0, .int .i64 0, .int .i64 0] 100)) = .ok () ((w2.alloc (.cells #[.int .i64 0, .int .i64 0, .int .i64 0, .int .i64 0, .int .i64 0, .int .i64 0, .int .i64 0, .int .i64 0, .int .i64 0, .int .i64 0, .int .i64 0, .int .i64 0, .int .i64 0, .int .i64 0, .int .i64 0, .int .i64 0, .int .i64 0, .int .i64 0, .int .i64 0, .int .i64 0, .int .i64 0, .int .i64 0, .int .i64 0, .int .i64 0, .int .i64 0, .int .i64 0, .int .i64 0, .int .i64 0, .int .i64 0, .int .i64 0, .int .i64 0, .int .i64 0, .int .i64 0, .int .i64 0, .int .i64 0, .int .i64 0, .int .i64 0, .int .i64 0, .int .i64 0, .int .i64 0, .int .i64 0, .int .i64 0, .int .i64 0, .int .i64 0, .int .i64 0, .int .i64 0, .int .i64 0, .int .i64 0, .int .i64 0, .int .i64 0, .int .i64 0, .int .i64 0, .int .i64 0, .int .i64 0, .int .i64 0, .int .i64 0, .int .i64 0, .int .i64 0, .int .i64 0, .int .i64 0, .int .i64 0, .int .i64 0, .int .i64 0, .int .i64 0] 100)).setRow w2.heap.size (rowI I)) := store64 hn0
    have hA3 : ARI w2.heap.size I ((w2.alloc (.cells #[.int .i64 0, .int .i64 0, .int .i64 0, .int .i64 0, .int .i64 0, .int .i64 0, .int .i64 0, .int .i64 0, .int .i64 0, .int .i64 0, .int .i64 0, .int .i64 0, .int .i64 0, .int .i64 0, .int .i64 0, .int .i64 0, .int .i64 0, .int .i64 0, .int .i64 0, .int .i64 0, .int .i64 0, .int .i64 0, .int .i64 0, .int .i64 0, .int .i64 0, .int .i64 0, .int .i64 0, .int .i64 0, .int .i64 0, .int .i64 0, .int .i64 0, .int .i64 0, .int .i64 0, .int .i64 0, .int .i64 0, .int .i64 0, .int .i64 0, .int .i64 0, .int .i64 0, .int .i64 0, .int .i64 0, .int .i64 0, .int .i64 0, .int .i64 0, .int .i64 0, .int .i64 0, .int .i64 0, .int .i64 0, .int .i64 0, .int .i64 0, .int .i64 0, .int .i64 0, .int .i64 0, .int .i64 0, .int .i64 0, .int .i64 0, .int .i64 0, .int .i64 0, .int .i64 0, .int .i64 0, .int .i64 0, .int .i64 0, .int .i64 0, .int .i64 0] 100)).setRow w2.heap.size (rowI I)) := setRow_heap _ _ _ _ _ _ hn0
    have hb3 : Below w2.heap.size w2 ((w2.alloc (.cells #[.int .i64 0, .int .i64 0, .int .i64 0, .int .i64 0, .int .i64 0, .int .i64 0, .int .i64 0, .int .i64 0, .int .i64 0, .int .i64 0, .int .i64 0, .int .i64 0, .int .i64 0, .int .i64 0, .int .i64 0, .int .i64 0, .int .i64 0, .int .i64 0, .int .i64 0, .int .i64 0, .int .i64 0, .int .i64 0, .int .i64 0, .int .i64 0, .int .i64 0, .int .i64 0, .int .i64 0, .int .i64 0, .int .i64 0, .int .i64 0, .int .i64 0, .int .i64 0, .int .i64 0, .int .i64 0, .int .i64 0, .int .i64 0, .int .i64 0, .int .i64 0, .int .i64 0, .int .i64 0, .int .i64 0, .int .i64 0, .int .i64 0, .int .i64 0, .int .i64 0, .int .i64 0, .int .i64 0, .int .i64 0, .int .i64 0, .int .i64 0, .int .i64 0, .int .i64 0, .int .i64 0, .int .i64 0, .int .i64 0, .int .i64 0, .int .i64 0, .int .i64 0, .int .i64 0, .int .i64 0, .int .i64 0, .int .i64 0, .int .i64 0, .int .i64 0] 100)).setRow w2.heap.size (rowI I)) := below_row ((Below.refl _ _).alloc (Nat.le_refl _) _) (Nat.le_refl _) _
    have L3 := L2.call hb3
    have R3 := R2.call hb3
    have B3 := bstep B2 hb3
    clear hn0 hb2 hb3 L1 R1 B1 CO hM L2 R2 B2 l1c0 l1c1 l1c2 l1l
    generalize ((w2.alloc (.cells #[.int .i64 0, .int .i64 0, .int .i64 0, .int .i64 0, .int .i64 0, .int .i64 0, .int .i64 0, .int .i64 0, .int .i64 0, .int .i64 0, .int .i64 0, .int .i64 0, .int .i64 0, .int .i64 0, .int .i64 0, .int .i64 0, .int .i64 0, .int .i64 0, .int .i64 0, .int .i64 0, .int .i64 0, .int .i64 0, .int .i64 0, .int .i64 0, .int .i64 0, .int .i64 0, .int .i64 0, .int .i64 0, .int .i64 0, .int .i64 0, .int .i64 0, .int .i64 0, .int .i64 0, .int .i64 0, .int .i64 0, .int .i64 0, .int .i64 0, .int .i64 0, .int .i64 0, .int .i64 0, .int .i64 0, .int .i64 0, .int .i64 0, .int .i64 0, .int .i64 0, .int .i64 0, .int .i64 0, .int .i64 0, .int .i64 0, .int .i64 0, .int .i64 0, .int .i64 0, .int .i64 0, .int .i64 0, .int .i64 0, .int .i64 0, .int .i64 0, .int .i64 0, .int .i64 0, .int .i64 0, .int .i64 0, .int .i64 0, .int .i64 0, .int .i64 0] 100)).setRow w2.heap.size (rowI I)) = w3 at hst hA3 L3 R3 B3
    go_wp2_with fail
    refine (CA.out _ B3).mono ?_
    rintro e w4 ⟨rfl, hb4⟩
    have L4 := L3.call hb4
    have R4 := R3.call hb4
    have A4 := hA3.call hb4
    have B4 := bstep B3 hb4
    have HI64 := Lib.hid (show (Tryz.prog.info? 100).map (·.size) = some (rowI I).size from by rw [rowI_size]; kernel_rfl)
    have z4 := R4.lt
    clear L3 R3 B3 hb4 hst hA3 CA
    have l4c0 := L4.c0
    have l4c1 := L4.c1
    have l4c2 := L4.c2
    have l4l := L4.lt
    go_wp2_with (refine wpList_load_row rfl 100 (.tmp 12) rfl w2.heap.size rfl 100 (rowI I) (0, 0) _ A4 Tryz.underlying100 rfl HI64.out ?_)
    refine (painted_any (idx := nuX p q B xs) HL.out (RV.out.call B4) (fun t ht => by rw [HMC.out]; exact nu_idx HG.out HM.out ht)).mono ?_
    rintro e w5 ⟨v5, rfl, r5, hb5⟩
    have R5 := R4.call hb5
    have B5 := bstep B4 hb5
    clear L4 R4 A4 B4 l4c0 l4c1 l4c2 l4l
    have HR := Lib.hid (r5.low (lo' := w.heap.size + 2) (by omega))
    obtain ⟨ao5, cap5, rfl⟩ := r5.slice
    have HB := Lib.hid B5
    clear r5 B5 hb5
    have r5c0 := R5.c0
    have r5c1 := R5.c1
    have r5c2 := R5.c2
    have r5c3 := R5.c3
    have r5c4 := R5.c4
    have r5f0 := R5.f0
    have r5f1 := R5.f1
    have r5f2 := R5.f2
    have r5f3 := R5.f3
    have r5f4 := R5.f4
    have r5l := R5.lt
    go_wp2
    refine bodyPost_ret (v := .tuple #[(.agg #[.int .i64 f, .int .i64 (p : Int), .int .i64 B, .int .i64 (q : Int), .slice ao5 (p * q) cap5]), .int .i64 0]) (by simp [results, Tryz.results28, go_sem, *]) rfl ⟨_, _, _, _, _, _, _, _, EA.out, rfl, ?_, ?_⟩
    ·refine SRow.up (hi := w5.heap.size) (SRow.low (lo := w.heap.size + 2) ?_ (by omega))
     repeat (first | with_reducible exact HR.out | with_reducible refine SRow.put (by first | omega | (dsimp only; omega)) _ ?_)
    ·have hB := HB.out
     exact pkPo0
  ·have hmn : ((m : Int) != ((orbF p q B xs).length : Int)) = true := by simp; omega
   have EA := Lib.hid (po_bad (show poB f (p : Int) B (q : Int) xs m D = false by simp [poB, hmc]))
   rw [hrg] at EA
   clear hg hck hrg hmc
   go_enter Tryz.func28, Tryz.ntmps28
   have l0c0 := L0.c0
   have l0c1 := L0.c1
   have l0c2 := L0.c2
   have l0l := L0.lt
   go_wp2_with fail
   refine CG.out.mono ?_
   rintro e w1 ⟨v1, rfl, hr, hv1, hb1⟩
   have R1 := R0.call hb1
   have B1 := bstep B0 hb1
   obtain ⟨g1, cap1, rfl, _, r1⟩ := own_irow (n := 0) (hr (by first | rfl | trivial)) (grp_pos HG.out) HN.out
   have L1 := L0.call hb1
   have CO := Lib.hid (orbI_any (cap := cap1) HG.out r1)
   clear L0 R0 B0 hb1 CG r1 hr hv1 l0c0 l0c1 l0c2 l0l
   have l1c0 := L1.c0
   have l1c1 := L1.c1
   have l1c2 := L1.c2
   have l1l := L1.lt
   go_wp2_with fail
   refine CO.out.mono ?_
   rintro e w2 ⟨J, I, rfl, hM, hb2⟩
   have HM := Lib.hid hM
   have L2 := L1.call hb2
   have R2 := R1.call hb2
   have B2 := bstep B1 hb2
   have hn0 : (w2.alloc (.cells #[.int .i64 0, .int .i64 0, .int .i64 0, .int .i64 0, .int .i64 0, .int .i64 0, .int .i64 0, .int .i64 0, .int .i64 0, .int .i64 0, .int .i64 0, .int .i64 0, .int .i64 0, .int .i64 0, .int .i64 0, .int .i64 0, .int .i64 0, .int .i64 0, .int .i64 0, .int .i64 0, .int .i64 0, .int .i64 0, .int .i64 0, .int .i64 0, .int .i64 0, .int .i64 0, .int .i64 0, .int .i64 0, .int .i64 0, .int .i64 0, .int .i64 0, .int .i64 0, .int .i64 0, .int .i64 0, .int .i64 0, .int .i64 0, .int .i64 0, .int .i64 0, .int .i64 0, .int .i64 0, .int .i64 0, .int .i64 0, .int .i64 0, .int .i64 0, .int .i64 0, .int .i64 0, .int .i64 0, .int .i64 0, .int .i64 0, .int .i64 0, .int .i64 0, .int .i64 0, .int .i64 0, .int .i64 0, .int .i64 0, .int .i64 0, .int .i64 0, .int .i64 0, .int .i64 0, .int .i64 0, .int .i64 0, .int .i64 0, .int .i64 0, .int .i64 0] 100)).heap[w2.heap.size]? = some (.cells (rowI fun _ => 0) 100 (0, 0)) := by rw [show (#[.int .i64 0, .int .i64 0, .int .i64 0, .int .i64 0, .int .i64 0, .int .i64 0, .int .i64 0, .int .i64 0, .int .i64 0, .int .i64 0, .int .i64 0, .int .i64 0, .int .i64 0, .int .i64 0, .int .i64 0, .int .i64 0, .int .i64 0, .int .i64 0, .int .i64 0, .int .i64 0, .int .i64 0, .int .i64 0, .int .i64 0, .int .i64 0, .int .i64 0, .int .i64 0, .int .i64 0, .int .i64 0, .int .i64 0, .int .i64 0, .int .i64 0, .int .i64 0, .int .i64 0, .int .i64 0, .int .i64 0, .int .i64 0, .int .i64 0, .int .i64 0, .int .i64 0, .int .i64 0, .int .i64 0, .int .i64 0, .int .i64 0, .int .i64 0, .int .i64 0, .int .i64 0, .int .i64 0, .int .i64 0, .int .i64 0, .int .i64 0, .int .i64 0, .int .i64 0, .int .i64 0, .int .i64 0, .int .i64 0, .int .i64 0, .int .i64 0, .int .i64 0, .int .i64 0, .int .i64 0, .int .i64 0, .int .i64 0, .int .i64 0, .int .i64 0] : Array Value) = rowI (fun _ => 0) from rfl]; exact World.alloc_heap_new _ _
   have hst : Sem.run Tryz.prog (storeCells ⟨w2.heap.size, 0, none⟩ (rowI I).toList 0) (w2.alloc (.cells #[.int .i64 0, .int .i64 0, .int .i64 0, .int .i64 0, .int .i64 0, .int .i64 0, .int .i64 0, .int .i64 0, .int .i64 0, .int .i64 0, .int .i64 0, .int .i64 0, .int .i64 0, .int .i64 0, .int .i64 0, .int .i64 0, .int .i64 0, .int .i64 0, .int .i64 0, .int .i64 0, .int .i64 0, .int .i64 0, .int .i64 0, .int .i64 0, .int .i64 0, .int .i64 0, .int .i64 0, .int .i64 0, .int .i64 0, .int .i64 0, .int .i64 0, .int .i64 0, .int .i64 0, .int .i64 0, .int .i64 0, .int .i64 0, .int .i64 0, .int .i64 0, .int .i64 0, .int .i64 0, .int .i64 0, .int .i64 0, .int .i64 0, .int .i64 0, .int .i64 0, .int .i64 0, .int .i64 0, .int .i64 0, .int .i64 0, .int .i64 0, .int .i64 0, .int .i64 0, .int .i64 0, .int .i64 0, .int .i64 0, .int .i64 0, .int .i64 0, .int .i64 0, .int .i64 0, .int .i64 0, .int .i64 0, .int .i64 0, .int .i64 0, .int .i64 0] 100)) = .ok () ((w2.alloc (.cells #[.int .i64 0, .int .i64 0, .int .i64 0, .int .i64 0, .int .i64 0, .int .i64 0, .int .i64 0, .int .i64 0, .int .i64 0, .int .i64 0, .int .i64 0, .int .i64 0, .int .i64 0, .int .i64 0, .int .i64 0, .int .i64 0, .int .i64 0, .int .i64 0, .int .i64 0, .int .i64 0, .int .i64 0, .int .i64 0, .int .i64 0, .int .i64 0, .int .i64 0, .int .i64 0, .int .i64 0, .int .i64 0, .int .i64 0, .int .i64 0, .int .i64 0, .int .i64 0, .int .i64 0, .int .i64 0, .int .i64 0, .int .i64 0, .int .i64 0, .int .i64 0, .int .i64 0, .int .i64 0, .int .i64 0, .int .i64 0, .int .i64 0, .int .i64 0, .int .i64 0, .int .i64 0, .int .i64 0, .int .i64 0, .int .i64 0, .int .i64 0, .int .i64 0, .int .i64 0, .int .i64 0, .int .i64 0, .int .i64 0, .int .i64 0, .int .i64 0, .int .i64 0, .int .i64 0, .int .i64 0, .int .i64 0, .int .i64 0, .int .i64 0, .int .i64 0] 100)).setRow w2.heap.size (rowI I)) := store64 hn0
   have hA3 : ARI w2.heap.size I ((w2.alloc (.cells #[.int .i64 0, .int .i64 0, .int .i64 0, .int .i64 0, .int .i64 0, .int .i64 0, .int .i64 0, .int .i64 0, .int .i64 0, .int .i64 0, .int .i64 0, .int .i64 0, .int .i64 0, .int .i64 0, .int .i64 0, .int .i64 0, .int .i64 0, .int .i64 0, .int .i64 0, .int .i64 0, .int .i64 0, .int .i64 0, .int .i64 0, .int .i64 0, .int .i64 0, .int .i64 0, .int .i64 0, .int .i64 0, .int .i64 0, .int .i64 0, .int .i64 0, .int .i64 0, .int .i64 0, .int .i64 0, .int .i64 0, .int .i64 0, .int .i64 0, .int .i64 0, .int .i64 0, .int .i64 0, .int .i64 0, .int .i64 0, .int .i64 0, .int .i64 0, .int .i64 0, .int .i64 0, .int .i64 0, .int .i64 0, .int .i64 0, .int .i64 0, .int .i64 0, .int .i64 0, .int .i64 0, .int .i64 0, .int .i64 0, .int .i64 0, .int .i64 0, .int .i64 0, .int .i64 0, .int .i64 0, .int .i64 0, .int .i64 0, .int .i64 0, .int .i64 0] 100)).setRow w2.heap.size (rowI I)) := setRow_heap _ _ _ _ _ _ hn0
   have hb3 : Below w2.heap.size w2 ((w2.alloc (.cells #[.int .i64 0, .int .i64 0, .int .i64 0, .int .i64 0, .int .i64 0, .int .i64 0, .int .i64 0, .int .i64 0, .int .i64 0, .int .i64 0, .int .i64 0, .int .i64 0, .int .i64 0, .int .i64 0, .int .i64 0, .int .i64 0, .int .i64 0, .int .i64 0, .int .i64 0, .int .i64 0, .int .i64 0, .int .i64 0, .int .i64 0, .int .i64 0, .int .i64 0, .int .i64 0, .int .i64 0, .int .i64 0, .int .i64 0, .int .i64 0, .int .i64 0, .int .i64 0, .int .i64 0, .int .i64 0, .int .i64 0, .int .i64 0, .int .i64 0, .int .i64 0, .int .i64 0, .int .i64 0, .int .i64 0, .int .i64 0, .int .i64 0, .int .i64 0, .int .i64 0, .int .i64 0, .int .i64 0, .int .i64 0, .int .i64 0, .int .i64 0, .int .i64 0, .int .i64 0, .int .i64 0, .int .i64 0, .int .i64 0, .int .i64 0, .int .i64 0, .int .i64 0, .int .i64 0, .int .i64 0, .int .i64 0, .int .i64 0, .int .i64 0, .int .i64 0] 100)).setRow w2.heap.size (rowI I)) := below_row ((Below.refl _ _).alloc (Nat.le_refl _) _) (Nat.le_refl _) _
   have L3 := L2.call hb3
   have R3 := R2.call hb3
   have B3 := bstep B2 hb3
   clear hn0 hb2 hb3 L1 R1 B1 CO hM L2 R2 B2 l1c0 l1c1 l1c2 l1l
   generalize ((w2.alloc (.cells #[.int .i64 0, .int .i64 0, .int .i64 0, .int .i64 0, .int .i64 0, .int .i64 0, .int .i64 0, .int .i64 0, .int .i64 0, .int .i64 0, .int .i64 0, .int .i64 0, .int .i64 0, .int .i64 0, .int .i64 0, .int .i64 0, .int .i64 0, .int .i64 0, .int .i64 0, .int .i64 0, .int .i64 0, .int .i64 0, .int .i64 0, .int .i64 0, .int .i64 0, .int .i64 0, .int .i64 0, .int .i64 0, .int .i64 0, .int .i64 0, .int .i64 0, .int .i64 0, .int .i64 0, .int .i64 0, .int .i64 0, .int .i64 0, .int .i64 0, .int .i64 0, .int .i64 0, .int .i64 0, .int .i64 0, .int .i64 0, .int .i64 0, .int .i64 0, .int .i64 0, .int .i64 0, .int .i64 0, .int .i64 0, .int .i64 0, .int .i64 0, .int .i64 0, .int .i64 0, .int .i64 0, .int .i64 0, .int .i64 0, .int .i64 0, .int .i64 0, .int .i64 0, .int .i64 0, .int .i64 0, .int .i64 0, .int .i64 0, .int .i64 0, .int .i64 0] 100)).setRow w2.heap.size (rowI I)) = w3 at hst hA3 L3 R3 B3
   clear L3 hA3
   have r3c0 := R3.c0
   have r3c1 := R3.c1
   have r3c2 := R3.c2
   have r3c3 := R3.c3
   have r3c4 := R3.c4
   have r3f0 := R3.f0
   have r3f1 := R3.f1
   have r3f2 := R3.f2
   have r3f3 := R3.f3
   have r3f4 := R3.f4
   have r3l := R3.lt
   go_wp2
   refine bodyPost_ret (v := .tuple #[(.agg #[.int .i64 0, .int .i64 0, .int .i64 0, .int .i64 0, .slice none 0 0]), .int .i64 2]) (by simp [results, Tryz.results28, go_sem, *]) rfl ⟨_, _, _, _, _, _, _, _, EA.out, rfl, ?_, ?_⟩
   ·exact SRow.nil _ 1 _ _
   ·exact pkPo0
set_option maxRecDepth 100000 in
set_option maxHeartbeats 16000000 in
theorem specPo_any {lo hi lo' hi' m : Nat} {v v9 : Value} {D : Nat → Int} {xs : List M6} {w : World} (f A B C : Int) (hx : SRow lo' hi' 6 v9 xs.length (fm xs) w) (hn : xs.length ≤ 1048576) (hv : SRow lo hi 1 v m D w) :
  Calls Tryz.prog 25 #[.int .i64 f, .agg #[.int .i64 A, .int .i64 B, .int .i64 C], v9, v] w (PAnK (poR f A B C xs m D) w) := by
 have RV := Lib.hid hv
 have RX := Lib.hid hx
 have HN := Lib.hid hn
 have hm2 := hv.2.1
 have hmi : (m : Int) ≤ 2000000 := by omega
 obtain ⟨ao, cap, rfl⟩ := hv.slice
 clear hv hx hn
 have L0 : Bx w.heap.size [.int .i64 A, .int .i64 B, .int .i64 C] ((w.alloc (.cells #[.int .i64 A, .int .i64 B, .int .i64 C] 32)).alloc (.cells #[.int .i64 0, .int .i64 0, .int .i64 0, .int .i64 0, .slice none 0 0] 34)) := (Bx.at _ rfl).alloc _
 have R0 : BX (w.heap.size + 1) [.int .i64 0, .int .i64 0, .int .i64 0, .int .i64 0, .slice none 0 0] ((w.alloc (.cells #[.int .i64 A, .int .i64 B, .int .i64 C] 32)).alloc (.cells #[.int .i64 0, .int .i64 0, .int .i64 0, .int .i64 0, .slice none 0 0] 34)) := BX.at _ (by simp)
 have B0 : Below w.heap.size w ((w.alloc (.cells #[.int .i64 A, .int .i64 B, .int .i64 C] 32)).alloc (.cells #[.int .i64 0, .int .i64 0, .int .i64 0, .int .i64 0, .slice none 0 0] 34)) := by exact pkPo0
 obtain ⟨ao9, cap9, rfl⟩ := RX.out.slice
 obtain ⟨wb, hwb⟩ : ∃ b, b = (colB m D && decide (m ≤ 64)) := ⟨_, rfl⟩
 have CW := Lib.hid (fun (X : World) (hX : Below w.heap.size w X) => withinC_any (RV.out.call hX) hm2)
 rw [← hwb] at CW
 have CC := Lib.hid (fun (X : World) (hX : Below w.heap.size w X) => l07Code_any f A B C wb (RX.out.call hX) HN.out)
 rcases hb : (wb && grpB f A B C xs) with _ | _
 ·have EA := Lib.hid (po_bad (show poB f A B C xs m D = false from by
   unfold poB
   rcases hg : grpB f A B C xs with _ | _
   ·rfl
   ·rw [hg, Bool.and_true] at hb
    rw [hb] at hwb
    obtain ⟨p, q, rfl, rfl⟩ := lat_nat7 (grp_good hg).1
    have hlen := orbF_len64 B xs (p := p) (q := q) (latI_pq (grp_good hg).1).2
    simp only [Int.toNat_natCast, Bool.true_and]
    rcases hc : colB m D with _ | _
    ·simp
    ·rw [hc] at hwb
     have h64 : ¬ m ≤ 64 := by simpa using hwb.symm
     rw [Bool.and_true]
     exact decide_eq_false (by omega)))
  have hc := cod6_nz f A B C
  rw [hb] at CC
  clear hb hwb
  generalize cod6 f A B C false = cc at CC hc EA
  have hc0 : (cc == 0) = false := by simpa using hc
  go_enter Tryz.func25, Tryz.ntmps25
  have l0c0 := L0.c0
  have l0c1 := L0.c1
  have l0c2 := L0.c2
  have l0l := L0.lt
  go_wp2_with fail
  go_region_held3 (fun W9 => (W9.cell? ⟨w.heap.size, 0, none⟩ = some (.int .i64 A) ∧ W9.cell? ⟨w.heap.size, 1, none⟩ = some (.int .i64 B) ∧ W9.cell? ⟨w.heap.size, 2, none⟩ = some (.int .i64 C))) ((refine (Bx.cells3 ?_)) <;> (with_reducible exact pkPo3))
   (first
    | (go_at_call 56; (with_reducible refine (CW.out _ (by exact pkPo1)).mono ?_); rintro e u1 ⟨rfl, hb1⟩; have L1 : Bx w.heap.size [.int .i64 A, .int .i64 B, .int .i64 C] u1 := (by with_reducible exact pkPo3); have E1 : Below ((w.alloc (.cells #[.int .i64 A, .int .i64 B, .int .i64 C] 32)).alloc (.cells #[.int .i64 0, .int .i64 0, .int .i64 0, .int .i64 0, .slice none 0 0] 34)).heap.size ((w.alloc (.cells #[.int .i64 A, .int .i64 B, .int .i64 C] 32)).alloc (.cells #[.int .i64 0, .int .i64 0, .int .i64 0, .int .i64 0, .slice none 0 0] 34)) u1 := (by exact pkPo1); have C1 : Below w.heap.size w u1 := (by exact pkPo1))
    | (go_at_call 55; (with_reducible refine (CC.out _ (by exact pkPo1)).mono ?_); rintro e u2 ⟨rfl, hb2⟩; have L2 : Bx w.heap.size [.int .i64 A, .int .i64 B, .int .i64 C] u2 := (by with_reducible exact pkPo3); have E2 : Below ((w.alloc (.cells #[.int .i64 A, .int .i64 B, .int .i64 C] 32)).alloc (.cells #[.int .i64 0, .int .i64 0, .int .i64 0, .int .i64 0, .slice none 0 0] 34)).heap.size ((w.alloc (.cells #[.int .i64 A, .int .i64 B, .int .i64 C] 32)).alloc (.cells #[.int .i64 0, .int .i64 0, .int .i64 0, .int .i64 0, .slice none 0 0] 34)) u2 := bstep E1 hb2; have C2 : Below w.heap.size w u2 := bstep C1 hb2))
  all_goals
   have R2 := R0.call E2
   have B2 := C2
   clear R0 C2
   clear L0 B0 L1 E1 C1 hb1 hb2 E2 CW CC l0c0 l0c1 l0c2 l0l
   have r2c0 := R2.c0
   have r2c1 := R2.c1
   have r2c2 := R2.c2
   have r2c3 := R2.c3
   have r2c4 := R2.c4
   have r2f0 := R2.f0
   have r2f1 := R2.f1
   have r2f2 := R2.f2
   have r2f3 := R2.f3
   have r2f4 := R2.f4
   have r2l := R2.lt
   go_wp2
   refine bodyPost_ret (v := .tuple #[(.agg #[.int .i64 0, .int .i64 0, .int .i64 0, .int .i64 0, .slice none 0 0]), .int .i64 cc]) (by simp [results, Tryz.results25, go_sem, *]) rfl ⟨_, _, _, _, _, _, _, _, EA.out, rfl, ?_, ?_⟩
   ·exact SRow.nil _ 1 _ _
   ·exact pkPo0
 ·have hg : grpB f A B C xs = true := by rw [Bool.and_eq_true] at hb; exact hb.2
  have hw1 : wb = true := by rw [Bool.and_eq_true] at hb; exact hb.1
  rw [hb, cod6_ok hg] at CC
  obtain ⟨p, q, rfl, rfl⟩ := lat_nat7 (grp_good hg).1
  have HG := Lib.hid hg
  have hrg := cod6_rng hg
  have hcol : colB m D = true := by rw [hw1] at hwb; have := hwb.symm; rw [Bool.and_eq_true] at this; exact this.1
  have hlen := orbF_len64 B xs (p := p) (q := q) (latI_pq (grp_good hg).1).2
  have hli : ((orbF p q B xs).length : Int) ≤ 64 := by omega
  have CO : Hid (∀ W, Below w.heap.size w W → Calls Tryz.prog 53 #[.agg #[.int .i64 ((p : Int)), .int .i64 B, .int .i64 ((q : Int))], .slice ao9 xs.length cap9] W fun e w' => ∃ (g cap : Nat) (vs : List Value), e = .returned (.slice (some ⟨g, 0, none⟩) vs.length cap) ∧ vs.length = (orbF p q B xs).length ∧ Below W.heap.size W w') := Lib.hid (fun W hW => Calls.mono (l07Orbits_any HG.out (RX.out.call hW)) (fun e w' (hh : ∃ (g cap : Nat) (vs : List Value), _ ∧ _ ∧ OrbV (p : Int) B (q : Int) xs W.heap.size (orbF p q B xs) vs w' ∧ _) => by obtain ⟨g, cap, vs, h1, h2, h3, h4⟩ := hh; exact ⟨g, cap, vs, h1, h3.1, h4⟩))
  by_cases hmc : m = (orbF p q B xs).length
  ·have hmn : ((m : Int) != ((orbF p q B xs).length : Int)) = false := by simp [hmc]
   have EA := Lib.hid (po_good (show poB f (p : Int) B (q : Int) xs m D = true by unfold poB; rw [hg]; simp only [Int.toNat_natCast, Bool.true_and]; rw [hcol, Bool.and_true]; exact decide_eq_true hmc))
   have CP := Lib.hid (fun (X : World) (hX : Below w.heap.size w X) => l13Paint_any HG.out (RX.out.call hX) (RV.out.call hX) hmc)
   clear hg hb hwb hw1 hrg hcol hmc
   go_enter Tryz.func25, Tryz.ntmps25
   have l0c0 := L0.c0
   have l0c1 := L0.c1
   have l0c2 := L0.c2
   have l0l := L0.lt
   go_wp2_with fail
   go_region_held3 (fun W9 => (W9.cell? ⟨w.heap.size, 0, none⟩ = some (.int .i64 (p : Int)) ∧ W9.cell? ⟨w.heap.size, 1, none⟩ = some (.int .i64 B) ∧ W9.cell? ⟨w.heap.size, 2, none⟩ = some (.int .i64 (q : Int)))) ((refine (Bx.cells3 ?_)) <;> (with_reducible exact pkPo3))
    (first
     | (go_at_call 56; (with_reducible refine (CW.out _ (by exact pkPo1)).mono ?_); rintro e u1 ⟨rfl, hb1⟩; have L1 : Bx w.heap.size [.int .i64 (p : Int), .int .i64 B, .int .i64 (q : Int)] u1 := (by with_reducible exact pkPo3); have E1 : Below ((w.alloc (.cells #[.int .i64 (p : Int), .int .i64 B, .int .i64 (q : Int)] 32)).alloc (.cells #[.int .i64 0, .int .i64 0, .int .i64 0, .int .i64 0, .slice none 0 0] 34)).heap.size ((w.alloc (.cells #[.int .i64 (p : Int), .int .i64 B, .int .i64 (q : Int)] 32)).alloc (.cells #[.int .i64 0, .int .i64 0, .int .i64 0, .int .i64 0, .slice none 0 0] 34)) u1 := (by exact pkPo1); have C1 : Below w.heap.size w u1 := (by exact pkPo1))
     | (go_at_call 55; (with_reducible refine (CC.out _ (by exact pkPo1)).mono ?_); rintro e u2 ⟨rfl, hb2⟩; have L2 : Bx w.heap.size [.int .i64 (p : Int), .int .i64 B, .int .i64 (q : Int)] u2 := (by with_reducible exact pkPo3); have E2 : Below ((w.alloc (.cells #[.int .i64 (p : Int), .int .i64 B, .int .i64 (q : Int)] 32)).alloc (.cells #[.int .i64 0, .int .i64 0, .int .i64 0, .int .i64 0, .slice none 0 0] 34)).heap.size ((w.alloc (.cells #[.int .i64 (p : Int), .int .i64 B, .int .i64 (q : Int)] 32)).alloc (.cells #[.int .i64 0, .int .i64 0, .int .i64 0, .int .i64 0, .slice none 0 0] 34)) u2 := bstep E1 hb2; have C2 : Below w.heap.size w u2 := bstep C1 hb2))
   all_goals
    have R2 := R0.call E2
    have B2 := C2
    clear R0 C2
    clear L0 B0 L1 E1 C1 hb1 hb2 E2 CW CC l0c0 l0c1 l0c2 l0l
    have l2c0 := L2.c0
    have l2c1 := L2.c1
    have l2c2 := L2.c2
    have l2l := L2.lt
    go_wp2_with fail
    refine (CO.out _ B2).mono ?_
    rintro e w3 ⟨g3, cap3, vs, rfl, hvs, hb3⟩
    have R3 := R2.call hb3
    have L3 := L2.call hb3
    have B3 := bstep B2 hb3
    rw [hvs]
    clear R2 B2 hb3 hvs CO L2 l2c0 l2c1 l2c2 l2l
    have l3c0 := L3.c0
    have l3c1 := L3.c1
    have l3c2 := L3.c2
    have l3l := L3.lt
    have z3 := R3.lt
    go_wp2_with fail
    refine (CP.out _ B3).mono ?_
    rintro e w4 ⟨v4, rfl, r4, hb4⟩
    have R4 := R3.call hb4
    have B4 := bstep B3 hb4
    clear R3 B3 L3 l3c0 l3c1 l3c2 l3l CP
    have HR := Lib.hid (r4.low (lo' := w.heap.size + 2) (by omega))
    obtain ⟨ao4, cap4, rfl⟩ := r4.slice
    have HB := Lib.hid B4
    clear r4 B4 hb4
    have r4c0 := R4.c0
    have r4c1 := R4.c1
    have r4c2 := R4.c2
    have r4c3 := R4.c3
    have r4c4 := R4.c4
    have r4f0 := R4.f0
    have r4f1 := R4.f1
    have r4f2 := R4.f2
    have r4f3 := R4.f3
    have r4f4 := R4.f4
    have r4l := R4.lt
    go_wp2
    refine bodyPost_ret (v := .tuple #[(.agg #[.int .i64 f, .int .i64 (p : Int), .int .i64 B, .int .i64 (q : Int), .slice ao4 (p * q) cap4]), .int .i64 0]) (by simp [results, Tryz.results25, go_sem, *]) rfl ⟨_, _, _, _, _, _, _, _, EA.out, rfl, ?_, ?_⟩
    ·refine SRow.up (hi := w4.heap.size) (SRow.low (lo := w.heap.size + 2) ?_ (by omega))
     repeat (first | with_reducible exact HR.out | with_reducible refine SRow.put (by first | omega | (dsimp only; omega)) _ ?_)
    ·have hB := HB.out
     exact pkPo0
  ·have hmn : ((m : Int) != ((orbF p q B xs).length : Int)) = true := by simp; omega
   have EA := Lib.hid (po_bad (show poB f (p : Int) B (q : Int) xs m D = false by simp [poB, hmc]))
   rw [hrg] at EA
   clear hg hb hwb hw1 hrg hcol hmc
   go_enter Tryz.func25, Tryz.ntmps25
   have l0c0 := L0.c0
   have l0c1 := L0.c1
   have l0c2 := L0.c2
   have l0l := L0.lt
   go_wp2_with fail
   go_region_held3 (fun W9 => (W9.cell? ⟨w.heap.size, 0, none⟩ = some (.int .i64 (p : Int)) ∧ W9.cell? ⟨w.heap.size, 1, none⟩ = some (.int .i64 B) ∧ W9.cell? ⟨w.heap.size, 2, none⟩ = some (.int .i64 (q : Int)))) ((refine (Bx.cells3 ?_)) <;> (with_reducible exact pkPo3))
    (first
     | (go_at_call 56; (with_reducible refine (CW.out _ (by exact pkPo1)).mono ?_); rintro e u1 ⟨rfl, hb1⟩; have L1 : Bx w.heap.size [.int .i64 (p : Int), .int .i64 B, .int .i64 (q : Int)] u1 := (by with_reducible exact pkPo3); have E1 : Below ((w.alloc (.cells #[.int .i64 (p : Int), .int .i64 B, .int .i64 (q : Int)] 32)).alloc (.cells #[.int .i64 0, .int .i64 0, .int .i64 0, .int .i64 0, .slice none 0 0] 34)).heap.size ((w.alloc (.cells #[.int .i64 (p : Int), .int .i64 B, .int .i64 (q : Int)] 32)).alloc (.cells #[.int .i64 0, .int .i64 0, .int .i64 0, .int .i64 0, .slice none 0 0] 34)) u1 := (by exact pkPo1); have C1 : Below w.heap.size w u1 := (by exact pkPo1))
     | (go_at_call 55; (with_reducible refine (CC.out _ (by exact pkPo1)).mono ?_); rintro e u2 ⟨rfl, hb2⟩; have L2 : Bx w.heap.size [.int .i64 (p : Int), .int .i64 B, .int .i64 (q : Int)] u2 := (by with_reducible exact pkPo3); have E2 : Below ((w.alloc (.cells #[.int .i64 (p : Int), .int .i64 B, .int .i64 (q : Int)] 32)).alloc (.cells #[.int .i64 0, .int .i64 0, .int .i64 0, .int .i64 0, .slice none 0 0] 34)).heap.size ((w.alloc (.cells #[.int .i64 (p : Int), .int .i64 B, .int .i64 (q : Int)] 32)).alloc (.cells #[.int .i64 0, .int .i64 0, .int .i64 0, .int .i64 0, .slice none 0 0] 34)) u2 := bstep E1 hb2; have C2 : Below w.heap.size w u2 := bstep C1 hb2))
   all_goals
    have R2 := R0.call E2
    have B2 := C2
    clear R0 C2
    clear L0 B0 L1 E1 C1 hb1 hb2 E2 CW CC l0c0 l0c1 l0c2 l0l
    have l2c0 := L2.c0
    have l2c1 := L2.c1
    have l2c2 := L2.c2
    have l2l := L2.lt
    go_wp2_with fail
    refine (CO.out _ B2).mono ?_
    rintro e w3 ⟨g3, cap3, vs, rfl, hvs, hb3⟩
    have R3 := R2.call hb3
    have B3 := bstep B2 hb3
    rw [hvs]
    clear R2 B2 hb3 hvs CO L2 l2c0 l2c1 l2c2 l2l
    have r3c0 := R3.c0
    have r3c1 := R3.c1
    have r3c2 := R3.c2
    have r3c3 := R3.c3
    have r3c4 := R3.c4
    have r3f0 := R3.f0
    have r3f1 := R3.f1
    have r3f2 := R3.f2
    have r3f3 := R3.f3
    have r3f4 := R3.f4
    have r3l := R3.lt
    go_wp2
    refine bodyPost_ret (v := .tuple #[(.agg #[.int .i64 0, .int .i64 0, .int .i64 0, .int .i64 0, .slice none 0 0]), .int .i64 2]) (by simp [results, Tryz.results25, go_sem, *]) rfl ⟨_, _, _, _, _, _, _, _, EA.out, rfl, ?_, ?_⟩
    ·exact SRow.nil _ 1 _ _
    ·exact pkPo0
end Go.Proofs.YtdgophfembpniaaGreatDoor
