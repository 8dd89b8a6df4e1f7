/-
  Contracts of chapter 7's MoverOf in the program and in the model. Conditions: the list's length is below the model's bound, and the program's variable unitMatrix holds the unit.
-/
import Derived.Test.YtngpoaglildbnaaGreatDoorSb7
import Derived.Deep.RegionHeld3
import Derived.IntWalk
namespace Go.Proofs.YtngpoaglildbnaaGreatDoor
open Go.RowKit
set_option linter.unusedSimpArgs false
set_option linter.unusedVariables false

def mvQ (A B C : Int) (u v : V2) (m : M6) : Bool := decide (mv A B C m u = v)
def moB (f A B C : Int) (xs : List M6) (p q r t : Int) : Bool := (cel7 A C p q && cel7 A C r t) && grpB f A B C xs
def moF (A B C : Int) (xs : List M6) (p q r t : Int) : M6 × Int := match xs.find? (mvQ A B C (p, q) (r, t)) with
  | some m => (m, 0)
  | none => ((0, 0, 0, 0, 0, 0), 4)
def moA (f A B C : Int) (xs : List M6) (p q r t : Int) : M6 × Int := bif moB f A B C xs p q r t then moF A B C xs p q r t else ((0, 0, 0, 0, 0, 0), cod6 f A B C false)
theorem mo_bad {f A B C : Int} {xs : List M6} {p q r t : Int} (h : moB f A B C xs p q r t = false) : moA f A B C xs p q r t = ((0, 0, 0, 0, 0, 0), cod6 f A B C false) := by simp [moA, h]
theorem mo_found {f A B C : Int} {xs : List M6} {p q r t : Int} (h : moB f A B C xs p q r t = true) {k : Nat} (hk : k < xs.length) (hq : mvQ A B C (p, q) (r, t) xs[k] = true) (hP : ∀ i (h : i < xs.length), i < k → mvQ A B C (p, q) (r, t) xs[i] = false) : moA f A B C xs p q r t = (xs[k], 0) := by
  have e : xs.find? (mvQ A B C (p, q) (r, t)) = some xs[k] := by
    rw [List.find?_eq_some_iff_getElem]
    exact ⟨hq, k, hk, rfl, fun j hj => by simp [hP j (by omega) hj]⟩
  simp [moA, h, moF, e]
theorem mo_none {f A B C : Int} {xs : List M6} {p q r t : Int} (h : moB f A B C xs p q r t = true) (hP : ∀ i (h : i < xs.length), i < xs.length → mvQ A B C (p, q) (r, t) xs[i] = false) : moA f A B C xs p q r t = ((0, 0, 0, 0, 0, 0), 4) := by
  have e : xs.find? (mvQ A B C (p, q) (r, t)) = none := by
    rw [List.find?_eq_none]
    intro m hm
    obtain ⟨i, hi, rfl⟩ := List.getElem_of_mem hm
    simp [hP i hi hi]
  simp [moA, h, moF, e]
theorem mo_parts {f A B C : Int} {xs : List M6} {p q r t : Int} (h : moB f A B C xs p q r t = true) : grpB f A B C xs = true ∧ celB A C (p, q) = true := by
  unfold moB at h
  rw [Bool.and_eq_true, Bool.and_eq_true] at h
  exact ⟨h.2, by rw [← cel7_eq (grp_good h.2).1]; exact h.1.1⟩
theorem gw_two (f A B C : Int) (xs : List M6) (p q r t : Int) : gwB f A B C xs [(p, q), (r, t)] = moB f A B C xs p q r t := by
  unfold gwB moB
  rcases hg : grpB f A B C xs with _ | _
  · simp
  · rw [cel7_eq (grp_good hg).1, cel7_eq (grp_good hg).1]; simp
theorem SRow.two2 {W : World} {g : Nat} {T : TypeId} {p q r t : Int} (hg : g = W.heap.size) : SRow g (g + 1) 2 (.slice (some ⟨g, 0, none⟩) ([(p, q), (r, t)] : List V2).length 2) ([(p, q), (r, t)] : List V2).length (intAt (cells2 [(p, q), (r, t)])) (W.alloc (.cells #[.int .i64 p, .int .i64 q, .int .i64 r, .int .i64 t] T)) := by
  have h : KR g p q r t (W.alloc (.cells #[.int .i64 p, .int .i64 q, .int .i64 r, .int .i64 t] T)) := KR.at g hg
  refine ⟨by subst hg; simp, by simp, .inr ⟨g, 2, rfl, Nat.le_refl _, by omega, h.lt, fun i hi => ?_⟩⟩
  have hi' : i < 4 := by simpa using hi
  obtain rfl | rfl | rfl | rfl : i = 0 ∨ i = 1 ∨ i = 2 ∨ i = 3 := by omega
  · exact ⟨h.c0, h.f0⟩
  · exact ⟨h.c1, h.f1⟩
  · exact ⟨h.c2, h.f2⟩
  · exact ⟨h.c3, h.f3⟩
theorem KM.frees {R : Nat} {a b c d x y : Int} {W : World} (h : KM R a b c d x y W) : W.frozen? ⟨R, 0, none⟩ = false ∧ W.frozen? ⟨R, 1, none⟩ = false ∧ W.frozen? ⟨R, 2, none⟩ = false ∧ W.frozen? ⟨R, 3, none⟩ = false ∧ W.frozen? ⟨R, 4, none⟩ = false ∧ W.frozen? ⟨R, 5, none⟩ = false := ⟨h.f0, h.f1, h.f2, h.f3, h.f4, h.f5⟩
attribute [local go_sem ↓] eqVe7
set_option maxRecDepth 100000 in
set_option maxHeartbeats 16000000 in
theorem implMover_any {lo hi : Nat} {v : Value} {xs : List M6} {w : World} (f A B C p q r t : Int) (h : SRow lo hi 6 v xs.length (fm xs) w) (hn : xs.length ≤ 1048576) (hU : UnitOK w) :
    Calls Tryz.prog 20 #[.int .i64 f, .agg #[.int .i64 A, .int .i64 B, .int .i64 C], v, .agg #[.int .i64 p, .int .i64 q], .agg #[.int .i64 r, .int .i64 t]] w fun e w' => e = .returned (rdT (moA f A B C xs p q r t)) ∧ Below w.heap.size w w' := by
  have L0 : Kt w.heap.size A B C ((((w.alloc (.cells #[.int .i64 A, .int .i64 B, .int .i64 C] 31)).alloc (.cells #[.int .i64 p, .int .i64 q] 34)).alloc (.cells #[.int .i64 r, .int .i64 t] 34)).alloc (.cells #[.int .i64 0, .int .i64 0, .int .i64 0, .int .i64 0, .int .i64 0, .int .i64 0] 42)) := Kt.alloc (Kt.alloc (Kt.alloc (Kt.at _ rfl) _) _) _
  have U0 : Kg (w.heap.size + 1) p q ((((w.alloc (.cells #[.int .i64 A, .int .i64 B, .int .i64 C] 31)).alloc (.cells #[.int .i64 p, .int .i64 q] 34)).alloc (.cells #[.int .i64 r, .int .i64 t] 34)).alloc (.cells #[.int .i64 0, .int .i64 0, .int .i64 0, .int .i64 0, .int .i64 0, .int .i64 0] 42)) := Kg.alloc (Kg.alloc (Kg.at2 _ (by simp)) _) _
  have V0 : Kg (w.heap.size + 1 + 1) r t ((((w.alloc (.cells #[.int .i64 A, .int .i64 B, .int .i64 C] 31)).alloc (.cells #[.int .i64 p, .int .i64 q] 34)).alloc (.cells #[.int .i64 r, .int .i64 t] 34)).alloc (.cells #[.int .i64 0, .int .i64 0, .int .i64 0, .int .i64 0, .int .i64 0, .int .i64 0] 42)) := Kg.alloc (Kg.at2 _ (by simp)) _
  have R0 : KM (w.heap.size + 1 + 1 + 1) 0 0 0 0 0 0 ((((w.alloc (.cells #[.int .i64 A, .int .i64 B, .int .i64 C] 31)).alloc (.cells #[.int .i64 p, .int .i64 q] 34)).alloc (.cells #[.int .i64 r, .int .i64 t] 34)).alloc (.cells #[.int .i64 0, .int .i64 0, .int .i64 0, .int .i64 0, .int .i64 0, .int .i64 0] 42)) := KM.at _ (by simp)
  have B0 : Below w.heap.size w (((((w.alloc (.cells #[.int .i64 A, .int .i64 B, .int .i64 C] 31)).alloc (.cells #[.int .i64 p, .int .i64 q] 34)).alloc (.cells #[.int .i64 r, .int .i64 t] 34)).alloc (.cells #[.int .i64 0, .int .i64 0, .int .i64 0, .int .i64 0, .int .i64 0, .int .i64 0] 42)).alloc (.cells #[.int .i64 p, .int .i64 q, .int .i64 r, .int .i64 t] 34)) := (((((Below.refl _ _).alloc (Nat.le_refl _) _).alloc (by simp) _).alloc (by simp; omega) _).alloc (by simp; omega) _).alloc (by simp; omega) _
  have A0 : SRow lo hi 6 v xs.length (fm xs) (((((w.alloc (.cells #[.int .i64 A, .int .i64 B, .int .i64 C] 31)).alloc (.cells #[.int .i64 p, .int .i64 q] 34)).alloc (.cells #[.int .i64 r, .int .i64 t] 34)).alloc (.cells #[.int .i64 0, .int .i64 0, .int .i64 0, .int .i64 0, .int .i64 0, .int .i64 0] 42)).alloc (.cells #[.int .i64 p, .int .i64 q, .int .i64 r, .int .i64 t] 34)) := h.grow B0 h.1
  have N0 : UnitOK (((((w.alloc (.cells #[.int .i64 A, .int .i64 B, .int .i64 C] 31)).alloc (.cells #[.int .i64 p, .int .i64 q] 34)).alloc (.cells #[.int .i64 r, .int .i64 t] 34)).alloc (.cells #[.int .i64 0, .int .i64 0, .int .i64 0, .int .i64 0, .int .i64 0, .int .i64 0] 42)).alloc (.cells #[.int .i64 p, .int .i64 q, .int .i64 r, .int .i64 t] 34)) := Kq.call hU B0
  have X0 : SRow (w.heap.size + 1 + 1 + 1 + 1) (w.heap.size + 1 + 1 + 1 + 1 + 1) 2 (.slice (some ⟨w.heap.size + 1 + 1 + 1 + 1, 0, none⟩) 2 2) ([(p, q), (r, t)] : List V2).length (intAt (cells2 [(p, q), (r, t)])) (((((w.alloc (.cells #[.int .i64 A, .int .i64 B, .int .i64 C] 31)).alloc (.cells #[.int .i64 p, .int .i64 q] 34)).alloc (.cells #[.int .i64 r, .int .i64 t] 34)).alloc (.cells #[.int .i64 0, .int .i64 0, .int .i64 0, .int .i64 0, .int .i64 0, .int .i64 0] 42)).alloc (.cells #[.int .i64 p, .int .i64 q, .int .i64 r, .int .i64 t] 34)) := SRow.two2 (by simp)
  have L0c := L0.cells
  have U0c := U0.cells
  have V0c := V0.cells
  have CG0 := groupWithCells_any f A B C A0 hn X0 (by simp) N0
  rw [gw_two] at CG0
  have CG := Lib.hid CG0
  have HW := Lib.hid (show (((((w.alloc (.cells #[.int .i64 A, .int .i64 B, .int .i64 C] 31)).alloc (.cells #[.int .i64 p, .int .i64 q] 34)).alloc (.cells #[.int .i64 r, .int .i64 t] 34)).alloc (.cells #[.int .i64 0, .int .i64 0, .int .i64 0, .int .i64 0, .int .i64 0, .int .i64 0] 42)).alloc (.cells #[.int .i64 p, .int .i64 q, .int .i64 r, .int .i64 t] 34)).heap.size = w.heap.size + 1 + 1 + 1 + 1 + 1 by simp)
  have L1' := Lib.hid (L0.alloc (.cells #[.int .i64 p, .int .i64 q, .int .i64 r, .int .i64 t] 34))
  have U1' := Lib.hid (U0.alloc (.cells #[.int .i64 p, .int .i64 q, .int .i64 r, .int .i64 t] 34))
  have V1' := Lib.hid (V0.alloc (.cells #[.int .i64 p, .int .i64 q, .int .i64 r, .int .i64 t] 34))
  have R1' := Lib.hid (R0.alloc (.cells #[.int .i64 p, .int .i64 q, .int .i64 r, .int .i64 t] 34))
  have HN := Lib.hid hn
  have R0c := R0.cells5
  clear h hn hU A0 N0 X0 CG0
  rcases hg : moB f A B C xs p q r t with _ | _
  · have HV := Lib.hid (mo_bad hg)
    have hc := cod6_nz f A B C
    rw [hg] at CG
    clear hg
    obtain ⟨cc, hcc⟩ : ∃ cc, cc = cod6 f A B C false := ⟨_, rfl⟩
    rw [← hcc] at hc HV
    unfold GwPost at CG
    rw [← hcc] at CG
    have EA := Lib.hid (ret_val (show .tuple #[.agg #[.int .i64 0, .int .i64 0, .int .i64 0, .int .i64 0, .int .i64 0, .int .i64 0], .int .i64 cc] = rdT (moA f A B C xs p q r t) by rw [HV.out]; rfl))
    clear hcc
    go_enter Tryz.func20, Tryz.ntmps20
    go_wp2_with fail
    refine CG.out.mono ?_
    rintro e w1 ⟨v1, rfl, _, hv, hb1⟩
    have hv1 := hv (by first | rfl | trivial)
    subst hv1
    have B1 := bstep B0 hb1
    have R1 := R1'.out.call hb1
    clear hv hb1 B0 L0 L0c U0 U0c V0 V0c R0 R0c CG L1' U1' V1' R1' HW
    have R1c := R1.cells5
    have ⟨fR1c0, fR1c1, fR1c2, fR1c3, fR1c4, fR1c5⟩ := R1.frees
    have R1l := R1.lt
    have R1n : ¬ w.heap.size + 1 + 1 + 1 = w1.heap.size := by omega
    go_wp2
    refine bodyPost_ret (v := .tuple #[.agg #[.int .i64 0, .int .i64 0, .int .i64 0, .int .i64 0, .int .i64 0, .int .i64 0], .int .i64 cc]) (by simp [results, Tryz.results20, go_sem, *]) rfl ⟨EA.out, by repeat (first | with_reducible assumption | with_reducible exact Below.refl _ _ | with_reducible refine Below.setCell ?_ (by first | omega | (simp <;> omega)) _ | with_reducible refine Below.alloc ?_ (by first | omega | (simp <;> omega)) _ | with_reducible refine bstep ?_ (by with_reducible assumption) | with_reducible refine Below.drew ?_ | with_reducible refine below_drewN ?_ _)⟩
  obtain ⟨hgr, hcl⟩ := mo_parts hg
  have HB := Lib.hid hg
  have HG := Lib.hid hgr
  have HCL := Lib.hid hcl
  have HC := Lib.hid (cod6_ok hgr)
  rw [hg] at CG
  clear hg hgr hcl
  unfold GwPost at CG
  rw [HC.out] at CG
  go_enter Tryz.func20, Tryz.ntmps20
  go_wp2_with fail
  refine CG.out.mono ?_
  rintro e w1 ⟨v1, rfl, hr, _, hb1⟩
  have O1 := hr (by first | rfl | trivial)
  have S1 := SRow.big6 O1 HN.out
  have HS := Lib.hid S1
  have H768 := Lib.hid (grp_len HG.out)
  have h7 : (xs.length : Int) ≤ 768 := by have := H768.out; omega
  obtain ⟨ao, cap1, rfl⟩ := srow_shape S1
  have B1 := bstep B0 hb1
  have L1 := L1'.out.call hb1
  have U1 := U1'.out.call hb1
  have V1 := V1'.out.call hb1
  have R1 := R1'.out.call hb1
  have z1 : w.heap.size + 1 + 1 + 1 + 1 + 1 ≤ w1.heap.size := by have := hb1.size; rw [HW.out] at this; exact this
  clear hr hb1 B0 L0 L0c U0 U0c V0 V0c R0 R0c CG L1' U1' V1' R1' HW O1 S1
  go_wp2_with fail
  go_loopw [32] (fun s32 W => ∃ k : Nat, s32 = .int .i64 (k : Int) ∧ k ≤ xs.length ∧ (∀ i (h : i < xs.length), i < k → mvQ A B C (p, q) (r, t) xs[i] = false) ∧ Below w1.heap.size w1 W) (fun s32 _ => xs.length - (intOf s32).toNat)
  case atStart => exact ⟨0, rfl, by omega, fun i _ h => by omega, Below.refl _ _⟩
  case round =>
    obtain ⟨k, rfl, hk, hP, hB⟩ := hrel
    by_cases hk1 : k < xs.length
    ·   have HF : Hid (mvQ A B C (p, q) (r, t) xs[k] = true → moA f A B C xs p q r t = (xs[k], 0)) := Lib.hid (fun h => mo_found HB.out hk1 h hP)
        have HN2 : Hid (mvQ A B C (p, q) (r, t) xs[k] = false → ∀ i (h : i < xs.length), i < k + 1 → mvQ A B C (p, q) (r, t) xs[i] = false) := Lib.hid (fun h i hi hik => by
          by_cases e : i = k
          · subst e; exact h
          · exact hP i hi (by omega))
        have HMEM := Lib.hid ((grp_ok HG.out).2.1 xs[k] (List.getElem_mem hk1))
        have hk2 : (k : Int) < (xs.length : Int) := by omega
        have hk3 : (k : Int) ≤ 768 := by omega
        have hres := HS.out.2.2.resolve_left (fun h => by omega)
        have hhi := HS.out.1
        obtain ⟨g, cap', e9, _, hg, RA⟩ := hres
        simp only [Value.slice.injEq, true_and] at e9
        obtain ⟨rfl, rfl⟩ := e9
        have q1 := (RA.grow hB (by omega)).mo k hk1
        have HT := Lib.hid (show xs.take (k + 1) = xs.take k ++ [xs[k]] from List.take_succ_eq_append_getElem hk1)
        have HTL := Lib.hid (show (xs.take k).length ≤ 768 by rw [List.length_take]; omega)
        have HK := Lib.hid hk1
        clear RA hg hhi hk
        generalize xs[k] = m at q1 HT HF HN2 HMEM
        clear hk1
        obtain ⟨a, b, c, d, x, y⟩ := m
        dsimp only at q1
        obtain ⟨hl, hli, hv, hp, hx, hy⟩ := mv_mid HMEM.out.1 HMEM.out.2 HCL.out
        have CT : Hid (∀ W, Calls Tryz.prog 50 #[.agg #[.int .i64 A, .int .i64 B, .int .i64 C], .agg #[.int .i64 a, .int .i64 b, .int .i64 c, .int .i64 d, .int .i64 x, .int .i64 y], .agg #[.int .i64 p, .int .i64 q]] W fun e w' => e = .returned (.agg #[.int .i64 (redX A B C (a * p + b * q + x) (c * p + d * q + y)), .int .i64 (redY C (c * p + d * q + y))]) ∧ Below W.heap.size W w') := Lib.hid (fun W => taken_any A B C a b c d x y p q W hl hli hv hp hx hy)
        have HE : Hid (eqV2 (redX A B C (a * p + b * q + x) (c * p + d * q + y)) (redY C (c * p + d * q + y)) r t = mvQ A B C (p, q) (r, t) (a, b, c, d, x, y)) := Lib.hid (eqV2_dec (redX A B C (a * p + b * q + x) (c * p + d * q + y), redY C (c * p + d * q + y)) (r, t))
        clear hl hli hv hp hx hy HMEM HTL
        generalize redX A B C (a * p + b * q + x) (c * p + d * q + y) = rx at CT HE
        generalize redY C (c * p + d * q + y) = ry at CT HE
        generalize mvQ A B C (p, q) (r, t) (a, b, c, d, x, y) = dd at HE HF HN2
        have M3 : Km wr.heap.size a b c d x y (wr.alloc (.cells #[.int .i64 a, .int .i64 b, .int .i64 c, .int .i64 d, .int .i64 x, .int .i64 y] 78)) := Km.at _ rfl
        have L3 := (L1.call hB).alloc (.cells #[.int .i64 a, .int .i64 b, .int .i64 c, .int .i64 d, .int .i64 x, .int .i64 y] 78)
        have U3 := (U1.call hB).alloc (.cells #[.int .i64 a, .int .i64 b, .int .i64 c, .int .i64 d, .int .i64 x, .int .i64 y] 78)
        have V3 := (V1.call hB).alloc (.cells #[.int .i64 a, .int .i64 b, .int .i64 c, .int .i64 d, .int .i64 x, .int .i64 y] 78)
        have R3 := (R1.call hB).alloc (.cells #[.int .i64 a, .int .i64 b, .int .i64 c, .int .i64 d, .int .i64 x, .int .i64 y] 78)
        have B3 : Below w.heap.size w (wr.alloc (.cells #[.int .i64 a, .int .i64 b, .int .i64 c, .int .i64 d, .int .i64 x, .int .i64 y] 78)) := (B1.trans (hB.mono (by omega))).alloc (by have := hB.size; omega) _
        have B4 : Below w1.heap.size w1 (wr.alloc (.cells #[.int .i64 a, .int .i64 b, .int .i64 c, .int .i64 d, .int .i64 x, .int .i64 y] 78)) := hB.alloc hB.size _
        have hgl := ko_lt q1
        have zB := hB.size
        have q1c := q1.cells
        have L3c := L3.cells
        have U3c := U3.cells
        have V3c := V3.cells
        have M3c := M3.cells
        have BS3 := Lib.hid B3
        have BS4 := Lib.hid B4
        clear hB hP
        rcases dd with _ | _
        all_goals
          have he := HE.out
          go_wp2_with fail
          go_region_held3 (fun W => (W.cell? ⟨w.heap.size, 0, none⟩ = some (.int .i64 A) ∧ W.cell? ⟨w.heap.size, 1, none⟩ = some (.int .i64 B) ∧ W.cell? ⟨w.heap.size, 2, none⟩ = some (.int .i64 C)) ∧ (W.cell? ⟨w.heap.size + 1, 0, none⟩ = some (.int .i64 p) ∧ W.cell? ⟨w.heap.size + 1, 1, none⟩ = some (.int .i64 q)) ∧ (W.cell? ⟨w.heap.size + 1 + 1, 0, none⟩ = some (.int .i64 r) ∧ W.cell? ⟨w.heap.size + 1 + 1, 1, none⟩ = some (.int .i64 t)) ∧ (W.cell? ⟨wr.heap.size, 0, none⟩ = some (.int .i64 a) ∧ W.cell? ⟨wr.heap.size, 1, none⟩ = some (.int .i64 b) ∧ W.cell? ⟨wr.heap.size, 2, none⟩ = some (.int .i64 c) ∧ W.cell? ⟨wr.heap.size, 3, none⟩ = some (.int .i64 d) ∧ W.cell? ⟨wr.heap.size, 4, none⟩ = some (.int .i64 x) ∧ W.cell? ⟨wr.heap.size, 5, none⟩ = some (.int .i64 y))) ((refine ⟨Kt.cells ?_, Kg.cells ?_, Kg.cells ?_, Km.cells ?_⟩) <;> repeat (first | with_reducible assumption | with_reducible refine Kt.drew ?_ | with_reducible refine Kt.alloc ?_ _ | with_reducible refine Kt.call ?_ (by with_reducible assumption) | with_reducible refine Kg.drew ?_ | with_reducible refine Kg.alloc ?_ _ | with_reducible refine Kg.call ?_ (by with_reducible assumption) | with_reducible refine Km.drew ?_ | with_reducible refine Km.alloc ?_ _ | with_reducible refine Km.call ?_ (by with_reducible assumption) | with_reducible refine KM.drew ?_ | with_reducible refine KM.alloc ?_ _ | with_reducible refine KM.call ?_ (by with_reducible assumption) | with_reducible refine Ko6.drew ?_ | with_reducible refine Ko6.alloc ?_ _ | with_reducible refine Ko6.call ?_ (by with_reducible assumption)))
            (first
              | (go_at_call 50; with_reducible refine (CT.out _).mono ?_; rintro e u5 ⟨rfl, hb5⟩; have L5 : Kt w.heap.size A B C u5 := (by repeat (first | with_reducible assumption | with_reducible refine Kt.drew ?_ | with_reducible refine Kt.alloc ?_ _ | with_reducible refine Kt.call ?_ (by with_reducible assumption) | with_reducible refine Kg.drew ?_ | with_reducible refine Kg.alloc ?_ _ | with_reducible refine Kg.call ?_ (by with_reducible assumption) | with_reducible refine Km.drew ?_ | with_reducible refine Km.alloc ?_ _ | with_reducible refine Km.call ?_ (by with_reducible assumption) | with_reducible refine KM.drew ?_ | with_reducible refine KM.alloc ?_ _ | with_reducible refine KM.call ?_ (by with_reducible assumption) | with_reducible refine Ko6.drew ?_ | with_reducible refine Ko6.alloc ?_ _ | with_reducible refine Ko6.call ?_ (by with_reducible assumption))); have U5 : Kg (w.heap.size + 1) p q u5 := (by repeat (first | with_reducible assumption | with_reducible refine Kt.drew ?_ | with_reducible refine Kt.alloc ?_ _ | with_reducible refine Kt.call ?_ (by with_reducible assumption) | with_reducible refine Kg.drew ?_ | with_reducible refine Kg.alloc ?_ _ | with_reducible refine Kg.call ?_ (by with_reducible assumption) | with_reducible refine Km.drew ?_ | with_reducible refine Km.alloc ?_ _ | with_reducible refine Km.call ?_ (by with_reducible assumption) | with_reducible refine KM.drew ?_ | with_reducible refine KM.alloc ?_ _ | with_reducible refine KM.call ?_ (by with_reducible assumption) | with_reducible refine Ko6.drew ?_ | with_reducible refine Ko6.alloc ?_ _ | with_reducible refine Ko6.call ?_ (by with_reducible assumption))); have V5 : Kg (w.heap.size + 1 + 1) r t u5 := (by repeat (first | with_reducible assumption | with_reducible refine Kt.drew ?_ | with_reducible refine Kt.alloc ?_ _ | with_reducible refine Kt.call ?_ (by with_reducible assumption) | with_reducible refine Kg.drew ?_ | with_reducible refine Kg.alloc ?_ _ | with_reducible refine Kg.call ?_ (by with_reducible assumption) | with_reducible refine Km.drew ?_ | with_reducible refine Km.alloc ?_ _ | with_reducible refine Km.call ?_ (by with_reducible assumption) | with_reducible refine KM.drew ?_ | with_reducible refine KM.alloc ?_ _ | with_reducible refine KM.call ?_ (by with_reducible assumption) | with_reducible refine Ko6.drew ?_ | with_reducible refine Ko6.alloc ?_ _ | with_reducible refine Ko6.call ?_ (by with_reducible assumption))); have M5 : Km wr.heap.size a b c d x y u5 := (by repeat (first | with_reducible assumption | with_reducible refine Kt.drew ?_ | with_reducible refine Kt.alloc ?_ _ | with_reducible refine Kt.call ?_ (by with_reducible assumption) | with_reducible refine Kg.drew ?_ | with_reducible refine Kg.alloc ?_ _ | with_reducible refine Kg.call ?_ (by with_reducible assumption) | with_reducible refine Km.drew ?_ | with_reducible refine Km.alloc ?_ _ | with_reducible refine Km.call ?_ (by with_reducible assumption) | with_reducible refine KM.drew ?_ | with_reducible refine KM.alloc ?_ _ | with_reducible refine KM.call ?_ (by with_reducible assumption) | with_reducible refine Ko6.drew ?_ | with_reducible refine Ko6.alloc ?_ _ | with_reducible refine Ko6.call ?_ (by with_reducible assumption))); have R5 : KM (w.heap.size + 1 + 1 + 1) 0 0 0 0 0 0 u5 := (by repeat (first | with_reducible assumption | with_reducible refine Kt.drew ?_ | with_reducible refine Kt.alloc ?_ _ | with_reducible refine Kt.call ?_ (by with_reducible assumption) | with_reducible refine Kg.drew ?_ | with_reducible refine Kg.alloc ?_ _ | with_reducible refine Kg.call ?_ (by with_reducible assumption) | with_reducible refine Km.drew ?_ | with_reducible refine Km.alloc ?_ _ | with_reducible refine Km.call ?_ (by with_reducible assumption) | with_reducible refine KM.drew ?_ | with_reducible refine KM.alloc ?_ _ | with_reducible refine KM.call ?_ (by with_reducible assumption) | with_reducible refine Ko6.drew ?_ | with_reducible refine Ko6.alloc ?_ _ | with_reducible refine Ko6.call ?_ (by with_reducible assumption))); have B6 : Below w1.heap.size w1 u5 := (by repeat (first | with_reducible assumption | with_reducible exact Below.refl _ _ | with_reducible refine Below.drew ?_ | with_reducible refine below_drewN ?_ _ | with_reducible refine Below.alloc ?_ (by first | omega | (simp <;> omega)) _ | with_reducible refine bstep ?_ (by with_reducible assumption))); have B5 : Below w.heap.size w u5 := (by repeat (first | with_reducible assumption | with_reducible exact Below.refl _ _ | with_reducible refine Below.drew ?_ | with_reducible refine below_drewN ?_ _ | with_reducible refine Below.alloc ?_ (by first | omega | (simp <;> omega)) _ | with_reducible refine bstep ?_ (by with_reducible assumption)))))
        · clear L3 U3 V3 M3 R3 B3 B4 q1 q1c L3c U3c V3c M3c hb5
          go_wp2
          go_roundw
          case rel => exact ⟨k + 1, by go_num, by have := HK.out; omega, HN2.out (by first | rfl | trivial), by repeat (first | with_reducible assumption | with_reducible exact Below.refl _ _ | with_reducible refine Below.drew ?_ | with_reducible refine below_drewN ?_ _ | with_reducible refine Below.alloc ?_ (by first | omega | (simp <;> omega)) _ | with_reducible refine bstep ?_ (by with_reducible assumption))⟩
          case measure => (have := HK.out); first | (simp [intOf]; done) | (simp [intOf]; omega)

        · have EA := Lib.hid (ret_val (show .tuple #[.agg #[.int .i64 a, .int .i64 b, .int .i64 c, .int .i64 d, .int .i64 x, .int .i64 y], .int .i64 0] = rdT (moA f A B C xs p q r t) by rw [HF.out (by first | rfl | trivial)]; rfl))
          have M5c := M5.cells
          have M5l := M5.1
          clear L3 U3 V3 M3 R3 B3 B4 q1 q1c L3c U3c V3c M3c hb5
          go_wp2_with fail
          refine (asMo_any _ _ _ _ _ _ _).mono ?_
          rintro e w6 ⟨rfl, hb6⟩
          have R6 : KM (w.heap.size + 1 + 1 + 1) 0 0 0 0 0 0 w6 := (by repeat (first | with_reducible assumption | with_reducible refine Kt.drew ?_ | with_reducible refine Kt.alloc ?_ _ | with_reducible refine Kt.call ?_ (by with_reducible assumption) | with_reducible refine Kg.drew ?_ | with_reducible refine Kg.alloc ?_ _ | with_reducible refine Kg.call ?_ (by with_reducible assumption) | with_reducible refine Km.drew ?_ | with_reducible refine Km.alloc ?_ _ | with_reducible refine Km.call ?_ (by with_reducible assumption) | with_reducible refine KM.drew ?_ | with_reducible refine KM.alloc ?_ _ | with_reducible refine KM.call ?_ (by with_reducible assumption) | with_reducible refine Ko6.drew ?_ | with_reducible refine Ko6.alloc ?_ _ | with_reducible refine Ko6.call ?_ (by with_reducible assumption)))
          have B7 : Below w.heap.size w w6 := (by repeat (first | with_reducible assumption | with_reducible exact Below.refl _ _ | with_reducible refine Below.drew ?_ | with_reducible refine below_drewN ?_ _ | with_reducible refine Below.alloc ?_ (by first | omega | (simp <;> omega)) _ | with_reducible refine bstep ?_ (by with_reducible assumption)))
          have R6c := R6.cells5
          have ⟨fR6c0, fR6c1, fR6c2, fR6c3, fR6c4, fR6c5⟩ := R6.frees
          have R6l := R6.lt
          clear M5c M5l M5 L5 U5 V5 R5 B5 B6 hb6
          go_wp2
          refine bodyPost_ret (v := .tuple #[.agg #[.int .i64 a, .int .i64 b, .int .i64 c, .int .i64 d, .int .i64 x, .int .i64 y], .int .i64 0]) (by simp [results, Tryz.results20, go_sem, *]) rfl ⟨EA.out, by repeat (first | with_reducible assumption | with_reducible exact Below.refl _ _ | with_reducible refine Below.setCell ?_ (by first | omega | (simp <;> omega)) _ | with_reducible refine Below.alloc ?_ (by first | omega | (simp <;> omega)) _ | with_reducible refine bstep ?_ (by with_reducible assumption) | with_reducible refine Below.drew ?_ | with_reducible refine below_drewN ?_ _)⟩
    · obtain rfl : k = xs.length := by omega
      have HV := Lib.hid (mo_none HB.out (fun i hi _ => hP i hi hi))
      have EA := Lib.hid (ret_val (show .tuple #[.agg #[.int .i64 0, .int .i64 0, .int .i64 0, .int .i64 0, .int .i64 0, .int .i64 0], .int .i64 4] = rdT (moA f A B C xs p q r t) by rw [HV.out]; rfl))
      have R6 := R1.call hB
      have B7 : Below w.heap.size w wr := B1.trans (hB.mono (by omega))
      have R6c := R6.cells5
      have ⟨fR6c0, fR6c1, fR6c2, fR6c3, fR6c4, fR6c5⟩ := R6.frees
      have R6l := R6.lt
      clear hk hk1 hP hB L1 U1 V1 R1 B1
      go_wp2
      refine bodyPost_ret (v := .tuple #[.agg #[.int .i64 0, .int .i64 0, .int .i64 0, .int .i64 0, .int .i64 0, .int .i64 0], .int .i64 4]) (by simp [results, Tryz.results20, go_sem, *]) rfl ⟨EA.out, by repeat (first | with_reducible assumption | with_reducible exact Below.refl _ _ | with_reducible refine Below.setCell ?_ (by first | omega | (simp <;> omega)) _ | with_reducible refine Below.alloc ?_ (by first | omega | (simp <;> omega)) _ | with_reducible refine bstep ?_ (by with_reducible assumption) | with_reducible refine Below.drew ?_ | with_reducible refine below_drewN ?_ _)⟩

set_option maxRecDepth 100000 in
set_option maxHeartbeats 16000000 in
theorem specMover_any {lo hi : Nat} {v : Value} {xs : List M6} {w : World} (f A B C p q r t : Int) (h : SRow lo hi 6 v xs.length (fm xs) w) (hn : xs.length ≤ 1048576) :
    Calls Tryz.prog 19 #[.int .i64 f, .agg #[.int .i64 A, .int .i64 B, .int .i64 C], v, .agg #[.int .i64 p, .int .i64 q], .agg #[.int .i64 r, .int .i64 t]] w fun e w' => e = .returned (rdT (moA f A B C xs p q r t)) ∧ Below w.heap.size w w' := by
  have HN := Lib.hid hn
  have HA := Lib.hid h
  have L0 : Kt w.heap.size A B C ((((w.alloc (.cells #[.int .i64 A, .int .i64 B, .int .i64 C] 31)).alloc (.cells #[.int .i64 p, .int .i64 q] 34)).alloc (.cells #[.int .i64 r, .int .i64 t] 34)).alloc (.cells #[.int .i64 0, .int .i64 0, .int .i64 0, .int .i64 0, .int .i64 0, .int .i64 0] 42)) := Kt.alloc (Kt.alloc (Kt.alloc (Kt.at _ rfl) _) _) _
  have U0 : Kg (w.heap.size + 1) p q ((((w.alloc (.cells #[.int .i64 A, .int .i64 B, .int .i64 C] 31)).alloc (.cells #[.int .i64 p, .int .i64 q] 34)).alloc (.cells #[.int .i64 r, .int .i64 t] 34)).alloc (.cells #[.int .i64 0, .int .i64 0, .int .i64 0, .int .i64 0, .int .i64 0, .int .i64 0] 42)) := Kg.alloc (Kg.alloc (Kg.at2 _ (by simp)) _) _
  have V0 : Kg (w.heap.size + 1 + 1) r t ((((w.alloc (.cells #[.int .i64 A, .int .i64 B, .int .i64 C] 31)).alloc (.cells #[.int .i64 p, .int .i64 q] 34)).alloc (.cells #[.int .i64 r, .int .i64 t] 34)).alloc (.cells #[.int .i64 0, .int .i64 0, .int .i64 0, .int .i64 0, .int .i64 0, .int .i64 0] 42)) := Kg.alloc (Kg.at2 _ (by simp)) _
  have R0 : KM (w.heap.size + 1 + 1 + 1) 0 0 0 0 0 0 ((((w.alloc (.cells #[.int .i64 A, .int .i64 B, .int .i64 C] 31)).alloc (.cells #[.int .i64 p, .int .i64 q] 34)).alloc (.cells #[.int .i64 r, .int .i64 t] 34)).alloc (.cells #[.int .i64 0, .int .i64 0, .int .i64 0, .int .i64 0, .int .i64 0, .int .i64 0] 42)) := KM.at _ (by simp)
  have B0 : Below w.heap.size w ((((w.alloc (.cells #[.int .i64 A, .int .i64 B, .int .i64 C] 31)).alloc (.cells #[.int .i64 p, .int .i64 q] 34)).alloc (.cells #[.int .i64 r, .int .i64 t] 34)).alloc (.cells #[.int .i64 0, .int .i64 0, .int .i64 0, .int .i64 0, .int .i64 0, .int .i64 0] 42)) := ((((Below.refl _ _).alloc (Nat.le_refl _) _).alloc (by simp) _).alloc (by simp; omega) _).alloc (by simp; omega) _
  have L0c := L0.cells
  have U0c := U0.cells
  have V0c := V0.cells
  have C1 := Lib.hid (fun W => l07Cell_any A B C p q W)
  have C2 := Lib.hid (fun W => l07Cell_any A B C r t W)
  have CC : Hid (∀ W, Below w.heap.size w W → Calls Tryz.prog 41 #[.int .i64 f, .agg #[.int .i64 A, .int .i64 B, .int .i64 C], v, .bool (cel7 A C p q && cel7 A C r t)] W fun e w' => e = .returned (.int .i64 (cod6 f A B C (moB f A B C xs p q r t))) ∧ Below W.heap.size W w') := Lib.hid (fun W hW => l07Code_any f A B C (cel7 A C p q && cel7 A C r t) (HA.out.grow hW HA.out.1) HN.out)
  obtain ⟨ao, cap, rfl⟩ := srow_shape h
  clear h hn
  rcases hg : moB f A B C xs p q r t with _ | _
  · have HV := Lib.hid (mo_bad hg)
    have hc := cod6_nz f A B C
    rw [hg] at CC
    clear hg
    obtain ⟨cc, hcc⟩ : ∃ cc, cc = cod6 f A B C false := ⟨_, rfl⟩
    rw [← hcc] at hc HV CC
    have EA := Lib.hid (ret_val (show .tuple #[.agg #[.int .i64 0, .int .i64 0, .int .i64 0, .int .i64 0, .int .i64 0, .int .i64 0], .int .i64 cc] = rdT (moA f A B C xs p q r t) by rw [HV.out]; rfl))
    clear hcc
    rcases h1 : cel7 A C p q with _ | _
    · rw [h1] at C1 CC
      simp only [Bool.false_and] at CC
      clear C2 h1
      go_enter Tryz.func19, Tryz.ntmps19
      go_wp2_with fail
      refine wp_region_held_drew (S := (fun W => (W.cell? ⟨w.heap.size, 0, none⟩ = some (.int .i64 A) ∧ W.cell? ⟨w.heap.size, 1, none⟩ = some (.int .i64 B) ∧ W.cell? ⟨w.heap.size, 2, none⟩ = some (.int .i64 C)) ∧ (W.cell? ⟨w.heap.size + 1, 0, none⟩ = some (.int .i64 p) ∧ W.cell? ⟨w.heap.size + 1, 1, none⟩ = some (.int .i64 q)) ∧ (W.cell? ⟨w.heap.size + 1 + 1, 0, none⟩ = some (.int .i64 r) ∧ W.cell? ⟨w.heap.size + 1 + 1, 1, none⟩ = some (.int .i64 t)))) (by kernel_rfl) ?_ (fun hHeld => ?_)
      · exact ⟨L0.cells, U0.cells, V0.cells⟩
      refine wpAnyH_take (i := 0) (v := ?_) (by (simp only [List.getElem?_toArray, List.getElem?_cons_succ, List.getElem?_cons_zero]); rfl) (by kernel_rfl) (by kernel_rfl) (by kernel_rfl) (by exact fun _ _ _ h => h) (Or.inl ⟨by rfl, ?_⟩) (by assumption) ?_
      rotate_left 1
      · (intro w hSw; (try dsimp only at hSw); go_simp) <;> with_reducible rfl
      (try simp only [Act.put, List.setIfInBounds_toArray, List.set_cons_zero, List.set_cons_succ])
      refine wpAnyH_take (i := 1) (v := ?_) (by (simp only [List.getElem?_toArray, List.getElem?_cons_succ, List.getElem?_cons_zero]); rfl) (by kernel_rfl) (by kernel_rfl) (by kernel_rfl) (by exact fun _ _ _ h => h) (Or.inl ⟨by rfl, ?_⟩) (by assumption) ?_
      rotate_left 1
      · (intro w hSw; (try dsimp only at hSw); go_simp) <;> with_reducible rfl
      (try simp only [Act.put, List.setIfInBounds_toArray, List.set_cons_zero, List.set_cons_succ])
      refine wpAnyH_take (i := 2) (v := ?_) (by (simp only [List.getElem?_toArray, List.getElem?_cons_succ, List.getElem?_cons_zero]); rfl) (by kernel_rfl) (by kernel_rfl) (by kernel_rfl) (by exact fun _ _ _ h => h) (Or.inl ⟨by rfl, ?_⟩) (by assumption) ?_
      rotate_left 1
      · (intro w hSw; (try dsimp only at hSw); go_simp) <;> with_reducible rfl
      (try simp only [Act.put, List.setIfInBounds_toArray, List.set_cons_zero, List.set_cons_succ])
      refine wpAnyH_take (i := 3) (v := ?_) (by (simp only [List.getElem?_toArray, List.getElem?_cons_succ, List.getElem?_cons_zero]); rfl) (by kernel_rfl) (by kernel_rfl) (by kernel_rfl) (by exact fun _ _ _ h => h) (Or.inl ⟨by rfl, ?_⟩) (by assumption) ?_
      rotate_left 1
      · (intro w hSw; (try dsimp only at hSw); go_simp) <;> with_reducible rfl
      (try simp only [Act.put, List.setIfInBounds_toArray, List.set_cons_zero, List.set_cons_succ])
      refine wpAnyH_take (i := 4) (v := ?_) (by (simp only [List.getElem?_toArray, List.getElem?_cons_succ, List.getElem?_cons_zero]); rfl) (by kernel_rfl) (by kernel_rfl) (by kernel_rfl) (by exact fun _ _ _ h => h) (Or.inl ⟨by rfl, ?_⟩) (by assumption) ?_
      rotate_left 1
      · (intro w hSw; (try dsimp only at hSw); go_simp) <;> with_reducible rfl
      (try simp only [Act.put, List.setIfInBounds_toArray, List.set_cons_zero, List.set_cons_succ])
      refine wpAnyH_ready (rs := [5]) (by kernel_rfl) (by simp) ?_
      refine AllReadyH.cons (o := _) (by (simp only [List.getElem?_toArray, List.getElem?_cons_succ, List.getElem?_cons_zero]); rfl) (fun K hK => ?_) AllReadyH.nil
      go_simp
      go_at_call 42
      refine (C1.out _).mono ?_
      rintro e u1 ⟨rfl, hb1⟩
      have L1 : Kt (w.heap.size) A B C u1 := (by repeat (first | with_reducible assumption | with_reducible refine KM.drew ?_ | with_reducible refine KM.alloc ?_ _ | with_reducible refine KM.call ?_ (by with_reducible assumption) | with_reducible refine Kg.drew ?_ | with_reducible refine Kg.alloc ?_ _ | with_reducible refine Kg.call ?_ (by with_reducible assumption) | with_reducible refine Kt.drew ?_ | with_reducible refine Kt.alloc ?_ _ | with_reducible refine Kt.call ?_ (by with_reducible assumption)))
      have U1 : Kg (w.heap.size + 1) p q u1 := (by repeat (first | with_reducible assumption | with_reducible refine KM.drew ?_ | with_reducible refine KM.alloc ?_ _ | with_reducible refine KM.call ?_ (by with_reducible assumption) | with_reducible refine Kg.drew ?_ | with_reducible refine Kg.alloc ?_ _ | with_reducible refine Kg.call ?_ (by with_reducible assumption) | with_reducible refine Kt.drew ?_ | with_reducible refine Kt.alloc ?_ _ | with_reducible refine Kt.call ?_ (by with_reducible assumption)))
      have V1 : Kg (w.heap.size + 1 + 1) r t u1 := (by repeat (first | with_reducible assumption | with_reducible refine KM.drew ?_ | with_reducible refine KM.alloc ?_ _ | with_reducible refine KM.call ?_ (by with_reducible assumption) | with_reducible refine Kg.drew ?_ | with_reducible refine Kg.alloc ?_ _ | with_reducible refine Kg.call ?_ (by with_reducible assumption) | with_reducible refine Kt.drew ?_ | with_reducible refine Kt.alloc ?_ _ | with_reducible refine Kt.call ?_ (by with_reducible assumption)))
      have R1 : KM (w.heap.size + 1 + 1 + 1) 0 0 0 0 0 0 u1 := (by repeat (first | with_reducible assumption | with_reducible refine KM.drew ?_ | with_reducible refine KM.alloc ?_ _ | with_reducible refine KM.call ?_ (by with_reducible assumption) | with_reducible refine Kg.drew ?_ | with_reducible refine Kg.alloc ?_ _ | with_reducible refine Kg.call ?_ (by with_reducible assumption) | with_reducible refine Kt.drew ?_ | with_reducible refine Kt.alloc ?_ _ | with_reducible refine Kt.call ?_ (by with_reducible assumption)))
      have B1 : Below w.heap.size w u1 := (by repeat (first | with_reducible assumption | with_reducible refine Below.drew ?_ | with_reducible refine bstep ?_ (by with_reducible assumption)))
      clear hb1
      go_wp2_with fail
      refine hK.out _ _ ?_ (fun hHeld => ?_)
      · (try dsimp only)
        exact ⟨L1.cells, U1.cells, V1.cells⟩
      clear hK K
      (try simp only [Act.put, List.setIfInBounds_toArray, List.set_cons_zero, List.set_cons_succ])
      refine wpAnyH_take (i := 6) (v := ?_) (by (simp only [List.getElem?_toArray, List.getElem?_cons_succ, List.getElem?_cons_zero]); rfl) (by kernel_rfl) (by kernel_rfl) (by kernel_rfl) (by exact fun _ _ _ h => h) (Or.inl ⟨by rfl, ?_⟩) (by assumption) ?_
      rotate_left 1
      · (intro w hSw; (try dsimp only at hSw); go_simp) <;> with_reducible rfl
      (try simp only [Act.put, List.setIfInBounds_toArray, List.set_cons_zero, List.set_cons_succ])
      refine wpAnyH_take (i := 7) (v := undef) (by (simp only [List.getElem?_toArray, List.getElem?_cons_succ, List.getElem?_cons_zero]); rfl) (by kernel_rfl) (by kernel_rfl) (by kernel_rfl) (by exact fun _ _ _ h => h) (Or.inr ⟨by rfl, rfl⟩) (by assumption) ?_
      (try simp only [Act.put, List.setIfInBounds_toArray, List.set_cons_zero, List.set_cons_succ])
      refine wpAnyH_take (i := 8) (v := undef) (by (simp only [List.getElem?_toArray, List.getElem?_cons_succ, List.getElem?_cons_zero]); rfl) (by kernel_rfl) (by kernel_rfl) (by kernel_rfl) (by exact fun _ _ _ h => h) (Or.inr ⟨by rfl, rfl⟩) (by assumption) ?_
      (try simp only [Act.put, List.setIfInBounds_toArray, List.set_cons_zero, List.set_cons_succ])
      refine wpAnyH_take (i := 9) (v := undef) (by (simp only [List.getElem?_toArray, List.getElem?_cons_succ, List.getElem?_cons_zero]); rfl) (by kernel_rfl) (by kernel_rfl) (by kernel_rfl) (by exact fun _ _ _ h => h) (Or.inr ⟨by rfl, rfl⟩) (by assumption) ?_
      (try simp only [Act.put, List.setIfInBounds_toArray, List.set_cons_zero, List.set_cons_succ])
      refine wpAnyH_take (i := 10) (v := ?_) (by (simp only [List.getElem?_toArray, List.getElem?_cons_succ, List.getElem?_cons_zero]); rfl) (by kernel_rfl) (by kernel_rfl) (by kernel_rfl) (by exact fun _ _ _ h => h) (Or.inl ⟨by rfl, ?_⟩) (by assumption) ?_
      rotate_left 1
      · (intro w hSw; (try dsimp only at hSw); go_simp) <;> with_reducible rfl
      (try simp only [Act.put, List.setIfInBounds_toArray, List.set_cons_zero, List.set_cons_succ])
      refine wpAnyH_ready (rs := [11]) (by kernel_rfl) (by simp) ?_
      refine AllReadyH.cons (o := _) (by (simp only [List.getElem?_toArray, List.getElem?_cons_succ, List.getElem?_cons_zero]); rfl) (fun K hK => ?_) AllReadyH.nil
      go_simp
      go_at_call 41
      refine (CC.out _ (by repeat (first | with_reducible assumption | with_reducible exact Below.refl _ _ | with_reducible refine Below.alloc ?_ (by first | omega | (simp <;> omega)) _ | with_reducible refine bstep ?_ (by with_reducible assumption) | with_reducible refine Below.drew ?_))).mono ?_
      rintro e u2 ⟨rfl, hb2⟩
      have L2 : Kt (w.heap.size) A B C u2 := (by repeat (first | with_reducible assumption | with_reducible refine KM.drew ?_ | with_reducible refine KM.alloc ?_ _ | with_reducible refine KM.call ?_ (by with_reducible assumption) | with_reducible refine Kg.drew ?_ | with_reducible refine Kg.alloc ?_ _ | with_reducible refine Kg.call ?_ (by with_reducible assumption) | with_reducible refine Kt.drew ?_ | with_reducible refine Kt.alloc ?_ _ | with_reducible refine Kt.call ?_ (by with_reducible assumption)))
      have U2 : Kg (w.heap.size + 1) p q u2 := (by repeat (first | with_reducible assumption | with_reducible refine KM.drew ?_ | with_reducible refine KM.alloc ?_ _ | with_reducible refine KM.call ?_ (by with_reducible assumption) | with_reducible refine Kg.drew ?_ | with_reducible refine Kg.alloc ?_ _ | with_reducible refine Kg.call ?_ (by with_reducible assumption) | with_reducible refine Kt.drew ?_ | with_reducible refine Kt.alloc ?_ _ | with_reducible refine Kt.call ?_ (by with_reducible assumption)))
      have V2 : Kg (w.heap.size + 1 + 1) r t u2 := (by repeat (first | with_reducible assumption | with_reducible refine KM.drew ?_ | with_reducible refine KM.alloc ?_ _ | with_reducible refine KM.call ?_ (by with_reducible assumption) | with_reducible refine Kg.drew ?_ | with_reducible refine Kg.alloc ?_ _ | with_reducible refine Kg.call ?_ (by with_reducible assumption) | with_reducible refine Kt.drew ?_ | with_reducible refine Kt.alloc ?_ _ | with_reducible refine Kt.call ?_ (by with_reducible assumption)))
      have R2 : KM (w.heap.size + 1 + 1 + 1) 0 0 0 0 0 0 u2 := (by repeat (first | with_reducible assumption | with_reducible refine KM.drew ?_ | with_reducible refine KM.alloc ?_ _ | with_reducible refine KM.call ?_ (by with_reducible assumption) | with_reducible refine Kg.drew ?_ | with_reducible refine Kg.alloc ?_ _ | with_reducible refine Kg.call ?_ (by with_reducible assumption) | with_reducible refine Kt.drew ?_ | with_reducible refine Kt.alloc ?_ _ | with_reducible refine Kt.call ?_ (by with_reducible assumption)))
      have B2 : Below w.heap.size w u2 := (by repeat (first | with_reducible assumption | with_reducible refine Below.drew ?_ | with_reducible refine bstep ?_ (by with_reducible assumption)))
      clear hb2
      go_wp2_with fail
      refine hK.out _ _ ?_ (fun hHeld => ?_)
      · (try dsimp only)
        exact ⟨L2.cells, U2.cells, V2.cells⟩
      clear hK K
      (try simp only [Act.put, List.setIfInBounds_toArray, List.set_cons_zero, List.set_cons_succ])
      refine wpAnyH_take (i := 12) (v := ?_) (by (simp only [List.getElem?_toArray, List.getElem?_cons_succ, List.getElem?_cons_zero]); rfl) (by kernel_rfl) (by kernel_rfl) (by kernel_rfl) (by exact fun _ _ _ h => h) (Or.inl ⟨by rfl, ?_⟩) (by assumption) ?_
      rotate_left 1
      · (intro w hSw; (try dsimp only at hSw); go_simp) <;> with_reducible rfl
      (try simp only [Act.put, List.setIfInBounds_toArray, List.set_cons_zero, List.set_cons_succ])
      refine wpAnyH_done (by kernel_rfl) ?_ _
      have R9c := R2.cells5
      have ⟨fR9c0, fR9c1, fR9c2, fR9c3, fR9c4, fR9c5⟩ := R2.frees
      have R9l := R2.lt
      go_wp2
      refine bodyPost_ret (v := .tuple #[.agg #[.int .i64 0, .int .i64 0, .int .i64 0, .int .i64 0, .int .i64 0, .int .i64 0], .int .i64 cc]) (by simp [results, Tryz.results19, go_sem, *]) rfl ⟨EA.out, by repeat (first | with_reducible assumption | with_reducible exact Below.refl _ _ | with_reducible refine Below.setCell ?_ (by first | omega | (simp <;> omega)) _ | with_reducible refine Below.alloc ?_ (by first | omega | (simp <;> omega)) _ | with_reducible refine bstep ?_ (by with_reducible assumption) | with_reducible refine Below.drew ?_ | with_reducible refine below_drewN ?_ _)⟩
    · rw [h1] at C1 CC
      simp only [Bool.true_and] at CC
      clear h1
      generalize cel7 A C r t = b2 at C2 CC
      go_enter Tryz.func19, Tryz.ntmps19
      go_wp2_with fail
      go_region_held3 (fun W => (W.cell? ⟨w.heap.size, 0, none⟩ = some (.int .i64 A) ∧ W.cell? ⟨w.heap.size, 1, none⟩ = some (.int .i64 B) ∧ W.cell? ⟨w.heap.size, 2, none⟩ = some (.int .i64 C)) ∧ (W.cell? ⟨w.heap.size + 1, 0, none⟩ = some (.int .i64 p) ∧ W.cell? ⟨w.heap.size + 1, 1, none⟩ = some (.int .i64 q)) ∧ (W.cell? ⟨w.heap.size + 1 + 1, 0, none⟩ = some (.int .i64 r) ∧ W.cell? ⟨w.heap.size + 1 + 1, 1, none⟩ = some (.int .i64 t))) ((refine ⟨Kt.cells ?_, Kg.cells ?_, Kg.cells ?_⟩) <;> repeat (first | with_reducible assumption | with_reducible refine Kt.drew ?_ | with_reducible refine Kt.alloc ?_ _ | with_reducible refine Kt.call ?_ (by with_reducible assumption) | with_reducible refine Kg.drew ?_ | with_reducible refine Kg.alloc ?_ _ | with_reducible refine Kg.call ?_ (by with_reducible assumption) | with_reducible refine KM.drew ?_ | with_reducible refine KM.alloc ?_ _ | with_reducible refine KM.call ?_ (by with_reducible assumption) | with_reducible refine Ko6.drew ?_ | with_reducible refine Ko6.alloc ?_ _ | with_reducible refine Ko6.call ?_ (by with_reducible assumption)))
        (first
          | (go_at_call_of 42 (Value.agg #[Value.int IntKind.i64 p, Value.int IntKind.i64 q]); with_reducible refine (C1.out _).mono ?_; rintro e u1 ⟨rfl, hb1⟩; have L1 : Kt w.heap.size A B C u1 := (by repeat (first | with_reducible assumption | with_reducible refine Kt.drew ?_ | with_reducible refine Kt.alloc ?_ _ | with_reducible refine Kt.call ?_ (by with_reducible assumption) | with_reducible refine Kg.drew ?_ | with_reducible refine Kg.alloc ?_ _ | with_reducible refine Kg.call ?_ (by with_reducible assumption) | with_reducible refine KM.drew ?_ | with_reducible refine KM.alloc ?_ _ | with_reducible refine KM.call ?_ (by with_reducible assumption) | with_reducible refine Ko6.drew ?_ | with_reducible refine Ko6.alloc ?_ _ | with_reducible refine Ko6.call ?_ (by with_reducible assumption))); have U1 : Kg (w.heap.size + 1) p q u1 := (by repeat (first | with_reducible assumption | with_reducible refine Kt.drew ?_ | with_reducible refine Kt.alloc ?_ _ | with_reducible refine Kt.call ?_ (by with_reducible assumption) | with_reducible refine Kg.drew ?_ | with_reducible refine Kg.alloc ?_ _ | with_reducible refine Kg.call ?_ (by with_reducible assumption) | with_reducible refine KM.drew ?_ | with_reducible refine KM.alloc ?_ _ | with_reducible refine KM.call ?_ (by with_reducible assumption) | with_reducible refine Ko6.drew ?_ | with_reducible refine Ko6.alloc ?_ _ | with_reducible refine Ko6.call ?_ (by with_reducible assumption))); have V1 : Kg (w.heap.size + 1 + 1) r t u1 := (by repeat (first | with_reducible assumption | with_reducible refine Kt.drew ?_ | with_reducible refine Kt.alloc ?_ _ | with_reducible refine Kt.call ?_ (by with_reducible assumption) | with_reducible refine Kg.drew ?_ | with_reducible refine Kg.alloc ?_ _ | with_reducible refine Kg.call ?_ (by with_reducible assumption) | with_reducible refine KM.drew ?_ | with_reducible refine KM.alloc ?_ _ | with_reducible refine KM.call ?_ (by with_reducible assumption) | with_reducible refine Ko6.drew ?_ | with_reducible refine Ko6.alloc ?_ _ | with_reducible refine Ko6.call ?_ (by with_reducible assumption))); have R1 : KM (w.heap.size + 1 + 1 + 1) 0 0 0 0 0 0 u1 := (by repeat (first | with_reducible assumption | with_reducible refine Kt.drew ?_ | with_reducible refine Kt.alloc ?_ _ | with_reducible refine Kt.call ?_ (by with_reducible assumption) | with_reducible refine Kg.drew ?_ | with_reducible refine Kg.alloc ?_ _ | with_reducible refine Kg.call ?_ (by with_reducible assumption) | with_reducible refine KM.drew ?_ | with_reducible refine KM.alloc ?_ _ | with_reducible refine KM.call ?_ (by with_reducible assumption) | with_reducible refine Ko6.drew ?_ | with_reducible refine Ko6.alloc ?_ _ | with_reducible refine Ko6.call ?_ (by with_reducible assumption))); have B1 : Below w.heap.size w u1 := (by repeat (first | with_reducible assumption | with_reducible exact Below.refl _ _ | with_reducible refine Below.alloc ?_ (by first | omega | (simp <;> omega)) _ | with_reducible refine bstep ?_ (by with_reducible assumption) | with_reducible refine Below.drew ?_)))
          | (go_at_call_of 42 (Value.agg #[Value.int IntKind.i64 r, Value.int IntKind.i64 t]); with_reducible refine (C2.out _).mono ?_; rintro e u2 ⟨rfl, hb2⟩; have L2 : Kt w.heap.size A B C u2 := (by repeat (first | with_reducible assumption | with_reducible refine Kt.drew ?_ | with_reducible refine Kt.alloc ?_ _ | with_reducible refine Kt.call ?_ (by with_reducible assumption) | with_reducible refine Kg.drew ?_ | with_reducible refine Kg.alloc ?_ _ | with_reducible refine Kg.call ?_ (by with_reducible assumption) | with_reducible refine KM.drew ?_ | with_reducible refine KM.alloc ?_ _ | with_reducible refine KM.call ?_ (by with_reducible assumption) | with_reducible refine Ko6.drew ?_ | with_reducible refine Ko6.alloc ?_ _ | with_reducible refine Ko6.call ?_ (by with_reducible assumption))); have U2 : Kg (w.heap.size + 1) p q u2 := (by repeat (first | with_reducible assumption | with_reducible refine Kt.drew ?_ | with_reducible refine Kt.alloc ?_ _ | with_reducible refine Kt.call ?_ (by with_reducible assumption) | with_reducible refine Kg.drew ?_ | with_reducible refine Kg.alloc ?_ _ | with_reducible refine Kg.call ?_ (by with_reducible assumption) | with_reducible refine KM.drew ?_ | with_reducible refine KM.alloc ?_ _ | with_reducible refine KM.call ?_ (by with_reducible assumption) | with_reducible refine Ko6.drew ?_ | with_reducible refine Ko6.alloc ?_ _ | with_reducible refine Ko6.call ?_ (by with_reducible assumption))); have V2 : Kg (w.heap.size + 1 + 1) r t u2 := (by repeat (first | with_reducible assumption | with_reducible refine Kt.drew ?_ | with_reducible refine Kt.alloc ?_ _ | with_reducible refine Kt.call ?_ (by with_reducible assumption) | with_reducible refine Kg.drew ?_ | with_reducible refine Kg.alloc ?_ _ | with_reducible refine Kg.call ?_ (by with_reducible assumption) | with_reducible refine KM.drew ?_ | with_reducible refine KM.alloc ?_ _ | with_reducible refine KM.call ?_ (by with_reducible assumption) | with_reducible refine Ko6.drew ?_ | with_reducible refine Ko6.alloc ?_ _ | with_reducible refine Ko6.call ?_ (by with_reducible assumption))); have R2 : KM (w.heap.size + 1 + 1 + 1) 0 0 0 0 0 0 u2 := (by repeat (first | with_reducible assumption | with_reducible refine Kt.drew ?_ | with_reducible refine Kt.alloc ?_ _ | with_reducible refine Kt.call ?_ (by with_reducible assumption) | with_reducible refine Kg.drew ?_ | with_reducible refine Kg.alloc ?_ _ | with_reducible refine Kg.call ?_ (by with_reducible assumption) | with_reducible refine KM.drew ?_ | with_reducible refine KM.alloc ?_ _ | with_reducible refine KM.call ?_ (by with_reducible assumption) | with_reducible refine Ko6.drew ?_ | with_reducible refine Ko6.alloc ?_ _ | with_reducible refine Ko6.call ?_ (by with_reducible assumption))); have B2 : Below w.heap.size w u2 := (by repeat (first | with_reducible assumption | with_reducible exact Below.refl _ _ | with_reducible refine Below.alloc ?_ (by first | omega | (simp <;> omega)) _ | with_reducible refine bstep ?_ (by with_reducible assumption) | with_reducible refine Below.drew ?_)))
          | (go_at_call 41; with_reducible refine (CC.out _ (by repeat (first | with_reducible assumption | with_reducible exact Below.refl _ _ | with_reducible refine Below.alloc ?_ (by first | omega | (simp <;> omega)) _ | with_reducible refine bstep ?_ (by with_reducible assumption) | with_reducible refine Below.drew ?_))).mono ?_; rintro e u3 ⟨rfl, hb3⟩; have L3 : Kt w.heap.size A B C u3 := (by repeat (first | with_reducible assumption | with_reducible refine Kt.drew ?_ | with_reducible refine Kt.alloc ?_ _ | with_reducible refine Kt.call ?_ (by with_reducible assumption) | with_reducible refine Kg.drew ?_ | with_reducible refine Kg.alloc ?_ _ | with_reducible refine Kg.call ?_ (by with_reducible assumption) | with_reducible refine KM.drew ?_ | with_reducible refine KM.alloc ?_ _ | with_reducible refine KM.call ?_ (by with_reducible assumption) | with_reducible refine Ko6.drew ?_ | with_reducible refine Ko6.alloc ?_ _ | with_reducible refine Ko6.call ?_ (by with_reducible assumption))); have U3 : Kg (w.heap.size + 1) p q u3 := (by repeat (first | with_reducible assumption | with_reducible refine Kt.drew ?_ | with_reducible refine Kt.alloc ?_ _ | with_reducible refine Kt.call ?_ (by with_reducible assumption) | with_reducible refine Kg.drew ?_ | with_reducible refine Kg.alloc ?_ _ | with_reducible refine Kg.call ?_ (by with_reducible assumption) | with_reducible refine KM.drew ?_ | with_reducible refine KM.alloc ?_ _ | with_reducible refine KM.call ?_ (by with_reducible assumption) | with_reducible refine Ko6.drew ?_ | with_reducible refine Ko6.alloc ?_ _ | with_reducible refine Ko6.call ?_ (by with_reducible assumption))); have V3 : Kg (w.heap.size + 1 + 1) r t u3 := (by repeat (first | with_reducible assumption | with_reducible refine Kt.drew ?_ | with_reducible refine Kt.alloc ?_ _ | with_reducible refine Kt.call ?_ (by with_reducible assumption) | with_reducible refine Kg.drew ?_ | with_reducible refine Kg.alloc ?_ _ | with_reducible refine Kg.call ?_ (by with_reducible assumption) | with_reducible refine KM.drew ?_ | with_reducible refine KM.alloc ?_ _ | with_reducible refine KM.call ?_ (by with_reducible assumption) | with_reducible refine Ko6.drew ?_ | with_reducible refine Ko6.alloc ?_ _ | with_reducible refine Ko6.call ?_ (by with_reducible assumption))); have R3 : KM (w.heap.size + 1 + 1 + 1) 0 0 0 0 0 0 u3 := (by repeat (first | with_reducible assumption | with_reducible refine Kt.drew ?_ | with_reducible refine Kt.alloc ?_ _ | with_reducible refine Kt.call ?_ (by with_reducible assumption) | with_reducible refine Kg.drew ?_ | with_reducible refine Kg.alloc ?_ _ | with_reducible refine Kg.call ?_ (by with_reducible assumption) | with_reducible refine KM.drew ?_ | with_reducible refine KM.alloc ?_ _ | with_reducible refine KM.call ?_ (by with_reducible assumption) | with_reducible refine Ko6.drew ?_ | with_reducible refine Ko6.alloc ?_ _ | with_reducible refine Ko6.call ?_ (by with_reducible assumption))); have B3 : Below w.heap.size w u3 := (by repeat (first | with_reducible assumption | with_reducible exact Below.refl _ _ | with_reducible refine Below.alloc ?_ (by first | omega | (simp <;> omega)) _ | with_reducible refine bstep ?_ (by with_reducible assumption) | with_reducible refine Below.drew ?_))))
      all_goals
        have R9c := R3.cells5
        have ⟨fR9c0, fR9c1, fR9c2, fR9c3, fR9c4, fR9c5⟩ := R3.frees
        have R9l := R3.lt
        go_wp2
        refine bodyPost_ret (v := .tuple #[.agg #[.int .i64 0, .int .i64 0, .int .i64 0, .int .i64 0, .int .i64 0, .int .i64 0], .int .i64 cc]) (by simp [results, Tryz.results19, go_sem, *]) rfl ⟨EA.out, by repeat (first | with_reducible assumption | with_reducible exact Below.refl _ _ | with_reducible refine Below.setCell ?_ (by first | omega | (simp <;> omega)) _ | with_reducible refine Below.alloc ?_ (by first | omega | (simp <;> omega)) _ | with_reducible refine bstep ?_ (by with_reducible assumption) | with_reducible refine Below.drew ?_ | with_reducible refine below_drewN ?_ _)⟩
  obtain ⟨hgr, hcl⟩ := mo_parts hg
  have h12 : cel7 A C p q = true ∧ cel7 A C r t = true := by
    unfold moB at hg
    simp only [Bool.and_eq_true] at hg
    exact hg.1
  rw [h12.1] at C1 CC
  rw [h12.2] at C2 CC
  simp only [Bool.true_and] at CC
  have HB := Lib.hid hg
  have HG := Lib.hid hgr
  have HCL := Lib.hid hcl
  rw [hg, cod6_ok hgr] at CC
  clear hg hgr hcl h12
  have H768 := Lib.hid (grp_len HG.out)
  have h7 : (xs.length : Int) ≤ 768 := by have := H768.out; omega
  go_enter Tryz.func19, Tryz.ntmps19
  go_wp2_with fail
  go_region_held3 (fun W => (W.cell? ⟨w.heap.size, 0, none⟩ = some (.int .i64 A) ∧ W.cell? ⟨w.heap.size, 1, none⟩ = some (.int .i64 B) ∧ W.cell? ⟨w.heap.size, 2, none⟩ = some (.int .i64 C)) ∧ (W.cell? ⟨w.heap.size + 1, 0, none⟩ = some (.int .i64 p) ∧ W.cell? ⟨w.heap.size + 1, 1, none⟩ = some (.int .i64 q)) ∧ (W.cell? ⟨w.heap.size + 1 + 1, 0, none⟩ = some (.int .i64 r) ∧ W.cell? ⟨w.heap.size + 1 + 1, 1, none⟩ = some (.int .i64 t))) ((refine ⟨Kt.cells ?_, Kg.cells ?_, Kg.cells ?_⟩) <;> repeat (first | with_reducible assumption | with_reducible refine Kt.drew ?_ | with_reducible refine Kt.alloc ?_ _ | with_reducible refine Kt.call ?_ (by with_reducible assumption) | with_reducible refine Kg.drew ?_ | with_reducible refine Kg.alloc ?_ _ | with_reducible refine Kg.call ?_ (by with_reducible assumption) | with_reducible refine KM.drew ?_ | with_reducible refine KM.alloc ?_ _ | with_reducible refine KM.call ?_ (by with_reducible assumption) | with_reducible refine Ko6.drew ?_ | with_reducible refine Ko6.alloc ?_ _ | with_reducible refine Ko6.call ?_ (by with_reducible assumption)))
    (first
      | (go_at_call_of 42 (Value.agg #[Value.int IntKind.i64 p, Value.int IntKind.i64 q]); with_reducible refine (C1.out _).mono ?_; rintro e u1 ⟨rfl, hb1⟩; have L1 : Kt w.heap.size A B C u1 := (by repeat (first | with_reducible assumption | with_reducible refine Kt.drew ?_ | with_reducible refine Kt.alloc ?_ _ | with_reducible refine Kt.call ?_ (by with_reducible assumption) | with_reducible refine Kg.drew ?_ | with_reducible refine Kg.alloc ?_ _ | with_reducible refine Kg.call ?_ (by with_reducible assumption) | with_reducible refine KM.drew ?_ | with_reducible refine KM.alloc ?_ _ | with_reducible refine KM.call ?_ (by with_reducible assumption) | with_reducible refine Ko6.drew ?_ | with_reducible refine Ko6.alloc ?_ _ | with_reducible refine Ko6.call ?_ (by with_reducible assumption))); have U1 : Kg (w.heap.size + 1) p q u1 := (by repeat (first | with_reducible assumption | with_reducible refine Kt.drew ?_ | with_reducible refine Kt.alloc ?_ _ | with_reducible refine Kt.call ?_ (by with_reducible assumption) | with_reducible refine Kg.drew ?_ | with_reducible refine Kg.alloc ?_ _ | with_reducible refine Kg.call ?_ (by with_reducible assumption) | with_reducible refine KM.drew ?_ | with_reducible refine KM.alloc ?_ _ | with_reducible refine KM.call ?_ (by with_reducible assumption) | with_reducible refine Ko6.drew ?_ | with_reducible refine Ko6.alloc ?_ _ | with_reducible refine Ko6.call ?_ (by with_reducible assumption))); have V1 : Kg (w.heap.size + 1 + 1) r t u1 := (by repeat (first | with_reducible assumption | with_reducible refine Kt.drew ?_ | with_reducible refine Kt.alloc ?_ _ | with_reducible refine Kt.call ?_ (by with_reducible assumption) | with_reducible refine Kg.drew ?_ | with_reducible refine Kg.alloc ?_ _ | with_reducible refine Kg.call ?_ (by with_reducible assumption) | with_reducible refine KM.drew ?_ | with_reducible refine KM.alloc ?_ _ | with_reducible refine KM.call ?_ (by with_reducible assumption) | with_reducible refine Ko6.drew ?_ | with_reducible refine Ko6.alloc ?_ _ | with_reducible refine Ko6.call ?_ (by with_reducible assumption))); have R1 : KM (w.heap.size + 1 + 1 + 1) 0 0 0 0 0 0 u1 := (by repeat (first | with_reducible assumption | with_reducible refine Kt.drew ?_ | with_reducible refine Kt.alloc ?_ _ | with_reducible refine Kt.call ?_ (by with_reducible assumption) | with_reducible refine Kg.drew ?_ | with_reducible refine Kg.alloc ?_ _ | with_reducible refine Kg.call ?_ (by with_reducible assumption) | with_reducible refine KM.drew ?_ | with_reducible refine KM.alloc ?_ _ | with_reducible refine KM.call ?_ (by with_reducible assumption) | with_reducible refine Ko6.drew ?_ | with_reducible refine Ko6.alloc ?_ _ | with_reducible refine Ko6.call ?_ (by with_reducible assumption))); have B1 : Below w.heap.size w u1 := (by repeat (first | with_reducible assumption | with_reducible exact Below.refl _ _ | with_reducible refine Below.alloc ?_ (by first | omega | (simp <;> omega)) _ | with_reducible refine bstep ?_ (by with_reducible assumption) | with_reducible refine Below.drew ?_)))
      | (go_at_call_of 42 (Value.agg #[Value.int IntKind.i64 r, Value.int IntKind.i64 t]); with_reducible refine (C2.out _).mono ?_; rintro e u2 ⟨rfl, hb2⟩; have L2 : Kt w.heap.size A B C u2 := (by repeat (first | with_reducible assumption | with_reducible refine Kt.drew ?_ | with_reducible refine Kt.alloc ?_ _ | with_reducible refine Kt.call ?_ (by with_reducible assumption) | with_reducible refine Kg.drew ?_ | with_reducible refine Kg.alloc ?_ _ | with_reducible refine Kg.call ?_ (by with_reducible assumption) | with_reducible refine KM.drew ?_ | with_reducible refine KM.alloc ?_ _ | with_reducible refine KM.call ?_ (by with_reducible assumption) | with_reducible refine Ko6.drew ?_ | with_reducible refine Ko6.alloc ?_ _ | with_reducible refine Ko6.call ?_ (by with_reducible assumption))); have U2 : Kg (w.heap.size + 1) p q u2 := (by repeat (first | with_reducible assumption | with_reducible refine Kt.drew ?_ | with_reducible refine Kt.alloc ?_ _ | with_reducible refine Kt.call ?_ (by with_reducible assumption) | with_reducible refine Kg.drew ?_ | with_reducible refine Kg.alloc ?_ _ | with_reducible refine Kg.call ?_ (by with_reducible assumption) | with_reducible refine KM.drew ?_ | with_reducible refine KM.alloc ?_ _ | with_reducible refine KM.call ?_ (by with_reducible assumption) | with_reducible refine Ko6.drew ?_ | with_reducible refine Ko6.alloc ?_ _ | with_reducible refine Ko6.call ?_ (by with_reducible assumption))); have V2 : Kg (w.heap.size + 1 + 1) r t u2 := (by repeat (first | with_reducible assumption | with_reducible refine Kt.drew ?_ | with_reducible refine Kt.alloc ?_ _ | with_reducible refine Kt.call ?_ (by with_reducible assumption) | with_reducible refine Kg.drew ?_ | with_reducible refine Kg.alloc ?_ _ | with_reducible refine Kg.call ?_ (by with_reducible assumption) | with_reducible refine KM.drew ?_ | with_reducible refine KM.alloc ?_ _ | with_reducible refine KM.call ?_ (by with_reducible assumption) | with_reducible refine Ko6.drew ?_ | with_reducible refine Ko6.alloc ?_ _ | with_reducible refine Ko6.call ?_ (by with_reducible assumption))); have R2 : KM (w.heap.size + 1 + 1 + 1) 0 0 0 0 0 0 u2 := (by repeat (first | with_reducible assumption | with_reducible refine Kt.drew ?_ | with_reducible refine Kt.alloc ?_ _ | with_reducible refine Kt.call ?_ (by with_reducible assumption) | with_reducible refine Kg.drew ?_ | with_reducible refine Kg.alloc ?_ _ | with_reducible refine Kg.call ?_ (by with_reducible assumption) | with_reducible refine KM.drew ?_ | with_reducible refine KM.alloc ?_ _ | with_reducible refine KM.call ?_ (by with_reducible assumption) | with_reducible refine Ko6.drew ?_ | with_reducible refine Ko6.alloc ?_ _ | with_reducible refine Ko6.call ?_ (by with_reducible assumption))); have B2 : Below w.heap.size w u2 := (by repeat (first | with_reducible assumption | with_reducible exact Below.refl _ _ | with_reducible refine Below.alloc ?_ (by first | omega | (simp <;> omega)) _ | with_reducible refine bstep ?_ (by with_reducible assumption) | with_reducible refine Below.drew ?_)))
      | (go_at_call 41; with_reducible refine (CC.out _ (by repeat (first | with_reducible assumption | with_reducible exact Below.refl _ _ | with_reducible refine Below.alloc ?_ (by first | omega | (simp <;> omega)) _ | with_reducible refine bstep ?_ (by with_reducible assumption) | with_reducible refine Below.drew ?_))).mono ?_; rintro e u3 ⟨rfl, hb3⟩; have L3 : Kt w.heap.size A B C u3 := (by repeat (first | with_reducible assumption | with_reducible refine Kt.drew ?_ | with_reducible refine Kt.alloc ?_ _ | with_reducible refine Kt.call ?_ (by with_reducible assumption) | with_reducible refine Kg.drew ?_ | with_reducible refine Kg.alloc ?_ _ | with_reducible refine Kg.call ?_ (by with_reducible assumption) | with_reducible refine KM.drew ?_ | with_reducible refine KM.alloc ?_ _ | with_reducible refine KM.call ?_ (by with_reducible assumption) | with_reducible refine Ko6.drew ?_ | with_reducible refine Ko6.alloc ?_ _ | with_reducible refine Ko6.call ?_ (by with_reducible assumption))); have U3 : Kg (w.heap.size + 1) p q u3 := (by repeat (first | with_reducible assumption | with_reducible refine Kt.drew ?_ | with_reducible refine Kt.alloc ?_ _ | with_reducible refine Kt.call ?_ (by with_reducible assumption) | with_reducible refine Kg.drew ?_ | with_reducible refine Kg.alloc ?_ _ | with_reducible refine Kg.call ?_ (by with_reducible assumption) | with_reducible refine KM.drew ?_ | with_reducible refine KM.alloc ?_ _ | with_reducible refine KM.call ?_ (by with_reducible assumption) | with_reducible refine Ko6.drew ?_ | with_reducible refine Ko6.alloc ?_ _ | with_reducible refine Ko6.call ?_ (by with_reducible assumption))); have V3 : Kg (w.heap.size + 1 + 1) r t u3 := (by repeat (first | with_reducible assumption | with_reducible refine Kt.drew ?_ | with_reducible refine Kt.alloc ?_ _ | with_reducible refine Kt.call ?_ (by with_reducible assumption) | with_reducible refine Kg.drew ?_ | with_reducible refine Kg.alloc ?_ _ | with_reducible refine Kg.call ?_ (by with_reducible assumption) | with_reducible refine KM.drew ?_ | with_reducible refine KM.alloc ?_ _ | with_reducible refine KM.call ?_ (by with_reducible assumption) | with_reducible refine Ko6.drew ?_ | with_reducible refine Ko6.alloc ?_ _ | with_reducible refine Ko6.call ?_ (by with_reducible assumption))); have R3 : KM (w.heap.size + 1 + 1 + 1) 0 0 0 0 0 0 u3 := (by repeat (first | with_reducible assumption | with_reducible refine Kt.drew ?_ | with_reducible refine Kt.alloc ?_ _ | with_reducible refine Kt.call ?_ (by with_reducible assumption) | with_reducible refine Kg.drew ?_ | with_reducible refine Kg.alloc ?_ _ | with_reducible refine Kg.call ?_ (by with_reducible assumption) | with_reducible refine KM.drew ?_ | with_reducible refine KM.alloc ?_ _ | with_reducible refine KM.call ?_ (by with_reducible assumption) | with_reducible refine Ko6.drew ?_ | with_reducible refine Ko6.alloc ?_ _ | with_reducible refine Ko6.call ?_ (by with_reducible assumption))); have B3 : Below w.heap.size w u3 := (by repeat (first | with_reducible assumption | with_reducible exact Below.refl _ _ | with_reducible refine Below.alloc ?_ (by first | omega | (simp <;> omega)) _ | with_reducible refine bstep ?_ (by with_reducible assumption) | with_reducible refine Below.drew ?_))))
  all_goals
    have BQ : Below w.heap.size w u3 := B3
    have zq := BQ.size
    have zk := L3.1
    have HLQ := Lib.hid L3
    have HUQ := Lib.hid U3
    have HVQ := Lib.hid V3
    have HRQ := Lib.hid R3
    clear L1 U1 V1 R1 B1 L2 U2 V2 R2 B2 L3 U3 V3 R3 B3 L0 U0 V0 R0 B0 L0c U0c V0c
    go_wp2_with fail
    go_loopw [13] (fun s13 W => ∃ k : Nat, s13 = .int .i64 (k : Int) ∧ k ≤ xs.length ∧ (∀ i (h : i < xs.length), i < k → mvQ A B C (p, q) (r, t) xs[i] = false) ∧ Below u3.heap.size u3 W) (fun s13 _ => xs.length - (intOf s13).toNat)
    case atStart => exact ⟨0, rfl, by omega, fun i _ h => by omega, Below.refl _ _⟩
    case round =>
      obtain ⟨k, rfl, hk, hP, hB⟩ := hrel
      by_cases hk1 : k < xs.length
      · have hBw : Below w.heap.size w wr := BQ.trans (hB.mono zq)
        have HF : Hid (mvQ A B C (p, q) (r, t) xs[k] = true → moA f A B C xs p q r t = (xs[k], 0)) := Lib.hid (fun h => mo_found HB.out hk1 h hP)
        have HN2 : Hid (mvQ A B C (p, q) (r, t) xs[k] = false → ∀ i (h : i < xs.length), i < k + 1 → mvQ A B C (p, q) (r, t) xs[i] = false) := Lib.hid (fun h i hi hik => by
          by_cases e : i = k
          · subst e; exact h
          · exact hP i hi (by omega))
        have HMEM := Lib.hid ((grp_ok HG.out).2.1 xs[k] (List.getElem_mem hk1))
        have hk2 : (k : Int) < (xs.length : Int) := by omega
        have hk3 : (k : Int) ≤ 768 := by omega
        have hres := HA.out.2.2.resolve_left (fun h => by omega)
        have hhi := HA.out.1
        obtain ⟨g, cap', e9, _, hg, RA⟩ := hres
        simp only [Value.slice.injEq, true_and] at e9
        obtain ⟨rfl, rfl⟩ := e9
        have q1 := (RA.grow hBw (by omega)).mo k hk1
        have HT := Lib.hid (show xs.take (k + 1) = xs.take k ++ [xs[k]] from List.take_succ_eq_append_getElem hk1)
        have HTL := Lib.hid (show (xs.take k).length ≤ 768 by rw [List.length_take]; omega)
        have HK := Lib.hid hk1
        clear RA hg hhi hk
        generalize xs[k] = m at q1 HT HF HN2 HMEM
        clear hk1
        obtain ⟨a, b, c, d, x, y⟩ := m
        dsimp only at q1
        obtain ⟨hl, hli, hv, hp, hx, hy⟩ := mv_mid HMEM.out.1 HMEM.out.2 HCL.out
        have CT : Hid (∀ W, Calls Tryz.prog 43 #[.agg #[.int .i64 A, .int .i64 B, .int .i64 C], .agg #[.int .i64 a, .int .i64 b, .int .i64 c, .int .i64 d, .int .i64 x, .int .i64 y], .agg #[.int .i64 p, .int .i64 q]] W fun e w' => e = .returned (.agg #[.int .i64 (redX A B C (a * p + b * q + x) (c * p + d * q + y)), .int .i64 (redY C (c * p + d * q + y))]) ∧ Below W.heap.size W w') := Lib.hid (fun W => l07Move_any A B C a b c d x y p q W hl hli hv hp hx hy)
        have HE : Hid (eqV2 (redX A B C (a * p + b * q + x) (c * p + d * q + y)) (redY C (c * p + d * q + y)) r t = mvQ A B C (p, q) (r, t) (a, b, c, d, x, y)) := Lib.hid (eqV2_dec (redX A B C (a * p + b * q + x) (c * p + d * q + y), redY C (c * p + d * q + y)) (r, t))
        clear hl hli hv hp hx hy HMEM HTL
        generalize redX A B C (a * p + b * q + x) (c * p + d * q + y) = rx at CT HE
        generalize redY C (c * p + d * q + y) = ry at CT HE
        generalize mvQ A B C (p, q) (r, t) (a, b, c, d, x, y) = dd at HE HF HN2
        have L3 := HLQ.out.call hB
        have U3 := HUQ.out.call hB
        have V3 := HVQ.out.call hB
        have R3 := HRQ.out.call hB
        have q1c := q1.cells
        have L3c := L3.cells
        have U3c := U3.cells
        have V3c := V3.cells
        have zB := hBw.size
        clear hP
        rcases dd with _ | _
        all_goals
          have he := HE.out
          go_wp2_with fail
          go_region_held3 (fun W => (W.cell? ⟨w.heap.size, 0, none⟩ = some (.int .i64 A) ∧ W.cell? ⟨w.heap.size, 1, none⟩ = some (.int .i64 B) ∧ W.cell? ⟨w.heap.size, 2, none⟩ = some (.int .i64 C)) ∧ (W.cell? ⟨g, k * 6, none⟩ = some (.int .i64 a) ∧ W.cell? ⟨g, k * 6 + 1, none⟩ = some (.int .i64 b) ∧ W.cell? ⟨g, k * 6 + 2, none⟩ = some (.int .i64 c) ∧ W.cell? ⟨g, k * 6 + 3, none⟩ = some (.int .i64 d) ∧ W.cell? ⟨g, k * 6 + 4, none⟩ = some (.int .i64 x) ∧ W.cell? ⟨g, k * 6 + 5, none⟩ = some (.int .i64 y)) ∧ (W.cell? ⟨w.heap.size + 1, 0, none⟩ = some (.int .i64 p) ∧ W.cell? ⟨w.heap.size + 1, 1, none⟩ = some (.int .i64 q)) ∧ (W.cell? ⟨w.heap.size + 1 + 1, 0, none⟩ = some (.int .i64 r) ∧ W.cell? ⟨w.heap.size + 1 + 1, 1, none⟩ = some (.int .i64 t))) ((refine ⟨Kt.cells ?_, Ko6.cells ?_, Kg.cells ?_, Kg.cells ?_⟩) <;> repeat (first | with_reducible assumption | with_reducible refine Kt.drew ?_ | with_reducible refine Kt.alloc ?_ _ | with_reducible refine Kt.call ?_ (by with_reducible assumption) | with_reducible refine Kg.drew ?_ | with_reducible refine Kg.alloc ?_ _ | with_reducible refine Kg.call ?_ (by with_reducible assumption) | with_reducible refine KM.drew ?_ | with_reducible refine KM.alloc ?_ _ | with_reducible refine KM.call ?_ (by with_reducible assumption) | with_reducible refine Ko6.drew ?_ | with_reducible refine Ko6.alloc ?_ _ | with_reducible refine Ko6.call ?_ (by with_reducible assumption)))
            (first
              | (go_at_call 43; with_reducible refine (CT.out _).mono ?_; rintro e u5 ⟨rfl, hb5⟩; have L5 : Kt w.heap.size A B C u5 := (by repeat (first | with_reducible assumption | with_reducible refine Kt.drew ?_ | with_reducible refine Kt.alloc ?_ _ | with_reducible refine Kt.call ?_ (by with_reducible assumption) | with_reducible refine Kg.drew ?_ | with_reducible refine Kg.alloc ?_ _ | with_reducible refine Kg.call ?_ (by with_reducible assumption) | with_reducible refine KM.drew ?_ | with_reducible refine KM.alloc ?_ _ | with_reducible refine KM.call ?_ (by with_reducible assumption) | with_reducible refine Ko6.drew ?_ | with_reducible refine Ko6.alloc ?_ _ | with_reducible refine Ko6.call ?_ (by with_reducible assumption))); have U5 : Kg (w.heap.size + 1) p q u5 := (by repeat (first | with_reducible assumption | with_reducible refine Kt.drew ?_ | with_reducible refine Kt.alloc ?_ _ | with_reducible refine Kt.call ?_ (by with_reducible assumption) | with_reducible refine Kg.drew ?_ | with_reducible refine Kg.alloc ?_ _ | with_reducible refine Kg.call ?_ (by with_reducible assumption) | with_reducible refine KM.drew ?_ | with_reducible refine KM.alloc ?_ _ | with_reducible refine KM.call ?_ (by with_reducible assumption) | with_reducible refine Ko6.drew ?_ | with_reducible refine Ko6.alloc ?_ _ | with_reducible refine Ko6.call ?_ (by with_reducible assumption))); have V5 : Kg (w.heap.size + 1 + 1) r t u5 := (by repeat (first | with_reducible assumption | with_reducible refine Kt.drew ?_ | with_reducible refine Kt.alloc ?_ _ | with_reducible refine Kt.call ?_ (by with_reducible assumption) | with_reducible refine Kg.drew ?_ | with_reducible refine Kg.alloc ?_ _ | with_reducible refine Kg.call ?_ (by with_reducible assumption) | with_reducible refine KM.drew ?_ | with_reducible refine KM.alloc ?_ _ | with_reducible refine KM.call ?_ (by with_reducible assumption) | with_reducible refine Ko6.drew ?_ | with_reducible refine Ko6.alloc ?_ _ | with_reducible refine Ko6.call ?_ (by with_reducible assumption))); have q5 : Ko6 g (k * 6) a b c d x y u5 := (by repeat (first | with_reducible assumption | with_reducible refine Kt.drew ?_ | with_reducible refine Kt.alloc ?_ _ | with_reducible refine Kt.call ?_ (by with_reducible assumption) | with_reducible refine Kg.drew ?_ | with_reducible refine Kg.alloc ?_ _ | with_reducible refine Kg.call ?_ (by with_reducible assumption) | with_reducible refine KM.drew ?_ | with_reducible refine KM.alloc ?_ _ | with_reducible refine KM.call ?_ (by with_reducible assumption) | with_reducible refine Ko6.drew ?_ | with_reducible refine Ko6.alloc ?_ _ | with_reducible refine Ko6.call ?_ (by with_reducible assumption))); have R5 : KM (w.heap.size + 1 + 1 + 1) 0 0 0 0 0 0 u5 := (by repeat (first | with_reducible assumption | with_reducible refine Kt.drew ?_ | with_reducible refine Kt.alloc ?_ _ | with_reducible refine Kt.call ?_ (by with_reducible assumption) | with_reducible refine Kg.drew ?_ | with_reducible refine Kg.alloc ?_ _ | with_reducible refine Kg.call ?_ (by with_reducible assumption) | with_reducible refine KM.drew ?_ | with_reducible refine KM.alloc ?_ _ | with_reducible refine KM.call ?_ (by with_reducible assumption) | with_reducible refine Ko6.drew ?_ | with_reducible refine Ko6.alloc ?_ _ | with_reducible refine Ko6.call ?_ (by with_reducible assumption))); have B6 : Below u3.heap.size u3 u5 := (by repeat (first | with_reducible assumption | with_reducible exact Below.refl _ _ | with_reducible refine Below.drew ?_ | with_reducible refine below_drewN ?_ _ | with_reducible refine Below.alloc ?_ (by first | omega | (simp <;> omega)) _ | with_reducible refine bstep ?_ (by with_reducible assumption))); have B5 : Below w.heap.size w u5 := (by repeat (first | with_reducible assumption | with_reducible exact Below.refl _ _ | with_reducible refine Below.drew ?_ | with_reducible refine below_drewN ?_ _ | with_reducible refine Below.alloc ?_ (by first | omega | (simp <;> omega)) _ | with_reducible refine bstep ?_ (by with_reducible assumption)))))
        · clear L3 U3 V3 R3 hBw hB q1 q1c L3c U3c V3c hb5 q5 L5 U5 V5 R5 B5
          go_wp2
          go_roundw
          case rel => exact ⟨k + 1, by go_num, by have := HK.out; omega, HN2.out (by first | rfl | trivial), B6⟩
          case measure => (have := HK.out); first | (simp [intOf]; done) | (simp [intOf]; omega)

        · have EA := Lib.hid (ret_val (show .tuple #[.agg #[.int .i64 a, .int .i64 b, .int .i64 c, .int .i64 d, .int .i64 x, .int .i64 y], .int .i64 0] = rdT (moA f A B C xs p q r t) by rw [HF.out (by first | rfl | trivial)]; rfl))
          have q5c := q5.cells
          have R5c := R5.cells5
          have ⟨fR5c0, fR5c1, fR5c2, fR5c3, fR5c4, fR5c5⟩ := R5.frees
          have R5l := R5.lt
          clear L3 U3 V3 R3 hBw hB q1 q1c L3c U3c V3c hb5
          go_wp2
          refine bodyPost_ret (v := .tuple #[.agg #[.int .i64 a, .int .i64 b, .int .i64 c, .int .i64 d, .int .i64 x, .int .i64 y], .int .i64 0]) (by simp [results, Tryz.results19, go_sem, *]) rfl ⟨EA.out, by repeat (first | with_reducible assumption | with_reducible exact Below.refl _ _ | with_reducible refine Below.setCell ?_ (by first | omega | (simp <;> omega)) _ | with_reducible refine Below.alloc ?_ (by first | omega | (simp <;> omega)) _ | with_reducible refine bstep ?_ (by with_reducible assumption) | with_reducible refine Below.drew ?_ | with_reducible refine below_drewN ?_ _)⟩
      · obtain rfl : k = xs.length := by omega
        have HV := Lib.hid (mo_none HB.out (fun i hi _ => hP i hi hi))
        have EA := Lib.hid (ret_val (show .tuple #[.agg #[.int .i64 0, .int .i64 0, .int .i64 0, .int .i64 0, .int .i64 0, .int .i64 0], .int .i64 4] = rdT (moA f A B C xs p q r t) by rw [HV.out]; rfl))
        have R6 := HRQ.out.call hB
        have B7 : Below w.heap.size w wr := BQ.trans (hB.mono zq)
        have R6c := R6.cells5
        have ⟨fR6c0, fR6c1, fR6c2, fR6c3, fR6c4, fR6c5⟩ := R6.frees
        have R6l := R6.lt
        clear hk hk1 hP hB BQ
        go_wp2
        refine bodyPost_ret (v := .tuple #[.agg #[.int .i64 0, .int .i64 0, .int .i64 0, .int .i64 0, .int .i64 0, .int .i64 0], .int .i64 4]) (by simp [results, Tryz.results19, go_sem, *]) rfl ⟨EA.out, by repeat (first | with_reducible assumption | with_reducible exact Below.refl _ _ | with_reducible refine Below.setCell ?_ (by first | omega | (simp <;> omega)) _ | with_reducible refine Below.alloc ?_ (by first | omega | (simp <;> omega)) _ | with_reducible refine bstep ?_ (by with_reducible assumption) | with_reducible refine Below.drew ?_ | with_reducible refine below_drewN ?_ _)⟩

end Go.Proofs.YtngpoaglildbnaaGreatDoor
