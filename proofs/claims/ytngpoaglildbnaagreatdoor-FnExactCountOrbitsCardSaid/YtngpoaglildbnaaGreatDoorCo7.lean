/-
  Contracts of CountOrbits in the program and in the model. Conditions: the list's length is below the model's bound, and the program's variable unitMatrix holds the unit.
-/
import Derived.Test.YtngpoaglildbnaaGreatDoorOs7
import Derived.Deep.RegionHeld3
import Derived.IntWalk
import Derived.Laws.Rows
import Derived.Laws.Tables
namespace Go.Proofs.YtngpoaglildbnaaGreatDoor
open Go.RowKit
set_option linter.unusedSimpArgs false
set_option linter.unusedVariables false

def coN (f A B C : Int) (G : List M6) : Int := bif grpB f A B C G then ((orbF A.toNat C.toNat B G).length : Nat) else 0
def coT (f A B C : Int) (G : List M6) : Value := .tuple #[.int .i64 (coN f A B C G), .int .i64 (cod6 f A B C (grpB f A B C G))]
theorem co_bad {f A B C : Int} {G : List M6} (h : grpB f A B C G = false) : coT f A B C G = .tuple #[.int .i64 0, .int .i64 (cod6 f A B C false)] := by simp [coT, coN, h]
theorem co_good {f : Int} {p q : Nat} {B : Int} {G : List M6} (h : grpB f (p : Int) B (q : Int) G = true) : coT f (p : Int) B (q : Int) G = .tuple #[.int .i64 ((orbF p q B G).length : Nat), .int .i64 0] := by simp [coT, coN, h, cod6_ok h]
theorem lat_nat7 {A B C : Int} (h : latI A B C) : ∃ p q : Nat, A = (p : Int) ∧ C = (q : Int) := by
  obtain ⟨h1, h2, _⟩ := h
  exact ⟨A.toNat, C.toNat, by omega, by omega⟩
theorem own_irow {W : World} {base n : Nat} {v : Value} {G : List M6} {T : TypeId} (h : W.ownsRow base T 6 v G.length (cells6 G)) (hn : 0 < G.length) (hn2 : G.length ≤ 1048576) : ∃ g cap, v = .slice (some ⟨g, 0, none⟩) G.length cap ∧ base ≤ g ∧ IRow g (G.length * 6) (fm G) W := by
  obtain ⟨g1, cap1, rfl, hb1g, hcl1, hcm1⟩ := own_block h hn
  obtain ⟨g1', c1', e1, _, _, r1⟩ := (SRow.big6 h hn2).2.2.resolve_left (fun h => by omega)
  simp only [Value.slice.injEq, Option.some.injEq, Addr.mk.injEq, and_true, true_and] at e1
  obtain ⟨rfl, e1⟩ := e1
  exact ⟨_, _, rfl, hb1g, r1⟩
set_option maxRecDepth 100000 in
set_option maxHeartbeats 8000000 in
theorem specCount_any {lo hi : Nat} {v : Value} {xs : List M6} {w : World} (f A B C : Int) (h : SRow lo hi 6 v xs.length (fm xs) w) (hn : xs.length ≤ 1048576) :
    Calls Tryz.prog 39 #[.int .i64 f, .agg #[.int .i64 A, .int .i64 B, .int .i64 C], v] w fun e w' => e = .returned (coT f A B C xs) ∧ Below w.heap.size w w' := by
  have HA := Lib.hid h
  have HN := Lib.hid hn
  have L0 : Kt w.heap.size A B C (w.alloc (.cells #[.int .i64 A, .int .i64 B, .int .i64 C] 31)) := Kt.at _ rfl
  have B0 : Below w.heap.size w (w.alloc (.cells #[.int .i64 A, .int .i64 B, .int .i64 C] 31)) := (Below.refl _ _).alloc (Nat.le_refl _) _
  have L0c := L0.cells
  have CC : Hid (∀ W, Below w.heap.size w W → Calls Tryz.prog 41 #[.int .i64 f, .agg #[.int .i64 A, .int .i64 B, .int .i64 C], v, .bool true] W fun e w' => e = .returned (.int .i64 (cod6 f A B C (true && grpB f A B C xs))) ∧ Below W.heap.size W w') := Lib.hid (fun W hW => l07Code_any f A B C true (HA.out.grow hW HA.out.1) HN.out)
  obtain ⟨ao, cap, rfl⟩ := srow_shape h
  clear h hn
  rcases hg : grpB f A B C xs with _ | _
  · have HV := Lib.hid (co_bad hg)
    have hc := cod6_nz f A B C
    rw [hg] at CC
    simp only [Bool.and_false] at CC
    clear hg
    generalize cod6 f A B C false = cc at CC hc HV
    have EA := Lib.hid (ret_val HV.out.symm)
    go_enter Tryz.func39, Tryz.ntmps39
    go_wp2_with fail
    refine (CC.out _ B0).mono ?_
    rintro e w1 ⟨rfl, hb1⟩
    have B1 := bstep B0 hb1
    clear hb1 B0 L0 L0c CC
    go_wp2
    go_ret2
    exact ⟨EA.out, B1⟩
  · obtain ⟨p, q, rfl, rfl⟩ := lat_nat7 (grp_good hg).1
    have HG := Lib.hid hg
    have HV := Lib.hid (co_good hg)
    rw [hg] at CC
    simp only [Bool.and_true] at CC
    have hck := cod6_ok hg
    rw [hck] at CC
    clear hg hck
    have hlen : ((orbF p q B xs).length : Int) ≤ 64 := by
      have h1 := fstL_len (p : Int) B (q : Int) xs (cellP q p)
      have h2 : (cellP q p).length ≤ 64 := by rw [cellP_len]; have := latI_prod (grp_good HG.out).1; exact_mod_cast this
      have h3 : (orbF p q B xs).length = (fstL (p : Int) B (q : Int) xs (cellP q p)).length := rfl
      omega
    have EA := Lib.hid (ret_val HV.out.symm)
    have CO8 : Hid (∀ W, Below w.heap.size w W → Calls Tryz.prog 73 #[.agg #[.int .i64 ((p : Int)), .int .i64 B, .int .i64 ((q : Int))], .slice ao xs.length cap] W fun e w' => ∃ (g cap : Nat) (vs : List Value), e = .returned (.slice (some ⟨g, 0, none⟩) vs.length cap) ∧ vs.length = (orbF p q B xs).length ∧ Below W.heap.size W w') := Lib.hid (fun W hW => Calls.mono (l07Orbits_any HG.out (HA.out.grow hW HA.out.1)) (fun e w' (hh : ∃ (g cap : Nat) (vs : List Value), _ ∧ _ ∧ OrbV (p : Int) B (q : Int) xs W.heap.size (orbF p q B xs) vs w' ∧ _) => by obtain ⟨g, cap, vs, h1, h2, h3, h4⟩ := hh; exact ⟨g, cap, vs, h1, h3.1, h4⟩))
    go_enter Tryz.func39, Tryz.ntmps39
    go_wp2_with fail
    refine (CC.out _ B0).mono ?_
    rintro e w1 ⟨rfl, hb1⟩
    have L1 := L0.call hb1
    have B1 := bstep B0 hb1
    have L1c := L1.cells
    clear hb1 B0 L0 L0c CC
    go_wp2_with fail
    refine (CO8.out _ B1).mono ?_
    rintro e w2 ⟨g, cap2, vs, rfl, hvs, hb2⟩
    have B2 := bstep B1 hb2
    clear hb2 B1 L1 L1c CO8
    rw [hvs]
    clear hvs
    go_wp2
    go_ret2
    exact ⟨EA.out, B2⟩

set_option maxRecDepth 100000 in
set_option maxHeartbeats 8000000 in
theorem implCount_any {lo hi : Nat} {v : Value} {xs : List M6} {w : World} (f A B C : Int) (h : SRow lo hi 6 v xs.length (fm xs) w) (hn : xs.length ≤ 1048576) (hU : UnitOK w) :
    Calls Tryz.prog 40 #[.int .i64 f, .agg #[.int .i64 A, .int .i64 B, .int .i64 C], v] w fun e w' => e = .returned (coT f A B C xs) ∧ Below w.heap.size w w' := by
  have L0 : Kt w.heap.size A B C (w.alloc (.cells #[.int .i64 A, .int .i64 B, .int .i64 C] 31)) := Kt.at _ rfl
  have B0 : Below w.heap.size w (w.alloc (.cells #[.int .i64 A, .int .i64 B, .int .i64 C] 31)) := (Below.refl _ _).alloc (Nat.le_refl _) _
  have A0 : SRow lo hi 6 v xs.length (fm xs) (w.alloc (.cells #[.int .i64 A, .int .i64 B, .int .i64 C] 31)) := h.grow B0 h.1
  have U0 : UnitOK (w.alloc (.cells #[.int .i64 A, .int .i64 B, .int .i64 C] 31)) := Kq.call hU B0
  have L0c := L0.cells
  have CG := Lib.hid (groupOf_any f A B C A0 hn U0)
  have HN := Lib.hid hn
  clear h hn hU A0 U0
  unfold GrpPost at CG
  rcases hg : grpB f A B C xs with _ | _
  · have HV := Lib.hid (co_bad hg)
    have hc := cod6_nz f A B C
    rw [hg] at CG
    clear hg
    generalize cod6 f A B C false = cc at CG hc HV
    have EA := Lib.hid (ret_val HV.out.symm)
    go_enter Tryz.func40, Tryz.ntmps40
    go_wp2_with fail
    refine CG.out.mono ?_
    rintro e w1 ⟨v1, rfl, _, hv, hb1⟩
    have hv1 := hv (by first | rfl | trivial)
    subst hv1
    have B1 := bstep B0 hb1
    clear hv hb1 B0 L0 L0c CG
    go_wp2
    go_ret2
    exact ⟨EA.out, B1⟩
  · obtain ⟨p, q, rfl, rfl⟩ := lat_nat7 (grp_good hg).1
    have HG := Lib.hid hg
    have HV := Lib.hid (co_good hg)
    have hck := cod6_ok hg
    rw [hg, hck] at CG
    clear hg hck
    have EA := Lib.hid (ret_val HV.out.symm)
    go_enter Tryz.func40, Tryz.ntmps40
    go_wp2_with fail
    refine CG.out.mono ?_
    rintro e w1 ⟨v1, rfl, hr, _, hb1⟩
    obtain ⟨g1, cap1, rfl, _, r1⟩ := own_irow (n := 0) (hr (by first | rfl | trivial)) (grp_pos HG.out) HN.out
    have B1 := bstep B0 hb1
    have L1 := L0.call hb1
    have L1c := L1.cells
    have CO := Lib.hid (orbI_any (cap := cap1) HG.out r1)
    clear hr hb1 B0 L0 L0c CG r1
    go_wp2_with fail
    refine CO.out.mono ?_
    rintro e w2 ⟨J, I, rfl, _, hb2⟩
    have B2 := bstep B1 hb2
    clear hb2 B1 L1 L1c CO
    have hst : Sem.run Tryz.prog (storeCells ⟨w2.heap.size, 0, none⟩ (rowI I).toList 0) (w2.alloc (.cells #[.int .i64 0, .int .i64 0, .int .i64 0, .int .i64 0, .int .i64 0, .int .i64 0, .int .i64 0, .int .i64 0, .int .i64 0, .int .i64 0, .int .i64 0, .int .i64 0, .int .i64 0, .int .i64 0, .int .i64 0, .int .i64 0, .int .i64 0, .int .i64 0, .int .i64 0, .int .i64 0, .int .i64 0, .int .i64 0, .int .i64 0, .int .i64 0, .int .i64 0, .int .i64 0, .int .i64 0, .int .i64 0, .int .i64 0, .int .i64 0, .int .i64 0, .int .i64 0, .int .i64 0, .int .i64 0, .int .i64 0, .int .i64 0, .int .i64 0, .int .i64 0, .int .i64 0, .int .i64 0, .int .i64 0, .int .i64 0, .int .i64 0, .int .i64 0, .int .i64 0, .int .i64 0, .int .i64 0, .int .i64 0, .int .i64 0, .int .i64 0, .int .i64 0, .int .i64 0, .int .i64 0, .int .i64 0, .int .i64 0, .int .i64 0, .int .i64 0, .int .i64 0, .int .i64 0, .int .i64 0, .int .i64 0, .int .i64 0, .int .i64 0, .int .i64 0] 104)) = .ok () ((w2.alloc (.cells #[.int .i64 0, .int .i64 0, .int .i64 0, .int .i64 0, .int .i64 0, .int .i64 0, .int .i64 0, .int .i64 0, .int .i64 0, .int .i64 0, .int .i64 0, .int .i64 0, .int .i64 0, .int .i64 0, .int .i64 0, .int .i64 0, .int .i64 0, .int .i64 0, .int .i64 0, .int .i64 0, .int .i64 0, .int .i64 0, .int .i64 0, .int .i64 0, .int .i64 0, .int .i64 0, .int .i64 0, .int .i64 0, .int .i64 0, .int .i64 0, .int .i64 0, .int .i64 0, .int .i64 0, .int .i64 0, .int .i64 0, .int .i64 0, .int .i64 0, .int .i64 0, .int .i64 0, .int .i64 0, .int .i64 0, .int .i64 0, .int .i64 0, .int .i64 0, .int .i64 0, .int .i64 0, .int .i64 0, .int .i64 0, .int .i64 0, .int .i64 0, .int .i64 0, .int .i64 0, .int .i64 0, .int .i64 0, .int .i64 0, .int .i64 0, .int .i64 0, .int .i64 0, .int .i64 0, .int .i64 0, .int .i64 0, .int .i64 0, .int .i64 0, .int .i64 0] 104)).setRow w2.heap.size (rowI I)) := store64 (I0 := fun _ => 0) (by rw [show (#[.int .i64 0, .int .i64 0, .int .i64 0, .int .i64 0, .int .i64 0, .int .i64 0, .int .i64 0, .int .i64 0, .int .i64 0, .int .i64 0, .int .i64 0, .int .i64 0, .int .i64 0, .int .i64 0, .int .i64 0, .int .i64 0, .int .i64 0, .int .i64 0, .int .i64 0, .int .i64 0, .int .i64 0, .int .i64 0, .int .i64 0, .int .i64 0, .int .i64 0, .int .i64 0, .int .i64 0, .int .i64 0, .int .i64 0, .int .i64 0, .int .i64 0, .int .i64 0, .int .i64 0, .int .i64 0, .int .i64 0, .int .i64 0, .int .i64 0, .int .i64 0, .int .i64 0, .int .i64 0, .int .i64 0, .int .i64 0, .int .i64 0, .int .i64 0, .int .i64 0, .int .i64 0, .int .i64 0, .int .i64 0, .int .i64 0, .int .i64 0, .int .i64 0, .int .i64 0, .int .i64 0, .int .i64 0, .int .i64 0, .int .i64 0, .int .i64 0, .int .i64 0, .int .i64 0, .int .i64 0, .int .i64 0, .int .i64 0, .int .i64 0, .int .i64 0] : Array Value) = rowI (fun _ => 0) from rfl]; exact World.alloc_heap_new _ _)
    have z2 := B2.size
    have B3 : Below w.heap.size w ((w2.alloc (.cells #[.int .i64 0, .int .i64 0, .int .i64 0, .int .i64 0, .int .i64 0, .int .i64 0, .int .i64 0, .int .i64 0, .int .i64 0, .int .i64 0, .int .i64 0, .int .i64 0, .int .i64 0, .int .i64 0, .int .i64 0, .int .i64 0, .int .i64 0, .int .i64 0, .int .i64 0, .int .i64 0, .int .i64 0, .int .i64 0, .int .i64 0, .int .i64 0, .int .i64 0, .int .i64 0, .int .i64 0, .int .i64 0, .int .i64 0, .int .i64 0, .int .i64 0, .int .i64 0, .int .i64 0, .int .i64 0, .int .i64 0, .int .i64 0, .int .i64 0, .int .i64 0, .int .i64 0, .int .i64 0, .int .i64 0, .int .i64 0, .int .i64 0, .int .i64 0, .int .i64 0, .int .i64 0, .int .i64 0, .int .i64 0, .int .i64 0, .int .i64 0, .int .i64 0, .int .i64 0, .int .i64 0, .int .i64 0, .int .i64 0, .int .i64 0, .int .i64 0, .int .i64 0, .int .i64 0, .int .i64 0, .int .i64 0, .int .i64 0, .int .i64 0, .int .i64 0] 104)).setRow w2.heap.size (rowI I)) := below_row (B2.alloc z2 _) z2 _
    generalize (w2.alloc (.cells #[.int .i64 0, .int .i64 0, .int .i64 0, .int .i64 0, .int .i64 0, .int .i64 0, .int .i64 0, .int .i64 0, .int .i64 0, .int .i64 0, .int .i64 0, .int .i64 0, .int .i64 0, .int .i64 0, .int .i64 0, .int .i64 0, .int .i64 0, .int .i64 0, .int .i64 0, .int .i64 0, .int .i64 0, .int .i64 0, .int .i64 0, .int .i64 0, .int .i64 0, .int .i64 0, .int .i64 0, .int .i64 0, .int .i64 0, .int .i64 0, .int .i64 0, .int .i64 0, .int .i64 0, .int .i64 0, .int .i64 0, .int .i64 0, .int .i64 0, .int .i64 0, .int .i64 0, .int .i64 0, .int .i64 0, .int .i64 0, .int .i64 0, .int .i64 0, .int .i64 0, .int .i64 0, .int .i64 0, .int .i64 0, .int .i64 0, .int .i64 0, .int .i64 0, .int .i64 0, .int .i64 0, .int .i64 0, .int .i64 0, .int .i64 0, .int .i64 0, .int .i64 0, .int .i64 0, .int .i64 0, .int .i64 0, .int .i64 0, .int .i64 0, .int .i64 0] 104)).setRow w2.heap.size (rowI I) = w3 at hst B3
    go_wp2
    go_ret2
    exact ⟨EA.out, B3⟩

end Go.Proofs.YtngpoaglildbnaaGreatDoor
