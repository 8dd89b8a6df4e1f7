/-
  The walk of the law FnPointParts: it returns true at every code and writes nothing that was there. Conditions: the code's bytes can be read, and the program's variable unitMatrix holds the unit.
-/
import Derived.Test.YtkfeajjpbmbmpaaGreatDoorDp6
import Derived.Test.YtkfeajjpbmbmpaaGreatDoorPaF
import Derived.Test.YtkfeajjpbmbmpaaGreatDoorRoF
import Derived.Test.YtkfeajjpbmbmpaaGreatDoorLike4
import Derived.Deep.RegionHeld3
import Derived.ProofKit
import Derived.OpenShut
namespace Go.Proofs.YtkfeajjpbmbmpaaGreatDoor
open Go.RowKit Go.ChangeShapes Go.WideShapes Go.ChangeAt
set_option linter.unusedSimpArgs false
set_option linter.unusedVariables false

def IsRow (k : IntKind) (w : World) (a : Option Addr) (len cap : Nat) (zs : List Int) : Prop :=
  (a = none ∧ len = 0 ∧ cap = 0 ∧ zs = []) ∨
  ∃ x, a = some x ∧ len ≤ cap ∧ cap ≤ maxLen ∧ zs.length = cap ∧ (∀ i, i < zs.length → w.cell? (x.add i) = some (.int k (zs.getD i 0))) ∧ ∀ n ∈ zs, (Lit.int k n).wf = true

theorem rowBts {w : World} {a0 : Option Addr} {len cap : Nat} {zs : List Int} (h : IsRow .u8 w a0 len cap zs) : Bts a0 len w.heap.size w := by
  rcases h with ⟨_, h, _, _⟩ | ⟨x, rfl, h1, h2, h3, h4, h5⟩
  · exact .inl h
  · by_cases h0 : len = 0
    · exact .inl h0
    · obtain ⟨b, off, rfl, hc⟩ := ints_at h4 (by omega)
      refine .inr ⟨b, off, rfl, World.block_lt_of_cell? _ _ (hc 0 (by omega)), fun i hi => ?_⟩
      have hb := bounds_u8 (h5 (zs.getD i 0) (by
        rw [List.getD_eq_getElem?_getD, List.getElem?_eq_getElem (by omega)]
        exact List.getElem_mem _))
      exact ⟨_, hb.1, hb.2, hc i (by omega)⟩

set_option maxRecDepth 100000 in
set_option maxHeartbeats 8000000 in
theorem walkPp (a0 : Option Addr) (len cap : Nat) (zs : List Int) (w : World) (w0 : IsRow .u8 w a0 len cap zs) (hU : UnitOK w) :
    Calls Tryz.prog 5 #[.slice a0 len cap] w fun e w' => e = .returned (.bool true) ∧ Below w.heap.size w w' := by
  by_cases hbig : 4096 < len
  · have hb1 : (4096 : Int) < (len : Int) := by omega
    have hb2 : len ≤ 9223372036854775807 := by
      rcases w0 with ⟨_, h, _, _⟩ | ⟨x, rfl, h1, h2, h3, h4, h5⟩
      · omega
      · unfold maxLen at h2; omega
    go_enter Tryz.func5, Tryz.ntmps5
    go_wp2
    go_ret
    exact ⟨rfl, Below.refl _ _⟩
  have hB := rowBts w0
  have hl : len ≤ 4096 := by omega
  clear w0
  go_enter Tryz.func5, Tryz.ntmps5
  go_wp2_with (go_at_call 11; go_in)
  refine (drawPP_any a0 len cap _ (by omega) hB).mono ?_
  rintro e w1 ⟨f, A, B, C, v, n, F, rfl, hn, hS, hb1⟩
  have A1 := hS.toXs
  have hx := toXs_len n F
  generalize toXs n F = xs at A1 hx
  subst hx
  clear hS
  have U1 : UnitOK w1 := Kq.call hU hb1
  have B1 := hb1
  have HN := Lib.hid (show xs.length ≤ 1048576 by omega)
  have HN2 := hn
  clear hU hb1 hn hB
  have L2 : Kt w1.heap.size A B C (w1.alloc (.cells #[.int .i64 A, .int .i64 B, .int .i64 C] 25)) := Kt.at _ rfl
  have A2 : SRow w.heap.size w1.heap.size 6 v xs.length (fm xs) (w1.alloc (.cells #[.int .i64 A, .int .i64 B, .int .i64 C] 25)) := A1.call ((Below.refl _ _).alloc (Nat.le_refl _) _)
  have U2 : UnitOK (w1.alloc (.cells #[.int .i64 A, .int .i64 B, .int .i64 C] 25)) := Kq.alloc U1 _
  have B2 : Below w.heap.size w (w1.alloc (.cells #[.int .i64 A, .int .i64 B, .int .i64 C] 25)) := B1.alloc B1.size _
  have z1 := B1.size
  obtain ⟨ao, cp, hv⟩ := srow_shape A1
  subst hv
  have hn0 : 0 ≤ (xs.length : Int) := by omega
  clear A1 U1 B1
  obtain ⟨c0, c1, c2⟩ := L2.cells
  go_wp2_with fail
  refine (implPoint_any f A B C A2 HN.out U2).mono ?_
  rintro e w3 ⟨v3, rfl, P3, hb3⟩
  have L3 := L2.call hb3
  have A3 := A2.call hb3
  have U3 : UnitOK w3 := Kq.call U2 hb3
  have B3 := bstep B2 hb3
  clear hb3 L2 A2 U2 B2 c0 c1 c2 
  obtain ⟨c0, c1, c2⟩ := L3.cells
  go_wp2_with fail
  refine (specPoint_any f A B C A3 HN.out).mono ?_
  rintro e w4 ⟨v4, rfl, Q4, hb4⟩
  have L4 := L3.call hb4
  have A4 := A3.call hb4
  have U4 : UnitOK w4 := Kq.call U3 hb4
  have B4 := bstep B3 hb4
  have P4 := P3.call hb4
  clear hb4 L3 A3 U3 B3 c0 c1 c2 P3
  obtain ⟨c0, c1, c2⟩ := L4.cells
  go_wp2_with fail
  refine (implShifts_any f A B C A4 HN.out U4).mono ?_
  rintro e w5 ⟨v5, rfl, S5, hb5⟩
  have L5 := L4.call hb5
  have A5 := A4.call hb5
  have U5 : UnitOK w5 := Kq.call U4 hb5
  have B5 := bstep B4 hb5
  have P5 := P4.call hb5
  have Q5 := Q4.call hb5
  clear hb5 L4 A4 U4 B4 c0 c1 c2 P4 Q4
  obtain ⟨c0, c1, c2⟩ := L5.cells
  go_wp2_with fail
  refine (specShifts_any f A B C A5 HN.out).mono ?_
  rintro e w6 ⟨v6, rfl, T6, hb6⟩
  have L6 := L5.call hb6
  have A6 := A5.call hb6
  have U6 : UnitOK w6 := Kq.call U5 hb6
  have B6 := bstep B5 hb6
  have P6 := P5.call hb6
  have Q6 := Q5.call hb6
  have S6 := S5.call hb6
  clear hb6 L5 A5 U5 B5 c0 c1 c2 P5 Q5 S5
  obtain ⟨c0, c1, c2⟩ := L6.cells
  go_wp2_with fail
  refine (implRot_any f A B C A6 HN.out U6).mono ?_
  rintro e w7 ⟨he, hb7⟩
  unfold rotT at he
  subst he
  have L7 := L6.call hb7
  have A7 := A6.call hb7
  have U7 : UnitOK w7 := Kq.call U6 hb7
  have B7 := bstep B6 hb7
  have P7 := P6.call hb7
  have Q7 := Q6.call hb7
  have S7 := S6.call hb7
  have T7 := T6.call hb7
  clear hb7 L6 A6 U6 B6 c0 c1 c2 P6 Q6 S6 T6
  obtain ⟨c0, c1, c2⟩ := L7.cells
  go_wp2_with fail
  refine (specRot_any f A B C A7 HN.out).mono ?_
  rintro e w8 ⟨he, hb8⟩
  unfold rotT at he
  subst he
  have L8 := L7.call hb8
  have A8 := A7.call hb8
  have U8 : UnitOK w8 := Kq.call U7 hb8
  have B8 := bstep B7 hb8
  have P8 := P7.call hb8
  have Q8 := Q7.call hb8
  have S8 := S7.call hb8
  have T8 := T7.call hb8
  clear hb8 L7 A7 U7 B7 c0 c1 c2 P7 Q7 S7 T7
  obtain ⟨c0, c1, c2⟩ := L8.cells
  obtain ⟨p1, cp1, rfl⟩ := srow_shape P8
  obtain ⟨p2, cp2, rfl⟩ := srow_shape Q8
  obtain ⟨p3, cp3, rfl⟩ := srow_shape S8
  obtain ⟨p4, cp4, rfl⟩ := srow_shape T8
  have HE := Lib.hid (fun h : grpB f A B C xs = true => (show (ptL f A B C xs).length * (shL f A B C xs).length = xs.length by simp only [ptL, shL, h, cond_true]; exact part_len h))
  have hpl := ptL_len f A B C xs
  have hsl := shL_len f A B C xs
  have hcc := cod6_cases f A B C xs
  generalize hgp : grpB f A B C xs = gb at HE hcc
  generalize cod6 f A B C gb = cz at *
  generalize rotR f A B C xs = rz at *
  generalize ptL f A B C xs = pL at *
  generalize shL f A B C xs = sL at *
  clear hgp
  go_wp2_with fail
  refine (likeMats9_any P8 Q8).mono ?_
  rintro e w9 ⟨rfl, hb9⟩
  have L9 := L8.call hb9
  have A9 := A8.call hb9
  have U9 : UnitOK w9 := Kq.call U8 hb9
  have B9 := bstep B8 hb9
  have S9 := S8.call hb9
  have T9 := T8.call hb9
  clear hb9 L8 A8 U8 B8 c0 c1 c2 S8 T8
  obtain ⟨c0, c1, c2⟩ := L9.cells
  go_wp2_with fail
  refine (likeVecs9_any S9 T9).mono ?_
  rintro e w10 ⟨rfl, hb10⟩
  have L10 := L9.call hb10
  have A10 := A9.call hb10
  have U10 : UnitOK w10 := Kq.call U9 hb10
  have B10 := bstep B9 hb10
  clear hb10 L9 A9 U9 B9 c0 c1 c2 
  obtain ⟨c0, c1, c2⟩ := L10.cells
  have hp0 : 0 ≤ (pL.length : Int) := by omega
  have hs0 : 0 ≤ (sL.length : Int) := by omega
  rcases hcc with ⟨hg, hcz⟩ | ⟨hg, hcz⟩
  · have he := HE.out hg
    have he2 : (pL.length : Int) * (sL.length : Int) = (xs.length : Int) := by exact_mod_cast he
    have he3 : IntKind.i64.wrap ((pL.length : Int) * (sL.length : Int)) = (xs.length : Int) := by rw [he2, IntKind.wrap_i64]; omega
    subst hcz
    go_wp2
    go_ret
    exact ⟨rfl, B10⟩
  · go_wp2
    go_ret
    exact ⟨rfl, B10⟩
end Go.Proofs.YtkfeajjpbmbmpaaGreatDoor
