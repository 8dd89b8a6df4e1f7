/-
 A slice of motions that came in, opened: its motions as six numbers each, which lie at the slice's address. Condition: the type is a slice of a struct of a struct of four and a struct of two one-cell integer fields.
-/
import Derived.Test.YtdgophfembpniaaGreatDoorGc
import Derived.Lib.SmallJoins
import Derived.Deep.Slices
import Derived.Test.YtdgophfembpniaaGreatDoorProg
namespace Go.Proofs.YtdgophfembpniaaGreatDoor
open Go.RowKit Go.ChangeShapes Go.WideShapes Go.ChangeAt Go.Joins Go.Deep Go.WideElems
set_option linter.unusedVariables false
def ARow (v : Value) (xs : List M6) (W : World) : Prop :=
 ∃ ao cap, v = .slice ao xs.length cap ∧ ∀ t, t < xs.length * 6 → ∃ a, ao = some a ∧ a.block < W.heap.size ∧ W.cell? (a.add t) = some (.int .i64 (fm xs t))
theorem add_blockO (a : Addr) (n : Nat) : (a.add n).block = a.block := by unfold Addr.add; split <;> rfl
theorem ARow.call {v : Value} {xs : List M6} {W w1 : World} (h : ARow v xs W) (hb : Below W.heap.size W w1) : ARow v xs w1 := by
 obtain ⟨ao, cap, rfl, h⟩ := h
 refine ⟨ao, cap, rfl, fun t ht => ?_⟩
 obtain ⟨a, rfl, h1, h2⟩ := h t ht
 exact ⟨a, rfl, Nat.lt_of_lt_of_le h1 hb.size, by rw [hb.cell (p := a.add t) (by rw [add_blockO]; exact h1)]; exact h2⟩
theorem ARow.grow {v : Value} {xs : List M6} {W w1 w2 : World} (h : ARow v xs W) (hb : Below W.heap.size W w1) : ARow v xs w1 := h.call hb
section
variable {H : Type} {enc : TypeId × Value → H} {P : Program} {w : World} {base : Nat} {spare : Nat → Bool} {held : Bool}
theorem cells_block {base : Nat} {a : Addr} {n : Nat} {cs : List Value} {i : Nat} (h : w.cells? base a n = some cs) (hi : i < n) : a.block < w.heap.size ∧ w.cell? (a.add i) = cs[i]? := by
 obtain ⟨_, hl, hc⟩ := World.cells?_some h
 have h1 := hc i hi
 refine ⟨?_, h1⟩
 rw [List.getElem?_eq_getElem (by omega)] at h1
 have := World.block_lt_of_cell? _ _ h1
 rwa [add_blockO] at this
theorem mot_cells {t : TypeId} {fM fT m0 m1 m2 m3 t0 t1 : Field} (hs : P.underlying t = some (.struct #[fM, fT]))
  (hM : P.underlying fM.type = some (.struct #[m0, m1, m2, m3])) (hT : P.underlying fT.type = some (.struct #[t0, t1])) (oneM : oneCellFields P #[m0, m1, m2, m3] = true) (oneT : oneCellFields P #[t0, t1] = true)
  (hO : fM.offset = 0 ∧ P.cellsOf fM.type = 4 ∧ fT.offset = 4 ∧ P.cellsOf fT.type = 2)
  (hI : P.underlying m0.type = some (.int .i64) ∧ P.underlying m1.type = some (.int .i64) ∧ P.underlying m2.type = some (.int .i64) ∧ P.underlying m3.type = some (.int .i64) ∧ P.underlying t0.type = some (.int .i64) ∧ P.underlying t1.type = some (.int .i64))
  {n : Nat} {cs : List Value} {x : DataW H × List MemPlace} (hl : cs.length = 6) (h : DataW.trod enc P w base spare held n t cs = some x) :
  ∃ m : M6, cs = [.int .i64 m.1, .int .i64 m.2.1, .int .i64 m.2.2.1, .int .i64 m.2.2.2.1, .int .i64 m.2.2.2.2.1, .int .i64 m.2.2.2.2.2] := by
 match cs, hl with
 | [c0, c1, c2, c3, c4, c5], _ =>
  obtain ⟨a, b, n, _, _, h0, h1⟩ := trod_struct2 hs h
  obtain ⟨o0, k0, o1, k1⟩ := hO
  have h0' : DataW.trod enc P w base spare held n fM.type [c0, c1, c2, c3] = some a := by simpa [o0, k0] using h0
  have h1' : DataW.trod enc P w base spare held n fT.type [c4, c5] = some b := by simpa [o1, k1] using h1
  obtain ⟨y0, y1, y2, y3, n1, rfl, _, e0, e1, e2, e3⟩ := trod_struct4 hM h0'
  obtain ⟨y4, y5, n2, rfl, _, e4, e5⟩ := trod_struct2 hT h1'
  obtain ⟨p0, q0⟩ := hone_of oneM 0 m0 rfl
  obtain ⟨p1, q1⟩ := hone_of oneM 1 m1 rfl
  obtain ⟨p2, q2⟩ := hone_of oneM 2 m2 rfl
  obtain ⟨p3, q3⟩ := hone_of oneM 3 m3 rfl
  obtain ⟨p4, q4⟩ := hone_of oneT 0 t0 rfl
  obtain ⟨p5, q5⟩ := hone_of oneT 1 t1 rfl
  obtain ⟨i0, i1, i2, i3, i4, i5⟩ := hI
  obtain ⟨z0, u0, _⟩ := DataW.trod_int i0 (show DataW.trod enc P w base spare held n1 m0.type [c0] = some y0 by simpa [p0, q0] using e0)
  obtain ⟨z1, u1, _⟩ := DataW.trod_int i1 (show DataW.trod enc P w base spare held n1 m1.type [c1] = some y1 by simpa [p1, q1] using e1)
  obtain ⟨z2, u2, _⟩ := DataW.trod_int i2 (show DataW.trod enc P w base spare held n1 m2.type [c2] = some y2 by simpa [p2, q2] using e2)
  obtain ⟨z3, u3, _⟩ := DataW.trod_int i3 (show DataW.trod enc P w base spare held n1 m3.type [c3] = some y3 by simpa [p3, q3] using e3)
  obtain ⟨z4, u4, _⟩ := DataW.trod_int i4 (show DataW.trod enc P w base spare held n2 t0.type [c4] = some y4 by simpa [p4, q4] using e4)
  obtain ⟨z5, u5, _⟩ := DataW.trod_int i5 (show DataW.trod enc P w base spare held n2 t1.type [c5] = some y5 by simpa [p5, q5] using e5)
  simp at u0 u1 u2 u3 u4 u5
  subst u0 u1 u2 u3 u4 u5
  exact ⟨(z0, z1, z2, z3, z4, z5), rfl⟩
theorem open_mots {r : Reach} {b0 : Nat} {ts t : TypeId} {fM fT m0 m1 m2 m3 t0 t1 : Field} {v : Value} {d : DataW H} {p : List MemPlace} (hsl : P.underlying ts = some (.slice t)) (hs : P.underlying t = some (.struct #[fM, fT]))
  (hM : P.underlying fM.type = some (.struct #[m0, m1, m2, m3])) (hT : P.underlying fT.type = some (.struct #[t0, t1])) (oneM : oneCellFields P #[m0, m1, m2, m3] = true) (oneT : oneCellFields P #[t0, t1] = true)
  (hO : fM.offset = 0 ∧ P.cellsOf fM.type = 4 ∧ fT.offset = 4 ∧ P.cellsOf fT.type = 2)
  (hI : P.underlying m0.type = some (.int .i64) ∧ P.underlying m1.type = some (.int .i64) ∧ P.underlying m2.type = some (.int .i64) ∧ P.underlying m3.type = some (.int .i64) ∧ P.underlying t0.type = some (.int .i64) ∧ P.underlying t1.type = some (.int .i64)) (hC : P.cellsOf t = 6)
  (hv : Value.okWide P w r b0 ts v) (h : DataW.Trod enc P w base spare held ts v d p) : ∃ xs : List M6, ARow v xs w ∧ xs.length ≤ 9223372036854775807 := by
 obtain ⟨a, len, cap, rfl⟩ := okWide_slice hsl hv
 obtain ⟨fuel, hf⟩ := h
 rcases Deep.open_slice hsl hf with ⟨hcs, _⟩ | ⟨x, l, c, m, n, D, Pl, hcs, _, hlc, hcm, hm, _, hx⟩
 ·simp [Value.cells] at hcs
  obtain ⟨rfl, rfl, rfl⟩ := hcs
  exact ⟨[], ⟨none, 0, rfl, fun t ht => by simp at ht⟩, by simp⟩
 ·simp [Value.cells] at hcs
  obtain ⟨rfl, rfl, rfl⟩ := hcs
  have hlm : len ≤ m := by rw [hm]; split <;> omega
  rw [hC] at hx
  obtain ⟨q, hq⟩ := Deep.choose_lt (α := M6) (n := len) (p := fun i mm => x.block < w.heap.size ∧ ∀ j, j < 6 → w.cell? (x.add (i * 6 + j)) = ([.int .i64 mm.1, .int .i64 mm.2.1, .int .i64 mm.2.2.1, .int .i64 mm.2.2.2.1, .int .i64 mm.2.2.2.2.1, .int .i64 mm.2.2.2.2.2] : List Value)[j]?) (fun i hi => by
   obtain ⟨cs', h1, h2⟩ := hx i (by omega)
   obtain ⟨_, hlen, _⟩ := World.cells?_some h1
   obtain ⟨mm, rfl⟩ := mot_cells hs hM hT oneM oneT hO hI hlen h2
   refine ⟨mm, ?_, fun j hj => ?_⟩
   ·have := (cells_block (i := 0) h1 (by omega)).1
    rwa [add_blockO] at this
   ·have := (cells_block (i := j) h1 hj).2
    rwa [Deep.add_add] at this)
  refine ⟨(List.range len).map q, ⟨some x, cap, by simp, fun t ht => ?_⟩, by unfold maxLen at hcm; simp; omega⟩
  have hlen : ((List.range len).map q).length = len := by simp
  rw [hlen] at ht
  have hi : t / 6 < len := by omega
  obtain ⟨hb, hc⟩ := hq (t / 6) hi
  refine ⟨x, rfl, hb, ?_⟩
  obtain ⟨g0, g1, g2, g3, g4, g5⟩ := fm_get ((List.range len).map q) (t / 6) (by rw [hlen]; exact hi)
  have ge : ((List.range len).map q)[t / 6]'(by rw [hlen]; exact hi) = q (t / 6) := by simp
  rw [ge] at g0 g1 g2 g3 g4 g5
  have hj : t = t / 6 * 6 + 0 ∨ t = t / 6 * 6 + 1 ∨ t = t / 6 * 6 + 2 ∨ t = t / 6 * 6 + 3 ∨ t = t / 6 * 6 + 4 ∨ t = t / 6 * 6 + 5 := by omega
  generalize t / 6 = i at *
  rcases hj with rfl | rfl | rfl | rfl | rfl | rfl
  ·rw [Nat.add_zero, g0]; simpa using hc 0 (by omega)
  ·rw [g1]; simpa using hc 1 (by omega)
  ·rw [g2]; simpa using hc 2 (by omega)
  ·rw [g3]; simpa using hc 3 (by omega)
  ·rw [g4]; simpa using hc 4 (by omega)
  ·rw [g5]; simpa using hc 5 (by omega)
end
end Go.Proofs.YtdgophfembpniaaGreatDoor
