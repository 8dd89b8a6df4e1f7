/-
  A pattern by value, opened: its numbers written out, and the slice of colours as a row of numbers. Condition: the types are structs of one-cell fields and of a struct of three.
-/
import Derived.Test.YtdgophfembpniaaGreatDoorGv
import Derived.Lib.SmallJoins
import Derived.Deep.Strs
namespace Go.Proofs.YtdgophfembpniaaGreatDoor
open Go.RowKit Go.ChangeShapes Go.WideShapes Go.ChangeAt Go.Joins Go.Deep Go.WideElems
set_option linter.unusedVariables false
section
variable {H : Type} {enc : TypeId × Value → H} {P : Program} {w : World} {base : Nat} {held : Bool}
theorem array5 {α : Type} {cs : Array α} (h : cs.size = 5) : ∃ c0 c1 c2 c3 c4, cs = #[c0, c1, c2, c3, c4] := by
  obtain ⟨l⟩ := cs
  match l, h with
  | [c0, c1, c2, c3, c4], _ => exact ⟨c0, c1, c2, c3, c4, rfl⟩
theorem open_pat {r : Reach} {b0 : Nat} {t e : TypeId} {fA fB fC m0 m1 m2 : Field} {v : Value} {d : DataW H} {p : List MemPlace} (hs : P.underlying t = some (.struct #[fA, fB, fC]))
    (hA : P.underlying fA.type = some (.int .i64)) (hM : P.underlying fB.type = some (.struct #[m0, m1, m2])) (oneM : oneCellFields P #[m0, m1, m2] = true) (h0 : P.underlying m0.type = some (.int .i64)) (h1 : P.underlying m1.type = some (.int .i64)) (h2 : P.underlying m2.type = some (.int .i64))
    (hS : P.underlying fC.type = some (.slice e)) (he : P.underlying e = some (.int .i64)) (hc : P.cellsOf e = 1)
    (hO : fA.offset = 0 ∧ P.cellsOf fA.type = 1 ∧ fB.offset = 1 ∧ P.cellsOf fB.type = 3 ∧ fC.offset = 4 ∧ P.cellsOf fC.type = 1) (hC : P.cellsOf t = 5)
    (hv : Value.okWide P w r b0 t v) (h : DataW.Trod enc P w base (fun _ => true) held t v d p) :
    ∃ (f A B C : Int) (u : Value) (n : Nat) (F : Nat → Int), v = .agg #[.int .i64 f, .int .i64 A, .int .i64 B, .int .i64 C, u] ∧ ARw u n F w ∧ n ≤ 9223372036854775807 := by
  obtain ⟨cs, rfl, hsz⟩ := okWide_struct hs hv
  obtain ⟨c0, c1, c2, c3, c4, rfl⟩ := array5 (hsz.trans hC)
  obtain ⟨fuel, hf⟩ := h
  obtain ⟨a, b, c, n, hx, _, g0, g1, g2⟩ := trod_struct3 hs hf
  obtain ⟨o0, k0, o1, k1, o2, k2⟩ := hO
  have g0' : DataW.trod enc P w base (fun _ => true) held n fA.type [c0] = some a := by simpa [Value.cells, o0, k0] using g0
  have g1' : DataW.trod enc P w base (fun _ => true) held n fB.type [c1, c2, c3] = some b := by simpa [Value.cells, o1, k1] using g1
  have g2' : DataW.trod enc P w base (fun _ => true) held n fC.type [c4] = some c := by simpa [Value.cells, o2, k2] using g2
  obtain ⟨y0, y1, y2, n1, rfl, _, e0, e1, e2⟩ := trod_struct3 hM g1'
  obtain ⟨p0, q0⟩ := hone_of oneM 0 m0 rfl
  obtain ⟨p1, q1⟩ := hone_of oneM 1 m1 rfl
  obtain ⟨p2, q2⟩ := hone_of oneM 2 m2 rfl
  have e0' : DataW.trod enc P w base (fun _ => true) held n1 m0.type [c1] = some y0 := by simpa [p0, q0] using e0
  have e1' : DataW.trod enc P w base (fun _ => true) held n1 m1.type [c2] = some y1 := by simpa [p1, q1] using e1
  have e2' : DataW.trod enc P w base (fun _ => true) held n1 m2.type [c3] = some y2 := by simpa [p2, q2] using e2
  obtain ⟨f, r0, _, _⟩ := DataW.trod_int hA g0'
  obtain ⟨A, r1, _, _⟩ := DataW.trod_int h0 e0'
  obtain ⟨B, r2, _, _⟩ := DataW.trod_int h1 e1'
  obtain ⟨C, r3, _, _⟩ := DataW.trod_int h2 e2'
  simp at r0 r1 r2 r3
  subst r0 r1 r2 r3
  rcases open_ints hS he hc g2' with ⟨hcs, _⟩ | ⟨x, l, cp, zs, hcs, _, hl, hm, hz, _, hcell, _⟩
  · simp at hcs
    exact ⟨f, A, B, C, c4, 0, fun _ => 0, rfl, ⟨none, 0, hcs, fun t ht => by omega⟩, by omega⟩
  · simp at hcs
    simp only [if_true] at hz
    refine ⟨f, A, B, C, c4, l, fun t => zs.getD t 0, rfl, ⟨some x, cp, hcs, fun t ht => ?_⟩, ?_⟩
    · have h9 := hcell t (by omega)
      refine ⟨x, rfl, ?_, h9⟩
      have := World.block_lt_of_cell? _ _ h9
      rwa [add_block] at this
    · have : maxLen ≤ 9223372036854775807 := by unfold maxLen; omega
      omega
end
end Go.Proofs.YtdgophfembpniaaGreatDoor
