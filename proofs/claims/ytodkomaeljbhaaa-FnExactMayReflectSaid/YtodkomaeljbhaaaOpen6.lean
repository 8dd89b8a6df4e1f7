/-
  A motion by value, opened: its six numbers written out, each with its reading. Condition: the type is a struct of a struct of four and a struct of two one-cell fields.
-/
import Derived.Test.YtodkomaeljbhaaaProg
import Derived.Lib.SmallJoins
namespace Go.Proofs.Ytodkomaeljbhaaa
open Go.RowKit Go.ChangeShapes Go.WideShapes Go.ChangeAt Go.Joins Go.Deep Go.WideElems
section
variable {H : Type} {enc : TypeId × Value → H} {P : Program} {w : World} {base : Nat} {spare : Nat → Bool} {held : Bool}
theorem array6 {α : Type} {cs : Array α} (h : cs.size = 6) : ∃ c0 c1 c2 c3 c4 c5, cs = #[c0, c1, c2, c3, c4, c5] := by
  obtain ⟨l⟩ := cs
  match l, h with
  | [c0, c1, c2, c3, c4, c5], _ => exact ⟨c0, c1, c2, c3, c4, c5, rfl⟩
theorem open_mot {r : Reach} {b0 : Nat} {t : TypeId} {fM fT m0 m1 m2 m3 t0 t1 : Field} {v : Value} {d : DataW H} {p : List MemPlace} (hs : P.underlying t = some (.struct #[fM, fT]))
    (hM : P.underlying fM.type = some (.struct #[m0, m1, m2, m3])) (hT : P.underlying fT.type = some (.struct #[t0, t1])) (oneM : oneCellFields P #[m0, m1, m2, m3] = true) (oneT : oneCellFields P #[t0, t1] = true)
    (hO : fM.offset = 0 ∧ P.cellsOf fM.type = 4 ∧ fT.offset = 4 ∧ P.cellsOf fT.type = 2) (hC : P.cellsOf t = 6)
    (hv : Value.okWide P w r b0 t v) (h : DataW.Trod enc P w base spare held t v d p) :
    ∃ (v0 v1 v2 v3 v4 v5 : Value) (y0 y1 y2 y3 y4 y5 : DataW H × List MemPlace) (n m : Nat), v = .agg #[v0, v1, v2, v3, v4, v5] ∧ d = .agg [.agg [y0.1, y1.1, y2.1, y3.1], .agg [y4.1, y5.1]] ∧ p = (y0.2 ++ (y1.2 ++ (y2.2 ++ y3.2))) ++ (y4.2 ++ y5.2) ∧
      DataW.trod enc P w base spare held n m0.type [v0] = some y0 ∧ DataW.trod enc P w base spare held n m1.type [v1] = some y1 ∧ DataW.trod enc P w base spare held n m2.type [v2] = some y2 ∧ DataW.trod enc P w base spare held n m3.type [v3] = some y3 ∧
      DataW.trod enc P w base spare held m t0.type [v4] = some y4 ∧ DataW.trod enc P w base spare held m t1.type [v5] = some y5 := by
  obtain ⟨cs, rfl, hsz⟩ := okWide_struct hs hv
  obtain ⟨c0, c1, c2, c3, c4, c5, rfl⟩ := array6 (hsz.trans hC)
  obtain ⟨fuel, hf⟩ := h
  obtain ⟨a, b, n, hx, _, h0, h1⟩ := trod_struct2 hs hf
  obtain ⟨o0, k0, o1, k1⟩ := hO
  have h0' : DataW.trod enc P w base spare held n fM.type [c0, c1, c2, c3] = some a := by simpa [Value.cells, o0, k0] using h0
  have h1' : DataW.trod enc P w base spare held n fT.type [c4, c5] = some b := by simpa [Value.cells, o1, k1] using h1
  obtain ⟨y0, y1, y2, y3, n1, rfl, _, e0, e1, e2, e3⟩ := trod_struct4 hM h0'
  obtain ⟨y4, y5, n2, rfl, _, e4, e5⟩ := trod_struct2 hT h1'
  obtain ⟨p0, q0⟩ := hone_of oneM 0 m0 rfl
  obtain ⟨p1, q1⟩ := hone_of oneM 1 m1 rfl
  obtain ⟨p2, q2⟩ := hone_of oneM 2 m2 rfl
  obtain ⟨p3, q3⟩ := hone_of oneM 3 m3 rfl
  obtain ⟨p4, q4⟩ := hone_of oneT 0 t0 rfl
  obtain ⟨p5, q5⟩ := hone_of oneT 1 t1 rfl
  simp only [Prod.mk.injEq] at hx
  exact ⟨c0, c1, c2, c3, c4, c5, y0, y1, y2, y3, y4, y5, n1, n2, rfl, hx.1, hx.2, by simpa [p0, q0] using e0, by simpa [p1, q1] using e1, by simpa [p2, q2] using e2, by simpa [p3, q3] using e3, by simpa [p4, q4] using e4, by simpa [p5, q5] using e5⟩
end
end Go.Proofs.Ytodkomaeljbhaaa
