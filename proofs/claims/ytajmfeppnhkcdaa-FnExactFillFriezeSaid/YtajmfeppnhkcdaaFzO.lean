/-
  A frieze and a frieze motion by value, opened: their fields written out, and the slice of colours as a row of numbers. Condition: the types are structs of one-cell fields.
-/
import Derived.Test.YtajmfeppnhkcdaaFzK
namespace Go.Proofs.Ytajmfeppnhkcdaa
open Go.RowKit Go.ChangeShapes Go.WideShapes Go.ChangeAt Go.Joins Go.Deep Go.WideElems
set_option linter.unusedVariables false
section
variable {H : Type} {enc : TypeId × Value → H} {P : Program} {w : World} {base : Nat} {held : Bool}
theorem open_fri {r : Reach} {b0 : Nat} {t e : TypeId} {fA fB fC : Field} {v : Value} {d : DataW H} {p : List MemPlace} (hs : P.underlying t = some (.struct #[fA, fB, fC])) (one : oneCellFields P #[fA, fB, fC] = true) (hC : P.cellsOf t = 3)
    (hA : P.underlying fA.type = some (.int .i64)) (hB : P.underlying fB.type = some (.int .i64)) (hS : P.underlying fC.type = some (.slice e)) (he : P.underlying e = some (.int .i64)) (hc : P.cellsOf e = 1)
    (hv : Value.okWide P w r b0 t v) (h : DataW.Trod enc P w base (fun _ => true) held t v d p) :
    ∃ (a b : Int) (u : Value) (n : Nat) (F : Nat → Int), v = .agg #[.int .i64 a, .int .i64 b, u] ∧ ARw u n F w ∧ n ≤ 9223372036854775807 := by
  obtain ⟨c0, c1, c2, y0, y1, y2, m, rfl, rfl, rfl, h0, h1, h2⟩ := open_agg3 hs one hC hv h
  obtain ⟨a, e0, rfl, _⟩ := DataW.trod_int hA h0
  obtain ⟨b, e1, rfl, _⟩ := DataW.trod_int hB h1
  simp at e0 e1
  subst e0 e1
  rcases open_ints hS he hc h2 with ⟨hcs, _⟩ | ⟨x, l, c, zs, hcs, _, hl, hm, hz, _, hcell, _⟩
  · simp at hcs
    exact ⟨a, b, c2, 0, fun _ => 0, rfl, ⟨none, 0, hcs, fun t ht => by omega⟩, by omega⟩
  · simp at hcs
    simp only [if_true] at hz
    refine ⟨a, b, c2, l, fun t => zs.getD t 0, rfl, ⟨some x, c, hcs, fun t ht => ?_⟩, ?_⟩
    · have h9 := hcell t (by omega)
      refine ⟨x, rfl, ?_, h9⟩
      have := World.block_lt_of_cell? _ _ h9
      rwa [add_block] at this
    · have : maxLen ≤ 9223372036854775807 := by unfold maxLen; omega
      omega
theorem open_fmo {r : Reach} {b0 : Nat} {t : TypeId} {fA fB fC : Field} {v : Value} {d : DataW H} {p : List MemPlace} (hs : P.underlying t = some (.struct #[fA, fB, fC])) (one : oneCellFields P #[fA, fB, fC] = true) (hC : P.cellsOf t = 3)
    (hA : P.underlying fA.type = some .bool) (hB : P.underlying fB.type = some .bool) (hI : P.underlying fC.type = some (.int .i64))
    (hv : Value.okWide P w r b0 t v) (h : DataW.Trod enc P w base (fun _ => true) held t v d p) :
    ∃ (a b : Bool) (s : Int), v = .agg #[.bool a, .bool b, .int .i64 s] ∧ (Lit.int .i64 s).wf = true := by
  obtain ⟨c0, c1, c2, y0, y1, y2, m, rfl, rfl, rfl, h0, h1, h2⟩ := open_agg3 hs one hC hv h
  obtain ⟨a, e0, _⟩ := DataW.trod_bool hA h0
  obtain ⟨b, e1, _⟩ := DataW.trod_bool hB h1
  obtain ⟨s, e2, rfl, hw⟩ := DataW.trod_int hI h2
  simp at e0 e1 e2
  subst e0 e1 e2
  exact ⟨a, b, s, rfl, hw⟩
end
end Go.Proofs.Ytajmfeppnhkcdaa
