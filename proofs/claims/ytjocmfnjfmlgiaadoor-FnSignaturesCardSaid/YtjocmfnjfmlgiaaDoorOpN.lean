/-
  Facts by value, opened: four numbers and a truth value written out; and the cells of a listed array of names, signatures and orders. Conditions: the types are structs of one-cell fields.
-/
import Derived.Test.YtjocmfnjfmlgiaaDoorProg
import Derived.Lib.SmallJoins
import Derived.Lib.LaidTab
import Derived.Deep.Strs
import Derived.DeepKeys2
import Derived.Deep.MidRow
namespace Go.Proofs.YtjocmfnjfmlgiaaDoor
open Go.RowKit Go.ChangeShapes Go.WideShapes Go.ChangeAt Go.Joins Go.Deep Go.WideElems
set_option linter.unusedVariables false
section
variable {H : Type} {enc : TypeId × Value → H} {P : Program} {w : World} {base : Nat} {spare : Nat → Bool} {held : Bool}
theorem open_fct {r : Reach} {b0 : Nat} {t : TypeId} {f0 f1 f2 f3 f4 : Field} {v : Value} {d : DataW H} {p : List MemPlace} (hs : P.underlying t = some (.struct #[f0, f1, f2, f3, f4])) (one : oneCellFields P #[f0, f1, f2, f3, f4] = true) (hC : P.cellsOf t = 5)
    (h0 : P.underlying f0.type = some (.int .i64)) (h1 : P.underlying f1.type = some (.int .i64)) (h2 : P.underlying f2.type = some (.int .i64)) (h3 : P.underlying f3.type = some (.int .i64)) (h4 : P.underlying f4.type = some .bool)
    (hv : Value.okWide P w r b0 t v) (h : DataW.Trod enc P w base spare held t v d p) :
    ∃ (a b c e : Int) (al : Bool), v = .agg #[.int .i64 a, .int .i64 b, .int .i64 c, .int .i64 e, .bool al] := by
  obtain ⟨cs, rfl, hsz⟩ := okWide_struct hs hv
  obtain ⟨c0, c1, c2, c3, c4, rfl⟩ : ∃ c0 c1 c2 c3 c4, cs = #[c0, c1, c2, c3, c4] := by
    obtain ⟨l⟩ := cs
    match l, hsz.trans hC with
    | [c0, c1, c2, c3, c4], _ => exact ⟨c0, c1, c2, c3, c4, rfl⟩
  obtain ⟨fuel, hf⟩ := h
  obtain ⟨xs, n, _, _, hl, hlen, hx⟩ := DataW.trod_struct hs hf
  match xs, hlen with
  | [y0, y1, y2, y3, y4], _ =>
    obtain ⟨p0, q0⟩ := hone_of one 0 f0 rfl
    obtain ⟨p1, q1⟩ := hone_of one 1 f1 rfl
    obtain ⟨p2, q2⟩ := hone_of one 2 f2 rfl
    obtain ⟨p3, q3⟩ := hone_of one 3 f3 rfl
    obtain ⟨p4, q4⟩ := hone_of one 4 f4 rfl
    have e0 : DataW.trod enc P w base spare held n f0.type [c0] = some y0 := by simpa [Value.cells, p0, q0] using hx 0 f0 rfl
    have e1 : DataW.trod enc P w base spare held n f1.type [c1] = some y1 := by simpa [Value.cells, p1, q1] using hx 1 f1 rfl
    have e2 : DataW.trod enc P w base spare held n f2.type [c2] = some y2 := by simpa [Value.cells, p2, q2] using hx 2 f2 rfl
    have e3 : DataW.trod enc P w base spare held n f3.type [c3] = some y3 := by simpa [Value.cells, p3, q3] using hx 3 f3 rfl
    have e4 : DataW.trod enc P w base spare held n f4.type [c4] = some y4 := by simpa [Value.cells, p4, q4] using hx 4 f4 rfl
    obtain ⟨a, r0, _, _⟩ := DataW.trod_int h0 e0
    obtain ⟨b, r1, _, _⟩ := DataW.trod_int h1 e1
    obtain ⟨c, r2, _, _⟩ := DataW.trod_int h2 e2
    obtain ⟨e, r3, _, _⟩ := DataW.trod_int h3 e3
    obtain ⟨al, r4, _⟩ := DataW.trod_bool h4 e4
    simp at r0 r1 r2 r3 r4
    subst r0 r1 r2 r3 r4
    exact ⟨a, b, c, e, al, rfl⟩
/- an array of structs of two strings and a number -/
def rec3 (s t : ByteArray) (n : Int) : DataW H := .agg [.lit (.string s.data.toList), .lit (.string t.data.toList), .lit (.int .i64 n)]
theorem data_inj {s t : ByteArray} (h : s.data.toList = t.data.toList) : s = t := by
  rcases s with ⟨⟨a⟩⟩
  rcases t with ⟨⟨b⟩⟩
  simp at h
  subst h
  rfl
theorem cells_of_recs {fuel n : Nat} {t e : TypeId} {f0 f1 f2 : Field} {cs : List Value} {p : List MemPlace} {A B : Nat → ByteArray} {C : Nat → Int} (ht : P.underlying t = some (.array n e)) (he : P.underlying e = some (.struct #[f0, f1, f2])) (one : oneCellFields P #[f0, f1, f2] = true)
    (h0 : P.underlying f0.type = some .string) (h1 : P.underlying f1.type = some .string) (h2 : P.underlying f2.type = some (.int .i64)) (hce : P.cellsOf e = 3) (hct : P.cellsOf t = n * 3)
    (h : DataW.trod enc P w base spare held fuel t cs = some (.agg ((List.range n).map fun k => rec3 (A k) (B k) (C k)), p)) : cs = ((List.range n).map fun k => [Value.string (A k), .string (B k), .int .i64 (C k)]).flatten := by
  cases fuel with
  | zero => simp [DataW.trod] at h
  | succ fuel =>
    simp only [DataW.trod, ht, hce, hct] at h
    split at h
    · rename_i hl
      obtain ⟨xs, hm, hx⟩ := Option.map_eq_some_iff.1 h
      have hxs : xs.map (·.1) = (List.range n).map fun k => (rec3 (A k) (B k) (C k) : DataW H) := by
        have := congrArg Prod.fst hx
        simpa using this
      rw [← chunks_flatten 3 n cs hl]
      congr 1
      refine List.map_congr_left fun i hi => ?_
      have hi := List.mem_range.1 hi
      obtain ⟨b, hb, hf⟩ := Lib.mapM_at hm i i (by simp [hi])
      have hb2 : b.1 = rec3 (A i) (B i) (C i) := by
        have h9 : (xs.map (·.1))[i]? = some b.1 := by simp [hb]
        rw [hxs] at h9
        simpa [hi] using h9.symm
      have hlen : ((cs.drop (i * 3)).take 3).length = 3 := by
        simp
        omega
      obtain ⟨c0, c1, c2, hc⟩ : ∃ c0 c1 c2, (cs.drop (i * 3)).take 3 = [c0, c1, c2] := by
        match hq : (cs.drop (i * 3)).take 3, hlen with
        | [c0, c1, c2], _ => exact ⟨c0, c1, c2, rfl⟩
      rw [hc] at hf ⊢
      obtain ⟨y0, y1, y2, m, rfl, _, g0, g1, g2⟩ := trod_struct3 he hf
      obtain ⟨p0, q0⟩ := hone_of one 0 f0 rfl
      obtain ⟨p1, q1⟩ := hone_of one 1 f1 rfl
      obtain ⟨p2, q2⟩ := hone_of one 2 f2 rfl
      have g0' : DataW.trod enc P w base spare held m f0.type [c0] = some y0 := by simpa [p0, q0] using g0
      have g1' : DataW.trod enc P w base spare held m f1.type [c1] = some y1 := by simpa [p1, q1] using g1
      have g2' : DataW.trod enc P w base spare held m f2.type [c2] = some y2 := by simpa [p2, q2] using g2
      obtain ⟨s0, r0, z0, _⟩ := DataW.trod_string h0 g0'
      obtain ⟨s1, r1, z1, _⟩ := DataW.trod_string h1 g1'
      obtain ⟨k2, r2, z2, _⟩ := DataW.trod_int h2 g2'
      simp only [rec3, DataW.agg.injEq, List.cons.injEq, and_true] at hb2
      rw [z0, z1, z2] at hb2
      simp only [DataW.lit.injEq, Lit.string.injEq, Lit.int.injEq, true_and] at hb2
      obtain ⟨b0, b1, b2⟩ := hb2
      simp only [List.cons.injEq, and_true] at r0 r1 r2
      rw [r0, r1, r2, data_inj b0, data_inj b1, b2]
    · cases h
end
end Go.Proofs.YtjocmfnjfmlgiaaDoor
