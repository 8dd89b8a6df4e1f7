/-
  Patterns as values and in blocks, and the laws' helpers on them. Conditions: only the lengths that are stated.
-/
import Derived.Test.YtpejihckepaojaaArK
import Derived.Test.YtpejihckepaojaaBx
import Derived.Test.YtpejihckepaojaaLat3
namespace Go.Proofs.Ytpejihckepaojaa
open Go.RowKit Go.ChangeShapes Go.WideShapes Go.ChangeAt Go.Joins Go.Deep Go.WideElems
set_option linter.unusedSimpArgs false
set_option linter.unusedVariables false

set_option maxHeartbeats 2000000 in
theorem szPat_any (f A B C : Int) (ao : Option Addr) (n cap : Nat) (z : Int) (w : World) (hn : n ≤ 9223372036854775807) (hz : 0 ≤ z ∧ z ≤ 1048576) :
    Calls Try.prog 8 #[.agg #[.int .i64 f, .int .i64 A, .int .i64 B, .int .i64 C, .slice ao n cap], .int .i64 z] w fun e w' => e = .returned (.int .i64 (if (n : Int) ≤ z then z - n else -1)) ∧ Below w.heap.size w w' := by
  have hn2 : (n : Int) ≤ 9223372036854775807 := by omega
  by_cases h : (n : Int) ≤ z
  · rw [if_pos h]
    have hz2 := hz.2
    go_enter Try.func8, Try.ntmps8
    go_wp2_with fail
    refine (szInt_any ao n cap z _ hn hz).mono ?_
    rintro e w1 ⟨rfl, hb1⟩
    rw [if_pos h]
    go_wp2
    go_ret
    exact ⟨rfl, bstep ((Below.refl _ _).alloc (Nat.le_refl _) _) hb1⟩
  · rw [if_neg h]
    have H := Lib.hid h
    go_enter Try.func8, Try.ntmps8
    go_wp2_with fail
    refine (szInt_any ao n cap z _ hn hz).mono ?_
    rintro e w1 ⟨rfl, hb1⟩
    rw [if_neg (show ¬ ((n : Int) ≤ z) by have := H.out; omega)]
    go_wp2
    go_ret
    exact ⟨rfl, bstep ((Below.refl _ _).alloc (Nat.le_refl _) _) hb1⟩
set_option maxHeartbeats 4000000 in
theorem toPat_any {v : Value} {n : Nat} {F : Nat → Int} {w : World} (f A B C : Int) (h : ARw v n F w) (hn : n ≤ 1048576) :
    Calls Try.prog 10 #[.agg #[.int .i64 f, .int .i64 A, .int .i64 B, .int .i64 C, v]] w fun e w' => ∃ v' : Value, e = .returned (.agg #[.int .i64 f, .int .i64 A, .int .i64 B, .int .i64 C, v']) ∧ SRow w.heap.size w'.heap.size 1 v' n F w' ∧ Below w.heap.size w w' := by
  have HA := Lib.hid h
  obtain ⟨ao, cap, rfl, _⟩ := h
  have P0 : Bx w.heap.size [.int .i64 f, .int .i64 A, .int .i64 B, .int .i64 C, (.slice ao n cap)] (((w.alloc (.cells #[.int .i64 f, .int .i64 A, .int .i64 B, .int .i64 C, .slice ao n cap] 26)).alloc (.cells #[.int .i64 0, .int .i64 0, .int .i64 0, .int .i64 0, .slice none 0 0] 31)).alloc (.cells #[.int .i64 f, .int .i64 0, .int .i64 0, .int .i64 0, .slice none 0 0] 31)) := ((Bx.at _ rfl).alloc _).alloc _
  have R0 : BX (w.heap.size + 1) [.int .i64 0, .int .i64 0, .int .i64 0, .int .i64 0, (.slice none 0 0)] (((w.alloc (.cells #[.int .i64 f, .int .i64 A, .int .i64 B, .int .i64 C, .slice ao n cap] 26)).alloc (.cells #[.int .i64 0, .int .i64 0, .int .i64 0, .int .i64 0, .slice none 0 0] 31)).alloc (.cells #[.int .i64 f, .int .i64 0, .int .i64 0, .int .i64 0, .slice none 0 0] 31)) := (BX.at _ (by simp)).alloc _
  have O0 : BX (w.heap.size + 1 + 1) [.int .i64 f, .int .i64 0, .int .i64 0, .int .i64 0, (.slice none 0 0)] (((w.alloc (.cells #[.int .i64 f, .int .i64 A, .int .i64 B, .int .i64 C, .slice ao n cap] 26)).alloc (.cells #[.int .i64 0, .int .i64 0, .int .i64 0, .int .i64 0, .slice none 0 0] 31)).alloc (.cells #[.int .i64 f, .int .i64 0, .int .i64 0, .int .i64 0, .slice none 0 0] 31)) := BX.at _ (by simp)
  have B0 : Below w.heap.size w (((w.alloc (.cells #[.int .i64 f, .int .i64 A, .int .i64 B, .int .i64 C, .slice ao n cap] 26)).alloc (.cells #[.int .i64 0, .int .i64 0, .int .i64 0, .int .i64 0, .slice none 0 0] 31)).alloc (.cells #[.int .i64 f, .int .i64 0, .int .i64 0, .int .i64 0, .slice none 0 0] 31)) := by repeat (first | with_reducible exact Below.refl _ _ | with_reducible assumption | with_reducible refine Below.setCell ?_ (by first | omega | (dsimp only; omega) | (simp <;> omega)) _ | with_reducible refine Below.alloc ?_ (by first | omega | (simp <;> omega)) _ | with_reducible refine bstep ?_ (by with_reducible assumption) | with_reducible refine Below.drew ?_ | with_reducible refine below_drewN ?_ _)
  go_enter Try.func10, Try.ntmps10
  go_wp2_with fail
  with_reducible refine (toLat_any A B C _).mono ?_
  rintro e w1 ⟨rfl, hb1⟩
  have P1 : Bx w.heap.size [.int .i64 f, .int .i64 A, .int .i64 B, .int .i64 C, (.slice ao n cap)] w1 := P0.call hb1
  have R1 : BX (w.heap.size + 1) [.int .i64 0, .int .i64 0, .int .i64 0, .int .i64 0, (.slice none 0 0)] w1 := R0.call hb1
  have O1 : BX (w.heap.size + 1 + 1) [.int .i64 f, .int .i64 0, .int .i64 0, .int .i64 0, (.slice none 0 0)] w1 := O0.call hb1
  have B1 : Below w.heap.size w w1 := bstep B0 hb1
  clear P0 R0 O0 B0 hb1
  have p1c0 := P1.c0
  have p1c1 := P1.c1
  have p1c2 := P1.c2
  have p1c3 := P1.c3
  have p1c4 := P1.c4
  have p1l := P1.lt
  have o1c0 := O1.c0
  have o1c1 := O1.c1
  have o1c2 := O1.c2
  have o1c3 := O1.c3
  have o1c4 := O1.c4
  have o1f0 := O1.f0
  have o1f1 := O1.f1
  have o1f2 := O1.f2
  have o1f3 := O1.f3
  have o1f4 := O1.f4
  have o1l := O1.lt
  go_wp2_with fail
  with_reducible refine (toInt_any ((HA.out).call ?_) hn).mono ?_
  · repeat (first | with_reducible exact Below.refl _ _ | with_reducible assumption | with_reducible refine Below.setCell ?_ (by first | omega | (dsimp only; omega) | (simp <;> omega)) _ | with_reducible refine Below.alloc ?_ (by first | omega | (simp <;> omega)) _ | with_reducible refine bstep ?_ (by with_reducible assumption) | with_reducible refine Below.drew ?_ | with_reducible refine below_drewN ?_ _)
  rintro e w2 ⟨v', rfl, r1, hb2⟩
  have R2 : BX (w.heap.size + 1) [.int .i64 0, .int .i64 0, .int .i64 0, .int .i64 0, (.slice none 0 0)] w2 := (BX.far (by dsimp only; omega) (BX.far (by dsimp only; omega) (BX.far (by dsimp only; omega) R1))).call hb2
  have O2 : BX (w.heap.size + 1 + 1) [.int .i64 f, .int .i64 A, .int .i64 B, .int .i64 C, (.slice none 0 0)] w2 := (((O1.store 1 (by simp) (.int .i64 A)).store 2 (by simp) (.int .i64 B)).store 3 (by simp) (.int .i64 C)).call hb2
  have B2 : Below w.heap.size w w2 := bstep (((B1.setCell (by dsimp only; omega) _).setCell (by dsimp only; omega) _).setCell (by dsimp only; omega) _) hb2
  have HR := Lib.hid (r1.low (lo' := w.heap.size + 3) (by have := O1.lt; simp [World.setCell]; omega))
  obtain ⟨ao', cap', rfl⟩ := r1.slice
  have HB := Lib.hid B2
  clear r1 hb2 P1 R1 O1 B1 B2 p1c0 p1c1 p1c2 p1c3 p1c4 p1l o1c0 o1f0 o1c1 o1f1 o1c2 o1f2 o1c3 o1f3 o1c4 o1f4 o1l
  have r2c0 := R2.c0
  have r2c1 := R2.c1
  have r2c2 := R2.c2
  have r2c3 := R2.c3
  have r2c4 := R2.c4
  have r2f0 := R2.f0
  have r2f1 := R2.f1
  have r2f2 := R2.f2
  have r2f3 := R2.f3
  have r2f4 := R2.f4
  have r2l := R2.lt
  have o2c0 := O2.c0
  have o2c1 := O2.c1
  have o2c2 := O2.c2
  have o2c3 := O2.c3
  have o2c4 := O2.c4
  have o2f0 := O2.f0
  have o2f1 := O2.f1
  have o2f2 := O2.f2
  have o2f3 := O2.f3
  have o2f4 := O2.f4
  have o2l := O2.lt
  go_wp2
  refine bodyPost_ret (v := .agg #[.int .i64 f, .int .i64 A, .int .i64 B, .int .i64 C, (.slice ao' n cap')]) (by simp [results, Try.results10, go_sem, *]) rfl ⟨_, rfl, ?_, ?_⟩
  · refine SRow.up (hi := w2.heap.size) (SRow.low (lo := w.heap.size + 3) ?_ (by omega))
    repeat (first | with_reducible exact HR.out | with_reducible refine SRow.put (by first | omega | (dsimp only; omega)) _ ?_)
  · have hB := HB.out
    repeat (first | with_reducible exact Below.refl _ _ | with_reducible assumption | with_reducible refine Below.setCell ?_ (by first | omega | (dsimp only; omega) | (simp <;> omega)) _ | with_reducible refine Below.alloc ?_ (by first | omega | (simp <;> omega)) _ | with_reducible refine bstep ?_ (by with_reducible assumption) | with_reducible refine Below.drew ?_ | with_reducible refine below_drewN ?_ _)
set_option maxHeartbeats 4000000 in
theorem eqPat_any {lo hi lo' hi' n : Nat} {v v' : Value} {F : Nat → Int} {w : World} (f A B C : Int) (h1 : SRow lo hi 1 v n F w) (h2 : SRow lo' hi' 1 v' n F w) :
    Calls Try.prog 12 #[.agg #[.int .i64 f, .int .i64 A, .int .i64 B, .int .i64 C, v], .agg #[.int .i64 f, .int .i64 A, .int .i64 B, .int .i64 C, v']] w fun e w' => e = .returned (.bool true) ∧ Below w.heap.size w w' := by
  have R1 := Lib.hid h1
  have R2 := Lib.hid h2
  obtain ⟨ao, cap, rfl⟩ := h1.slice
  obtain ⟨ao', cap', rfl⟩ := h2.slice
  clear h1 h2
  have P0 : Bx w.heap.size [.int .i64 f, .int .i64 A, .int .i64 B, .int .i64 C, (.slice ao n cap)] ((w.alloc (.cells #[.int .i64 f, .int .i64 A, .int .i64 B, .int .i64 C, .slice ao n cap] 31)).alloc (.cells #[.int .i64 f, .int .i64 A, .int .i64 B, .int .i64 C, .slice ao' n cap'] 31)) := (Bx.at _ rfl).alloc _
  have Q0 : Bx (w.heap.size + 1) [.int .i64 f, .int .i64 A, .int .i64 B, .int .i64 C, (.slice ao' n cap')] ((w.alloc (.cells #[.int .i64 f, .int .i64 A, .int .i64 B, .int .i64 C, .slice ao n cap] 31)).alloc (.cells #[.int .i64 f, .int .i64 A, .int .i64 B, .int .i64 C, .slice ao' n cap'] 31)) := Bx.at _ (by simp)
  have B0 : Below w.heap.size w ((w.alloc (.cells #[.int .i64 f, .int .i64 A, .int .i64 B, .int .i64 C, .slice ao n cap] 31)).alloc (.cells #[.int .i64 f, .int .i64 A, .int .i64 B, .int .i64 C, .slice ao' n cap'] 31)) := by repeat (first | with_reducible exact Below.refl _ _ | with_reducible assumption | with_reducible refine Below.setCell ?_ (by first | omega | (dsimp only; omega) | (simp <;> omega)) _ | with_reducible refine Below.alloc ?_ (by first | omega | (simp <;> omega)) _ | with_reducible refine bstep ?_ (by with_reducible assumption) | with_reducible refine Below.drew ?_ | with_reducible refine below_drewN ?_ _)
  go_enter Try.func12, Try.ntmps12
  go_wp2_with fail
  with_reducible refine (eqLat_any A B C A B C _).mono ?_
  rintro e w1 ⟨rfl, hb1⟩
  rw [eqT_rfl]
  have P1 := P0.call hb1
  have Q1 := Q0.call hb1
  have B1 := bstep B0 hb1
  clear P0 Q0 B0 hb1
  have p4 := P1.c4
  have q4 := Q1.c4
  have pl := P1.lt
  have ql := Q1.lt
  go_wp2_with fail
  with_reducible refine (eqInt64S_any (R1.out.call B1) (R2.out.call B1)).mono ?_
  rintro e w2 ⟨rfl, hb2⟩
  go_wp2
  go_ret
  exact ⟨rfl, bstep B1 hb2⟩
set_option maxHeartbeats 4000000 in
theorem markPat_any {lo hi n : Nat} {v : Value} {F : Nat → Int} {w : World} (f A B C : Int) (h : SRow lo hi 1 v n F w) (hl : lo ≤ hi) :
    Calls Try.prog 22 #[.agg #[.int .i64 f, .int .i64 A, .int .i64 B, .int .i64 C, v], .int .i64 1] w fun e w' => e = .returned (.int .i64 ((n : Int) * 1 + 1)) ∧ SRow lo hi 1 v n mark1 w' ∧ Below lo w w' ∧ KeepV v w w' := by
  have R1 := Lib.hid h
  have hn := h.2.1
  have hh := Lib.hid (show hi ≤ w.heap.size ∧ lo ≤ hi from ⟨h.1, hl⟩)
  obtain ⟨ao, cap, rfl⟩ := h.slice
  clear h hl
  go_enter Try.func22, Try.ntmps22
  go_wp2_with fail
  refine (markInt_any (R1.out.call ?_)).mono ?_
  · repeat (first | with_reducible exact Below.refl _ _ | with_reducible assumption | with_reducible refine Below.setCell ?_ (by first | omega | (dsimp only; omega) | (simp <;> omega)) _ | with_reducible refine Below.alloc ?_ (by first | omega | (simp <;> omega)) _ | with_reducible refine bstep ?_ (by with_reducible assumption) | with_reducible refine Below.drew ?_ | with_reducible refine below_drewN ?_ _)
  rintro e w1 ⟨rfl, r1, hb1, hk1⟩
  have R2 := Lib.hid r1
  have hB2 : Below lo w w1 := (show Below lo w _ from (Below.refl _ _).alloc (by have := hh.out; omega) _).trans hb1
  have HB := Lib.hid hB2
  have HK := Lib.hid (show KeepV (.slice ao n cap) w w1 from fun b h1 h2 => (hk1 b h1 (by simp; omega)).trans (((Below.refl w.heap.size w).alloc (Nat.le_refl _) _).block b h2))
  clear r1 hb1 hk1 hB2
  go_wp2
  go_ret
  exact ⟨ret_int (by omega), R2.out, HB.out, HK.out⟩
set_option maxHeartbeats 4000000 in
theorem heldPat_any {lo hi n : Nat} {v : Value} {w : World} (f A B C : Int) (h : SRow lo hi 1 v n mark1 w) :
    Calls Try.prog 28 #[.agg #[.int .i64 f, .int .i64 A, .int .i64 B, .int .i64 C, v], .int .i64 1] w fun e w' => e = .returned (.int .i64 ((n : Int) * 1 + 1)) ∧ Below w.heap.size w w' := by
  have R1 := Lib.hid h
  have hn := h.2.1
  obtain ⟨ao, cap, rfl⟩ := h.slice
  clear h
  go_enter Try.func28, Try.ntmps28
  go_wp2_with fail
  refine (heldInt64S_any (R1.out.call ?_)).mono ?_
  · repeat (first | with_reducible exact Below.refl _ _ | with_reducible assumption | with_reducible refine Below.setCell ?_ (by first | omega | (dsimp only; omega) | (simp <;> omega)) _ | with_reducible refine Below.alloc ?_ (by first | omega | (simp <;> omega)) _ | with_reducible refine bstep ?_ (by with_reducible assumption) | with_reducible refine Below.drew ?_ | with_reducible refine below_drewN ?_ _)
  rintro e w1 ⟨rfl, hb1⟩
  have hk : ¬ ((n : Int) * 1 + 1 < 0) := by omega
  go_wp2
  go_ret
  exact ⟨ret_int (by omega), bstep (by repeat (first | with_reducible exact Below.refl _ _ | with_reducible assumption | with_reducible refine Below.setCell ?_ (by first | omega | (dsimp only; omega) | (simp <;> omega)) _ | with_reducible refine Below.alloc ?_ (by first | omega | (simp <;> omega)) _ | with_reducible refine bstep ?_ (by with_reducible assumption) | with_reducible refine Below.drew ?_ | with_reducible refine below_drewN ?_ _)) hb1⟩
section
variable {H : Type} {enc : TypeId × Value → H} {P : Program} {w : World} {base : Nat} {held : Bool}
theorem array5 {α : Type} {cs : Array α} (h : cs.size = 5) : ∃ c0 c1 c2 c3 c4, cs = #[c0, c1, c2, c3, c4] := by
  obtain ⟨l⟩ := cs
  match l, h with
  | [c0, c1, c2, c3, c4], _ => exact ⟨c0, c1, c2, c3, c4, rfl⟩
theorem open_pat {r : Reach} {b0 : Nat} {t e : TypeId} {fA fB fC m0 m1 m2 : Field} {v : Value} {d : DataW H} {p : List MemPlace} (hs : P.underlying t = some (.struct #[fA, fB, fC]))
    (hA : P.underlying fA.type = some (.int .i64)) (hM : P.underlying fB.type = some (.struct #[m0, m1, m2])) (oneM : oneCellFields P #[m0, m1, m2] = true) (h0 : P.underlying m0.type = some (.int .i64)) (h1 : P.underlying m1.type = some (.int .i64)) (h2 : P.underlying m2.type = some (.int .i64))
    (hS : P.underlying fC.type = some (.slice e)) (he : P.underlying e = some (.int .i64)) (hc : P.cellsOf e = 1)
    (hO : fA.offset = 0 ∧ P.cellsOf fA.type = 1 ∧ fB.offset = 1 ∧ P.cellsOf fB.type = 3 ∧ fC.offset = 4 ∧ P.cellsOf fC.type = 1) (hC : P.cellsOf t = 5)
    (hv : Value.okWide P w r b0 t v) (h : DataW.Trod enc P w base (fun _ => true) held t v d p) :
    ∃ (f A B C : Int) (u : Value) (n : Nat) (F : Nat → Int), v = .agg #[.int .i64 f, .int .i64 A, .int .i64 B, .int .i64 C, u] ∧ ARw u n F w ∧ n ≤ 9223372036854775807 := by
  obtain ⟨cs, rfl, hsz⟩ := okWide_struct hs hv
  obtain ⟨c0, c1, c2, c3, c4, rfl⟩ := array5 (hsz.trans hC)
  obtain ⟨fuel, hf⟩ := h
  obtain ⟨a, b, c, n, hx, _, g0, g1, g2⟩ := trod_struct3 hs hf
  obtain ⟨o0, k0, o1, k1, o2, k2⟩ := hO
  have g0' : DataW.trod enc P w base (fun _ => true) held n fA.type [c0] = some a := by simpa [Value.cells, o0, k0] using g0
  have g1' : DataW.trod enc P w base (fun _ => true) held n fB.type [c1, c2, c3] = some b := by simpa [Value.cells, o1, k1] using g1
  have g2' : DataW.trod enc P w base (fun _ => true) held n fC.type [c4] = some c := by simpa [Value.cells, o2, k2] using g2
  obtain ⟨y0, y1, y2, n1, rfl, _, e0, e1, e2⟩ := trod_struct3 hM g1'
  obtain ⟨p0, q0⟩ := hone_of oneM 0 m0 rfl
  obtain ⟨p1, q1⟩ := hone_of oneM 1 m1 rfl
  obtain ⟨p2, q2⟩ := hone_of oneM 2 m2 rfl
  have e0' : DataW.trod enc P w base (fun _ => true) held n1 m0.type [c1] = some y0 := by simpa [p0, q0] using e0
  have e1' : DataW.trod enc P w base (fun _ => true) held n1 m1.type [c2] = some y1 := by simpa [p1, q1] using e1
  have e2' : DataW.trod enc P w base (fun _ => true) held n1 m2.type [c3] = some y2 := by simpa [p2, q2] using e2
  obtain ⟨f, r0, _, _⟩ := DataW.trod_int hA g0'
  obtain ⟨A, r1, _, _⟩ := DataW.trod_int h0 e0'
  obtain ⟨B, r2, _, _⟩ := DataW.trod_int h1 e1'
  obtain ⟨C, r3, _, _⟩ := DataW.trod_int h2 e2'
  simp at r0 r1 r2 r3
  subst r0 r1 r2 r3
  rcases open_ints hS he hc g2' with ⟨hcs, _⟩ | ⟨x, l, cp, zs, hcs, _, hl, hm, hz, _, hcell, _⟩
  · simp at hcs
    exact ⟨f, A, B, C, c4, 0, fun _ => 0, rfl, ⟨none, 0, hcs, fun t ht => by omega⟩, by omega⟩
  · simp at hcs
    simp only [if_true] at hz
    refine ⟨f, A, B, C, c4, l, fun t => zs.getD t 0, rfl, ⟨some x, cp, hcs, fun t ht => ?_⟩, ?_⟩
    · have h9 := hcell t (by omega)
      refine ⟨x, rfl, ?_, h9⟩
      have := World.block_lt_of_cell? _ _ h9
      rwa [add_block] at this
    · have : maxLen ≤ 9223372036854775807 := by unfold maxLen; omega
      omega
end
end Go.Proofs.Ytpejihckepaojaa
