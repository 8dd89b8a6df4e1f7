/-
  The lean pattern, in the program and in the model. Conditions: a slice that lies in a block of its own; the program's variable unitMatrix holds the unit.
-/
import Derived.Test.YtpejihckepaojaaDoorPtX
import Derived.Test.YtpejihckepaojaaDoorPtL
namespace Go.Proofs.YtpejihckepaojaaDoor
open Go.RowKit
set_option linter.unusedSimpArgs false
set_option linter.unusedVariables false

def leaP (A B C : Int) (F : Nat → Int) : Nat := (fulI A B C F).1.toNat
def leaQ (A B C : Int) (F : Nat → Int) : Nat := (fulI A B C F).2.2.toNat
theorem fulI_at {A B C : Int} {F : Nat → Int} (h : latI A B C) : fulI A B C F = ((leaP A B C F : Int), (fulI A B C F).2.1, (leaQ A B C F : Int)) ∧ latI (leaP A B C F : Int) (fulI A B C F).2.1 (leaQ A B C F : Int) := by
  have hl : latI (fulI A B C F).1 (fulI A B C F).2.1 (fulI A B C F).2.2 := fulP_lat h F _
  have h1 := hl.1
  have h2 := hl.2.1
  have e1 : ((leaP A B C F : Nat) : Int) = (fulI A B C F).1 := by unfold leaP; omega
  have e2 : ((leaQ A B C F : Nat) : Int) = (fulI A B C F).2.2 := by unfold leaQ; omega
  rw [e1, e2]
  exact ⟨rfl, hl⟩
set_option maxRecDepth 100000 in
set_option maxHeartbeats 16000000 in
theorem lean_any {lo hi p q n p' q' : Nat} {f B B' : Int} {v : Value} {F : Nat → Int} {W : World} (h : PatI f p B q n F) (hf : fulI (p : Int) B (q : Int) F = ((p' : Int), B', (q' : Int))) (hl : latI (p' : Int) B' (q' : Int)) (hv : SRow lo hi 1 v n F W) (hU : UnitOK W) :
    Calls Tryd.prog 29 #[.agg #[.int .i64 f, .int .i64 (p : Int), .int .i64 B, .int .i64 (q : Int), v]] W (fun e w' => ∃ v' : Value, e = .returned (.agg #[.int .i64 f, .int .i64 (p' : Int), .int .i64 B', .int .i64 (q' : Int), v']) ∧ SRow W.heap.size w'.heap.size 1 v' (p' * q') (onG (p : Int) B (q : Int) F p' q') w' ∧ Below W.heap.size W w') := by
  have R := Lib.hid hv
  have HH := Lib.hid h
  have HL := Lib.hid hl
  have HU := Lib.hid hU
  obtain ⟨hp1, hp2, hq1, hq2, hn64, hn1⟩ := h.bd
  obtain ⟨g, cap, rfl, hg, _, r⟩ := hv.irow hn1
  have hgs := hv.1
  have hgw : g < W.heap.size := by omega
  have HFL := Lib.hid (fun (X : World) (hX : Below W.heap.size W X) => (show Calls Tryd.prog 40 #[.agg #[.int .i64 f, .int .i64 (p : Int), .int .i64 B, .int .i64 (q : Int), .slice (some ⟨g, 0, none⟩) n cap]] X (fun e w' => e = .returned (.agg #[.int .i64 ((p' : Int)), .int .i64 B', .int .i64 ((q' : Int))]) ∧ Below X.heap.size X w') from by
    have h9 := fullLat_any HH.out (R.out.call hX)
    rw [hf] at h9
    exact h9))
  have HSP := Lib.hid (fun (X : World) (hX : Below W.heap.size W X) => spread_any HH.out HL.out (R.out.call hX) (HU.out.call hX))
  have P0 : Bx W.heap.size [.int .i64 f, .int .i64 (p : Int), .int .i64 B, .int .i64 (q : Int), .slice (some ⟨g, 0, none⟩) n cap] ((W.alloc (.cells #[.int .i64 f, .int .i64 (p : Int), .int .i64 B, .int .i64 (q : Int), .slice (some ⟨g, 0, none⟩) n cap] 30)).alloc (.cells #[.int .i64 0, .int .i64 0, .int .i64 0, .int .i64 0, .slice none 0 0] 30)) := (Bx.at _ rfl).alloc _
  have R0 : BX (W.heap.size + 1) [.int .i64 0, .int .i64 0, .int .i64 0, .int .i64 0, .slice none 0 0] ((W.alloc (.cells #[.int .i64 f, .int .i64 (p : Int), .int .i64 B, .int .i64 (q : Int), .slice (some ⟨g, 0, none⟩) n cap] 30)).alloc (.cells #[.int .i64 0, .int .i64 0, .int .i64 0, .int .i64 0, .slice none 0 0] 30)) := BX.at _ (by simp)
  have B0 : Below W.heap.size W ((W.alloc (.cells #[.int .i64 f, .int .i64 (p : Int), .int .i64 B, .int .i64 (q : Int), .slice (some ⟨g, 0, none⟩) n cap] 30)).alloc (.cells #[.int .i64 0, .int .i64 0, .int .i64 0, .int .i64 0, .slice none 0 0] 30)) := by repeat (first | with_reducible exact Below.refl _ _ | with_reducible assumption | with_reducible refine Below.setCell ?_ (by first | omega | (dsimp only; omega) | (simp <;> omega)) _ | with_reducible refine Below.alloc ?_ (by first | omega | (simp <;> omega)) _ | with_reducible refine bstep ?_ (by with_reducible assumption) | with_reducible refine Below.drew ?_ | with_reducible refine below_drewN ?_ _)
  clear hv h hl hf r hU
  go_enter Tryd.func29, Tryd.ntmps29
  go_wp2_with fail
  go_region_held3 (fun W9 => (W9.cell? ⟨W.heap.size, 0, none⟩ = some (.int .i64 f) ∧ W9.cell? ⟨W.heap.size, 1, none⟩ = some (.int .i64 (p : Int)) ∧ W9.cell? ⟨W.heap.size, 2, none⟩ = some (.int .i64 B) ∧ W9.cell? ⟨W.heap.size, 3, none⟩ = some (.int .i64 (q : Int)) ∧ W9.cell? ⟨W.heap.size, 4, none⟩ = some (.slice (some ⟨g, 0, none⟩) n cap))) ((refine Bx.cells5 ?_) <;> repeat (first | with_reducible assumption | with_reducible refine Bx.drew ?_ | with_reducible refine Bx.alloc ?_ _ | with_reducible refine Bx.call ?_ (by with_reducible assumption) | with_reducible refine BX.drew ?_ | with_reducible refine BX.alloc ?_ _ | with_reducible refine BX.call ?_ (by with_reducible assumption) | with_reducible refine Bx.far (by first | omega | (dsimp only; omega)) ?_))
    (first
      | (go_at_call 40; with_reducible refine (HFL.out _ (by repeat (first | with_reducible assumption | with_reducible exact Below.refl _ _ | with_reducible refine Below.drew ?_ | with_reducible refine Below.alloc ?_ (by first | omega | (simp <;> omega)) _ | with_reducible refine Below.setCell ?_ (by first | omega | (dsimp only; omega)) _ | with_reducible refine bstep ?_ (by with_reducible assumption)))).mono ?_; rintro e w1 ⟨rfl, hb1⟩; have P1 : Bx W.heap.size [.int .i64 f, .int .i64 (p : Int), .int .i64 B, .int .i64 (q : Int), .slice (some ⟨g, 0, none⟩) n cap] w1 := (by repeat (first | with_reducible assumption | with_reducible refine Bx.drew ?_ | with_reducible refine Bx.alloc ?_ _ | with_reducible refine Bx.call ?_ (by with_reducible assumption) | with_reducible refine BX.drew ?_ | with_reducible refine BX.alloc ?_ _ | with_reducible refine BX.call ?_ (by with_reducible assumption) | with_reducible refine Bx.far (by first | omega | (dsimp only; omega)) ?_)); have R1 : BX (W.heap.size + 1) [.int .i64 0, .int .i64 0, .int .i64 0, .int .i64 0, .slice none 0 0] w1 := (by repeat (first | with_reducible assumption | with_reducible refine Bx.drew ?_ | with_reducible refine Bx.alloc ?_ _ | with_reducible refine Bx.call ?_ (by with_reducible assumption) | with_reducible refine BX.drew ?_ | with_reducible refine BX.alloc ?_ _ | with_reducible refine BX.call ?_ (by with_reducible assumption) | with_reducible refine Bx.far (by first | omega | (dsimp only; omega)) ?_)); have B1 : Below W.heap.size W w1 := (by repeat (first | with_reducible assumption | with_reducible exact Below.refl _ _ | with_reducible refine Below.drew ?_ | with_reducible refine Below.alloc ?_ (by first | omega | (simp <;> omega)) _ | with_reducible refine Below.setCell ?_ (by first | omega | (dsimp only; omega)) _ | with_reducible refine bstep ?_ (by with_reducible assumption))); have p1c0 := P1.c0; have p1c1 := P1.c1; have p1c2 := P1.c2; have p1c3 := P1.c3; have p1c4 := P1.c4; have p1l := P1.lt)
      | (go_at_call 42; with_reducible refine (HSP.out _ (by repeat (first | with_reducible assumption | with_reducible exact Below.refl _ _ | with_reducible refine Below.drew ?_ | with_reducible refine Below.alloc ?_ (by first | omega | (simp <;> omega)) _ | with_reducible refine Below.setCell ?_ (by first | omega | (dsimp only; omega)) _ | with_reducible refine bstep ?_ (by with_reducible assumption)))).mono ?_; rintro e w2 ⟨v2, rfl, r2, hb2⟩; have R2 : BX (W.heap.size + 1) [.int .i64 0, .int .i64 0, .int .i64 0, .int .i64 0, .slice none 0 0] w2 := (by repeat (first | with_reducible assumption | with_reducible refine Bx.drew ?_ | with_reducible refine Bx.alloc ?_ _ | with_reducible refine Bx.call ?_ (by with_reducible assumption) | with_reducible refine BX.drew ?_ | with_reducible refine BX.alloc ?_ _ | with_reducible refine BX.call ?_ (by with_reducible assumption) | with_reducible refine Bx.far (by first | omega | (dsimp only; omega)) ?_)); have B2 : Below W.heap.size W w2 := (by repeat (first | with_reducible assumption | with_reducible exact Below.refl _ _ | with_reducible refine Below.drew ?_ | with_reducible refine Below.alloc ?_ (by first | omega | (simp <;> omega)) _ | with_reducible refine Below.setCell ?_ (by first | omega | (dsimp only; omega)) _ | with_reducible refine bstep ?_ (by with_reducible assumption))); obtain ⟨ao2, cap2, rfl⟩ := r2.slice; have B1z := B1.size; have b1l := R1.lt; have HR2 := Lib.hid (r2.low (lo' := W.heap.size + 2) (by first | omega | (simp; omega))); have HB2 := Lib.hid B2; clear r2 B2; have r2c0 := R2.c0; have r2c1 := R2.c1; have r2c2 := R2.c2; have r2c3 := R2.c3; have r2c4 := R2.c4; have r2f0 := R2.f0; have r2f1 := R2.f1; have r2f2 := R2.f2; have r2f3 := R2.f3; have r2f4 := R2.f4; have r2l := R2.lt))
  all_goals
    go_wp2
    refine bodyPost_ret (v := .agg #[.int .i64 f, .int .i64 (p' : Int), .int .i64 B', .int .i64 (q' : Int), .slice ao2 (p' * q') cap2]) (by simp [results, Tryd.results29, go_sem, *]) rfl ⟨_, rfl, ?_, ?_⟩
    · refine SRow.up (hi := w2.heap.size) (SRow.low (lo := W.heap.size + 2) ?_ (by omega))
      repeat (first | with_reducible exact HR2.out | with_reducible refine SRow.put (by first | omega | (dsimp only; omega)) _ ?_)
    · have hB := HB2.out
      repeat (first | with_reducible exact Below.refl _ _ | with_reducible assumption | with_reducible refine Below.setCell ?_ (by first | omega | (dsimp only; omega) | (simp <;> omega)) _ | with_reducible refine Below.alloc ?_ (by first | omega | (simp <;> omega)) _ | with_reducible refine bstep ?_ (by with_reducible assumption) | with_reducible refine Below.drew ?_ | with_reducible refine below_drewN ?_ _)
set_option maxRecDepth 100000 in
set_option maxHeartbeats 16000000 in
theorem l09Lean_any {lo hi p q n p' q' : Nat} {f B B' : Int} {v : Value} {F : Nat → Int} {W : World} (h : PatI f p B q n F) (hf : fulI (p : Int) B (q : Int) F = ((p' : Int), B', (q' : Int))) (hl : latI (p' : Int) B' (q' : Int)) (hv : SRow lo hi 1 v n F W) :
    Calls Tryd.prog 26 #[.agg #[.int .i64 f, .int .i64 (p : Int), .int .i64 B, .int .i64 (q : Int), v]] W (fun e w' => ∃ v' : Value, e = .returned (.agg #[.int .i64 f, .int .i64 (p' : Int), .int .i64 B', .int .i64 (q' : Int), v']) ∧ SRow W.heap.size w'.heap.size 1 v' (p' * q') (onG (p : Int) B (q : Int) F p' q') w' ∧ Below W.heap.size W w') := by
  have R := Lib.hid hv
  have HH := Lib.hid h
  have HL := Lib.hid hl
  obtain ⟨hp1, hp2, hq1, hq2, hn64, hn1⟩ := h.bd
  obtain ⟨g, cap, rfl, hg, _, r⟩ := hv.irow hn1
  have hgs := hv.1
  have hgw : g < W.heap.size := by omega
  have HFL := Lib.hid (fun (X : World) (hX : Below W.heap.size W X) => (show Calls Tryd.prog 35 #[.agg #[.int .i64 f, .int .i64 (p : Int), .int .i64 B, .int .i64 (q : Int), .slice (some ⟨g, 0, none⟩) n cap]] X (fun e w' => e = .returned (.agg #[.int .i64 ((p' : Int)), .int .i64 B', .int .i64 ((q' : Int))]) ∧ Below X.heap.size X w') from by
    have h9 := l09Full_any HH.out (R.out.call hX)
    rw [hf] at h9
    exact h9))
  have HSP := Lib.hid (fun (X : World) (hX : Below W.heap.size W X) => l09On_any HH.out HL.out (R.out.call hX))
  have P0 : Bx W.heap.size [.int .i64 f, .int .i64 (p : Int), .int .i64 B, .int .i64 (q : Int), .slice (some ⟨g, 0, none⟩) n cap] ((W.alloc (.cells #[.int .i64 f, .int .i64 (p : Int), .int .i64 B, .int .i64 (q : Int), .slice (some ⟨g, 0, none⟩) n cap] 30)).alloc (.cells #[.int .i64 0, .int .i64 0, .int .i64 0, .int .i64 0, .slice none 0 0] 30)) := (Bx.at _ rfl).alloc _
  have R0 : BX (W.heap.size + 1) [.int .i64 0, .int .i64 0, .int .i64 0, .int .i64 0, .slice none 0 0] ((W.alloc (.cells #[.int .i64 f, .int .i64 (p : Int), .int .i64 B, .int .i64 (q : Int), .slice (some ⟨g, 0, none⟩) n cap] 30)).alloc (.cells #[.int .i64 0, .int .i64 0, .int .i64 0, .int .i64 0, .slice none 0 0] 30)) := BX.at _ (by simp)
  have B0 : Below W.heap.size W ((W.alloc (.cells #[.int .i64 f, .int .i64 (p : Int), .int .i64 B, .int .i64 (q : Int), .slice (some ⟨g, 0, none⟩) n cap] 30)).alloc (.cells #[.int .i64 0, .int .i64 0, .int .i64 0, .int .i64 0, .slice none 0 0] 30)) := by repeat (first | with_reducible exact Below.refl _ _ | with_reducible assumption | with_reducible refine Below.setCell ?_ (by first | omega | (dsimp only; omega) | (simp <;> omega)) _ | with_reducible refine Below.alloc ?_ (by first | omega | (simp <;> omega)) _ | with_reducible refine bstep ?_ (by with_reducible assumption) | with_reducible refine Below.drew ?_ | with_reducible refine below_drewN ?_ _)
  clear hv h hl hf r
  go_enter Tryd.func26, Tryd.ntmps26
  go_wp2_with fail
  go_region_held3 (fun W9 => (W9.cell? ⟨W.heap.size, 0, none⟩ = some (.int .i64 f) ∧ W9.cell? ⟨W.heap.size, 1, none⟩ = some (.int .i64 (p : Int)) ∧ W9.cell? ⟨W.heap.size, 2, none⟩ = some (.int .i64 B) ∧ W9.cell? ⟨W.heap.size, 3, none⟩ = some (.int .i64 (q : Int)) ∧ W9.cell? ⟨W.heap.size, 4, none⟩ = some (.slice (some ⟨g, 0, none⟩) n cap))) ((refine Bx.cells5 ?_) <;> repeat (first | with_reducible assumption | with_reducible refine Bx.drew ?_ | with_reducible refine Bx.alloc ?_ _ | with_reducible refine Bx.call ?_ (by with_reducible assumption) | with_reducible refine BX.drew ?_ | with_reducible refine BX.alloc ?_ _ | with_reducible refine BX.call ?_ (by with_reducible assumption) | with_reducible refine Bx.far (by first | omega | (dsimp only; omega)) ?_))
    (first
      | (go_at_call 35; with_reducible refine (HFL.out _ (by repeat (first | with_reducible assumption | with_reducible exact Below.refl _ _ | with_reducible refine Below.drew ?_ | with_reducible refine Below.alloc ?_ (by first | omega | (simp <;> omega)) _ | with_reducible refine Below.setCell ?_ (by first | omega | (dsimp only; omega)) _ | with_reducible refine bstep ?_ (by with_reducible assumption)))).mono ?_; rintro e w1 ⟨rfl, hb1⟩; have P1 : Bx W.heap.size [.int .i64 f, .int .i64 (p : Int), .int .i64 B, .int .i64 (q : Int), .slice (some ⟨g, 0, none⟩) n cap] w1 := (by repeat (first | with_reducible assumption | with_reducible refine Bx.drew ?_ | with_reducible refine Bx.alloc ?_ _ | with_reducible refine Bx.call ?_ (by with_reducible assumption) | with_reducible refine BX.drew ?_ | with_reducible refine BX.alloc ?_ _ | with_reducible refine BX.call ?_ (by with_reducible assumption) | with_reducible refine Bx.far (by first | omega | (dsimp only; omega)) ?_)); have R1 : BX (W.heap.size + 1) [.int .i64 0, .int .i64 0, .int .i64 0, .int .i64 0, .slice none 0 0] w1 := (by repeat (first | with_reducible assumption | with_reducible refine Bx.drew ?_ | with_reducible refine Bx.alloc ?_ _ | with_reducible refine Bx.call ?_ (by with_reducible assumption) | with_reducible refine BX.drew ?_ | with_reducible refine BX.alloc ?_ _ | with_reducible refine BX.call ?_ (by with_reducible assumption) | with_reducible refine Bx.far (by first | omega | (dsimp only; omega)) ?_)); have B1 : Below W.heap.size W w1 := (by repeat (first | with_reducible assumption | with_reducible exact Below.refl _ _ | with_reducible refine Below.drew ?_ | with_reducible refine Below.alloc ?_ (by first | omega | (simp <;> omega)) _ | with_reducible refine Below.setCell ?_ (by first | omega | (dsimp only; omega)) _ | with_reducible refine bstep ?_ (by with_reducible assumption))); have p1c0 := P1.c0; have p1c1 := P1.c1; have p1c2 := P1.c2; have p1c3 := P1.c3; have p1c4 := P1.c4; have p1l := P1.lt)
      | (go_at_call 38; with_reducible refine (HSP.out _ (by repeat (first | with_reducible assumption | with_reducible exact Below.refl _ _ | with_reducible refine Below.drew ?_ | with_reducible refine Below.alloc ?_ (by first | omega | (simp <;> omega)) _ | with_reducible refine Below.setCell ?_ (by first | omega | (dsimp only; omega)) _ | with_reducible refine bstep ?_ (by with_reducible assumption)))).mono ?_; rintro e w2 ⟨v2, rfl, r2, hb2⟩; have R2 : BX (W.heap.size + 1) [.int .i64 0, .int .i64 0, .int .i64 0, .int .i64 0, .slice none 0 0] w2 := (by repeat (first | with_reducible assumption | with_reducible refine Bx.drew ?_ | with_reducible refine Bx.alloc ?_ _ | with_reducible refine Bx.call ?_ (by with_reducible assumption) | with_reducible refine BX.drew ?_ | with_reducible refine BX.alloc ?_ _ | with_reducible refine BX.call ?_ (by with_reducible assumption) | with_reducible refine Bx.far (by first | omega | (dsimp only; omega)) ?_)); have B2 : Below W.heap.size W w2 := (by repeat (first | with_reducible assumption | with_reducible exact Below.refl _ _ | with_reducible refine Below.drew ?_ | with_reducible refine Below.alloc ?_ (by first | omega | (simp <;> omega)) _ | with_reducible refine Below.setCell ?_ (by first | omega | (dsimp only; omega)) _ | with_reducible refine bstep ?_ (by with_reducible assumption))); obtain ⟨ao2, cap2, rfl⟩ := r2.slice; have B1z := B1.size; have b1l := R1.lt; have HR2 := Lib.hid (r2.low (lo' := W.heap.size + 2) (by first | omega | (simp; omega))); have HB2 := Lib.hid B2; clear r2 B2; have r2c0 := R2.c0; have r2c1 := R2.c1; have r2c2 := R2.c2; have r2c3 := R2.c3; have r2c4 := R2.c4; have r2f0 := R2.f0; have r2f1 := R2.f1; have r2f2 := R2.f2; have r2f3 := R2.f3; have r2f4 := R2.f4; have r2l := R2.lt))
  all_goals
    go_wp2
    refine bodyPost_ret (v := .agg #[.int .i64 f, .int .i64 (p' : Int), .int .i64 B', .int .i64 (q' : Int), .slice ao2 (p' * q') cap2]) (by simp [results, Tryd.results26, go_sem, *]) rfl ⟨_, rfl, ?_, ?_⟩
    · refine SRow.up (hi := w2.heap.size) (SRow.low (lo := W.heap.size + 2) ?_ (by omega))
      repeat (first | with_reducible exact HR2.out | with_reducible refine SRow.put (by first | omega | (dsimp only; omega)) _ ?_)
    · have hB := HB2.out
      repeat (first | with_reducible exact Below.refl _ _ | with_reducible assumption | with_reducible refine Below.setCell ?_ (by first | omega | (dsimp only; omega) | (simp <;> omega)) _ | with_reducible refine Below.alloc ?_ (by first | omega | (simp <;> omega)) _ | with_reducible refine bstep ?_ (by with_reducible assumption) | with_reducible refine Below.drew ?_ | with_reducible refine below_drewN ?_ _)
abbrev PR := Int × Int × Int × Int × Nat × (Nat → Int) × Int
/- a call's answer: a pattern, its list in new memory, and a code -/
def PAns (r : PR) (W : World) (e : Ending) (w' : World) : Prop :=
  ∃ (f A B C : Int) (m : Nat) (G : Nat → Int) (c : Int) (v : Value), r = (f, A, B, C, m, G, c) ∧ e = .returned (.tuple #[.agg #[.int .i64 f, .int .i64 A, .int .i64 B, .int .i64 C, v], .int .i64 c]) ∧ SRow W.heap.size w'.heap.size 1 v m G w' ∧ Below W.heap.size W w'
def noP (c : Int) : PR := (0, 0, 0, 0, 0, fun _ => 0, c)
def lnA (f A B C : Int) (n : Nat) (F : Nat → Int) : PR := if patB f A B C n F = true then (f, (leaP A B C F : Int), (fulI A B C F).2.1, (leaQ A B C F : Int), leaP A B C F * leaQ A B C F, onG A B C F (leaP A B C F) (leaQ A B C F), 0) else noP 1
set_option maxHeartbeats 8000000 in
theorem implLean_any {lo hi n : Nat} {v : Value} {F : Nat → Int} {w : World} (f A B C : Int) (hv : SRow lo hi 1 v n F w) (hU : UnitOK w) :
    Calls Tryd.prog 11 #[.agg #[.int .i64 f, .int .i64 A, .int .i64 B, .int .i64 C, v]] w (PAns (lnA f A B C n F) w) := by
  have R := Lib.hid hv
  have HU := Lib.hid hU
  obtain ⟨ao, cap, rfl⟩ := hv.slice
  clear hv hU
  have P0 : Bx w.heap.size [.int .i64 f, .int .i64 A, .int .i64 B, .int .i64 C, (.slice ao n cap)] ((w.alloc (.cells #[.int .i64 f, .int .i64 A, .int .i64 B, .int .i64 C, .slice ao n cap] 30)).alloc (.cells #[.int .i64 0, .int .i64 0, .int .i64 0, .int .i64 0, .slice none 0 0] 30)) := (Bx.at _ rfl).alloc _
  have R0 : BX (w.heap.size + 1) [.int .i64 0, .int .i64 0, .int .i64 0, .int .i64 0, .slice none 0 0] ((w.alloc (.cells #[.int .i64 f, .int .i64 A, .int .i64 B, .int .i64 C, .slice ao n cap] 30)).alloc (.cells #[.int .i64 0, .int .i64 0, .int .i64 0, .int .i64 0, .slice none 0 0] 30)) := BX.at _ (by simp)
  have B0 : Below w.heap.size w ((w.alloc (.cells #[.int .i64 f, .int .i64 A, .int .i64 B, .int .i64 C, .slice ao n cap] 30)).alloc (.cells #[.int .i64 0, .int .i64 0, .int .i64 0, .int .i64 0, .slice none 0 0] 30)) := by repeat (first | with_reducible exact Below.refl _ _ | with_reducible assumption | with_reducible refine Below.setCell ?_ (by first | omega | (dsimp only; omega) | (simp <;> omega)) _ | with_reducible refine Below.alloc ?_ (by first | omega | (simp <;> omega)) _ | with_reducible refine bstep ?_ (by with_reducible assumption) | with_reducible refine Below.drew ?_ | with_reducible refine below_drewN ?_ _)
  rcases h1 : patB f A B C n F with _ | _
  · have EA := Lib.hid (show lnA f A B C n F = (0, 0, 0, 0, 0, fun _ => 0, 1) by simp [lnA, noP, h1])
    go_enter Tryd.func11, Tryd.ntmps11
    go_wp2_with fail
    with_reducible refine (patValid_any f A B C (R.out.call B0)).mono ?_
    rintro e w1 ⟨rfl, hb1⟩
    rw [h1]
    have P1 := P0.call hb1
    have R1 := R0.call hb1
    have B1 := bstep B0 hb1
    clear P0 R0 B0 hb1
    have p1c0 := P1.c0
    have p1c1 := P1.c1
    have p1c2 := P1.c2
    have p1c3 := P1.c3
    have p1c4 := P1.c4
    have p1l := P1.lt
    have r1c0 := R1.c0
    have r1c1 := R1.c1
    have r1c2 := R1.c2
    have r1c3 := R1.c3
    have r1c4 := R1.c4
    have r1f0 := R1.f0
    have r1f1 := R1.f1
    have r1f2 := R1.f2
    have r1f3 := R1.f3
    have r1f4 := R1.f4
    have r1l := R1.lt
    go_wp2
    refine bodyPost_ret (v := .tuple #[(.agg #[.int .i64 0, .int .i64 0, .int .i64 0, .int .i64 0, .slice none 0 0]), .int .i64 1]) (by simp [results, Tryd.results11, go_sem, *]) rfl ⟨_, _, _, _, _, _, _, _, EA.out, rfl, ?_, ?_⟩
    · exact SRow.nil _ 1 _ _
    · repeat (first | with_reducible exact Below.refl _ _ | with_reducible assumption | with_reducible refine Below.setCell ?_ (by first | omega | (dsimp only; omega) | (simp <;> omega)) _ | with_reducible refine Below.alloc ?_ (by first | omega | (simp <;> omega)) _ | with_reducible refine bstep ?_ (by with_reducible assumption) | with_reducible refine Below.drew ?_ | with_reducible refine below_drewN ?_ _)
  · have EA := Lib.hid (show lnA f A B C n F = (f, (leaP A B C F : Int), (fulI A B C F).2.1, (leaQ A B C F : Int), leaP A B C F * leaQ A B C F, onG A B C F (leaP A B C F) (leaQ A B C F), 0) by simp [lnA, h1])
    have HFU := Lib.hid (fun (X : World) (hX : Below w.heap.size w X) => (show Calls Tryd.prog 29 #[.agg #[.int .i64 f, .int .i64 A, .int .i64 B, .int .i64 C, .slice ao n cap]] X (fun e w' => ∃ v' : Value, e = .returned (.agg #[.int .i64 f, .int .i64 (leaP A B C F : Int), .int .i64 (fulI A B C F).2.1, .int .i64 (leaQ A B C F : Int), v']) ∧ SRow X.heap.size w'.heap.size 1 v' (leaP A B C F * leaQ A B C F) (onG A B C F (leaP A B C F) (leaQ A B C F)) w' ∧ Below X.heap.size X w') from by
      obtain ⟨p, q, rfl, rfl, hp⟩ := patB_of h1
      exact lean_any hp (fulI_at hp.lat).1 (fulI_at hp.lat).2 (R.out.call hX) (HU.out.call hX)))
    go_enter Tryd.func11, Tryd.ntmps11
    go_wp2_with fail
    with_reducible refine (patValid_any f A B C (R.out.call B0)).mono ?_
    rintro e w1 ⟨rfl, hb1⟩
    rw [h1]
    have P1 := P0.call hb1
    have R1 := R0.call hb1
    have B1 := bstep B0 hb1
    clear P0 R0 B0 hb1
    have p1c0 := P1.c0
    have p1c1 := P1.c1
    have p1c2 := P1.c2
    have p1c3 := P1.c3
    have p1c4 := P1.c4
    have p1l := P1.lt
    go_wp2_with fail
    with_reducible refine (HFU.out _ B1).mono ?_
    rintro e w2 ⟨v2, rfl, r2, hb2⟩
    have R2 := R1.call hb2
    have B2 := bstep B1 hb2
    have b1l := R1.lt
    have HR2 := Lib.hid (r2.low (lo' := w.heap.size + 2) (by omega))
    obtain ⟨ao2, cap2, rfl⟩ := r2.slice
    have HB2 := Lib.hid B2
    clear R1 B1 hb2 P1 p1c0 p1c1 p1c2 p1c3 p1c4 p1l r2 B2
    have r2c0 := R2.c0
    have r2c1 := R2.c1
    have r2c2 := R2.c2
    have r2c3 := R2.c3
    have r2c4 := R2.c4
    have r2f0 := R2.f0
    have r2f1 := R2.f1
    have r2f2 := R2.f2
    have r2f3 := R2.f3
    have r2f4 := R2.f4
    have r2l := R2.lt
    go_wp2
    refine bodyPost_ret (v := .tuple #[(.agg #[.int .i64 f, .int .i64 (leaP A B C F : Int), .int .i64 (fulI A B C F).2.1, .int .i64 (leaQ A B C F : Int), .slice ao2 (leaP A B C F * leaQ A B C F) cap2]), .int .i64 0]) (by simp [results, Tryd.results11, go_sem, *]) rfl ⟨_, _, _, _, _, _, _, _, EA.out, rfl, ?_, ?_⟩
    · refine SRow.up (hi := w2.heap.size) (SRow.low (lo := w.heap.size + 2) ?_ (by omega))
      repeat (first | with_reducible exact HR2.out | with_reducible refine SRow.put (by first | omega | (dsimp only; omega)) _ ?_)
    · have hB := HB2.out
      repeat (first | with_reducible exact Below.refl _ _ | with_reducible assumption | with_reducible refine Below.setCell ?_ (by first | omega | (dsimp only; omega) | (simp <;> omega)) _ | with_reducible refine Below.alloc ?_ (by first | omega | (simp <;> omega)) _ | with_reducible refine bstep ?_ (by with_reducible assumption) | with_reducible refine Below.drew ?_ | with_reducible refine below_drewN ?_ _)
set_option maxHeartbeats 8000000 in
theorem specLean_any {lo hi n : Nat} {v : Value} {F : Nat → Int} {w : World} (f A B C : Int) (hv : SRow lo hi 1 v n F w) :
    Calls Tryd.prog 9 #[.agg #[.int .i64 f, .int .i64 A, .int .i64 B, .int .i64 C, v]] w (PAns (lnA f A B C n F) w) := by
  have R := Lib.hid hv
  obtain ⟨ao, cap, rfl⟩ := hv.slice
  clear hv
  have P0 : Bx w.heap.size [.int .i64 f, .int .i64 A, .int .i64 B, .int .i64 C, (.slice ao n cap)] ((w.alloc (.cells #[.int .i64 f, .int .i64 A, .int .i64 B, .int .i64 C, .slice ao n cap] 30)).alloc (.cells #[.int .i64 0, .int .i64 0, .int .i64 0, .int .i64 0, .slice none 0 0] 30)) := (Bx.at _ rfl).alloc _
  have R0 : BX (w.heap.size + 1) [.int .i64 0, .int .i64 0, .int .i64 0, .int .i64 0, .slice none 0 0] ((w.alloc (.cells #[.int .i64 f, .int .i64 A, .int .i64 B, .int .i64 C, .slice ao n cap] 30)).alloc (.cells #[.int .i64 0, .int .i64 0, .int .i64 0, .int .i64 0, .slice none 0 0] 30)) := BX.at _ (by simp)
  have B0 : Below w.heap.size w ((w.alloc (.cells #[.int .i64 f, .int .i64 A, .int .i64 B, .int .i64 C, .slice ao n cap] 30)).alloc (.cells #[.int .i64 0, .int .i64 0, .int .i64 0, .int .i64 0, .slice none 0 0] 30)) := by repeat (first | with_reducible exact Below.refl _ _ | with_reducible assumption | with_reducible refine Below.setCell ?_ (by first | omega | (dsimp only; omega) | (simp <;> omega)) _ | with_reducible refine Below.alloc ?_ (by first | omega | (simp <;> omega)) _ | with_reducible refine bstep ?_ (by with_reducible assumption) | with_reducible refine Below.drew ?_ | with_reducible refine below_drewN ?_ _)
  rcases h1 : patB f A B C n F with _ | _
  · have EA := Lib.hid (show lnA f A B C n F = (0, 0, 0, 0, 0, fun _ => 0, 1) by simp [lnA, noP, h1])
    go_enter Tryd.func9, Tryd.ntmps9
    go_wp2_with fail
    with_reducible refine (specIsPat_any f A B C (R.out.call B0)).mono ?_
    rintro e w1 ⟨rfl, hb1⟩
    rw [h1]
    have P1 := P0.call hb1
    have R1 := R0.call hb1
    have B1 := bstep B0 hb1
    clear P0 R0 B0 hb1
    have p1c0 := P1.c0
    have p1c1 := P1.c1
    have p1c2 := P1.c2
    have p1c3 := P1.c3
    have p1c4 := P1.c4
    have p1l := P1.lt
    have r1c0 := R1.c0
    have r1c1 := R1.c1
    have r1c2 := R1.c2
    have r1c3 := R1.c3
    have r1c4 := R1.c4
    have r1f0 := R1.f0
    have r1f1 := R1.f1
    have r1f2 := R1.f2
    have r1f3 := R1.f3
    have r1f4 := R1.f4
    have r1l := R1.lt
    go_wp2
    refine bodyPost_ret (v := .tuple #[(.agg #[.int .i64 0, .int .i64 0, .int .i64 0, .int .i64 0, .slice none 0 0]), .int .i64 1]) (by simp [results, Tryd.results9, go_sem, *]) rfl ⟨_, _, _, _, _, _, _, _, EA.out, rfl, ?_, ?_⟩
    · exact SRow.nil _ 1 _ _
    · repeat (first | with_reducible exact Below.refl _ _ | with_reducible assumption | with_reducible refine Below.setCell ?_ (by first | omega | (dsimp only; omega) | (simp <;> omega)) _ | with_reducible refine Below.alloc ?_ (by first | omega | (simp <;> omega)) _ | with_reducible refine bstep ?_ (by with_reducible assumption) | with_reducible refine Below.drew ?_ | with_reducible refine below_drewN ?_ _)
  · have EA := Lib.hid (show lnA f A B C n F = (f, (leaP A B C F : Int), (fulI A B C F).2.1, (leaQ A B C F : Int), leaP A B C F * leaQ A B C F, onG A B C F (leaP A B C F) (leaQ A B C F), 0) by simp [lnA, h1])
    have HFU := Lib.hid (fun (X : World) (hX : Below w.heap.size w X) => (show Calls Tryd.prog 26 #[.agg #[.int .i64 f, .int .i64 A, .int .i64 B, .int .i64 C, .slice ao n cap]] X (fun e w' => ∃ v' : Value, e = .returned (.agg #[.int .i64 f, .int .i64 (leaP A B C F : Int), .int .i64 (fulI A B C F).2.1, .int .i64 (leaQ A B C F : Int), v']) ∧ SRow X.heap.size w'.heap.size 1 v' (leaP A B C F * leaQ A B C F) (onG A B C F (leaP A B C F) (leaQ A B C F)) w' ∧ Below X.heap.size X w') from by
      obtain ⟨p, q, rfl, rfl, hp⟩ := patB_of h1
      exact l09Lean_any hp (fulI_at hp.lat).1 (fulI_at hp.lat).2 (R.out.call hX)))
    go_enter Tryd.func9, Tryd.ntmps9
    go_wp2_with fail
    with_reducible refine (specIsPat_any f A B C (R.out.call B0)).mono ?_
    rintro e w1 ⟨rfl, hb1⟩
    rw [h1]
    have P1 := P0.call hb1
    have R1 := R0.call hb1
    have B1 := bstep B0 hb1
    clear P0 R0 B0 hb1
    have p1c0 := P1.c0
    have p1c1 := P1.c1
    have p1c2 := P1.c2
    have p1c3 := P1.c3
    have p1c4 := P1.c4
    have p1l := P1.lt
    go_wp2_with fail
    with_reducible refine (HFU.out _ B1).mono ?_
    rintro e w2 ⟨v2, rfl, r2, hb2⟩
    have R2 := R1.call hb2
    have B2 := bstep B1 hb2
    have b1l := R1.lt
    have HR2 := Lib.hid (r2.low (lo' := w.heap.size + 2) (by omega))
    obtain ⟨ao2, cap2, rfl⟩ := r2.slice
    have HB2 := Lib.hid B2
    clear R1 B1 hb2 P1 p1c0 p1c1 p1c2 p1c3 p1c4 p1l r2 B2
    have r2c0 := R2.c0
    have r2c1 := R2.c1
    have r2c2 := R2.c2
    have r2c3 := R2.c3
    have r2c4 := R2.c4
    have r2f0 := R2.f0
    have r2f1 := R2.f1
    have r2f2 := R2.f2
    have r2f3 := R2.f3
    have r2f4 := R2.f4
    have r2l := R2.lt
    go_wp2
    refine bodyPost_ret (v := .tuple #[(.agg #[.int .i64 f, .int .i64 (leaP A B C F : Int), .int .i64 (fulI A B C F).2.1, .int .i64 (leaQ A B C F : Int), .slice ao2 (leaP A B C F * leaQ A B C F) cap2]), .int .i64 0]) (by simp [results, Tryd.results9, go_sem, *]) rfl ⟨_, _, _, _, _, _, _, _, EA.out, rfl, ?_, ?_⟩
    · refine SRow.up (hi := w2.heap.size) (SRow.low (lo := w.heap.size + 2) ?_ (by omega))
      repeat (first | with_reducible exact HR2.out | with_reducible refine SRow.put (by first | omega | (dsimp only; omega)) _ ?_)
    · have hB := HB2.out
      repeat (first | with_reducible exact Below.refl _ _ | with_reducible assumption | with_reducible refine Below.setCell ?_ (by first | omega | (dsimp only; omega) | (simp <;> omega)) _ | with_reducible refine Below.alloc ?_ (by first | omega | (simp <;> omega)) _ | with_reducible refine bstep ?_ (by with_reducible assumption) | with_reducible refine Below.drew ?_ | with_reducible refine below_drewN ?_ _)
end Go.Proofs.YtpejihckepaojaaDoor
