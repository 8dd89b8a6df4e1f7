/-
 A reflection's share in the facts of a group, in the program (addMirror). Conditions: the motion is a suitable reflection; the facts lie in a block that may be written.
-/
import Derived.Test.YtjjfomokecngoaaGreatDoorFtF
import Derived.Test.YtjjfomokecngoaaGreatDoorFaQ
import Derived.Test.YtjjfomokecngoaaGreatDoorNbq
import Derived.Test.YtjjfomokecngoaaGreatDoorCt1
import Derived.Deep.RegionHeld3
import Derived.IntWalk
namespace Go.Proofs.YtjjfomokecngoaaGreatDoor
open Go.RowKit
set_option linter.unusedSimpArgs false
set_option linter.unusedVariables false

theorem pkFtA0 {P : Prop} (h : P := by repeat (first | with_reducible assumption | with_reducible exact Below.refl _ _ | with_reducible refine Below.drew ?_ | with_reducible refine Below.setCell ?_ (by first | omega | (dsimp only; omega)) _ | with_reducible refine Below.alloc ?_ (by first | omega | (simp; omega)) _ | with_reducible refine bstepG ?_ (by with_reducible assumption) (by omega))) : P := h
theorem pkFtA1 {P : Prop} (h : P := by repeat (first | with_reducible assumption | with_reducible exact Bx.at _ rfl | with_reducible refine Bx.drew ?_ | with_reducible refine Bx.alloc ?_ _ | with_reducible refine Bx.call ?_ (by with_reducible assumption) | ((with_reducible refine Bx.far ?_ ?_); (first | omega | (dsimp only; omega))))) : P := h
theorem pkFtA2 {P : Prop} (h : P := by repeat (first | with_reducible assumption | with_reducible exact Below.refl _ _ | with_reducible refine Below.alloc ?_ (by first | omega | (simp <;> omega)) _ | with_reducible refine bstep ?_ (by with_reducible assumption) | with_reducible refine Below.drew ?_)) : P := h
theorem pkFtA3 {P : Prop} (h : P := by repeat (first | with_reducible assumption | with_reducible refine BX.st4 (o := .bool a0) ?_ _ | with_reducible refine BX.st1 (o := .int .i64 0) ?_ _ | with_reducible refine BX.drew ?_)) : P := h
theorem pkFtA4 {P : Prop} (h : P := by repeat (first | with_reducible assumption | with_reducible refine BX.st3 (o := .int .i64 c0) ?_ _ | with_reducible refine BX.drew ?_)) : P := h
theorem pkFtA5 {P : Prop} (h : P := by repeat (first | with_reducible assumption | with_reducible refine BX.st2 (o := .int .i64 e0) ?_ _ | with_reducible refine BX.drew ?_)) : P := h
theorem pkFtA6 {P : Prop} (h : P := by repeat (first | with_reducible assumption | with_reducible refine BX.st1 (o := .int .i64 n0) ?_ _ | with_reducible refine BX.drew ?_)) : P := h
theorem pkFtA7 {P : Prop} (h : P := by repeat (first | assumption | refine BX.drew ?_ | refine BX.alloc ?_ _ | refine BX.call ?_ (by assumption))) : P := h
theorem pkFtA8 {P : Prop} (h : P := by repeat (first | assumption | refine BX.drew ?_)) : P := h
theorem bstepG {g : Nat} {W W1 W2 : World} (h : Below g W W1) (hb : Below W1.heap.size W1 W2) (hg : g ≤ W1.heap.size) : Below g W W2 := h.trans (hb.mono hg)
set_option maxRecDepth 100000 in
set_option maxHeartbeats 32000000 in
theorem addMir_any {f A B C a b c d x y : Int} {g : Nat} {r n0 e0 c0 : Int} {a0 : Bool} {w : World} (hok : okM f A B C (a, b, c, d, x, y) = true) (hr : reflB a b c d = true) (hX : BX g [.int .i64 r, .int .i64 n0, .int .i64 e0, .int .i64 c0, .bool a0] w) (hb : (0 ≤ n0 ∧ n0 ≤ 768) ∧ (0 ≤ e0 ∧ e0 ≤ 768) ∧ (0 ≤ c0 ∧ c0 ≤ 768)) :
  Calls Tryz.prog 138 #[.pointer (some ⟨g, 0, none⟩), .iface (planeT f) (.agg #[]), .agg #[.int .i64 A, .int .i64 B, .int .i64 C], .agg #[.int .i64 a, .int .i64 b, .int .i64 c, .int .i64 d, .int .i64 x, .int .i64 y]] w fun e w' => e = .returned (.tuple #[]) ∧ BX g [.int .i64 r, .int .i64 (n0 + 1), .int .i64 (e0 + bI (mayB A B C (a, b, c, d, x, y))), .int .i64 (c0 + bI (cenB A B C a b c d)), .bool (if n0 = 0 then alB f A B C a b c d else a0)] w' ∧ Below g w w' := by
 obtain ⟨hl, hf, hkk, hst, hm, hs⟩ := suit_parts hok
 obtain ⟨p, q, hax⟩ : ∃ p q, axP a b c d = (p, q) := ⟨_, _, rfl⟩
 obtain ⟨al, hal⟩ : ∃ z, z = alB f A B C a b c d := ⟨_, rfl⟩
 obtain ⟨IX, hIX⟩ : ∃ z, z = ivX A B C a b c d := ⟨_, rfl⟩
 obtain ⟨IY, hIY⟩ : ∃ z, z = ivY A B C a b c d := ⟨_, rfl⟩
 have zg : g < w.heap.size := hX.lt
 have hn1 : IntKind.i64.wrap (n0 + 1) = n0 + 1 := IntWalk.i64_in _ (by omega)
 have he1 : IntKind.i64.wrap (e0 + 1) = e0 + 1 := IntWalk.i64_in _ (by omega)
 have hc1 : IntKind.i64.wrap (c0 + 1) = c0 + 1 := IntWalk.i64_in _ (by omega)
 have HNB := Lib.hid (fun W => neighbours_any f A B C W hf hl)
 have HSH := Lib.hid (fun (L : List (Int × Int)) (gn cap : Nat) (W : World) (hmid : midL L) (h8 : L.length = 8) (hR : IRow gn 16 (intAt (cells2 L)) W) => (show Calls Tryz.prog 204 #[.iface (planeT f) (.agg #[]), .slice (some ⟨gn, 0, none⟩) 8 cap] W (ShOwn f L W) from by
  have := shortest_any f L gn cap W hf hmid (by omega) (by rw [h8]; exact hR)
  rw [h8] at this
  exact this))
 have HIV := Lib.hid (fun W => invar_any A B C a b c d p q W hl hm hr hax hs)
 rw [show (invK A B C p q : Int) * p = IX from by rw [hIX]; unfold ivX; rw [hax], show (invK A B C p q : Int) * q = IY from by rw [hIY]; unfold ivY; rw [hax]] at HIV
 have HCT := Lib.hid (fun (L : List (Int × Int)) (W : World) (v : Value) {ux uy vx vy : Int} (hG : Gau f A B C ux uy vx vy) (hS : L.Pairwise lexlt) (hM : ∀ z, z ∈ L ↔ z ∈ nbL ux uy vx vy) {bs : Nat} (ho : W.ownsRow bs 63 2 v (shortL f L).length (cells2 (shortL f L))) => (show Calls Tryz.prog 203 #[v, .agg #[.int .i64 IX, .int .i64 IY]] W (fun e w' => e = .returned (.bool al) ∧ Below W.heap.size W w') from by
  have h9 := hG.shorts hf hl hS hM
  rw [h9] at ho
  have := containsV_any IX IY ho (shortM_len f A B C)
  rw [hal, hIX, hIY]
  rw [hIX, hIY] at this
  exact this))
 have HMA := Lib.hid (fun W => mayRef_any f A B C a b c d x y W hok)
 have HCA := Lib.hid (fun W => isCen_any f A B C a b c d x y W hok hr)
 have P0 : Bx (w.heap.size) [.int .i64 A, .int .i64 B, .int .i64 C] ((w.alloc (.cells #[.int .i64 A, .int .i64 B, .int .i64 C] 28)).alloc (.cells #[.int .i64 a, .int .i64 b, .int .i64 c, .int .i64 d, .int .i64 x, .int .i64 y] 145)) := (Bx.at _ rfl).alloc _
 have Q0 : Bx (w.heap.size + 1) [.int .i64 a, .int .i64 b, .int .i64 c, .int .i64 d, .int .i64 x, .int .i64 y] ((w.alloc (.cells #[.int .i64 A, .int .i64 B, .int .i64 C] 28)).alloc (.cells #[.int .i64 a, .int .i64 b, .int .i64 c, .int .i64 d, .int .i64 x, .int .i64 y] 145)) := Bx.at _ (by simp)
 have X0 : BX g [.int .i64 r, .int .i64 n0, .int .i64 e0, .int .i64 c0, .bool a0] ((w.alloc (.cells #[.int .i64 A, .int .i64 B, .int .i64 C] 28)).alloc (.cells #[.int .i64 a, .int .i64 b, .int .i64 c, .int .i64 d, .int .i64 x, .int .i64 y] 145)) := (hX.alloc _).alloc _
 have B0 : Below g w ((w.alloc (.cells #[.int .i64 A, .int .i64 B, .int .i64 C] 28)).alloc (.cells #[.int .i64 a, .int .i64 b, .int .i64 c, .int .i64 d, .int .i64 x, .int .i64 y] 145)) := Below.alloc (Below.alloc (Below.refl _ _) (by omega) _) (by simp; omega) _
 clear hX hb hl hf hkk hst hm hs hax hIX hIY hok hr
 obtain ⟨nv, hnv⟩ : ∃ z, z = n0 + 1 := ⟨_, rfl⟩
 obtain ⟨ev, hev⟩ : ∃ z, z = e0 + bI (mayB A B C (a, b, c, d, x, y)) := ⟨_, rfl⟩
 obtain ⟨cv, hcv⟩ : ∃ z, z = c0 + bI (cenB A B C a b c d) := ⟨_, rfl⟩
 obtain ⟨av, hav⟩ : ∃ z, z = (if n0 = 0 then alB f A B C a b c d else a0) := ⟨_, rfl⟩
 rw [← hnv, ← hev, ← hcv, ← hav]
 by_cases hz : n0 = 0
 ·skip
  rcases hmb : mayB A B C (a, b, c, d, x, y) with _ | _ <;> rcases hcb : cenB A B C a b c d with _ | _
  ·skip
   have HMB := Lib.hid (show mayB A B C (a, b, c, d, x, y) = false from hmb)
   have HCB := Lib.hid (show cenB A B C a b c d = false from hcb)
   have HFIN := Lib.hid (show (nv = 1) ∧ (ev = e0) ∧ (cv = c0) ∧ (av = al) from ⟨by rw [hnv, hz]; rfl, by rw [hev]; try rw [hmb]; simp [bI], by rw [hcv]; try rw [hcb]; simp [bI], by rw [hav, if_pos hz, hal]⟩)
   clear hnv hev hcv hav
   clear hmb hcb hal
   subst hz
   go_enter Tryz.func138, Tryz.ntmps138
   go_upto_region 1 with fail
   obtain ⟨w0, hw0⟩ : ∃ z, z = ((w.alloc (.cells #[.int .i64 A, .int .i64 B, .int .i64 C] 28)).alloc (.cells #[.int .i64 a, .int .i64 b, .int .i64 c, .int .i64 d, .int .i64 x, .int .i64 y] 145)) := ⟨_, rfl⟩
   have z0 : w.heap.size < w0.heap.size := by rw [hw0]; simp; omega
   rw [← hw0] at P0 Q0 X0 B0 ⊢
   clear hw0
   have P0c0 := P0.c0
   have P0c1 := P0.c1
   have P0c2 := P0.c2
   have P0l := P0.lt
   have Q0c0 := Q0.c0
   have Q0c1 := Q0.c1
   have Q0c2 := Q0.c2
   have Q0c3 := Q0.c3
   have Q0c4 := Q0.c4
   have Q0c5 := Q0.c5
   have Q0l := Q0.lt
   have X0c0 := X0.c0
   have X0c1 := X0.c1
   have X0c2 := X0.c2
   have X0c3 := X0.c3
   have X0c4 := X0.c4
   have X0f0 := X0.f0
   have X0f1 := X0.f1
   have X0f2 := X0.f2
   have X0f3 := X0.f3
   have X0f4 := X0.f4
   have X0l := X0.lt
   go_wp2_with fail
   go_region_held3 (fun W9 => (W9.cell? ⟨w.heap.size, 0, none⟩ = some (.int .i64 A) ∧ W9.cell? ⟨w.heap.size, 1, none⟩ = some (.int .i64 B) ∧ W9.cell? ⟨w.heap.size, 2, none⟩ = some (.int .i64 C)) ∧ (W9.cell? ⟨w.heap.size + 1, 0, none⟩ = some (.int .i64 a) ∧ W9.cell? ⟨w.heap.size + 1, 1, none⟩ = some (.int .i64 b) ∧ W9.cell? ⟨w.heap.size + 1, 2, none⟩ = some (.int .i64 c) ∧ W9.cell? ⟨w.heap.size + 1, 3, none⟩ = some (.int .i64 d) ∧ W9.cell? ⟨w.heap.size + 1, 4, none⟩ = some (.int .i64 x) ∧ W9.cell? ⟨w.heap.size + 1, 5, none⟩ = some (.int .i64 y))) ((refine And.intro (Bx.cells3 ?_) (Bx.cells6t ?_)) <;> (exact pkFtA1))
    (first
     | (go_at_call 205; (with_reducible refine (HNB.out _).mono ?_); rintro e u1 ⟨ux, uy, vx, vy, Lb, gn, cap, rfl, hG, h8, hS, hM, hmid, hgn, _, hR, hb1⟩; have P1 : Bx (w.heap.size) [.int .i64 A, .int .i64 B, .int .i64 C] u1 := (by exact pkFtA1); have Q1 : Bx (w.heap.size + 1) [.int .i64 a, .int .i64 b, .int .i64 c, .int .i64 d, .int .i64 x, .int .i64 y] u1 := (by exact pkFtA1); have X1 : BX g [.int .i64 r, .int .i64 0, .int .i64 e0, .int .i64 c0, .bool a0] u1 := (by with_reducible exact pkFtA7); have c1 : Below w0.heap.size w0 u1 := (by exact pkFtA2))
     | (go_at_call 204; (with_reducible refine (HSH.out Lb gn cap _ hmid h8 (by first | with_reducible exact hR | with_reducible exact IRow.call hR (Below.drew (Below.refl _ _)))).mono ?_); rintro e u2 ⟨v2, rfl, ho2, hb2⟩; have P2 : Bx (w.heap.size) [.int .i64 A, .int .i64 B, .int .i64 C] u2 := (by exact pkFtA1); have Q2 : Bx (w.heap.size + 1) [.int .i64 a, .int .i64 b, .int .i64 c, .int .i64 d, .int .i64 x, .int .i64 y] u2 := (by exact pkFtA1); have X2 : BX g [.int .i64 r, .int .i64 0, .int .i64 e0, .int .i64 c0, .bool a0] u2 := (by with_reducible exact pkFtA7); have c2 : Below w0.heap.size w0 u2 := (by exact pkFtA2))
     | (go_at_call 85; (with_reducible refine (HIV.out _).mono ?_); rintro e u3 ⟨rfl, hb3⟩; have P3 : Bx (w.heap.size) [.int .i64 A, .int .i64 B, .int .i64 C] u3 := (by exact pkFtA1); have Q3 : Bx (w.heap.size + 1) [.int .i64 a, .int .i64 b, .int .i64 c, .int .i64 d, .int .i64 x, .int .i64 y] u3 := (by exact pkFtA1); have X3 : BX g [.int .i64 r, .int .i64 0, .int .i64 e0, .int .i64 c0, .bool a0] u3 := (by with_reducible exact pkFtA7); have c3 : Below w0.heap.size w0 u3 := (by exact pkFtA2); have ho3 : u3.ownsRow u1.heap.size 63 2 v2 (shortL f Lb).length (cells2 (shortL f Lb)) := (by first | exact ownsRow_call ho2 hb3 | exact ownsRow_call (ownsRow_call ho2 (Below.drew (Below.refl _ _))) hb3))
     | (go_at_call 203; (with_reducible refine (HCT.out Lb _ v2 hG hS hM ho3).mono ?_); rintro e u4 ⟨rfl, hb4⟩; have P4 : Bx (w.heap.size) [.int .i64 A, .int .i64 B, .int .i64 C] u4 := (by exact pkFtA1); have Q4 : Bx (w.heap.size + 1) [.int .i64 a, .int .i64 b, .int .i64 c, .int .i64 d, .int .i64 x, .int .i64 y] u4 := (by exact pkFtA1); have X4 : BX g [.int .i64 r, .int .i64 0, .int .i64 e0, .int .i64 c0, .bool a0] u4 := (by with_reducible exact pkFtA7); have c4 : Below w0.heap.size w0 u4 := (by exact pkFtA2); have X4c0 := X4.c0; have X4c1 := X4.c1; have X4c2 := X4.c2; have X4c3 := X4.c3; have X4c4 := X4.c4; have X4f0 := X4.f0; have X4f1 := X4.f1; have X4f2 := X4.f2; have X4f3 := X4.f3; have X4f4 := X4.f4; have X4l := X4.lt))
   all_goals
    have D4 : Below g w u4 := bstepG B0 c4 (by omega)
    clear hb1 hb2 hb3 hb4 hG hS hM hmid hR ho2 ho3 P1 Q1 X1 c1 P2 Q2 X2 c2 P3 Q3 X3 c3 c4
    have P4c0 := P4.c0
    have P4c1 := P4.c1
    have P4c2 := P4.c2
    have P4l := P4.lt
    have Q4c0 := Q4.c0
    have Q4c1 := Q4.c1
    have Q4c2 := Q4.c2
    have Q4c3 := Q4.c3
    have Q4c4 := Q4.c4
    have Q4c5 := Q4.c5
    have Q4l := Q4.lt
    go_wp2_with fail
    refine (HMA.out _).mono ?_
    rintro e w5 ⟨rfl, hb5⟩
    rw [HMB.out]
    have P5 := Bx.call (show Bx (w.heap.size) [.int .i64 A, .int .i64 B, .int .i64 C] _ from by exact pkFtA1) hb5
    have Q5 := Bx.call (show Bx (w.heap.size + 1) [.int .i64 a, .int .i64 b, .int .i64 c, .int .i64 d, .int .i64 x, .int .i64 y] _ from by exact pkFtA1) hb5
    have X5 := BX.call (show BX g [.int .i64 r, .int .i64 1, .int .i64 e0, .int .i64 c0, .bool al] _ from by exact pkFtA3) hb5
    have B5 : Below g w w5 := bstepG (by exact pkFtA0) hb5 (by have := zg; first | omega | (simp; omega))
    clear hb5
    clear P4 Q4 X4 D4 P4c0 P4c1 P4c2 P4l Q4c0 Q4c1 Q4c2 Q4c3 Q4c4 Q4c5 Q4l X4c0 X4c1 X4c2 X4c3 X4c4 X4f0 X4f1 X4f2 X4f3 X4f4 X4l
    have P5c0 := P5.c0
    have P5c1 := P5.c1
    have P5c2 := P5.c2
    have P5l := P5.lt
    have Q5c0 := Q5.c0
    have Q5c1 := Q5.c1
    have Q5c2 := Q5.c2
    have Q5c3 := Q5.c3
    have Q5c4 := Q5.c4
    have Q5c5 := Q5.c5
    have Q5l := Q5.lt
    have X5c0 := X5.c0
    have X5c1 := X5.c1
    have X5c2 := X5.c2
    have X5c3 := X5.c3
    have X5c4 := X5.c4
    have X5f0 := X5.f0
    have X5f1 := X5.f1
    have X5f2 := X5.f2
    have X5f3 := X5.f3
    have X5f4 := X5.f4
    have X5l := X5.lt
    go_wp2_with fail
    refine (HCA.out _).mono ?_
    rintro e w6 ⟨rfl, hb6⟩
    rw [HCB.out]
    have X6 := BX.call (show BX g [.int .i64 r, .int .i64 1, .int .i64 e0, .int .i64 c0, .bool al] _ from by with_reducible exact pkFtA8) hb6
    have B6 : Below g w w6 := bstepG (by exact pkFtA0) hb6 (by have := zg; have := P5.lt; first | omega | (simp; omega))
    clear hb6 P5 Q5 X5 B5 P5c0 P5c1 P5c2 P5l Q5c0 Q5c1 Q5c2 Q5c3 Q5c4 Q5c5 Q5l X5c0 X5c1 X5c2 X5c3 X5c4 X5f0 X5f1 X5f2 X5f3 X5f4 X5l
    have X6c0 := X6.c0
    have X6c1 := X6.c1
    have X6c2 := X6.c2
    have X6c3 := X6.c3
    have X6c4 := X6.c4
    have X6f0 := X6.f0
    have X6f1 := X6.f1
    have X6f2 := X6.f2
    have X6f3 := X6.f3
    have X6f4 := X6.f4
    have X6l := X6.lt
    go_wp2
    go_end0
    refine ⟨rfl, ?_, ?_⟩
    ·rw [HFIN.out.1, HFIN.out.2.1, HFIN.out.2.2.1, HFIN.out.2.2.2]
     with_reducible exact pkFtA8
    ·exact pkFtA0
  ·skip
   have HMB := Lib.hid (show mayB A B C (a, b, c, d, x, y) = false from hmb)
   have HCB := Lib.hid (show cenB A B C a b c d = true from hcb)
   have HFIN := Lib.hid (show (nv = 1) ∧ (ev = e0) ∧ (cv = c0 + 1) ∧ (av = al) from ⟨by rw [hnv, hz]; rfl, by rw [hev]; try rw [hmb]; simp [bI], by rw [hcv]; try rw [hcb]; simp [bI], by rw [hav, if_pos hz, hal]⟩)
   clear hnv hev hcv hav
   clear hmb hcb hal
   subst hz
   go_enter Tryz.func138, Tryz.ntmps138
   go_upto_region 1 with fail
   obtain ⟨w0, hw0⟩ : ∃ z, z = ((w.alloc (.cells #[.int .i64 A, .int .i64 B, .int .i64 C] 28)).alloc (.cells #[.int .i64 a, .int .i64 b, .int .i64 c, .int .i64 d, .int .i64 x, .int .i64 y] 145)) := ⟨_, rfl⟩
   have z0 : w.heap.size < w0.heap.size := by rw [hw0]; simp; omega
   rw [← hw0] at P0 Q0 X0 B0 ⊢
   clear hw0
   have P0c0 := P0.c0
   have P0c1 := P0.c1
   have P0c2 := P0.c2
   have P0l := P0.lt
   have Q0c0 := Q0.c0
   have Q0c1 := Q0.c1
   have Q0c2 := Q0.c2
   have Q0c3 := Q0.c3
   have Q0c4 := Q0.c4
   have Q0c5 := Q0.c5
   have Q0l := Q0.lt
   have X0c0 := X0.c0
   have X0c1 := X0.c1
   have X0c2 := X0.c2
   have X0c3 := X0.c3
   have X0c4 := X0.c4
   have X0f0 := X0.f0
   have X0f1 := X0.f1
   have X0f2 := X0.f2
   have X0f3 := X0.f3
   have X0f4 := X0.f4
   have X0l := X0.lt
   go_wp2_with fail
   go_region_held3 (fun W9 => (W9.cell? ⟨w.heap.size, 0, none⟩ = some (.int .i64 A) ∧ W9.cell? ⟨w.heap.size, 1, none⟩ = some (.int .i64 B) ∧ W9.cell? ⟨w.heap.size, 2, none⟩ = some (.int .i64 C)) ∧ (W9.cell? ⟨w.heap.size + 1, 0, none⟩ = some (.int .i64 a) ∧ W9.cell? ⟨w.heap.size + 1, 1, none⟩ = some (.int .i64 b) ∧ W9.cell? ⟨w.heap.size + 1, 2, none⟩ = some (.int .i64 c) ∧ W9.cell? ⟨w.heap.size + 1, 3, none⟩ = some (.int .i64 d) ∧ W9.cell? ⟨w.heap.size + 1, 4, none⟩ = some (.int .i64 x) ∧ W9.cell? ⟨w.heap.size + 1, 5, none⟩ = some (.int .i64 y))) ((refine And.intro (Bx.cells3 ?_) (Bx.cells6t ?_)) <;> (exact pkFtA1))
    (first
     | (go_at_call 205; (with_reducible refine (HNB.out _).mono ?_); rintro e u1 ⟨ux, uy, vx, vy, Lb, gn, cap, rfl, hG, h8, hS, hM, hmid, hgn, _, hR, hb1⟩; have P1 : Bx (w.heap.size) [.int .i64 A, .int .i64 B, .int .i64 C] u1 := (by exact pkFtA1); have Q1 : Bx (w.heap.size + 1) [.int .i64 a, .int .i64 b, .int .i64 c, .int .i64 d, .int .i64 x, .int .i64 y] u1 := (by exact pkFtA1); have X1 : BX g [.int .i64 r, .int .i64 0, .int .i64 e0, .int .i64 c0, .bool a0] u1 := (by with_reducible exact pkFtA7); have c1 : Below w0.heap.size w0 u1 := (by exact pkFtA2))
     | (go_at_call 204; (with_reducible refine (HSH.out Lb gn cap _ hmid h8 (by first | with_reducible exact hR | with_reducible exact IRow.call hR (Below.drew (Below.refl _ _)))).mono ?_); rintro e u2 ⟨v2, rfl, ho2, hb2⟩; have P2 : Bx (w.heap.size) [.int .i64 A, .int .i64 B, .int .i64 C] u2 := (by exact pkFtA1); have Q2 : Bx (w.heap.size + 1) [.int .i64 a, .int .i64 b, .int .i64 c, .int .i64 d, .int .i64 x, .int .i64 y] u2 := (by exact pkFtA1); have X2 : BX g [.int .i64 r, .int .i64 0, .int .i64 e0, .int .i64 c0, .bool a0] u2 := (by with_reducible exact pkFtA7); have c2 : Below w0.heap.size w0 u2 := (by exact pkFtA2))
     | (go_at_call 85; (with_reducible refine (HIV.out _).mono ?_); rintro e u3 ⟨rfl, hb3⟩; have P3 : Bx (w.heap.size) [.int .i64 A, .int .i64 B, .int .i64 C] u3 := (by exact pkFtA1); have Q3 : Bx (w.heap.size + 1) [.int .i64 a, .int .i64 b, .int .i64 c, .int .i64 d, .int .i64 x, .int .i64 y] u3 := (by exact pkFtA1); have X3 : BX g [.int .i64 r, .int .i64 0, .int .i64 e0, .int .i64 c0, .bool a0] u3 := (by with_reducible exact pkFtA7); have c3 : Below w0.heap.size w0 u3 := (by exact pkFtA2); have ho3 : u3.ownsRow u1.heap.size 63 2 v2 (shortL f Lb).length (cells2 (shortL f Lb)) := (by first | exact ownsRow_call ho2 hb3 | exact ownsRow_call (ownsRow_call ho2 (Below.drew (Below.refl _ _))) hb3))
     | (go_at_call 203; (with_reducible refine (HCT.out Lb _ v2 hG hS hM ho3).mono ?_); rintro e u4 ⟨rfl, hb4⟩; have P4 : Bx (w.heap.size) [.int .i64 A, .int .i64 B, .int .i64 C] u4 := (by exact pkFtA1); have Q4 : Bx (w.heap.size + 1) [.int .i64 a, .int .i64 b, .int .i64 c, .int .i64 d, .int .i64 x, .int .i64 y] u4 := (by exact pkFtA1); have X4 : BX g [.int .i64 r, .int .i64 0, .int .i64 e0, .int .i64 c0, .bool a0] u4 := (by with_reducible exact pkFtA7); have c4 : Below w0.heap.size w0 u4 := (by exact pkFtA2); have X4c0 := X4.c0; have X4c1 := X4.c1; have X4c2 := X4.c2; have X4c3 := X4.c3; have X4c4 := X4.c4; have X4f0 := X4.f0; have X4f1 := X4.f1; have X4f2 := X4.f2; have X4f3 := X4.f3; have X4f4 := X4.f4; have X4l := X4.lt))
   all_goals
    have D4 : Below g w u4 := bstepG B0 c4 (by omega)
    clear hb1 hb2 hb3 hb4 hG hS hM hmid hR ho2 ho3 P1 Q1 X1 c1 P2 Q2 X2 c2 P3 Q3 X3 c3 c4
    have P4c0 := P4.c0
    have P4c1 := P4.c1
    have P4c2 := P4.c2
    have P4l := P4.lt
    have Q4c0 := Q4.c0
    have Q4c1 := Q4.c1
    have Q4c2 := Q4.c2
    have Q4c3 := Q4.c3
    have Q4c4 := Q4.c4
    have Q4c5 := Q4.c5
    have Q4l := Q4.lt
    go_wp2_with fail
    refine (HMA.out _).mono ?_
    rintro e w5 ⟨rfl, hb5⟩
    rw [HMB.out]
    have P5 := Bx.call (show Bx (w.heap.size) [.int .i64 A, .int .i64 B, .int .i64 C] _ from by exact pkFtA1) hb5
    have Q5 := Bx.call (show Bx (w.heap.size + 1) [.int .i64 a, .int .i64 b, .int .i64 c, .int .i64 d, .int .i64 x, .int .i64 y] _ from by exact pkFtA1) hb5
    have X5 := BX.call (show BX g [.int .i64 r, .int .i64 1, .int .i64 e0, .int .i64 c0, .bool al] _ from by exact pkFtA3) hb5
    have B5 : Below g w w5 := bstepG (by exact pkFtA0) hb5 (by have := zg; first | omega | (simp; omega))
    clear hb5
    clear P4 Q4 X4 D4 P4c0 P4c1 P4c2 P4l Q4c0 Q4c1 Q4c2 Q4c3 Q4c4 Q4c5 Q4l X4c0 X4c1 X4c2 X4c3 X4c4 X4f0 X4f1 X4f2 X4f3 X4f4 X4l
    have P5c0 := P5.c0
    have P5c1 := P5.c1
    have P5c2 := P5.c2
    have P5l := P5.lt
    have Q5c0 := Q5.c0
    have Q5c1 := Q5.c1
    have Q5c2 := Q5.c2
    have Q5c3 := Q5.c3
    have Q5c4 := Q5.c4
    have Q5c5 := Q5.c5
    have Q5l := Q5.lt
    have X5c0 := X5.c0
    have X5c1 := X5.c1
    have X5c2 := X5.c2
    have X5c3 := X5.c3
    have X5c4 := X5.c4
    have X5f0 := X5.f0
    have X5f1 := X5.f1
    have X5f2 := X5.f2
    have X5f3 := X5.f3
    have X5f4 := X5.f4
    have X5l := X5.lt
    go_wp2_with fail
    refine (HCA.out _).mono ?_
    rintro e w6 ⟨rfl, hb6⟩
    rw [HCB.out]
    have X6 := BX.call (show BX g [.int .i64 r, .int .i64 1, .int .i64 e0, .int .i64 c0, .bool al] _ from by with_reducible exact pkFtA8) hb6
    have B6 : Below g w w6 := bstepG (by exact pkFtA0) hb6 (by have := zg; have := P5.lt; first | omega | (simp; omega))
    clear hb6 P5 Q5 X5 B5 P5c0 P5c1 P5c2 P5l Q5c0 Q5c1 Q5c2 Q5c3 Q5c4 Q5c5 Q5l X5c0 X5c1 X5c2 X5c3 X5c4 X5f0 X5f1 X5f2 X5f3 X5f4 X5l
    have X6c0 := X6.c0
    have X6c1 := X6.c1
    have X6c2 := X6.c2
    have X6c3 := X6.c3
    have X6c4 := X6.c4
    have X6f0 := X6.f0
    have X6f1 := X6.f1
    have X6f2 := X6.f2
    have X6f3 := X6.f3
    have X6f4 := X6.f4
    have X6l := X6.lt
    go_wp2
    go_end0
    refine ⟨rfl, ?_, ?_⟩
    ·rw [HFIN.out.1, HFIN.out.2.1, HFIN.out.2.2.1, HFIN.out.2.2.2]
     exact pkFtA4
    ·exact pkFtA0
  ·skip
   have HMB := Lib.hid (show mayB A B C (a, b, c, d, x, y) = true from hmb)
   have HCB := Lib.hid (show cenB A B C a b c d = false from hcb)
   have HFIN := Lib.hid (show (nv = 1) ∧ (ev = e0 + 1) ∧ (cv = c0) ∧ (av = al) from ⟨by rw [hnv, hz]; rfl, by rw [hev]; try rw [hmb]; simp [bI], by rw [hcv]; try rw [hcb]; simp [bI], by rw [hav, if_pos hz, hal]⟩)
   clear hnv hev hcv hav
   clear hmb hcb hal
   subst hz
   go_enter Tryz.func138, Tryz.ntmps138
   go_upto_region 1 with fail
   obtain ⟨w0, hw0⟩ : ∃ z, z = ((w.alloc (.cells #[.int .i64 A, .int .i64 B, .int .i64 C] 28)).alloc (.cells #[.int .i64 a, .int .i64 b, .int .i64 c, .int .i64 d, .int .i64 x, .int .i64 y] 145)) := ⟨_, rfl⟩
   have z0 : w.heap.size < w0.heap.size := by rw [hw0]; simp; omega
   rw [← hw0] at P0 Q0 X0 B0 ⊢
   clear hw0
   have P0c0 := P0.c0
   have P0c1 := P0.c1
   have P0c2 := P0.c2
   have P0l := P0.lt
   have Q0c0 := Q0.c0
   have Q0c1 := Q0.c1
   have Q0c2 := Q0.c2
   have Q0c3 := Q0.c3
   have Q0c4 := Q0.c4
   have Q0c5 := Q0.c5
   have Q0l := Q0.lt
   have X0c0 := X0.c0
   have X0c1 := X0.c1
   have X0c2 := X0.c2
   have X0c3 := X0.c3
   have X0c4 := X0.c4
   have X0f0 := X0.f0
   have X0f1 := X0.f1
   have X0f2 := X0.f2
   have X0f3 := X0.f3
   have X0f4 := X0.f4
   have X0l := X0.lt
   go_wp2_with fail
   go_region_held3 (fun W9 => (W9.cell? ⟨w.heap.size, 0, none⟩ = some (.int .i64 A) ∧ W9.cell? ⟨w.heap.size, 1, none⟩ = some (.int .i64 B) ∧ W9.cell? ⟨w.heap.size, 2, none⟩ = some (.int .i64 C)) ∧ (W9.cell? ⟨w.heap.size + 1, 0, none⟩ = some (.int .i64 a) ∧ W9.cell? ⟨w.heap.size + 1, 1, none⟩ = some (.int .i64 b) ∧ W9.cell? ⟨w.heap.size + 1, 2, none⟩ = some (.int .i64 c) ∧ W9.cell? ⟨w.heap.size + 1, 3, none⟩ = some (.int .i64 d) ∧ W9.cell? ⟨w.heap.size + 1, 4, none⟩ = some (.int .i64 x) ∧ W9.cell? ⟨w.heap.size + 1, 5, none⟩ = some (.int .i64 y))) ((refine And.intro (Bx.cells3 ?_) (Bx.cells6t ?_)) <;> (exact pkFtA1))
    (first
     | (go_at_call 205; (with_reducible refine (HNB.out _).mono ?_); rintro e u1 ⟨ux, uy, vx, vy, Lb, gn, cap, rfl, hG, h8, hS, hM, hmid, hgn, _, hR, hb1⟩; have P1 : Bx (w.heap.size) [.int .i64 A, .int .i64 B, .int .i64 C] u1 := (by exact pkFtA1); have Q1 : Bx (w.heap.size + 1) [.int .i64 a, .int .i64 b, .int .i64 c, .int .i64 d, .int .i64 x, .int .i64 y] u1 := (by exact pkFtA1); have X1 : BX g [.int .i64 r, .int .i64 0, .int .i64 e0, .int .i64 c0, .bool a0] u1 := (by with_reducible exact pkFtA7); have c1 : Below w0.heap.size w0 u1 := (by exact pkFtA2))
     | (go_at_call 204; (with_reducible refine (HSH.out Lb gn cap _ hmid h8 (by first | with_reducible exact hR | with_reducible exact IRow.call hR (Below.drew (Below.refl _ _)))).mono ?_); rintro e u2 ⟨v2, rfl, ho2, hb2⟩; have P2 : Bx (w.heap.size) [.int .i64 A, .int .i64 B, .int .i64 C] u2 := (by exact pkFtA1); have Q2 : Bx (w.heap.size + 1) [.int .i64 a, .int .i64 b, .int .i64 c, .int .i64 d, .int .i64 x, .int .i64 y] u2 := (by exact pkFtA1); have X2 : BX g [.int .i64 r, .int .i64 0, .int .i64 e0, .int .i64 c0, .bool a0] u2 := (by with_reducible exact pkFtA7); have c2 : Below w0.heap.size w0 u2 := (by exact pkFtA2))
     | (go_at_call 85; (with_reducible refine (HIV.out _).mono ?_); rintro e u3 ⟨rfl, hb3⟩; have P3 : Bx (w.heap.size) [.int .i64 A, .int .i64 B, .int .i64 C] u3 := (by exact pkFtA1); have Q3 : Bx (w.heap.size + 1) [.int .i64 a, .int .i64 b, .int .i64 c, .int .i64 d, .int .i64 x, .int .i64 y] u3 := (by exact pkFtA1); have X3 : BX g [.int .i64 r, .int .i64 0, .int .i64 e0, .int .i64 c0, .bool a0] u3 := (by with_reducible exact pkFtA7); have c3 : Below w0.heap.size w0 u3 := (by exact pkFtA2); have ho3 : u3.ownsRow u1.heap.size 63 2 v2 (shortL f Lb).length (cells2 (shortL f Lb)) := (by first | exact ownsRow_call ho2 hb3 | exact ownsRow_call (ownsRow_call ho2 (Below.drew (Below.refl _ _))) hb3))
     | (go_at_call 203; (with_reducible refine (HCT.out Lb _ v2 hG hS hM ho3).mono ?_); rintro e u4 ⟨rfl, hb4⟩; have P4 : Bx (w.heap.size) [.int .i64 A, .int .i64 B, .int .i64 C] u4 := (by exact pkFtA1); have Q4 : Bx (w.heap.size + 1) [.int .i64 a, .int .i64 b, .int .i64 c, .int .i64 d, .int .i64 x, .int .i64 y] u4 := (by exact pkFtA1); have X4 : BX g [.int .i64 r, .int .i64 0, .int .i64 e0, .int .i64 c0, .bool a0] u4 := (by with_reducible exact pkFtA7); have c4 : Below w0.heap.size w0 u4 := (by exact pkFtA2); have X4c0 := X4.c0; have X4c1 := X4.c1; have X4c2 := X4.c2; have X4c3 := X4.c3; have X4c4 := X4.c4; have X4f0 := X4.f0; have X4f1 := X4.f1; have X4f2 := X4.f2; have X4f3 := X4.f3; have X4f4 := X4.f4; have X4l := X4.lt))
   all_goals
    have D4 : Below g w u4 := bstepG B0 c4 (by omega)
    clear hb1 hb2 hb3 hb4 hG hS hM hmid hR ho2 ho3 P1 Q1 X1 c1 P2 Q2 X2 c2 P3 Q3 X3 c3 c4
    have P4c0 := P4.c0
    have P4c1 := P4.c1
    have P4c2 := P4.c2
    have P4l := P4.lt
    have Q4c0 := Q4.c0
    have Q4c1 := Q4.c1
    have Q4c2 := Q4.c2
    have Q4c3 := Q4.c3
    have Q4c4 := Q4.c4
    have Q4c5 := Q4.c5
    have Q4l := Q4.lt
    go_wp2_with fail
    refine (HMA.out _).mono ?_
    rintro e w5 ⟨rfl, hb5⟩
    rw [HMB.out]
    have P5 := Bx.call (show Bx (w.heap.size) [.int .i64 A, .int .i64 B, .int .i64 C] _ from by exact pkFtA1) hb5
    have Q5 := Bx.call (show Bx (w.heap.size + 1) [.int .i64 a, .int .i64 b, .int .i64 c, .int .i64 d, .int .i64 x, .int .i64 y] _ from by exact pkFtA1) hb5
    have X5 := BX.call (show BX g [.int .i64 r, .int .i64 1, .int .i64 e0, .int .i64 c0, .bool al] _ from by exact pkFtA3) hb5
    have B5 : Below g w w5 := bstepG (by exact pkFtA0) hb5 (by have := zg; first | omega | (simp; omega))
    clear hb5
    clear P4 Q4 X4 D4 P4c0 P4c1 P4c2 P4l Q4c0 Q4c1 Q4c2 Q4c3 Q4c4 Q4c5 Q4l X4c0 X4c1 X4c2 X4c3 X4c4 X4f0 X4f1 X4f2 X4f3 X4f4 X4l
    have P5c0 := P5.c0
    have P5c1 := P5.c1
    have P5c2 := P5.c2
    have P5l := P5.lt
    have Q5c0 := Q5.c0
    have Q5c1 := Q5.c1
    have Q5c2 := Q5.c2
    have Q5c3 := Q5.c3
    have Q5c4 := Q5.c4
    have Q5c5 := Q5.c5
    have Q5l := Q5.lt
    have X5c0 := X5.c0
    have X5c1 := X5.c1
    have X5c2 := X5.c2
    have X5c3 := X5.c3
    have X5c4 := X5.c4
    have X5f0 := X5.f0
    have X5f1 := X5.f1
    have X5f2 := X5.f2
    have X5f3 := X5.f3
    have X5f4 := X5.f4
    have X5l := X5.lt
    go_wp2_with fail
    refine (HCA.out _).mono ?_
    rintro e w6 ⟨rfl, hb6⟩
    rw [HCB.out]
    have X6 := BX.call (show BX g [.int .i64 r, .int .i64 1, .int .i64 (e0 + 1), .int .i64 c0, .bool al] _ from by exact pkFtA5) hb6
    have B6 : Below g w w6 := bstepG (by exact pkFtA0) hb6 (by have := zg; have := P5.lt; first | omega | (simp; omega))
    clear hb6 P5 Q5 X5 B5 P5c0 P5c1 P5c2 P5l Q5c0 Q5c1 Q5c2 Q5c3 Q5c4 Q5c5 Q5l X5c0 X5c1 X5c2 X5c3 X5c4 X5f0 X5f1 X5f2 X5f3 X5f4 X5l
    have X6c0 := X6.c0
    have X6c1 := X6.c1
    have X6c2 := X6.c2
    have X6c3 := X6.c3
    have X6c4 := X6.c4
    have X6f0 := X6.f0
    have X6f1 := X6.f1
    have X6f2 := X6.f2
    have X6f3 := X6.f3
    have X6f4 := X6.f4
    have X6l := X6.lt
    go_wp2
    go_end0
    refine ⟨rfl, ?_, ?_⟩
    ·rw [HFIN.out.1, HFIN.out.2.1, HFIN.out.2.2.1, HFIN.out.2.2.2]
     with_reducible exact pkFtA8
    ·exact pkFtA0
  ·skip
   have HMB := Lib.hid (show mayB A B C (a, b, c, d, x, y) = true from hmb)
   have HCB := Lib.hid (show cenB A B C a b c d = true from hcb)
   have HFIN := Lib.hid (show (nv = 1) ∧ (ev = e0 + 1) ∧ (cv = c0 + 1) ∧ (av = al) from ⟨by rw [hnv, hz]; rfl, by rw [hev]; try rw [hmb]; simp [bI], by rw [hcv]; try rw [hcb]; simp [bI], by rw [hav, if_pos hz, hal]⟩)
   clear hnv hev hcv hav
   clear hmb hcb hal
   subst hz
   go_enter Tryz.func138, Tryz.ntmps138
   go_upto_region 1 with fail
   obtain ⟨w0, hw0⟩ : ∃ z, z = ((w.alloc (.cells #[.int .i64 A, .int .i64 B, .int .i64 C] 28)).alloc (.cells #[.int .i64 a, .int .i64 b, .int .i64 c, .int .i64 d, .int .i64 x, .int .i64 y] 145)) := ⟨_, rfl⟩
   have z0 : w.heap.size < w0.heap.size := by rw [hw0]; simp; omega
   rw [← hw0] at P0 Q0 X0 B0 ⊢
   clear hw0
   have P0c0 := P0.c0
   have P0c1 := P0.c1
   have P0c2 := P0.c2
   have P0l := P0.lt
   have Q0c0 := Q0.c0
   have Q0c1 := Q0.c1
   have Q0c2 := Q0.c2
   have Q0c3 := Q0.c3
   have Q0c4 := Q0.c4
   have Q0c5 := Q0.c5
   have Q0l := Q0.lt
   have X0c0 := X0.c0
   have X0c1 := X0.c1
   have X0c2 := X0.c2
   have X0c3 := X0.c3
   have X0c4 := X0.c4
   have X0f0 := X0.f0
   have X0f1 := X0.f1
   have X0f2 := X0.f2
   have X0f3 := X0.f3
   have X0f4 := X0.f4
   have X0l := X0.lt
   go_wp2_with fail
   go_region_held3 (fun W9 => (W9.cell? ⟨w.heap.size, 0, none⟩ = some (.int .i64 A) ∧ W9.cell? ⟨w.heap.size, 1, none⟩ = some (.int .i64 B) ∧ W9.cell? ⟨w.heap.size, 2, none⟩ = some (.int .i64 C)) ∧ (W9.cell? ⟨w.heap.size + 1, 0, none⟩ = some (.int .i64 a) ∧ W9.cell? ⟨w.heap.size + 1, 1, none⟩ = some (.int .i64 b) ∧ W9.cell? ⟨w.heap.size + 1, 2, none⟩ = some (.int .i64 c) ∧ W9.cell? ⟨w.heap.size + 1, 3, none⟩ = some (.int .i64 d) ∧ W9.cell? ⟨w.heap.size + 1, 4, none⟩ = some (.int .i64 x) ∧ W9.cell? ⟨w.heap.size + 1, 5, none⟩ = some (.int .i64 y))) ((refine And.intro (Bx.cells3 ?_) (Bx.cells6t ?_)) <;> (exact pkFtA1))
    (first
     | (go_at_call 205; (with_reducible refine (HNB.out _).mono ?_); rintro e u1 ⟨ux, uy, vx, vy, Lb, gn, cap, rfl, hG, h8, hS, hM, hmid, hgn, _, hR, hb1⟩; have P1 : Bx (w.heap.size) [.int .i64 A, .int .i64 B, .int .i64 C] u1 := (by exact pkFtA1); have Q1 : Bx (w.heap.size + 1) [.int .i64 a, .int .i64 b, .int .i64 c, .int .i64 d, .int .i64 x, .int .i64 y] u1 := (by exact pkFtA1); have X1 : BX g [.int .i64 r, .int .i64 0, .int .i64 e0, .int .i64 c0, .bool a0] u1 := (by with_reducible exact pkFtA7); have c1 : Below w0.heap.size w0 u1 := (by exact pkFtA2))
     | (go_at_call 204; (with_reducible refine (HSH.out Lb gn cap _ hmid h8 (by first | with_reducible exact hR | with_reducible exact IRow.call hR (Below.drew (Below.refl _ _)))).mono ?_); rintro e u2 ⟨v2, rfl, ho2, hb2⟩; have P2 : Bx (w.heap.size) [.int .i64 A, .int .i64 B, .int .i64 C] u2 := (by exact pkFtA1); have Q2 : Bx (w.heap.size + 1) [.int .i64 a, .int .i64 b, .int .i64 c, .int .i64 d, .int .i64 x, .int .i64 y] u2 := (by exact pkFtA1); have X2 : BX g [.int .i64 r, .int .i64 0, .int .i64 e0, .int .i64 c0, .bool a0] u2 := (by with_reducible exact pkFtA7); have c2 : Below w0.heap.size w0 u2 := (by exact pkFtA2))
     | (go_at_call 85; (with_reducible refine (HIV.out _).mono ?_); rintro e u3 ⟨rfl, hb3⟩; have P3 : Bx (w.heap.size) [.int .i64 A, .int .i64 B, .int .i64 C] u3 := (by exact pkFtA1); have Q3 : Bx (w.heap.size + 1) [.int .i64 a, .int .i64 b, .int .i64 c, .int .i64 d, .int .i64 x, .int .i64 y] u3 := (by exact pkFtA1); have X3 : BX g [.int .i64 r, .int .i64 0, .int .i64 e0, .int .i64 c0, .bool a0] u3 := (by with_reducible exact pkFtA7); have c3 : Below w0.heap.size w0 u3 := (by exact pkFtA2); have ho3 : u3.ownsRow u1.heap.size 63 2 v2 (shortL f Lb).length (cells2 (shortL f Lb)) := (by first | exact ownsRow_call ho2 hb3 | exact ownsRow_call (ownsRow_call ho2 (Below.drew (Below.refl _ _))) hb3))
     | (go_at_call 203; (with_reducible refine (HCT.out Lb _ v2 hG hS hM ho3).mono ?_); rintro e u4 ⟨rfl, hb4⟩; have P4 : Bx (w.heap.size) [.int .i64 A, .int .i64 B, .int .i64 C] u4 := (by exact pkFtA1); have Q4 : Bx (w.heap.size + 1) [.int .i64 a, .int .i64 b, .int .i64 c, .int .i64 d, .int .i64 x, .int .i64 y] u4 := (by exact pkFtA1); have X4 : BX g [.int .i64 r, .int .i64 0, .int .i64 e0, .int .i64 c0, .bool a0] u4 := (by with_reducible exact pkFtA7); have c4 : Below w0.heap.size w0 u4 := (by exact pkFtA2); have X4c0 := X4.c0; have X4c1 := X4.c1; have X4c2 := X4.c2; have X4c3 := X4.c3; have X4c4 := X4.c4; have X4f0 := X4.f0; have X4f1 := X4.f1; have X4f2 := X4.f2; have X4f3 := X4.f3; have X4f4 := X4.f4; have X4l := X4.lt))
   all_goals
    have D4 : Below g w u4 := bstepG B0 c4 (by omega)
    clear hb1 hb2 hb3 hb4 hG hS hM hmid hR ho2 ho3 P1 Q1 X1 c1 P2 Q2 X2 c2 P3 Q3 X3 c3 c4
    have P4c0 := P4.c0
    have P4c1 := P4.c1
    have P4c2 := P4.c2
    have P4l := P4.lt
    have Q4c0 := Q4.c0
    have Q4c1 := Q4.c1
    have Q4c2 := Q4.c2
    have Q4c3 := Q4.c3
    have Q4c4 := Q4.c4
    have Q4c5 := Q4.c5
    have Q4l := Q4.lt
    go_wp2_with fail
    refine (HMA.out _).mono ?_
    rintro e w5 ⟨rfl, hb5⟩
    rw [HMB.out]
    have P5 := Bx.call (show Bx (w.heap.size) [.int .i64 A, .int .i64 B, .int .i64 C] _ from by exact pkFtA1) hb5
    have Q5 := Bx.call (show Bx (w.heap.size + 1) [.int .i64 a, .int .i64 b, .int .i64 c, .int .i64 d, .int .i64 x, .int .i64 y] _ from by exact pkFtA1) hb5
    have X5 := BX.call (show BX g [.int .i64 r, .int .i64 1, .int .i64 e0, .int .i64 c0, .bool al] _ from by exact pkFtA3) hb5
    have B5 : Below g w w5 := bstepG (by exact pkFtA0) hb5 (by have := zg; first | omega | (simp; omega))
    clear hb5
    clear P4 Q4 X4 D4 P4c0 P4c1 P4c2 P4l Q4c0 Q4c1 Q4c2 Q4c3 Q4c4 Q4c5 Q4l X4c0 X4c1 X4c2 X4c3 X4c4 X4f0 X4f1 X4f2 X4f3 X4f4 X4l
    have P5c0 := P5.c0
    have P5c1 := P5.c1
    have P5c2 := P5.c2
    have P5l := P5.lt
    have Q5c0 := Q5.c0
    have Q5c1 := Q5.c1
    have Q5c2 := Q5.c2
    have Q5c3 := Q5.c3
    have Q5c4 := Q5.c4
    have Q5c5 := Q5.c5
    have Q5l := Q5.lt
    have X5c0 := X5.c0
    have X5c1 := X5.c1
    have X5c2 := X5.c2
    have X5c3 := X5.c3
    have X5c4 := X5.c4
    have X5f0 := X5.f0
    have X5f1 := X5.f1
    have X5f2 := X5.f2
    have X5f3 := X5.f3
    have X5f4 := X5.f4
    have X5l := X5.lt
    go_wp2_with fail
    refine (HCA.out _).mono ?_
    rintro e w6 ⟨rfl, hb6⟩
    rw [HCB.out]
    have X6 := BX.call (show BX g [.int .i64 r, .int .i64 1, .int .i64 (e0 + 1), .int .i64 c0, .bool al] _ from by exact pkFtA5) hb6
    have B6 : Below g w w6 := bstepG (by exact pkFtA0) hb6 (by have := zg; have := P5.lt; first | omega | (simp; omega))
    clear hb6 P5 Q5 X5 B5 P5c0 P5c1 P5c2 P5l Q5c0 Q5c1 Q5c2 Q5c3 Q5c4 Q5c5 Q5l X5c0 X5c1 X5c2 X5c3 X5c4 X5f0 X5f1 X5f2 X5f3 X5f4 X5l
    have X6c0 := X6.c0
    have X6c1 := X6.c1
    have X6c2 := X6.c2
    have X6c3 := X6.c3
    have X6c4 := X6.c4
    have X6f0 := X6.f0
    have X6f1 := X6.f1
    have X6f2 := X6.f2
    have X6f3 := X6.f3
    have X6f4 := X6.f4
    have X6l := X6.lt
    go_wp2
    go_end0
    refine ⟨rfl, ?_, ?_⟩
    ·rw [HFIN.out.1, HFIN.out.2.1, HFIN.out.2.2.1, HFIN.out.2.2.2]
     exact pkFtA4
    ·exact pkFtA0
 ·have hzf : (n0 == 0) = false := by simpa using hz
  rcases hmb : mayB A B C (a, b, c, d, x, y) with _ | _ <;> rcases hcb : cenB A B C a b c d with _ | _
  ·skip
   have HMB := Lib.hid (show mayB A B C (a, b, c, d, x, y) = false from hmb)
   have HCB := Lib.hid (show cenB A B C a b c d = false from hcb)
   have HFIN := Lib.hid (show (nv = n0 + 1) ∧ (ev = e0) ∧ (cv = c0) ∧ (av = a0) from ⟨hnv, by rw [hev]; try rw [hmb]; simp [bI], by rw [hcv]; try rw [hcb]; simp [bI], by rw [hav, if_neg hz]⟩)
   clear hnv hev hcv hav
   clear hmb hcb hal
   clear hz
   go_enter Tryz.func138, Tryz.ntmps138
   go_upto_region 1 with fail
   obtain ⟨w0, hw0⟩ : ∃ z, z = ((w.alloc (.cells #[.int .i64 A, .int .i64 B, .int .i64 C] 28)).alloc (.cells #[.int .i64 a, .int .i64 b, .int .i64 c, .int .i64 d, .int .i64 x, .int .i64 y] 145)) := ⟨_, rfl⟩
   have z0 : w.heap.size < w0.heap.size := by rw [hw0]; simp; omega
   rw [← hw0] at P0 Q0 X0 B0 ⊢
   clear hw0
   have P0c0 := P0.c0
   have P0c1 := P0.c1
   have P0c2 := P0.c2
   have P0l := P0.lt
   have Q0c0 := Q0.c0
   have Q0c1 := Q0.c1
   have Q0c2 := Q0.c2
   have Q0c3 := Q0.c3
   have Q0c4 := Q0.c4
   have Q0c5 := Q0.c5
   have Q0l := Q0.lt
   have X0c0 := X0.c0
   have X0c1 := X0.c1
   have X0c2 := X0.c2
   have X0c3 := X0.c3
   have X0c4 := X0.c4
   have X0f0 := X0.f0
   have X0f1 := X0.f1
   have X0f2 := X0.f2
   have X0f3 := X0.f3
   have X0f4 := X0.f4
   have X0l := X0.lt
   go_wp2_with fail
   refine (HMA.out _).mono ?_
   rintro e w5 ⟨rfl, hb5⟩
   rw [HMB.out]
   have P5 := Bx.call (show Bx (w.heap.size) [.int .i64 A, .int .i64 B, .int .i64 C] _ from by exact pkFtA1) hb5
   have Q5 := Bx.call (show Bx (w.heap.size + 1) [.int .i64 a, .int .i64 b, .int .i64 c, .int .i64 d, .int .i64 x, .int .i64 y] _ from by exact pkFtA1) hb5
   have X5 := BX.call (show BX g [.int .i64 r, .int .i64 (n0 + 1), .int .i64 e0, .int .i64 c0, .bool a0] _ from by exact pkFtA6) hb5
   have B5 : Below g w w5 := bstepG (by exact pkFtA0) hb5 (by have := zg; first | omega | (simp; omega))
   clear hb5
   clear P0 Q0 X0 B0 P0c0 P0c1 P0c2 P0l Q0c0 Q0c1 Q0c2 Q0c3 Q0c4 Q0c5 Q0l X0c0 X0c1 X0c2 X0c3 X0c4 X0f0 X0f1 X0f2 X0f3 X0f4 X0l
   have P5c0 := P5.c0
   have P5c1 := P5.c1
   have P5c2 := P5.c2
   have P5l := P5.lt
   have Q5c0 := Q5.c0
   have Q5c1 := Q5.c1
   have Q5c2 := Q5.c2
   have Q5c3 := Q5.c3
   have Q5c4 := Q5.c4
   have Q5c5 := Q5.c5
   have Q5l := Q5.lt
   have X5c0 := X5.c0
   have X5c1 := X5.c1
   have X5c2 := X5.c2
   have X5c3 := X5.c3
   have X5c4 := X5.c4
   have X5f0 := X5.f0
   have X5f1 := X5.f1
   have X5f2 := X5.f2
   have X5f3 := X5.f3
   have X5f4 := X5.f4
   have X5l := X5.lt
   go_wp2_with fail
   refine (HCA.out _).mono ?_
   rintro e w6 ⟨rfl, hb6⟩
   rw [HCB.out]
   have X6 := BX.call (show BX g [.int .i64 r, .int .i64 (n0 + 1), .int .i64 e0, .int .i64 c0, .bool a0] _ from by with_reducible exact pkFtA8) hb6
   have B6 : Below g w w6 := bstepG (by exact pkFtA0) hb6 (by have := zg; have := P5.lt; first | omega | (simp; omega))
   clear hb6 P5 Q5 X5 B5 P5c0 P5c1 P5c2 P5l Q5c0 Q5c1 Q5c2 Q5c3 Q5c4 Q5c5 Q5l X5c0 X5c1 X5c2 X5c3 X5c4 X5f0 X5f1 X5f2 X5f3 X5f4 X5l
   have X6c0 := X6.c0
   have X6c1 := X6.c1
   have X6c2 := X6.c2
   have X6c3 := X6.c3
   have X6c4 := X6.c4
   have X6f0 := X6.f0
   have X6f1 := X6.f1
   have X6f2 := X6.f2
   have X6f3 := X6.f3
   have X6f4 := X6.f4
   have X6l := X6.lt
   go_wp2
   go_end0
   refine ⟨rfl, ?_, ?_⟩
   ·rw [HFIN.out.1, HFIN.out.2.1, HFIN.out.2.2.1, HFIN.out.2.2.2]
    with_reducible exact pkFtA8
   ·exact pkFtA0
  ·skip
   have HMB := Lib.hid (show mayB A B C (a, b, c, d, x, y) = false from hmb)
   have HCB := Lib.hid (show cenB A B C a b c d = true from hcb)
   have HFIN := Lib.hid (show (nv = n0 + 1) ∧ (ev = e0) ∧ (cv = c0 + 1) ∧ (av = a0) from ⟨hnv, by rw [hev]; try rw [hmb]; simp [bI], by rw [hcv]; try rw [hcb]; simp [bI], by rw [hav, if_neg hz]⟩)
   clear hnv hev hcv hav
   clear hmb hcb hal
   clear hz
   go_enter Tryz.func138, Tryz.ntmps138
   go_upto_region 1 with fail
   obtain ⟨w0, hw0⟩ : ∃ z, z = ((w.alloc (.cells #[.int .i64 A, .int .i64 B, .int .i64 C] 28)).alloc (.cells #[.int .i64 a, .int .i64 b, .int .i64 c, .int .i64 d, .int .i64 x, .int .i64 y] 145)) := ⟨_, rfl⟩
   have z0 : w.heap.size < w0.heap.size := by rw [hw0]; simp; omega
   rw [← hw0] at P0 Q0 X0 B0 ⊢
   clear hw0
   have P0c0 := P0.c0
   have P0c1 := P0.c1
   have P0c2 := P0.c2
   have P0l := P0.lt
   have Q0c0 := Q0.c0
   have Q0c1 := Q0.c1
   have Q0c2 := Q0.c2
   have Q0c3 := Q0.c3
   have Q0c4 := Q0.c4
   have Q0c5 := Q0.c5
   have Q0l := Q0.lt
   have X0c0 := X0.c0
   have X0c1 := X0.c1
   have X0c2 := X0.c2
   have X0c3 := X0.c3
   have X0c4 := X0.c4
   have X0f0 := X0.f0
   have X0f1 := X0.f1
   have X0f2 := X0.f2
   have X0f3 := X0.f3
   have X0f4 := X0.f4
   have X0l := X0.lt
   go_wp2_with fail
   refine (HMA.out _).mono ?_
   rintro e w5 ⟨rfl, hb5⟩
   rw [HMB.out]
   have P5 := Bx.call (show Bx (w.heap.size) [.int .i64 A, .int .i64 B, .int .i64 C] _ from by exact pkFtA1) hb5
   have Q5 := Bx.call (show Bx (w.heap.size + 1) [.int .i64 a, .int .i64 b, .int .i64 c, .int .i64 d, .int .i64 x, .int .i64 y] _ from by exact pkFtA1) hb5
   have X5 := BX.call (show BX g [.int .i64 r, .int .i64 (n0 + 1), .int .i64 e0, .int .i64 c0, .bool a0] _ from by exact pkFtA6) hb5
   have B5 : Below g w w5 := bstepG (by exact pkFtA0) hb5 (by have := zg; first | omega | (simp; omega))
   clear hb5
   clear P0 Q0 X0 B0 P0c0 P0c1 P0c2 P0l Q0c0 Q0c1 Q0c2 Q0c3 Q0c4 Q0c5 Q0l X0c0 X0c1 X0c2 X0c3 X0c4 X0f0 X0f1 X0f2 X0f3 X0f4 X0l
   have P5c0 := P5.c0
   have P5c1 := P5.c1
   have P5c2 := P5.c2
   have P5l := P5.lt
   have Q5c0 := Q5.c0
   have Q5c1 := Q5.c1
   have Q5c2 := Q5.c2
   have Q5c3 := Q5.c3
   have Q5c4 := Q5.c4
   have Q5c5 := Q5.c5
   have Q5l := Q5.lt
   have X5c0 := X5.c0
   have X5c1 := X5.c1
   have X5c2 := X5.c2
   have X5c3 := X5.c3
   have X5c4 := X5.c4
   have X5f0 := X5.f0
   have X5f1 := X5.f1
   have X5f2 := X5.f2
   have X5f3 := X5.f3
   have X5f4 := X5.f4
   have X5l := X5.lt
   go_wp2_with fail
   refine (HCA.out _).mono ?_
   rintro e w6 ⟨rfl, hb6⟩
   rw [HCB.out]
   have X6 := BX.call (show BX g [.int .i64 r, .int .i64 (n0 + 1), .int .i64 e0, .int .i64 c0, .bool a0] _ from by with_reducible exact pkFtA8) hb6
   have B6 : Below g w w6 := bstepG (by exact pkFtA0) hb6 (by have := zg; have := P5.lt; first | omega | (simp; omega))
   clear hb6 P5 Q5 X5 B5 P5c0 P5c1 P5c2 P5l Q5c0 Q5c1 Q5c2 Q5c3 Q5c4 Q5c5 Q5l X5c0 X5c1 X5c2 X5c3 X5c4 X5f0 X5f1 X5f2 X5f3 X5f4 X5l
   have X6c0 := X6.c0
   have X6c1 := X6.c1
   have X6c2 := X6.c2
   have X6c3 := X6.c3
   have X6c4 := X6.c4
   have X6f0 := X6.f0
   have X6f1 := X6.f1
   have X6f2 := X6.f2
   have X6f3 := X6.f3
   have X6f4 := X6.f4
   have X6l := X6.lt
   go_wp2
   go_end0
   refine ⟨rfl, ?_, ?_⟩
   ·rw [HFIN.out.1, HFIN.out.2.1, HFIN.out.2.2.1, HFIN.out.2.2.2]
    exact pkFtA4
   ·exact pkFtA0
  ·skip
   have HMB := Lib.hid (show mayB A B C (a, b, c, d, x, y) = true from hmb)
   have HCB := Lib.hid (show cenB A B C a b c d = false from hcb)
   have HFIN := Lib.hid (show (nv = n0 + 1) ∧ (ev = e0 + 1) ∧ (cv = c0) ∧ (av = a0) from ⟨hnv, by rw [hev]; try rw [hmb]; simp [bI], by rw [hcv]; try rw [hcb]; simp [bI], by rw [hav, if_neg hz]⟩)
   clear hnv hev hcv hav
   clear hmb hcb hal
   clear hz
   go_enter Tryz.func138, Tryz.ntmps138
   go_upto_region 1 with fail
   obtain ⟨w0, hw0⟩ : ∃ z, z = ((w.alloc (.cells #[.int .i64 A, .int .i64 B, .int .i64 C] 28)).alloc (.cells #[.int .i64 a, .int .i64 b, .int .i64 c, .int .i64 d, .int .i64 x, .int .i64 y] 145)) := ⟨_, rfl⟩
   have z0 : w.heap.size < w0.heap.size := by rw [hw0]; simp; omega
   rw [← hw0] at P0 Q0 X0 B0 ⊢
   clear hw0
   have P0c0 := P0.c0
   have P0c1 := P0.c1
   have P0c2 := P0.c2
   have P0l := P0.lt
   have Q0c0 := Q0.c0
   have Q0c1 := Q0.c1
   have Q0c2 := Q0.c2
   have Q0c3 := Q0.c3
   have Q0c4 := Q0.c4
   have Q0c5 := Q0.c5
   have Q0l := Q0.lt
   have X0c0 := X0.c0
   have X0c1 := X0.c1
   have X0c2 := X0.c2
   have X0c3 := X0.c3
   have X0c4 := X0.c4
   have X0f0 := X0.f0
   have X0f1 := X0.f1
   have X0f2 := X0.f2
   have X0f3 := X0.f3
   have X0f4 := X0.f4
   have X0l := X0.lt
   go_wp2_with fail
   refine (HMA.out _).mono ?_
   rintro e w5 ⟨rfl, hb5⟩
   rw [HMB.out]
   have P5 := Bx.call (show Bx (w.heap.size) [.int .i64 A, .int .i64 B, .int .i64 C] _ from by exact pkFtA1) hb5
   have Q5 := Bx.call (show Bx (w.heap.size + 1) [.int .i64 a, .int .i64 b, .int .i64 c, .int .i64 d, .int .i64 x, .int .i64 y] _ from by exact pkFtA1) hb5
   have X5 := BX.call (show BX g [.int .i64 r, .int .i64 (n0 + 1), .int .i64 e0, .int .i64 c0, .bool a0] _ from by exact pkFtA6) hb5
   have B5 : Below g w w5 := bstepG (by exact pkFtA0) hb5 (by have := zg; first | omega | (simp; omega))
   clear hb5
   clear P0 Q0 X0 B0 P0c0 P0c1 P0c2 P0l Q0c0 Q0c1 Q0c2 Q0c3 Q0c4 Q0c5 Q0l X0c0 X0c1 X0c2 X0c3 X0c4 X0f0 X0f1 X0f2 X0f3 X0f4 X0l
   have P5c0 := P5.c0
   have P5c1 := P5.c1
   have P5c2 := P5.c2
   have P5l := P5.lt
   have Q5c0 := Q5.c0
   have Q5c1 := Q5.c1
   have Q5c2 := Q5.c2
   have Q5c3 := Q5.c3
   have Q5c4 := Q5.c4
   have Q5c5 := Q5.c5
   have Q5l := Q5.lt
   have X5c0 := X5.c0
   have X5c1 := X5.c1
   have X5c2 := X5.c2
   have X5c3 := X5.c3
   have X5c4 := X5.c4
   have X5f0 := X5.f0
   have X5f1 := X5.f1
   have X5f2 := X5.f2
   have X5f3 := X5.f3
   have X5f4 := X5.f4
   have X5l := X5.lt
   go_wp2_with fail
   refine (HCA.out _).mono ?_
   rintro e w6 ⟨rfl, hb6⟩
   rw [HCB.out]
   have X6 := BX.call (show BX g [.int .i64 r, .int .i64 (n0 + 1), .int .i64 (e0 + 1), .int .i64 c0, .bool a0] _ from by exact pkFtA5) hb6
   have B6 : Below g w w6 := bstepG (by exact pkFtA0) hb6 (by have := zg; have := P5.lt; first | omega | (simp; omega))
   clear hb6 P5 Q5 X5 B5 P5c0 P5c1 P5c2 P5l Q5c0 Q5c1 Q5c2 Q5c3 Q5c4 Q5c5 Q5l X5c0 X5c1 X5c2 X5c3 X5c4 X5f0 X5f1 X5f2 X5f3 X5f4 X5l
   have X6c0 := X6.c0
   have X6c1 := X6.c1
   have X6c2 := X6.c2
   have X6c3 := X6.c3
   have X6c4 := X6.c4
   have X6f0 := X6.f0
   have X6f1 := X6.f1
   have X6f2 := X6.f2
   have X6f3 := X6.f3
   have X6f4 := X6.f4
   have X6l := X6.lt
   go_wp2
   go_end0
   refine ⟨rfl, ?_, ?_⟩
   ·rw [HFIN.out.1, HFIN.out.2.1, HFIN.out.2.2.1, HFIN.out.2.2.2]
    with_reducible exact pkFtA8
   ·exact pkFtA0
  ·skip
   have HMB := Lib.hid (show mayB A B C (a, b, c, d, x, y) = true from hmb)
   have HCB := Lib.hid (show cenB A B C a b c d = true from hcb)
   have HFIN := Lib.hid (show (nv = n0 + 1) ∧ (ev = e0 + 1) ∧ (cv = c0 + 1) ∧ (av = a0) from ⟨hnv, by rw [hev]; try rw [hmb]; simp [bI], by rw [hcv]; try rw [hcb]; simp [bI], by rw [hav, if_neg hz]⟩)
   clear hnv hev hcv hav
   clear hmb hcb hal
   clear hz
   go_enter Tryz.func138, Tryz.ntmps138
   go_upto_region 1 with fail
   obtain ⟨w0, hw0⟩ : ∃ z, z = ((w.alloc (.cells #[.int .i64 A, .int .i64 B, .int .i64 C] 28)).alloc (.cells #[.int .i64 a, .int .i64 b, .int .i64 c, .int .i64 d, .int .i64 x, .int .i64 y] 145)) := ⟨_, rfl⟩
   have z0 : w.heap.size < w0.heap.size := by rw [hw0]; simp; omega
   rw [← hw0] at P0 Q0 X0 B0 ⊢
   clear hw0
   have P0c0 := P0.c0
   have P0c1 := P0.c1
   have P0c2 := P0.c2
   have P0l := P0.lt
   have Q0c0 := Q0.c0
   have Q0c1 := Q0.c1
   have Q0c2 := Q0.c2
   have Q0c3 := Q0.c3
   have Q0c4 := Q0.c4
   have Q0c5 := Q0.c5
   have Q0l := Q0.lt
   have X0c0 := X0.c0
   have X0c1 := X0.c1
   have X0c2 := X0.c2
   have X0c3 := X0.c3
   have X0c4 := X0.c4
   have X0f0 := X0.f0
   have X0f1 := X0.f1
   have X0f2 := X0.f2
   have X0f3 := X0.f3
   have X0f4 := X0.f4
   have X0l := X0.lt
   go_wp2_with fail
   refine (HMA.out _).mono ?_
   rintro e w5 ⟨rfl, hb5⟩
   rw [HMB.out]
   have P5 := Bx.call (show Bx (w.heap.size) [.int .i64 A, .int .i64 B, .int .i64 C] _ from by exact pkFtA1) hb5
   have Q5 := Bx.call (show Bx (w.heap.size + 1) [.int .i64 a, .int .i64 b, .int .i64 c, .int .i64 d, .int .i64 x, .int .i64 y] _ from by exact pkFtA1) hb5
   have X5 := BX.call (show BX g [.int .i64 r, .int .i64 (n0 + 1), .int .i64 e0, .int .i64 c0, .bool a0] _ from by exact pkFtA6) hb5
   have B5 : Below g w w5 := bstepG (by exact pkFtA0) hb5 (by have := zg; first | omega | (simp; omega))
   clear hb5
   clear P0 Q0 X0 B0 P0c0 P0c1 P0c2 P0l Q0c0 Q0c1 Q0c2 Q0c3 Q0c4 Q0c5 Q0l X0c0 X0c1 X0c2 X0c3 X0c4 X0f0 X0f1 X0f2 X0f3 X0f4 X0l
   have P5c0 := P5.c0
   have P5c1 := P5.c1
   have P5c2 := P5.c2
   have P5l := P5.lt
   have Q5c0 := Q5.c0
   have Q5c1 := Q5.c1
   have Q5c2 := Q5.c2
   have Q5c3 := Q5.c3
   have Q5c4 := Q5.c4
   have Q5c5 := Q5.c5
   have Q5l := Q5.lt
   have X5c0 := X5.c0
   have X5c1 := X5.c1
   have X5c2 := X5.c2
   have X5c3 := X5.c3
   have X5c4 := X5.c4
   have X5f0 := X5.f0
   have X5f1 := X5.f1
   have X5f2 := X5.f2
   have X5f3 := X5.f3
   have X5f4 := X5.f4
   have X5l := X5.lt
   go_wp2_with fail
   refine (HCA.out _).mono ?_
   rintro e w6 ⟨rfl, hb6⟩
   rw [HCB.out]
   have X6 := BX.call (show BX g [.int .i64 r, .int .i64 (n0 + 1), .int .i64 (e0 + 1), .int .i64 c0, .bool a0] _ from by exact pkFtA5) hb6
   have B6 : Below g w w6 := bstepG (by exact pkFtA0) hb6 (by have := zg; have := P5.lt; first | omega | (simp; omega))
   clear hb6 P5 Q5 X5 B5 P5c0 P5c1 P5c2 P5l Q5c0 Q5c1 Q5c2 Q5c3 Q5c4 Q5c5 Q5l X5c0 X5c1 X5c2 X5c3 X5c4 X5f0 X5f1 X5f2 X5f3 X5f4 X5l
   have X6c0 := X6.c0
   have X6c1 := X6.c1
   have X6c2 := X6.c2
   have X6c3 := X6.c3
   have X6c4 := X6.c4
   have X6f0 := X6.f0
   have X6f1 := X6.f1
   have X6f2 := X6.f2
   have X6f3 := X6.f3
   have X6f4 := X6.f4
   have X6l := X6.lt
   go_wp2
   go_end0
   refine ⟨rfl, ?_, ?_⟩
   ·rw [HFIN.out.1, HFIN.out.2.1, HFIN.out.2.2.1, HFIN.out.2.2.2]
    exact pkFtA4
   ·exact pkFtA0
end Go.Proofs.YtjjfomokecngoaaGreatDoor
