/-
  SiteSymmetries, in the program and in the model. Conditions: a slice that lies in a block of its own; the program's variable unitMatrix holds the unit.
-/
import Derived.Test.YtkfdaepnjdnnmaaDoorSgP
import Derived.Test.YtkfdaepnjdnnmaaDoorHcl
import Derived.Test.YtkfdaepnjdnnmaaDoorFx9
import Derived.Deep.RegionHeld3
import Derived.IntWalk
namespace Go.Proofs.YtkfdaepnjdnnmaaDoor
open Go.RowKit
set_option linter.unusedSimpArgs false
set_option linter.unusedVariables false

attribute [local go_sem ↓] eqVe7
def csB (A B C : Int) (F : Nat → Int) (x y : Int) : Bool := celB (leaP A B C F : Int) (leaQ A B C F : Int) (x, y)
def ssL (f A B C : Int) (n : Nat) (F : Nat → Int) (x y : Int) : List M6 := if patB f A B C n F = true then (if csB A B C F x y = true then (sgL f A B C n F).filter (fun m => decide (mv (leaP A B C F : Int) (fulI A B C F).2.1 (leaQ A B C F : Int) m (x, y) = (x, y))) else []) else []
def ssC (f A B C : Int) (n : Nat) (F : Nat → Int) (x y : Int) : Int := if patB f A B C n F = true then (if csB A B C F x y = true then 0 else 2) else 1
theorem ssL_len (f A B C : Int) (n : Nat) (F : Nat → Int) (x y : Int) : (ssL f A B C n F x y).length ≤ 5184 := by
  unfold ssL
  split
  · split
    · exact Nat.le_trans (List.length_filter_le _ _) (sgL_len f A B C n F)
    · simp
  · simp
theorem own_rowS {W : World} {base : Nat} {v : Value} {G : List M6} {T : TypeId} (h : W.ownsRow base T 6 v G.length (cells6 G)) (hn : 0 < G.length) (hn2 : G.length ≤ 5184) : ∃ g cap, v = .slice (some ⟨g, 0, none⟩) G.length cap ∧ base ≤ g ∧ G.length ≤ cap ∧ cap ≤ maxLen ∧ IRow g (G.length * 6) (fm G) W := by
  obtain ⟨g', c', e1, h1, _, r1⟩ := (srow6 h hn2).2.2.resolve_left (fun h => by omega)
  rcases h.2 with ⟨_, hz⟩ | ⟨g, cap, cur, h', hb, _, hc, hm, _⟩
  · omega
  · rw [e1] at h'
    simp only [Value.slice.injEq, Option.some.injEq, Addr.mk.injEq, and_true, true_and] at h'
    obtain ⟨h5, h6⟩ := h'
    subst h5 h6
    exact ⟨_, _, e1, h1, hc, hm, r1⟩
theorem sg_facts {f A B C : Int} {n : Nat} {F : Nat → Int} (h : patB f A B C n F = true) : grpB f (leaP A B C F : Int) (fulI A B C F).2.1 (leaQ A B C F : Int) (sgL f A B C n F) = true := by
  obtain ⟨p, q, rfl, rfl, hp⟩ := patB_of h
  have h9 := symL_grp (lean_pat hp)
  unfold sgL
  rw [if_pos h]
  exact h9
theorem SRow.lower7 {lo lo' hi K n : Nat} {v : Value} {F : Nat → Int} {W : World} (h : SRow lo hi K v n F W) (hl : lo' ≤ lo) : SRow lo' hi K v n F W := by
  obtain ⟨h1, h2, h3⟩ := h
  refine ⟨h1, h2, ?_⟩
  rcases h3 with h3 | ⟨g, cap, e, k1, k2⟩
  · exact .inl h3
  · exact .inr ⟨g, cap, e, Nat.le_trans hl k1, k2⟩
set_option maxRecDepth 100000 in
set_option maxHeartbeats 16000000 in
theorem implSS_any {lo hi n : Nat} {v : Value} {F : Nat → Int} {w : World} (f A B C x y : Int) (hv : SRow lo hi 1 v n F w) (hU : UnitOK w) :
    Calls Tryd.prog 28 #[.agg #[.int .i64 f, .int .i64 A, .int .i64 B, .int .i64 C, v], .agg #[.int .i64 x, .int .i64 y]] w (MAns (ssL f A B C n F x y) (ssC f A B C n F x y) w) := by
  have R9 := Lib.hid hv
  have HU := Lib.hid hU
  have HLN0 := sgL_len f A B C n F
  obtain ⟨ao, cap, rfl⟩ := hv.slice
  clear hv hU
  have P0 : Bx w.heap.size [.int .i64 f, .int .i64 A, .int .i64 B, .int .i64 C, .slice ao n cap] ((w.alloc (.cells #[.int .i64 f, .int .i64 A, .int .i64 B, .int .i64 C, .slice ao n cap] 33)).alloc (.cells #[.int .i64 x, .int .i64 y] 49)) := (Bx.at _ rfl).alloc _
  have V0 : Bx (w.heap.size + 1) [.int .i64 x, .int .i64 y] ((w.alloc (.cells #[.int .i64 f, .int .i64 A, .int .i64 B, .int .i64 C, .slice ao n cap] 33)).alloc (.cells #[.int .i64 x, .int .i64 y] 49)) := Bx.at _ (by simp)
  have B0 : Below w.heap.size w ((w.alloc (.cells #[.int .i64 f, .int .i64 A, .int .i64 B, .int .i64 C, .slice ao n cap] 33)).alloc (.cells #[.int .i64 x, .int .i64 y] 49)) := by repeat (first | with_reducible exact Below.refl _ _ | with_reducible assumption | with_reducible refine Below.setCell ?_ (by first | omega | (dsimp only; omega) | (simp <;> omega)) _ | with_reducible refine Below.alloc ?_ (by first | omega | (simp <;> omega)) _ | with_reducible refine bstep ?_ (by with_reducible assumption) | with_reducible refine Below.drew ?_ | with_reducible refine below_drewN ?_ _)
  rcases k1 : patB f A B C n F with _ | _
  · rw [show ssL f A B C n F x y = [] by simp [ssL, k1], show ssC f A B C n F x y = 1 by simp [ssC, k1]]
    clear HLN0
    go_enter Tryd.func28, Tryd.ntmps28
    go_wp2_with fail
    with_reducible refine (patValid_any f A B C (R9.out.call B0)).mono ?_
    rintro e w1 ⟨rfl, hb1⟩
    rw [k1]
    have P1 := P0.call hb1
    have V1 := V0.call hb1
    have B1 := bstep B0 hb1
    clear P0 V0 B0 hb1
    go_wp2
    go_ret2
    exact ⟨_, rfl, SRow.nil _ 6 _ _, B1⟩
  obtain ⟨l0, e0⟩ : ∃ z : Int, z = (leaP A B C F : Int) := ⟨_, rfl⟩
  obtain ⟨l1, e1⟩ : ∃ z : Int, z = (fulI A B C F).2.1 := ⟨_, rfl⟩
  obtain ⟨l2, e2⟩ : ∃ z : Int, z = (leaQ A B C F : Int) := ⟨_, rfl⟩
  obtain ⟨lm, em⟩ : ∃ z : Nat, z = leaP A B C F * leaQ A B C F := ⟨_, rfl⟩
  obtain ⟨lG, eG⟩ : ∃ z : Nat → Int, z = (onG A B C F (leaP A B C F) (leaQ A B C F)) := ⟨_, rfl⟩
  obtain ⟨L, eL⟩ : ∃ L, L = sgL f A B C n F := ⟨_, rfl⟩
  rw [← eL] at HLN0
  have HLN := Lib.hid HLN0
  clear HLN0
  have HLE := Lib.hid (fun (X : World) (hX : Below w.heap.size w X) => (show Calls Tryd.prog 42 #[.agg #[.int .i64 f, .int .i64 A, .int .i64 B, .int .i64 C, .slice ao n cap]] X (fun e w' => ∃ v' : Value, e = .returned (.agg #[.int .i64 f, .int .i64 l0, .int .i64 l1, .int .i64 l2, v']) ∧ SRow X.heap.size w'.heap.size 1 v' lm lG w' ∧ Below X.heap.size X w') from by
    obtain ⟨p, q, rfl, rfl, hp⟩ := patB_of k1
    rw [e0, e1, e2, em, eG]
    exact lean_any hp (fulI_at hp.lat).1 (fulI_at hp.lat).2 (R9.out.call hX) (HU.out.call hX)))
  have HSY := Lib.hid (fun (X : World) (v' : Value) (lo' hi' : Nat) (hs : SRow lo' hi' 1 v' lm lG X) => (show Calls Tryd.prog 43 #[.agg #[.int .i64 f, .int .i64 l0, .int .i64 l1, .int .i64 l2, v']] X (fun e w' => ∃ v3 : Value, e = .returned v3 ∧ w'.ownsRow X.heap.size 111 6 v3 L.length (cells6 L) ∧ Below X.heap.size X w') from by
    obtain ⟨p, q, rfl, rfl, hp⟩ := patB_of k1
    have hs' := hs
    rw [em, eG] at hs'
    have h9 := symm_any (lean_pat hp) hs'
    rw [e0, e1, e2, eL]
    unfold sgL
    rw [if_pos k1]
    exact h9))
  have HG := Lib.hid (show grpB f l0 l1 l2 L = true from by rw [e0, e1, e2, eL]; exact sg_facts k1)
  have HK2 := Lib.hid (show csB A B C F x y = celB l0 l2 (x, y) from by rw [e0, e2]; rfl)
  have HSL := Lib.hid (fun (h : csB A B C F x y = true) => (show ssL f A B C n F x y = L.filter (fun m => decide (mv l0 l1 l2 m (x, y) = (x, y))) from by unfold ssL; rw [if_pos k1, if_pos h, e0, e1, e2, eL]))
  have HLA := Lib.hid (show latI l0 l1 l2 from (grp_good HG.out).1)
  clear e0 e1 e2 em eG eL
  rcases k2 : csB A B C F x y with _ | _
  · rw [show ssL f A B C n F x y = [] by simp [ssL, k1, k2], show ssC f A B C n F x y = 2 by simp [ssC, k1, k2]]
    have KC := Lib.hid (show celB l0 l2 (x, y) = false from by rw [← HK2.out]; exact k2)
    go_enter Tryd.func28, Tryd.ntmps28
    go_wp2_with fail
    with_reducible refine (patValid_any f A B C (R9.out.call B0)).mono ?_
    rintro e w1 ⟨rfl, hb1⟩
    rw [k1]
    have P1 := P0.call hb1
    have V1 := V0.call hb1
    have B1 := bstep B0 hb1
    clear P0 V0 B0 hb1
    have p1c0 := P1.c0
    have p1c1 := P1.c1
    have p1c2 := P1.c2
    have p1c3 := P1.c3
    have p1c4 := P1.c4
    have p1l := P1.lt
    have v1c0 := V1.c0
    have v1c1 := V1.c1
    have v1l := V1.lt
    go_wp2_with fail
    with_reducible refine (HLE.out _ B1).mono ?_
    rintro e w2 ⟨v2, rfl, r2, hb2⟩
    obtain ⟨ao2, cap2, rfl⟩ := r2.slice
    have V2 := V1.call hb2
    have B2 := bstep B1 hb2
    clear P1 V1 B1 hb2 p1c0 p1c1 p1c2 p1c3 p1c4 p1l v1c0 v1c1 v1l
    have r3 := r2.call ((Below.refl _ _).alloc (Nat.le_refl _) (.cells #[.int .i64 f, .int .i64 l0, .int .i64 l1, .int .i64 l2, .slice ao2 lm cap2] 33))
    have V3 := V2.alloc (.cells #[.int .i64 f, .int .i64 l0, .int .i64 l1, .int .i64 l2, .slice ao2 lm cap2] 33)
    have B3 : Below w.heap.size w (w2.alloc (.cells #[.int .i64 f, .int .i64 l0, .int .i64 l1, .int .i64 l2, .slice ao2 lm cap2] 33)) := B2.alloc B2.size _
    have Q3 : Bx w2.heap.size [.int .i64 f, .int .i64 l0, .int .i64 l1, .int .i64 l2, .slice ao2 lm cap2] (w2.alloc (.cells #[.int .i64 f, .int .i64 l0, .int .i64 l1, .int .i64 l2, .slice ao2 lm cap2] 33)) := Bx.at _ rfl
    have v2c0 := V2.c0
    have v2c1 := V2.c1
    have v2l := V2.lt
    go_wp2_with fail
    with_reducible refine (hasCell_any l0 l1 l2 x y _).mono ?_
    rintro e w4 ⟨rfl, hb4⟩
    rw [KC.out]
    have R4 := Lib.hid (r3.call hb4)
    have V4 := V3.call hb4
    have Q4 := Q3.call hb4
    have B4 := bstep B3 hb4
    have z4 := B4.size
    clear V2 V3 B2 B3 Q3 hb4 r2 r3 v2c0 v2c1 v2l
    go_wp2
    go_ret2
    exact ⟨_, rfl, SRow.nil _ 6 _ _, B4⟩
  rw [HSL.out k2, show ssC f A B C n F x y = 0 by simp [ssC, k1, k2]]
  have KC := Lib.hid (show celB l0 l2 (x, y) = true from by rw [← HK2.out]; exact k2)
  have HCL := Lib.hid (show celB l0 l2 (x, y) = true from by rw [← HK2.out]; exact k2)
  have HOK := Lib.hid (grp_ok HG.out).2.1
  have H768 := Lib.hid (grp_len HG.out)
  have HPOS := Lib.hid (show 0 < L.length from List.length_pos_of_mem (grp_mem2 HG.out).1)
  have HFL := Lib.hid (show (L.filter (fun m => decide (mv l0 l1 l2 m (x, y) = (x, y)))).length ≤ 5184 from Nat.le_trans (List.length_filter_le _ _) HLN.out)
  go_enter Tryd.func28, Tryd.ntmps28
  go_wp2_with fail
  with_reducible refine (patValid_any f A B C (R9.out.call B0)).mono ?_
  rintro e w1 ⟨rfl, hb1⟩
  rw [k1]
  have P1 := P0.call hb1
  have V1 := V0.call hb1
  have B1 := bstep B0 hb1
  clear P0 V0 B0 hb1
  have p1c0 := P1.c0
  have p1c1 := P1.c1
  have p1c2 := P1.c2
  have p1c3 := P1.c3
  have p1c4 := P1.c4
  have p1l := P1.lt
  have v1c0 := V1.c0
  have v1c1 := V1.c1
  have v1l := V1.lt
  go_wp2_with fail
  with_reducible refine (HLE.out _ B1).mono ?_
  rintro e w2 ⟨v2, rfl, r2, hb2⟩
  obtain ⟨ao2, cap2, rfl⟩ := r2.slice
  have V2 := V1.call hb2
  have B2 := bstep B1 hb2
  clear P1 V1 B1 hb2 p1c0 p1c1 p1c2 p1c3 p1c4 p1l v1c0 v1c1 v1l
  have r3 := r2.call ((Below.refl _ _).alloc (Nat.le_refl _) (.cells #[.int .i64 f, .int .i64 l0, .int .i64 l1, .int .i64 l2, .slice ao2 lm cap2] 33))
  have V3 := V2.alloc (.cells #[.int .i64 f, .int .i64 l0, .int .i64 l1, .int .i64 l2, .slice ao2 lm cap2] 33)
  have B3 : Below w.heap.size w (w2.alloc (.cells #[.int .i64 f, .int .i64 l0, .int .i64 l1, .int .i64 l2, .slice ao2 lm cap2] 33)) := B2.alloc B2.size _
  have Q3 : Bx w2.heap.size [.int .i64 f, .int .i64 l0, .int .i64 l1, .int .i64 l2, .slice ao2 lm cap2] (w2.alloc (.cells #[.int .i64 f, .int .i64 l0, .int .i64 l1, .int .i64 l2, .slice ao2 lm cap2] 33)) := Bx.at _ rfl
  have v2c0 := V2.c0
  have v2c1 := V2.c1
  have v2l := V2.lt
  go_wp2_with fail
  with_reducible refine (hasCell_any l0 l1 l2 x y _).mono ?_
  rintro e w4 ⟨rfl, hb4⟩
  rw [KC.out]
  have R4 := Lib.hid (r3.call hb4)
  have V4 := V3.call hb4
  have Q4 := Q3.call hb4
  have B4 := bstep B3 hb4
  have z4 := B4.size
  clear V2 V3 B2 B3 Q3 hb4 r2 r3 v2c0 v2c1 v2l
  have q4c0 := Q4.c0
  have q4c1 := Q4.c1
  have q4c2 := Q4.c2
  have q4c3 := Q4.c3
  have q4c4 := Q4.c4
  have q4l := Q4.lt
  have v4c0 := V4.c0
  have v4c1 := V4.c1
  have v4l := V4.lt
  go_wp2_with fail
  go_region_held3 (fun W9 => (W9.cell? ⟨w2.heap.size, 0, none⟩ = some (.int .i64 f) ∧ W9.cell? ⟨w2.heap.size, 1, none⟩ = some (.int .i64 l0) ∧ W9.cell? ⟨w2.heap.size, 2, none⟩ = some (.int .i64 l1) ∧ W9.cell? ⟨w2.heap.size, 3, none⟩ = some (.int .i64 l2) ∧ W9.cell? ⟨w2.heap.size, 4, none⟩ = some (.slice ao2 lm cap2)) ∧ (W9.cell? ⟨w.heap.size + 1, 0, none⟩ = some (.int .i64 x) ∧ W9.cell? ⟨w.heap.size + 1, 1, none⟩ = some (.int .i64 y))) ((refine And.intro (Bx.cells5 ?_) (Bx.cells2 ?_)) <;> (repeat (first | with_reducible assumption | (with_reducible exact BX.at _ (by first | with_reducible rfl | (simp; done))) | (with_reducible exact Bx.at _ (by first | with_reducible rfl | (simp; done))) | with_reducible refine Bx.drew ?_ | with_reducible refine Bx.alloc ?_ _ | with_reducible refine Bx.call ?_ (by with_reducible assumption) | with_reducible refine BX.drew ?_ | with_reducible refine BX.alloc ?_ _ | with_reducible refine BX.call ?_ (by with_reducible assumption) | with_reducible refine Bx.st2 ?_ | with_reducible refine Bx.far (by first | omega | (dsimp only; omega)) ?_ | with_reducible refine BX.far (by first | omega | (dsimp only; omega)) ?_)))
    (first
      | (go_at_call 43; refine (HSY.out _ _ _ _ (SRow.call R4.out (by repeat (first | with_reducible assumption | with_reducible exact Below.refl _ _ | with_reducible refine Below.drew ?_ | with_reducible refine Below.alloc ?_ (by first | omega | (simp <;> omega)) _ | with_reducible refine Below.setCell ?_ (by first | omega | (dsimp only; omega)) _ | with_reducible refine bstep ?_ (by with_reducible assumption))))).mono ?_; rintro e w5 ⟨v5, rfl, o5, hb5⟩; obtain ⟨g5, cap5, rfl, hg5, hl5, hm5, I5⟩ := own_rowS o5 HPOS.out HLN.out; have c5 : Below w4.heap.size w4 w5 := (by repeat (first | with_reducible assumption | with_reducible exact Below.refl _ _ | with_reducible refine Below.drew ?_ | with_reducible refine Below.alloc ?_ (by first | omega | (simp <;> omega)) _ | with_reducible refine Below.setCell ?_ (by first | omega | (dsimp only; omega)) _ | with_reducible refine bstep ?_ (by with_reducible assumption))); have hg5' : w4.heap.size ≤ g5 := Nat.le_trans (Below.size (B := w4.heap.size) (by repeat (first | with_reducible assumption | with_reducible exact Below.refl _ _ | with_reducible refine Below.drew ?_ | with_reducible refine Below.alloc ?_ (by first | omega | (simp <;> omega)) _ | with_reducible refine Below.setCell ?_ (by first | omega | (dsimp only; omega)) _ | with_reducible refine bstep ?_ (by with_reducible assumption)))) hg5; have gl5 := I5.1; have y5 := c5.size; have V5 := V4.call c5; have Q5 := Q4.call c5; have ql5 := Q5.lt; have vl5 := V5.lt)
      | (go_at_call 58; refine (fixing_any HOK.out HCL.out (IRow.grow I5 (B := w5.heap.size) (by repeat (first | with_reducible assumption | with_reducible exact Below.refl _ _ | with_reducible refine Below.drew ?_ | with_reducible refine Below.alloc ?_ (by first | omega | (simp <;> omega)) _ | with_reducible refine Below.setCell ?_ (by first | omega | (dsimp only; omega)) _ | with_reducible refine bstep ?_ (by with_reducible assumption))) gl5) H768.out hl5 hm5).mono ?_; rintro e w6 ⟨cap6, rfl, I6, hb6⟩; have c6 : Below w4.heap.size w4 w6 := Below.trans (by repeat (first | with_reducible assumption | with_reducible exact Below.refl _ _ | with_reducible refine Below.drew ?_ | with_reducible refine Below.alloc ?_ (by first | omega | (simp <;> omega)) _ | with_reducible refine Below.setCell ?_ (by first | omega | (dsimp only; omega)) _ | with_reducible refine bstep ?_ (by with_reducible assumption))) (hb6.mono hg5'); have S6 : SRow g5 w6.heap.size 6 (.slice (some ⟨g5, 0, none⟩) (L.filter (fun m => decide (mv l0 l1 l2 m (x, y) = (x, y)))).length cap6) (L.filter (fun m => decide (mv l0 l1 l2 m (x, y) = (x, y)))).length (fm (L.filter (fun m => decide (mv l0 l1 l2 m (x, y) = (x, y))))) w6 := ⟨Nat.le_refl _, by have := HFL.out; omega, .inr ⟨g5, cap6, rfl, Nat.le_refl _, I6.1, I6⟩⟩; have y6 := c6.size; have V6 := V4.call c6; have Q6 := Q4.call c6; have ql6 := Q6.lt; have vl6 := V6.lt)
      | (go_at_call 41; refine (asMotions_any (SRow.call S6 (by repeat (first | with_reducible assumption | with_reducible exact Below.refl _ _ | with_reducible refine Below.drew ?_ | with_reducible refine Below.alloc ?_ (by first | omega | (simp <;> omega)) _ | with_reducible refine Below.setCell ?_ (by first | omega | (dsimp only; omega)) _ | with_reducible refine bstep ?_ (by with_reducible assumption)))) (by have := HFL.out; omega)).mono ?_; rintro e w7 ⟨v7, rfl, o7, hb7⟩; have c7 : Below w4.heap.size w4 w7 := (by repeat (first | with_reducible assumption | with_reducible exact Below.refl _ _ | with_reducible refine Below.drew ?_ | with_reducible refine Below.alloc ?_ (by first | omega | (simp <;> omega)) _ | with_reducible refine Below.setCell ?_ (by first | omega | (dsimp only; omega)) _ | with_reducible refine bstep ?_ (by with_reducible assumption))); have S7 := srow6 o7 HFL.out))
  all_goals
    have B7 := bstep B4 c7
    have hz7 := Below.size c7
    have S8 := Lib.hid (SRow.lower7 S7 (lo' := w.heap.size) (by first | omega | (simp; omega)))
    clear c7 S7 o7 Q4 V4 I5 S6
    go_wp2
    go_ret2
    exact ⟨_, rfl, S8.out, B7⟩
set_option maxRecDepth 100000 in
set_option maxHeartbeats 16000000 in
theorem specSS_any {lo hi n : Nat} {v : Value} {F : Nat → Int} {w : World} (f A B C x y : Int) (hv : SRow lo hi 1 v n F w) :
    Calls Tryd.prog 26 #[.agg #[.int .i64 f, .int .i64 A, .int .i64 B, .int .i64 C, v], .agg #[.int .i64 x, .int .i64 y]] w (MAns (ssL f A B C n F x y) (ssC f A B C n F x y) w) := by
  obtain ⟨i0, hinf, hz0, hz1, hz2⟩ := info_parts infoMoT
  have R9 := Lib.hid hv
  have HLN0 := sgL_len f A B C n F
  obtain ⟨ao, cap, rfl⟩ := hv.slice
  clear hv
  have P0 : Bx w.heap.size [.int .i64 f, .int .i64 A, .int .i64 B, .int .i64 C, .slice ao n cap] ((w.alloc (.cells #[.int .i64 f, .int .i64 A, .int .i64 B, .int .i64 C, .slice ao n cap] 33)).alloc (.cells #[.int .i64 x, .int .i64 y] 49)) := (Bx.at _ rfl).alloc _
  have V0 : Bx (w.heap.size + 1) [.int .i64 x, .int .i64 y] ((w.alloc (.cells #[.int .i64 f, .int .i64 A, .int .i64 B, .int .i64 C, .slice ao n cap] 33)).alloc (.cells #[.int .i64 x, .int .i64 y] 49)) := Bx.at _ (by simp)
  have B0 : Below w.heap.size w ((w.alloc (.cells #[.int .i64 f, .int .i64 A, .int .i64 B, .int .i64 C, .slice ao n cap] 33)).alloc (.cells #[.int .i64 x, .int .i64 y] 49)) := by repeat (first | with_reducible exact Below.refl _ _ | with_reducible assumption | with_reducible refine Below.setCell ?_ (by first | omega | (dsimp only; omega) | (simp <;> omega)) _ | with_reducible refine Below.alloc ?_ (by first | omega | (simp <;> omega)) _ | with_reducible refine bstep ?_ (by with_reducible assumption) | with_reducible refine Below.drew ?_ | with_reducible refine below_drewN ?_ _)
  rcases k1 : patB f A B C n F with _ | _
  · rw [show ssL f A B C n F x y = [] by simp [ssL, k1], show ssC f A B C n F x y = 1 by simp [ssC, k1]]
    clear HLN0
    go_enter Tryd.func26, Tryd.ntmps26
    go_wp2_with fail
    with_reducible refine (specIsPat_any f A B C (R9.out.call B0)).mono ?_
    rintro e w1 ⟨rfl, hb1⟩
    rw [k1]
    have P1 := P0.call hb1
    have V1 := V0.call hb1
    have B1 := bstep B0 hb1
    clear P0 V0 B0 hb1
    go_wp2
    go_ret2
    exact ⟨_, rfl, SRow.nil _ 6 _ _, B1⟩
  obtain ⟨l0, e0⟩ : ∃ z : Int, z = (leaP A B C F : Int) := ⟨_, rfl⟩
  obtain ⟨l1, e1⟩ : ∃ z : Int, z = (fulI A B C F).2.1 := ⟨_, rfl⟩
  obtain ⟨l2, e2⟩ : ∃ z : Int, z = (leaQ A B C F : Int) := ⟨_, rfl⟩
  obtain ⟨lm, em⟩ : ∃ z : Nat, z = leaP A B C F * leaQ A B C F := ⟨_, rfl⟩
  obtain ⟨lG, eG⟩ : ∃ z : Nat → Int, z = (onG A B C F (leaP A B C F) (leaQ A B C F)) := ⟨_, rfl⟩
  obtain ⟨L, eL⟩ : ∃ L, L = sgL f A B C n F := ⟨_, rfl⟩
  rw [← eL] at HLN0
  have HLN := Lib.hid HLN0
  clear HLN0
  have HLE := Lib.hid (fun (X : World) (hX : Below w.heap.size w X) => (show Calls Tryd.prog 37 #[.agg #[.int .i64 f, .int .i64 A, .int .i64 B, .int .i64 C, .slice ao n cap]] X (fun e w' => ∃ v' : Value, e = .returned (.agg #[.int .i64 f, .int .i64 l0, .int .i64 l1, .int .i64 l2, v']) ∧ SRow X.heap.size w'.heap.size 1 v' lm lG w' ∧ Below X.heap.size X w') from by
    obtain ⟨p, q, rfl, rfl, hp⟩ := patB_of k1
    rw [e0, e1, e2, em, eG]
    exact l09Lean_any hp (fulI_at hp.lat).1 (fulI_at hp.lat).2 (R9.out.call hX)))
  have HSY := Lib.hid (fun (X : World) (v' : Value) (lo' hi' : Nat) (hs : SRow lo' hi' 1 v' lm lG X) => (show Calls Tryd.prog 36 #[.agg #[.int .i64 f, .int .i64 l0, .int .i64 l1, .int .i64 l2, v']] X (fun e w' => ∃ v3 : Value, e = .returned v3 ∧ w'.ownsRow X.heap.size 51 6 v3 L.length (cells6 L) ∧ Below X.heap.size X w') from by
    obtain ⟨p, q, rfl, rfl, hp⟩ := patB_of k1
    have hs' := hs
    rw [em, eG] at hs'
    have h9 := l10Group_any (lean_pat hp) hs'
    rw [e0, e1, e2, eL]
    unfold sgL
    rw [if_pos k1]
    exact h9))
  have HG := Lib.hid (show grpB f l0 l1 l2 L = true from by rw [e0, e1, e2, eL]; exact sg_facts k1)
  have HK2 := Lib.hid (show csB A B C F x y = celB l0 l2 (x, y) from by rw [e0, e2]; rfl)
  have HSL := Lib.hid (fun (h : csB A B C F x y = true) => (show ssL f A B C n F x y = L.filter (fun m => decide (mv l0 l1 l2 m (x, y) = (x, y))) from by unfold ssL; rw [if_pos k1, if_pos h, e0, e1, e2, eL]))
  have HLA := Lib.hid (show latI l0 l1 l2 from (grp_good HG.out).1)
  clear e0 e1 e2 em eG eL
  rcases k2 : csB A B C F x y with _ | _
  · rw [show ssL f A B C n F x y = [] by simp [ssL, k1, k2], show ssC f A B C n F x y = 2 by simp [ssC, k1, k2]]
    have KC := Lib.hid (show cel7 l0 l2 x y = false from by rw [cel7_eq HLA.out, ← HK2.out]; exact k2)
    go_enter Tryd.func26, Tryd.ntmps26
    go_wp2_with fail
    with_reducible refine (specIsPat_any f A B C (R9.out.call B0)).mono ?_
    rintro e w1 ⟨rfl, hb1⟩
    rw [k1]
    have P1 := P0.call hb1
    have V1 := V0.call hb1
    have B1 := bstep B0 hb1
    clear P0 V0 B0 hb1
    have p1c0 := P1.c0
    have p1c1 := P1.c1
    have p1c2 := P1.c2
    have p1c3 := P1.c3
    have p1c4 := P1.c4
    have p1l := P1.lt
    have v1c0 := V1.c0
    have v1c1 := V1.c1
    have v1l := V1.lt
    go_wp2_with fail
    with_reducible refine (HLE.out _ B1).mono ?_
    rintro e w2 ⟨v2, rfl, r2, hb2⟩
    obtain ⟨ao2, cap2, rfl⟩ := r2.slice
    have V2 := V1.call hb2
    have B2 := bstep B1 hb2
    clear P1 V1 B1 hb2 p1c0 p1c1 p1c2 p1c3 p1c4 p1l v1c0 v1c1 v1l
    have r3 := r2.call ((Below.refl _ _).alloc (Nat.le_refl _) (.cells #[.int .i64 f, .int .i64 l0, .int .i64 l1, .int .i64 l2, .slice ao2 lm cap2] 33))
    have V3 := V2.alloc (.cells #[.int .i64 f, .int .i64 l0, .int .i64 l1, .int .i64 l2, .slice ao2 lm cap2] 33)
    have B3 : Below w.heap.size w (w2.alloc (.cells #[.int .i64 f, .int .i64 l0, .int .i64 l1, .int .i64 l2, .slice ao2 lm cap2] 33)) := B2.alloc B2.size _
    have Q3 : Bx w2.heap.size [.int .i64 f, .int .i64 l0, .int .i64 l1, .int .i64 l2, .slice ao2 lm cap2] (w2.alloc (.cells #[.int .i64 f, .int .i64 l0, .int .i64 l1, .int .i64 l2, .slice ao2 lm cap2] 33)) := Bx.at _ rfl
    have v2c0 := V2.c0
    have v2c1 := V2.c1
    have v2l := V2.lt
    go_wp2_with fail
    with_reducible refine (l07Cell_any l0 l1 l2 x y _).mono ?_
    rintro e w4 ⟨rfl, hb4⟩
    rw [KC.out]
    have R4 := Lib.hid (r3.call hb4)
    have V4 := V3.call hb4
    have Q4 := Q3.call hb4
    have B4 := bstep B3 hb4
    have z4 := B4.size
    clear V2 V3 B2 B3 Q3 hb4 r2 r3 v2c0 v2c1 v2l
    go_wp2
    go_ret2
    exact ⟨_, rfl, SRow.nil _ 6 _ _, B4⟩
  rw [HSL.out k2, show ssC f A B C n F x y = 0 by simp [ssC, k1, k2]]
  have KC := Lib.hid (show cel7 l0 l2 x y = true from by rw [cel7_eq HLA.out, ← HK2.out]; exact k2)
  have HCL := Lib.hid (show celB l0 l2 (x, y) = true from by rw [← HK2.out]; exact k2)
  have HOK := Lib.hid (grp_ok HG.out).2.1
  have H768 := Lib.hid (grp_len HG.out)
  have HPOS := Lib.hid (show 0 < L.length from List.length_pos_of_mem (grp_mem2 HG.out).1)
  have HFL := Lib.hid (show (L.filter (fun m => decide (mv l0 l1 l2 m (x, y) = (x, y)))).length ≤ 5184 from Nat.le_trans (List.length_filter_le _ _) HLN.out)
  go_enter Tryd.func26, Tryd.ntmps26
  go_wp2_with fail
  with_reducible refine (specIsPat_any f A B C (R9.out.call B0)).mono ?_
  rintro e w1 ⟨rfl, hb1⟩
  rw [k1]
  have P1 := P0.call hb1
  have V1 := V0.call hb1
  have B1 := bstep B0 hb1
  clear P0 V0 B0 hb1
  have p1c0 := P1.c0
  have p1c1 := P1.c1
  have p1c2 := P1.c2
  have p1c3 := P1.c3
  have p1c4 := P1.c4
  have p1l := P1.lt
  have v1c0 := V1.c0
  have v1c1 := V1.c1
  have v1l := V1.lt
  go_wp2_with fail
  with_reducible refine (HLE.out _ B1).mono ?_
  rintro e w2 ⟨v2, rfl, r2, hb2⟩
  obtain ⟨ao2, cap2, rfl⟩ := r2.slice
  have V2 := V1.call hb2
  have B2 := bstep B1 hb2
  clear P1 V1 B1 hb2 p1c0 p1c1 p1c2 p1c3 p1c4 p1l v1c0 v1c1 v1l
  have r3 := r2.call ((Below.refl _ _).alloc (Nat.le_refl _) (.cells #[.int .i64 f, .int .i64 l0, .int .i64 l1, .int .i64 l2, .slice ao2 lm cap2] 33))
  have V3 := V2.alloc (.cells #[.int .i64 f, .int .i64 l0, .int .i64 l1, .int .i64 l2, .slice ao2 lm cap2] 33)
  have B3 : Below w.heap.size w (w2.alloc (.cells #[.int .i64 f, .int .i64 l0, .int .i64 l1, .int .i64 l2, .slice ao2 lm cap2] 33)) := B2.alloc B2.size _
  have Q3 : Bx w2.heap.size [.int .i64 f, .int .i64 l0, .int .i64 l1, .int .i64 l2, .slice ao2 lm cap2] (w2.alloc (.cells #[.int .i64 f, .int .i64 l0, .int .i64 l1, .int .i64 l2, .slice ao2 lm cap2] 33)) := Bx.at _ rfl
  have v2c0 := V2.c0
  have v2c1 := V2.c1
  have v2l := V2.lt
  go_wp2_with fail
  with_reducible refine (l07Cell_any l0 l1 l2 x y _).mono ?_
  rintro e w4 ⟨rfl, hb4⟩
  rw [KC.out]
  have R4 := Lib.hid (r3.call hb4)
  have V4 := V3.call hb4
  have Q4 := Q3.call hb4
  have B4 := bstep B3 hb4
  have z4 := B4.size
  clear V2 V3 B2 B3 Q3 hb4 r2 r3 v2c0 v2c1 v2l
  have q4c0 := Q4.c0
  have q4c1 := Q4.c1
  have q4c2 := Q4.c2
  have q4c3 := Q4.c3
  have q4c4 := Q4.c4
  have q4l := Q4.lt
  have v4c0 := V4.c0
  have v4c1 := V4.c1
  have v4l := V4.lt
  go_wp2_with fail
  refine (HSY.out _ _ _ _ R4.out).mono ?_
  rintro e w5 ⟨v5, rfl, o5, hb5⟩
  obtain ⟨g5, cap5, rfl, hg5, hl5, hm5, I5⟩ := own_rowS o5 HPOS.out HLN.out
  have V5 := V4.call hb5
  have Q5 := Q4.call hb5
  have B5 := bstep B4 hb5
  have zq := B5.size
  have gl5 := I5.1
  have ql5 := Q5.lt
  have vl5 := V5.lt
  have h7 : (L.length : Int) ≤ 768 := by have := H768.out; omega
  have hlit : (w5.alloc (.cells #[] 51)).ownsRow w5.heap.size 51 6 (.slice (some ⟨w5.heap.size, 0, none⟩) 0 0) ([] : List M6).length (cells6 []) := by
    have h := World.ownsRow_lit (base := w5.heap.size) (e := 51) (size := 6) w5 #[] 0 (Nat.le_refl _) (by unfold maxLen; omega) rfl
    simpa [cells6] using h
  clear o5 hb5 V4 Q4 B4 hl5 hm5 q4c0 q4c1 q4c2 q4c3 q4c4 q4l v4c0 v4c1 v4l
  go_wp2_with fail
  go_loopw [8, 9] (fun s8 s9 X => ∃ k : Nat, s9 = .int .i64 (k : Int) ∧ k ≤ L.length ∧ X.ownsRow w5.heap.size 51 6 s8 ((L.take k).filter (fun m => decide (mv l0 l1 l2 m (x, y) = (x, y)))).length (cells6 ((L.take k).filter (fun m => decide (mv l0 l1 l2 m (x, y) = (x, y))))) ∧ Below w5.heap.size w5 X) (fun _ s9 _ => L.length - (intOf s9).toNat)
  case atStart => exact ⟨0, rfl, by omega, by simpa using hlit, (Below.refl _ _).alloc (Nat.le_refl _) _⟩
  case round =>
    obtain ⟨wo, hwo⟩ : ∃ z, z = wr := ⟨_, rfl⟩
    subst hwo
    clear hlit
    obtain ⟨k, rfl, hk, hown, hB⟩ := hrel
    by_cases hk1 : k < L.length
    · have HPL := Lib.hid (show ((L.take k).filter (fun m => decide (mv l0 l1 l2 m (x, y) = (x, y)))).length ≤ (L.take k).length from List.length_filter_le _ _)
      have HTL := Lib.hid (show (L.take k).length ≤ 768 by rw [List.length_take]; have := H768.out; omega)
      have HMEM := Lib.hid (HOK.out L[k] (List.getElem_mem hk1))
      have hk2 : (k : Int) < (L.length : Int) := by omega
      have hk3 : (k : Int) ≤ 768 := by omega
      have q1 := (I5.grow hB gl5).mo k hk1
      have HT := Lib.hid (show L.take (k + 1) = L.take k ++ [L[k]] from List.take_succ_eq_append_getElem hk1)
      have HK := Lib.hid hk1
      clear hk
      generalize L[k] = m at q1 HT HMEM
      clear hk1
      obtain ⟨a, b, c, d, s, t⟩ := m
      dsimp only at q1
      have HPT := Lib.hid (Nat.le_trans HPL.out HTL.out)
      have HF := Lib.hid (show (L.take (k + 1)).filter (fun m => decide (mv l0 l1 l2 m (x, y) = (x, y))) = (L.take k).filter (fun m => decide (mv l0 l1 l2 m (x, y) = (x, y))) ++ if decide (mv l0 l1 l2 (a, b, c, d, s, t) (x, y) = (x, y)) = true then [(a, b, c, d, s, t)] else [] by rw [HT.out, List.filter_append]; congr 1; simp only [List.filter_cons, List.filter_nil])
      generalize (L.take k).filter (fun m => decide (mv l0 l1 l2 m (x, y) = (x, y))) = zs at hown HPT HF HPL
      clear HPL HTL
      obtain ⟨hl, hli, hv, hp, hx, hy⟩ := mv_mid HMEM.out.1 HMEM.out.2 HCL.out
      have CT : Hid (∀ W, Calls Tryd.prog 56 #[.agg #[.int .i64 l0, .int .i64 l1, .int .i64 l2], .agg #[.int .i64 a, .int .i64 b, .int .i64 c, .int .i64 d, .int .i64 s, .int .i64 t], .agg #[.int .i64 x, .int .i64 y]] W fun e w' => e = .returned (.agg #[.int .i64 (redX l0 l1 l2 (a * x + b * y + s) (c * x + d * y + t)), .int .i64 (redY l2 (c * x + d * y + t))]) ∧ Below W.heap.size W w') := Lib.hid (fun W => l07Move_any l0 l1 l2 a b c d s t x y W hl hli hv hp hx hy)
      have HE : Hid (eqV2 (redX l0 l1 l2 (a * x + b * y + s) (c * x + d * y + t)) (redY l2 (c * x + d * y + t)) x y = decide (mv l0 l1 l2 (a, b, c, d, s, t) (x, y) = (x, y))) := Lib.hid (eqV2_dec (redX l0 l1 l2 (a * x + b * y + s) (c * x + d * y + t), redY l2 (c * x + d * y + t)) (x, y))
      clear hl hli hv hp hx hy HMEM
      generalize redX l0 l1 l2 (a * x + b * y + s) (c * x + d * y + t) = rx at CT HE
      generalize redY l2 (c * x + d * y + t) = ry at CT HE
      have Q6 := Q5.call hB
      have V6 := V5.call hB
      have q1c := q1.cells
      have hgw : g5 < wo.heap.size := q1.1
      have zB := hB.size
      rcases hd : decide (mv l0 l1 l2 (a, b, c, d, s, t) (x, y) = (x, y)) with _ | _
      all_goals
        rw [hd] at HF HE
        have he := HE.out
        clear hd
        have q6c0 := Q6.c0
        have q6c1 := Q6.c1
        have q6c2 := Q6.c2
        have q6c3 := Q6.c3
        have q6c4 := Q6.c4
        have q6l := Q6.lt
        have v6c0 := V6.c0
        have v6c1 := V6.c1
        have v6l := V6.lt
        go_wp2_with fail
        go_region_held3 (fun W9 => (W9.cell? ⟨w2.heap.size, 0, none⟩ = some (.int .i64 f) ∧ W9.cell? ⟨w2.heap.size, 1, none⟩ = some (.int .i64 l0) ∧ W9.cell? ⟨w2.heap.size, 2, none⟩ = some (.int .i64 l1) ∧ W9.cell? ⟨w2.heap.size, 3, none⟩ = some (.int .i64 l2) ∧ W9.cell? ⟨w2.heap.size, 4, none⟩ = some (.slice ao2 lm cap2)) ∧ (W9.cell? ⟨w.heap.size + 1, 0, none⟩ = some (.int .i64 x) ∧ W9.cell? ⟨w.heap.size + 1, 1, none⟩ = some (.int .i64 y)) ∧ (W9.cell? ⟨g5, k * 6, none⟩ = some (.int .i64 a) ∧ W9.cell? ⟨g5, k * 6 + 1, none⟩ = some (.int .i64 b) ∧ W9.cell? ⟨g5, k * 6 + 2, none⟩ = some (.int .i64 c) ∧ W9.cell? ⟨g5, k * 6 + 3, none⟩ = some (.int .i64 d) ∧ W9.cell? ⟨g5, k * 6 + 4, none⟩ = some (.int .i64 s) ∧ W9.cell? ⟨g5, k * 6 + 5, none⟩ = some (.int .i64 t))) ((refine And.intro (Bx.cells5 ?_) (And.intro (Bx.cells2 ?_) (Ko6.cells ?_))) <;> (repeat (first | with_reducible assumption | with_reducible refine Bx.drew ?_ | with_reducible refine Bx.alloc ?_ _ | with_reducible refine Bx.call ?_ (by with_reducible assumption) | with_reducible refine Ko6.drew ?_ | with_reducible refine Ko6.alloc ?_ _ | with_reducible refine Ko6.call ?_ (by with_reducible assumption))))
          (first
            | (go_at_call 56; with_reducible refine (CT.out _).mono ?_; rintro e u3 ⟨rfl, hb3⟩; have hb4 : Below wo.heap.size wo u3 := (by repeat (first | with_reducible assumption | with_reducible exact Below.refl _ _ | with_reducible refine Below.drew ?_ | with_reducible refine Below.alloc ?_ (by first | omega | (simp <;> omega)) _ | with_reducible refine Below.setCell ?_ (by first | omega | (dsimp only; omega)) _ | with_reducible refine bstep ?_ (by with_reducible assumption))); have V7 := V6.call hb4; have Q7 := Q6.call hb4; have q4 := q1.call hb4; have q4c := q4.cells; have v7c0 := V7.c0; have v7c1 := V7.c1; have v7l := V7.lt))
      · have O5 := ownsRow_call hown hb4
        have B5 := bstep hB hb4
        clear hb4 hown hB q1 q1c
        go_wp2
        go_roundw
        case rel => exact ⟨k + 1, by go_num, by have := HK.out; omega, by rw [HF.out]; simpa using O5, B5⟩
        case measure => (have := HK.out); first | (simp [intOf]; done) | (simp [intOf]; omega)
      · have O5 := ownsRow_call hown hb4
        have B5 := bstep hB hb4
        have z5 := B5.size
        have z6 := hb4.size
        clear hb4 hown hB q1 q1c
        go_wp2_with (at_builtin; refine wpList_append_own _ rfl _ _ 28 rfl w5.heap.size 51 i0 (.agg #[.int .i64 0, .int .i64 0, .int .i64 0, .int .i64 0, .int .i64 0, .int .i64 0]) 6 48 Tryd.underlying28 hinf hz0 hz1 hz2 rfl (by decide) _ _ _ rfl (O5.alloc _) ⟨u3.heap.size, 0, none⟩ 1 1 [.int .i64 a, .int .i64 b, .int .i64 c, .int .i64 d, .int .i64 s, .int .i64 t] rfl rfl (new_six _ _ _ _ _ _ _ rfl) one_six (by have := HPT.out; unfold maxLen; omega) (by have := HPT.out; omega) (by (try simp); omega) ?_; intro v9 w9 hown9 hgrow _)
        have O9 := own_next6 hown9
        have B9 : Below w5.heap.size w5 w9 := Below.grown (Below.alloc B5 (by omega) _) hgrow (by simp; omega) (fun r hr => by have := (O5.lt r hr).1; omega)
        clear hown9 hgrow O5 B5
        go_wp2
        go_roundw
        case rel => exact ⟨k + 1, by go_num, by have := HK.out; omega, by rw [HF.out]; exact O9, B9⟩
        case measure => (have := HK.out); first | (simp [intOf]; done) | (simp [intOf]; omega)
    · obtain rfl : k = L.length := by omega
      rw [List.take_length] at hown
      have B9 : Below w.heap.size w wo := B5.trans (hB.mono zq)
      have HS9 := Lib.hid (srow6 (ownsRow_lower hown zq) HFL.out)
      clear hk hk1 hown hB B5
      go_wp2
      go_ret2
      exact ⟨_, rfl, HS9.out, B9⟩
end Go.Proofs.YtkfdaepnjdnnmaaDoor
