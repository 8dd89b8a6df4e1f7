/-
  SitesOf, in the program and in the model. Conditions: a slice that lies in a block of its own; the program's variable unitMatrix holds the unit.
-/
import Derived.Test.YtkfdaepnjdnnmaaDoorSgP
import Derived.Test.YtkfdaepnjdnnmaaDoorOx8
import Derived.Test.YtkfdaepnjdnnmaaDoorPtW
import Derived.Deep.RegionHeld3
import Derived.IntWalk
namespace Go.Proofs.YtkfdaepnjdnnmaaDoor
open Go.RowKit
set_option linter.unusedSimpArgs false
set_option linter.unusedVariables false

def stN (f A B C : Int) (n : Nat) (F : Nat → Int) : Nat := if patB f A B C n F = true then (orbF (leaP A B C F) (leaQ A B C F) (fulI A B C F).2.1 (sgL f A B C n F)).length else 0
def stLen (f A B C : Int) (n : Nat) (F : Nat → Int) : Nat → Nat := osLen (leaP A B C F : Int) (fulI A B C F).2.1 (leaQ A B C F : Int) (sgL f A B C n F)
def stF (f A B C : Int) (n : Nat) (F : Nat → Int) : Nat → Nat → Int := osF (leaP A B C F : Int) (fulI A B C F).2.1 (leaQ A B C F : Int) (sgL f A B C n F)
def TAns (d : Bool) (N : Nat) (len : Nat → Nat) (G : Nat → Nat → Int) (c : Int) (W : World) (e : Ending) (w' : World) : Prop := ∃ v : Value, e = .returned (.tuple #[v, .int .i64 c]) ∧ (bif d then VRowD W.heap.size w'.heap.size v N len G w' else VRow W.heap.size w'.heap.size v N len G w') ∧ Below W.heap.size W w'
theorem sgT_facts {f A B C : Int} {n : Nat} {F : Nat → Int} (h : patB f A B C n F = true) : grpB f (leaP A B C F : Int) (fulI A B C F).2.1 (leaQ A B C F : Int) (sgL f A B C n F) = true := by
  obtain ⟨p, q, rfl, rfl, hp⟩ := patB_of h
  have h9 := symL_grp (lean_pat hp)
  unfold sgL
  rw [if_pos h]
  exact h9
theorem stN_64 (f A B C : Int) (n : Nat) (F : Nat → Int) : stN f A B C n F ≤ 64 := by
  unfold stN
  split
  · rename_i h
    exact orbF_64 (sgT_facts h)
  · omega
theorem own_rowT {W : World} {base : Nat} {v : Value} {G : List M6} {T : TypeId} (h : W.ownsRow base T 6 v G.length (cells6 G)) (hn : 0 < G.length) (hn2 : G.length ≤ 5184) : ∃ g cap, v = .slice (some ⟨g, 0, none⟩) G.length cap ∧ base ≤ g ∧ IRow g (G.length * 6) (fm G) W := by
  obtain ⟨g', c', e1, h1, _, r1⟩ := (srow6 h hn2).2.2.resolve_left (fun h => by omega)
  exact ⟨_, _, e1, h1, r1⟩
theorem VRowD.lowerT {lo lo' hi n : Nat} {v : Value} {len : Nat → Nat} {F : Nat → Nat → Int} {W : World} (h : VRowD lo hi v n len F W) (hl : lo' ≤ lo) : VRowD lo' hi v n len F W := by
  obtain ⟨h1, h2, h3⟩ := h
  refine ⟨h1, h2, ?_⟩
  rcases h3 with h3 | ⟨g, cap, gs, caps, e, k1, k2, ⟨k3, k4⟩, k5⟩
  · exact .inl h3
  · refine .inr ⟨g, cap, gs, caps, e, Nat.le_trans hl k1, k2, ⟨k3, fun k hk => ?_⟩, k5⟩
    obtain ⟨a1, a2, a3, a4, a5⟩ := k4 k hk
    exact ⟨a1, a2, a3, Nat.le_trans hl a4, a5⟩
theorem RowsAt.keepV {g lo hi n : Nat} {u : Value} {len gs caps : Nat → Nat} {F : Nat → Nat → Int} {W w1 : World} (h : RowsAt g lo hi n len gs caps F W) (hg : lo ≤ g ∧ g < hi) (hk : KeepV u W w1) (ho : ∀ b, lo ≤ b → b < hi → offB u b) (hs : W.heap.size ≤ w1.heap.size) : RowsAt g lo hi n len gs caps F w1 := by
  obtain ⟨k3, k4⟩ := h
  refine ⟨Nat.lt_of_lt_of_le k3 hs, fun k hk9 => ?_⟩
  obtain ⟨a1, a2, a3, a4, a5, a6, a7⟩ := k4 k hk9
  have e1 := hk g (ho g hg.1 hg.2) k3
  have e2 := hk (gs k) (ho (gs k) a4 a5) a7.1
  exact ⟨(World.cell?_of_block (w := W) (a := ⟨g, k, none⟩) e1).trans a1, a2, a3, a4, a5, a6, Nat.lt_of_lt_of_le a7.1 hs, fun t ht => ⟨(World.cell?_of_block (w := W) (a := ⟨gs k, t, none⟩) e2).trans (a7.at t ht), (World.frozen?_of_block (w := W) (a := ⟨gs k, t, none⟩) e2).trans (a7.free t ht)⟩⟩
theorem VRow.keepV {lo hi n : Nat} {u v : Value} {len : Nat → Nat} {F : Nat → Nat → Int} {W w1 : World} (h : VRow lo hi v n len F W) (hk : KeepV u W w1) (ho : ∀ b, lo ≤ b → b < hi → offB u b) (hs : W.heap.size ≤ w1.heap.size) : VRow lo hi v n len F w1 := by
  obtain ⟨h1, h2, h3⟩ := h
  refine ⟨Nat.le_trans h1 hs, h2, ?_⟩
  rcases h3 with h3 | ⟨g, cap, gs, caps, e, k1, k2, k3⟩
  · exact .inl h3
  · exact .inr ⟨g, cap, gs, caps, e, k1, k2, k3.keepV ⟨k1, k2⟩ hk ho hs⟩
theorem VRowD.keepV {lo hi n : Nat} {u v : Value} {len : Nat → Nat} {F : Nat → Nat → Int} {W w1 : World} (h : VRowD lo hi v n len F W) (hk : KeepV u W w1) (ho : ∀ b, lo ≤ b → b < hi → offB u b) (hs : W.heap.size ≤ w1.heap.size) : VRowD lo hi v n len F w1 := by
  obtain ⟨h1, h2, h3⟩ := h
  refine ⟨Nat.le_trans h1 hs, h2, ?_⟩
  rcases h3 with h3 | ⟨g, cap, gs, caps, e, k1, k2, k3, k5⟩
  · exact .inl h3
  · exact .inr ⟨g, cap, gs, caps, e, k1, k2, k3.keepV ⟨k1, k2⟩ hk ho hs, k5⟩
set_option maxRecDepth 100000 in
set_option maxHeartbeats 16000000 in
theorem implST_any {lo hi n : Nat} {v : Value} {F : Nat → Int} {w : World} (f A B C : Int) (hv : SRow lo hi 1 v n F w) (hU : UnitOK w) :
    Calls Tryd.prog 30 #[.agg #[.int .i64 f, .int .i64 A, .int .i64 B, .int .i64 C, v]] w (TAns true (stN f A B C n F) (stLen f A B C n F) (stF f A B C n F) (sgC f A B C n F) w) := by
  have R9 := Lib.hid hv
  have HU := Lib.hid hU
  have HLN0 := sgL_len f A B C n F
  obtain ⟨ao, cap, rfl⟩ := hv.slice
  clear hv hU
  have P0 : Bx w.heap.size [.int .i64 f, .int .i64 A, .int .i64 B, .int .i64 C, .slice ao n cap] (w.alloc (.cells #[.int .i64 f, .int .i64 A, .int .i64 B, .int .i64 C, .slice ao n cap] 33)) := Bx.at _ rfl
  have B0 : Below w.heap.size w (w.alloc (.cells #[.int .i64 f, .int .i64 A, .int .i64 B, .int .i64 C, .slice ao n cap] 33)) := by repeat (first | with_reducible exact Below.refl _ _ | with_reducible assumption | with_reducible refine Below.setCell ?_ (by first | omega | (dsimp only; omega) | (simp <;> omega)) _ | with_reducible refine Below.alloc ?_ (by first | omega | (simp <;> omega)) _ | with_reducible refine bstep ?_ (by with_reducible assumption) | with_reducible refine Below.drew ?_ | with_reducible refine below_drewN ?_ _)
  rcases k1 : patB f A B C n F with _ | _
  · rw [show stN f A B C n F = 0 by simp [stN, k1], show sgC f A B C n F = 1 by simp [sgC, k1]]
    clear HLN0
    go_enter Tryd.func30, Tryd.ntmps30
    go_wp2_with fail
    with_reducible refine (patValid_any f A B C (R9.out.call B0)).mono ?_
    rintro e w1 ⟨rfl, hb1⟩
    rw [k1]
    have P1 := P0.call hb1
    have B1 := bstep B0 hb1
    clear P0 B0 hb1
    go_wp2
    go_ret2
    exact ⟨_, rfl, VRowD.nil _ _ _ _, B1⟩
  obtain ⟨l0, e0⟩ : ∃ z : Int, z = (leaP A B C F : Int) := ⟨_, rfl⟩
  obtain ⟨l1, e1⟩ : ∃ z : Int, z = (fulI A B C F).2.1 := ⟨_, rfl⟩
  obtain ⟨l2, e2⟩ : ∃ z : Int, z = (leaQ A B C F : Int) := ⟨_, rfl⟩
  obtain ⟨lm, em⟩ : ∃ z : Nat, z = leaP A B C F * leaQ A B C F := ⟨_, rfl⟩
  obtain ⟨lG, eG⟩ : ∃ z : Nat → Int, z = (onG A B C F (leaP A B C F) (leaQ A B C F)) := ⟨_, rfl⟩
  obtain ⟨L, eL⟩ : ∃ L, L = sgL f A B C n F := ⟨_, rfl⟩
  obtain ⟨N0, eN⟩ : ∃ z, z = stN f A B C n F := ⟨_, rfl⟩
  obtain ⟨Ln0, eLn⟩ : ∃ z, z = stLen f A B C n F := ⟨_, rfl⟩
  obtain ⟨F0, eF⟩ : ∃ z, z = stF f A B C n F := ⟨_, rfl⟩
  rw [show sgC f A B C n F = 0 by simp [sgC, k1], ← eN, ← eLn, ← eF]
  rw [← eL] at HLN0
  have HLN := Lib.hid HLN0
  clear HLN0
  have HLE := Lib.hid (fun (X : World) (hX : Below w.heap.size w X) => (show Calls Tryd.prog 42 #[.agg #[.int .i64 f, .int .i64 A, .int .i64 B, .int .i64 C, .slice ao n cap]] X (fun e w' => ∃ v' : Value, e = .returned (.agg #[.int .i64 f, .int .i64 l0, .int .i64 l1, .int .i64 l2, v']) ∧ SRow X.heap.size w'.heap.size 1 v' lm lG w' ∧ Below X.heap.size X w') from by
    obtain ⟨p, q, rfl, rfl, hp⟩ := patB_of k1
    rw [e0, e1, e2, em, eG]
    exact lean_any hp (fulI_at hp.lat).1 (fulI_at hp.lat).2 (R9.out.call hX) (HU.out.call hX)))
  have HSY := Lib.hid (fun (X : World) (v' : Value) (lo' hi' : Nat) (hs : SRow lo' hi' 1 v' lm lG X) => (show Calls Tryd.prog 43 #[.agg #[.int .i64 f, .int .i64 l0, .int .i64 l1, .int .i64 l2, v']] X (fun e w' => ∃ v3 : Value, e = .returned v3 ∧ w'.ownsRow X.heap.size 111 6 v3 L.length (cells6 L) ∧ Below X.heap.size X w') from by
    obtain ⟨p, q, rfl, rfl, hp⟩ := patB_of k1
    have hs' := hs
    rw [em, eG] at hs'
    have h9 := symm_any (lean_pat hp) hs'
    rw [e0, e1, e2, eL]
    unfold sgL
    rw [if_pos k1]
    exact h9))
  have HG := Lib.hid (show grpB f l0 l1 l2 L = true from by rw [e0, e1, e2, eL]; exact sgT_facts k1)
  have HOR := Lib.hid (fun (X : World) (g1 cap1 : Nat) (hr : IRow g1 (L.length * 6) (fm L) X) => (show Calls Tryd.prog 60 #[.agg #[.int .i64 l0, .int .i64 l1, .int .i64 l2], .slice (some ⟨g1, 0, none⟩) L.length cap1] X (fun e w' => ∃ v' : Value, e = .returned v' ∧ VRowD X.heap.size w'.heap.size v' N0 Ln0 F0 w' ∧ Below X.heap.size X w') from by
    have hg9 := HG.out
    have hr9 := hr
    rw [e0, e1, e2] at hg9
    rw [e0, e1, e2, eN, eLn, eF]
    rw [show stN f A B C n F = (orbF (leaP A B C F) (leaQ A B C F) (fulI A B C F).2.1 L).length from by unfold stN; rw [if_pos k1, eL]]
    unfold stLen stF
    rw [← eL]
    exact orbits_any (cap1 := cap1) f (leaP A B C F) (leaQ A B C F) (fulI A B C F).2.1 hg9 hr9))
  clear e0 e1 e2 em eG eL eN eLn eF
  have HPOS := Lib.hid (show 0 < L.length from List.length_pos_of_mem (grp_mem2 HG.out).1)
  go_enter Tryd.func30, Tryd.ntmps30
  go_wp2_with fail
  with_reducible refine (patValid_any f A B C (R9.out.call B0)).mono ?_
  rintro e w1 ⟨rfl, hb1⟩
  rw [k1]
  have P1 := P0.call hb1
  have B1 := bstep B0 hb1
  clear P0 B0 hb1
  have p1c0 := P1.c0
  have p1c1 := P1.c1
  have p1c2 := P1.c2
  have p1c3 := P1.c3
  have p1c4 := P1.c4
  have p1l := P1.lt
  go_wp2_with fail
  with_reducible refine (HLE.out _ B1).mono ?_
  rintro e w2 ⟨v2, rfl, r2, hb2⟩
  obtain ⟨ao2, cap2, rfl⟩ := r2.slice
  have B2 := bstep B1 hb2
  clear P1 B1 hb2 p1c0 p1c1 p1c2 p1c3 p1c4 p1l
  have r3 := r2.call ((Below.refl _ _).alloc (Nat.le_refl _) (.cells #[.int .i64 f, .int .i64 l0, .int .i64 l1, .int .i64 l2, .slice ao2 lm cap2] 33))
  have B3 : Below w.heap.size w (w2.alloc (.cells #[.int .i64 f, .int .i64 l0, .int .i64 l1, .int .i64 l2, .slice ao2 lm cap2] 33)) := B2.alloc B2.size _
  have Q3 : Bx w2.heap.size [.int .i64 f, .int .i64 l0, .int .i64 l1, .int .i64 l2, .slice ao2 lm cap2] (w2.alloc (.cells #[.int .i64 f, .int .i64 l0, .int .i64 l1, .int .i64 l2, .slice ao2 lm cap2] 33)) := Bx.at _ rfl
  have z3 := B3.size
  go_upto_region 1 with fail
  have R4 := Lib.hid r3
  generalize hW4 : w2.alloc (.cells #[.int .i64 f, .int .i64 l0, .int .i64 l1, .int .i64 l2, .slice ao2 lm cap2] 33) = w4 at *
  clear hW4 r2 r3 B2
  have q3c0 := Q3.c0
  have q3c1 := Q3.c1
  have q3c2 := Q3.c2
  have q3c3 := Q3.c3
  have q3c4 := Q3.c4
  have q3l := Q3.lt
  go_region_held3 (fun W9 => (W9.cell? ⟨w2.heap.size, 0, none⟩ = some (.int .i64 f) ∧ W9.cell? ⟨w2.heap.size, 1, none⟩ = some (.int .i64 l0) ∧ W9.cell? ⟨w2.heap.size, 2, none⟩ = some (.int .i64 l1) ∧ W9.cell? ⟨w2.heap.size, 3, none⟩ = some (.int .i64 l2) ∧ W9.cell? ⟨w2.heap.size, 4, none⟩ = some (.slice ao2 lm cap2))) ((refine (Bx.cells5 ?_)) <;> (repeat (first | with_reducible assumption | (with_reducible exact BX.at _ (by first | with_reducible rfl | (simp; done))) | (with_reducible exact Bx.at _ (by first | with_reducible rfl | (simp; done))) | with_reducible refine Bx.drew ?_ | with_reducible refine Bx.alloc ?_ _ | with_reducible refine Bx.call ?_ (by with_reducible assumption) | with_reducible refine BX.drew ?_ | with_reducible refine BX.alloc ?_ _ | with_reducible refine BX.call ?_ (by with_reducible assumption) | with_reducible refine Bx.st2 ?_ | with_reducible refine Bx.far (by first | omega | (dsimp only; omega)) ?_ | with_reducible refine BX.far (by first | omega | (dsimp only; omega)) ?_)))
    (first
      | (go_at_call 43; refine (HSY.out _ _ _ _ (SRow.call R4.out (by repeat (first | with_reducible assumption | with_reducible exact Below.refl _ _ | with_reducible refine Below.drew ?_ | with_reducible refine Below.alloc ?_ (by first | omega | (simp <;> omega)) _ | with_reducible refine Below.setCell ?_ (by first | omega | (dsimp only; omega)) _ | with_reducible refine bstep ?_ (by with_reducible assumption))))).mono ?_; rintro e w5 ⟨v5, rfl, o5, hb5⟩; obtain ⟨g5, cap5, rfl, hg5, I5⟩ := own_rowT o5 HPOS.out HLN.out; have c5 : Below w4.heap.size w4 w5 := (by repeat (first | with_reducible assumption | with_reducible exact Below.refl _ _ | with_reducible refine Below.drew ?_ | with_reducible refine Below.alloc ?_ (by first | omega | (simp <;> omega)) _ | with_reducible refine Below.setCell ?_ (by first | omega | (dsimp only; omega)) _ | with_reducible refine bstep ?_ (by with_reducible assumption))); have gl5 := I5.1; have y5 := c5.size; have Q5 := Q3.call c5; have ql5 := Q5.lt)
      | (go_at_call 60; refine (HOR.out _ _ _ (IRow.grow I5 (B := w5.heap.size) (by repeat (first | with_reducible assumption | with_reducible exact Below.refl _ _ | with_reducible refine Below.drew ?_ | with_reducible refine Below.alloc ?_ (by first | omega | (simp <;> omega)) _ | with_reducible refine Below.setCell ?_ (by first | omega | (dsimp only; omega)) _ | with_reducible refine bstep ?_ (by with_reducible assumption))) gl5)).mono ?_; rintro e w6 ⟨v6, rfl, V6, hb6⟩; have c6 : Below w4.heap.size w4 w6 := (by repeat (first | with_reducible assumption | with_reducible exact Below.refl _ _ | with_reducible refine Below.drew ?_ | with_reducible refine Below.alloc ?_ (by first | omega | (simp <;> omega)) _ | with_reducible refine Below.setCell ?_ (by first | omega | (dsimp only; omega)) _ | with_reducible refine bstep ?_ (by with_reducible assumption))); have V7 := VRowD.lowerT V6 (lo' := w4.heap.size) (Below.size (B := w4.heap.size) (by repeat (first | with_reducible assumption | with_reducible exact Below.refl _ _ | with_reducible refine Below.drew ?_ | with_reducible refine Below.alloc ?_ (by first | omega | (simp <;> omega)) _ | with_reducible refine Below.setCell ?_ (by first | omega | (dsimp only; omega)) _ | with_reducible refine bstep ?_ (by with_reducible assumption))))))
  all_goals
    have B7 := bstep B3 c6
    have V8 := Lib.hid (VRowD.lowerT V7 (lo' := w.heap.size) z3)
    clear c6 V7 V6 Q3
    go_wp2
    go_ret2
    exact ⟨_, rfl, V8.out, B7⟩
set_option maxRecDepth 100000 in
set_option maxHeartbeats 16000000 in
theorem specST_any {lo hi n : Nat} {v : Value} {F : Nat → Int} {w : World} (f A B C : Int) (hv : SRow lo hi 1 v n F w) :
    Calls Tryd.prog 29 #[.agg #[.int .i64 f, .int .i64 A, .int .i64 B, .int .i64 C, v]] w (TAns false (stN f A B C n F) (stLen f A B C n F) (stF f A B C n F) (sgC f A B C n F) w) := by
  have R9 := Lib.hid hv
  have HLN0 := sgL_len f A B C n F
  obtain ⟨ao, cap, rfl⟩ := hv.slice
  clear hv
  have P0 : Bx w.heap.size [.int .i64 f, .int .i64 A, .int .i64 B, .int .i64 C, .slice ao n cap] (w.alloc (.cells #[.int .i64 f, .int .i64 A, .int .i64 B, .int .i64 C, .slice ao n cap] 33)) := Bx.at _ rfl
  have B0 : Below w.heap.size w (w.alloc (.cells #[.int .i64 f, .int .i64 A, .int .i64 B, .int .i64 C, .slice ao n cap] 33)) := by repeat (first | with_reducible exact Below.refl _ _ | with_reducible assumption | with_reducible refine Below.setCell ?_ (by first | omega | (dsimp only; omega) | (simp <;> omega)) _ | with_reducible refine Below.alloc ?_ (by first | omega | (simp <;> omega)) _ | with_reducible refine bstep ?_ (by with_reducible assumption) | with_reducible refine Below.drew ?_ | with_reducible refine below_drewN ?_ _)
  rcases k1 : patB f A B C n F with _ | _
  · rw [show stN f A B C n F = 0 by simp [stN, k1], show sgC f A B C n F = 1 by simp [sgC, k1]]
    clear HLN0
    go_enter Tryd.func29, Tryd.ntmps29
    go_wp2_with fail
    with_reducible refine (specIsPat_any f A B C (R9.out.call B0)).mono ?_
    rintro e w1 ⟨rfl, hb1⟩
    rw [k1]
    have P1 := P0.call hb1
    have B1 := bstep B0 hb1
    clear P0 B0 hb1
    go_wp2
    go_ret2
    exact ⟨_, rfl, VRow.nil _ _ _ _, B1⟩
  obtain ⟨l0, e0⟩ : ∃ z : Int, z = (leaP A B C F : Int) := ⟨_, rfl⟩
  obtain ⟨l1, e1⟩ : ∃ z : Int, z = (fulI A B C F).2.1 := ⟨_, rfl⟩
  obtain ⟨l2, e2⟩ : ∃ z : Int, z = (leaQ A B C F : Int) := ⟨_, rfl⟩
  obtain ⟨lm, em⟩ : ∃ z : Nat, z = leaP A B C F * leaQ A B C F := ⟨_, rfl⟩
  obtain ⟨lG, eG⟩ : ∃ z : Nat → Int, z = (onG A B C F (leaP A B C F) (leaQ A B C F)) := ⟨_, rfl⟩
  obtain ⟨L, eL⟩ : ∃ L, L = sgL f A B C n F := ⟨_, rfl⟩
  obtain ⟨N0, eN⟩ : ∃ z, z = stN f A B C n F := ⟨_, rfl⟩
  obtain ⟨Ln0, eLn⟩ : ∃ z, z = stLen f A B C n F := ⟨_, rfl⟩
  obtain ⟨F0, eF⟩ : ∃ z, z = stF f A B C n F := ⟨_, rfl⟩
  rw [show sgC f A B C n F = 0 by simp [sgC, k1], ← eN, ← eLn, ← eF]
  rw [← eL] at HLN0
  have HLN := Lib.hid HLN0
  clear HLN0
  have HLE := Lib.hid (fun (X : World) (hX : Below w.heap.size w X) => (show Calls Tryd.prog 37 #[.agg #[.int .i64 f, .int .i64 A, .int .i64 B, .int .i64 C, .slice ao n cap]] X (fun e w' => ∃ v' : Value, e = .returned (.agg #[.int .i64 f, .int .i64 l0, .int .i64 l1, .int .i64 l2, v']) ∧ SRow X.heap.size w'.heap.size 1 v' lm lG w' ∧ Below X.heap.size X w') from by
    obtain ⟨p, q, rfl, rfl, hp⟩ := patB_of k1
    rw [e0, e1, e2, em, eG]
    exact l09Lean_any hp (fulI_at hp.lat).1 (fulI_at hp.lat).2 (R9.out.call hX)))
  have HSY := Lib.hid (fun (X : World) (v' : Value) (lo' hi' : Nat) (hs : SRow lo' hi' 1 v' lm lG X) => (show Calls Tryd.prog 36 #[.agg #[.int .i64 f, .int .i64 l0, .int .i64 l1, .int .i64 l2, v']] X (fun e w' => ∃ v3 : Value, e = .returned v3 ∧ w'.ownsRow X.heap.size 51 6 v3 L.length (cells6 L) ∧ Below X.heap.size X w') from by
    obtain ⟨p, q, rfl, rfl, hp⟩ := patB_of k1
    have hs' := hs
    rw [em, eG] at hs'
    have h9 := l10Group_any (lean_pat hp) hs'
    rw [e0, e1, e2, eL]
    unfold sgL
    rw [if_pos k1]
    exact h9))
  have HG := Lib.hid (show grpB f l0 l1 l2 L = true from by rw [e0, e1, e2, eL]; exact sgT_facts k1)
  have HOR := Lib.hid (fun (X : World) (v1 : Value) (lo1 hi1 : Nat) (hr : SRow lo1 hi1 6 v1 L.length (fm L) X) => (show Calls Tryd.prog 59 #[.agg #[.int .i64 l0, .int .i64 l1, .int .i64 l2], v1] X (fun e w' => ∃ v' : Value, e = .returned v' ∧ VRow X.heap.size w'.heap.size v' N0 Ln0 F0 w' ∧ Below X.heap.size X w') from by
    have hg9 := HG.out
    have hr9 := hr
    rw [e0, e1, e2] at hg9
    rw [e0, e1, e2, eN, eLn, eF]
    rw [show stN f A B C n F = (orbF (leaP A B C F) (leaQ A B C F) (fulI A B C F).2.1 L).length from by unfold stN; rw [if_pos k1, eL]]
    unfold stLen stF
    rw [← eL]
    refine Calls.mono (l07Orbits_any hg9 hr9) (fun e w' (hh : ∃ (g cap : Nat) (vs : List Value), _ ∧ KOs g X.heap.size cap 87 vs w' ∧ OrbV (leaP A B C F : Int) (fulI A B C F).2.1 (leaQ A B C F : Int) L X.heap.size (orbF (leaP A B C F) (leaQ A B C F) (fulI A B C F).2.1 L) vs w' ∧ _) => ?_)
    obtain ⟨g, cap, vs, h1, h2, h3, h4⟩ := hh
    exact ⟨_, h1, vrow_of hg9 h2 h3, h4⟩))
  clear e0 e1 e2 em eG eL eN eLn eF
  have HPOS := Lib.hid (show 0 < L.length from List.length_pos_of_mem (grp_mem2 HG.out).1)
  go_enter Tryd.func29, Tryd.ntmps29
  go_wp2_with fail
  with_reducible refine (specIsPat_any f A B C (R9.out.call B0)).mono ?_
  rintro e w1 ⟨rfl, hb1⟩
  rw [k1]
  have P1 := P0.call hb1
  have B1 := bstep B0 hb1
  clear P0 B0 hb1
  have p1c0 := P1.c0
  have p1c1 := P1.c1
  have p1c2 := P1.c2
  have p1c3 := P1.c3
  have p1c4 := P1.c4
  have p1l := P1.lt
  go_wp2_with fail
  with_reducible refine (HLE.out _ B1).mono ?_
  rintro e w2 ⟨v2, rfl, r2, hb2⟩
  obtain ⟨ao2, cap2, rfl⟩ := r2.slice
  have B2 := bstep B1 hb2
  clear P1 B1 hb2 p1c0 p1c1 p1c2 p1c3 p1c4 p1l
  have r3 := r2.call ((Below.refl _ _).alloc (Nat.le_refl _) (.cells #[.int .i64 f, .int .i64 l0, .int .i64 l1, .int .i64 l2, .slice ao2 lm cap2] 33))
  have B3 : Below w.heap.size w (w2.alloc (.cells #[.int .i64 f, .int .i64 l0, .int .i64 l1, .int .i64 l2, .slice ao2 lm cap2] 33)) := B2.alloc B2.size _
  have Q3 : Bx w2.heap.size [.int .i64 f, .int .i64 l0, .int .i64 l1, .int .i64 l2, .slice ao2 lm cap2] (w2.alloc (.cells #[.int .i64 f, .int .i64 l0, .int .i64 l1, .int .i64 l2, .slice ao2 lm cap2] 33)) := Bx.at _ rfl
  have z3 := B3.size
  go_upto_region 1 with fail
  have R4 := Lib.hid r3
  generalize hW4 : w2.alloc (.cells #[.int .i64 f, .int .i64 l0, .int .i64 l1, .int .i64 l2, .slice ao2 lm cap2] 33) = w4 at *
  clear hW4 r2 r3 B2
  have q3c0 := Q3.c0
  have q3c1 := Q3.c1
  have q3c2 := Q3.c2
  have q3c3 := Q3.c3
  have q3c4 := Q3.c4
  have q3l := Q3.lt
  go_region_held3 (fun W9 => (W9.cell? ⟨w2.heap.size, 0, none⟩ = some (.int .i64 f) ∧ W9.cell? ⟨w2.heap.size, 1, none⟩ = some (.int .i64 l0) ∧ W9.cell? ⟨w2.heap.size, 2, none⟩ = some (.int .i64 l1) ∧ W9.cell? ⟨w2.heap.size, 3, none⟩ = some (.int .i64 l2) ∧ W9.cell? ⟨w2.heap.size, 4, none⟩ = some (.slice ao2 lm cap2))) ((refine (Bx.cells5 ?_)) <;> (repeat (first | with_reducible assumption | (with_reducible exact BX.at _ (by first | with_reducible rfl | (simp; done))) | (with_reducible exact Bx.at _ (by first | with_reducible rfl | (simp; done))) | with_reducible refine Bx.drew ?_ | with_reducible refine Bx.alloc ?_ _ | with_reducible refine Bx.call ?_ (by with_reducible assumption) | with_reducible refine BX.drew ?_ | with_reducible refine BX.alloc ?_ _ | with_reducible refine BX.call ?_ (by with_reducible assumption) | with_reducible refine Bx.st2 ?_ | with_reducible refine Bx.far (by first | omega | (dsimp only; omega)) ?_ | with_reducible refine BX.far (by first | omega | (dsimp only; omega)) ?_)))
    (first
      | (go_at_call 36; refine (HSY.out _ _ _ _ (SRow.call R4.out (by repeat (first | with_reducible assumption | with_reducible exact Below.refl _ _ | with_reducible refine Below.drew ?_ | with_reducible refine Below.alloc ?_ (by first | omega | (simp <;> omega)) _ | with_reducible refine Below.setCell ?_ (by first | omega | (dsimp only; omega)) _ | with_reducible refine bstep ?_ (by with_reducible assumption))))).mono ?_; rintro e w5 ⟨v5, rfl, o5, hb5⟩; have S5 := srow6 o5 HLN.out; obtain ⟨ao5, cap5, rfl⟩ := S5.slice; have c5 : Below w4.heap.size w4 w5 := (by repeat (first | with_reducible assumption | with_reducible exact Below.refl _ _ | with_reducible refine Below.drew ?_ | with_reducible refine Below.alloc ?_ (by first | omega | (simp <;> omega)) _ | with_reducible refine Below.setCell ?_ (by first | omega | (dsimp only; omega)) _ | with_reducible refine bstep ?_ (by with_reducible assumption))); have y5 := c5.size; have Q5 := Q3.call c5; have ql5 := Q5.lt)
      | (go_at_call 59; refine (HOR.out _ _ _ _ (SRow.call S5 (by repeat (first | with_reducible assumption | with_reducible exact Below.refl _ _ | with_reducible refine Below.drew ?_ | with_reducible refine Below.alloc ?_ (by first | omega | (simp <;> omega)) _ | with_reducible refine Below.setCell ?_ (by first | omega | (dsimp only; omega)) _ | with_reducible refine bstep ?_ (by with_reducible assumption))))).mono ?_; rintro e w6 ⟨v6, rfl, V6, hb6⟩; have c6 : Below w4.heap.size w4 w6 := (by repeat (first | with_reducible assumption | with_reducible exact Below.refl _ _ | with_reducible refine Below.drew ?_ | with_reducible refine Below.alloc ?_ (by first | omega | (simp <;> omega)) _ | with_reducible refine Below.setCell ?_ (by first | omega | (dsimp only; omega)) _ | with_reducible refine bstep ?_ (by with_reducible assumption))); have V7 := VRow.lower V6 (lo' := w4.heap.size) (Below.size (B := w4.heap.size) (by repeat (first | with_reducible assumption | with_reducible exact Below.refl _ _ | with_reducible refine Below.drew ?_ | with_reducible refine Below.alloc ?_ (by first | omega | (simp <;> omega)) _ | with_reducible refine Below.setCell ?_ (by first | omega | (dsimp only; omega)) _ | with_reducible refine bstep ?_ (by with_reducible assumption))))))
  all_goals
    have B7 := bstep B3 c6
    have V8 := Lib.hid (VRow.lower V7 (lo' := w.heap.size) z3)
    clear c6 V7 V6 Q3
    go_wp2
    go_ret2
    exact ⟨_, rfl, V8.out, B7⟩
end Go.Proofs.YtkfdaepnjdnnmaaDoor
