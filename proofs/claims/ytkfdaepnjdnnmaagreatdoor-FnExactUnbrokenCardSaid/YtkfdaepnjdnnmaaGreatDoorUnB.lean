/-
  Unbroken, in the program. Conditions: slices that lie in blocks of their own, the list's length is below the model's bound; the program's variable unitMatrix holds the unit.
-/
import Derived.Test.YtkfdaepnjdnnmaaGreatDoorSyC
import Derived.Test.YtkfdaepnjdnnmaaGreatDoorUnA
import Derived.Test.YtkfdaepnjdnnmaaGreatDoorDfB
import Derived.Test.YtkfdaepnjdnnmaaGreatDoorAmo
import Derived.Test.YtkfdaepnjdnnmaaGreatDoorPtW
import Derived.Deep.RegionHeld3
import Derived.IntWalk
namespace Go.Proofs.YtkfdaepnjdnnmaaGreatDoor
open Go.RowKit
set_option linter.unusedSimpArgs false
set_option linter.unusedVariables false

def kepU (p : Nat) (B : Int) (q : Nat) (F : Nat → Int) (m : M6) : Bool := kepM (p : Int) B (q : Int) F m.1 m.2.1 m.2.2.1 m.2.2.2.1 m.2.2.2.2.1 m.2.2.2.2.2 (cellP q p)
def uI (f A B C : Int) (F : Nat → Int) (xs : List M6) : Bool := incB f (leaP A B C F : Int) (fulI A B C F).2.1 (leaQ A B C F : Int) xs
def uK (A B C : Int) (F : Nat → Int) : M6 → Bool := kepU (leaP A B C F) (fulI A B C F).2.1 (leaQ A B C F) (onG A B C F (leaP A B C F) (leaQ A B C F))
def uL (f A B C : Int) (n : Nat) (F : Nat → Int) (xs : List M6) : List M6 := if patB f A B C n F = true then (if uI f A B C F xs = true then xs.filter (uK A B C F) else []) else []
def uC (f A B C : Int) (n : Nat) (F : Nat → Int) (xs : List M6) : Int := if patB f A B C n F = true then (if uI f A B C F xs = true then 0 else 2) else 1
def UAns (L : List M6) (c : Int) (W : World) (e : Ending) (w' : World) : Prop := ∃ v : Value, e = .returned (.tuple #[v, .int .i64 c]) ∧ SRow W.heap.size w'.heap.size 6 v L.length (fm L) w' ∧ Below W.heap.size W w'
theorem allOk_mem {f A B C : Int} {xs : List M6} (h : allOk f A B C xs = true) : ∀ m ∈ xs, okM f A B C m = true := by
  unfold allOk at h
  exact List.all_eq_true.1 h
theorem inc_len {f A B C : Int} {xs : List M6} (hfl : flB f A B C = true) (h : incB f A B C xs = true) : xs.length ≤ 768 := by
  obtain ⟨h1, h2, h3⟩ := inc_parts h
  simp only [flB, Bool.and_eq_true] at hfl
  exact good_len hfl.1 (latB_iff.1 hfl.2) h3.nodup fun m hm => ⟨(okM_iff.1 (allOk_mem h1 m hm)).2.1, h2 m hm⟩
theorem ok_lims {f A B C : Int} {m : M6} (h : okM f A B C m = true) : limB m.1 m.2.1 m.2.2.1 m.2.2.2.1 = true ∧ vecB m.2.2.2.2.1 m.2.2.2.2.2 = true := by
  have h5 := okM_iff.1 h
  have hfl := h5.1
  simp only [flB, Bool.and_eq_true] at hfl
  exact ⟨keep_lim hfl.1 h5.2.1.1, h5.2.2⟩
theorem stays_row {g g2 n : Nat} {F : Nat → Int} (h : g ≠ g2) : Stays g (fun W => IRow g2 n F W) := by
  refine ⟨fun W w1 h1 hb => h1.call hb, fun W pp u hpp h1 => ?_⟩
  exact IRow.far (by omega) h1
theorem row_of {g2 n cap : Nat} {F : Nat → Int} {W : World} (h : IRow g2 (n * 1) F W) (hn : n ≤ 64) : SRow g2 (g2 + 1) 1 (.slice (some ⟨g2, 0, none⟩) n cap) n F W := ⟨h.1, by omega, .inr ⟨g2, cap, rfl, Nat.le_refl _, by omega, h⟩⟩
theorem own_rowU {W : World} {base : Nat} {v : Value} {G : List M6} {T : TypeId} (h : W.ownsRow base T 6 v G.length (cells6 G)) (hn : 0 < G.length) (hn2 : G.length ≤ 1048576) : ∃ g cap, v = .slice (some ⟨g, 0, none⟩) G.length cap ∧ base ≤ g ∧ G.length ≤ cap ∧ cap ≤ maxLen ∧ IRow g (G.length * 6) (fm G) W := by
  obtain ⟨g', c', e1, h1, _, r1⟩ := (SRow.big6U h hn2).2.2.resolve_left (fun h => by omega)
  rcases h.2 with ⟨_, hz⟩ | ⟨g, cap, cur, h', hb, _, hc, hm, _⟩
  · omega
  · rw [e1] at h'
    simp only [Value.slice.injEq, Option.some.injEq, Addr.mk.injEq, and_true, true_and] at h'
    obtain ⟨h5, h6⟩ := h'
    subst h5 h6
    exact ⟨_, _, e1, h1, hc, hm, r1⟩
theorem own_rowW {W : World} {base : Nat} {v : Value} {G : List M6} {T : TypeId} (h : W.ownsRow base T 6 v G.length (cells6 G)) : (v = .slice none 0 0 ∧ G.length = 0) ∨ ∃ g cap, v = .slice (some ⟨g, 0, none⟩) G.length cap ∧ base ≤ g ∧ G.length ≤ cap ∧ cap ≤ maxLen ∧ IRow g (G.length * 6) (fm G) W := by
  rcases h.2 with ⟨h1, hz⟩ | ⟨g, cap, cur, h', hb, _, hc, hm, _⟩
  · exact .inl ⟨h1, hz⟩
  · subst h'
    have hl := h.lt g rfl
    refine .inr ⟨g, cap, rfl, hb, hc, hm, hl.2, fun t ht => ⟨?_, h.frozenAt t⟩⟩
    rw [h.cellAt t ht]
    exact intAt_eq (cells6_int G) (by rw [h.1]; exact ht)
set_option maxRecDepth 100000 in
set_option maxHeartbeats 8000000 in
theorem indNil_any (pv : Value) (w : World) :
    Calls Tryz.prog 80 #[.slice none 0 0, .func (.func 40) #[pv] #[]] w fun e w' => e = .returned (.int .i64 (-1)) ∧ Below w.heap.size w w' := by
  go_enter Tryz.func80, Tryz.ntmps80
  go_wp2_with fail
  go_loopw [8] (fun i W => i = .int .i64 ((0 : Nat) : Int) ∧ Below w.heap.size w W) (fun _ _ => 0)
  case atStart => exact ⟨rfl, Below.refl _ _⟩
  case round =>
    obtain ⟨rfl, hB⟩ := hrel
    go_wp2
    go_ret
    exact ⟨rfl, hB⟩
set_option maxRecDepth 100000 in
set_option maxHeartbeats 8000000 in
theorem delNil_any (pv : Value) (w : World) :
    Calls Tryz.prog 39 #[.slice none 0 0, .func (.func 40) #[pv] #[]] w fun e w' => e = .returned (.slice none 0 0) ∧ Below w.heap.size w w' := by
  go_enter Tryz.func39, Tryz.ntmps39
  go_wp2_with fail
  refine (indNil_any pv _).mono ?_
  rintro e w2 ⟨rfl, hb2⟩
  go_wp2
  go_ret
  exact ⟨rfl, by first | exact hb2 | (repeat (first | with_reducible assumption | with_reducible exact Below.refl _ _ | with_reducible refine Below.drew ?_ | with_reducible refine bstep ?_ (by with_reducible assumption)))⟩
set_option maxRecDepth 100000 in
set_option maxHeartbeats 16000000 in
theorem implUnb_any {lo hi lo' hi' n : Nat} {v v9 : Value} {F : Nat → Int} {xs : List M6} {w : World} (f A B C : Int) (hv : SRow lo hi 1 v n F w) (hx : SRow lo' hi' 6 v9 xs.length (fm xs) w) (hn : xs.length ≤ 1048576) (hU : UnitOK w) :
    Calls Tryz.prog 11 #[.agg #[.int .i64 f, .int .i64 A, .int .i64 B, .int .i64 C, v], v9] w (UAns (uL f A B C n F xs) (uC f A B C n F xs) w) := by
  have R9 := Lib.hid hv
  have RX := Lib.hid hx
  have HN := Lib.hid hn
  have HU := Lib.hid hU
  obtain ⟨ao, cap, rfl⟩ := hv.slice
  clear hv hU hx hn
  have P0 : Bx w.heap.size [.int .i64 f, .int .i64 A, .int .i64 B, .int .i64 C, .slice ao n cap] (w.alloc (.cells #[.int .i64 f, .int .i64 A, .int .i64 B, .int .i64 C, .slice ao n cap] 35)) := Bx.at _ rfl
  have B0 : Below w.heap.size w (w.alloc (.cells #[.int .i64 f, .int .i64 A, .int .i64 B, .int .i64 C, .slice ao n cap] 35)) := by repeat (first | with_reducible exact Below.refl _ _ | with_reducible assumption | with_reducible refine Below.setCell ?_ (by first | omega | (dsimp only; omega) | (simp <;> omega)) _ | with_reducible refine Below.alloc ?_ (by first | omega | (simp <;> omega)) _ | with_reducible refine bstep ?_ (by with_reducible assumption) | with_reducible refine Below.drew ?_ | with_reducible refine below_drewN ?_ _)
  rcases k1 : patB f A B C n F with _ | _
  · rw [show uL f A B C n F xs = [] by simp [uL, k1], show uC f A B C n F xs = 1 by simp [uC, k1]]
    go_enter Tryz.func11, Tryz.ntmps11
    go_wp2_with fail
    with_reducible refine (patValid_any f A B C (R9.out.call B0)).mono ?_
    rintro e w1 ⟨rfl, hb1⟩
    rw [k1]
    have P1 := P0.call hb1
    have B1 := bstep B0 hb1
    clear P0 B0 hb1
    go_wp2
    go_ret2
    exact ⟨_, rfl, SRow.nil _ 6 _ _, B1⟩
  obtain ⟨l0, e0⟩ : ∃ z : Int, z = (leaP A B C F : Int) := ⟨_, rfl⟩
  obtain ⟨l1, e1⟩ : ∃ z : Int, z = (fulI A B C F).2.1 := ⟨_, rfl⟩
  obtain ⟨l2, e2⟩ : ∃ z : Int, z = (leaQ A B C F : Int) := ⟨_, rfl⟩
  obtain ⟨lm, em⟩ : ∃ z : Nat, z = leaP A B C F * leaQ A B C F := ⟨_, rfl⟩
  obtain ⟨lG, eG⟩ : ∃ z : Nat → Int, z = (onG A B C F (leaP A B C F) (leaQ A B C F)) := ⟨_, rfl⟩
  obtain ⟨kp, ek⟩ : ∃ z, z = uK A B C F := ⟨_, rfl⟩
  have HLE := Lib.hid (fun (X : World) (hX : Below w.heap.size w X) => (show Calls Tryz.prog 36 #[.agg #[.int .i64 f, .int .i64 A, .int .i64 B, .int .i64 C, .slice ao n cap]] X (fun e w' => ∃ v' : Value, e = .returned (.agg #[.int .i64 f, .int .i64 l0, .int .i64 l1, .int .i64 l2, v']) ∧ SRow X.heap.size w'.heap.size 1 v' lm lG w' ∧ Below X.heap.size X w') from by
    obtain ⟨p, q, rfl, rfl, hp⟩ := patB_of k1
    rw [e0, e1, e2, em, eG]
    exact lean_any hp (fulI_at hp.lat).1 (fulI_at hp.lat).2 (R9.out.call hX) (HU.out.call hX)))
  have HLM := Lib.hid (show 1 ≤ lm ∧ lm ≤ 64 ∧ flB f l0 l1 l2 = true from by
    obtain ⟨p, q, rfl, rfl, hp⟩ := patB_of k1
    have h9 := lean_pat hp
    have h8 := h9.bd
    rw [em, e0, e1, e2]
    refine ⟨by omega, by omega, ?_⟩
    simp [flB, h9.fr, latB_iff.2 h9.lat])
  have HIN := Lib.hid (fun (X : World) (hX : Below w.heap.size w X) => (show Calls Tryz.prog 37 #[.int .i64 f, .agg #[.int .i64 l0, .int .i64 l1, .int .i64 l2], v9] X (IncPost f l0 l1 l2 xs X) from incMo_any f l0 l1 l2 HLM.out.2.2 (RX.out.call hX) HN.out))
  have HBR := Lib.hid (fun (X : World) (g2 cap2 : Nat) (hr : IRow g2 (lm * 1) lG X) (a b c d x y : Int) (ho : okM f l0 l1 l2 (a, b, c, d, x, y) = true) => (show Calls Tryz.prog 40 #[.agg #[.int .i64 f, .int .i64 l0, .int .i64 l1, .int .i64 l2, .slice (some ⟨g2, 0, none⟩) lm cap2], .agg #[.int .i64 a, .int .i64 b, .int .i64 c, .int .i64 d, .int .i64 x, .int .i64 y]] X (fun e w' => e = .returned (.bool (!(kp (a, b, c, d, x, y)))) ∧ Below X.heap.size X w') from by
    have hlim := ok_lims ho
    have hs := row_of (cap := cap2) hr HLM.out.2.1
    obtain ⟨p, q, rfl, rfl, hp⟩ := patB_of k1
    rw [eG] at hs
    have em2 := em
    subst em2
    rw [ek, e0, e1, e2]
    exact broken_any (lean_pat hp) hs a b c d x y hlim.1 hlim.2))
  have HUI := Lib.hid (show uI f A B C F xs = incB f l0 l1 l2 xs from by rw [e0, e1, e2]; rfl)
  have HUL := Lib.hid (fun (h : uI f A B C F xs = true) => (show uL f A B C n F xs = xs.filter kp from by unfold uL; rw [if_pos k1, if_pos h, ek]))
  clear e0 e1 e2 em eG ek
  obtain ⟨ao9, cap9, rfl⟩ : ∃ ao cap, v9 = .slice ao xs.length cap := by
    rcases RX.out.2.2 with ⟨h0, ao, cap, rfl⟩ | ⟨g, cap, rfl, _⟩
    · exact ⟨ao, cap, by rw [h0]⟩
    · exact ⟨_, cap, rfl⟩
  rcases k2 : incB f l0 l1 l2 xs with _ | _
  · have k3 : uI f A B C F xs = false := HUI.out.trans k2
    rw [show uL f A B C n F xs = [] by simp [uL, k1, k3], show uC f A B C n F xs = 2 by simp [uC, k1, k3]]
    clear k3
    go_enter Tryz.func11, Tryz.ntmps11
    go_wp2_with fail
    with_reducible refine (patValid_any f A B C (R9.out.call B0)).mono ?_
    rintro e w1 ⟨rfl, hb1⟩
    rw [k1]
    have P1 := P0.call hb1
    have B1 := bstep B0 hb1
    clear P0 B0 hb1
    have p1c0 := P1.c0
    have p1c1 := P1.c1
    have p1c2 := P1.c2
    have p1c3 := P1.c3
    have p1c4 := P1.c4
    have p1l := P1.lt
    go_wp2_with fail
    with_reducible refine (HLE.out _ B1).mono ?_
    rintro e w2 ⟨v2, rfl, r2, hb2⟩
    obtain ⟨g2, cap2, rfl, hg2, hg2', I2⟩ := r2.irow HLM.out.1
    have B2 := bstep B1 hb2
    clear P1 B1 hb2 p1c0 p1c1 p1c2 p1c3 p1c4 p1l
    have I3 := I2.grow ((Below.refl w2.heap.size w2).alloc (Nat.le_refl _) (.cells #[.int .i64 f, .int .i64 l0, .int .i64 l1, .int .i64 l2, .slice (some ⟨g2, 0, none⟩) lm cap2] 35)) I2.1
    have B3 : Below w.heap.size w (w2.alloc (.cells #[.int .i64 f, .int .i64 l0, .int .i64 l1, .int .i64 l2, .slice (some ⟨g2, 0, none⟩) lm cap2] 35)) := B2.alloc B2.size _
    have Q3 : Bx w2.heap.size [.int .i64 f, .int .i64 l0, .int .i64 l1, .int .i64 l2, .slice (some ⟨g2, 0, none⟩) lm cap2] (w2.alloc (.cells #[.int .i64 f, .int .i64 l0, .int .i64 l1, .int .i64 l2, .slice (some ⟨g2, 0, none⟩) lm cap2] 35)) := Bx.at _ rfl
    go_wp2_with fail
    refine (HIN.out _ B3).mono ?_
    rintro e w4 ⟨v4, rfl, hy4, hn4, hb4⟩
    rw [k2]
    have I4 := I3.call hb4
    have Q4 := Q3.call hb4
    have B4 := bstep B3 hb4
    have z4 := B4.size
    have y4 := hb4.size
    have gl2 := I2.1
    have z2 := B2.size
    clear I3 B3 Q3 hb4 r2 B2
    have hv4 := hn4 k2
    subst hv4
    go_wp2
    go_ret2
    exact ⟨_, rfl, SRow.nil _ 6 _ _, B4⟩
  have k3 : uI f A B C F xs = true := HUI.out.trans k2
  rw [HUL.out k3, show uC f A B C n F xs = 0 by simp [uC, k1, k3]]
  clear k3
  have HOKS := Lib.hid (fun m (hm : m ∈ xs) => allOk_mem (inc_parts k2).1 m hm)
  have H768 := Lib.hid (inc_len HLM.out.2.2 k2)
  have HFL := Lib.hid (show (xs.filter kp).length ≤ 768 from Nat.le_trans (List.length_filter_le _ _) H768.out)
  have HFN := Lib.hid (show xs.filter (fun m => !(!(kp m))) = xs.filter kp from by simp)
  go_enter Tryz.func11, Tryz.ntmps11
  go_wp2_with fail
  with_reducible refine (patValid_any f A B C (R9.out.call B0)).mono ?_
  rintro e w1 ⟨rfl, hb1⟩
  rw [k1]
  have P1 := P0.call hb1
  have B1 := bstep B0 hb1
  clear P0 B0 hb1
  have p1c0 := P1.c0
  have p1c1 := P1.c1
  have p1c2 := P1.c2
  have p1c3 := P1.c3
  have p1c4 := P1.c4
  have p1l := P1.lt
  go_wp2_with fail
  with_reducible refine (HLE.out _ B1).mono ?_
  rintro e w2 ⟨v2, rfl, r2, hb2⟩
  obtain ⟨g2, cap2, rfl, hg2, hg2', I2⟩ := r2.irow HLM.out.1
  have B2 := bstep B1 hb2
  clear P1 B1 hb2 p1c0 p1c1 p1c2 p1c3 p1c4 p1l
  have I3 := I2.grow ((Below.refl w2.heap.size w2).alloc (Nat.le_refl _) (.cells #[.int .i64 f, .int .i64 l0, .int .i64 l1, .int .i64 l2, .slice (some ⟨g2, 0, none⟩) lm cap2] 35)) I2.1
  have B3 : Below w.heap.size w (w2.alloc (.cells #[.int .i64 f, .int .i64 l0, .int .i64 l1, .int .i64 l2, .slice (some ⟨g2, 0, none⟩) lm cap2] 35)) := B2.alloc B2.size _
  have Q3 : Bx w2.heap.size [.int .i64 f, .int .i64 l0, .int .i64 l1, .int .i64 l2, .slice (some ⟨g2, 0, none⟩) lm cap2] (w2.alloc (.cells #[.int .i64 f, .int .i64 l0, .int .i64 l1, .int .i64 l2, .slice (some ⟨g2, 0, none⟩) lm cap2] 35)) := Bx.at _ rfl
  go_wp2_with fail
  refine (HIN.out _ B3).mono ?_
  rintro e w4 ⟨v4, rfl, hy4, hn4, hb4⟩
  rw [k2]
  have I4 := I3.call hb4
  have Q4 := Q3.call hb4
  have B4 := bstep B3 hb4
  have z4 := B4.size
  have y4 := hb4.size
  have gl2 := I2.1
  have z2 := B2.size
  clear I3 B3 Q3 hb4 r2 B2
  have O4 := hy4 k2
  rcases own_rowW O4 with ⟨hv0, hz⟩ | ⟨g5, cap5, hv5, hg5, hl5, hm5, I5⟩
  · subst hv0
    have hx0 : xs = [] := List.length_eq_zero_iff.1 hz
    have q4c0 := Q4.c0
    have q4c1 := Q4.c1
    have q4c2 := Q4.c2
    have q4c3 := Q4.c3
    have q4c4 := Q4.c4
    have q4l := Q4.lt
    clear hy4 hn4 O4 I4
    go_wp2_with fail
    refine (delNil_any _ _).mono ?_
    rintro e w5 ⟨rfl, hb5⟩
    have B5 := bstep B4 hb5
    clear hb5 q4c0 q4c1 q4c2 q4c3 q4c4 q4l Q4
    go_wp2_with fail
    refine (asMotions_any (lo := 0) (hi := w5.heap.size) (xs := []) (SRow.nil _ 6 _ _) (by simp)).mono ?_
    rintro e w6 ⟨v6, rfl, o6, hb6⟩
    have z5 := B5.size
    have S6 := Lib.hid (SRow.big6U (ownsRow_lower o6 z5) (by simp))
    have B6 := bstep B5 hb6
    have HX0 := Lib.hid hx0
    clear o6 hb6 B5 hx0 hz
    go_wp2
    go_ret2
    exact ⟨_, rfl, by rw [HX0.out]; exact S6.out, B6⟩
  subst hv5
  have hg6 : w.heap.size ≤ g5 := by simp at hg5; have := hg5; omega
  have CD := Lib.hid (deleteFB_any (pv := .agg #[.int .i64 f, .int .i64 l0, .int .i64 l1, .int .i64 l2, .slice (some ⟨g2, 0, none⟩) lm cap2]) (O := fun m => !(kp m)) (cap := cap5) (L := xs) (fun a b c d x y W hm hI => HBR.out W g2 cap2 hI a b c d x y (HOKS.out _ hm)) (stays_row (by simp at hg5; omega)) I4 I5 H768.out hl5 hm5)
  have q4c0 := Q4.c0
  have q4c1 := Q4.c1
  have q4c2 := Q4.c2
  have q4c3 := Q4.c3
  have q4c4 := Q4.c4
  have q4l := Q4.lt
  clear hy4 hn4 O4 I4 I5 hl5 hm5
  go_wp2_with fail
  refine CD.out.mono ?_
  rintro e w5 ⟨cap6, he, r5, _, hb5⟩
  rw [HFN.out] at he r5
  subst he
  have B5 := B4.trans (hb5.mono hg6)
  have S5 : SRow g5 w5.heap.size 6 (.slice (some ⟨g5, 0, none⟩) (xs.filter kp).length cap6) (xs.filter kp).length (fm (xs.filter kp)) w5 := ⟨Nat.le_refl _, by have := HFL.out; omega, .inr ⟨g5, cap6, rfl, Nat.le_refl _, r5.1, r5⟩⟩
  clear r5 hb5 CD B4 q4c0 q4c1 q4c2 q4c3 q4c4 q4l Q4
  go_wp2_with fail
  refine (asMotions_any S5 (by have := HFL.out; omega)).mono ?_
  rintro e w6 ⟨v6, rfl, o6, hb6⟩
  have z5 := B5.size
  have S6 := Lib.hid (SRow.big6U (ownsRow_lower o6 z5) (by have := HFL.out; omega))
  have B6 := bstep B5 hb6
  clear S5 o6 hb6 B5 z5
  go_wp2
  go_ret2
  exact ⟨_, rfl, S6.out, B6⟩
end Go.Proofs.YtkfdaepnjdnnmaaGreatDoor
