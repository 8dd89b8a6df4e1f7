/-
  GroupOfPattern and CountSymmetries, in the program and in the model. Conditions: a slice that lies in a block of its own; the program's variable unitMatrix holds the unit.
-/
import Derived.Test.YtkfdaepnjdnnmaaDoorSyG
import Derived.Test.YtkfdaepnjdnnmaaDoorAmo
import Derived.Test.YtkfdaepnjdnnmaaDoorSyC
namespace Go.Proofs.YtkfdaepnjdnnmaaDoor
open Go.RowKit
set_option linter.unusedSimpArgs false
set_option linter.unusedVariables false

/- the group of a pattern, and the code -/
def sgL (f A B C : Int) (n : Nat) (F : Nat → Int) : List M6 := if patB f A B C n F = true then symL f (leaP A B C F) (fulI A B C F).2.1 (leaQ A B C F) (onG A B C F (leaP A B C F) (leaQ A B C F)) else []
def sgC (f A B C : Int) (n : Nat) (F : Nat → Int) : Int := if patB f A B C n F = true then 0 else 1
def MAns (L : List M6) (c : Int) (W : World) (e : Ending) (w' : World) : Prop := ∃ v : Value, e = .returned (.tuple #[v, .int .i64 c]) ∧ SRow W.heap.size w'.heap.size 6 v L.length (fm L) w' ∧ Below W.heap.size W w'
theorem symL_len {f B : Int} {p q : Nat} {F : Nat → Int} (h : p * q ≤ 64) : (symL f p B q F).length ≤ 5184 := by
  unfold symL motL
  refine Nat.le_trans (List.length_filter_le _ _) ?_
  rw [len_flat, cellP_len]
  exact Nat.le_trans (Nat.mul_le_mul (stabL_len _ _ _ _) h) (by omega)
theorem sgL_len (f A B C : Int) (n : Nat) (F : Nat → Int) : (sgL f A B C n F).length ≤ 5184 := by
  unfold sgL
  split
  · rename_i h
    obtain ⟨p, q, rfl, rfl, hp⟩ := patB_of h
    exact symL_len (by have := (lean_pat hp).bd; omega)
  · simp
theorem srow6 {lo : Nat} {xs : List M6} {e : TypeId} {v : Value} {W : World} (h : W.ownsRow lo e 6 v xs.length (cells6 xs)) (hn : xs.length ≤ 5184) : SRow lo W.heap.size 6 v xs.length (fm xs) W := SRow.of h (cells6_int _) (by omega)
set_option maxRecDepth 100000 in
set_option maxHeartbeats 16000000 in
theorem implGrp_any {lo hi n : Nat} {v : Value} {F : Nat → Int} {w : World} (f A B C : Int) (hv : SRow lo hi 1 v n F w) (hU : UnitOK w) :
    Calls Tryd.prog 12 #[.agg #[.int .i64 f, .int .i64 A, .int .i64 B, .int .i64 C, v]] w (MAns (sgL f A B C n F) (sgC f A B C n F) w) := by
  have R9 := Lib.hid hv
  have HU := Lib.hid hU
  have HLN0 := sgL_len f A B C n F
  obtain ⟨ao, cap, rfl⟩ := hv.slice
  clear hv hU
  have P0 : Bx w.heap.size [.int .i64 f, .int .i64 A, .int .i64 B, .int .i64 C, .slice ao n cap] (w.alloc (.cells #[.int .i64 f, .int .i64 A, .int .i64 B, .int .i64 C, .slice ao n cap] 33)) := Bx.at _ rfl
  have B0 : Below w.heap.size w (w.alloc (.cells #[.int .i64 f, .int .i64 A, .int .i64 B, .int .i64 C, .slice ao n cap] 33)) := by repeat (first | with_reducible exact Below.refl _ _ | with_reducible assumption | with_reducible refine Below.setCell ?_ (by first | omega | (dsimp only; omega) | (simp <;> omega)) _ | with_reducible refine Below.alloc ?_ (by first | omega | (simp <;> omega)) _ | with_reducible refine bstep ?_ (by with_reducible assumption) | with_reducible refine Below.drew ?_ | with_reducible refine below_drewN ?_ _)
  rcases k1 : patB f A B C n F with _ | _
  · rw [show sgL f A B C n F = [] by simp [sgL, k1], show sgC f A B C n F = 1 by simp [sgC, k1]]
    clear HLN0
    go_enter Tryd.func12, Tryd.ntmps12
    go_wp2_with fail
    with_reducible refine (patValid_any f A B C (R9.out.call B0)).mono ?_
    rintro e w1 ⟨rfl, hb1⟩
    rw [k1]
    have P1 := P0.call hb1
    have B1 := bstep B0 hb1
    clear P0 B0 hb1
    go_wp2
    go_ret2
    exact ⟨_, rfl, SRow.nil _ 6 _ _, B1⟩
  obtain ⟨l0, e0⟩ : ∃ z : Int, z = (leaP A B C F : Int) := ⟨_, rfl⟩
  obtain ⟨l1, e1⟩ : ∃ z : Int, z = (fulI A B C F).2.1 := ⟨_, rfl⟩
  obtain ⟨l2, e2⟩ : ∃ z : Int, z = (leaQ A B C F : Int) := ⟨_, rfl⟩
  obtain ⟨lm, em⟩ : ∃ z : Nat, z = leaP A B C F * leaQ A B C F := ⟨_, rfl⟩
  obtain ⟨lG, eG⟩ : ∃ z : Nat → Int, z = (onG A B C F (leaP A B C F) (leaQ A B C F)) := ⟨_, rfl⟩
  obtain ⟨L, eL⟩ : ∃ L, L = sgL f A B C n F := ⟨_, rfl⟩
  rw [show sgC f A B C n F = 0 by simp [sgC, k1]]
  rw [← eL] at HLN0 ⊢
  have HLN := Lib.hid HLN0
  clear HLN0
  have HLE := Lib.hid (fun (X : World) (hX : Below w.heap.size w X) => (show Calls Tryd.prog 42 #[.agg #[.int .i64 f, .int .i64 A, .int .i64 B, .int .i64 C, .slice ao n cap]] X (fun e w' => ∃ v' : Value, e = .returned (.agg #[.int .i64 f, .int .i64 l0, .int .i64 l1, .int .i64 l2, v']) ∧ SRow X.heap.size w'.heap.size 1 v' lm lG w' ∧ Below X.heap.size X w') from by
    obtain ⟨p, q, rfl, rfl, hp⟩ := patB_of k1
    rw [e0, e1, e2, em, eG]
    exact lean_any hp (fulI_at hp.lat).1 (fulI_at hp.lat).2 (R9.out.call hX) (HU.out.call hX)))
  have HSY := Lib.hid (fun (X : World) (v' : Value) (lo' hi' : Nat) (hs : SRow lo' hi' 1 v' lm lG X) => (show Calls Tryd.prog 43 #[.agg #[.int .i64 f, .int .i64 l0, .int .i64 l1, .int .i64 l2, v']] X (fun e w' => ∃ v3 : Value, e = .returned v3 ∧ w'.ownsRow X.heap.size 111 6 v3 L.length (cells6 L) ∧ Below X.heap.size X w') from by
    obtain ⟨p, q, rfl, rfl, hp⟩ := patB_of k1
    have hs' := hs
    rw [em, eG] at hs'
    have h9 := symm_any (lean_pat hp) hs'
    rw [e0, e1, e2, eL]
    unfold sgL
    rw [if_pos k1]
    exact h9))
  clear e0 e1 e2 em eG eL
  go_enter Tryd.func12, Tryd.ntmps12
  go_wp2_with fail
  with_reducible refine (patValid_any f A B C (R9.out.call B0)).mono ?_
  rintro e w1 ⟨rfl, hb1⟩
  rw [k1]
  have P1 := P0.call hb1
  have B1 := bstep B0 hb1
  clear P0 B0 hb1
  have p1c0 := P1.c0
  have p1c1 := P1.c1
  have p1c2 := P1.c2
  have p1c3 := P1.c3
  have p1c4 := P1.c4
  have p1l := P1.lt
  go_wp2_with fail
  with_reducible refine (HLE.out _ B1).mono ?_
  rintro e w2 ⟨v2, rfl, r2, hb2⟩
  have B2 := bstep B1 hb2
  clear P1 B1 hb2 p1c0 p1c1 p1c2 p1c3 p1c4 p1l
  go_wp2_with fail
  refine (HSY.out _ _ _ _ r2).mono ?_
  rintro e w3 ⟨v3, rfl, o3, hb3⟩
  have S3 := srow6 o3 HLN.out
  have B3 := bstep B2 hb3
  have z2 := B2.size
  clear r2 hb3
  clear o3
  go_wp2_with fail
  refine (asMotions_any S3 (by have := HLN.out; omega)).mono ?_
  rintro e w4 ⟨v4, rfl, o4, hb4⟩
  have z3 := B3.size
  have S4 := Lib.hid (srow6 (ownsRow_lower o4 z3) HLN.out)
  have B4 := bstep B3 hb4
  clear S3 o4 hb4 B3
  go_wp2
  go_ret2
  exact ⟨_, rfl, S4.out, B4⟩
set_option maxRecDepth 100000 in
set_option maxHeartbeats 16000000 in
theorem specGrp_any {lo hi n : Nat} {v : Value} {F : Nat → Int} {w : World} (f A B C : Int) (hv : SRow lo hi 1 v n F w) :
    Calls Tryd.prog 10 #[.agg #[.int .i64 f, .int .i64 A, .int .i64 B, .int .i64 C, v]] w (MAns (sgL f A B C n F) (sgC f A B C n F) w) := by
  have R9 := Lib.hid hv
  have HLN0 := sgL_len f A B C n F
  obtain ⟨ao, cap, rfl⟩ := hv.slice
  clear hv
  have P0 : Bx w.heap.size [.int .i64 f, .int .i64 A, .int .i64 B, .int .i64 C, .slice ao n cap] (w.alloc (.cells #[.int .i64 f, .int .i64 A, .int .i64 B, .int .i64 C, .slice ao n cap] 33)) := Bx.at _ rfl
  have B0 : Below w.heap.size w (w.alloc (.cells #[.int .i64 f, .int .i64 A, .int .i64 B, .int .i64 C, .slice ao n cap] 33)) := by repeat (first | with_reducible exact Below.refl _ _ | with_reducible assumption | with_reducible refine Below.setCell ?_ (by first | omega | (dsimp only; omega) | (simp <;> omega)) _ | with_reducible refine Below.alloc ?_ (by first | omega | (simp <;> omega)) _ | with_reducible refine bstep ?_ (by with_reducible assumption) | with_reducible refine Below.drew ?_ | with_reducible refine below_drewN ?_ _)
  rcases k1 : patB f A B C n F with _ | _
  · rw [show sgL f A B C n F = [] by simp [sgL, k1], show sgC f A B C n F = 1 by simp [sgC, k1]]
    clear HLN0
    go_enter Tryd.func10, Tryd.ntmps10
    go_wp2_with fail
    with_reducible refine (specIsPat_any f A B C (R9.out.call B0)).mono ?_
    rintro e w1 ⟨rfl, hb1⟩
    rw [k1]
    have P1 := P0.call hb1
    have B1 := bstep B0 hb1
    clear P0 B0 hb1
    go_wp2
    go_ret2
    exact ⟨_, rfl, SRow.nil _ 6 _ _, B1⟩
  obtain ⟨l0, e0⟩ : ∃ z : Int, z = (leaP A B C F : Int) := ⟨_, rfl⟩
  obtain ⟨l1, e1⟩ : ∃ z : Int, z = (fulI A B C F).2.1 := ⟨_, rfl⟩
  obtain ⟨l2, e2⟩ : ∃ z : Int, z = (leaQ A B C F : Int) := ⟨_, rfl⟩
  obtain ⟨lm, em⟩ : ∃ z : Nat, z = leaP A B C F * leaQ A B C F := ⟨_, rfl⟩
  obtain ⟨lG, eG⟩ : ∃ z : Nat → Int, z = (onG A B C F (leaP A B C F) (leaQ A B C F)) := ⟨_, rfl⟩
  obtain ⟨L, eL⟩ : ∃ L, L = sgL f A B C n F := ⟨_, rfl⟩
  rw [show sgC f A B C n F = 0 by simp [sgC, k1]]
  rw [← eL] at HLN0 ⊢
  have HLN := Lib.hid HLN0
  clear HLN0
  have HLE := Lib.hid (fun (X : World) (hX : Below w.heap.size w X) => (show Calls Tryd.prog 37 #[.agg #[.int .i64 f, .int .i64 A, .int .i64 B, .int .i64 C, .slice ao n cap]] X (fun e w' => ∃ v' : Value, e = .returned (.agg #[.int .i64 f, .int .i64 l0, .int .i64 l1, .int .i64 l2, v']) ∧ SRow X.heap.size w'.heap.size 1 v' lm lG w' ∧ Below X.heap.size X w') from by
    obtain ⟨p, q, rfl, rfl, hp⟩ := patB_of k1
    rw [e0, e1, e2, em, eG]
    exact l09Lean_any hp (fulI_at hp.lat).1 (fulI_at hp.lat).2 (R9.out.call hX)))
  have HSY := Lib.hid (fun (X : World) (v' : Value) (lo' hi' : Nat) (hs : SRow lo' hi' 1 v' lm lG X) => (show Calls Tryd.prog 36 #[.agg #[.int .i64 f, .int .i64 l0, .int .i64 l1, .int .i64 l2, v']] X (fun e w' => ∃ v3 : Value, e = .returned v3 ∧ w'.ownsRow X.heap.size 51 6 v3 L.length (cells6 L) ∧ Below X.heap.size X w') from by
    obtain ⟨p, q, rfl, rfl, hp⟩ := patB_of k1
    have hs' := hs
    rw [em, eG] at hs'
    have h9 := l10Group_any (lean_pat hp) hs'
    rw [e0, e1, e2, eL]
    unfold sgL
    rw [if_pos k1]
    exact h9))
  clear e0 e1 e2 em eG eL
  go_enter Tryd.func10, Tryd.ntmps10
  go_wp2_with fail
  with_reducible refine (specIsPat_any f A B C (R9.out.call B0)).mono ?_
  rintro e w1 ⟨rfl, hb1⟩
  rw [k1]
  have P1 := P0.call hb1
  have B1 := bstep B0 hb1
  clear P0 B0 hb1
  have p1c0 := P1.c0
  have p1c1 := P1.c1
  have p1c2 := P1.c2
  have p1c3 := P1.c3
  have p1c4 := P1.c4
  have p1l := P1.lt
  go_wp2_with fail
  with_reducible refine (HLE.out _ B1).mono ?_
  rintro e w2 ⟨v2, rfl, r2, hb2⟩
  have B2 := bstep B1 hb2
  clear P1 B1 hb2 p1c0 p1c1 p1c2 p1c3 p1c4 p1l
  go_wp2_with fail
  refine (HSY.out _ _ _ _ r2).mono ?_
  rintro e w3 ⟨v3, rfl, o3, hb3⟩
  have S3 := srow6 o3 HLN.out
  have B3 := bstep B2 hb3
  have z2 := B2.size
  clear r2 hb3
  have S4 := Lib.hid (srow6 (ownsRow_lower o3 z2) HLN.out)
  clear S3 o3
  go_wp2
  go_ret2
  exact ⟨_, rfl, S4.out, B3⟩
set_option maxRecDepth 100000 in
set_option maxHeartbeats 16000000 in
theorem implCntS_any {lo hi n : Nat} {v : Value} {F : Nat → Int} {w : World} (f A B C : Int) (hv : SRow lo hi 1 v n F w) (hU : UnitOK w) :
    Calls Tryd.prog 25 #[.agg #[.int .i64 f, .int .i64 A, .int .i64 B, .int .i64 C, v]] w (fun e w' => e = .returned (.tuple #[.int .i64 ((sgL f A B C n F).length : Int), .int .i64 (sgC f A B C n F)]) ∧ Below w.heap.size w w') := by
  have R9 := Lib.hid hv
  have HU := Lib.hid hU
  have HLN0 := sgL_len f A B C n F
  obtain ⟨ao, cap, rfl⟩ := hv.slice
  clear hv hU
  have P0 : Bx w.heap.size [.int .i64 f, .int .i64 A, .int .i64 B, .int .i64 C, .slice ao n cap] (w.alloc (.cells #[.int .i64 f, .int .i64 A, .int .i64 B, .int .i64 C, .slice ao n cap] 33)) := Bx.at _ rfl
  have B0 : Below w.heap.size w (w.alloc (.cells #[.int .i64 f, .int .i64 A, .int .i64 B, .int .i64 C, .slice ao n cap] 33)) := by repeat (first | with_reducible exact Below.refl _ _ | with_reducible assumption | with_reducible refine Below.setCell ?_ (by first | omega | (dsimp only; omega) | (simp <;> omega)) _ | with_reducible refine Below.alloc ?_ (by first | omega | (simp <;> omega)) _ | with_reducible refine bstep ?_ (by with_reducible assumption) | with_reducible refine Below.drew ?_ | with_reducible refine below_drewN ?_ _)
  rcases k1 : patB f A B C n F with _ | _
  · rw [show sgL f A B C n F = [] by simp [sgL, k1], show sgC f A B C n F = 1 by simp [sgC, k1]]
    clear HLN0
    go_enter Tryd.func25, Tryd.ntmps25
    go_wp2_with fail
    with_reducible refine (patValid_any f A B C (R9.out.call B0)).mono ?_
    rintro e w1 ⟨rfl, hb1⟩
    rw [k1]
    have P1 := P0.call hb1
    have B1 := bstep B0 hb1
    clear P0 B0 hb1
    go_wp2
    go_ret2
    exact ⟨rfl, B1⟩
  obtain ⟨l0, e0⟩ : ∃ z : Int, z = (leaP A B C F : Int) := ⟨_, rfl⟩
  obtain ⟨l1, e1⟩ : ∃ z : Int, z = (fulI A B C F).2.1 := ⟨_, rfl⟩
  obtain ⟨l2, e2⟩ : ∃ z : Int, z = (leaQ A B C F : Int) := ⟨_, rfl⟩
  obtain ⟨lm, em⟩ : ∃ z : Nat, z = leaP A B C F * leaQ A B C F := ⟨_, rfl⟩
  obtain ⟨lG, eG⟩ : ∃ z : Nat → Int, z = (onG A B C F (leaP A B C F) (leaQ A B C F)) := ⟨_, rfl⟩
  obtain ⟨L, eL⟩ : ∃ L, L = sgL f A B C n F := ⟨_, rfl⟩
  rw [show sgC f A B C n F = 0 by simp [sgC, k1]]
  rw [← eL] at HLN0 ⊢
  have HLN := Lib.hid HLN0
  clear HLN0
  have HLE := Lib.hid (fun (X : World) (hX : Below w.heap.size w X) => (show Calls Tryd.prog 42 #[.agg #[.int .i64 f, .int .i64 A, .int .i64 B, .int .i64 C, .slice ao n cap]] X (fun e w' => ∃ v' : Value, e = .returned (.agg #[.int .i64 f, .int .i64 l0, .int .i64 l1, .int .i64 l2, v']) ∧ SRow X.heap.size w'.heap.size 1 v' lm lG w' ∧ Below X.heap.size X w') from by
    obtain ⟨p, q, rfl, rfl, hp⟩ := patB_of k1
    rw [e0, e1, e2, em, eG]
    exact lean_any hp (fulI_at hp.lat).1 (fulI_at hp.lat).2 (R9.out.call hX) (HU.out.call hX)))
  have HSY := Lib.hid (fun (X : World) (v' : Value) (lo' hi' : Nat) (hs : SRow lo' hi' 1 v' lm lG X) => (show Calls Tryd.prog 43 #[.agg #[.int .i64 f, .int .i64 l0, .int .i64 l1, .int .i64 l2, v']] X (fun e w' => ∃ v3 : Value, e = .returned v3 ∧ w'.ownsRow X.heap.size 111 6 v3 L.length (cells6 L) ∧ Below X.heap.size X w') from by
    obtain ⟨p, q, rfl, rfl, hp⟩ := patB_of k1
    have hs' := hs
    rw [em, eG] at hs'
    have h9 := symm_any (lean_pat hp) hs'
    rw [e0, e1, e2, eL]
    unfold sgL
    rw [if_pos k1]
    exact h9))
  clear e0 e1 e2 em eG eL
  go_enter Tryd.func25, Tryd.ntmps25
  go_wp2_with fail
  with_reducible refine (patValid_any f A B C (R9.out.call B0)).mono ?_
  rintro e w1 ⟨rfl, hb1⟩
  rw [k1]
  have P1 := P0.call hb1
  have B1 := bstep B0 hb1
  clear P0 B0 hb1
  have p1c0 := P1.c0
  have p1c1 := P1.c1
  have p1c2 := P1.c2
  have p1c3 := P1.c3
  have p1c4 := P1.c4
  have p1l := P1.lt
  go_wp2_with fail
  with_reducible refine (HLE.out _ B1).mono ?_
  rintro e w2 ⟨v2, rfl, r2, hb2⟩
  have B2 := bstep B1 hb2
  clear P1 B1 hb2 p1c0 p1c1 p1c2 p1c3 p1c4 p1l
  go_wp2_with fail
  refine (HSY.out _ _ _ _ r2).mono ?_
  rintro e w3 ⟨v3, rfl, o3, hb3⟩
  have S3 := srow6 o3 HLN.out
  have B3 := bstep B2 hb3
  have z2 := B2.size
  clear r2 hb3
  have sh3 := S3.slice
  obtain ⟨ao3, cap3, rfl⟩ := sh3
  clear S3 o3
  go_wp2
  go_ret2
  exact ⟨rfl, B3⟩
set_option maxRecDepth 100000 in
set_option maxHeartbeats 16000000 in
theorem specCntS_any {lo hi n : Nat} {v : Value} {F : Nat → Int} {w : World} (f A B C : Int) (hv : SRow lo hi 1 v n F w) :
    Calls Tryd.prog 24 #[.agg #[.int .i64 f, .int .i64 A, .int .i64 B, .int .i64 C, v]] w (fun e w' => e = .returned (.tuple #[.int .i64 ((sgL f A B C n F).length : Int), .int .i64 (sgC f A B C n F)]) ∧ Below w.heap.size w w') := by
  have R9 := Lib.hid hv
  have HLN0 := sgL_len f A B C n F
  obtain ⟨ao, cap, rfl⟩ := hv.slice
  clear hv
  have P0 : Bx w.heap.size [.int .i64 f, .int .i64 A, .int .i64 B, .int .i64 C, .slice ao n cap] (w.alloc (.cells #[.int .i64 f, .int .i64 A, .int .i64 B, .int .i64 C, .slice ao n cap] 33)) := Bx.at _ rfl
  have B0 : Below w.heap.size w (w.alloc (.cells #[.int .i64 f, .int .i64 A, .int .i64 B, .int .i64 C, .slice ao n cap] 33)) := by repeat (first | with_reducible exact Below.refl _ _ | with_reducible assumption | with_reducible refine Below.setCell ?_ (by first | omega | (dsimp only; omega) | (simp <;> omega)) _ | with_reducible refine Below.alloc ?_ (by first | omega | (simp <;> omega)) _ | with_reducible refine bstep ?_ (by with_reducible assumption) | with_reducible refine Below.drew ?_ | with_reducible refine below_drewN ?_ _)
  rcases k1 : patB f A B C n F with _ | _
  · rw [show sgL f A B C n F = [] by simp [sgL, k1], show sgC f A B C n F = 1 by simp [sgC, k1]]
    clear HLN0
    go_enter Tryd.func24, Tryd.ntmps24
    go_wp2_with fail
    with_reducible refine (specIsPat_any f A B C (R9.out.call B0)).mono ?_
    rintro e w1 ⟨rfl, hb1⟩
    rw [k1]
    have P1 := P0.call hb1
    have B1 := bstep B0 hb1
    clear P0 B0 hb1
    go_wp2
    go_ret2
    exact ⟨rfl, B1⟩
  obtain ⟨l0, e0⟩ : ∃ z : Int, z = (leaP A B C F : Int) := ⟨_, rfl⟩
  obtain ⟨l1, e1⟩ : ∃ z : Int, z = (fulI A B C F).2.1 := ⟨_, rfl⟩
  obtain ⟨l2, e2⟩ : ∃ z : Int, z = (leaQ A B C F : Int) := ⟨_, rfl⟩
  obtain ⟨lm, em⟩ : ∃ z : Nat, z = leaP A B C F * leaQ A B C F := ⟨_, rfl⟩
  obtain ⟨lG, eG⟩ : ∃ z : Nat → Int, z = (onG A B C F (leaP A B C F) (leaQ A B C F)) := ⟨_, rfl⟩
  obtain ⟨L, eL⟩ : ∃ L, L = sgL f A B C n F := ⟨_, rfl⟩
  rw [show sgC f A B C n F = 0 by simp [sgC, k1]]
  rw [← eL] at HLN0 ⊢
  have HLN := Lib.hid HLN0
  clear HLN0
  have HLE := Lib.hid (fun (X : World) (hX : Below w.heap.size w X) => (show Calls Tryd.prog 37 #[.agg #[.int .i64 f, .int .i64 A, .int .i64 B, .int .i64 C, .slice ao n cap]] X (fun e w' => ∃ v' : Value, e = .returned (.agg #[.int .i64 f, .int .i64 l0, .int .i64 l1, .int .i64 l2, v']) ∧ SRow X.heap.size w'.heap.size 1 v' lm lG w' ∧ Below X.heap.size X w') from by
    obtain ⟨p, q, rfl, rfl, hp⟩ := patB_of k1
    rw [e0, e1, e2, em, eG]
    exact l09Lean_any hp (fulI_at hp.lat).1 (fulI_at hp.lat).2 (R9.out.call hX)))
  have HSY := Lib.hid (fun (X : World) (v' : Value) (lo' hi' : Nat) (hs : SRow lo' hi' 1 v' lm lG X) => (show Calls Tryd.prog 36 #[.agg #[.int .i64 f, .int .i64 l0, .int .i64 l1, .int .i64 l2, v']] X (fun e w' => ∃ v3 : Value, e = .returned v3 ∧ w'.ownsRow X.heap.size 51 6 v3 L.length (cells6 L) ∧ Below X.heap.size X w') from by
    obtain ⟨p, q, rfl, rfl, hp⟩ := patB_of k1
    have hs' := hs
    rw [em, eG] at hs'
    have h9 := l10Group_any (lean_pat hp) hs'
    rw [e0, e1, e2, eL]
    unfold sgL
    rw [if_pos k1]
    exact h9))
  clear e0 e1 e2 em eG eL
  go_enter Tryd.func24, Tryd.ntmps24
  go_wp2_with fail
  with_reducible refine (specIsPat_any f A B C (R9.out.call B0)).mono ?_
  rintro e w1 ⟨rfl, hb1⟩
  rw [k1]
  have P1 := P0.call hb1
  have B1 := bstep B0 hb1
  clear P0 B0 hb1
  have p1c0 := P1.c0
  have p1c1 := P1.c1
  have p1c2 := P1.c2
  have p1c3 := P1.c3
  have p1c4 := P1.c4
  have p1l := P1.lt
  go_wp2_with fail
  with_reducible refine (HLE.out _ B1).mono ?_
  rintro e w2 ⟨v2, rfl, r2, hb2⟩
  have B2 := bstep B1 hb2
  clear P1 B1 hb2 p1c0 p1c1 p1c2 p1c3 p1c4 p1l
  go_wp2_with fail
  refine (HSY.out _ _ _ _ r2).mono ?_
  rintro e w3 ⟨v3, rfl, o3, hb3⟩
  have S3 := srow6 o3 HLN.out
  have B3 := bstep B2 hb3
  have z2 := B2.size
  clear r2 hb3
  have sh3 := S3.slice
  obtain ⟨ao3, cap3, rfl⟩ := sh3
  clear S3 o3
  go_wp2
  go_ret2
  exact ⟨rfl, B3⟩
end Go.Proofs.YtkfdaepnjdnnmaaDoor
