/-
  NameOfPattern in the program and in the model, and the walk of its exact law: the law returns true and writes nothing that was there. Conditions: the list's length is one that a slice can have; the program's variable unitMatrix holds the unit.
-/
import Derived.Test.YtjjfomokecngoaaGreatDoorNpF
import Derived.Test.YtjjfomokecngoaaGreatDoorNm3
import Derived.Test.YtjjfomokecngoaaGreatDoorFtM
import Derived.Test.YtjjfomokecngoaaGreatDoorSg
namespace Go.Proofs.YtjjfomokecngoaaGreatDoor
open Go.RowKit
set_option linter.unusedSimpArgs false
set_option linter.unusedVariables false

def npT (f A B C : Int) (n : Nat) (F : Nat → Int) : Value := if patB f A B C n F = true then .tuple #[.string (nmB (nmI (trnP (npL f A B C F)) (mrP f (leaP A B C F : Int) (fulI A B C F).2.1 (leaQ A B C F : Int) (npL f A B C F)).1 (mrP f (leaP A B C F : Int) (fulI A B C F).2.1 (leaQ A B C F : Int) (npL f A B C F)).2.1 (mrP f (leaP A B C F : Int) (fulI A B C F).2.1 (leaQ A B C F : Int) (npL f A B C F)).2.2.1 (mrP f (leaP A B C F : Int) (fulI A B C F).2.1 (leaQ A B C F : Int) (npL f A B C F)).2.2.2)), .int .i64 0] else .tuple #[.string ⟨#[]⟩, .int .i64 1]
theorem npT_form (f A B C : Int) (n : Nat) (F : Nat → Int) : ∃ (s : ByteArray) (k : Int), npT f A B C n F = .tuple #[.string s, .int .i64 k] := by
  unfold npT
  split
  · exact ⟨_, _, rfl⟩
  · exact ⟨_, _, rfl⟩
theorem np_yes {f A B C : Int} {n : Nat} {F : Nat → Int} (k1 : patB f A B C n F = true) : npT f A B C n F = .tuple #[.string (nmB (nmI (trnP (npL f A B C F)) (mrP f (leaP A B C F : Int) (fulI A B C F).2.1 (leaQ A B C F : Int) (npL f A B C F)).1 (mrP f (leaP A B C F : Int) (fulI A B C F).2.1 (leaQ A B C F : Int) (npL f A B C F)).2.1 (mrP f (leaP A B C F : Int) (fulI A B C F).2.1 (leaQ A B C F : Int) (npL f A B C F)).2.2.1 (mrP f (leaP A B C F : Int) (fulI A B C F).2.1 (leaQ A B C F : Int) (npL f A B C F)).2.2.2)), .int .i64 0] := if_pos k1
def npS (f A B C : Int) (F : Nat → Int) : ByteArray := nmB (nmI (trnP (npL f A B C F)) (mrP f (leaP A B C F : Int) (fulI A B C F).2.1 (leaQ A B C F : Int) (npL f A B C F)).1 (mrP f (leaP A B C F : Int) (fulI A B C F).2.1 (leaQ A B C F : Int) (npL f A B C F)).2.1 (mrP f (leaP A B C F : Int) (fulI A B C F).2.1 (leaQ A B C F : Int) (npL f A B C F)).2.2.1 (mrP f (leaP A B C F : Int) (fulI A B C F).2.1 (leaQ A B C F : Int) (npL f A B C F)).2.2.2)
set_option maxRecDepth 100000 in
set_option maxHeartbeats 16000000 in
theorem implNp_any {lo hi n : Nat} {v : Value} {F : Nat → Int} {w : World} (f A B C : Int) (hv : SRow lo hi 1 v n F w) (hU : UnitOK w) :
    Calls Tryz.prog 18 #[.agg #[.int .i64 f, .int .i64 A, .int .i64 B, .int .i64 C, v]] w (fun e w' => e = .returned (npT f A B C n F) ∧ Below w.heap.size w w') := by
  have R9 := Lib.hid hv
  have HU := Lib.hid hU
  obtain ⟨ao, cap, rfl⟩ := hv.slice
  clear hv hU
  have P0 : Bx w.heap.size [.int .i64 f, .int .i64 A, .int .i64 B, .int .i64 C, .slice ao n cap] (w.alloc (.cells #[.int .i64 f, .int .i64 A, .int .i64 B, .int .i64 C, .slice ao n cap] 40)) := Bx.at _ rfl
  have B0 : Below w.heap.size w (w.alloc (.cells #[.int .i64 f, .int .i64 A, .int .i64 B, .int .i64 C, .slice ao n cap] 40)) := by repeat (first | with_reducible exact Below.refl _ _ | with_reducible assumption | with_reducible refine Below.setCell ?_ (by first | omega | (dsimp only; omega) | (simp <;> omega)) _ | with_reducible refine Below.alloc ?_ (by first | omega | (simp <;> omega)) _ | with_reducible refine bstep ?_ (by with_reducible assumption) | with_reducible refine Below.drew ?_ | with_reducible refine below_drewN ?_ _)
  rcases k1 : patB f A B C n F with _ | _
  · have HT := Lib.hid (show npT f A B C n F = .tuple #[.string ⟨#[]⟩, .int .i64 1] by simp [npT, k1])
    go_enter Tryz.func18, Tryz.ntmps18
    go_wp2_with fail
    with_reducible refine (patValid_any f A B C (R9.out.call B0)).mono ?_
    rintro e w1 ⟨rfl, hb1⟩
    rw [k1]
    have P1 := P0.call hb1
    have B1 := bstep B0 hb1
    clear P0 B0 hb1
    go_wp2
    go_ret2
    exact ⟨ret_val HT.out.symm, B1⟩
  obtain ⟨l0, e0⟩ : ∃ z : Int, z = (leaP A B C F : Int) := ⟨_, rfl⟩
  obtain ⟨l1, e1⟩ : ∃ z : Int, z = (fulI A B C F).2.1 := ⟨_, rfl⟩
  obtain ⟨l2, e2⟩ : ∃ z : Int, z = (leaQ A B C F : Int) := ⟨_, rfl⟩
  obtain ⟨lm, em⟩ : ∃ z : Nat, z = leaP A B C F * leaQ A B C F := ⟨_, rfl⟩
  obtain ⟨lG, eG⟩ : ∃ z : Nat → Int, z = (onG A B C F (leaP A B C F) (leaQ A B C F)) := ⟨_, rfl⟩
  obtain ⟨L, eL⟩ : ∃ L, L = symL f (leaP A B C F) (fulI A B C F).2.1 (leaQ A B C F) (onG A B C F (leaP A B C F) (leaQ A B C F)) := ⟨_, rfl⟩
  have HLN := Lib.hid (show L.length ≤ 5184 by rw [eL]; exact Nat.le_trans (np_len k1) (by omega))
  have hgg : grpB f l0 l1 l2 L = true ∧ (shP L).length ≤ 1 := by rw [e0, e1, e2, eL]; exact ⟨np_grp k1, np_one k1⟩
  have HT := Lib.hid (show npT f A B C n F = .tuple #[.string (nmB (nmI (trnP L) (mrP f l0 l1 l2 L).1 (mrP f l0 l1 l2 L).2.1 (mrP f l0 l1 l2 L).2.2.1 (mrP f l0 l1 l2 L).2.2.2)), .int .i64 0] by rw [e0, e1, e2, eL]; exact np_yes k1)
  have HGG := Lib.hid hgg
  have HFR := Lib.hid (np_fr k1)
  clear hgg
  have HLE := Lib.hid (fun (X : World) (hX : Below w.heap.size w X) => (show Calls Tryz.prog 65 #[.agg #[.int .i64 f, .int .i64 A, .int .i64 B, .int .i64 C, .slice ao n cap]] X (fun e w' => ∃ v' : Value, e = .returned (.agg #[.int .i64 f, .int .i64 l0, .int .i64 l1, .int .i64 l2, v']) ∧ SRow X.heap.size w'.heap.size 1 v' lm lG w' ∧ Below X.heap.size X w') from by
    obtain ⟨p, q, rfl, rfl, hp⟩ := patB_of k1
    rw [e0, e1, e2, em, eG]
    exact lean_any hp (fulI_at hp.lat).1 (fulI_at hp.lat).2 (R9.out.call hX) (HU.out.call hX)))
  have HSY := Lib.hid (fun (X : World) (v' : Value) (lo' hi' : Nat) (hs : SRow lo' hi' 1 v' lm lG X) => (show Calls Tryz.prog 68 #[.agg #[.int .i64 f, .int .i64 l0, .int .i64 l1, .int .i64 l2, v']] X (fun e w' => ∃ v3 : Value, e = .returned v3 ∧ w'.ownsRow X.heap.size 145 6 v3 L.length (cells6 L) ∧ Below X.heap.size X w') from by
    obtain ⟨p, q, rfl, rfl, hp⟩ := patB_of k1
    have hs' := hs
    rw [em, eG] at hs'
    have h9 := symm_any (lean_pat hp) hs'
    rw [e0, e1, e2, eL]
    exact h9))
  clear e0 e1 e2 em eG eL
  go_enter Tryz.func18, Tryz.ntmps18
  go_wp2_with fail
  with_reducible refine (patValid_any f A B C (R9.out.call B0)).mono ?_
  rintro e w1 ⟨rfl, hb1⟩
  rw [k1]
  have P1 := P0.call hb1
  have B1 := bstep B0 hb1
  clear P0 B0 hb1
  have p1c0 := P1.c0
  have p1c1 := P1.c1
  have p1c2 := P1.c2
  have p1c3 := P1.c3
  have p1c4 := P1.c4
  have p1l := P1.lt
  go_wp2_with fail
  with_reducible refine (HLE.out _ B1).mono ?_
  rintro e w2 ⟨v2, rfl, r2, hb2⟩
  have B2 := bstep B1 hb2
  clear P1 B1 hb2 p1c0 p1c1 p1c2 p1c3 p1c4 p1l
  obtain ⟨ao2, cap2, rfl⟩ := r2.slice
  have A2 := B2.alloc B2.size (.cells #[.int .i64 f, .int .i64 l0, .int .i64 l1, .int .i64 l2, .slice ao2 lm cap2] 40)
  have Q2 : Bx w2.heap.size [.int .i64 f, .int .i64 l0, .int .i64 l1, .int .i64 l2, .slice ao2 lm cap2] (w2.alloc (.cells #[.int .i64 f, .int .i64 l0, .int .i64 l1, .int .i64 l2, .slice ao2 lm cap2] 40)) := Bx.at _ rfl
  have S2 := r2.call (ab w2 (.cells #[.int .i64 f, .int .i64 l0, .int .i64 l1, .int .i64 l2, .slice ao2 lm cap2] 40))
  have q2c0 := Q2.c0
  have q2l := Q2.lt
  clear r2
  go_wp2_with fail
  with_reducible refine (planeOf_yes f _ HFR.out).mono ?_
  rintro e w3 ⟨rfl, hb3⟩
  have Q3 := Q2.call hb3
  have B3 := bstep A2 hb3
  have S3 := Lib.hid (S2.call hb3)
  clear hb3 q2c0 q2l Q2 A2 S2 B2
  go_wp2_with fail
  have q3c0 := Q3.c0
  have q3c1 := Q3.c1
  have q3c2 := Q3.c2
  have q3c3 := Q3.c3
  have q3c4 := Q3.c4
  have q3l := Q3.lt
  obtain ⟨tr, htr⟩ : ∃ z, z = trnP L := ⟨_, rfl⟩
  obtain ⟨t1, ht1⟩ : ∃ z, z = (mrP f l0 l1 l2 L).1 := ⟨_, rfl⟩
  obtain ⟨t2, ht2⟩ : ∃ z, z = (mrP f l0 l1 l2 L).2.1 := ⟨_, rfl⟩
  obtain ⟨t3, ht3⟩ : ∃ z, z = (mrP f l0 l1 l2 L).2.2.1 := ⟨_, rfl⟩
  obtain ⟨t4, ht4⟩ : ∃ z, z = (mrP f l0 l1 l2 L).2.2.2 := ⟨_, rfl⟩
  have HFT := Lib.hid (show ftV f l0 l1 l2 L = .agg #[.int .i64 tr, .int .i64 t1, .int .i64 t2, .int .i64 t3, .bool t4] by rw [htr, ht1, ht2, ht3, ht4]; rfl)
  have HNE := Lib.hid (show nmI tr t1 t2 t3 t4 ≠ 0 by rw [htr, ht1, ht2, ht3, ht4]; exact named HGG.out.1 HGG.out.2)
  rw [← htr, ← ht1, ← ht2, ← ht3, ← ht4] at HT
  have HQ := Lib.hid (show nmR (nmI tr t1 t2 t3 t4) = .tuple #[.string (nmB (nmI tr t1 t2 t3 t4)), .int .i64 0] by rw [nmR, if_neg HNE.out])
  clear htr ht1 ht2 ht3 ht4
  go_region_held3 (fun W9 => (W9.cell? ⟨w2.heap.size, 0, none⟩ = some (.int .i64 f) ∧ W9.cell? ⟨w2.heap.size, 1, none⟩ = some (.int .i64 l0) ∧ W9.cell? ⟨w2.heap.size, 2, none⟩ = some (.int .i64 l1) ∧ W9.cell? ⟨w2.heap.size, 3, none⟩ = some (.int .i64 l2) ∧ W9.cell? ⟨w2.heap.size, 4, none⟩ = some (.slice ao2 lm cap2))) ((refine Bx.cells5 ?_) <;> (repeat (first | with_reducible assumption | with_reducible refine Bx.drew ?_ | with_reducible refine Bx.alloc ?_ _ | with_reducible refine Bx.call ?_ (by with_reducible assumption))))
    (first
      | (go_at_call 68; refine (HSY.out _ _ _ _ (S3.out.call (by repeat (first | with_reducible assumption | with_reducible exact Below.refl _ _ | with_reducible refine Below.drew ?_ | with_reducible refine Below.alloc ?_ (by first | omega | (simp <;> omega)) _ | with_reducible refine bstep ?_ (by with_reducible assumption))))).mono ?_; rintro e w4 ⟨v4, rfl, o4, hb4⟩; have c4 : Below w3.heap.size w3 w4 := (bstep (by repeat (first | with_reducible assumption | with_reducible exact Below.refl _ _ | with_reducible refine Below.drew ?_ | with_reducible refine Below.alloc ?_ (by first | omega | (simp <;> omega)) _ | with_reducible refine bstep ?_ (by with_reducible assumption))) hb4); have Q4 : Bx w2.heap.size [.int .i64 f, .int .i64 l0, .int .i64 l1, .int .i64 l2, .slice ao2 lm cap2] w4 := Q3.call c4; have S4 := Lib.hid (SRow.of o4 (cells6_int _) (by have := HLN.out; omega)); have q4l := Q4.lt; obtain ⟨ao4, cap4, rfl⟩ := S4.out.slice; clear o4)
      | (go_at_call 67; refine (facts_any f l0 l1 l2 (S4.out.call (by repeat (first | with_reducible assumption | with_reducible exact Below.refl _ _ | with_reducible refine Below.drew ?_ | with_reducible refine Below.alloc ?_ (by first | omega | (simp <;> omega)) _ | with_reducible refine bstep ?_ (by with_reducible assumption)))) HGG.out.1 (HU.out.call (bstep B3 (bstep c4 (by repeat (first | with_reducible assumption | with_reducible exact Below.refl _ _ | with_reducible refine Below.drew ?_ | with_reducible refine Below.alloc ?_ (by first | omega | (simp <;> omega)) _ | with_reducible refine bstep ?_ (by with_reducible assumption))))))).mono ?_; rintro e w5 ⟨rfl, hb5⟩; rw [HFT.out]; have c5 : Below w4.heap.size w4 w5 := (bstep (by repeat (first | with_reducible assumption | with_reducible exact Below.refl _ _ | with_reducible refine Below.drew ?_ | with_reducible refine Below.alloc ?_ (by first | omega | (simp <;> omega)) _ | with_reducible refine bstep ?_ (by with_reducible assumption))) hb5); have Q5 : Bx w2.heap.size [.int .i64 f, .int .i64 l0, .int .i64 l1, .int .i64 l2, .slice ao2 lm cap2] w5 := Q4.call c5; have q5l := Q5.lt)
      | (go_at_call 25; with_reducible refine (implNof_any tr t1 t2 t3 t4 _).mono ?_; rintro e w6 ⟨rfl, hb6⟩; rw [HQ.out]; have c6 : Below w5.heap.size w5 w6 := (bstep (by repeat (first | with_reducible assumption | with_reducible exact Below.refl _ _ | with_reducible refine Below.drew ?_ | with_reducible refine Below.alloc ?_ (by first | omega | (simp <;> omega)) _ | with_reducible refine bstep ?_ (by with_reducible assumption))) hb6); have Q6 : Bx w2.heap.size [.int .i64 f, .int .i64 l0, .int .i64 l1, .int .i64 l2, .slice ao2 lm cap2] w6 := Q5.call c6; have q6l := Q6.lt))
  all_goals
    have B6 := bstep B3 (bstep c4 (bstep c5 c6))
    clear Q3 Q4 Q5 Q6
    go_wp2
    go_ret2
    exact ⟨ret_val HT.out.symm, B6⟩
set_option maxRecDepth 100000 in
set_option maxHeartbeats 16000000 in
theorem l12Pat_any {lo hi n : Nat} {v : Value} {F : Nat → Int} {w : World} (f A B C : Int) (hv : SRow lo hi 1 v n F w) (k1 : patB f A B C n F = true) :
    Calls Tryz.prog 62 #[.agg #[.int .i64 f, .int .i64 A, .int .i64 B, .int .i64 C, v]] w (fun e w' => e = .returned (.string (npS f A B C F)) ∧ Below w.heap.size w w') := by
  have R9 := Lib.hid hv
  obtain ⟨ao, cap, rfl⟩ := hv.slice
  clear hv
  have P0 : Bx w.heap.size [.int .i64 f, .int .i64 A, .int .i64 B, .int .i64 C, .slice ao n cap] (w.alloc (.cells #[.int .i64 f, .int .i64 A, .int .i64 B, .int .i64 C, .slice ao n cap] 40)) := Bx.at _ rfl
  have B0 : Below w.heap.size w (w.alloc (.cells #[.int .i64 f, .int .i64 A, .int .i64 B, .int .i64 C, .slice ao n cap] 40)) := by repeat (first | with_reducible exact Below.refl _ _ | with_reducible assumption | with_reducible refine Below.setCell ?_ (by first | omega | (dsimp only; omega) | (simp <;> omega)) _ | with_reducible refine Below.alloc ?_ (by first | omega | (simp <;> omega)) _ | with_reducible refine bstep ?_ (by with_reducible assumption) | with_reducible refine Below.drew ?_ | with_reducible refine below_drewN ?_ _)
  obtain ⟨l0, e0⟩ : ∃ z : Int, z = (leaP A B C F : Int) := ⟨_, rfl⟩
  obtain ⟨l1, e1⟩ : ∃ z : Int, z = (fulI A B C F).2.1 := ⟨_, rfl⟩
  obtain ⟨l2, e2⟩ : ∃ z : Int, z = (leaQ A B C F : Int) := ⟨_, rfl⟩
  obtain ⟨lm, em⟩ : ∃ z : Nat, z = leaP A B C F * leaQ A B C F := ⟨_, rfl⟩
  obtain ⟨lG, eG⟩ : ∃ z : Nat → Int, z = (onG A B C F (leaP A B C F) (leaQ A B C F)) := ⟨_, rfl⟩
  obtain ⟨L, eL⟩ : ∃ L, L = symL f (leaP A B C F) (fulI A B C F).2.1 (leaQ A B C F) (onG A B C F (leaP A B C F) (leaQ A B C F)) := ⟨_, rfl⟩
  have HLN := Lib.hid (show L.length ≤ 5184 by rw [eL]; exact Nat.le_trans (np_len k1) (by omega))
  have hgg : grpB f l0 l1 l2 L = true ∧ (shP L).length ≤ 1 := by rw [e0, e1, e2, eL]; exact ⟨np_grp k1, np_one k1⟩
  have HT := Lib.hid (show npS f A B C F = nmB (nmI (trnP L) (mrP f l0 l1 l2 L).1 (mrP f l0 l1 l2 L).2.1 (mrP f l0 l1 l2 L).2.2.1 (mrP f l0 l1 l2 L).2.2.2) by rw [e0, e1, e2, eL]; rfl)
  have HGG := Lib.hid hgg
  have HFR := Lib.hid (np_fr k1)
  clear hgg
  have HLE := Lib.hid (fun (X : World) (hX : Below w.heap.size w X) => (show Calls Tryz.prog 130 #[.agg #[.int .i64 f, .int .i64 A, .int .i64 B, .int .i64 C, .slice ao n cap]] X (fun e w' => ∃ v' : Value, e = .returned (.agg #[.int .i64 f, .int .i64 l0, .int .i64 l1, .int .i64 l2, v']) ∧ SRow X.heap.size w'.heap.size 1 v' lm lG w' ∧ Below X.heap.size X w') from by
    obtain ⟨p, q, rfl, rfl, hp⟩ := patB_of k1
    rw [e0, e1, e2, em, eG]
    exact l09Lean_any hp (fulI_at hp.lat).1 (fulI_at hp.lat).2 (R9.out.call hX)))
  have HSY := Lib.hid (fun (X : World) (v' : Value) (lo' hi' : Nat) (hs : SRow lo' hi' 1 v' lm lG X) => (show Calls Tryz.prog 131 #[.agg #[.int .i64 f, .int .i64 l0, .int .i64 l1, .int .i64 l2, v']] X (fun e w' => ∃ v3 : Value, e = .returned v3 ∧ w'.ownsRow X.heap.size 69 6 v3 L.length (cells6 L) ∧ Below X.heap.size X w') from by
    obtain ⟨p, q, rfl, rfl, hp⟩ := patB_of k1
    have hs' := hs
    rw [em, eG] at hs'
    have h9 := l10Group_any (lean_pat hp) hs'
    rw [e0, e1, e2, eL]
    exact h9))
  clear e0 e1 e2 em eG eL
  go_enter Tryz.func62, Tryz.ntmps62
  go_wp2_with fail
  with_reducible refine (HLE.out _ B0).mono ?_
  rintro e w2 ⟨v2, rfl, r2, hb2⟩
  have B2 := bstep B0 hb2
  clear P0 B0 hb2
  obtain ⟨ao2, cap2, rfl⟩ := r2.slice
  have A2 := B2.alloc B2.size (.cells #[.int .i64 f, .int .i64 l0, .int .i64 l1, .int .i64 l2, .slice ao2 lm cap2] 40)
  have Q2 : Bx w2.heap.size [.int .i64 f, .int .i64 l0, .int .i64 l1, .int .i64 l2, .slice ao2 lm cap2] (w2.alloc (.cells #[.int .i64 f, .int .i64 l0, .int .i64 l1, .int .i64 l2, .slice ao2 lm cap2] 40)) := Bx.at _ rfl
  have S2 := r2.call (ab w2 (.cells #[.int .i64 f, .int .i64 l0, .int .i64 l1, .int .i64 l2, .slice ao2 lm cap2] 40))
  have q2c0 := Q2.c0
  have q2l := Q2.lt
  clear r2
  obtain ⟨w3, hw3⟩ : ∃ z, z = w2.alloc (.cells #[.int .i64 f, .int .i64 l0, .int .i64 l1, .int .i64 l2, .slice ao2 lm cap2] 40) := ⟨_, rfl⟩
  rw [← hw3] at A2 Q2 S2 q2c0 q2l
  have Q3 := Q2
  have B3 := A2
  have S3 := Lib.hid S2
  go_wp2_with fail
  rw [← hw3]
  clear hw3
  have q3c0 := Q3.c0
  have q3c1 := Q3.c1
  have q3c2 := Q3.c2
  have q3c3 := Q3.c3
  have q3c4 := Q3.c4
  have q3l := Q3.lt
  obtain ⟨tr, htr⟩ : ∃ z, z = trnP L := ⟨_, rfl⟩
  obtain ⟨t1, ht1⟩ : ∃ z, z = (mrP f l0 l1 l2 L).1 := ⟨_, rfl⟩
  obtain ⟨t2, ht2⟩ : ∃ z, z = (mrP f l0 l1 l2 L).2.1 := ⟨_, rfl⟩
  obtain ⟨t3, ht3⟩ : ∃ z, z = (mrP f l0 l1 l2 L).2.2.1 := ⟨_, rfl⟩
  obtain ⟨t4, ht4⟩ : ∃ z, z = (mrP f l0 l1 l2 L).2.2.2 := ⟨_, rfl⟩
  have HFT := Lib.hid (show ftV f l0 l1 l2 L = .agg #[.int .i64 tr, .int .i64 t1, .int .i64 t2, .int .i64 t3, .bool t4] by rw [htr, ht1, ht2, ht3, ht4]; rfl)
  have HNE := Lib.hid (show nmI tr t1 t2 t3 t4 ≠ 0 by rw [htr, ht1, ht2, ht3, ht4]; exact named HGG.out.1 HGG.out.2)
  rw [← htr, ← ht1, ← ht2, ← ht3, ← ht4] at HT
  have HQ := Lib.hid (show nmR (nmI tr t1 t2 t3 t4) = .tuple #[.string (nmB (nmI tr t1 t2 t3 t4)), .int .i64 0] by rw [nmR, if_neg HNE.out])
  clear htr ht1 ht2 ht3 ht4
  go_region_held3 (fun W9 => (W9.cell? ⟨w2.heap.size, 0, none⟩ = some (.int .i64 f) ∧ W9.cell? ⟨w2.heap.size, 1, none⟩ = some (.int .i64 l0) ∧ W9.cell? ⟨w2.heap.size, 2, none⟩ = some (.int .i64 l1) ∧ W9.cell? ⟨w2.heap.size, 3, none⟩ = some (.int .i64 l2) ∧ W9.cell? ⟨w2.heap.size, 4, none⟩ = some (.slice ao2 lm cap2))) ((refine Bx.cells5 ?_) <;> (repeat (first | with_reducible assumption | with_reducible refine Bx.drew ?_ | with_reducible refine Bx.alloc ?_ _ | with_reducible refine Bx.call ?_ (by with_reducible assumption))))
    (first
      | (go_at_call 131; refine (HSY.out _ _ _ _ (S3.out.call (by repeat (first | with_reducible assumption | with_reducible exact Below.refl _ _ | with_reducible refine Below.drew ?_ | with_reducible refine Below.alloc ?_ (by first | omega | (simp <;> omega)) _ | with_reducible refine bstep ?_ (by with_reducible assumption))))).mono ?_; rintro e w4 ⟨v4, rfl, o4, hb4⟩; have c4 : Below w3.heap.size w3 w4 := (bstep (by repeat (first | with_reducible assumption | with_reducible exact Below.refl _ _ | with_reducible refine Below.drew ?_ | with_reducible refine Below.alloc ?_ (by first | omega | (simp <;> omega)) _ | with_reducible refine bstep ?_ (by with_reducible assumption))) hb4); have Q4 : Bx w2.heap.size [.int .i64 f, .int .i64 l0, .int .i64 l1, .int .i64 l2, .slice ao2 lm cap2] w4 := Q3.call c4; have S4 := Lib.hid (SRow.of o4 (cells6_int _) (by have := HLN.out; omega)); have q4l := Q4.lt; obtain ⟨ao4, cap4, rfl⟩ := S4.out.slice; clear o4)
      | (go_at_call 77; refine (l11Facts_any f l0 l1 l2 (S4.out.call (by repeat (first | with_reducible assumption | with_reducible exact Below.refl _ _ | with_reducible refine Below.drew ?_ | with_reducible refine Below.alloc ?_ (by first | omega | (simp <;> omega)) _ | with_reducible refine bstep ?_ (by with_reducible assumption)))) HGG.out.1).mono ?_; rintro e w5 ⟨rfl, hb5⟩; rw [HFT.out]; have c5 : Below w4.heap.size w4 w5 := (bstep (by repeat (first | with_reducible assumption | with_reducible exact Below.refl _ _ | with_reducible refine Below.drew ?_ | with_reducible refine Below.alloc ?_ (by first | omega | (simp <;> omega)) _ | with_reducible refine bstep ?_ (by with_reducible assumption))) hb5); have Q5 : Bx w2.heap.size [.int .i64 f, .int .i64 l0, .int .i64 l1, .int .i64 l2, .slice ao2 lm cap2] w5 := Q4.call c5; have q5l := Q5.lt)
      | (go_at_call 57; with_reducible refine (l12Name_any tr t1 t2 t3 t4 _).mono ?_; rintro e w6 ⟨rfl, hb6⟩; have c6 : Below w5.heap.size w5 w6 := (bstep (by repeat (first | with_reducible assumption | with_reducible exact Below.refl _ _ | with_reducible refine Below.drew ?_ | with_reducible refine Below.alloc ?_ (by first | omega | (simp <;> omega)) _ | with_reducible refine bstep ?_ (by with_reducible assumption))) hb6); have Q6 : Bx w2.heap.size [.int .i64 f, .int .i64 l0, .int .i64 l1, .int .i64 l2, .slice ao2 lm cap2] w6 := Q5.call c6; have q6l := Q6.lt))
  all_goals
    have B6 := bstep B3 (bstep c4 (bstep c5 c6))
    clear Q3 Q4 Q5 Q6
    go_wp2
    go_ret
    exact ⟨ret_str HT.out.symm, B6⟩
set_option maxRecDepth 100000 in
set_option maxHeartbeats 16000000 in
theorem specNp_any {lo hi n : Nat} {v : Value} {F : Nat → Int} {w : World} (f A B C : Int) (hv : SRow lo hi 1 v n F w) :
    Calls Tryz.prog 16 #[.agg #[.int .i64 f, .int .i64 A, .int .i64 B, .int .i64 C, v]] w (fun e w' => e = .returned (npT f A B C n F) ∧ Below w.heap.size w w') := by
  have R9 := Lib.hid hv
  obtain ⟨ao, cap, rfl⟩ := hv.slice
  clear hv
  have P0 : Bx w.heap.size [.int .i64 f, .int .i64 A, .int .i64 B, .int .i64 C, .slice ao n cap] (w.alloc (.cells #[.int .i64 f, .int .i64 A, .int .i64 B, .int .i64 C, .slice ao n cap] 40)) := Bx.at _ rfl
  have B0 : Below w.heap.size w (w.alloc (.cells #[.int .i64 f, .int .i64 A, .int .i64 B, .int .i64 C, .slice ao n cap] 40)) := (Below.refl _ _).alloc (Nat.le_refl _) _
  rcases k1 : patB f A B C n F with _ | _
  · have HT := Lib.hid (show npT f A B C n F = .tuple #[.string ⟨#[]⟩, .int .i64 1] by simp [npT, k1])
    go_enter Tryz.func16, Tryz.ntmps16
    go_wp2_with fail
    with_reducible refine (specIsPat_any f A B C (R9.out.call B0)).mono ?_
    rintro e w1 ⟨rfl, hb1⟩
    rw [k1]
    have B1 := bstep B0 hb1
    clear P0 B0 hb1
    go_wp2
    go_ret2
    exact ⟨ret_val HT.out.symm, B1⟩
  · have HT := Lib.hid (show npT f A B C n F = .tuple #[.string (npS f A B C F), .int .i64 0] by exact np_yes k1)
    have HK := Lib.hid k1
    go_enter Tryz.func16, Tryz.ntmps16
    go_wp2_with fail
    with_reducible refine (specIsPat_any f A B C (R9.out.call B0)).mono ?_
    rintro e w1 ⟨rfl, hb1⟩
    rw [k1]
    have P1 := P0.call hb1
    have B1 := bstep B0 hb1
    clear P0 B0 hb1 k1
    have p1c0 := P1.c0
    have p1c1 := P1.c1
    have p1c2 := P1.c2
    have p1c3 := P1.c3
    have p1c4 := P1.c4
    have p1l := P1.lt
    go_wp2_with fail
    with_reducible refine (l12Pat_any f A B C (R9.out.call B1) HK.out).mono ?_
    rintro e w2 ⟨rfl, hb2⟩
    have B2 := bstep B1 hb2
    clear P1 B1 hb2
    generalize npS f A B C F = sn at HT ⊢
    go_wp2
    go_ret2
    exact ⟨ret_val HT.out.symm, B2⟩
set_option maxRecDepth 100000 in
set_option maxHeartbeats 16000000 in
theorem walkNp (f A B C : Int) (v : Value) (n : Nat) (F : Nat → Int) (w : World) (hA : ARw v n F w) (hm : n ≤ 9223372036854775807) (hU : UnitOK w) :
    Calls Tryz.prog 4 #[.agg #[.int .i64 f, .int .i64 A, .int .i64 B, .int .i64 C, v]] w fun e w' => e = .returned (.bool true) ∧ Below w.heap.size w w' := by
  have HA := Lib.hid hA
  obtain ⟨ao, cap, rfl, _⟩ := hA
  have HU := Lib.hid hU
  clear hU
  obtain ⟨t0, t1, hz⟩ := npT_form f A B C n F
  have HZ := Lib.hid hz
  clear hz
  by_cases hbig : n ≤ 1048576
  · have hz : (if (n : Int) ≤ 1048576 then 1048576 - (n : Int) else -1) = 1048576 - (n : Int) := if_pos (by omega)
    have HN := Lib.hid hbig
    have hn1 : ¬ (1048576 - (n : Int) < 0) := by omega
    clear hbig
    go_enter Tryz.func4, Tryz.ntmps4
    go_wp2_with fail
    with_reducible refine (szPat_any f A B C ao n cap 1048576 _ hm (by omega)).mono ?_
    rintro e w1 ⟨rfl, hb1⟩
    rw [hz]
    have K1 : Bx (w.heap.size) [.int .i64 f, .int .i64 A, .int .i64 B, .int .i64 C, .slice ao n cap] w1 := Bx.call ((Bx.at _ rfl)) hb1
    have B1 : Below w.heap.size w w1 := bstep (by repeat (first | with_reducible assumption | with_reducible exact Below.refl _ _ | with_reducible refine Below.drew ?_ | with_reducible refine Below.alloc ?_ (by first | omega | (simp <;> omega)) _ | with_reducible refine Below.setCell ?_ (by first | omega | (dsimp only; omega)) _ | with_reducible refine bstep ?_ (by with_reducible assumption))) hb1
    have A1 := Lib.hid (HA.out.call B1)
    have z1 : w.heap.size + 0 < w1.heap.size := by have := hb1.size; simp at this; omega
    clear hb1
    have K1c0 := K1.c0
    have K1c1 := K1.c1
    have K1c2 := K1.c2
    have K1c3 := K1.c3
    have K1c4 := K1.c4
    have K1l := K1.lt
    go_wp2_with fail
    with_reducible refine (toPat_any f A B C A1.out HN.out).mono ?_
    rintro e w2 ⟨v2, rfl, r2, hb2⟩
    have K2 : Bx (w.heap.size) [.int .i64 f, .int .i64 A, .int .i64 B, .int .i64 C, .slice ao n cap] w2 := Bx.call K1 hb2
    have B2 : Below w.heap.size w w2 := bstep B1 hb2
    have A2 := Lib.hid (HA.out.call B2)
    have z2 : w1.heap.size ≤ w2.heap.size := hb2.size
    clear K1 B1 A1 K1c0 K1c1 K1c2 K1c3 K1c4 K1l hb2
    obtain ⟨ao2, cap2, rfl⟩ := r2.slice
    have q2 := Lib.hid r2
    clear r2
    go_wp2_with fail
    with_reducible refine (specNp_any f A B C q2.out).mono ?_
    rintro e w3 ⟨rfl, hb3⟩
    rw [HZ.out]
    have K3 : Bx (w.heap.size) [.int .i64 f, .int .i64 A, .int .i64 B, .int .i64 C, .slice ao n cap] w3 := Bx.call K2 hb3
    have B3 : Below w.heap.size w w3 := bstep B2 hb3
    have A3 := Lib.hid (HA.out.call B3)
    have z3 : w2.heap.size ≤ w3.heap.size := hb3.size
    have q3 := Lib.hid (SRow.call q2.out hb3)
    clear K2 B2 A2 q2 hb3
    clear q3
    have K3c0 := K3.c0
    have K3c1 := K3.c1
    have K3c2 := K3.c2
    have K3c3 := K3.c3
    have K3c4 := K3.c4
    have K3l := K3.lt
    go_wp2_with fail
    with_reducible refine (toPat_any f A B C A3.out HN.out).mono ?_
    rintro e w4 ⟨v4, rfl, r4, hb4⟩
    have K4 : Bx (w.heap.size) [.int .i64 f, .int .i64 A, .int .i64 B, .int .i64 C, .slice ao n cap] w4 := Bx.call K3 hb4
    have B4 : Below w.heap.size w w4 := bstep B3 hb4
    have A4 := Lib.hid (HA.out.call B4)
    have z4 : w3.heap.size ≤ w4.heap.size := hb4.size
    clear K3 B3 A3 K3c0 K3c1 K3c2 K3c3 K3c4 K3l hb4
    obtain ⟨ao4, cap4, rfl⟩ := r4.slice
    have x4 := Lib.hid r4
    clear r4
    go_wp2_with fail
    have K5 : Bx (w.heap.size) [.int .i64 f, .int .i64 A, .int .i64 B, .int .i64 C, .slice ao n cap] (w4.alloc (.cells #[.int .i64 f, .int .i64 A, .int .i64 B, .int .i64 C, .slice ao4 n cap4] 40)) := Bx.alloc K4 _
    have X5 : Bx (w4.heap.size) [.int .i64 f, .int .i64 A, .int .i64 B, .int .i64 C, .slice ao4 n cap4] (w4.alloc (.cells #[.int .i64 f, .int .i64 A, .int .i64 B, .int .i64 C, .slice ao4 n cap4] 40)) := Bx.at _ rfl
    have B5 : Below w.heap.size w (w4.alloc (.cells #[.int .i64 f, .int .i64 A, .int .i64 B, .int .i64 C, .slice ao4 n cap4] 40)) := bstep B4 (show Below w4.heap.size w4 (w4.alloc (.cells #[.int .i64 f, .int .i64 A, .int .i64 B, .int .i64 C, .slice ao4 n cap4] 40)) from (Below.refl _ _).alloc (Nat.le_refl _) _)
    have z5 : w4.heap.size + 1 ≤ (w4.alloc (.cells #[.int .i64 f, .int .i64 A, .int .i64 B, .int .i64 C, .slice ao4 n cap4] 40)).heap.size := by simp
    have x5 := Lib.hid (SRow.call x4.out (show Below w4.heap.size w4 (w4.alloc (.cells #[.int .i64 f, .int .i64 A, .int .i64 B, .int .i64 C, .slice ao4 n cap4] 40)) from (Below.refl _ _).alloc (Nat.le_refl _) _))
    generalize hW5 : w4.alloc (.cells #[.int .i64 f, .int .i64 A, .int .i64 B, .int .i64 C, .slice ao4 n cap4] 40) = w5 at *
    clear hW5
    have A5 := Lib.hid (HA.out.call B5)
    clear K4 B4 A4 x4
    with_reducible refine (implNp_any f A B C x5.out (HU.out.call B5)).mono ?_
    rintro e w6 ⟨rfl, hb6⟩
    rw [HZ.out]
    have K6 : Bx (w.heap.size) [.int .i64 f, .int .i64 A, .int .i64 B, .int .i64 C, .slice ao n cap] w6 := Bx.call K5 hb6
    have X6 : Bx (w4.heap.size) [.int .i64 f, .int .i64 A, .int .i64 B, .int .i64 C, .slice ao4 n cap4] w6 := Bx.call X5 hb6
    have B6 : Below w.heap.size w w6 := bstep B5 hb6
    have A6 := Lib.hid (HA.out.call B6)
    have z6 : w5.heap.size ≤ w6.heap.size := hb6.size
    have x6 := Lib.hid (SRow.call x5.out hb6)
    clear K5 X5 B5 A5 x5 hb6
    have K6c0 := K6.c0
    have K6c1 := K6.c1
    have K6c2 := K6.c2
    have K6c3 := K6.c3
    have K6c4 := K6.c4
    have K6l := K6.lt
    have X6c0 := X6.c0
    have X6c1 := X6.c1
    have X6c2 := X6.c2
    have X6c3 := X6.c3
    have X6c4 := X6.c4
    have X6l := X6.lt
    go_wp2_with fail
    go_region_held3 (fun W9 => (W9.cell? ⟨w.heap.size, 0, none⟩ = some (.int .i64 f) ∧ W9.cell? ⟨w.heap.size, 1, none⟩ = some (.int .i64 A) ∧ W9.cell? ⟨w.heap.size, 2, none⟩ = some (.int .i64 B) ∧ W9.cell? ⟨w.heap.size, 3, none⟩ = some (.int .i64 C) ∧ W9.cell? ⟨w.heap.size, 4, none⟩ = some (.slice ao n cap)) ∧ (W9.cell? ⟨w4.heap.size, 0, none⟩ = some (.int .i64 f) ∧ W9.cell? ⟨w4.heap.size, 1, none⟩ = some (.int .i64 A) ∧ W9.cell? ⟨w4.heap.size, 2, none⟩ = some (.int .i64 B) ∧ W9.cell? ⟨w4.heap.size, 3, none⟩ = some (.int .i64 C) ∧ W9.cell? ⟨w4.heap.size, 4, none⟩ = some (.slice ao4 n cap4))) ((refine (And.intro (Bx.cells5 ?_) (Bx.cells5 ?_))) <;> (repeat (first | with_reducible assumption | with_reducible refine Bx.drew ?_ | with_reducible refine Bx.alloc ?_ _ | with_reducible refine Bx.call ?_ (by with_reducible assumption))))
      (first
        | (go_at_call 17; with_reducible refine (toPat_any f A B C (A6.out.call (by repeat (first | with_reducible assumption | with_reducible exact Below.refl _ _ | with_reducible refine Below.drew ?_ | with_reducible refine Below.alloc ?_ (by first | omega | (simp <;> omega)) _ | with_reducible refine Below.setCell ?_ (by first | omega | (dsimp only; omega)) _ | with_reducible refine bstep ?_ (by with_reducible assumption)))) HN.out).mono ?_; rintro e u7p ⟨v7p, rfl, r7p, hb7p⟩; obtain ⟨ao7p, cap7p, rfl⟩ := r7p.slice; have c7p : Below w6.heap.size w6 u7p := (by repeat (first | with_reducible assumption | with_reducible exact Below.refl _ _ | with_reducible refine Below.drew ?_ | with_reducible refine Below.alloc ?_ (by first | omega | (simp <;> omega)) _ | with_reducible refine Below.setCell ?_ (by first | omega | (dsimp only; omega)) _ | with_reducible refine bstep ?_ (by with_reducible assumption))))
        | (go_at_call 19; with_reducible refine (eqPat_any f A B C (SRow.call x6.out (by repeat (first | with_reducible assumption | with_reducible exact Below.refl _ _ | with_reducible refine Below.drew ?_ | with_reducible refine Below.alloc ?_ (by first | omega | (simp <;> omega)) _ | with_reducible refine Below.setCell ?_ (by first | omega | (dsimp only; omega)) _ | with_reducible refine bstep ?_ (by with_reducible assumption)))) (SRow.call r7p (by repeat (first | with_reducible assumption | with_reducible exact Below.refl _ _ | with_reducible refine Below.drew ?_ | with_reducible refine Below.alloc ?_ (by first | omega | (simp <;> omega)) _ | with_reducible refine Below.setCell ?_ (by first | omega | (dsimp only; omega)) _ | with_reducible refine bstep ?_ (by with_reducible assumption))))).mono ?_; rintro e u7q ⟨rfl, hb7q⟩; have c7q : Below w6.heap.size w6 u7q := (by repeat (first | with_reducible assumption | with_reducible exact Below.refl _ _ | with_reducible refine Below.drew ?_ | with_reducible refine Below.alloc ?_ (by first | omega | (simp <;> omega)) _ | with_reducible refine Below.setCell ?_ (by first | omega | (dsimp only; omega)) _ | with_reducible refine bstep ?_ (by with_reducible assumption)))))
    all_goals
      obtain ⟨w7, hw7⟩ : ∃ z, z = u7q := ⟨_, rfl⟩
      subst hw7
      have K7 : Bx (w.heap.size) [.int .i64 f, .int .i64 A, .int .i64 B, .int .i64 C, .slice ao n cap] w7 := Bx.call K6 c7q
      have X7 : Bx (w4.heap.size) [.int .i64 f, .int .i64 A, .int .i64 B, .int .i64 C, .slice ao4 n cap4] w7 := Bx.call X6 c7q
      have B7 : Below w.heap.size w w7 := bstep B6 c7q
      have A7 := Lib.hid (HA.out.call B7)
      have z7 : w6.heap.size ≤ w7.heap.size := c7q.size
      have x7 := Lib.hid (SRow.call x6.out c7q)
      clear K6 X6 B6 A6 x6 K6c0 K6c1 K6c2 K6c3 K6c4 K6l X6c0 X6c1 X6c2 X6c3 X6c4 X6l c7q
      go_wp2
      go_ret
      exact ⟨rfl, B7⟩
  · have hz : (if (n : Int) ≤ 1048576 then 1048576 - (n : Int) else -1) = -1 := if_neg (by omega)
    go_enter Tryz.func4, Tryz.ntmps4
    go_wp2_with fail
    refine (szPat_any f A B C ao n cap 1048576 _ hm (by omega)).mono ?_
    rintro e w1 ⟨rfl, hb1⟩
    rw [hz]
    go_wp2
    go_ret
    exact ⟨rfl, bstep (by repeat (first | with_reducible assumption | with_reducible exact Below.refl _ _ | with_reducible refine Below.drew ?_ | with_reducible refine Below.alloc ?_ (by first | omega | (simp <;> omega)) _ | with_reducible refine Below.setCell ?_ (by first | omega | (dsimp only; omega)) _ | with_reducible refine bstep ?_ (by with_reducible assumption))) hb1⟩
end Go.Proofs.YtjjfomokecngoaaGreatDoor
