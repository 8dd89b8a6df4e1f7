/-
  A pattern spread on another lattice: the functions themselves, in the program and in the model. Conditions: a slice that lies in a block of its own; the program's variable unitMatrix holds the unit.
-/
import Derived.Test.YtpejihckepaojaaDoorPtY
import Derived.Test.YtpejihckepaojaaDoorLat5
import Derived.Deep.DeepCutAuto
namespace Go.Proofs.YtpejihckepaojaaDoor
open Go.RowKit
set_option linter.unusedSimpArgs false
set_option linter.unusedVariables false

theorem Spn_in {s : Int × Int × Int} {v : Int × Int} (hv : Spn s v.1 v.2) (x y : Int) : Spn (spStep s v) x y ↔ Spn s x y := by
  refine ⟨fun h9 => ?_, fun h9 => Spn_old v h9⟩
  obtain ⟨n, k, h1, h2⟩ := (Spn_step _ v x y).1 h9
  obtain ⟨j, h3, h4⟩ := hv
  refine ⟨k + n * j, by rw [Int.add_mul]; have : n * v.2 = n * j * s.2.1 := by rw [h3, Int.mul_assoc]
                        omega, ?_⟩
  have e : x - (k + n * j) * s.1 = (x - n * v.1 - k * s.1) + n * (v.1 - j * s.1) := by grind
  rw [e]
  exact Int.dvd_add h2 (Int.dvd_mul_of_dvd_right h4)
theorem Spn_new (s : Int × Int × Int) (v : Int × Int) : Spn (spStep s v) v.1 v.2 := (Spn_step s v _ _).2 ⟨1, by
  have := Spn_zero s
  rwa [Int.one_mul, Int.one_mul, Int.sub_self, Int.sub_self]⟩
theorem join_fold {A B C : Int} (h : latI A B C) (a b c : Int) : spFold (joinL A B C a b c) = spStep (spStep (B, C, A) (a, 0)) (b, c) := by
  have h9 := basL_fold h
  unfold spFold basL at h9
  unfold spFold joinL
  simp only [List.foldl] at *
  rw [h9]
theorem join_full {A B C : Int} (h : latI A B C) (a b c : Int) : latL (joinL A B C a b c) = (A, B, C) ↔ hasB A B C a 0 = true ∧ hasB A B C b c = true := by
  have h0 := okS_start h
  have h1 := okS_step (a, 0) h0
  have h2 := okS_step (b, c) h1
  have e : latL (joinL A B C a b c) = nrmS (spStep (spStep (B, C, A) (a, 0)) (b, c)) := by unfold latL nrmS; rw [join_fold h]
  have e0 : nrmS (B, C, A) = (A, B, C) := nrm_lat h
  have hh : ∀ x y, hasB A B C x y = true ↔ Spn (B, C, A) x y := fun x y => (hasB_iff _ _ _ _ _).trans (Spn_lat h x y).symm
  rw [e]
  constructor
  · intro hq
    have hb := fun x y => has_nrm h2 x y
    rw [hq] at hb
    exact ⟨(hb a 0).2 (Spn_old _ (Spn_new _ (a, 0))), (hb b c).2 (Spn_new _ (b, c))⟩
  · rintro ⟨p1, p2⟩
    rw [← e0]
    exact nrm_same h2 h0 fun x y => (Spn_in (Spn_old _ ((hh b c).1 p2)) x y).trans (Spn_in ((hh a 0).1 p1) x y)
def inF (A B C : Int) (F : Nat → Int) (a b c : Int) : Bool := hasB (fulI A B C F).1 (fulI A B C F).2.1 (fulI A B C F).2.2 a 0 && hasB (fulI A B C F).1 (fulI A B C F).2.1 (fulI A B C F).2.2 b c
def spA (f A B C : Int) (n : Nat) (F : Nat → Int) (a b c : Int) : PR := if patB f A B C n F = true ∧ latB a b c = true then (if inF A B C F a b c = true then (f, a, b, c, a.toNat * c.toNat, onG A B C F a.toNat c.toNat, 0) else noP 5) else noP 1
/- the lattice that the program joins is the full one itself, or one that differs in a number -/
theorem join_yes {A B C : Int} {F : Nat → Int} {a b c : Int} (h : latI A B C) (k : inF A B C F a b c = true) : latL (joinL (fulI A B C F).1 (fulI A B C F).2.1 (fulI A B C F).2.2 a b c) = fulI A B C F := by
  have hl : latI (fulI A B C F).1 (fulI A B C F).2.1 (fulI A B C F).2.2 := fulP_lat h F _
  exact (join_full hl a b c).2 (by simpa [inF, Bool.and_eq_true] using k)
theorem join_no {A B C : Int} {F : Nat → Int} {a b c x y z j0 j1 j2 : Int} (h : latI A B C) (hx : fulI A B C F = (x, y, z)) (hj : latL (joinL x y z a b c) = (j0, j1, j2)) (k : inF A B C F a b c = false) :
    (j0 == x) = false ∨ (x = j0 ∧ (j1 == y) = false) ∨ (x = j0 ∧ y = j1 ∧ (j2 == z) = false) := by
  have hl : latI (fulI A B C F).1 (fulI A B C F).2.1 (fulI A B C F).2.2 := fulP_lat h F _
  have hn := mt (join_full hl a b c).1 (by simpa [inF, Bool.and_eq_false_iff] using k)
  rw [hx] at hn
  dsimp only at hn
  rw [hj] at hn
  by_cases e0 : j0 = x
  · by_cases e1 : j1 = y
    · refine .inr (.inr ⟨e0.symm, e1.symm, ?_⟩)
      have : j2 ≠ z := fun e2 => hn (by rw [e0, e1, e2])
      simpa using this
    · exact   .inr (.inl ⟨e0.symm, by simpa using e1⟩)
  · exact .inl (by simpa using e0)
set_option maxRecDepth 100000 in
set_option maxHeartbeats 16000000 in
theorem implSpr_any {lo hi n : Nat} {v : Value} {F : Nat → Int} {w : World} (f A B C a b c : Int) (hv : SRow lo hi 1 v n F w) (hU : UnitOK w) :
    Calls Tryd.prog 17 #[.agg #[.int .i64 f, .int .i64 A, .int .i64 B, .int .i64 C, v], .agg #[.int .i64 a, .int .i64 b, .int .i64 c]] w (PAns (spA f A B C n F a b c) w) := by
  have R := Lib.hid hv
  have HU := Lib.hid hU
  obtain ⟨ao, cap, rfl⟩ := hv.slice
  clear hv hU
  have P0 : Bx w.heap.size [.int .i64 f, .int .i64 A, .int .i64 B, .int .i64 C, .slice ao n cap] (((w.alloc (.cells #[.int .i64 f, .int .i64 A, .int .i64 B, .int .i64 C, .slice ao n cap] 30)).alloc (.cells #[.int .i64 a, .int .i64 b, .int .i64 c] 28)).alloc (.cells #[.int .i64 0, .int .i64 0, .int .i64 0, .int .i64 0, .slice none 0 0] 30)) := ((Bx.at _ rfl).alloc _).alloc _
  have L0 : Bx (w.heap.size + 1) [.int .i64 a, .int .i64 b, .int .i64 c] (((w.alloc (.cells #[.int .i64 f, .int .i64 A, .int .i64 B, .int .i64 C, .slice ao n cap] 30)).alloc (.cells #[.int .i64 a, .int .i64 b, .int .i64 c] 28)).alloc (.cells #[.int .i64 0, .int .i64 0, .int .i64 0, .int .i64 0, .slice none 0 0] 30)) := (Bx.at _ (by simp)).alloc _
  have R0 : BX (w.heap.size + 1 + 1) [.int .i64 0, .int .i64 0, .int .i64 0, .int .i64 0, .slice none 0 0] (((w.alloc (.cells #[.int .i64 f, .int .i64 A, .int .i64 B, .int .i64 C, .slice ao n cap] 30)).alloc (.cells #[.int .i64 a, .int .i64 b, .int .i64 c] 28)).alloc (.cells #[.int .i64 0, .int .i64 0, .int .i64 0, .int .i64 0, .slice none 0 0] 30)) := BX.at _ (by simp)
  have B0 : Below w.heap.size w (((w.alloc (.cells #[.int .i64 f, .int .i64 A, .int .i64 B, .int .i64 C, .slice ao n cap] 30)).alloc (.cells #[.int .i64 a, .int .i64 b, .int .i64 c] 28)).alloc (.cells #[.int .i64 0, .int .i64 0, .int .i64 0, .int .i64 0, .slice none 0 0] 30)) := by repeat (first | with_reducible exact Below.refl _ _ | with_reducible assumption | with_reducible refine Below.setCell ?_ (by first | omega | (dsimp only; omega) | (simp <;> omega)) _ | with_reducible refine Below.alloc ?_ (by first | omega | (simp <;> omega)) _ | with_reducible refine bstep ?_ (by with_reducible assumption) | with_reducible refine Below.drew ?_ | with_reducible refine below_drewN ?_ _)
  rcases k1 : patB f A B C n F with _ | _
  · have EA := Lib.hid (show spA f A B C n F a b c = (0, 0, 0, 0, 0, fun _ => 0, 1) by simp [spA, noP, *])
    go_enter Tryd.func17, Tryd.ntmps17
    go_wp2_with fail
    with_reducible refine (patValid_any f A B C (R.out.call B0)).mono ?_
    rintro e w1 ⟨rfl, hb1⟩
    rw [k1]
    have P1 := P0.call hb1
    have L1 := L0.call hb1
    have R1 := R0.call hb1
    have B1 := bstep B0 hb1
    clear P0 L0 R0 B0 hb1
    have p1c0 := P1.c0
    have p1c1 := P1.c1
    have p1c2 := P1.c2
    have p1c3 := P1.c3
    have p1c4 := P1.c4
    have p1l := P1.lt
    have l1c0 := L1.c0
    have l1c1 := L1.c1
    have l1c2 := L1.c2
    have l1l := L1.lt
    have r1c0 := R1.c0
    have r1c1 := R1.c1
    have r1c2 := R1.c2
    have r1c3 := R1.c3
    have r1c4 := R1.c4
    have r1f0 := R1.f0
    have r1f1 := R1.f1
    have r1f2 := R1.f2
    have r1f3 := R1.f3
    have r1f4 := R1.f4
    have r1l := R1.lt
    go_wp2
    refine bodyPost_ret (v := .tuple #[(.agg #[.int .i64 0, .int .i64 0, .int .i64 0, .int .i64 0, .slice none 0 0]), .int .i64 1]) (by simp [results, Tryd.results17, go_sem, *]) rfl ⟨_, _, _, _, _, _, _, _, EA.out, rfl, ?_, ?_⟩
    · exact SRow.nil _ 1 _ _
    · repeat (first | with_reducible exact Below.refl _ _ | with_reducible assumption | with_reducible refine Below.setCell ?_ (by first | omega | (dsimp only; omega) | (simp <;> omega)) _ | with_reducible refine Below.alloc ?_ (by first | omega | (simp <;> omega)) _ | with_reducible refine bstep ?_ (by with_reducible assumption) | with_reducible refine Below.drew ?_ | with_reducible refine below_drewN ?_ _)
  rcases k2 : latB a b c with _ | _
  · have EA := Lib.hid (show spA f A B C n F a b c = (0, 0, 0, 0, 0, fun _ => 0, 1) by simp [spA, noP, *])
    go_enter Tryd.func17, Tryd.ntmps17
    go_wp2_with fail
    with_reducible refine (patValid_any f A B C (R.out.call B0)).mono ?_
    rintro e w1 ⟨rfl, hb1⟩
    rw [k1]
    have P1 := P0.call hb1
    have L1 := L0.call hb1
    have R1 := R0.call hb1
    have B1 := bstep B0 hb1
    clear P0 L0 R0 B0 hb1
    have p1c0 := P1.c0
    have p1c1 := P1.c1
    have p1c2 := P1.c2
    have p1c3 := P1.c3
    have p1c4 := P1.c4
    have p1l := P1.lt
    have l1c0 := L1.c0
    have l1c1 := L1.c1
    have l1c2 := L1.c2
    have l1l := L1.lt
    go_wp2_with fail
    with_reducible refine (isValidL_any a b c _).mono ?_
    rintro e w2 ⟨rfl, hb2⟩
    rw [k2]
    have P2 := P1.call hb2
    have L2 := L1.call hb2
    have R2 := R1.call hb2
    have B2 := bstep B1 hb2
    clear P1 L1 R1 B1 hb2 p1c0 p1c1 p1c2 p1c3 p1c4 l1c0 l1c1 l1c2 p1l l1l
    have p2c0 := P2.c0
    have p2c1 := P2.c1
    have p2c2 := P2.c2
    have p2c3 := P2.c3
    have p2c4 := P2.c4
    have p2l := P2.lt
    have l2c0 := L2.c0
    have l2c1 := L2.c1
    have l2c2 := L2.c2
    have l2l := L2.lt
    have r2c0 := R2.c0
    have r2c1 := R2.c1
    have r2c2 := R2.c2
    have r2c3 := R2.c3
    have r2c4 := R2.c4
    have r2f0 := R2.f0
    have r2f1 := R2.f1
    have r2f2 := R2.f2
    have r2f3 := R2.f3
    have r2f4 := R2.f4
    have r2l := R2.lt
    go_wp2
    refine bodyPost_ret (v := .tuple #[(.agg #[.int .i64 0, .int .i64 0, .int .i64 0, .int .i64 0, .slice none 0 0]), .int .i64 1]) (by simp [results, Tryd.results17, go_sem, *]) rfl ⟨_, _, _, _, _, _, _, _, EA.out, rfl, ?_, ?_⟩
    · exact SRow.nil _ 1 _ _
    · repeat (first | with_reducible exact Below.refl _ _ | with_reducible assumption | with_reducible refine Below.setCell ?_ (by first | omega | (dsimp only; omega) | (simp <;> omega)) _ | with_reducible refine Below.alloc ?_ (by first | omega | (simp <;> omega)) _ | with_reducible refine bstep ?_ (by with_reducible assumption) | with_reducible refine Below.drew ?_ | with_reducible refine below_drewN ?_ _)
  obtain ⟨x0, y0, z0, hx⟩ : ∃ x y z, fulI A B C F = (x, y, z) := ⟨_, _, _, rfl⟩
  have HFL := Lib.hid (fun (X : World) (hX : Below w.heap.size w X) => (show Calls Tryd.prog 40 #[.agg #[.int .i64 f, .int .i64 A, .int .i64 B, .int .i64 C, .slice ao n cap]] X (fun e w' => e = .returned (.agg #[.int .i64 x0, .int .i64 y0, .int .i64 z0]) ∧ Below X.heap.size X w') from by
    obtain ⟨p, q, e1, e2, hp⟩ := patB_of k1
    rw [e1, e2] at hx ⊢
    have h9 := fullLat_any hp (R.out.call hX)
    rw [hx] at h9
    exact h9))
  have HLA := Lib.hid (show latI x0 y0 z0 from by
    obtain ⟨p, q, e1, e2, hp⟩ := patB_of k1
    rw [e1, e2] at hx
    have hl : latI (fulI (p : Int) B (q : Int) F).1 (fulI (p : Int) B (q : Int) F).2.1 (fulI (p : Int) B (q : Int) F).2.2 := fulP_lat hp.lat F _
    rw [hx] at hl
    exact hl)
  rcases k3 : inF A B C F a b c with _ | _
  · have EA := Lib.hid (show spA f A B C n F a b c = (0, 0, 0, 0, 0, fun _ => 0, 5) by simp [spA, noP, *])
    obtain ⟨j0, j1, j2, hj⟩ : ∃ x y z, latL (joinL x0 y0 z0 a b c) = (x, y, z) := ⟨_, _, _, rfl⟩
    have HJ := Lib.hid (fun (X : World) => (show Calls Tryd.prog 41 #[.agg #[.int .i64 x0, .int .i64 y0, .int .i64 z0], .agg #[.int .i64 a, .int .i64 b, .int .i64 c]] X (fun e w' => e = .returned (.agg #[.int .i64 j0, .int .i64 j1, .int .i64 j2]) ∧ Below X.heap.size X w') from by
      have h9 := join_call x0 y0 z0 a b c X HLA.out (latB_iff.1 k2)
      rw [hj] at h9
      exact h9))
    have hne := join_no (by obtain ⟨p, q, e1, e2, hp⟩ := patB_of k1; rw [e1, e2]; exact hp.lat) hx hj k3
    clear hx hj k3
    rcases hne with hne | ⟨rfl, hne⟩ | ⟨rfl, rfl, hne⟩
    all_goals
      go_enter Tryd.func17, Tryd.ntmps17
      go_wp2_with fail
      with_reducible refine (patValid_any f A B C (R.out.call B0)).mono ?_
      rintro e w1 ⟨rfl, hb1⟩
      rw [k1]
      have P1 := P0.call hb1
      have L1 := L0.call hb1
      have R1 := R0.call hb1
      have B1 := bstep B0 hb1
      clear P0 L0 R0 B0 hb1
      have p1c0 := P1.c0
      have p1c1 := P1.c1
      have p1c2 := P1.c2
      have p1c3 := P1.c3
      have p1c4 := P1.c4
      have p1l := P1.lt
      have l1c0 := L1.c0
      have l1c1 := L1.c1
      have l1c2 := L1.c2
      have l1l := L1.lt
      go_wp2_with fail
      with_reducible refine (isValidL_any a b c _).mono ?_
      rintro e w2 ⟨rfl, hb2⟩
      rw [k2]
      have P2 := P1.call hb2
      have L2 := L1.call hb2
      have R2 := R1.call hb2
      have B2 := bstep B1 hb2
      clear P1 L1 R1 B1 hb2 p1c0 p1c1 p1c2 p1c3 p1c4 l1c0 l1c1 l1c2 p1l l1l
      have p2c0 := P2.c0
      have p2c1 := P2.c1
      have p2c2 := P2.c2
      have p2c3 := P2.c3
      have p2c4 := P2.c4
      have p2l := P2.lt
      have l2c0 := L2.c0
      have l2c1 := L2.c1
      have l2c2 := L2.c2
      have l2l := L2.lt
      go_wp2_with fail
      with_reducible refine (HFL.out _ B2).mono ?_
      rintro e w3 ⟨rfl, hb3⟩
      have P3 := P2.call hb3
      have L3 := L2.call hb3
      have R3 := R2.call hb3
      have B3 := bstep B2 hb3
      clear P2 L2 R2 B2 hb3 p2c0 p2c1 p2c2 p2c3 p2c4 l2c0 l2c1 l2c2 p2l l2l
      have p3c0 := P3.c0
      have p3c1 := P3.c1
      have p3c2 := P3.c2
      have p3c3 := P3.c3
      have p3c4 := P3.c4
      have p3l := P3.lt
      have l3c0 := L3.c0
      have l3c1 := L3.c1
      have l3c2 := L3.c2
      have l3l := L3.lt
      have D4 : Bx w3.heap.size [.int .i64 x0, .int .i64 y0, .int .i64 z0] (w3.alloc (.cells #[.int .i64 x0, .int .i64 y0, .int .i64 z0] 28)) := Bx.at _ rfl
      have P4 := P3.alloc (.cells #[.int .i64 x0, .int .i64 y0, .int .i64 z0] 28)
      have L4 := L3.alloc (.cells #[.int .i64 x0, .int .i64 y0, .int .i64 z0] 28)
      have R4 := R3.alloc (.cells #[.int .i64 x0, .int .i64 y0, .int .i64 z0] 28)
      have B4 : Below w.heap.size w (w3.alloc (.cells #[.int .i64 x0, .int .i64 y0, .int .i64 z0] 28)) := B3.alloc (by have := B3.size; omega) _
      go_wp2_with fail
      generalize hW4 : (w3.alloc (.cells #[.int .i64 x0, .int .i64 y0, .int .i64 z0] 28)) = w4 at *
      clear hW4 P3 L3 R3 B3 p3c0 p3c1 p3c2 p3c3 p3c4 p3l l3c0 l3c1 l3c2 l3l
      have p4c0 := P4.c0
      have p4c1 := P4.c1
      have p4c2 := P4.c2
      have p4c3 := P4.c3
      have p4c4 := P4.c4
      have p4l := P4.lt
      have l4c0 := L4.c0
      have l4c1 := L4.c1
      have l4c2 := L4.c2
      have l4l := L4.lt
      have d4c0 := D4.c0
      have d4c1 := D4.c1
      have d4c2 := D4.c2
      have d4l := D4.lt
      go_region_held3 (fun W9 => (W9.cell? ⟨w3.heap.size, 0, none⟩ = some (.int .i64 x0) ∧ W9.cell? ⟨w3.heap.size, 1, none⟩ = some (.int .i64 y0) ∧ W9.cell? ⟨w3.heap.size, 2, none⟩ = some (.int .i64 z0)) ∧ (W9.cell? ⟨(w.heap.size + 1), 0, none⟩ = some (.int .i64 a) ∧ W9.cell? ⟨(w.heap.size + 1), 1, none⟩ = some (.int .i64 b) ∧ W9.cell? ⟨(w.heap.size + 1), 2, none⟩ = some (.int .i64 c))) ((refine And.intro (Bx.cells3 ?_) (Bx.cells3 ?_)) <;> repeat (first | with_reducible assumption | with_reducible refine Bx.drew ?_ | with_reducible refine Bx.alloc ?_ _ | with_reducible refine Bx.call ?_ (by with_reducible assumption) | with_reducible refine BX.drew ?_ | with_reducible refine BX.alloc ?_ _ | with_reducible refine BX.call ?_ (by with_reducible assumption) | with_reducible refine Bx.far (by first | omega | (dsimp only; omega)) ?_))
        (first
          | (go_at_call 41; with_reducible refine (HJ.out _).mono ?_; rintro e w5 ⟨rfl, hb5⟩; have C5 : Below w4.heap.size w4 w5 := (by repeat (first | with_reducible assumption | with_reducible exact Below.refl _ _ | with_reducible refine Below.drew ?_ | with_reducible refine Below.alloc ?_ (by first | omega | (simp <;> omega)) _ | with_reducible refine Below.setCell ?_ (by first | omega | (dsimp only; omega)) _ | with_reducible refine bstep ?_ (by with_reducible assumption)))))
      all_goals
        have P5 := P4.call C5
        have L5 := L4.call C5
        have R5 := R4.call C5
        have B5 := bstep B4 C5
        clear P4 L4 R4 B4 hb5 D4 p4c0 p4c1 p4c2 p4c3 p4c4 p4l l4c0 l4c1 l4c2 l4l d4c0 d4c1 d4c2 d4l
        have p5c0 := P5.c0
        have p5c1 := P5.c1
        have p5c2 := P5.c2
        have p5c3 := P5.c3
        have p5c4 := P5.c4
        have p5l := P5.lt
        have l5c0 := L5.c0
        have l5c1 := L5.c1
        have l5c2 := L5.c2
        have l5l := L5.lt
        have r5c0 := R5.c0
        have r5c1 := R5.c1
        have r5c2 := R5.c2
        have r5c3 := R5.c3
        have r5c4 := R5.c4
        have r5f0 := R5.f0
        have r5f1 := R5.f1
        have r5f2 := R5.f2
        have r5f3 := R5.f3
        have r5f4 := R5.f4
        have r5l := R5.lt
        go_wp2
        refine bodyPost_ret (v := .tuple #[(.agg #[.int .i64 0, .int .i64 0, .int .i64 0, .int .i64 0, .slice none 0 0]), .int .i64 5]) (by simp [results, Tryd.results17, go_sem, *]) rfl ⟨_, _, _, _, _, _, _, _, EA.out, rfl, ?_, ?_⟩
        · exact SRow.nil _ 1 _ _
        · repeat (first | with_reducible exact Below.refl _ _ | with_reducible assumption | with_reducible refine Below.setCell ?_ (by first | omega | (dsimp only; omega) | (simp <;> omega)) _ | with_reducible refine Below.alloc ?_ (by first | omega | (simp <;> omega)) _ | with_reducible refine bstep ?_ (by with_reducible assumption) | with_reducible refine Below.drew ?_ | with_reducible refine below_drewN ?_ _)
  · have EA := Lib.hid (show spA f A B C n F a b c = (f, a, b, c, a.toNat * c.toNat, onG A B C F a.toNat c.toNat, 0) by simp [spA, *])
    have HSP := Lib.hid (fun (X : World) (hX : Below w.heap.size w X) => (show Calls Tryd.prog 42 #[.agg #[.int .i64 f, .int .i64 A, .int .i64 B, .int .i64 C, .slice ao n cap], .agg #[.int .i64 a, .int .i64 b, .int .i64 c]] X (fun e w' => ∃ v' : Value, e = .returned (.agg #[.int .i64 f, .int .i64 a, .int .i64 b, .int .i64 c, v']) ∧ SRow X.heap.size w'.heap.size 1 v' (a.toNat * c.toNat) (onG A B C F a.toNat c.toNat) w' ∧ Below X.heap.size X w') from by
      obtain ⟨p, q, rfl, rfl, hp⟩ := patB_of k1
      have hl := latB_iff.1 k2
      obtain ⟨p', rfl⟩ : ∃ p' : Nat, a = (p' : Int) := ⟨a.toNat, by have := hl.1; omega⟩
      obtain ⟨q', rfl⟩ : ∃ q' : Nat, c = (q' : Int) := ⟨c.toNat, by have := hl.2.1; omega⟩
      have h9 := spread_any hp hl (R.out.call hX) (HU.out.call hX)
      exact h9))
    have hj : latL (joinL x0 y0 z0 a b c) = (x0, y0, z0) := by
      have h9 := join_yes (by obtain ⟨p, q, e1, e2, hp⟩ := patB_of k1; rw [e1, e2]; exact hp.lat) k3
      rw [hx] at h9
      exact h9
    have HJ := Lib.hid (fun (X : World) => (show Calls Tryd.prog 41 #[.agg #[.int .i64 x0, .int .i64 y0, .int .i64 z0], .agg #[.int .i64 a, .int .i64 b, .int .i64 c]] X (fun e w' => e = .returned (.agg #[.int .i64 x0, .int .i64 y0, .int .i64 z0]) ∧ Below X.heap.size X w') from by
      have h9 := join_call x0 y0 z0 a b c X HLA.out (latB_iff.1 k2)
      rw [hj] at h9
      exact h9))
    clear hx hj k3
    go_enter Tryd.func17, Tryd.ntmps17
    go_wp2_with fail
    with_reducible refine (patValid_any f A B C (R.out.call B0)).mono ?_
    rintro e w1 ⟨rfl, hb1⟩
    rw [k1]
    have P1 := P0.call hb1
    have L1 := L0.call hb1
    have R1 := R0.call hb1
    have B1 := bstep B0 hb1
    clear P0 L0 R0 B0 hb1
    have p1c0 := P1.c0
    have p1c1 := P1.c1
    have p1c2 := P1.c2
    have p1c3 := P1.c3
    have p1c4 := P1.c4
    have p1l := P1.lt
    have l1c0 := L1.c0
    have l1c1 := L1.c1
    have l1c2 := L1.c2
    have l1l := L1.lt
    go_wp2_with fail
    with_reducible refine (isValidL_any a b c _).mono ?_
    rintro e w2 ⟨rfl, hb2⟩
    rw [k2]
    have P2 := P1.call hb2
    have L2 := L1.call hb2
    have R2 := R1.call hb2
    have B2 := bstep B1 hb2
    clear P1 L1 R1 B1 hb2 p1c0 p1c1 p1c2 p1c3 p1c4 l1c0 l1c1 l1c2 p1l l1l
    have p2c0 := P2.c0
    have p2c1 := P2.c1
    have p2c2 := P2.c2
    have p2c3 := P2.c3
    have p2c4 := P2.c4
    have p2l := P2.lt
    have l2c0 := L2.c0
    have l2c1 := L2.c1
    have l2c2 := L2.c2
    have l2l := L2.lt
    go_wp2_with fail
    with_reducible refine (HFL.out _ B2).mono ?_
    rintro e w3 ⟨rfl, hb3⟩
    have P3 := P2.call hb3
    have L3 := L2.call hb3
    have R3 := R2.call hb3
    have B3 := bstep B2 hb3
    clear P2 L2 R2 B2 hb3 p2c0 p2c1 p2c2 p2c3 p2c4 l2c0 l2c1 l2c2 p2l l2l
    have p3c0 := P3.c0
    have p3c1 := P3.c1
    have p3c2 := P3.c2
    have p3c3 := P3.c3
    have p3c4 := P3.c4
    have p3l := P3.lt
    have l3c0 := L3.c0
    have l3c1 := L3.c1
    have l3c2 := L3.c2
    have l3l := L3.lt
    have D4 : Bx w3.heap.size [.int .i64 x0, .int .i64 y0, .int .i64 z0] (w3.alloc (.cells #[.int .i64 x0, .int .i64 y0, .int .i64 z0] 28)) := Bx.at _ rfl
    have P4 := P3.alloc (.cells #[.int .i64 x0, .int .i64 y0, .int .i64 z0] 28)
    have L4 := L3.alloc (.cells #[.int .i64 x0, .int .i64 y0, .int .i64 z0] 28)
    have R4 := R3.alloc (.cells #[.int .i64 x0, .int .i64 y0, .int .i64 z0] 28)
    have B4 : Below w.heap.size w (w3.alloc (.cells #[.int .i64 x0, .int .i64 y0, .int .i64 z0] 28)) := B3.alloc (by have := B3.size; omega) _
    go_wp2_with fail
    generalize hW4 : (w3.alloc (.cells #[.int .i64 x0, .int .i64 y0, .int .i64 z0] 28)) = w4 at *
    clear hW4 P3 L3 R3 B3 p3c0 p3c1 p3c2 p3c3 p3c4 p3l l3c0 l3c1 l3c2 l3l
    have p4c0 := P4.c0
    have p4c1 := P4.c1
    have p4c2 := P4.c2
    have p4c3 := P4.c3
    have p4c4 := P4.c4
    have p4l := P4.lt
    have l4c0 := L4.c0
    have l4c1 := L4.c1
    have l4c2 := L4.c2
    have l4l := L4.lt
    have d4c0 := D4.c0
    have d4c1 := D4.c1
    have d4c2 := D4.c2
    have d4l := D4.lt
    go_region_held3 (fun W9 => (W9.cell? ⟨w3.heap.size, 0, none⟩ = some (.int .i64 x0) ∧ W9.cell? ⟨w3.heap.size, 1, none⟩ = some (.int .i64 y0) ∧ W9.cell? ⟨w3.heap.size, 2, none⟩ = some (.int .i64 z0)) ∧ (W9.cell? ⟨(w.heap.size + 1), 0, none⟩ = some (.int .i64 a) ∧ W9.cell? ⟨(w.heap.size + 1), 1, none⟩ = some (.int .i64 b) ∧ W9.cell? ⟨(w.heap.size + 1), 2, none⟩ = some (.int .i64 c))) ((refine And.intro (Bx.cells3 ?_) (Bx.cells3 ?_)) <;> repeat (first | with_reducible assumption | with_reducible refine Bx.drew ?_ | with_reducible refine Bx.alloc ?_ _ | with_reducible refine Bx.call ?_ (by with_reducible assumption) | with_reducible refine BX.drew ?_ | with_reducible refine BX.alloc ?_ _ | with_reducible refine BX.call ?_ (by with_reducible assumption) | with_reducible refine Bx.far (by first | omega | (dsimp only; omega)) ?_))
      (first
        | (go_at_call 41; with_reducible refine (HJ.out _).mono ?_; rintro e w5 ⟨rfl, hb5⟩; have C5 : Below w4.heap.size w4 w5 := (by repeat (first | with_reducible assumption | with_reducible exact Below.refl _ _ | with_reducible refine Below.drew ?_ | with_reducible refine Below.alloc ?_ (by first | omega | (simp <;> omega)) _ | with_reducible refine Below.setCell ?_ (by first | omega | (dsimp only; omega)) _ | with_reducible refine bstep ?_ (by with_reducible assumption)))))
    all_goals
      have P5 := P4.call C5
      have L5 := L4.call C5
      have R5 := R4.call C5
      have B5 := bstep B4 C5
      clear P4 L4 R4 B4 hb5 D4 p4c0 p4c1 p4c2 p4c3 p4c4 p4l l4c0 l4c1 l4c2 l4l d4c0 d4c1 d4c2 d4l
      have p5c0 := P5.c0
      have p5c1 := P5.c1
      have p5c2 := P5.c2
      have p5c3 := P5.c3
      have p5c4 := P5.c4
      have p5l := P5.lt
      have l5c0 := L5.c0
      have l5c1 := L5.c1
      have l5c2 := L5.c2
      have l5l := L5.lt
      go_wp2_with fail
      with_reducible refine (HSP.out _ B5).mono ?_
      rintro e w6 ⟨v6, rfl, r6, hb6⟩
      have R6 := R5.call hb6
      have B6 := bstep B5 hb6
      have b5l := R5.lt
      have HR := Lib.hid (r6.low (lo' := w.heap.size + 3) (by omega))
      obtain ⟨ao6, cap6, rfl⟩ := r6.slice
      have HB := Lib.hid B6
      clear R5 B5 hb6 P5 L5 p5c0 p5c1 p5c2 p5c3 p5c4 p5l l5c0 l5c1 l5c2 l5l r6 B6
      have r6c0 := R6.c0
      have r6c1 := R6.c1
      have r6c2 := R6.c2
      have r6c3 := R6.c3
      have r6c4 := R6.c4
      have r6f0 := R6.f0
      have r6f1 := R6.f1
      have r6f2 := R6.f2
      have r6f3 := R6.f3
      have r6f4 := R6.f4
      have r6l := R6.lt
      go_wp2
      refine bodyPost_ret (v := .tuple #[(.agg #[.int .i64 f, .int .i64 a, .int .i64 b, .int .i64 c, .slice ao6 (a.toNat * c.toNat) cap6]), .int .i64 0]) (by simp [results, Tryd.results17, go_sem, *]) rfl ⟨_, _, _, _, _, _, _, _, EA.out, rfl, ?_, ?_⟩
      · refine SRow.up (hi := w6.heap.size) (SRow.low (lo := w.heap.size + 3) ?_ (by omega))
        repeat (first | with_reducible exact HR.out | with_reducible refine SRow.put (by first | omega | (dsimp only; omega)) _ ?_)
      · have hB := HB.out
        repeat (first | with_reducible exact Below.refl _ _ | with_reducible assumption | with_reducible refine Below.setCell ?_ (by first | omega | (dsimp only; omega) | (simp <;> omega)) _ | with_reducible refine Below.alloc ?_ (by first | omega | (simp <;> omega)) _ | with_reducible refine bstep ?_ (by with_reducible assumption) | with_reducible refine Below.drew ?_ | with_reducible refine below_drewN ?_ _)
theorem bx_of_own {W : World} {base : Nat} {T : TypeId} {v : Value} {a b c : Int} (h : W.ownsRow base T 2 v 2 (cells2 (basL a b c))) : ∃ g cap, v = .slice (some ⟨g, 0, none⟩) 2 cap ∧ base ≤ g ∧ Bx g [.int .i64 a, .int .i64 0, .int .i64 b, .int .i64 c] W := by
  rcases h.2 with ⟨_, h2, _⟩ | ⟨g, cap, cur, rfl, _⟩
  have hl := h.lt g rfl
  exact ⟨g, cap, rfl, hl.1, hl.2, fun i u e => by
    have hi : i < 4 := by
      rcases Nat.lt_or_ge i 4 with h9 | h9
      · exact h9
      · rw [List.getElem?_eq_none (by simpa using h9)] at e; cases e
    exact (h.cellAt i (by omega)).trans e⟩
theorem Bx.cells4U {g : Nat} {u0 u1 u2 u3 : Value} {W : World} (h : Bx g [u0, u1, u2, u3] W) : W.cell? ⟨g, 0, none⟩ = some u0 ∧ W.cell? ⟨g, 1, none⟩ = some u1 ∧ W.cell? ⟨g, 2, none⟩ = some u2 ∧ W.cell? ⟨g, 3, none⟩ = some u3 := ⟨h.c0, h.c1, h.c2, h.c3⟩
theorem Bx.st3 {g : Nat} {x y z : Value} {W : World} (h : BX g [.int .i64 0, .int .i64 0, .int .i64 0] W) : Bx g [x, y, z] (((W.setCell ⟨g, 0, none⟩ x).setCell ⟨g, 1, none⟩ y).setCell ⟨g, 2, none⟩ z) := (((h.store 0 (by simp) x).store 1 (by simp) y).store 2 (by simp) z).bx
/- the full lattice in a new block, and the other lattice's basis -/
def MidSp (W : World) (x0 y0 z0 a b c : Int) (s6 s7 : Value) (wx : World) : Prop :=
  ∃ bx g cap : Nat, s6 = .pointer (some ⟨bx, 0, none⟩) ∧ s7 = .slice (some ⟨g, 0, none⟩) 2 cap ∧ Bx bx [.int .i64 x0, .int .i64 y0, .int .i64 z0] wx ∧ Bx g [.int .i64 a, .int .i64 0, .int .i64 b, .int .i64 c] wx ∧ Below W.heap.size W wx
set_option maxRecDepth 100000 in
set_option maxHeartbeats 16000000 in
theorem specSpr_any {lo hi n : Nat} {v : Value} {F : Nat → Int} {w : World} (f A B C a b c : Int) (hv : SRow lo hi 1 v n F w) :
    Calls Tryd.prog 15 #[.agg #[.int .i64 f, .int .i64 A, .int .i64 B, .int .i64 C, v], .agg #[.int .i64 a, .int .i64 b, .int .i64 c]] w (PAns (spA f A B C n F a b c) w) := by
  have R := Lib.hid hv
  obtain ⟨ao, cap, rfl⟩ := hv.slice
  clear hv
  have P0 : Bx w.heap.size [.int .i64 f, .int .i64 A, .int .i64 B, .int .i64 C, .slice ao n cap] (((w.alloc (.cells #[.int .i64 f, .int .i64 A, .int .i64 B, .int .i64 C, .slice ao n cap] 30)).alloc (.cells #[.int .i64 a, .int .i64 b, .int .i64 c] 28)).alloc (.cells #[.int .i64 0, .int .i64 0, .int .i64 0, .int .i64 0, .slice none 0 0] 30)) := ((Bx.at _ rfl).alloc _).alloc _
  have L0 : Bx (w.heap.size + 1) [.int .i64 a, .int .i64 b, .int .i64 c] (((w.alloc (.cells #[.int .i64 f, .int .i64 A, .int .i64 B, .int .i64 C, .slice ao n cap] 30)).alloc (.cells #[.int .i64 a, .int .i64 b, .int .i64 c] 28)).alloc (.cells #[.int .i64 0, .int .i64 0, .int .i64 0, .int .i64 0, .slice none 0 0] 30)) := (Bx.at _ (by simp)).alloc _
  have R0 : BX (w.heap.size + 1 + 1) [.int .i64 0, .int .i64 0, .int .i64 0, .int .i64 0, .slice none 0 0] (((w.alloc (.cells #[.int .i64 f, .int .i64 A, .int .i64 B, .int .i64 C, .slice ao n cap] 30)).alloc (.cells #[.int .i64 a, .int .i64 b, .int .i64 c] 28)).alloc (.cells #[.int .i64 0, .int .i64 0, .int .i64 0, .int .i64 0, .slice none 0 0] 30)) := BX.at _ (by simp)
  have B0 : Below w.heap.size w (((w.alloc (.cells #[.int .i64 f, .int .i64 A, .int .i64 B, .int .i64 C, .slice ao n cap] 30)).alloc (.cells #[.int .i64 a, .int .i64 b, .int .i64 c] 28)).alloc (.cells #[.int .i64 0, .int .i64 0, .int .i64 0, .int .i64 0, .slice none 0 0] 30)) := by repeat (first | with_reducible exact Below.refl _ _ | with_reducible assumption | with_reducible refine Below.setCell ?_ (by first | omega | (dsimp only; omega) | (simp <;> omega)) _ | with_reducible refine Below.alloc ?_ (by first | omega | (simp <;> omega)) _ | with_reducible refine bstep ?_ (by with_reducible assumption) | with_reducible refine Below.drew ?_ | with_reducible refine below_drewN ?_ _)
  rcases k1 : patB f A B C n F with _ | _
  · have EA := Lib.hid (show spA f A B C n F a b c = (0, 0, 0, 0, 0, fun _ => 0, 1) by simp [spA, noP, *])
    go_enter Tryd.func15, Tryd.ntmps15
    go_wp2_with fail
    with_reducible refine (specIsPat_any f A B C (R.out.call B0)).mono ?_
    rintro e w1 ⟨rfl, hb1⟩
    rw [k1]
    have P1 := P0.call hb1
    have L1 := L0.call hb1
    have R1 := R0.call hb1
    have B1 := bstep B0 hb1
    clear P0 L0 R0 B0 hb1
    have p1c0 := P1.c0
    have p1c1 := P1.c1
    have p1c2 := P1.c2
    have p1c3 := P1.c3
    have p1c4 := P1.c4
    have p1l := P1.lt
    have l1c0 := L1.c0
    have l1c1 := L1.c1
    have l1c2 := L1.c2
    have l1l := L1.lt
    have r1c0 := R1.c0
    have r1c1 := R1.c1
    have r1c2 := R1.c2
    have r1c3 := R1.c3
    have r1c4 := R1.c4
    have r1f0 := R1.f0
    have r1f1 := R1.f1
    have r1f2 := R1.f2
    have r1f3 := R1.f3
    have r1f4 := R1.f4
    have r1l := R1.lt
    go_wp2
    refine bodyPost_ret (v := .tuple #[(.agg #[.int .i64 0, .int .i64 0, .int .i64 0, .int .i64 0, .slice none 0 0]), .int .i64 1]) (by simp [results, Tryd.results15, go_sem, *]) rfl ⟨_, _, _, _, _, _, _, _, EA.out, rfl, ?_, ?_⟩
    · exact SRow.nil _ 1 _ _
    · repeat (first | with_reducible exact Below.refl _ _ | with_reducible assumption | with_reducible refine Below.setCell ?_ (by first | omega | (dsimp only; omega) | (simp <;> omega)) _ | with_reducible refine Below.alloc ?_ (by first | omega | (simp <;> omega)) _ | with_reducible refine bstep ?_ (by with_reducible assumption) | with_reducible refine Below.drew ?_ | with_reducible refine below_drewN ?_ _)
  rcases k2 : latB a b c with _ | _
  · have EA := Lib.hid (show spA f A B C n F a b c = (0, 0, 0, 0, 0, fun _ => 0, 1) by simp [spA, noP, *])
    go_enter Tryd.func15, Tryd.ntmps15
    go_wp2_with fail
    with_reducible refine (specIsPat_any f A B C (R.out.call B0)).mono ?_
    rintro e w1 ⟨rfl, hb1⟩
    rw [k1]
    have P1 := P0.call hb1
    have L1 := L0.call hb1
    have R1 := R0.call hb1
    have B1 := bstep B0 hb1
    clear P0 L0 R0 B0 hb1
    have p1c0 := P1.c0
    have p1c1 := P1.c1
    have p1c2 := P1.c2
    have p1c3 := P1.c3
    have p1c4 := P1.c4
    have p1l := P1.lt
    have l1c0 := L1.c0
    have l1c1 := L1.c1
    have l1c2 := L1.c2
    have l1l := L1.lt
    go_wp2_with fail
    with_reducible refine (specIsLattice_any a b c _).mono ?_
    rintro e w2 ⟨rfl, hb2⟩
    rw [k2]
    have P2 := P1.call hb2
    have L2 := L1.call hb2
    have R2 := R1.call hb2
    have B2 := bstep B1 hb2
    clear P1 L1 R1 B1 hb2 p1c0 p1c1 p1c2 p1c3 p1c4 l1c0 l1c1 l1c2 p1l l1l
    have p2c0 := P2.c0
    have p2c1 := P2.c1
    have p2c2 := P2.c2
    have p2c3 := P2.c3
    have p2c4 := P2.c4
    have p2l := P2.lt
    have l2c0 := L2.c0
    have l2c1 := L2.c1
    have l2c2 := L2.c2
    have l2l := L2.lt
    have r2c0 := R2.c0
    have r2c1 := R2.c1
    have r2c2 := R2.c2
    have r2c3 := R2.c3
    have r2c4 := R2.c4
    have r2f0 := R2.f0
    have r2f1 := R2.f1
    have r2f2 := R2.f2
    have r2f3 := R2.f3
    have r2f4 := R2.f4
    have r2l := R2.lt
    go_wp2
    refine bodyPost_ret (v := .tuple #[(.agg #[.int .i64 0, .int .i64 0, .int .i64 0, .int .i64 0, .slice none 0 0]), .int .i64 1]) (by simp [results, Tryd.results15, go_sem, *]) rfl ⟨_, _, _, _, _, _, _, _, EA.out, rfl, ?_, ?_⟩
    · exact SRow.nil _ 1 _ _
    · repeat (first | with_reducible exact Below.refl _ _ | with_reducible assumption | with_reducible refine Below.setCell ?_ (by first | omega | (dsimp only; omega) | (simp <;> omega)) _ | with_reducible refine Below.alloc ?_ (by first | omega | (simp <;> omega)) _ | with_reducible refine bstep ?_ (by with_reducible assumption) | with_reducible refine Below.drew ?_ | with_reducible refine below_drewN ?_ _)
  obtain ⟨x0, y0, z0, hx⟩ : ∃ x y z, fulI A B C F = (x, y, z) := ⟨_, _, _, rfl⟩
  have HFL := Lib.hid (fun (X : World) (hX : Below w.heap.size w X) => (show Calls Tryd.prog 35 #[.agg #[.int .i64 f, .int .i64 A, .int .i64 B, .int .i64 C, .slice ao n cap]] X (fun e w' => e = .returned (.agg #[.int .i64 x0, .int .i64 y0, .int .i64 z0]) ∧ Below X.heap.size X w') from by
    obtain ⟨p, q, e1, e2, hp⟩ := patB_of k1
    rw [e1, e2] at hx ⊢
    have h9 := l09Full_any hp (R.out.call hX)
    rw [hx] at h9
    exact h9))
  have HLA := Lib.hid (show latI x0 y0 z0 from by
    obtain ⟨p, q, e1, e2, hp⟩ := patB_of k1
    rw [e1, e2] at hx
    have hl : latI (fulI (p : Int) B (q : Int) F).1 (fulI (p : Int) B (q : Int) F).2.1 (fulI (p : Int) B (q : Int) F).2.2 := fulP_lat hp.lat F _
    rw [hx] at hl
    exact hl)
  have hin : inF A B C F a b c = (hasB x0 y0 z0 a 0 && hasB x0 y0 z0 b c) := by unfold inF; rw [hx]
  have HVB := Lib.hid (show (midI a ∧ midI 0) ∧ (midI b ∧ midI c) from by
    have h9 := latB_iff.1 k2
    have h8 := latI_bd h9
    obtain ⟨g1, g2, g3, g4, _⟩ := h9
    unfold midI
    omega)
  rcases k3 : hasB x0 y0 z0 a 0 with _ | _
  · have EA := Lib.hid (show spA f A B C n F a b c = (0, 0, 0, 0, 0, fun _ => 0, 5) by simp [spA, noP, hin, *])
    clear hin hx
    have HA1 := Lib.hid (fun (X : World) => (show Calls Tryd.prog 37 #[.agg #[.int .i64 x0, .int .i64 y0, .int .i64 z0], .agg #[.int .i64 a, .int .i64 0]] X (fun e w' => e = .returned (.bool false) ∧ Below X.heap.size X w') from by
      have h9 := l03Has_any x0 y0 z0 a 0 X HLA.out HVB.out.1.1 HVB.out.1.2
      rw [k3] at h9
      exact h9))
    go_enter Tryd.func15, Tryd.ntmps15
    go_wp2_with fail
    with_reducible refine (specIsPat_any f A B C (R.out.call B0)).mono ?_
    rintro e w1 ⟨rfl, hb1⟩
    rw [k1]
    have P1 := P0.call hb1
    have L1 := L0.call hb1
    have R1 := R0.call hb1
    have B1 := bstep B0 hb1
    clear P0 L0 R0 B0 hb1
    have p1c0 := P1.c0
    have p1c1 := P1.c1
    have p1c2 := P1.c2
    have p1c3 := P1.c3
    have p1c4 := P1.c4
    have p1l := P1.lt
    have l1c0 := L1.c0
    have l1c1 := L1.c1
    have l1c2 := L1.c2
    have l1l := L1.lt
    go_wp2_with fail
    with_reducible refine (specIsLattice_any a b c _).mono ?_
    rintro e w2 ⟨rfl, hb2⟩
    rw [k2]
    have P2 := P1.call hb2
    have L2 := L1.call hb2
    have R2 := R1.call hb2
    have B2 := bstep B1 hb2
    clear P1 L1 R1 B1 hb2 p1c0 p1c1 p1c2 p1c3 p1c4 l1c0 l1c1 l1c2 p1l l1l
    have p2c0 := P2.c0
    have p2c1 := P2.c1
    have p2c2 := P2.c2
    have p2c3 := P2.c3
    have p2c4 := P2.c4
    have p2l := P2.lt
    have l2c0 := L2.c0
    have l2c1 := L2.c1
    have l2c2 := L2.c2
    have l2l := L2.lt
    go_upto_region 1 with fail
    go_cut [6, 7] (fun s6 s7 wx => MidSp w2 x0 y0 z0 a b c s6 s7 wx)
    case first =>
      go_region_held3 (fun W9 => (W9.cell? ⟨w.heap.size, 0, none⟩ = some (.int .i64 f) ∧ W9.cell? ⟨w.heap.size, 1, none⟩ = some (.int .i64 A) ∧ W9.cell? ⟨w.heap.size, 2, none⟩ = some (.int .i64 B) ∧ W9.cell? ⟨w.heap.size, 3, none⟩ = some (.int .i64 C) ∧ W9.cell? ⟨w.heap.size, 4, none⟩ = some (.slice ao n cap)) ∧ (W9.cell? ⟨(w.heap.size + 1), 0, none⟩ = some (.int .i64 a) ∧ W9.cell? ⟨(w.heap.size + 1), 1, none⟩ = some (.int .i64 b) ∧ W9.cell? ⟨(w.heap.size + 1), 2, none⟩ = some (.int .i64 c))) ((refine And.intro (Bx.cells5 ?_) (Bx.cells3 ?_)) <;> repeat (first | with_reducible assumption | (with_reducible exact BX.at _ (by first | with_reducible rfl | (simp; done))) | (with_reducible exact Bx.at _ (by first | with_reducible rfl | (simp; done))) | with_reducible refine Bx.drew ?_ | with_reducible refine Bx.alloc ?_ _ | with_reducible refine Bx.call ?_ (by with_reducible assumption) | with_reducible refine BX.drew ?_ | with_reducible refine BX.alloc ?_ _ | with_reducible refine BX.call ?_ (by with_reducible assumption) | with_reducible refine Bx.far (by first | omega | (dsimp only; omega)) ?_ | with_reducible refine Bx.st3 ?_))
        (first
          | (go_at_call 35; with_reducible refine (HFL.out _ (by repeat (first | with_reducible assumption | with_reducible exact Below.refl _ _ | with_reducible refine Below.drew ?_ | with_reducible refine Below.alloc ?_ (by first | omega | (simp <;> omega)) _ | with_reducible refine Below.setCell ?_ (by first | omega | (dsimp only; omega)) _ | with_reducible refine bstep ?_ (by with_reducible assumption)))).mono ?_; rintro e w3 ⟨rfl, hb3⟩; (try ((refine useIt (P := BX w2.heap.size [.int .i64 0, .int .i64 0, .int .i64 0] w3) ?_ ?_); (repeat (first | with_reducible assumption | (with_reducible exact BX.at _ (by first | with_reducible rfl | (simp; done))) | (with_reducible exact Bx.at _ (by first | with_reducible rfl | (simp; done))) | with_reducible refine Bx.drew ?_ | with_reducible refine Bx.alloc ?_ _ | with_reducible refine Bx.call ?_ (by with_reducible assumption) | with_reducible refine BX.drew ?_ | with_reducible refine BX.alloc ?_ _ | with_reducible refine BX.call ?_ (by with_reducible assumption) | with_reducible refine Bx.far (by first | omega | (dsimp only; omega)) ?_ | with_reducible refine Bx.st3 ?_)); intro d3_2; have d3_2c0 := d3_2.c0; have d3_2c1 := d3_2.c1; have d3_2c2 := d3_2.c2; have d3_2f0 := d3_2.f0; have d3_2f1 := d3_2.f1; have d3_2f2 := d3_2.f2; have d3_2l := d3_2.lt)); have C3 : Below w2.heap.size w2 w3 := (by repeat (first | with_reducible assumption | with_reducible exact Below.refl _ _ | with_reducible refine Below.drew ?_ | with_reducible refine Below.alloc ?_ (by first | omega | (simp <;> omega)) _ | with_reducible refine Below.setCell ?_ (by first | omega | (dsimp only; omega)) _ | with_reducible refine bstep ?_ (by with_reducible assumption))); have y3 := C3.size; have q3 := P2.call C3; have n3 := L2.call C3; have q3l := q3.lt; have n3l := n3.lt)
          | (go_at_call 36; with_reducible refine (l03BasisO_any a b c _).mono ?_; rintro e w4 ⟨vb, rfl, hown, hb4⟩; obtain ⟨gb, cb, rfl, hgb, GX⟩ := bx_of_own hown; clear hown; (try simp at hgb); have GXl := GX.lt; (try ((refine useIt (P := BX w2.heap.size [.int .i64 0, .int .i64 0, .int .i64 0] w4) ?_ ?_); (repeat (first | with_reducible assumption | (with_reducible exact BX.at _ (by first | with_reducible rfl | (simp; done))) | (with_reducible exact Bx.at _ (by first | with_reducible rfl | (simp; done))) | with_reducible refine Bx.drew ?_ | with_reducible refine Bx.alloc ?_ _ | with_reducible refine Bx.call ?_ (by with_reducible assumption) | with_reducible refine BX.drew ?_ | with_reducible refine BX.alloc ?_ _ | with_reducible refine BX.call ?_ (by with_reducible assumption) | with_reducible refine Bx.far (by first | omega | (dsimp only; omega)) ?_ | with_reducible refine Bx.st3 ?_)); intro d4_2; have d4_2c0 := d4_2.c0; have d4_2c1 := d4_2.c1; have d4_2c2 := d4_2.c2; have d4_2f0 := d4_2.f0; have d4_2f1 := d4_2.f1; have d4_2f2 := d4_2.f2; have d4_2l := d4_2.lt)); (try ((refine useIt (P := BX w3.heap.size [.int .i64 0, .int .i64 0, .int .i64 0] w4) ?_ ?_); (repeat (first | with_reducible assumption | (with_reducible exact BX.at _ (by first | with_reducible rfl | (simp; done))) | (with_reducible exact Bx.at _ (by first | with_reducible rfl | (simp; done))) | with_reducible refine Bx.drew ?_ | with_reducible refine Bx.alloc ?_ _ | with_reducible refine Bx.call ?_ (by with_reducible assumption) | with_reducible refine BX.drew ?_ | with_reducible refine BX.alloc ?_ _ | with_reducible refine BX.call ?_ (by with_reducible assumption) | with_reducible refine Bx.far (by first | omega | (dsimp only; omega)) ?_ | with_reducible refine Bx.st3 ?_)); intro d4_3; have d4_3c0 := d4_3.c0; have d4_3c1 := d4_3.c1; have d4_3c2 := d4_3.c2; have d4_3f0 := d4_3.f0; have d4_3f1 := d4_3.f1; have d4_3f2 := d4_3.f2; have d4_3l := d4_3.lt)); have C4 : Below w2.heap.size w2 w4 := (by repeat (first | with_reducible assumption | with_reducible exact Below.refl _ _ | with_reducible refine Below.drew ?_ | with_reducible refine Below.alloc ?_ (by first | omega | (simp <;> omega)) _ | with_reducible refine Below.setCell ?_ (by first | omega | (dsimp only; omega)) _ | with_reducible refine bstep ?_ (by with_reducible assumption))); have y4 := C4.size; have q4 := P2.call C4; have n4 := L2.call C4; have q4l := q4.lt; have n4l := n4.lt))
      all_goals
        go_wp2_with fail
        go_meet
        exact ⟨_, _, _, rfl, rfl, (by repeat (first | with_reducible assumption | (with_reducible exact BX.at _ (by first | with_reducible rfl | (simp; done))) | (with_reducible exact Bx.at _ (by first | with_reducible rfl | (simp; done))) | with_reducible refine Bx.drew ?_ | with_reducible refine Bx.alloc ?_ _ | with_reducible refine Bx.call ?_ (by with_reducible assumption) | with_reducible refine BX.drew ?_ | with_reducible refine BX.alloc ?_ _ | with_reducible refine BX.call ?_ (by with_reducible assumption) | with_reducible refine Bx.far (by first | omega | (dsimp only; omega)) ?_ | with_reducible refine Bx.st3 ?_)), (by repeat (first | with_reducible assumption | (with_reducible exact BX.at _ (by first | with_reducible rfl | (simp; done))) | (with_reducible exact Bx.at _ (by first | with_reducible rfl | (simp; done))) | with_reducible refine Bx.drew ?_ | with_reducible refine Bx.alloc ?_ _ | with_reducible refine Bx.call ?_ (by with_reducible assumption) | with_reducible refine BX.drew ?_ | with_reducible refine BX.alloc ?_ _ | with_reducible refine BX.call ?_ (by with_reducible assumption) | with_reducible refine Bx.far (by first | omega | (dsimp only; omega)) ?_ | with_reducible refine Bx.st3 ?_)), (by repeat (first | with_reducible assumption | with_reducible exact Below.refl _ _ | with_reducible refine Below.drew ?_ | with_reducible refine Below.alloc ?_ (by first | omega | (simp <;> omega)) _ | with_reducible refine Below.setCell ?_ (by first | omega | (dsimp only; omega)) _ | with_reducible refine bstep ?_ (by with_reducible assumption)))⟩
    case rest =>
      obtain ⟨bx, gb, cb, rfl, rfl, D3, G3, hb3⟩ := hcut
      obtain ⟨w3, hw3⟩ : ∃ z, z = wc := ⟨_, rfl⟩
      subst hw3
      have P3 := P2.call hb3
      have L3 := L2.call hb3
      have R3 := R2.call hb3
      have B3 := bstep B2 hb3
      clear P2 L2 R2 B2 hb3 p2c0 p2c1 p2c2 p2c3 p2c4 l2c0 l2c1 l2c2 p2l l2l
      have p3c0 := P3.c0
      have p3c1 := P3.c1
      have p3c2 := P3.c2
      have p3c3 := P3.c3
      have p3c4 := P3.c4
      have p3l := P3.lt
      have l3c0 := L3.c0
      have l3c1 := L3.c1
      have l3c2 := L3.c2
      have l3l := L3.lt
      have d3c0 := D3.c0
      have d3c1 := D3.c1
      have d3c2 := D3.c2
      have d3l := D3.lt
      have g3c0 := G3.c0
      have g3c1 := G3.c1
      have g3c2 := G3.c2
      have g3c3 := G3.c3
      have g3l := G3.lt
      go_wp2_with fail
      refine wp_region_T 13 (fun W9 => (W9.cell? ⟨bx, 0, none⟩ = some (.int .i64 x0) ∧ W9.cell? ⟨bx, 1, none⟩ = some (.int .i64 y0) ∧ W9.cell? ⟨bx, 2, none⟩ = some (.int .i64 z0)) ∧ (W9.cell? ⟨gb, 0, none⟩ = some (.int .i64 a) ∧ W9.cell? ⟨gb, 1, none⟩ = some (.int .i64 0) ∧ W9.cell? ⟨gb, 2, none⟩ = some (.int .i64 b) ∧ W9.cell? ⟨gb, 3, none⟩ = some (.int .i64 c))) (by kernel_rfl) ⟨D3.drew.cells3, G3.drew.cells4U⟩ (fun hHeld inv => ?_)
      refine wpAnyT_take (i := 0) (v := ?_) (by kernel_rfl) (by kernel_rfl) (by decide) (by kernel_rfl) inv rfl (by decide) (by kernel_rfl) (by kernel_rfl) (fun _ _ _ h => h) (Or.inl ⟨by rfl, ?_⟩) (by assumption) (fun inv => ?_)
      rotate_left
      · (intro w hSw; (try dsimp only at hSw); go_simp; try with_reducible rfl)
      simp only [Act.put, List.setIfInBounds_toArray, List.set_cons_zero, List.set_cons_succ]
      refine wpAnyT_take (i := 1) (v := ?_) (by kernel_rfl) (by kernel_rfl) (by decide) (by kernel_rfl) inv rfl (by decide) (by kernel_rfl) (by kernel_rfl) (fun _ _ _ h => h) (Or.inl ⟨by rfl, ?_⟩) (by assumption) (fun inv => ?_)
      rotate_left
      · (intro w hSw; (try dsimp only at hSw); go_simp; try with_reducible rfl)
      simp only [Act.put, List.setIfInBounds_toArray, List.set_cons_zero, List.set_cons_succ]
      refine wpAnyT_take (i := 2) (v := ?_) (by kernel_rfl) (by kernel_rfl) (by decide) (by kernel_rfl) inv rfl (by decide) (by kernel_rfl) (by kernel_rfl) (fun _ _ _ h => h) (Or.inl ⟨by rfl, ?_⟩) (by assumption) (fun inv => ?_)
      rotate_left
      · (intro w hSw; (try dsimp only at hSw); go_simp; try with_reducible rfl)
      simp only [Act.put, List.setIfInBounds_toArray, List.set_cons_zero, List.set_cons_succ]
      refine wpAnyT_take (i := 3) (v := ?_) (by kernel_rfl) (by kernel_rfl) (by decide) (by kernel_rfl) inv rfl (by decide) (by kernel_rfl) (by kernel_rfl) (fun _ _ _ h => h) (Or.inl ⟨by rfl, ?_⟩) (by assumption) (fun inv => ?_)
      rotate_left
      · (intro w hSw; (try dsimp only at hSw); go_simp; try with_reducible rfl)
      simp only [Act.put, List.setIfInBounds_toArray, List.set_cons_zero, List.set_cons_succ]
      have HINV := Lib.hid inv
      refine wpAnyT_one (i := 4) (by kernel_rfl) rfl (fun K hK => ?_)
      go_simp
      (go_at_call 37; with_reducible refine (HA1.out _).mono ?_; rintro e w4 ⟨rfl, hb4⟩; have C4 : Below w3.heap.size w3 w4 := (by repeat (first | with_reducible assumption | with_reducible exact Below.refl _ _ | with_reducible refine Below.drew ?_ | with_reducible refine Below.alloc ?_ (by first | omega | (simp <;> omega)) _ | with_reducible refine Below.setCell ?_ (by first | omega | (dsimp only; omega)) _ | with_reducible refine bstep ?_ (by with_reducible assumption))); have D4 := D3.call C4; have G4 := G3.call C4)
      refine hK.out _ _ (fun _ => ⟨D4.cells3, G4.cells4U⟩) ?_
      clear hK K inv hHeld
      have hHeld : (w4.cell? ⟨bx, 0, none⟩ = some (.int .i64 x0) ∧ w4.cell? ⟨bx, 1, none⟩ = some (.int .i64 y0) ∧ w4.cell? ⟨bx, 2, none⟩ = some (.int .i64 z0)) ∧ (w4.cell? ⟨gb, 0, none⟩ = some (.int .i64 a) ∧ w4.cell? ⟨gb, 1, none⟩ = some (.int .i64 0) ∧ w4.cell? ⟨gb, 2, none⟩ = some (.int .i64 b) ∧ w4.cell? ⟨gb, 3, none⟩ = some (.int .i64 c)) := ⟨D4.cells3, G4.cells4U⟩
      have inv := HINV.out.set (i := 4) (List.contains_iff_mem.1 (by kernel_rfl)) (by decide)
      try simp only [Act.put, List.setIfInBounds_toArray, List.set_cons_zero, List.set_cons_succ]
      try simp only [List.setIfInBounds_toArray, List.set_cons_zero, List.set_cons_succ] at inv
      refine wpAnyT_take (i := 5) (v := ?_) (by kernel_rfl) (by kernel_rfl) (by decide) (by kernel_rfl) inv rfl (by decide) (by kernel_rfl) (by kernel_rfl) (fun _ _ _ h => h) (Or.inl ⟨by rfl, ?_⟩) (by assumption) (fun inv => ?_)
      rotate_left
      · (intro w hSw; (try dsimp only at hSw); go_simp; try with_reducible rfl)
      simp only [Act.put, List.setIfInBounds_toArray, List.set_cons_zero, List.set_cons_succ]
      refine wpAnyT_take (i := 6) (v := ?_) (by kernel_rfl) (by kernel_rfl) (by decide) (by kernel_rfl) inv rfl (by decide) (by kernel_rfl) (by kernel_rfl) (fun _ _ _ h => h) (Or.inl ⟨by rfl, ?_⟩) (by assumption) (fun inv => ?_)
      rotate_left
      · (intro w hSw; (try dsimp only at hSw); go_simp; try with_reducible rfl)
      simp only [Act.put, List.setIfInBounds_toArray, List.set_cons_zero, List.set_cons_succ]
      refine wpAnyT_take (i := 7) (v := undef) (by kernel_rfl) (by kernel_rfl) (by decide) (by kernel_rfl) inv rfl (by decide) (by kernel_rfl) (by kernel_rfl) (fun _ _ _ h => h) (Or.inr ⟨by rfl, rfl⟩) (by assumption) (fun inv => ?_)
      try simp only [Act.put, List.setIfInBounds_toArray, List.set_cons_zero, List.set_cons_succ]
      refine wpAnyT_take (i := 8) (v := undef) (by kernel_rfl) (by kernel_rfl) (by decide) (by kernel_rfl) inv rfl (by decide) (by kernel_rfl) (by kernel_rfl) (fun _ _ _ h => h) (Or.inr ⟨by rfl, rfl⟩) (by assumption) (fun inv => ?_)
      try simp only [Act.put, List.setIfInBounds_toArray, List.set_cons_zero, List.set_cons_succ]
      refine wpAnyT_take (i := 9) (v := undef) (by kernel_rfl) (by kernel_rfl) (by decide) (by kernel_rfl) inv rfl (by decide) (by kernel_rfl) (by kernel_rfl) (fun _ _ _ h => h) (Or.inr ⟨by rfl, rfl⟩) (by assumption) (fun inv => ?_)
      try simp only [Act.put, List.setIfInBounds_toArray, List.set_cons_zero, List.set_cons_succ]
      refine wpAnyT_take (i := 10) (v := undef) (by kernel_rfl) (by kernel_rfl) (by decide) (by kernel_rfl) inv rfl (by decide) (by kernel_rfl) (by kernel_rfl) (fun _ _ _ h => h) (Or.inr ⟨by rfl, rfl⟩) (by assumption) (fun inv => ?_)
      try simp only [Act.put, List.setIfInBounds_toArray, List.set_cons_zero, List.set_cons_succ]
      refine wpAnyT_take (i := 11) (v := undef) (by kernel_rfl) (by kernel_rfl) (by decide) (by kernel_rfl) inv rfl (by decide) (by kernel_rfl) (by kernel_rfl) (fun _ _ _ h => h) (Or.inr ⟨by rfl, rfl⟩) (by assumption) (fun inv => ?_)
      try simp only [Act.put, List.setIfInBounds_toArray, List.set_cons_zero, List.set_cons_succ]
      refine wpAnyT_take (i := 12) (v := undef) (by kernel_rfl) (by kernel_rfl) (by decide) (by kernel_rfl) inv rfl (by decide) (by kernel_rfl) (by kernel_rfl) (fun _ _ _ h => h) (Or.inr ⟨by rfl, rfl⟩) (by assumption) (fun inv => ?_)
      try simp only [Act.put, List.setIfInBounds_toArray, List.set_cons_zero, List.set_cons_succ]
      refine wpAnyT_seq (k := 13) (by decide) rfl rfl (by kernel_rfl) ?_
      clear hHeld inv HINV D4 G4
      have P4 := P3.call C4
      have L4 := L3.call C4
      have R4 := R3.call C4
      have B4 := bstep B3 C4
      clear P3 L3 R3 B3 p3c0 p3c1 p3c2 p3c3 p3c4 p3l l3c0 l3c1 l3c2 l3l D3 G3 d3c0 d3c1 d3c2 d3l g3c0 g3c1 g3c2 g3c3 g3l
      have p4c0 := P4.c0
      have p4c1 := P4.c1
      have p4c2 := P4.c2
      have p4c3 := P4.c3
      have p4c4 := P4.c4
      have p4l := P4.lt
      have l4c0 := L4.c0
      have l4c1 := L4.c1
      have l4c2 := L4.c2
      have l4l := L4.lt
      have r4c0 := R4.c0
      have r4c1 := R4.c1
      have r4c2 := R4.c2
      have r4c3 := R4.c3
      have r4c4 := R4.c4
      have r4f0 := R4.f0
      have r4f1 := R4.f1
      have r4f2 := R4.f2
      have r4f3 := R4.f3
      have r4f4 := R4.f4
      have r4l := R4.lt
      go_wp2
      refine bodyPost_ret (v := .tuple #[(.agg #[.int .i64 0, .int .i64 0, .int .i64 0, .int .i64 0, .slice none 0 0]), .int .i64 5]) (by simp [results, Tryd.results15, go_sem, *]) rfl ⟨_, _, _, _, _, _, _, _, EA.out, rfl, ?_, ?_⟩
      · exact SRow.nil _ 1 _ _
      · repeat (first | with_reducible exact Below.refl _ _ | with_reducible assumption | with_reducible refine Below.setCell ?_ (by first | omega | (dsimp only; omega) | (simp <;> omega)) _ | with_reducible refine Below.alloc ?_ (by first | omega | (simp <;> omega)) _ | with_reducible refine bstep ?_ (by with_reducible assumption) | with_reducible refine Below.drew ?_ | with_reducible refine below_drewN ?_ _)
  rcases k4 : hasB x0 y0 z0 b c with _ | _
  · have EA := Lib.hid (show spA f A B C n F a b c = (0, 0, 0, 0, 0, fun _ => 0, 5) by simp [spA, noP, hin, *])
    clear hin hx
    have HA1 := Lib.hid (fun (X : World) => (show Calls Tryd.prog 37 #[.agg #[.int .i64 x0, .int .i64 y0, .int .i64 z0], .agg #[.int .i64 a, .int .i64 0]] X (fun e w' => e = .returned (.bool true) ∧ Below X.heap.size X w') from by
      have h9 := l03Has_any x0 y0 z0 a 0 X HLA.out HVB.out.1.1 HVB.out.1.2
      rw [k3] at h9
      exact h9))
    have HA2 := Lib.hid (fun (X : World) => (show Calls Tryd.prog 37 #[.agg #[.int .i64 x0, .int .i64 y0, .int .i64 z0], .agg #[.int .i64 b, .int .i64 c]] X (fun e w' => e = .returned (.bool false) ∧ Below X.heap.size X w') from by
      have h9 := l03Has_any x0 y0 z0 b c X HLA.out HVB.out.2.1 HVB.out.2.2
      rw [k4] at h9
      exact h9))
    go_enter Tryd.func15, Tryd.ntmps15
    go_wp2_with fail
    with_reducible refine (specIsPat_any f A B C (R.out.call B0)).mono ?_
    rintro e w1 ⟨rfl, hb1⟩
    rw [k1]
    have P1 := P0.call hb1
    have L1 := L0.call hb1
    have R1 := R0.call hb1
    have B1 := bstep B0 hb1
    clear P0 L0 R0 B0 hb1
    have p1c0 := P1.c0
    have p1c1 := P1.c1
    have p1c2 := P1.c2
    have p1c3 := P1.c3
    have p1c4 := P1.c4
    have p1l := P1.lt
    have l1c0 := L1.c0
    have l1c1 := L1.c1
    have l1c2 := L1.c2
    have l1l := L1.lt
    go_wp2_with fail
    with_reducible refine (specIsLattice_any a b c _).mono ?_
    rintro e w2 ⟨rfl, hb2⟩
    rw [k2]
    have P2 := P1.call hb2
    have L2 := L1.call hb2
    have R2 := R1.call hb2
    have B2 := bstep B1 hb2
    clear P1 L1 R1 B1 hb2 p1c0 p1c1 p1c2 p1c3 p1c4 l1c0 l1c1 l1c2 p1l l1l
    have p2c0 := P2.c0
    have p2c1 := P2.c1
    have p2c2 := P2.c2
    have p2c3 := P2.c3
    have p2c4 := P2.c4
    have p2l := P2.lt
    have l2c0 := L2.c0
    have l2c1 := L2.c1
    have l2c2 := L2.c2
    have l2l := L2.lt
    go_upto_region 1 with fail
    go_cut [6, 7] (fun s6 s7 wx => MidSp w2 x0 y0 z0 a b c s6 s7 wx)
    case first =>
      go_region_held3 (fun W9 => (W9.cell? ⟨w.heap.size, 0, none⟩ = some (.int .i64 f) ∧ W9.cell? ⟨w.heap.size, 1, none⟩ = some (.int .i64 A) ∧ W9.cell? ⟨w.heap.size, 2, none⟩ = some (.int .i64 B) ∧ W9.cell? ⟨w.heap.size, 3, none⟩ = some (.int .i64 C) ∧ W9.cell? ⟨w.heap.size, 4, none⟩ = some (.slice ao n cap)) ∧ (W9.cell? ⟨(w.heap.size + 1), 0, none⟩ = some (.int .i64 a) ∧ W9.cell? ⟨(w.heap.size + 1), 1, none⟩ = some (.int .i64 b) ∧ W9.cell? ⟨(w.heap.size + 1), 2, none⟩ = some (.int .i64 c))) ((refine And.intro (Bx.cells5 ?_) (Bx.cells3 ?_)) <;> repeat (first | with_reducible assumption | (with_reducible exact BX.at _ (by first | with_reducible rfl | (simp; done))) | (with_reducible exact Bx.at _ (by first | with_reducible rfl | (simp; done))) | with_reducible refine Bx.drew ?_ | with_reducible refine Bx.alloc ?_ _ | with_reducible refine Bx.call ?_ (by with_reducible assumption) | with_reducible refine BX.drew ?_ | with_reducible refine BX.alloc ?_ _ | with_reducible refine BX.call ?_ (by with_reducible assumption) | with_reducible refine Bx.far (by first | omega | (dsimp only; omega)) ?_ | with_reducible refine Bx.st3 ?_))
        (first
          | (go_at_call 35; with_reducible refine (HFL.out _ (by repeat (first | with_reducible assumption | with_reducible exact Below.refl _ _ | with_reducible refine Below.drew ?_ | with_reducible refine Below.alloc ?_ (by first | omega | (simp <;> omega)) _ | with_reducible refine Below.setCell ?_ (by first | omega | (dsimp only; omega)) _ | with_reducible refine bstep ?_ (by with_reducible assumption)))).mono ?_; rintro e w3 ⟨rfl, hb3⟩; (try ((refine useIt (P := BX w2.heap.size [.int .i64 0, .int .i64 0, .int .i64 0] w3) ?_ ?_); (repeat (first | with_reducible assumption | (with_reducible exact BX.at _ (by first | with_reducible rfl | (simp; done))) | (with_reducible exact Bx.at _ (by first | with_reducible rfl | (simp; done))) | with_reducible refine Bx.drew ?_ | with_reducible refine Bx.alloc ?_ _ | with_reducible refine Bx.call ?_ (by with_reducible assumption) | with_reducible refine BX.drew ?_ | with_reducible refine BX.alloc ?_ _ | with_reducible refine BX.call ?_ (by with_reducible assumption) | with_reducible refine Bx.far (by first | omega | (dsimp only; omega)) ?_ | with_reducible refine Bx.st3 ?_)); intro d3_2; have d3_2c0 := d3_2.c0; have d3_2c1 := d3_2.c1; have d3_2c2 := d3_2.c2; have d3_2f0 := d3_2.f0; have d3_2f1 := d3_2.f1; have d3_2f2 := d3_2.f2; have d3_2l := d3_2.lt)); have C3 : Below w2.heap.size w2 w3 := (by repeat (first | with_reducible assumption | with_reducible exact Below.refl _ _ | with_reducible refine Below.drew ?_ | with_reducible refine Below.alloc ?_ (by first | omega | (simp <;> omega)) _ | with_reducible refine Below.setCell ?_ (by first | omega | (dsimp only; omega)) _ | with_reducible refine bstep ?_ (by with_reducible assumption))); have y3 := C3.size; have q3 := P2.call C3; have n3 := L2.call C3; have q3l := q3.lt; have n3l := n3.lt)
          | (go_at_call 36; with_reducible refine (l03BasisO_any a b c _).mono ?_; rintro e w4 ⟨vb, rfl, hown, hb4⟩; obtain ⟨gb, cb, rfl, hgb, GX⟩ := bx_of_own hown; clear hown; (try simp at hgb); have GXl := GX.lt; (try ((refine useIt (P := BX w2.heap.size [.int .i64 0, .int .i64 0, .int .i64 0] w4) ?_ ?_); (repeat (first | with_reducible assumption | (with_reducible exact BX.at _ (by first | with_reducible rfl | (simp; done))) | (with_reducible exact Bx.at _ (by first | with_reducible rfl | (simp; done))) | with_reducible refine Bx.drew ?_ | with_reducible refine Bx.alloc ?_ _ | with_reducible refine Bx.call ?_ (by with_reducible assumption) | with_reducible refine BX.drew ?_ | with_reducible refine BX.alloc ?_ _ | with_reducible refine BX.call ?_ (by with_reducible assumption) | with_reducible refine Bx.far (by first | omega | (dsimp only; omega)) ?_ | with_reducible refine Bx.st3 ?_)); intro d4_2; have d4_2c0 := d4_2.c0; have d4_2c1 := d4_2.c1; have d4_2c2 := d4_2.c2; have d4_2f0 := d4_2.f0; have d4_2f1 := d4_2.f1; have d4_2f2 := d4_2.f2; have d4_2l := d4_2.lt)); (try ((refine useIt (P := BX w3.heap.size [.int .i64 0, .int .i64 0, .int .i64 0] w4) ?_ ?_); (repeat (first | with_reducible assumption | (with_reducible exact BX.at _ (by first | with_reducible rfl | (simp; done))) | (with_reducible exact Bx.at _ (by first | with_reducible rfl | (simp; done))) | with_reducible refine Bx.drew ?_ | with_reducible refine Bx.alloc ?_ _ | with_reducible refine Bx.call ?_ (by with_reducible assumption) | with_reducible refine BX.drew ?_ | with_reducible refine BX.alloc ?_ _ | with_reducible refine BX.call ?_ (by with_reducible assumption) | with_reducible refine Bx.far (by first | omega | (dsimp only; omega)) ?_ | with_reducible refine Bx.st3 ?_)); intro d4_3; have d4_3c0 := d4_3.c0; have d4_3c1 := d4_3.c1; have d4_3c2 := d4_3.c2; have d4_3f0 := d4_3.f0; have d4_3f1 := d4_3.f1; have d4_3f2 := d4_3.f2; have d4_3l := d4_3.lt)); have C4 : Below w2.heap.size w2 w4 := (by repeat (first | with_reducible assumption | with_reducible exact Below.refl _ _ | with_reducible refine Below.drew ?_ | with_reducible refine Below.alloc ?_ (by first | omega | (simp <;> omega)) _ | with_reducible refine Below.setCell ?_ (by first | omega | (dsimp only; omega)) _ | with_reducible refine bstep ?_ (by with_reducible assumption))); have y4 := C4.size; have q4 := P2.call C4; have n4 := L2.call C4; have q4l := q4.lt; have n4l := n4.lt))
      all_goals
        go_wp2_with fail
        go_meet
        exact ⟨_, _, _, rfl, rfl, (by repeat (first | with_reducible assumption | (with_reducible exact BX.at _ (by first | with_reducible rfl | (simp; done))) | (with_reducible exact Bx.at _ (by first | with_reducible rfl | (simp; done))) | with_reducible refine Bx.drew ?_ | with_reducible refine Bx.alloc ?_ _ | with_reducible refine Bx.call ?_ (by with_reducible assumption) | with_reducible refine BX.drew ?_ | with_reducible refine BX.alloc ?_ _ | with_reducible refine BX.call ?_ (by with_reducible assumption) | with_reducible refine Bx.far (by first | omega | (dsimp only; omega)) ?_ | with_reducible refine Bx.st3 ?_)), (by repeat (first | with_reducible assumption | (with_reducible exact BX.at _ (by first | with_reducible rfl | (simp; done))) | (with_reducible exact Bx.at _ (by first | with_reducible rfl | (simp; done))) | with_reducible refine Bx.drew ?_ | with_reducible refine Bx.alloc ?_ _ | with_reducible refine Bx.call ?_ (by with_reducible assumption) | with_reducible refine BX.drew ?_ | with_reducible refine BX.alloc ?_ _ | with_reducible refine BX.call ?_ (by with_reducible assumption) | with_reducible refine Bx.far (by first | omega | (dsimp only; omega)) ?_ | with_reducible refine Bx.st3 ?_)), (by repeat (first | with_reducible assumption | with_reducible exact Below.refl _ _ | with_reducible refine Below.drew ?_ | with_reducible refine Below.alloc ?_ (by first | omega | (simp <;> omega)) _ | with_reducible refine Below.setCell ?_ (by first | omega | (dsimp only; omega)) _ | with_reducible refine bstep ?_ (by with_reducible assumption)))⟩
    case rest =>
      obtain ⟨bx, gb, cb, rfl, rfl, D3, G3, hb3⟩ := hcut
      obtain ⟨w3, hw3⟩ : ∃ z, z = wc := ⟨_, rfl⟩
      subst hw3
      have P3 := P2.call hb3
      have L3 := L2.call hb3
      have R3 := R2.call hb3
      have B3 := bstep B2 hb3
      clear P2 L2 R2 B2 hb3 p2c0 p2c1 p2c2 p2c3 p2c4 l2c0 l2c1 l2c2 p2l l2l
      have p3c0 := P3.c0
      have p3c1 := P3.c1
      have p3c2 := P3.c2
      have p3c3 := P3.c3
      have p3c4 := P3.c4
      have p3l := P3.lt
      have l3c0 := L3.c0
      have l3c1 := L3.c1
      have l3c2 := L3.c2
      have l3l := L3.lt
      have d3c0 := D3.c0
      have d3c1 := D3.c1
      have d3c2 := D3.c2
      have d3l := D3.lt
      have g3c0 := G3.c0
      have g3c1 := G3.c1
      have g3c2 := G3.c2
      have g3c3 := G3.c3
      have g3l := G3.lt
      go_wp2_with fail
      go_region_held3 (fun W9 => (W9.cell? ⟨bx, 0, none⟩ = some (.int .i64 x0) ∧ W9.cell? ⟨bx, 1, none⟩ = some (.int .i64 y0) ∧ W9.cell? ⟨bx, 2, none⟩ = some (.int .i64 z0)) ∧ (W9.cell? ⟨gb, 0, none⟩ = some (.int .i64 a) ∧ W9.cell? ⟨gb, 1, none⟩ = some (.int .i64 0) ∧ W9.cell? ⟨gb, 2, none⟩ = some (.int .i64 b) ∧ W9.cell? ⟨gb, 3, none⟩ = some (.int .i64 c))) ((refine And.intro (Bx.cells3 ?_) (Bx.cells4U ?_)) <;> repeat (first | with_reducible assumption | (with_reducible exact BX.at _ (by first | with_reducible rfl | (simp; done))) | (with_reducible exact Bx.at _ (by first | with_reducible rfl | (simp; done))) | with_reducible refine Bx.drew ?_ | with_reducible refine Bx.alloc ?_ _ | with_reducible refine Bx.call ?_ (by with_reducible assumption) | with_reducible refine BX.drew ?_ | with_reducible refine BX.alloc ?_ _ | with_reducible refine BX.call ?_ (by with_reducible assumption) | with_reducible refine Bx.far (by first | omega | (dsimp only; omega)) ?_ | with_reducible refine Bx.st3 ?_))
        (first
          | (go_at_call_of 37 (Value.agg #[.int .i64 a, .int .i64 0]); with_reducible refine (HA1.out _).mono ?_; rintro e w4 ⟨rfl, hb4⟩; have C4 : Below w3.heap.size w3 w4 := (by repeat (first | with_reducible assumption | with_reducible exact Below.refl _ _ | with_reducible refine Below.drew ?_ | with_reducible refine Below.alloc ?_ (by first | omega | (simp <;> omega)) _ | with_reducible refine Below.setCell ?_ (by first | omega | (dsimp only; omega)) _ | with_reducible refine bstep ?_ (by with_reducible assumption))))
          | (go_at_call_of 37 (Value.agg #[.int .i64 b, .int .i64 c]); with_reducible refine (HA2.out _).mono ?_; rintro e w5 ⟨rfl, hb5⟩; have C5 : Below w3.heap.size w3 w5 := (by repeat (first | with_reducible assumption | with_reducible exact Below.refl _ _ | with_reducible refine Below.drew ?_ | with_reducible refine Below.alloc ?_ (by first | omega | (simp <;> omega)) _ | with_reducible refine Below.setCell ?_ (by first | omega | (dsimp only; omega)) _ | with_reducible refine bstep ?_ (by with_reducible assumption)))))
      all_goals
        have P5 := P3.call C5
        have L5 := L3.call C5
        have R5 := R3.call C5
        have B5 := bstep B3 C5
        clear P3 L3 R3 B3 p3c0 p3c1 p3c2 p3c3 p3c4 p3l l3c0 l3c1 l3c2 l3l D3 G3 d3c0 d3c1 d3c2 d3l g3c0 g3c1 g3c2 g3c3 g3l
        have p5c0 := P5.c0
        have p5c1 := P5.c1
        have p5c2 := P5.c2
        have p5c3 := P5.c3
        have p5c4 := P5.c4
        have p5l := P5.lt
        have l5c0 := L5.c0
        have l5c1 := L5.c1
        have l5c2 := L5.c2
        have l5l := L5.lt
        have r5c0 := R5.c0
        have r5c1 := R5.c1
        have r5c2 := R5.c2
        have r5c3 := R5.c3
        have r5c4 := R5.c4
        have r5f0 := R5.f0
        have r5f1 := R5.f1
        have r5f2 := R5.f2
        have r5f3 := R5.f3
        have r5f4 := R5.f4
        have r5l := R5.lt
        go_wp2
        refine bodyPost_ret (v := .tuple #[(.agg #[.int .i64 0, .int .i64 0, .int .i64 0, .int .i64 0, .slice none 0 0]), .int .i64 5]) (by simp [results, Tryd.results15, go_sem, *]) rfl ⟨_, _, _, _, _, _, _, _, EA.out, rfl, ?_, ?_⟩
        · exact SRow.nil _ 1 _ _
        · repeat (first | with_reducible exact Below.refl _ _ | with_reducible assumption | with_reducible refine Below.setCell ?_ (by first | omega | (dsimp only; omega) | (simp <;> omega)) _ | with_reducible refine Below.alloc ?_ (by first | omega | (simp <;> omega)) _ | with_reducible refine bstep ?_ (by with_reducible assumption) | with_reducible refine Below.drew ?_ | with_reducible refine below_drewN ?_ _)
  · have EA := Lib.hid (show spA f A B C n F a b c = (f, a, b, c, a.toNat * c.toNat, onG A B C F a.toNat c.toNat, 0) by simp [spA, hin, *])
    clear hin hx
    have HSP := Lib.hid (fun (X : World) (hX : Below w.heap.size w X) => (show Calls Tryd.prog 38 #[.agg #[.int .i64 f, .int .i64 A, .int .i64 B, .int .i64 C, .slice ao n cap], .agg #[.int .i64 a, .int .i64 b, .int .i64 c]] X (fun e w' => ∃ v' : Value, e = .returned (.agg #[.int .i64 f, .int .i64 a, .int .i64 b, .int .i64 c, v']) ∧ SRow X.heap.size w'.heap.size 1 v' (a.toNat * c.toNat) (onG A B C F a.toNat c.toNat) w' ∧ Below X.heap.size X w') from by
      obtain ⟨p, q, rfl, rfl, hp⟩ := patB_of k1
      have hl := latB_iff.1 k2
      obtain ⟨p', rfl⟩ : ∃ p' : Nat, a = (p' : Int) := ⟨a.toNat, by have := hl.1; omega⟩
      obtain ⟨q', rfl⟩ : ∃ q' : Nat, c = (q' : Int) := ⟨c.toNat, by have := hl.2.1; omega⟩
      have h9 := l09On_any hp hl (R.out.call hX)
      exact h9))
    have HA1 := Lib.hid (fun (X : World) => (show Calls Tryd.prog 37 #[.agg #[.int .i64 x0, .int .i64 y0, .int .i64 z0], .agg #[.int .i64 a, .int .i64 0]] X (fun e w' => e = .returned (.bool true) ∧ Below X.heap.size X w') from by
      have h9 := l03Has_any x0 y0 z0 a 0 X HLA.out HVB.out.1.1 HVB.out.1.2
      rw [k3] at h9
      exact h9))
    have HA2 := Lib.hid (fun (X : World) => (show Calls Tryd.prog 37 #[.agg #[.int .i64 x0, .int .i64 y0, .int .i64 z0], .agg #[.int .i64 b, .int .i64 c]] X (fun e w' => e = .returned (.bool true) ∧ Below X.heap.size X w') from by
      have h9 := l03Has_any x0 y0 z0 b c X HLA.out HVB.out.2.1 HVB.out.2.2
      rw [k4] at h9
      exact h9))
    go_enter Tryd.func15, Tryd.ntmps15
    go_wp2_with fail
    with_reducible refine (specIsPat_any f A B C (R.out.call B0)).mono ?_
    rintro e w1 ⟨rfl, hb1⟩
    rw [k1]
    have P1 := P0.call hb1
    have L1 := L0.call hb1
    have R1 := R0.call hb1
    have B1 := bstep B0 hb1
    clear P0 L0 R0 B0 hb1
    have p1c0 := P1.c0
    have p1c1 := P1.c1
    have p1c2 := P1.c2
    have p1c3 := P1.c3
    have p1c4 := P1.c4
    have p1l := P1.lt
    have l1c0 := L1.c0
    have l1c1 := L1.c1
    have l1c2 := L1.c2
    have l1l := L1.lt
    go_wp2_with fail
    with_reducible refine (specIsLattice_any a b c _).mono ?_
    rintro e w2 ⟨rfl, hb2⟩
    rw [k2]
    have P2 := P1.call hb2
    have L2 := L1.call hb2
    have R2 := R1.call hb2
    have B2 := bstep B1 hb2
    clear P1 L1 R1 B1 hb2 p1c0 p1c1 p1c2 p1c3 p1c4 l1c0 l1c1 l1c2 p1l l1l
    have p2c0 := P2.c0
    have p2c1 := P2.c1
    have p2c2 := P2.c2
    have p2c3 := P2.c3
    have p2c4 := P2.c4
    have p2l := P2.lt
    have l2c0 := L2.c0
    have l2c1 := L2.c1
    have l2c2 := L2.c2
    have l2l := L2.lt
    go_upto_region 1 with fail
    go_cut [6, 7] (fun s6 s7 wx => MidSp w2 x0 y0 z0 a b c s6 s7 wx)
    case first =>
      go_region_held3 (fun W9 => (W9.cell? ⟨w.heap.size, 0, none⟩ = some (.int .i64 f) ∧ W9.cell? ⟨w.heap.size, 1, none⟩ = some (.int .i64 A) ∧ W9.cell? ⟨w.heap.size, 2, none⟩ = some (.int .i64 B) ∧ W9.cell? ⟨w.heap.size, 3, none⟩ = some (.int .i64 C) ∧ W9.cell? ⟨w.heap.size, 4, none⟩ = some (.slice ao n cap)) ∧ (W9.cell? ⟨(w.heap.size + 1), 0, none⟩ = some (.int .i64 a) ∧ W9.cell? ⟨(w.heap.size + 1), 1, none⟩ = some (.int .i64 b) ∧ W9.cell? ⟨(w.heap.size + 1), 2, none⟩ = some (.int .i64 c))) ((refine And.intro (Bx.cells5 ?_) (Bx.cells3 ?_)) <;> repeat (first | with_reducible assumption | (with_reducible exact BX.at _ (by first | with_reducible rfl | (simp; done))) | (with_reducible exact Bx.at _ (by first | with_reducible rfl | (simp; done))) | with_reducible refine Bx.drew ?_ | with_reducible refine Bx.alloc ?_ _ | with_reducible refine Bx.call ?_ (by with_reducible assumption) | with_reducible refine BX.drew ?_ | with_reducible refine BX.alloc ?_ _ | with_reducible refine BX.call ?_ (by with_reducible assumption) | with_reducible refine Bx.far (by first | omega | (dsimp only; omega)) ?_ | with_reducible refine Bx.st3 ?_))
        (first
          | (go_at_call 35; with_reducible refine (HFL.out _ (by repeat (first | with_reducible assumption | with_reducible exact Below.refl _ _ | with_reducible refine Below.drew ?_ | with_reducible refine Below.alloc ?_ (by first | omega | (simp <;> omega)) _ | with_reducible refine Below.setCell ?_ (by first | omega | (dsimp only; omega)) _ | with_reducible refine bstep ?_ (by with_reducible assumption)))).mono ?_; rintro e w3 ⟨rfl, hb3⟩; (try ((refine useIt (P := BX w2.heap.size [.int .i64 0, .int .i64 0, .int .i64 0] w3) ?_ ?_); (repeat (first | with_reducible assumption | (with_reducible exact BX.at _ (by first | with_reducible rfl | (simp; done))) | (with_reducible exact Bx.at _ (by first | with_reducible rfl | (simp; done))) | with_reducible refine Bx.drew ?_ | with_reducible refine Bx.alloc ?_ _ | with_reducible refine Bx.call ?_ (by with_reducible assumption) | with_reducible refine BX.drew ?_ | with_reducible refine BX.alloc ?_ _ | with_reducible refine BX.call ?_ (by with_reducible assumption) | with_reducible refine Bx.far (by first | omega | (dsimp only; omega)) ?_ | with_reducible refine Bx.st3 ?_)); intro d3_2; have d3_2c0 := d3_2.c0; have d3_2c1 := d3_2.c1; have d3_2c2 := d3_2.c2; have d3_2f0 := d3_2.f0; have d3_2f1 := d3_2.f1; have d3_2f2 := d3_2.f2; have d3_2l := d3_2.lt)); have C3 : Below w2.heap.size w2 w3 := (by repeat (first | with_reducible assumption | with_reducible exact Below.refl _ _ | with_reducible refine Below.drew ?_ | with_reducible refine Below.alloc ?_ (by first | omega | (simp <;> omega)) _ | with_reducible refine Below.setCell ?_ (by first | omega | (dsimp only; omega)) _ | with_reducible refine bstep ?_ (by with_reducible assumption))); have y3 := C3.size; have q3 := P2.call C3; have n3 := L2.call C3; have q3l := q3.lt; have n3l := n3.lt)
          | (go_at_call 36; with_reducible refine (l03BasisO_any a b c _).mono ?_; rintro e w4 ⟨vb, rfl, hown, hb4⟩; obtain ⟨gb, cb, rfl, hgb, GX⟩ := bx_of_own hown; clear hown; (try simp at hgb); have GXl := GX.lt; (try ((refine useIt (P := BX w2.heap.size [.int .i64 0, .int .i64 0, .int .i64 0] w4) ?_ ?_); (repeat (first | with_reducible assumption | (with_reducible exact BX.at _ (by first | with_reducible rfl | (simp; done))) | (with_reducible exact Bx.at _ (by first | with_reducible rfl | (simp; done))) | with_reducible refine Bx.drew ?_ | with_reducible refine Bx.alloc ?_ _ | with_reducible refine Bx.call ?_ (by with_reducible assumption) | with_reducible refine BX.drew ?_ | with_reducible refine BX.alloc ?_ _ | with_reducible refine BX.call ?_ (by with_reducible assumption) | with_reducible refine Bx.far (by first | omega | (dsimp only; omega)) ?_ | with_reducible refine Bx.st3 ?_)); intro d4_2; have d4_2c0 := d4_2.c0; have d4_2c1 := d4_2.c1; have d4_2c2 := d4_2.c2; have d4_2f0 := d4_2.f0; have d4_2f1 := d4_2.f1; have d4_2f2 := d4_2.f2; have d4_2l := d4_2.lt)); (try ((refine useIt (P := BX w3.heap.size [.int .i64 0, .int .i64 0, .int .i64 0] w4) ?_ ?_); (repeat (first | with_reducible assumption | (with_reducible exact BX.at _ (by first | with_reducible rfl | (simp; done))) | (with_reducible exact Bx.at _ (by first | with_reducible rfl | (simp; done))) | with_reducible refine Bx.drew ?_ | with_reducible refine Bx.alloc ?_ _ | with_reducible refine Bx.call ?_ (by with_reducible assumption) | with_reducible refine BX.drew ?_ | with_reducible refine BX.alloc ?_ _ | with_reducible refine BX.call ?_ (by with_reducible assumption) | with_reducible refine Bx.far (by first | omega | (dsimp only; omega)) ?_ | with_reducible refine Bx.st3 ?_)); intro d4_3; have d4_3c0 := d4_3.c0; have d4_3c1 := d4_3.c1; have d4_3c2 := d4_3.c2; have d4_3f0 := d4_3.f0; have d4_3f1 := d4_3.f1; have d4_3f2 := d4_3.f2; have d4_3l := d4_3.lt)); have C4 : Below w2.heap.size w2 w4 := (by repeat (first | with_reducible assumption | with_reducible exact Below.refl _ _ | with_reducible refine Below.drew ?_ | with_reducible refine Below.alloc ?_ (by first | omega | (simp <;> omega)) _ | with_reducible refine Below.setCell ?_ (by first | omega | (dsimp only; omega)) _ | with_reducible refine bstep ?_ (by with_reducible assumption))); have y4 := C4.size; have q4 := P2.call C4; have n4 := L2.call C4; have q4l := q4.lt; have n4l := n4.lt))
      all_goals
        go_wp2_with fail
        go_meet
        exact ⟨_, _, _, rfl, rfl, (by repeat (first | with_reducible assumption | (with_reducible exact BX.at _ (by first | with_reducible rfl | (simp; done))) | (with_reducible exact Bx.at _ (by first | with_reducible rfl | (simp; done))) | with_reducible refine Bx.drew ?_ | with_reducible refine Bx.alloc ?_ _ | with_reducible refine Bx.call ?_ (by with_reducible assumption) | with_reducible refine BX.drew ?_ | with_reducible refine BX.alloc ?_ _ | with_reducible refine BX.call ?_ (by with_reducible assumption) | with_reducible refine Bx.far (by first | omega | (dsimp only; omega)) ?_ | with_reducible refine Bx.st3 ?_)), (by repeat (first | with_reducible assumption | (with_reducible exact BX.at _ (by first | with_reducible rfl | (simp; done))) | (with_reducible exact Bx.at _ (by first | with_reducible rfl | (simp; done))) | with_reducible refine Bx.drew ?_ | with_reducible refine Bx.alloc ?_ _ | with_reducible refine Bx.call ?_ (by with_reducible assumption) | with_reducible refine BX.drew ?_ | with_reducible refine BX.alloc ?_ _ | with_reducible refine BX.call ?_ (by with_reducible assumption) | with_reducible refine Bx.far (by first | omega | (dsimp only; omega)) ?_ | with_reducible refine Bx.st3 ?_)), (by repeat (first | with_reducible assumption | with_reducible exact Below.refl _ _ | with_reducible refine Below.drew ?_ | with_reducible refine Below.alloc ?_ (by first | omega | (simp <;> omega)) _ | with_reducible refine Below.setCell ?_ (by first | omega | (dsimp only; omega)) _ | with_reducible refine bstep ?_ (by with_reducible assumption)))⟩
    case rest =>
      obtain ⟨bx, gb, cb, rfl, rfl, D3, G3, hb3⟩ := hcut
      obtain ⟨w3, hw3⟩ : ∃ z, z = wc := ⟨_, rfl⟩
      subst hw3
      have P3 := P2.call hb3
      have L3 := L2.call hb3
      have R3 := R2.call hb3
      have B3 := bstep B2 hb3
      clear P2 L2 R2 B2 hb3 p2c0 p2c1 p2c2 p2c3 p2c4 l2c0 l2c1 l2c2 p2l l2l
      have p3c0 := P3.c0
      have p3c1 := P3.c1
      have p3c2 := P3.c2
      have p3c3 := P3.c3
      have p3c4 := P3.c4
      have p3l := P3.lt
      have l3c0 := L3.c0
      have l3c1 := L3.c1
      have l3c2 := L3.c2
      have l3l := L3.lt
      have d3c0 := D3.c0
      have d3c1 := D3.c1
      have d3c2 := D3.c2
      have d3l := D3.lt
      have g3c0 := G3.c0
      have g3c1 := G3.c1
      have g3c2 := G3.c2
      have g3c3 := G3.c3
      have g3l := G3.lt
      go_wp2_with fail
      go_region_held3 (fun W9 => (W9.cell? ⟨bx, 0, none⟩ = some (.int .i64 x0) ∧ W9.cell? ⟨bx, 1, none⟩ = some (.int .i64 y0) ∧ W9.cell? ⟨bx, 2, none⟩ = some (.int .i64 z0)) ∧ (W9.cell? ⟨gb, 0, none⟩ = some (.int .i64 a) ∧ W9.cell? ⟨gb, 1, none⟩ = some (.int .i64 0) ∧ W9.cell? ⟨gb, 2, none⟩ = some (.int .i64 b) ∧ W9.cell? ⟨gb, 3, none⟩ = some (.int .i64 c))) ((refine And.intro (Bx.cells3 ?_) (Bx.cells4U ?_)) <;> repeat (first | with_reducible assumption | (with_reducible exact BX.at _ (by first | with_reducible rfl | (simp; done))) | (with_reducible exact Bx.at _ (by first | with_reducible rfl | (simp; done))) | with_reducible refine Bx.drew ?_ | with_reducible refine Bx.alloc ?_ _ | with_reducible refine Bx.call ?_ (by with_reducible assumption) | with_reducible refine BX.drew ?_ | with_reducible refine BX.alloc ?_ _ | with_reducible refine BX.call ?_ (by with_reducible assumption) | with_reducible refine Bx.far (by first | omega | (dsimp only; omega)) ?_ | with_reducible refine Bx.st3 ?_))
        (first
          | (go_at_call_of 37 (Value.agg #[.int .i64 a, .int .i64 0]); with_reducible refine (HA1.out _).mono ?_; rintro e w4 ⟨rfl, hb4⟩; have C4 : Below w3.heap.size w3 w4 := (by repeat (first | with_reducible assumption | with_reducible exact Below.refl _ _ | with_reducible refine Below.drew ?_ | with_reducible refine Below.alloc ?_ (by first | omega | (simp <;> omega)) _ | with_reducible refine Below.setCell ?_ (by first | omega | (dsimp only; omega)) _ | with_reducible refine bstep ?_ (by with_reducible assumption))))
          | (go_at_call_of 37 (Value.agg #[.int .i64 b, .int .i64 c]); with_reducible refine (HA2.out _).mono ?_; rintro e w5 ⟨rfl, hb5⟩; have C5 : Below w3.heap.size w3 w5 := (by repeat (first | with_reducible assumption | with_reducible exact Below.refl _ _ | with_reducible refine Below.drew ?_ | with_reducible refine Below.alloc ?_ (by first | omega | (simp <;> omega)) _ | with_reducible refine Below.setCell ?_ (by first | omega | (dsimp only; omega)) _ | with_reducible refine bstep ?_ (by with_reducible assumption)))))
      all_goals
        have P5 := P3.call C5
        have L5 := L3.call C5
        have R5 := R3.call C5
        have B5 := bstep B3 C5
        clear P3 L3 R3 B3 p3c0 p3c1 p3c2 p3c3 p3c4 p3l l3c0 l3c1 l3c2 l3l D3 G3 d3c0 d3c1 d3c2 d3l g3c0 g3c1 g3c2 g3c3 g3l
        have p5c0 := P5.c0
        have p5c1 := P5.c1
        have p5c2 := P5.c2
        have p5c3 := P5.c3
        have p5c4 := P5.c4
        have p5l := P5.lt
        have l5c0 := L5.c0
        have l5c1 := L5.c1
        have l5c2 := L5.c2
        have l5l := L5.lt
        go_wp2_with fail
        with_reducible refine (HSP.out _ B5).mono ?_
        rintro e w6 ⟨v6, rfl, r6, hb6⟩
        have R6 := R5.call hb6
        have B6 := bstep B5 hb6
        have b5l := R5.lt
        have HR := Lib.hid (r6.low (lo' := w.heap.size + 3) (by omega))
        obtain ⟨ao6, cap6, rfl⟩ := r6.slice
        have HB := Lib.hid B6
        clear R5 B5 hb6 P5 L5 p5c0 p5c1 p5c2 p5c3 p5c4 p5l l5c0 l5c1 l5c2 l5l r6 B6
        have r6c0 := R6.c0
        have r6c1 := R6.c1
        have r6c2 := R6.c2
        have r6c3 := R6.c3
        have r6c4 := R6.c4
        have r6f0 := R6.f0
        have r6f1 := R6.f1
        have r6f2 := R6.f2
        have r6f3 := R6.f3
        have r6f4 := R6.f4
        have r6l := R6.lt
        go_wp2
        refine bodyPost_ret (v := .tuple #[(.agg #[.int .i64 f, .int .i64 a, .int .i64 b, .int .i64 c, .slice ao6 (a.toNat * c.toNat) cap6]), .int .i64 0]) (by simp [results, Tryd.results15, go_sem, *]) rfl ⟨_, _, _, _, _, _, _, _, EA.out, rfl, ?_, ?_⟩
        · refine SRow.up (hi := w6.heap.size) (SRow.low (lo := w.heap.size + 3) ?_ (by omega))
          repeat (first | with_reducible exact HR.out | with_reducible refine SRow.put (by first | omega | (dsimp only; omega)) _ ?_)
        · have hB := HB.out
          repeat (first | with_reducible exact Below.refl _ _ | with_reducible assumption | with_reducible refine Below.setCell ?_ (by first | omega | (dsimp only; omega) | (simp <;> omega)) _ | with_reducible refine Below.alloc ?_ (by first | omega | (simp <;> omega)) _ | with_reducible refine bstep ?_ (by with_reducible assumption) | with_reducible refine Below.drew ?_ | with_reducible refine below_drewN ?_ _)
end Go.Proofs.YtpejihckepaojaaDoor
