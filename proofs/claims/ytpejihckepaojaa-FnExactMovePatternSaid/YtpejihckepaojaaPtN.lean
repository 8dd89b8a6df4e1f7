/-
  MovePattern, in the program and in the model. Condition: a slice that lies in a block of its own.
-/
import Derived.Test.YtpejihckepaojaaPtM
import Derived.Test.YtpejihckepaojaaVb
namespace Go.Proofs.Ytpejihckepaojaa
open Go.RowKit
set_option linter.unusedSimpArgs false
set_option linter.unusedVariables false

def mvA (f A B C : Int) (n : Nat) (F : Nat → Int) (a b c d x y : Int) : PR :=
  if patB f A B C n F = true then (if pmB f a b c d = true ∧ vecB x y = true then (f, (mapI A B C a b c d).1, (mapI A B C a b c d).2.1, (mapI A B C a b c d).2.2, (mapI A B C a b c d).1.toNat * (mapI A B C a b c d).2.2.toNat, cpyG A B C F (d * (a * d - b * c)) (-b * (a * d - b * c)) (-c * (a * d - b * c)) (a * (a * d - b * c)) (bkX a b c d x y) (bkY a b c d x y) (mapI A B C a b c d).1.toNat (mapI A B C a b c d).2.2.toNat, 0) else noP 2) else noP 1
set_option maxRecDepth 100000 in
set_option maxHeartbeats 16000000 in
theorem implMv_any {lo hi n : Nat} {v : Value} {F : Nat → Int} {w : World} (f A B C a b c d x y : Int) (hv : SRow lo hi 1 v n F w) :
    Calls Try.prog 27 #[.agg #[.int .i64 f, .int .i64 A, .int .i64 B, .int .i64 C, v], .agg #[.int .i64 a, .int .i64 b, .int .i64 c, .int .i64 d, .int .i64 x, .int .i64 y]] w (PAns (mvA f A B C n F a b c d x y) w) := by
  have R := Lib.hid hv
  obtain ⟨ao, cap, rfl⟩ := hv.slice
  clear hv
  have P0 : Bx w.heap.size [.int .i64 f, .int .i64 A, .int .i64 B, .int .i64 C, .slice ao n cap] (((w.alloc (.cells #[.int .i64 f, .int .i64 A, .int .i64 B, .int .i64 C, .slice ao n cap] 31)).alloc (.cells #[.int .i64 a, .int .i64 b, .int .i64 c, .int .i64 d, .int .i64 x, .int .i64 y] 58)).alloc (.cells #[.int .i64 0, .int .i64 0, .int .i64 0, .int .i64 0, .slice none 0 0] 31)) := ((Bx.at _ rfl).alloc _).alloc _
  have M0 : Bx (w.heap.size + 1) [.int .i64 a, .int .i64 b, .int .i64 c, .int .i64 d, .int .i64 x, .int .i64 y] (((w.alloc (.cells #[.int .i64 f, .int .i64 A, .int .i64 B, .int .i64 C, .slice ao n cap] 31)).alloc (.cells #[.int .i64 a, .int .i64 b, .int .i64 c, .int .i64 d, .int .i64 x, .int .i64 y] 58)).alloc (.cells #[.int .i64 0, .int .i64 0, .int .i64 0, .int .i64 0, .slice none 0 0] 31)) := (Bx.at _ (by simp)).alloc _
  have R0 : BX (w.heap.size + 1 + 1) [.int .i64 0, .int .i64 0, .int .i64 0, .int .i64 0, .slice none 0 0] (((w.alloc (.cells #[.int .i64 f, .int .i64 A, .int .i64 B, .int .i64 C, .slice ao n cap] 31)).alloc (.cells #[.int .i64 a, .int .i64 b, .int .i64 c, .int .i64 d, .int .i64 x, .int .i64 y] 58)).alloc (.cells #[.int .i64 0, .int .i64 0, .int .i64 0, .int .i64 0, .slice none 0 0] 31)) := BX.at _ (by simp)
  have B0 : Below w.heap.size w (((w.alloc (.cells #[.int .i64 f, .int .i64 A, .int .i64 B, .int .i64 C, .slice ao n cap] 31)).alloc (.cells #[.int .i64 a, .int .i64 b, .int .i64 c, .int .i64 d, .int .i64 x, .int .i64 y] 58)).alloc (.cells #[.int .i64 0, .int .i64 0, .int .i64 0, .int .i64 0, .slice none 0 0] 31)) := by repeat (first | with_reducible exact Below.refl _ _ | with_reducible assumption | with_reducible refine Below.setCell ?_ (by first | omega | (dsimp only; omega) | (simp <;> omega)) _ | with_reducible refine Below.alloc ?_ (by first | omega | (simp <;> omega)) _ | with_reducible refine bstep ?_ (by with_reducible assumption) | with_reducible refine Below.drew ?_ | with_reducible refine below_drewN ?_ _)
  rcases k1 : patB f A B C n F with _ | _
  · have EA := Lib.hid (show mvA f A B C n F a b c d x y = (0, 0, 0, 0, 0, fun _ => 0, 1) by simp [mvA, noP, *])
    go_enter Try.func27, Try.ntmps27
    go_wp2_with fail
    with_reducible refine (patValid_any f A B C (R.out.call B0)).mono ?_
    rintro e w1 ⟨rfl, hb1⟩
    rw [k1]
    have P1 := P0.call hb1
    have M1 := M0.call hb1
    have R1 := R0.call hb1
    have B1 := bstep B0 hb1
    clear P0 M0 R0 B0 hb1
    have p1c0 := P1.c0
    have p1c1 := P1.c1
    have p1c2 := P1.c2
    have p1c3 := P1.c3
    have p1c4 := P1.c4
    have p1l := P1.lt
    have m1c0 := M1.c0
    have m1c1 := M1.c1
    have m1c2 := M1.c2
    have m1c3 := M1.c3
    have m1c4 := M1.c4
    have m1c5 := M1.c5
    have m1l := M1.lt
    have r1c0 := R1.c0
    have r1c1 := R1.c1
    have r1c2 := R1.c2
    have r1c3 := R1.c3
    have r1c4 := R1.c4
    have r1f0 := R1.f0
    have r1f1 := R1.f1
    have r1f2 := R1.f2
    have r1f3 := R1.f3
    have r1f4 := R1.f4
    have r1l := R1.lt
    go_wp2
    refine bodyPost_ret (v := .tuple #[(.agg #[.int .i64 0, .int .i64 0, .int .i64 0, .int .i64 0, .slice none 0 0]), .int .i64 1]) (by simp [results, Try.results27, go_sem, *]) rfl ⟨_, _, _, _, _, _, _, _, EA.out, rfl, ?_, ?_⟩
    · exact SRow.nil _ 1 _ _
    · repeat (first | with_reducible exact Below.refl _ _ | with_reducible assumption | with_reducible refine Below.setCell ?_ (by first | omega | (dsimp only; omega) | (simp <;> omega)) _ | with_reducible refine Below.alloc ?_ (by first | omega | (simp <;> omega)) _ | with_reducible refine bstep ?_ (by with_reducible assumption) | with_reducible refine Below.drew ?_ | with_reducible refine below_drewN ?_ _)
  rcases k2 : pmB f a b c d with _ | _
  · have EA := Lib.hid (show mvA f A B C n F a b c d x y = (0, 0, 0, 0, 0, fun _ => 0, 2) by simp [mvA, noP, *])
    go_enter Try.func27, Try.ntmps27
    go_wp2_with fail
    with_reducible refine (patValid_any f A B C (R.out.call B0)).mono ?_
    rintro e w1 ⟨rfl, hb1⟩
    rw [k1]
    have P1 := P0.call hb1
    have M1 := M0.call hb1
    have R1 := R0.call hb1
    have B1 := bstep B0 hb1
    clear P0 M0 R0 B0 hb1
    have p1c0 := P1.c0
    have p1c1 := P1.c1
    have p1c2 := P1.c2
    have p1c3 := P1.c3
    have p1c4 := P1.c4
    have p1l := P1.lt
    have m1c0 := M1.c0
    have m1c1 := M1.c1
    have m1c2 := M1.c2
    have m1c3 := M1.c3
    have m1c4 := M1.c4
    have m1c5 := M1.c5
    have m1l := M1.lt
    go_wp2_with fail
    with_reducible refine (implIsPoint_any f a b c d _).mono ?_
    rintro e w2 ⟨rfl, hb2⟩
    rw [k2]
    have P2 := P1.call hb2
    have M2 := M1.call hb2
    have R2 := R1.call hb2
    have B2 := bstep B1 hb2
    clear P1 M1 R1 B1 hb2 p1c0 p1c1 p1c2 p1c3 p1c4 m1c0 m1c1 m1c2 m1c3 m1c4 m1c5 p1l m1l
    have p2c0 := P2.c0
    have p2c1 := P2.c1
    have p2c2 := P2.c2
    have p2c3 := P2.c3
    have p2c4 := P2.c4
    have p2l := P2.lt
    have m2c0 := M2.c0
    have m2c1 := M2.c1
    have m2c2 := M2.c2
    have m2c3 := M2.c3
    have m2c4 := M2.c4
    have m2c5 := M2.c5
    have m2l := M2.lt
    have r2c0 := R2.c0
    have r2c1 := R2.c1
    have r2c2 := R2.c2
    have r2c3 := R2.c3
    have r2c4 := R2.c4
    have r2f0 := R2.f0
    have r2f1 := R2.f1
    have r2f2 := R2.f2
    have r2f3 := R2.f3
    have r2f4 := R2.f4
    have r2l := R2.lt
    go_wp2
    refine bodyPost_ret (v := .tuple #[(.agg #[.int .i64 0, .int .i64 0, .int .i64 0, .int .i64 0, .slice none 0 0]), .int .i64 2]) (by simp [results, Try.results27, go_sem, *]) rfl ⟨_, _, _, _, _, _, _, _, EA.out, rfl, ?_, ?_⟩
    · exact SRow.nil _ 1 _ _
    · repeat (first | with_reducible exact Below.refl _ _ | with_reducible assumption | with_reducible refine Below.setCell ?_ (by first | omega | (dsimp only; omega) | (simp <;> omega)) _ | with_reducible refine Below.alloc ?_ (by first | omega | (simp <;> omega)) _ | with_reducible refine bstep ?_ (by with_reducible assumption) | with_reducible refine Below.drew ?_ | with_reducible refine below_drewN ?_ _)
  rcases k3 : vecB x y with _ | _
  · have EA := Lib.hid (show mvA f A B C n F a b c d x y = (0, 0, 0, 0, 0, fun _ => 0, 2) by simp [mvA, noP, *])
    go_enter Try.func27, Try.ntmps27
    go_wp2_with fail
    with_reducible refine (patValid_any f A B C (R.out.call B0)).mono ?_
    rintro e w1 ⟨rfl, hb1⟩
    rw [k1]
    have P1 := P0.call hb1
    have M1 := M0.call hb1
    have R1 := R0.call hb1
    have B1 := bstep B0 hb1
    clear P0 M0 R0 B0 hb1
    have p1c0 := P1.c0
    have p1c1 := P1.c1
    have p1c2 := P1.c2
    have p1c3 := P1.c3
    have p1c4 := P1.c4
    have p1l := P1.lt
    have m1c0 := M1.c0
    have m1c1 := M1.c1
    have m1c2 := M1.c2
    have m1c3 := M1.c3
    have m1c4 := M1.c4
    have m1c5 := M1.c5
    have m1l := M1.lt
    go_wp2_with fail
    with_reducible refine (implIsPoint_any f a b c d _).mono ?_
    rintro e w2 ⟨rfl, hb2⟩
    rw [k2]
    have P2 := P1.call hb2
    have M2 := M1.call hb2
    have R2 := R1.call hb2
    have B2 := bstep B1 hb2
    clear P1 M1 R1 B1 hb2 p1c0 p1c1 p1c2 p1c3 p1c4 m1c0 m1c1 m1c2 m1c3 m1c4 m1c5 p1l m1l
    have p2c0 := P2.c0
    have p2c1 := P2.c1
    have p2c2 := P2.c2
    have p2c3 := P2.c3
    have p2c4 := P2.c4
    have p2l := P2.lt
    have m2c0 := M2.c0
    have m2c1 := M2.c1
    have m2c2 := M2.c2
    have m2c3 := M2.c3
    have m2c4 := M2.c4
    have m2c5 := M2.c5
    have m2l := M2.lt
    go_wp2_with fail
    with_reducible refine (isValid_any x y _).mono ?_
    rintro e w3 ⟨rfl, hb3⟩
    rw [k3]
    have P3 := P2.call hb3
    have M3 := M2.call hb3
    have R3 := R2.call hb3
    have B3 := bstep B2 hb3
    clear P2 M2 R2 B2 hb3 p2c0 p2c1 p2c2 p2c3 p2c4 m2c0 m2c1 m2c2 m2c3 m2c4 m2c5 p2l m2l
    have p3c0 := P3.c0
    have p3c1 := P3.c1
    have p3c2 := P3.c2
    have p3c3 := P3.c3
    have p3c4 := P3.c4
    have p3l := P3.lt
    have m3c0 := M3.c0
    have m3c1 := M3.c1
    have m3c2 := M3.c2
    have m3c3 := M3.c3
    have m3c4 := M3.c4
    have m3c5 := M3.c5
    have m3l := M3.lt
    have r3c0 := R3.c0
    have r3c1 := R3.c1
    have r3c2 := R3.c2
    have r3c3 := R3.c3
    have r3c4 := R3.c4
    have r3f0 := R3.f0
    have r3f1 := R3.f1
    have r3f2 := R3.f2
    have r3f3 := R3.f3
    have r3f4 := R3.f4
    have r3l := R3.lt
    go_wp2
    refine bodyPost_ret (v := .tuple #[(.agg #[.int .i64 0, .int .i64 0, .int .i64 0, .int .i64 0, .slice none 0 0]), .int .i64 2]) (by simp [results, Try.results27, go_sem, *]) rfl ⟨_, _, _, _, _, _, _, _, EA.out, rfl, ?_, ?_⟩
    · exact SRow.nil _ 1 _ _
    · repeat (first | with_reducible exact Below.refl _ _ | with_reducible assumption | with_reducible refine Below.setCell ?_ (by first | omega | (dsimp only; omega) | (simp <;> omega)) _ | with_reducible refine Below.alloc ?_ (by first | omega | (simp <;> omega)) _ | with_reducible refine bstep ?_ (by with_reducible assumption) | with_reducible refine Below.drew ?_ | with_reducible refine below_drewN ?_ _)
  obtain ⟨i0, i1, i2, hi9⟩ : ∃ u v z, mapI A B C a b c d = (u, v, z) := ⟨_, _, _, rfl⟩
  have EA := Lib.hid (show mvA f A B C n F a b c d x y = (f, i0, i1, i2, i0.toNat * i2.toNat, cpyG A B C F (d * (a * d - b * c)) (-b * (a * d - b * c)) (-c * (a * d - b * c)) (a * (a * d - b * c)) (bkX a b c d x y) (bkY a b c d x y) i0.toNat i2.toNat, 0) by simp [mvA, k1, k2, k3, hi9])
  have HI := Lib.hid (show mapI A B C a b c d = (i0, i1, i2) from hi9)
  have HSP := Lib.hid (fun (X : World) (hX : Below w.heap.size w X) => (show Calls Try.prog 45 #[.agg #[.int .i64 f, .int .i64 A, .int .i64 B, .int .i64 C, .slice ao n cap], .agg #[.int .i64 a, .int .i64 b, .int .i64 c, .int .i64 d, .int .i64 x, .int .i64 y]] X (fun e w' => ∃ v' : Value, e = .returned (.agg #[.int .i64 f, .int .i64 i0, .int .i64 i1, .int .i64 i2, v']) ∧ SRow X.heap.size w'.heap.size 1 v' (i0.toNat * i2.toNat) (cpyG A B C F (d * (a * d - b * c)) (-b * (a * d - b * c)) (-c * (a * d - b * c)) (a * (a * d - b * c)) (bkX a b c d x y) (bkY a b c d x y) i0.toNat i2.toNat) w' ∧ Below X.heap.size X w') from by
    obtain ⟨p, q, rfl, rfl, hp⟩ := patB_of k1
    obtain ⟨hf, hmb, hk⟩ := pm_keep k2
    obtain ⟨_, _, hl, hin⟩ := mapI_facts hp.fr hp.lat hk
    rw [HI.out] at hl hin
    dsimp only at hl hin
    obtain ⟨p', rfl⟩ : ∃ p' : Nat, i0 = (p' : Int) := ⟨i0.toNat, by have := hl.1; omega⟩
    obtain ⟨q', rfl⟩ : ∃ q' : Nat, i2 = (q' : Int) := ⟨i2.toNat, by have := hl.2.1; omega⟩
    have h9 := moved_any hp hk hmb k3 HI.out (R.out.call hX)
    exact h9))
  clear hi9
  go_enter Try.func27, Try.ntmps27
  go_wp2_with fail
  with_reducible refine (patValid_any f A B C (R.out.call B0)).mono ?_
  rintro e w1 ⟨rfl, hb1⟩
  rw [k1]
  have P1 := P0.call hb1
  have M1 := M0.call hb1
  have R1 := R0.call hb1
  have B1 := bstep B0 hb1
  clear P0 M0 R0 B0 hb1
  have p1c0 := P1.c0
  have p1c1 := P1.c1
  have p1c2 := P1.c2
  have p1c3 := P1.c3
  have p1c4 := P1.c4
  have p1l := P1.lt
  have m1c0 := M1.c0
  have m1c1 := M1.c1
  have m1c2 := M1.c2
  have m1c3 := M1.c3
  have m1c4 := M1.c4
  have m1c5 := M1.c5
  have m1l := M1.lt
  go_wp2_with fail
  with_reducible refine (implIsPoint_any f a b c d _).mono ?_
  rintro e w2 ⟨rfl, hb2⟩
  rw [k2]
  have P2 := P1.call hb2
  have M2 := M1.call hb2
  have R2 := R1.call hb2
  have B2 := bstep B1 hb2
  clear P1 M1 R1 B1 hb2 p1c0 p1c1 p1c2 p1c3 p1c4 m1c0 m1c1 m1c2 m1c3 m1c4 m1c5 p1l m1l
  have p2c0 := P2.c0
  have p2c1 := P2.c1
  have p2c2 := P2.c2
  have p2c3 := P2.c3
  have p2c4 := P2.c4
  have p2l := P2.lt
  have m2c0 := M2.c0
  have m2c1 := M2.c1
  have m2c2 := M2.c2
  have m2c3 := M2.c3
  have m2c4 := M2.c4
  have m2c5 := M2.c5
  have m2l := M2.lt
  go_wp2_with fail
  with_reducible refine (isValid_any x y _).mono ?_
  rintro e w3 ⟨rfl, hb3⟩
  rw [k3]
  have P3 := P2.call hb3
  have M3 := M2.call hb3
  have R3 := R2.call hb3
  have B3 := bstep B2 hb3
  clear P2 M2 R2 B2 hb3 p2c0 p2c1 p2c2 p2c3 p2c4 m2c0 m2c1 m2c2 m2c3 m2c4 m2c5 p2l m2l
  have p3c0 := P3.c0
  have p3c1 := P3.c1
  have p3c2 := P3.c2
  have p3c3 := P3.c3
  have p3c4 := P3.c4
  have p3l := P3.lt
  have m3c0 := M3.c0
  have m3c1 := M3.c1
  have m3c2 := M3.c2
  have m3c3 := M3.c3
  have m3c4 := M3.c4
  have m3c5 := M3.c5
  have m3l := M3.lt
  go_wp2_with fail
  go_region_held3 (fun W9 => (W9.cell? ⟨w.heap.size, 0, none⟩ = some (.int .i64 f) ∧ W9.cell? ⟨w.heap.size, 1, none⟩ = some (.int .i64 A) ∧ W9.cell? ⟨w.heap.size, 2, none⟩ = some (.int .i64 B) ∧ W9.cell? ⟨w.heap.size, 3, none⟩ = some (.int .i64 C) ∧ W9.cell? ⟨w.heap.size, 4, none⟩ = some (.slice ao n cap)) ∧ (W9.cell? ⟨(w.heap.size + 1), 0, none⟩ = some (.int .i64 a) ∧ W9.cell? ⟨(w.heap.size + 1), 1, none⟩ = some (.int .i64 b) ∧ W9.cell? ⟨(w.heap.size + 1), 2, none⟩ = some (.int .i64 c) ∧ W9.cell? ⟨(w.heap.size + 1), 3, none⟩ = some (.int .i64 d) ∧ W9.cell? ⟨(w.heap.size + 1), 4, none⟩ = some (.int .i64 x) ∧ W9.cell? ⟨(w.heap.size + 1), 5, none⟩ = some (.int .i64 y))) ((refine And.intro (Bx.cells5 ?_) (Bx.cells6 ?_)) <;> repeat (first | with_reducible assumption | with_reducible refine Bx.drew ?_ | with_reducible refine Bx.call ?_ (by with_reducible assumption) | with_reducible refine BX.drew ?_ | with_reducible refine BX.call ?_ (by with_reducible assumption) | with_reducible refine Bx.far (by first | omega | (dsimp only; omega)) ?_))
    (first
      | (go_at_call 46; with_reducible refine (motionOf_any a b c d x y _).mono ?_; rintro e w8 ⟨rfl, hb8⟩; have P8 : Bx w.heap.size [.int .i64 f, .int .i64 A, .int .i64 B, .int .i64 C, .slice ao n cap] w8 := (by repeat (first | with_reducible assumption | with_reducible refine Bx.drew ?_ | with_reducible refine Bx.call ?_ (by with_reducible assumption) | with_reducible refine BX.drew ?_ | with_reducible refine BX.call ?_ (by with_reducible assumption) | with_reducible refine Bx.far (by first | omega | (dsimp only; omega)) ?_)); have M8 : Bx (w.heap.size + 1) [.int .i64 a, .int .i64 b, .int .i64 c, .int .i64 d, .int .i64 x, .int .i64 y] w8 := (by repeat (first | with_reducible assumption | with_reducible refine Bx.drew ?_ | with_reducible refine Bx.call ?_ (by with_reducible assumption) | with_reducible refine BX.drew ?_ | with_reducible refine BX.call ?_ (by with_reducible assumption) | with_reducible refine Bx.far (by first | omega | (dsimp only; omega)) ?_)); have R8 : BX (w.heap.size + 1 + 1) [.int .i64 0, .int .i64 0, .int .i64 0, .int .i64 0, .slice none 0 0] w8 := (by repeat (first | with_reducible assumption | with_reducible refine Bx.drew ?_ | with_reducible refine Bx.call ?_ (by with_reducible assumption) | with_reducible refine BX.drew ?_ | with_reducible refine BX.call ?_ (by with_reducible assumption) | with_reducible refine Bx.far (by first | omega | (dsimp only; omega)) ?_)); have B8 : Below w.heap.size w w8 := (by repeat (first | with_reducible assumption | with_reducible exact Below.refl _ _ | with_reducible refine Below.drew ?_ | with_reducible refine Below.alloc ?_ (by first | omega | (simp <;> omega)) _ | with_reducible refine Below.setCell ?_ (by first | omega | (dsimp only; omega)) _ | with_reducible refine bstep ?_ (by with_reducible assumption))))
      | (go_at_call 45; with_reducible refine (HSP.out _ (by repeat (first | with_reducible assumption | with_reducible exact Below.refl _ _ | with_reducible refine Below.drew ?_ | with_reducible refine Below.alloc ?_ (by first | omega | (simp <;> omega)) _ | with_reducible refine Below.setCell ?_ (by first | omega | (dsimp only; omega)) _ | with_reducible refine bstep ?_ (by with_reducible assumption)))).mono ?_; rintro e w4 ⟨v4, rfl, r4, hb4⟩; have P4 : Bx w.heap.size [.int .i64 f, .int .i64 A, .int .i64 B, .int .i64 C, .slice ao n cap] w4 := (by repeat (first | with_reducible assumption | with_reducible refine Bx.drew ?_ | with_reducible refine Bx.call ?_ (by with_reducible assumption) | with_reducible refine BX.drew ?_ | with_reducible refine BX.call ?_ (by with_reducible assumption) | with_reducible refine Bx.far (by first | omega | (dsimp only; omega)) ?_)); have M4 : Bx (w.heap.size + 1) [.int .i64 a, .int .i64 b, .int .i64 c, .int .i64 d, .int .i64 x, .int .i64 y] w4 := (by repeat (first | with_reducible assumption | with_reducible refine Bx.drew ?_ | with_reducible refine Bx.call ?_ (by with_reducible assumption) | with_reducible refine BX.drew ?_ | with_reducible refine BX.call ?_ (by with_reducible assumption) | with_reducible refine Bx.far (by first | omega | (dsimp only; omega)) ?_)); have R4 : BX (w.heap.size + 1 + 1) [.int .i64 0, .int .i64 0, .int .i64 0, .int .i64 0, .slice none 0 0] w4 := (by repeat (first | with_reducible assumption | with_reducible refine Bx.drew ?_ | with_reducible refine Bx.call ?_ (by with_reducible assumption) | with_reducible refine BX.drew ?_ | with_reducible refine BX.call ?_ (by with_reducible assumption) | with_reducible refine Bx.far (by first | omega | (dsimp only; omega)) ?_)); have B4 : Below w.heap.size w w4 := (by repeat (first | with_reducible assumption | with_reducible exact Below.refl _ _ | with_reducible refine Below.drew ?_ | with_reducible refine Below.alloc ?_ (by first | omega | (simp <;> omega)) _ | with_reducible refine Below.setCell ?_ (by first | omega | (dsimp only; omega)) _ | with_reducible refine bstep ?_ (by with_reducible assumption))); have b8l := R8.lt; have b8z := B8.size; have HR := Lib.hid (r4.low (lo' := w.heap.size + 3) (by first | omega | (simp; omega))); obtain ⟨ao4, cap4, rfl⟩ := r4.slice; have HB := Lib.hid B4; clear r4 B4; have r4c0 := R4.c0; have r4c1 := R4.c1; have r4c2 := R4.c2; have r4c3 := R4.c3; have r4c4 := R4.c4; have r4f0 := R4.f0; have r4f1 := R4.f1; have r4f2 := R4.f2; have r4f3 := R4.f3; have r4f4 := R4.f4; have r4l := R4.lt))
  all_goals
    go_wp2
    refine bodyPost_ret (v := .tuple #[(.agg #[.int .i64 f, .int .i64 i0, .int .i64 i1, .int .i64 i2, .slice ao4 (i0.toNat * i2.toNat) cap4]), .int .i64 0]) (by simp [results, Try.results27, go_sem, *]) rfl ⟨_, _, _, _, _, _, _, _, EA.out, rfl, ?_, ?_⟩
    · refine SRow.up (hi := w4.heap.size) (SRow.low (lo := w.heap.size + 3) ?_ (by omega))
      repeat (first | with_reducible exact HR.out | with_reducible refine SRow.put (by first | omega | (dsimp only; omega)) _ ?_)
    · have hB := HB.out
      repeat (first | with_reducible exact Below.refl _ _ | with_reducible assumption | with_reducible refine Below.setCell ?_ (by first | omega | (dsimp only; omega) | (simp <;> omega)) _ | with_reducible refine Below.alloc ?_ (by first | omega | (simp <;> omega)) _ | with_reducible refine bstep ?_ (by with_reducible assumption) | with_reducible refine Below.drew ?_ | with_reducible refine below_drewN ?_ _)
set_option maxRecDepth 100000 in
set_option maxHeartbeats 16000000 in
theorem specMv_any {lo hi n : Nat} {v : Value} {F : Nat → Int} {w : World} (f A B C a b c d x y : Int) (hv : SRow lo hi 1 v n F w) :
    Calls Try.prog 25 #[.agg #[.int .i64 f, .int .i64 A, .int .i64 B, .int .i64 C, v], .agg #[.int .i64 a, .int .i64 b, .int .i64 c, .int .i64 d, .int .i64 x, .int .i64 y]] w (PAns (mvA f A B C n F a b c d x y) w) := by
  have R := Lib.hid hv
  obtain ⟨ao, cap, rfl⟩ := hv.slice
  clear hv
  have P0 : Bx w.heap.size [.int .i64 f, .int .i64 A, .int .i64 B, .int .i64 C, .slice ao n cap] (((w.alloc (.cells #[.int .i64 f, .int .i64 A, .int .i64 B, .int .i64 C, .slice ao n cap] 31)).alloc (.cells #[.int .i64 a, .int .i64 b, .int .i64 c, .int .i64 d, .int .i64 x, .int .i64 y] 58)).alloc (.cells #[.int .i64 0, .int .i64 0, .int .i64 0, .int .i64 0, .slice none 0 0] 31)) := ((Bx.at _ rfl).alloc _).alloc _
  have M0 : Bx (w.heap.size + 1) [.int .i64 a, .int .i64 b, .int .i64 c, .int .i64 d, .int .i64 x, .int .i64 y] (((w.alloc (.cells #[.int .i64 f, .int .i64 A, .int .i64 B, .int .i64 C, .slice ao n cap] 31)).alloc (.cells #[.int .i64 a, .int .i64 b, .int .i64 c, .int .i64 d, .int .i64 x, .int .i64 y] 58)).alloc (.cells #[.int .i64 0, .int .i64 0, .int .i64 0, .int .i64 0, .slice none 0 0] 31)) := (Bx.at _ (by simp)).alloc _
  have R0 : BX (w.heap.size + 1 + 1) [.int .i64 0, .int .i64 0, .int .i64 0, .int .i64 0, .slice none 0 0] (((w.alloc (.cells #[.int .i64 f, .int .i64 A, .int .i64 B, .int .i64 C, .slice ao n cap] 31)).alloc (.cells #[.int .i64 a, .int .i64 b, .int .i64 c, .int .i64 d, .int .i64 x, .int .i64 y] 58)).alloc (.cells #[.int .i64 0, .int .i64 0, .int .i64 0, .int .i64 0, .slice none 0 0] 31)) := BX.at _ (by simp)
  have B0 : Below w.heap.size w (((w.alloc (.cells #[.int .i64 f, .int .i64 A, .int .i64 B, .int .i64 C, .slice ao n cap] 31)).alloc (.cells #[.int .i64 a, .int .i64 b, .int .i64 c, .int .i64 d, .int .i64 x, .int .i64 y] 58)).alloc (.cells #[.int .i64 0, .int .i64 0, .int .i64 0, .int .i64 0, .slice none 0 0] 31)) := by repeat (first | with_reducible exact Below.refl _ _ | with_reducible assumption | with_reducible refine Below.setCell ?_ (by first | omega | (dsimp only; omega) | (simp <;> omega)) _ | with_reducible refine Below.alloc ?_ (by first | omega | (simp <;> omega)) _ | with_reducible refine bstep ?_ (by with_reducible assumption) | with_reducible refine Below.drew ?_ | with_reducible refine below_drewN ?_ _)
  rcases k1 : patB f A B C n F with _ | _
  · have EA := Lib.hid (show mvA f A B C n F a b c d x y = (0, 0, 0, 0, 0, fun _ => 0, 1) by simp [mvA, noP, *])
    go_enter Try.func25, Try.ntmps25
    go_wp2_with fail
    with_reducible refine (specIsPat_any f A B C (R.out.call B0)).mono ?_
    rintro e w1 ⟨rfl, hb1⟩
    rw [k1]
    have P1 := P0.call hb1
    have M1 := M0.call hb1
    have R1 := R0.call hb1
    have B1 := bstep B0 hb1
    clear P0 M0 R0 B0 hb1
    have p1c0 := P1.c0
    have p1c1 := P1.c1
    have p1c2 := P1.c2
    have p1c3 := P1.c3
    have p1c4 := P1.c4
    have p1l := P1.lt
    have m1c0 := M1.c0
    have m1c1 := M1.c1
    have m1c2 := M1.c2
    have m1c3 := M1.c3
    have m1c4 := M1.c4
    have m1c5 := M1.c5
    have m1l := M1.lt
    have r1c0 := R1.c0
    have r1c1 := R1.c1
    have r1c2 := R1.c2
    have r1c3 := R1.c3
    have r1c4 := R1.c4
    have r1f0 := R1.f0
    have r1f1 := R1.f1
    have r1f2 := R1.f2
    have r1f3 := R1.f3
    have r1f4 := R1.f4
    have r1l := R1.lt
    go_wp2
    refine bodyPost_ret (v := .tuple #[(.agg #[.int .i64 0, .int .i64 0, .int .i64 0, .int .i64 0, .slice none 0 0]), .int .i64 1]) (by simp [results, Try.results25, go_sem, *]) rfl ⟨_, _, _, _, _, _, _, _, EA.out, rfl, ?_, ?_⟩
    · exact SRow.nil _ 1 _ _
    · repeat (first | with_reducible exact Below.refl _ _ | with_reducible assumption | with_reducible refine Below.setCell ?_ (by first | omega | (dsimp only; omega) | (simp <;> omega)) _ | with_reducible refine Below.alloc ?_ (by first | omega | (simp <;> omega)) _ | with_reducible refine bstep ?_ (by with_reducible assumption) | with_reducible refine Below.drew ?_ | with_reducible refine below_drewN ?_ _)
  rcases k2 : pmB f a b c d with _ | _
  · have EA := Lib.hid (show mvA f A B C n F a b c d x y = (0, 0, 0, 0, 0, fun _ => 0, 2) by simp [mvA, noP, *])
    go_enter Try.func25, Try.ntmps25
    go_wp2_with fail
    with_reducible refine (specIsPat_any f A B C (R.out.call B0)).mono ?_
    rintro e w1 ⟨rfl, hb1⟩
    rw [k1]
    have P1 := P0.call hb1
    have M1 := M0.call hb1
    have R1 := R0.call hb1
    have B1 := bstep B0 hb1
    clear P0 M0 R0 B0 hb1
    have p1c0 := P1.c0
    have p1c1 := P1.c1
    have p1c2 := P1.c2
    have p1c3 := P1.c3
    have p1c4 := P1.c4
    have p1l := P1.lt
    have m1c0 := M1.c0
    have m1c1 := M1.c1
    have m1c2 := M1.c2
    have m1c3 := M1.c3
    have m1c4 := M1.c4
    have m1c5 := M1.c5
    have m1l := M1.lt
    go_wp2_with fail
    with_reducible refine (specIsPoint_any f a b c d _).mono ?_
    rintro e w2 ⟨rfl, hb2⟩
    rw [k2]
    have P2 := P1.call hb2
    have M2 := M1.call hb2
    have R2 := R1.call hb2
    have B2 := bstep B1 hb2
    clear P1 M1 R1 B1 hb2 p1c0 p1c1 p1c2 p1c3 p1c4 m1c0 m1c1 m1c2 m1c3 m1c4 m1c5 p1l m1l
    have p2c0 := P2.c0
    have p2c1 := P2.c1
    have p2c2 := P2.c2
    have p2c3 := P2.c3
    have p2c4 := P2.c4
    have p2l := P2.lt
    have m2c0 := M2.c0
    have m2c1 := M2.c1
    have m2c2 := M2.c2
    have m2c3 := M2.c3
    have m2c4 := M2.c4
    have m2c5 := M2.c5
    have m2l := M2.lt
    have r2c0 := R2.c0
    have r2c1 := R2.c1
    have r2c2 := R2.c2
    have r2c3 := R2.c3
    have r2c4 := R2.c4
    have r2f0 := R2.f0
    have r2f1 := R2.f1
    have r2f2 := R2.f2
    have r2f3 := R2.f3
    have r2f4 := R2.f4
    have r2l := R2.lt
    go_wp2
    refine bodyPost_ret (v := .tuple #[(.agg #[.int .i64 0, .int .i64 0, .int .i64 0, .int .i64 0, .slice none 0 0]), .int .i64 2]) (by simp [results, Try.results25, go_sem, *]) rfl ⟨_, _, _, _, _, _, _, _, EA.out, rfl, ?_, ?_⟩
    · exact SRow.nil _ 1 _ _
    · repeat (first | with_reducible exact Below.refl _ _ | with_reducible assumption | with_reducible refine Below.setCell ?_ (by first | omega | (dsimp only; omega) | (simp <;> omega)) _ | with_reducible refine Below.alloc ?_ (by first | omega | (simp <;> omega)) _ | with_reducible refine bstep ?_ (by with_reducible assumption) | with_reducible refine Below.drew ?_ | with_reducible refine below_drewN ?_ _)
  rcases k3 : vecB x y with _ | _
  · have EA := Lib.hid (show mvA f A B C n F a b c d x y = (0, 0, 0, 0, 0, fun _ => 0, 2) by simp [mvA, noP, *])
    go_enter Try.func25, Try.ntmps25
    go_wp2_with fail
    with_reducible refine (specIsPat_any f A B C (R.out.call B0)).mono ?_
    rintro e w1 ⟨rfl, hb1⟩
    rw [k1]
    have P1 := P0.call hb1
    have M1 := M0.call hb1
    have R1 := R0.call hb1
    have B1 := bstep B0 hb1
    clear P0 M0 R0 B0 hb1
    have p1c0 := P1.c0
    have p1c1 := P1.c1
    have p1c2 := P1.c2
    have p1c3 := P1.c3
    have p1c4 := P1.c4
    have p1l := P1.lt
    have m1c0 := M1.c0
    have m1c1 := M1.c1
    have m1c2 := M1.c2
    have m1c3 := M1.c3
    have m1c4 := M1.c4
    have m1c5 := M1.c5
    have m1l := M1.lt
    go_wp2_with fail
    with_reducible refine (specIsPoint_any f a b c d _).mono ?_
    rintro e w2 ⟨rfl, hb2⟩
    rw [k2]
    have P2 := P1.call hb2
    have M2 := M1.call hb2
    have R2 := R1.call hb2
    have B2 := bstep B1 hb2
    clear P1 M1 R1 B1 hb2 p1c0 p1c1 p1c2 p1c3 p1c4 m1c0 m1c1 m1c2 m1c3 m1c4 m1c5 p1l m1l
    have p2c0 := P2.c0
    have p2c1 := P2.c1
    have p2c2 := P2.c2
    have p2c3 := P2.c3
    have p2c4 := P2.c4
    have p2l := P2.lt
    have m2c0 := M2.c0
    have m2c1 := M2.c1
    have m2c2 := M2.c2
    have m2c3 := M2.c3
    have m2c4 := M2.c4
    have m2c5 := M2.c5
    have m2l := M2.lt
    go_wp2_with fail
    with_reducible refine (specIsVec_any x y _).mono ?_
    rintro e w3 ⟨rfl, hb3⟩
    rw [k3]
    have P3 := P2.call hb3
    have M3 := M2.call hb3
    have R3 := R2.call hb3
    have B3 := bstep B2 hb3
    clear P2 M2 R2 B2 hb3 p2c0 p2c1 p2c2 p2c3 p2c4 m2c0 m2c1 m2c2 m2c3 m2c4 m2c5 p2l m2l
    have p3c0 := P3.c0
    have p3c1 := P3.c1
    have p3c2 := P3.c2
    have p3c3 := P3.c3
    have p3c4 := P3.c4
    have p3l := P3.lt
    have m3c0 := M3.c0
    have m3c1 := M3.c1
    have m3c2 := M3.c2
    have m3c3 := M3.c3
    have m3c4 := M3.c4
    have m3c5 := M3.c5
    have m3l := M3.lt
    have r3c0 := R3.c0
    have r3c1 := R3.c1
    have r3c2 := R3.c2
    have r3c3 := R3.c3
    have r3c4 := R3.c4
    have r3f0 := R3.f0
    have r3f1 := R3.f1
    have r3f2 := R3.f2
    have r3f3 := R3.f3
    have r3f4 := R3.f4
    have r3l := R3.lt
    go_wp2
    refine bodyPost_ret (v := .tuple #[(.agg #[.int .i64 0, .int .i64 0, .int .i64 0, .int .i64 0, .slice none 0 0]), .int .i64 2]) (by simp [results, Try.results25, go_sem, *]) rfl ⟨_, _, _, _, _, _, _, _, EA.out, rfl, ?_, ?_⟩
    · exact SRow.nil _ 1 _ _
    · repeat (first | with_reducible exact Below.refl _ _ | with_reducible assumption | with_reducible refine Below.setCell ?_ (by first | omega | (dsimp only; omega) | (simp <;> omega)) _ | with_reducible refine Below.alloc ?_ (by first | omega | (simp <;> omega)) _ | with_reducible refine bstep ?_ (by with_reducible assumption) | with_reducible refine Below.drew ?_ | with_reducible refine below_drewN ?_ _)
  obtain ⟨i0, i1, i2, hi9⟩ : ∃ u v z, mapI A B C a b c d = (u, v, z) := ⟨_, _, _, rfl⟩
  have EA := Lib.hid (show mvA f A B C n F a b c d x y = (f, i0, i1, i2, i0.toNat * i2.toNat, cpyG A B C F (d * (a * d - b * c)) (-b * (a * d - b * c)) (-c * (a * d - b * c)) (a * (a * d - b * c)) (bkX a b c d x y) (bkY a b c d x y) i0.toNat i2.toNat, 0) by simp [mvA, k1, k2, k3, hi9])
  have HI := Lib.hid (show mapI A B C a b c d = (i0, i1, i2) from hi9)
  have HSP := Lib.hid (fun (X : World) (hX : Below w.heap.size w X) => (show Calls Try.prog 42 #[.agg #[.int .i64 f, .int .i64 A, .int .i64 B, .int .i64 C, .slice ao n cap], .agg #[.int .i64 a, .int .i64 b, .int .i64 c, .int .i64 d, .int .i64 x, .int .i64 y]] X (fun e w' => ∃ v' : Value, e = .returned (.agg #[.int .i64 f, .int .i64 i0, .int .i64 i1, .int .i64 i2, v']) ∧ SRow X.heap.size w'.heap.size 1 v' (i0.toNat * i2.toNat) (cpyG A B C F (d * (a * d - b * c)) (-b * (a * d - b * c)) (-c * (a * d - b * c)) (a * (a * d - b * c)) (bkX a b c d x y) (bkY a b c d x y) i0.toNat i2.toNat) w' ∧ Below X.heap.size X w') from by
    obtain ⟨p, q, rfl, rfl, hp⟩ := patB_of k1
    obtain ⟨hf, hmb, hk⟩ := pm_keep k2
    obtain ⟨_, _, hl, hin⟩ := mapI_facts hp.fr hp.lat hk
    rw [HI.out] at hl hin
    dsimp only at hl hin
    obtain ⟨p', rfl⟩ : ∃ p' : Nat, i0 = (p' : Int) := ⟨i0.toNat, by have := hl.1; omega⟩
    obtain ⟨q', rfl⟩ : ∃ q' : Nat, i2 = (q' : Int) := ⟨i2.toNat, by have := hl.2.1; omega⟩
    have h9 := l09Move_any hp hk hmb k3 HI.out (R.out.call hX)
    refine h9.mono ?_
    rintro e w' ⟨v', rfl, r9, hb9⟩
    refine ⟨v', rfl, ?_, hb9⟩
    have e9 := moved_eq9 (x := x) (y := y) (F := F) hp.lat HI.out hl hin (keep_det hp.fr hk)
    rw [hp.nn] at r9
    exact SRow.ext9 r9 e9))
  clear hi9
  go_enter Try.func25, Try.ntmps25
  go_wp2_with fail
  with_reducible refine (specIsPat_any f A B C (R.out.call B0)).mono ?_
  rintro e w1 ⟨rfl, hb1⟩
  rw [k1]
  have P1 := P0.call hb1
  have M1 := M0.call hb1
  have R1 := R0.call hb1
  have B1 := bstep B0 hb1
  clear P0 M0 R0 B0 hb1
  have p1c0 := P1.c0
  have p1c1 := P1.c1
  have p1c2 := P1.c2
  have p1c3 := P1.c3
  have p1c4 := P1.c4
  have p1l := P1.lt
  have m1c0 := M1.c0
  have m1c1 := M1.c1
  have m1c2 := M1.c2
  have m1c3 := M1.c3
  have m1c4 := M1.c4
  have m1c5 := M1.c5
  have m1l := M1.lt
  go_wp2_with fail
  with_reducible refine (specIsPoint_any f a b c d _).mono ?_
  rintro e w2 ⟨rfl, hb2⟩
  rw [k2]
  have P2 := P1.call hb2
  have M2 := M1.call hb2
  have R2 := R1.call hb2
  have B2 := bstep B1 hb2
  clear P1 M1 R1 B1 hb2 p1c0 p1c1 p1c2 p1c3 p1c4 m1c0 m1c1 m1c2 m1c3 m1c4 m1c5 p1l m1l
  have p2c0 := P2.c0
  have p2c1 := P2.c1
  have p2c2 := P2.c2
  have p2c3 := P2.c3
  have p2c4 := P2.c4
  have p2l := P2.lt
  have m2c0 := M2.c0
  have m2c1 := M2.c1
  have m2c2 := M2.c2
  have m2c3 := M2.c3
  have m2c4 := M2.c4
  have m2c5 := M2.c5
  have m2l := M2.lt
  go_wp2_with fail
  with_reducible refine (specIsVec_any x y _).mono ?_
  rintro e w3 ⟨rfl, hb3⟩
  rw [k3]
  have P3 := P2.call hb3
  have M3 := M2.call hb3
  have R3 := R2.call hb3
  have B3 := bstep B2 hb3
  clear P2 M2 R2 B2 hb3 p2c0 p2c1 p2c2 p2c3 p2c4 m2c0 m2c1 m2c2 m2c3 m2c4 m2c5 p2l m2l
  have p3c0 := P3.c0
  have p3c1 := P3.c1
  have p3c2 := P3.c2
  have p3c3 := P3.c3
  have p3c4 := P3.c4
  have p3l := P3.lt
  have m3c0 := M3.c0
  have m3c1 := M3.c1
  have m3c2 := M3.c2
  have m3c3 := M3.c3
  have m3c4 := M3.c4
  have m3c5 := M3.c5
  have m3l := M3.lt
  go_wp2_with fail
  have b3l := R3.lt
  with_reducible refine (HSP.out _ B3).mono ?_
  rintro e w4 ⟨v4, rfl, r4, hb4⟩
  have R4 := R3.call hb4
  have B4 := bstep B3 hb4
  have HR := Lib.hid (r4.low (lo' := w.heap.size + 3) (by omega))
  obtain ⟨ao4, cap4, rfl⟩ := r4.slice
  have HB := Lib.hid B4
  clear R3 B3 hb4 P3 M3 p3c0 p3c1 p3c2 p3c3 p3c4 m3c0 m3c1 m3c2 m3c3 m3c4 m3c5 p3l m3l r4 B4
  have r4c0 := R4.c0
  have r4c1 := R4.c1
  have r4c2 := R4.c2
  have r4c3 := R4.c3
  have r4c4 := R4.c4
  have r4f0 := R4.f0
  have r4f1 := R4.f1
  have r4f2 := R4.f2
  have r4f3 := R4.f3
  have r4f4 := R4.f4
  have r4l := R4.lt
  go_wp2
  refine bodyPost_ret (v := .tuple #[(.agg #[.int .i64 f, .int .i64 i0, .int .i64 i1, .int .i64 i2, .slice ao4 (i0.toNat * i2.toNat) cap4]), .int .i64 0]) (by simp [results, Try.results25, go_sem, *]) rfl ⟨_, _, _, _, _, _, _, _, EA.out, rfl, ?_, ?_⟩
  · refine SRow.up (hi := w4.heap.size) (SRow.low (lo := w.heap.size + 3) ?_ (by omega))
    repeat (first | with_reducible exact HR.out | with_reducible refine SRow.put (by first | omega | (dsimp only; omega)) _ ?_)
  · have hB := HB.out
    repeat (first | with_reducible exact Below.refl _ _ | with_reducible assumption | with_reducible refine Below.setCell ?_ (by first | omega | (dsimp only; omega) | (simp <;> omega)) _ | with_reducible refine Below.alloc ?_ (by first | omega | (simp <;> omega)) _ | with_reducible refine bstep ?_ (by with_reducible assumption) | with_reducible refine Below.drew ?_ | with_reducible refine below_drewN ?_ _)
end Go.Proofs.Ytpejihckepaojaa
