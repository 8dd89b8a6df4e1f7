/-
  FullLattice in the program and in the model. Condition: a slice that lies in a block of its own.
-/
import Derived.Test.YtpejihckepaojaaPtJ
import Derived.Test.YtpejihckepaojaaPtL
namespace Go.Proofs.Ytpejihckepaojaa
open Go.RowKit
set_option linter.unusedSimpArgs false
set_option linter.unusedVariables false

abbrev L4 := Int × Int × Int × Int
/- a call's answer: a lattice and a code -/
def TAns (r : L4) (W : World) (e : Ending) (w' : World) : Prop := (∃ a b c d : Int, r = (a, b, c, d) ∧ e = .returned (.tuple #[.agg #[.int .i64 a, .int .i64 b, .int .i64 c], .int .i64 d])) ∧ Below W.heap.size W w'
def flA (f A B C : Int) (n : Nat) (F : Nat → Int) : L4 := if patB f A B C n F = true then ((fulI A B C F).1, (fulI A B C F).2.1, (fulI A B C F).2.2, 0) else (0, 0, 0, 1)
set_option maxHeartbeats 8000000 in
theorem implFull_any {lo hi n : Nat} {v : Value} {F : Nat → Int} {w : World} (f A B C : Int) (hv : SRow lo hi 1 v n F w) :
    Calls Try.prog 17 #[.agg #[.int .i64 f, .int .i64 A, .int .i64 B, .int .i64 C, v]] w (TAns (flA f A B C n F) w) := by
  have R := Lib.hid hv
  obtain ⟨ao, cap, rfl⟩ := hv.slice
  clear hv
  have P0 : Bx w.heap.size [.int .i64 f, .int .i64 A, .int .i64 B, .int .i64 C, (.slice ao n cap)] ((w.alloc (.cells #[.int .i64 f, .int .i64 A, .int .i64 B, .int .i64 C, .slice ao n cap] 31)).alloc (.cells #[.int .i64 0, .int .i64 0, .int .i64 0] 29)) := (Bx.at _ rfl).alloc _
  have R0 : BX (w.heap.size + 1) [.int .i64 0, .int .i64 0, .int .i64 0] ((w.alloc (.cells #[.int .i64 f, .int .i64 A, .int .i64 B, .int .i64 C, .slice ao n cap] 31)).alloc (.cells #[.int .i64 0, .int .i64 0, .int .i64 0] 29)) := BX.at _ (by simp)
  have B0 : Below w.heap.size w ((w.alloc (.cells #[.int .i64 f, .int .i64 A, .int .i64 B, .int .i64 C, .slice ao n cap] 31)).alloc (.cells #[.int .i64 0, .int .i64 0, .int .i64 0] 29)) := by repeat (first | with_reducible exact Below.refl _ _ | with_reducible assumption | with_reducible refine Below.setCell ?_ (by first | omega | (dsimp only; omega) | (simp <;> omega)) _ | with_reducible refine Below.alloc ?_ (by first | omega | (simp <;> omega)) _ | with_reducible refine bstep ?_ (by with_reducible assumption) | with_reducible refine Below.drew ?_ | with_reducible refine below_drewN ?_ _)
  rcases h1 : patB f A B C n F with _ | _
  · have EA := Lib.hid (show flA f A B C n F = (0, 0, 0, 1) by simp [flA, h1])
    go_enter Try.func17, Try.ntmps17
    go_wp2_with fail
    with_reducible refine (patValid_any f A B C (R.out.call B0)).mono ?_
    rintro e w1 ⟨rfl, hb1⟩
    rw [h1]
    have P1 := P0.call hb1
    have R1 := R0.call hb1
    have B1 := bstep B0 hb1
    clear P0 R0 B0 hb1
    have p1c0 := P1.c0
    have p1c1 := P1.c1
    have p1c2 := P1.c2
    have p1c3 := P1.c3
    have p1c4 := P1.c4
    have p1l := P1.lt
    have r1c0 := R1.c0
    have r1c1 := R1.c1
    have r1c2 := R1.c2
    have r1f0 := R1.f0
    have r1f1 := R1.f1
    have r1f2 := R1.f2
    have r1l := R1.lt
    go_wp2
    refine bodyPost_ret (v := .tuple #[.agg #[.int .i64 0, .int .i64 0, .int .i64 0], .int .i64 1]) (by simp [results, Try.results17, go_sem, *]) rfl ⟨⟨_, _, _, _, EA.out, rfl⟩, ?_⟩
    repeat (first | with_reducible exact Below.refl _ _ | with_reducible assumption | with_reducible refine Below.setCell ?_ (by first | omega | (dsimp only; omega) | (simp <;> omega)) _ | with_reducible refine Below.alloc ?_ (by first | omega | (simp <;> omega)) _ | with_reducible refine bstep ?_ (by with_reducible assumption) | with_reducible refine Below.drew ?_ | with_reducible refine below_drewN ?_ _)
  · have EA := Lib.hid (show flA f A B C n F = ((fulI A B C F).1, (fulI A B C F).2.1, (fulI A B C F).2.2, 0) by simp [flA, h1])
    have HFU := Lib.hid (fun (X : World) (hX : Below w.heap.size w X) => (show Calls Try.prog 40 #[.agg #[.int .i64 f, .int .i64 A, .int .i64 B, .int .i64 C, .slice ao n cap]] X (fun e w' => e = .returned (.agg #[.int .i64 ((fulI A B C F).1), .int .i64 ((fulI A B C F).2.1), .int .i64 ((fulI A B C F).2.2)]) ∧ Below X.heap.size X w') from by
      obtain ⟨p, q, rfl, rfl, hp⟩ := patB_of h1
      exact fullLat_any hp (R.out.call hX)))
    go_enter Try.func17, Try.ntmps17
    go_wp2_with fail
    with_reducible refine (patValid_any f A B C (R.out.call B0)).mono ?_
    rintro e w1 ⟨rfl, hb1⟩
    rw [h1]
    have P1 := P0.call hb1
    have R1 := R0.call hb1
    have B1 := bstep B0 hb1
    clear P0 R0 B0 hb1
    have p1c0 := P1.c0
    have p1c1 := P1.c1
    have p1c2 := P1.c2
    have p1c3 := P1.c3
    have p1c4 := P1.c4
    have p1l := P1.lt
    go_wp2_with fail
    with_reducible refine (HFU.out _ B1).mono ?_
    rintro e w2 ⟨rfl, hb2⟩
    have R2 := R1.call hb2
    have B2 := bstep B1 hb2
    clear R1 B1 hb2 P1 p1c0 p1c1 p1c2 p1c3 p1c4 p1l
    have r2c0 := R2.c0
    have r2c1 := R2.c1
    have r2c2 := R2.c2
    have r2f0 := R2.f0
    have r2f1 := R2.f1
    have r2f2 := R2.f2
    have r2l := R2.lt
    go_wp2
    refine bodyPost_ret (v := .tuple #[.agg #[.int .i64 ((fulI A B C F).1), .int .i64 ((fulI A B C F).2.1), .int .i64 ((fulI A B C F).2.2)], .int .i64 0]) (by simp [results, Try.results17, go_sem, *]) rfl ⟨⟨_, _, _, _, EA.out, rfl⟩, ?_⟩
    repeat (first | with_reducible exact Below.refl _ _ | with_reducible assumption | with_reducible refine Below.setCell ?_ (by first | omega | (dsimp only; omega) | (simp <;> omega)) _ | with_reducible refine Below.alloc ?_ (by first | omega | (simp <;> omega)) _ | with_reducible refine bstep ?_ (by with_reducible assumption) | with_reducible refine Below.drew ?_ | with_reducible refine below_drewN ?_ _)
set_option maxHeartbeats 8000000 in
theorem specFull_any {lo hi n : Nat} {v : Value} {F : Nat → Int} {w : World} (f A B C : Int) (hv : SRow lo hi 1 v n F w) :
    Calls Try.prog 16 #[.agg #[.int .i64 f, .int .i64 A, .int .i64 B, .int .i64 C, v]] w (TAns (flA f A B C n F) w) := by
  have R := Lib.hid hv
  obtain ⟨ao, cap, rfl⟩ := hv.slice
  clear hv
  have P0 : Bx w.heap.size [.int .i64 f, .int .i64 A, .int .i64 B, .int .i64 C, (.slice ao n cap)] ((w.alloc (.cells #[.int .i64 f, .int .i64 A, .int .i64 B, .int .i64 C, .slice ao n cap] 31)).alloc (.cells #[.int .i64 0, .int .i64 0, .int .i64 0] 29)) := (Bx.at _ rfl).alloc _
  have R0 : BX (w.heap.size + 1) [.int .i64 0, .int .i64 0, .int .i64 0] ((w.alloc (.cells #[.int .i64 f, .int .i64 A, .int .i64 B, .int .i64 C, .slice ao n cap] 31)).alloc (.cells #[.int .i64 0, .int .i64 0, .int .i64 0] 29)) := BX.at _ (by simp)
  have B0 : Below w.heap.size w ((w.alloc (.cells #[.int .i64 f, .int .i64 A, .int .i64 B, .int .i64 C, .slice ao n cap] 31)).alloc (.cells #[.int .i64 0, .int .i64 0, .int .i64 0] 29)) := by repeat (first | with_reducible exact Below.refl _ _ | with_reducible assumption | with_reducible refine Below.setCell ?_ (by first | omega | (dsimp only; omega) | (simp <;> omega)) _ | with_reducible refine Below.alloc ?_ (by first | omega | (simp <;> omega)) _ | with_reducible refine bstep ?_ (by with_reducible assumption) | with_reducible refine Below.drew ?_ | with_reducible refine below_drewN ?_ _)
  rcases h1 : patB f A B C n F with _ | _
  · have EA := Lib.hid (show flA f A B C n F = (0, 0, 0, 1) by simp [flA, h1])
    go_enter Try.func16, Try.ntmps16
    go_wp2_with fail
    with_reducible refine (specIsPat_any f A B C (R.out.call B0)).mono ?_
    rintro e w1 ⟨rfl, hb1⟩
    rw [h1]
    have P1 := P0.call hb1
    have R1 := R0.call hb1
    have B1 := bstep B0 hb1
    clear P0 R0 B0 hb1
    have p1c0 := P1.c0
    have p1c1 := P1.c1
    have p1c2 := P1.c2
    have p1c3 := P1.c3
    have p1c4 := P1.c4
    have p1l := P1.lt
    have r1c0 := R1.c0
    have r1c1 := R1.c1
    have r1c2 := R1.c2
    have r1f0 := R1.f0
    have r1f1 := R1.f1
    have r1f2 := R1.f2
    have r1l := R1.lt
    go_wp2
    refine bodyPost_ret (v := .tuple #[.agg #[.int .i64 0, .int .i64 0, .int .i64 0], .int .i64 1]) (by simp [results, Try.results16, go_sem, *]) rfl ⟨⟨_, _, _, _, EA.out, rfl⟩, ?_⟩
    repeat (first | with_reducible exact Below.refl _ _ | with_reducible assumption | with_reducible refine Below.setCell ?_ (by first | omega | (dsimp only; omega) | (simp <;> omega)) _ | with_reducible refine Below.alloc ?_ (by first | omega | (simp <;> omega)) _ | with_reducible refine bstep ?_ (by with_reducible assumption) | with_reducible refine Below.drew ?_ | with_reducible refine below_drewN ?_ _)
  · have EA := Lib.hid (show flA f A B C n F = ((fulI A B C F).1, (fulI A B C F).2.1, (fulI A B C F).2.2, 0) by simp [flA, h1])
    have HFU := Lib.hid (fun (X : World) (hX : Below w.heap.size w X) => (show Calls Try.prog 39 #[.agg #[.int .i64 f, .int .i64 A, .int .i64 B, .int .i64 C, .slice ao n cap]] X (fun e w' => e = .returned (.agg #[.int .i64 ((fulI A B C F).1), .int .i64 ((fulI A B C F).2.1), .int .i64 ((fulI A B C F).2.2)]) ∧ Below X.heap.size X w') from by
      obtain ⟨p, q, rfl, rfl, hp⟩ := patB_of h1
      exact l09Full_any hp (R.out.call hX)))
    go_enter Try.func16, Try.ntmps16
    go_wp2_with fail
    with_reducible refine (specIsPat_any f A B C (R.out.call B0)).mono ?_
    rintro e w1 ⟨rfl, hb1⟩
    rw [h1]
    have P1 := P0.call hb1
    have R1 := R0.call hb1
    have B1 := bstep B0 hb1
    clear P0 R0 B0 hb1
    have p1c0 := P1.c0
    have p1c1 := P1.c1
    have p1c2 := P1.c2
    have p1c3 := P1.c3
    have p1c4 := P1.c4
    have p1l := P1.lt
    go_wp2_with fail
    with_reducible refine (HFU.out _ B1).mono ?_
    rintro e w2 ⟨rfl, hb2⟩
    have R2 := R1.call hb2
    have B2 := bstep B1 hb2
    clear R1 B1 hb2 P1 p1c0 p1c1 p1c2 p1c3 p1c4 p1l
    have r2c0 := R2.c0
    have r2c1 := R2.c1
    have r2c2 := R2.c2
    have r2f0 := R2.f0
    have r2f1 := R2.f1
    have r2f2 := R2.f2
    have r2l := R2.lt
    go_wp2
    refine bodyPost_ret (v := .tuple #[.agg #[.int .i64 ((fulI A B C F).1), .int .i64 ((fulI A B C F).2.1), .int .i64 ((fulI A B C F).2.2)], .int .i64 0]) (by simp [results, Try.results16, go_sem, *]) rfl ⟨⟨_, _, _, _, EA.out, rfl⟩, ?_⟩
    repeat (first | with_reducible exact Below.refl _ _ | with_reducible assumption | with_reducible refine Below.setCell ?_ (by first | omega | (dsimp only; omega) | (simp <;> omega)) _ | with_reducible refine Below.alloc ?_ (by first | omega | (simp <;> omega)) _ | with_reducible refine bstep ?_ (by with_reducible assumption) | with_reducible refine Below.drew ?_ | with_reducible refine below_drewN ?_ _)
end Go.Proofs.Ytpejihckepaojaa
