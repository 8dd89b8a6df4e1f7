/-
  Contracts of the program's kind, order and centre of a motion (chapter 5). Conditions: the motion is valid; the program's variable unitMatrix holds the unit.
-/
import Derived.Test.YtpdekopmnchanabGreatDoorMo1
namespace Go.Proofs.YtpdekopmnchanabGreatDoor
open Go.RowKit
set_option linter.unusedSimpArgs false
set_option linter.unusedVariables false

theorem eqArr2 (n : Nat) (a b c d a' b' c' d' : Int) (w : World) : (Op.equalIn (n + 2) 42 (.agg #[.int .i64 a, .int .i64 b, .int .i64 c, .int .i64 d]) (.agg #[.int .i64 a', .int .i64 b', .int .i64 c', .int .i64 d'])).run Tryz.prog w = .ok (eqM a b c d a' b' c' d') w := by
  have u3 := Tryz.underlying2
  have a3 := Tryz.isAgg2
  have z3 := Tryz.sizeOf2
  rw [show n + 2 = (n + 1) + 1 from rfl, Op.equalIn]
  simp only [Sem.run_bind, run_underlying Tryz.underlying42, Result.andThen_ok]
  simp only [Std.Legacy.Range.forIn_eq_forIn_range', Std.Legacy.Range.size, Nat.sub_zero, Nat.add_sub_cancel, Nat.div_one, List.range'_succ, List.range'_zero, List.forIn_cons, List.forIn_nil]
  go_simp
  unfold eqM
  by_cases h1 : a = a' <;> by_cases h2 : b = b' <;> by_cases h3 : c = c' <;> by_cases h4 : d = d' <;> simp [h1, h2, h3, h4]
theorem eqMo (a b c d x y a' b' c' d' x' y' : Int) (w : World) : (Op.equalIn 10000 44 (.agg #[.int .i64 a, .int .i64 b, .int .i64 c, .int .i64 d, .int .i64 x, .int .i64 y]) (.agg #[.int .i64 a', .int .i64 b', .int .i64 c', .int .i64 d', .int .i64 x', .int .i64 y'])).run Tryz.prog w = .ok (eqM a b c d a' b' c' d' && (x == x' && y == y')) w := by
  have hu := Tryz.underlying44
  have hv := Tryz.underlying27
  rw [show (10000 : Nat) = 9999 + 1 from rfl, run_equalIn_struct _ _ _ _ _ (by simp only [Program.fieldsOf, hu]) (by kernel_rfl)]
  simp only [Program.fieldsOf, hu]
  have hA := fun W => eqArr2 9997 a b c d a' b' c' d' W
  have u3 := Tryz.underlying2
  have a3 := Tryz.isAgg2
  have z3 := Tryz.sizeOf2
  go_simp
  rcases eqM a b c d a' b' c' d' with _ | _ <;> by_cases h5 : x = x' <;> by_cases h6 : y = y' <;> simp [h5, h6]

attribute [local go_sem ↓] eqArr eqMo

set_option maxRecDepth 100000 in
set_option maxHeartbeats 8000000 in
theorem kindMo_any (a b c d x y : Int) (w : World) (h : motB a b c d x y = true) (hU : UnitOK w) :
    Calls Tryz.prog 17 #[.agg #[.int .i64 a, .int .i64 b, .int .i64 c, .int .i64 d, .int .i64 x, .int .i64 y]] w fun e w' => e = .returned (.int .i64 (knd a b c d x y)) ∧ Below w.heap.size w w' := by
  have hl := motB_lim h
  have hv := motB_vec h
  clear h
  rcases hu : eqM a b c d 1 0 0 1 with _ | _
  · have hun : unitB a b c d = false := hu
    rcases hr : reflB a b c d with _ | _
    · have EA := Lib.hid (show knd a b c d x y = 2 by simp [knd, hr, hun])
      clear hun
      have M0 : Km (w.heap.size) a b c d x y (w.alloc (.cells #[.int .i64 a, .int .i64 b, .int .i64 c, .int .i64 d, .int .i64 x, .int .i64 y] 44)) := (Km.at (w.heap.size) rfl)
      have B0 : Below w.heap.size w (w.alloc (.cells #[.int .i64 a, .int .i64 b, .int .i64 c, .int .i64 d, .int .i64 x, .int .i64 y] 44)) := (Below.alloc (Below.refl _ _) (by first | with_reducible exact Nat.le_refl _ | (simp <;> omega)) _)
      go_enter Tryz.func17, Tryz.ntmps17
      have M0c0 := M0.c0
      have M0c1 := M0.c1
      have M0c2 := M0.c2
      have M0c3 := M0.c3
      have M0c4 := M0.c4
      have M0c5 := M0.c5
      have M0l := M0.1
      obtain ⟨v0, v1, v2, v3, v4⟩ := id hU
      have vn : ¬ 0 = w.heap.size := by omega
      go_wp2_with fail
      refine (isReflection_any _ _ _ _ _ hl).mono ?_
      rintro e w1 ⟨rfl, hb1⟩
      have M1 : Km (w.heap.size) a b c d x y w1 := Km.call M0 hb1
      have B1 : Below w.heap.size w w1 := bstep B0 hb1
      clear hb1 B0 M0
      have M1c0 := M1.c0
      have M1c1 := M1.c1
      have M1c2 := M1.c2
      have M1c3 := M1.c3
      have M1c4 := M1.c4
      have M1c5 := M1.c5
      have M1l := M1.1
      have M1n : ¬ w.heap.size = w1.heap.size := by omega
      go_wp2
      go_ret
      refine ⟨ret_int EA.out.symm, ?_⟩
      repeat (first | with_reducible assumption | with_reducible exact Below.refl _ _ | with_reducible refine Below.setCell ?_ (by first | omega | (simp <;> omega)) _ | with_reducible refine Below.alloc ?_ (by first | omega | (simp <;> omega)) _ | with_reducible refine bstep ?_ (by with_reducible assumption) | with_reducible refine Below.drew ?_)
    · rcases hx : a * x + b * y + x == 0 with _ | _
      · have EA := Lib.hid (show knd a b c d x y = 4 by simp [knd, hr, hx])
        clear hun
        have M0 : Km (w.heap.size) a b c d x y (w.alloc (.cells #[.int .i64 a, .int .i64 b, .int .i64 c, .int .i64 d, .int .i64 x, .int .i64 y] 44)) := (Km.at (w.heap.size) rfl)
        have B0 : Below w.heap.size w (w.alloc (.cells #[.int .i64 a, .int .i64 b, .int .i64 c, .int .i64 d, .int .i64 x, .int .i64 y] 44)) := (Below.alloc (Below.refl _ _) (by first | with_reducible exact Nat.le_refl _ | (simp <;> omega)) _)
        go_enter Tryz.func17, Tryz.ntmps17
        have M0c0 := M0.c0
        have M0c1 := M0.c1
        have M0c2 := M0.c2
        have M0c3 := M0.c3
        have M0c4 := M0.c4
        have M0c5 := M0.c5
        have M0l := M0.1
        obtain ⟨v0, v1, v2, v3, v4⟩ := id hU
        have vn : ¬ 0 = w.heap.size := by omega
        go_wp2_with fail
        refine (isReflection_any _ _ _ _ _ hl).mono ?_
        rintro e w1 ⟨rfl, hb1⟩
        have M1 : Km (w.heap.size) a b c d x y w1 := Km.call M0 hb1
        have B1 : Below w.heap.size w w1 := bstep B0 hb1
        clear hb1 B0 M0
        have M1c0 := M1.c0
        have M1c1 := M1.c1
        have M1c2 := M1.c2
        have M1c3 := M1.c3
        have M1c4 := M1.c4
        have M1c5 := M1.c5
        have M1l := M1.1
        have M1n : ¬ w.heap.size = w1.heap.size := by omega
        go_wp2_with fail
        refine (twiceMo_any _ _ _ _ _ _ _ hl hv).mono ?_
        rintro e w2 ⟨rfl, hb2⟩
        have M2 : Km (w.heap.size) a b c d x y w2 := Km.call M1 hb2
        have B2 : Below w.heap.size w w2 := bstep B1 hb2
        clear hb2 B1 M1
        have M2c0 := M2.c0
        have M2c1 := M2.c1
        have M2c2 := M2.c2
        have M2c3 := M2.c3
        have M2c4 := M2.c4
        have M2c5 := M2.c5
        have M2l := M2.1
        have M2n : ¬ w.heap.size = w2.heap.size := by omega
        go_wp2
        go_ret
        refine ⟨ret_int EA.out.symm, ?_⟩
        repeat (first | with_reducible assumption | with_reducible exact Below.refl _ _ | with_reducible refine Below.setCell ?_ (by first | omega | (simp <;> omega)) _ | with_reducible refine Below.alloc ?_ (by first | omega | (simp <;> omega)) _ | with_reducible refine bstep ?_ (by with_reducible assumption) | with_reducible refine Below.drew ?_)
      rcases hy : c * x + d * y + y == 0 with _ | _
      · have EA := Lib.hid (show knd a b c d x y = 4 by simp [knd, hr, hy])
        clear hun
        have M0 : Km (w.heap.size) a b c d x y (w.alloc (.cells #[.int .i64 a, .int .i64 b, .int .i64 c, .int .i64 d, .int .i64 x, .int .i64 y] 44)) := (Km.at (w.heap.size) rfl)
        have B0 : Below w.heap.size w (w.alloc (.cells #[.int .i64 a, .int .i64 b, .int .i64 c, .int .i64 d, .int .i64 x, .int .i64 y] 44)) := (Below.alloc (Below.refl _ _) (by first | with_reducible exact Nat.le_refl _ | (simp <;> omega)) _)
        go_enter Tryz.func17, Tryz.ntmps17
        have M0c0 := M0.c0
        have M0c1 := M0.c1
        have M0c2 := M0.c2
        have M0c3 := M0.c3
        have M0c4 := M0.c4
        have M0c5 := M0.c5
        have M0l := M0.1
        obtain ⟨v0, v1, v2, v3, v4⟩ := id hU
        have vn : ¬ 0 = w.heap.size := by omega
        go_wp2_with fail
        refine (isReflection_any _ _ _ _ _ hl).mono ?_
        rintro e w1 ⟨rfl, hb1⟩
        have M1 : Km (w.heap.size) a b c d x y w1 := Km.call M0 hb1
        have B1 : Below w.heap.size w w1 := bstep B0 hb1
        clear hb1 B0 M0
        have M1c0 := M1.c0
        have M1c1 := M1.c1
        have M1c2 := M1.c2
        have M1c3 := M1.c3
        have M1c4 := M1.c4
        have M1c5 := M1.c5
        have M1l := M1.1
        have M1n : ¬ w.heap.size = w1.heap.size := by omega
        go_wp2_with fail
        refine (twiceMo_any _ _ _ _ _ _ _ hl hv).mono ?_
        rintro e w2 ⟨rfl, hb2⟩
        have M2 : Km (w.heap.size) a b c d x y w2 := Km.call M1 hb2
        have B2 : Below w.heap.size w w2 := bstep B1 hb2
        clear hb2 B1 M1
        have M2c0 := M2.c0
        have M2c1 := M2.c1
        have M2c2 := M2.c2
        have M2c3 := M2.c3
        have M2c4 := M2.c4
        have M2c5 := M2.c5
        have M2l := M2.1
        have M2n : ¬ w.heap.size = w2.heap.size := by omega
        go_wp2
        go_ret
        refine ⟨ret_int EA.out.symm, ?_⟩
        repeat (first | with_reducible assumption | with_reducible exact Below.refl _ _ | with_reducible refine Below.setCell ?_ (by first | omega | (simp <;> omega)) _ | with_reducible refine Below.alloc ?_ (by first | omega | (simp <;> omega)) _ | with_reducible refine bstep ?_ (by with_reducible assumption) | with_reducible refine Below.drew ?_)
      · have EA := Lib.hid (show knd a b c d x y = 3 by simp [knd, hr, hx, hy])
        clear hun
        have M0 : Km (w.heap.size) a b c d x y (w.alloc (.cells #[.int .i64 a, .int .i64 b, .int .i64 c, .int .i64 d, .int .i64 x, .int .i64 y] 44)) := (Km.at (w.heap.size) rfl)
        have B0 : Below w.heap.size w (w.alloc (.cells #[.int .i64 a, .int .i64 b, .int .i64 c, .int .i64 d, .int .i64 x, .int .i64 y] 44)) := (Below.alloc (Below.refl _ _) (by first | with_reducible exact Nat.le_refl _ | (simp <;> omega)) _)
        go_enter Tryz.func17, Tryz.ntmps17
        have M0c0 := M0.c0
        have M0c1 := M0.c1
        have M0c2 := M0.c2
        have M0c3 := M0.c3
        have M0c4 := M0.c4
        have M0c5 := M0.c5
        have M0l := M0.1
        obtain ⟨v0, v1, v2, v3, v4⟩ := id hU
        have vn : ¬ 0 = w.heap.size := by omega
        go_wp2_with fail
        refine (isReflection_any _ _ _ _ _ hl).mono ?_
        rintro e w1 ⟨rfl, hb1⟩
        have M1 : Km (w.heap.size) a b c d x y w1 := Km.call M0 hb1
        have B1 : Below w.heap.size w w1 := bstep B0 hb1
        clear hb1 B0 M0
        have M1c0 := M1.c0
        have M1c1 := M1.c1
        have M1c2 := M1.c2
        have M1c3 := M1.c3
        have M1c4 := M1.c4
        have M1c5 := M1.c5
        have M1l := M1.1
        have M1n : ¬ w.heap.size = w1.heap.size := by omega
        go_wp2_with fail
        refine (twiceMo_any _ _ _ _ _ _ _ hl hv).mono ?_
        rintro e w2 ⟨rfl, hb2⟩
        have M2 : Km (w.heap.size) a b c d x y w2 := Km.call M1 hb2
        have B2 : Below w.heap.size w w2 := bstep B1 hb2
        clear hb2 B1 M1
        have M2c0 := M2.c0
        have M2c1 := M2.c1
        have M2c2 := M2.c2
        have M2c3 := M2.c3
        have M2c4 := M2.c4
        have M2c5 := M2.c5
        have M2l := M2.1
        have M2n : ¬ w.heap.size = w2.heap.size := by omega
        go_wp2
        go_ret
        refine ⟨ret_int EA.out.symm, ?_⟩
        repeat (first | with_reducible assumption | with_reducible exact Below.refl _ _ | with_reducible refine Below.setCell ?_ (by first | omega | (simp <;> omega)) _ | with_reducible refine Below.alloc ?_ (by first | omega | (simp <;> omega)) _ | with_reducible refine bstep ?_ (by with_reducible assumption) | with_reducible refine Below.drew ?_)
  · have hun : unitB a b c d = true := hu
    have hr := unit_refl hun
    rcases hx : x == 0 with _ | _
    · have EA := Lib.hid (show knd a b c d x y = 1 by simp [knd, hr, hun, hx])
      clear hun hr
      have M0 : Km (w.heap.size) a b c d x y (w.alloc (.cells #[.int .i64 a, .int .i64 b, .int .i64 c, .int .i64 d, .int .i64 x, .int .i64 y] 44)) := (Km.at (w.heap.size) rfl)
      have B0 : Below w.heap.size w (w.alloc (.cells #[.int .i64 a, .int .i64 b, .int .i64 c, .int .i64 d, .int .i64 x, .int .i64 y] 44)) := (Below.alloc (Below.refl _ _) (by first | with_reducible exact Nat.le_refl _ | (simp <;> omega)) _)
      go_enter Tryz.func17, Tryz.ntmps17
      have M0c0 := M0.c0
      have M0c1 := M0.c1
      have M0c2 := M0.c2
      have M0c3 := M0.c3
      have M0c4 := M0.c4
      have M0c5 := M0.c5
      have M0l := M0.1
      obtain ⟨v0, v1, v2, v3, v4⟩ := id hU
      have vn : ¬ 0 = w.heap.size := by omega
      go_wp2
      go_ret
      refine ⟨ret_int EA.out.symm, ?_⟩
      repeat (first | with_reducible assumption | with_reducible exact Below.refl _ _ | with_reducible refine Below.setCell ?_ (by first | omega | (simp <;> omega)) _ | with_reducible refine Below.alloc ?_ (by first | omega | (simp <;> omega)) _ | with_reducible refine bstep ?_ (by with_reducible assumption) | with_reducible refine Below.drew ?_)
    rcases hy : y == 0 with _ | _
    · have EA := Lib.hid (show knd a b c d x y = 1 by simp [knd, hr, hun, hy])
      clear hun hr
      have M0 : Km (w.heap.size) a b c d x y (w.alloc (.cells #[.int .i64 a, .int .i64 b, .int .i64 c, .int .i64 d, .int .i64 x, .int .i64 y] 44)) := (Km.at (w.heap.size) rfl)
      have B0 : Below w.heap.size w (w.alloc (.cells #[.int .i64 a, .int .i64 b, .int .i64 c, .int .i64 d, .int .i64 x, .int .i64 y] 44)) := (Below.alloc (Below.refl _ _) (by first | with_reducible exact Nat.le_refl _ | (simp <;> omega)) _)
      go_enter Tryz.func17, Tryz.ntmps17
      have M0c0 := M0.c0
      have M0c1 := M0.c1
      have M0c2 := M0.c2
      have M0c3 := M0.c3
      have M0c4 := M0.c4
      have M0c5 := M0.c5
      have M0l := M0.1
      obtain ⟨v0, v1, v2, v3, v4⟩ := id hU
      have vn : ¬ 0 = w.heap.size := by omega
      go_wp2
      go_ret
      refine ⟨ret_int EA.out.symm, ?_⟩
      repeat (first | with_reducible assumption | with_reducible exact Below.refl _ _ | with_reducible refine Below.setCell ?_ (by first | omega | (simp <;> omega)) _ | with_reducible refine Below.alloc ?_ (by first | omega | (simp <;> omega)) _ | with_reducible refine bstep ?_ (by with_reducible assumption) | with_reducible refine Below.drew ?_)
    · have EA := Lib.hid (show knd a b c d x y = 0 by simp [knd, hr, hun, hx, hy])
      clear hun hr
      have M0 : Km (w.heap.size) a b c d x y (w.alloc (.cells #[.int .i64 a, .int .i64 b, .int .i64 c, .int .i64 d, .int .i64 x, .int .i64 y] 44)) := (Km.at (w.heap.size) rfl)
      have B0 : Below w.heap.size w (w.alloc (.cells #[.int .i64 a, .int .i64 b, .int .i64 c, .int .i64 d, .int .i64 x, .int .i64 y] 44)) := (Below.alloc (Below.refl _ _) (by first | with_reducible exact Nat.le_refl _ | (simp <;> omega)) _)
      go_enter Tryz.func17, Tryz.ntmps17
      have M0c0 := M0.c0
      have M0c1 := M0.c1
      have M0c2 := M0.c2
      have M0c3 := M0.c3
      have M0c4 := M0.c4
      have M0c5 := M0.c5
      have M0l := M0.1
      obtain ⟨v0, v1, v2, v3, v4⟩ := id hU
      have vn : ¬ 0 = w.heap.size := by omega
      go_wp2
      go_ret
      refine ⟨ret_int EA.out.symm, ?_⟩
      repeat (first | with_reducible assumption | with_reducible exact Below.refl _ _ | with_reducible refine Below.setCell ?_ (by first | omega | (simp <;> omega)) _ | with_reducible refine Below.alloc ?_ (by first | omega | (simp <;> omega)) _ | with_reducible refine bstep ?_ (by with_reducible assumption) | with_reducible refine Below.drew ?_)

def CenCut (w : World) (a b c d x y : Int) (s4 s5 : Value) (wx : World) : Prop :=
  ∃ g0 : Nat, s4 = .pointer (some ⟨g0, 0, none⟩) ∧ s5 = .int .i64 (2 - (a + d)) ∧ KV g0 (ceX a b c d x y) (ceY a b c d x y) wx ∧ Km (w.heap.size) a b c d x y wx ∧ KV (w.heap.size + 1) 0 0 wx ∧ w.heap.size + 1 + 1 ≤ g0 ∧ Below w.heap.size w wx
set_option maxRecDepth 100000 in
set_option maxHeartbeats 8000000 in
theorem centreMo_any (a b c d x y : Int) (w : World) (h : motB a b c d x y = true) (hk : knd a b c d x y = 2) :
    Calls Tryz.prog 18 #[.agg #[.int .i64 a, .int .i64 b, .int .i64 c, .int .i64 d, .int .i64 x, .int .i64 y]] w fun e w' => e = .returned (.tuple #[.agg #[.int .i64 ((ceX a b c d x y).tdiv (ceG a b c d x y)), .int .i64 ((ceY a b c d x y).tdiv (ceG a b c d x y))], .int .i64 ((2 - (a + d)).tdiv (ceG a b c d x y))]) ∧ Below w.heap.size w w' := by
  have hl := motB_lim h
  have hm := motB_mat h
  have hv := motB_vec h
  obtain ⟨hd1, t1, t2⟩ := rot_of h hk
  obtain ⟨b1, b2⟩ := ce_bd h
  obtain ⟨g1, g2⟩ := ceG_pos h hk
  have eX : x + bkX a b c d x y = ceX a b c d x y := by unfold bkX ceX; rw [hd1]; grind
  have eY : y + bkY a b c d x y = ceY a b c d x y := by unfold bkY ceY; rw [hd1]; grind
  have S1 : -1000000000 ≤ x + bkX a b c d x y ∧ x + bkX a b c d x y ≤ 1000000000 := by rw [eX]; omega
  have S2 : -1000000000 ≤ y + bkY a b c d x y ∧ y + bkY a b c d x y ≤ 1000000000 := by rw [eY]; omega
  have M0 : Km (w.heap.size) a b c d x y ((w.alloc (.cells #[.int .i64 a, .int .i64 b, .int .i64 c, .int .i64 d, .int .i64 x, .int .i64 y] 44)).alloc (.cells #[.int .i64 0, .int .i64 0] 27)) := ((Km.at (w.heap.size) rfl).alloc _)
  have R0 : KV (w.heap.size + 1) 0 0 ((w.alloc (.cells #[.int .i64 a, .int .i64 b, .int .i64 c, .int .i64 d, .int .i64 x, .int .i64 y] 44)).alloc (.cells #[.int .i64 0, .int .i64 0] 27)) := (KV.at (w.heap.size + 1) (by simp))
  have B0 : Below w.heap.size w ((w.alloc (.cells #[.int .i64 a, .int .i64 b, .int .i64 c, .int .i64 d, .int .i64 x, .int .i64 y] 44)).alloc (.cells #[.int .i64 0, .int .i64 0] 27)) := (Below.alloc (Below.alloc (Below.refl _ _) (by first | with_reducible exact Nat.le_refl _ | (simp <;> omega)) _) (by first | with_reducible exact Nat.le_refl _ | (simp <;> omega)) _)
  go_enter Tryz.func18, Tryz.ntmps18
  have hwD : IntKind.i64.wrap (2 - (a + d)) = 2 - (a + d) := IntWalk.i64_in _ (by omega)
  have hF : ∀ (p q r s t u : Int) (W : World), Sem.run Tryz.prog (Instr.field 44 (.agg #[.int .i64 p, .int .i64 q, .int .i64 r, .int .i64 s, .int .i64 t, .int .i64 u]) 1) W = .ok (.agg #[.int .i64 t, .int .i64 u]) W := by intros; rfl
  have M0lt := M0.1
  have R0lt := R0.lt
  go_upto_region 1 with fail
  go_cut [4, 5] (fun s4 s5 wx => CenCut w a b c d x y s4 s5 wx)
  case first =>
    go_region_held3 (fun W => (W.cell? ⟨w.heap.size, 0, none⟩ = some (.int .i64 a) ∧ W.cell? ⟨w.heap.size, 1, none⟩ = some (.int .i64 b) ∧ W.cell? ⟨w.heap.size, 2, none⟩ = some (.int .i64 c) ∧ W.cell? ⟨w.heap.size, 3, none⟩ = some (.int .i64 d) ∧ W.cell? ⟨w.heap.size, 4, none⟩ = some (.int .i64 x) ∧ W.cell? ⟨w.heap.size, 5, none⟩ = some (.int .i64 y))) ((refine Km.cells ?_ <;> repeat (first | with_reducible assumption | with_reducible refine KV.drew ?_ | with_reducible refine KV.alloc ?_ _ | with_reducible refine KV.call ?_ (by with_reducible assumption) | with_reducible refine Km.drew ?_ | with_reducible refine Km.alloc ?_ _ | with_reducible refine Km.call ?_ (by with_reducible assumption) | ((with_reducible refine KV.put ?_ ?_); (first | omega | (dsimp only; omega))) | ((with_reducible refine Km.put ?_ ?_); (first | omega | (dsimp only; omega))) | ((with_reducible refine KV.far5 ?_ ?_); (first | omega | (dsimp only; omega))) | ((with_reducible refine Km.far ?_ ?_); (first | omega | (dsimp only; omega))))))
      (first
        | (go_at_call 45; ((with_reducible refine (inverseMo_any _ _ _ _ _ _ _ hm hv).mono ?_); rintro e w1 ⟨rfl, hb1⟩; have M1 : Km (w.heap.size) a b c d x y w1 := (by repeat (first | with_reducible assumption | with_reducible refine KV.drew ?_ | with_reducible refine KV.alloc ?_ _ | with_reducible refine KV.call ?_ (by with_reducible assumption) | with_reducible refine Km.drew ?_ | with_reducible refine Km.alloc ?_ _ | with_reducible refine Km.call ?_ (by with_reducible assumption))); have M1l := M1.1; have R1 : KV (w.heap.size + 1) 0 0 w1 := (by repeat (first | with_reducible assumption | with_reducible refine KV.drew ?_ | with_reducible refine KV.alloc ?_ _ | with_reducible refine KV.call ?_ (by with_reducible assumption) | with_reducible refine Km.drew ?_ | with_reducible refine Km.alloc ?_ _ | with_reducible refine Km.call ?_ (by with_reducible assumption))); have R1l := R1.lt; (try ((refine useIt (P := KV (w.heap.size + 1 + 1) 0 0 w1) ?_ ?_); (repeat (first | with_reducible assumption | (with_reducible exact KV.at _ (by first | with_reducible rfl | (simp; done) | fail)) | with_reducible refine KV.drew ?_ | with_reducible refine KV.alloc ?_ _ | with_reducible refine KV.call ?_ (by with_reducible assumption) | with_reducible refine Km.drew ?_ | with_reducible refine Km.alloc ?_ _ | with_reducible refine Km.call ?_ (by with_reducible assumption))); intro C1_e; have C1_ec0 := C1_e.c0; have C1_ef0 := C1_e.f0; have C1_ec1 := C1_e.c1; have C1_ef1 := C1_e.f1; have C1_el := C1_e.lt)); (try ((refine useIt (P := KV (w2.heap.size) 0 0 w1) ?_ ?_); (repeat (first | with_reducible assumption | (with_reducible exact KV.at _ (by first | with_reducible rfl | (simp; done) | fail)) | with_reducible refine KV.drew ?_ | with_reducible refine KV.alloc ?_ _ | with_reducible refine KV.call ?_ (by with_reducible assumption) | with_reducible refine Km.drew ?_ | with_reducible refine Km.alloc ?_ _ | with_reducible refine Km.call ?_ (by with_reducible assumption))); intro C1_w2; have C1_w2c0 := C1_w2.c0; have C1_w2f0 := C1_w2.f0; have C1_w2c1 := C1_w2.c1; have C1_w2f1 := C1_w2.f1; have C1_w2l := C1_w2.lt)); (try ((refine useIt (P := KV (w3.heap.size) 0 0 w1) ?_ ?_); (repeat (first | with_reducible assumption | (with_reducible exact KV.at _ (by first | with_reducible rfl | (simp; done) | fail)) | with_reducible refine KV.drew ?_ | with_reducible refine KV.alloc ?_ _ | with_reducible refine KV.call ?_ (by with_reducible assumption) | with_reducible refine Km.drew ?_ | with_reducible refine Km.alloc ?_ _ | with_reducible refine Km.call ?_ (by with_reducible assumption))); intro C1_w3; have C1_w3c0 := C1_w3.c0; have C1_w3f0 := C1_w3.f0; have C1_w3c1 := C1_w3.c1; have C1_w3f1 := C1_w3.f1; have C1_w3l := C1_w3.lt)); have B1 : Below w.heap.size w w1 := (by repeat (first | with_reducible assumption | with_reducible refine Below.drew ?_ | with_reducible refine Below.alloc ?_ (by first | omega | (simp <;> omega)) _ | with_reducible refine bstep ?_ (by with_reducible assumption)))))
        | (go_at_call 44; ((with_reducible refine (plus5_any _ _ _ _ _ S1 S2).mono ?_); rintro e w2 ⟨rfl, hb2⟩; have M2 : Km (w.heap.size) a b c d x y w2 := (by repeat (first | with_reducible assumption | with_reducible refine KV.drew ?_ | with_reducible refine KV.alloc ?_ _ | with_reducible refine KV.call ?_ (by with_reducible assumption) | with_reducible refine Km.drew ?_ | with_reducible refine Km.alloc ?_ _ | with_reducible refine Km.call ?_ (by with_reducible assumption))); have M2l := M2.1; have R2 : KV (w.heap.size + 1) 0 0 w2 := (by repeat (first | with_reducible assumption | with_reducible refine KV.drew ?_ | with_reducible refine KV.alloc ?_ _ | with_reducible refine KV.call ?_ (by with_reducible assumption) | with_reducible refine Km.drew ?_ | with_reducible refine Km.alloc ?_ _ | with_reducible refine Km.call ?_ (by with_reducible assumption))); have R2l := R2.lt; (try ((refine useIt (P := KV (w.heap.size + 1 + 1) 0 0 w2) ?_ ?_); (repeat (first | with_reducible assumption | (with_reducible exact KV.at _ (by first | with_reducible rfl | (simp; done) | fail)) | with_reducible refine KV.drew ?_ | with_reducible refine KV.alloc ?_ _ | with_reducible refine KV.call ?_ (by with_reducible assumption) | with_reducible refine Km.drew ?_ | with_reducible refine Km.alloc ?_ _ | with_reducible refine Km.call ?_ (by with_reducible assumption))); intro C2_e; have C2_ec0 := C2_e.c0; have C2_ef0 := C2_e.f0; have C2_ec1 := C2_e.c1; have C2_ef1 := C2_e.f1; have C2_el := C2_e.lt)); (try ((refine useIt (P := KV (w1.heap.size) 0 0 w2) ?_ ?_); (repeat (first | with_reducible assumption | (with_reducible exact KV.at _ (by first | with_reducible rfl | (simp; done) | fail)) | with_reducible refine KV.drew ?_ | with_reducible refine KV.alloc ?_ _ | with_reducible refine KV.call ?_ (by with_reducible assumption) | with_reducible refine Km.drew ?_ | with_reducible refine Km.alloc ?_ _ | with_reducible refine Km.call ?_ (by with_reducible assumption))); intro C2_w1; have C2_w1c0 := C2_w1.c0; have C2_w1f0 := C2_w1.f0; have C2_w1c1 := C2_w1.c1; have C2_w1f1 := C2_w1.f1; have C2_w1l := C2_w1.lt)); (try ((refine useIt (P := KV (w3.heap.size) 0 0 w2) ?_ ?_); (repeat (first | with_reducible assumption | (with_reducible exact KV.at _ (by first | with_reducible rfl | (simp; done) | fail)) | with_reducible refine KV.drew ?_ | with_reducible refine KV.alloc ?_ _ | with_reducible refine KV.call ?_ (by with_reducible assumption) | with_reducible refine Km.drew ?_ | with_reducible refine Km.alloc ?_ _ | with_reducible refine Km.call ?_ (by with_reducible assumption))); intro C2_w3; have C2_w3c0 := C2_w3.c0; have C2_w3f0 := C2_w3.f0; have C2_w3c1 := C2_w3.c1; have C2_w3f1 := C2_w3.f1; have C2_w3l := C2_w3.lt)); have B2 : Below w.heap.size w w2 := (by repeat (first | with_reducible assumption | with_reducible refine Below.drew ?_ | with_reducible refine Below.alloc ?_ (by first | omega | (simp <;> omega)) _ | with_reducible refine bstep ?_ (by with_reducible assumption)))))
        | (go_at_call 46; ((with_reducible refine (trace_any _ _ _ _ _ hl).mono ?_); rintro e w3 ⟨rfl, hb3⟩; have M3 : Km (w.heap.size) a b c d x y w3 := (by repeat (first | with_reducible assumption | with_reducible refine KV.drew ?_ | with_reducible refine KV.alloc ?_ _ | with_reducible refine KV.call ?_ (by with_reducible assumption) | with_reducible refine Km.drew ?_ | with_reducible refine Km.alloc ?_ _ | with_reducible refine Km.call ?_ (by with_reducible assumption))); have M3l := M3.1; have R3 : KV (w.heap.size + 1) 0 0 w3 := (by repeat (first | with_reducible assumption | with_reducible refine KV.drew ?_ | with_reducible refine KV.alloc ?_ _ | with_reducible refine KV.call ?_ (by with_reducible assumption) | with_reducible refine Km.drew ?_ | with_reducible refine Km.alloc ?_ _ | with_reducible refine Km.call ?_ (by with_reducible assumption))); have R3l := R3.lt; (try ((refine useIt (P := KV (w.heap.size + 1 + 1) 0 0 w3) ?_ ?_); (repeat (first | with_reducible assumption | (with_reducible exact KV.at _ (by first | with_reducible rfl | (simp; done) | fail)) | with_reducible refine KV.drew ?_ | with_reducible refine KV.alloc ?_ _ | with_reducible refine KV.call ?_ (by with_reducible assumption) | with_reducible refine Km.drew ?_ | with_reducible refine Km.alloc ?_ _ | with_reducible refine Km.call ?_ (by with_reducible assumption))); intro C3_e; have C3_ec0 := C3_e.c0; have C3_ef0 := C3_e.f0; have C3_ec1 := C3_e.c1; have C3_ef1 := C3_e.f1; have C3_el := C3_e.lt)); (try ((refine useIt (P := KV (w1.heap.size) 0 0 w3) ?_ ?_); (repeat (first | with_reducible assumption | (with_reducible exact KV.at _ (by first | with_reducible rfl | (simp; done) | fail)) | with_reducible refine KV.drew ?_ | with_reducible refine KV.alloc ?_ _ | with_reducible refine KV.call ?_ (by with_reducible assumption) | with_reducible refine Km.drew ?_ | with_reducible refine Km.alloc ?_ _ | with_reducible refine Km.call ?_ (by with_reducible assumption))); intro C3_w1; have C3_w1c0 := C3_w1.c0; have C3_w1f0 := C3_w1.f0; have C3_w1c1 := C3_w1.c1; have C3_w1f1 := C3_w1.f1; have C3_w1l := C3_w1.lt)); (try ((refine useIt (P := KV (w2.heap.size) 0 0 w3) ?_ ?_); (repeat (first | with_reducible assumption | (with_reducible exact KV.at _ (by first | with_reducible rfl | (simp; done) | fail)) | with_reducible refine KV.drew ?_ | with_reducible refine KV.alloc ?_ _ | with_reducible refine KV.call ?_ (by with_reducible assumption) | with_reducible refine Km.drew ?_ | with_reducible refine Km.alloc ?_ _ | with_reducible refine Km.call ?_ (by with_reducible assumption))); intro C3_w2; have C3_w2c0 := C3_w2.c0; have C3_w2f0 := C3_w2.f0; have C3_w2c1 := C3_w2.c1; have C3_w2f1 := C3_w2.f1; have C3_w2l := C3_w2.lt)); have B3 : Below w.heap.size w w3 := (by repeat (first | with_reducible assumption | with_reducible refine Below.drew ?_ | with_reducible refine Below.alloc ?_ (by first | omega | (simp <;> omega)) _ | with_reducible refine bstep ?_ (by with_reducible assumption))))))
    all_goals
      go_wp2_with fail
      go_meet
      exact ⟨_, rfl, rfl, (by first | (with_reducible exact KV.at _ (by first | with_reducible rfl | (simp; done) | fail)) | (with_reducible exact KV.store5 (by repeat (first | with_reducible assumption | (with_reducible exact KV.at _ (by first | with_reducible rfl | (simp; done) | fail)) | with_reducible refine KV.drew ?_ | with_reducible refine KV.alloc ?_ _ | with_reducible refine KV.call ?_ (by with_reducible assumption) | with_reducible refine Km.drew ?_ | with_reducible refine Km.alloc ?_ _ | with_reducible refine Km.call ?_ (by with_reducible assumption))) _ _) | fail), by repeat (first | with_reducible assumption | with_reducible refine KV.drew ?_ | with_reducible refine KV.alloc ?_ _ | with_reducible refine KV.call ?_ (by with_reducible assumption) | with_reducible refine Km.drew ?_ | with_reducible refine Km.alloc ?_ _ | with_reducible refine Km.call ?_ (by with_reducible assumption) | ((with_reducible refine KV.put ?_ ?_); (first | omega | (dsimp only; omega))) | ((with_reducible refine Km.put ?_ ?_); (first | omega | (dsimp only; omega))) | ((with_reducible refine KV.far5 ?_ ?_); (first | omega | (dsimp only; omega))) | ((with_reducible refine Km.far ?_ ?_); (first | omega | (dsimp only; omega)))), by repeat (first | with_reducible assumption | with_reducible refine KV.drew ?_ | with_reducible refine KV.alloc ?_ _ | with_reducible refine KV.call ?_ (by with_reducible assumption) | with_reducible refine Km.drew ?_ | with_reducible refine Km.alloc ?_ _ | with_reducible refine Km.call ?_ (by with_reducible assumption) | ((with_reducible refine KV.put ?_ ?_); (first | omega | (dsimp only; omega))) | ((with_reducible refine Km.put ?_ ?_); (first | omega | (dsimp only; omega))) | ((with_reducible refine KV.far5 ?_ ?_); (first | omega | (dsimp only; omega))) | ((with_reducible refine Km.far ?_ ?_); (first | omega | (dsimp only; omega)))), by first | omega | (simp <;> omega), by repeat (first | with_reducible assumption | with_reducible exact Below.refl _ _ | with_reducible refine Below.setCell ?_ (by first | omega | (simp <;> omega)) _ | with_reducible refine Below.alloc ?_ (by first | omega | (simp <;> omega)) _ | with_reducible refine bstep ?_ (by with_reducible assumption) | with_reducible refine Below.drew ?_)⟩
  case rest =>
    obtain ⟨g0, rfl, rfl, C4, M4, R4, leg0, B4⟩ := hcut
    obtain ⟨w4, hw4⟩ : ∃ z, z = wc := ⟨_, rfl⟩
    subst hw4
    have gb := gcdI_big (a := ceX a b c d x y) (b := ceY a b c d x y) (M := 2100000) (by omega) (by omega)
    have tX := tdiv_le g1 2100000 (by omega) b1
    have tY := tdiv_le g1 2100000 (by omega) b2
    have tD := tdiv_le (a := 2 - (a + d)) g1 4 (by omega) (by omega)
    have hgE : gcdI (gcdI (ceX a b c d x y) (ceY a b c d x y)) (2 - (a + d)) = ceG a b c d x y := rfl
    generalize hXe : ceX a b c d x y = X at *
    generalize hYe : ceY a b c d x y = Y at *
    generalize hDe : 2 - (a + d) = D at *
    generalize hGe : ceG a b c d x y = G at *
    clear eX eY S1 S2 hwD h hm hl hv hd1 hk hF M0lt R0lt M0 R0 B0
    clear M4
    have C4c0 := C4.c0
    have C4c1 := C4.c1
    have C4f0 := C4.f0
    have C4f1 := C4.f1
    have C4l := C4.lt
    have C4n : ¬ g0 = w4.heap.size := by omega
    have R4c0 := R4.c0
    have R4c1 := R4.c1
    have R4f0 := R4.f0
    have R4f1 := R4.f1
    have R4l := R4.lt
    have R4n : ¬ w.heap.size + 1 = w4.heap.size := by omega
    go_wp2_with fail
    refine (greatestBig_any _ _ _ (by omega) (by omega) (by omega) (by omega)).mono ?_
    rintro e w5 ⟨rfl, hb5⟩
    have C5 : KV (g0) X Y w5 := KV.call C4 hb5
    have R5 : KV (w.heap.size + 1) 0 0 w5 := KV.call R4 hb5
    have B5 : Below w.heap.size w w5 := bstep B4 hb5
    clear hb5 B4 C4 R4
    have R5c0 := R5.c0
    have R5c1 := R5.c1
    have R5f0 := R5.f0
    have R5f1 := R5.f1
    have R5l := R5.lt
    have R5n : ¬ w.heap.size + 1 = w5.heap.size := by omega
    have C5c0 := C5.c0
    have C5c1 := C5.c1
    have C5f0 := C5.f0
    have C5f1 := C5.f1
    have C5l := C5.lt
    have C5n : ¬ g0 = w5.heap.size := by omega
    go_wp2_with fail
    refine (greatestBig_any _ _ _ (by omega) (by omega) (by omega) (by omega)).mono ?_
    rintro e w6 ⟨rfl, hb6⟩
    have C6 : KV (g0) X Y w6 := KV.call C5 hb6
    have R6 : KV (w.heap.size + 1) 0 0 w6 := KV.call R5 hb6
    have B6 : Below w.heap.size w w6 := bstep B5 hb6
    clear hb6 B5 C5 R5
    have R6c0 := R6.c0
    have R6c1 := R6.c1
    have R6f0 := R6.f0
    have R6f1 := R6.f1
    have R6l := R6.lt
    have R6n : ¬ w.heap.size + 1 = w6.heap.size := by omega
    have C6c0 := C6.c0
    have C6c1 := C6.c1
    have C6f0 := C6.f0
    have C6f1 := C6.f1
    have C6l := C6.lt
    have C6n : ¬ g0 = w6.heap.size := by omega
    rw [hgE]
    have hw1 : IntKind.i64.wrap (X.tdiv G) = X.tdiv G := IntWalk.i64_in _ (by omega)
    have hw2 : IntKind.i64.wrap (Y.tdiv G) = Y.tdiv G := IntWalk.i64_in _ (by omega)
    have hw3 : IntKind.i64.wrap (D.tdiv G) = D.tdiv G := IntWalk.i64_in _ (by omega)
    have hz0 : ¬ G = 0 := by omega
    clear tX tY tD hgE gb b1 b2 t1 t2 g1 g2
    go_wp2_with fail
    go_region_held3 (fun W => (W.cell? ⟨g0, 0, none⟩ = some (.int .i64 X) ∧ W.cell? ⟨g0, 1, none⟩ = some (.int .i64 Y))) ((refine KV.cells5 (R := g0) ?_; repeat (first | with_reducible assumption | with_reducible refine KV.drew ?_ | with_reducible refine KV.alloc ?_ _ | with_reducible refine KV.call ?_ (by with_reducible assumption) | ((with_reducible refine KV.put ?_ ?_); (first | omega | (dsimp only; omega))) | ((with_reducible refine KV.far5 ?_ ?_); (first | omega | (dsimp only; omega)))))) (fail)
    all_goals
      go_wp2
      refine bodyPost_ret (v := .tuple #[.agg #[.int .i64 (X.tdiv G), .int .i64 (Y.tdiv G)], .int .i64 (D.tdiv G)]) (by simp [results, Tryz.results18, go_sem, *]) rfl ⟨by rw [hXe, hYe, hDe, hGe], ?_⟩
      repeat (first | with_reducible assumption | with_reducible exact Below.refl _ _ | with_reducible refine Below.setCell ?_ (by first | omega | (simp <;> omega)) _ | with_reducible refine Below.alloc ?_ (by first | omega | (simp <;> omega)) _ | with_reducible refine bstep ?_ (by with_reducible assumption) | with_reducible refine Below.drew ?_)

end Go.Proofs.YtpdekopmnchanabGreatDoor
