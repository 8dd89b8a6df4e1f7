/-
  Contracts of the program's kind, order and centre of a motion (chapter 5). Conditions: the motion is valid; the program's variable unitMatrix holds the unit.
-/
import Derived.Test.YtpdekopmnchanabDoorMo1
namespace Go.Proofs.YtpdekopmnchanabDoor
open Go.RowKit
set_option linter.unusedSimpArgs false
set_option linter.unusedVariables false

theorem eqArr2 (n : Nat) (a b c d a' b' c' d' : Int) (w : World) : (Op.equalIn (n + 2) 52 (.agg #[.int .i64 a, .int .i64 b, .int .i64 c, .int .i64 d]) (.agg #[.int .i64 a', .int .i64 b', .int .i64 c', .int .i64 d'])).run Tryd.prog w = .ok (eqM a b c d a' b' c' d') w := by
  have u3 := Tryd.underlying2
  have a3 := Tryd.isAgg2
  have z3 := Tryd.sizeOf2
  rw [show n + 2 = (n + 1) + 1 from rfl, Op.equalIn]
  simp only [Sem.run_bind, run_underlying Tryd.underlying52, Result.andThen_ok]
  simp only [Std.Legacy.Range.forIn_eq_forIn_range', Std.Legacy.Range.size, Nat.sub_zero, Nat.add_sub_cancel, Nat.div_one, List.range'_succ, List.range'_zero, List.forIn_cons, List.forIn_nil]
  go_simp
  unfold eqM
  by_cases h1 : a = a' <;> by_cases h2 : b = b' <;> by_cases h3 : c = c' <;> by_cases h4 : d = d' <;> simp [h1, h2, h3, h4]
theorem eqMo (a b c d x y a' b' c' d' x' y' : Int) (w : World) : (Op.equalIn 10000 54 (.agg #[.int .i64 a, .int .i64 b, .int .i64 c, .int .i64 d, .int .i64 x, .int .i64 y]) (.agg #[.int .i64 a', .int .i64 b', .int .i64 c', .int .i64 d', .int .i64 x', .int .i64 y'])).run Tryd.prog w = .ok (eqM a b c d a' b' c' d' && (x == x' && y == y')) w := by
  have hu := Tryd.underlying54
  have hv := Tryd.underlying27
  rw [show (10000 : Nat) = 9999 + 1 from rfl, run_equalIn_struct _ _ _ _ _ (by simp only [Program.fieldsOf, hu]) (by kernel_rfl)]
  simp only [Program.fieldsOf, hu]
  have hA := fun W => eqArr2 9997 a b c d a' b' c' d' W
  have u3 := Tryd.underlying2
  have a3 := Tryd.isAgg2
  have z3 := Tryd.sizeOf2
  go_simp
  rcases eqM a b c d a' b' c' d' with _ | _ <;> by_cases h5 : x = x' <;> by_cases h6 : y = y' <;> simp [h5, h6]

attribute [local go_sem ↓] eqArr eqMo

set_option maxRecDepth 100000 in
set_option maxHeartbeats 8000000 in
theorem kindMo_any (a b c d x y : Int) (w : World) (h : motB a b c d x y = true) (hU : UnitOK w) :
    Calls Tryd.prog 50 #[.agg #[.int .i64 a, .int .i64 b, .int .i64 c, .int .i64 d, .int .i64 x, .int .i64 y]] w fun e w' => e = .returned (.int .i64 (knd a b c d x y)) ∧ Below w.heap.size w w' := by
  have hl := motB_lim h
  have hv := motB_vec h
  clear h
  rcases hu : eqM a b c d 1 0 0 1 with _ | _
  · have hun : unitB a b c d = false := hu
    rcases hr : reflB a b c d with _ | _
    · have EA := Lib.hid (show knd a b c d x y = 2 by simp [knd, hr, hun])
      clear hun
      have M0 : Km (w.heap.size) a b c d x y (w.alloc (.cells #[.int .i64 a, .int .i64 b, .int .i64 c, .int .i64 d, .int .i64 x, .int .i64 y] 54)) := (Km.at (w.heap.size) rfl)
      have B0 : Below w.heap.size w (w.alloc (.cells #[.int .i64 a, .int .i64 b, .int .i64 c, .int .i64 d, .int .i64 x, .int .i64 y] 54)) := (Below.alloc (Below.refl _ _) (by first | with_reducible exact Nat.le_refl _ | (simp <;> omega)) _)
      go_enter Tryd.func50, Tryd.ntmps50
      have M0c0 := M0.c0
      have M0c1 := M0.c1
      have M0c2 := M0.c2
      have M0c3 := M0.c3
      have M0c4 := M0.c4
      have M0c5 := M0.c5
      have M0l := M0.1
      obtain ⟨v0, v1, v2, v3, v4⟩ := id hU
      have vn : ¬ 0 = w.heap.size := by omega
      go_wp2_with fail
      refine (isReflection_any _ _ _ _ _ hl).mono ?_
      rintro e w1 ⟨rfl, hb1⟩
      have M1 : Km (w.heap.size) a b c d x y w1 := Km.call M0 hb1
      have B1 : Below w.heap.size w w1 := bstep B0 hb1
      clear hb1 B0 M0
      have M1c0 := M1.c0
      have M1c1 := M1.c1
      have M1c2 := M1.c2
      have M1c3 := M1.c3
      have M1c4 := M1.c4
      have M1c5 := M1.c5
      have M1l := M1.1
      have M1n : ¬ w.heap.size = w1.heap.size := by omega
      go_wp2
      go_ret
      refine ⟨ret_int EA.out.symm, ?_⟩
      repeat (first | with_reducible assumption | with_reducible exact Below.refl _ _ | with_reducible refine Below.setCell ?_ (by first | omega | (simp <;> omega)) _ | with_reducible refine Below.alloc ?_ (by first | omega | (simp <;> omega)) _ | with_reducible refine bstep ?_ (by with_reducible assumption) | with_reducible refine Below.drew ?_)
    · rcases hx : a * x + b * y + x == 0 with _ | _
      · have EA := Lib.hid (show knd a b c d x y = 4 by simp [knd, hr, hx])
        clear hun
        have M0 : Km (w.heap.size) a b c d x y (w.alloc (.cells #[.int .i64 a, .int .i64 b, .int .i64 c, .int .i64 d, .int .i64 x, .int .i64 y] 54)) := (Km.at (w.heap.size) rfl)
        have B0 : Below w.heap.size w (w.alloc (.cells #[.int .i64 a, .int .i64 b, .int .i64 c, .int .i64 d, .int .i64 x, .int .i64 y] 54)) := (Below.alloc (Below.refl _ _) (by first | with_reducible exact Nat.le_refl _ | (simp <;> omega)) _)
        go_enter Tryd.func50, Tryd.ntmps50
        have M0c0 := M0.c0
        have M0c1 := M0.c1
        have M0c2 := M0.c2
        have M0c3 := M0.c3
        have M0c4 := M0.c4
        have M0c5 := M0.c5
        have M0l := M0.1
        obtain ⟨v0, v1, v2, v3, v4⟩ := id hU
        have vn : ¬ 0 = w.heap.size := by omega
        go_wp2_with fail
        refine (isReflection_any _ _ _ _ _ hl).mono ?_
        rintro e w1 ⟨rfl, hb1⟩
        have M1 : Km (w.heap.size) a b c d x y w1 := Km.call M0 hb1
        have B1 : Below w.heap.size w w1 := bstep B0 hb1
        clear hb1 B0 M0
        have M1c0 := M1.c0
        have M1c1 := M1.c1
        have M1c2 := M1.c2
        have M1c3 := M1.c3
        have M1c4 := M1.c4
        have M1c5 := M1.c5
        have M1l := M1.1
        have M1n : ¬ w.heap.size = w1.heap.size := by omega
        go_wp2_with fail
        refine (twiceMo_any _ _ _ _ _ _ _ hl hv).mono ?_
        rintro e w2 ⟨rfl, hb2⟩
        have M2 : Km (w.heap.size) a b c d x y w2 := Km.call M1 hb2
        have B2 : Below w.heap.size w w2 := bstep B1 hb2
        clear hb2 B1 M1
        have M2c0 := M2.c0
        have M2c1 := M2.c1
        have M2c2 := M2.c2
        have M2c3 := M2.c3
        have M2c4 := M2.c4
        have M2c5 := M2.c5
        have M2l := M2.1
        have M2n : ¬ w.heap.size = w2.heap.size := by omega
        go_wp2
        go_ret
        refine ⟨ret_int EA.out.symm, ?_⟩
        repeat (first | with_reducible assumption | with_reducible exact Below.refl _ _ | with_reducible refine Below.setCell ?_ (by first | omega | (simp <;> omega)) _ | with_reducible refine Below.alloc ?_ (by first | omega | (simp <;> omega)) _ | with_reducible refine bstep ?_ (by with_reducible assumption) | with_reducible refine Below.drew ?_)
      rcases hy : c * x + d * y + y == 0 with _ | _
      · have EA := Lib.hid (show knd a b c d x y = 4 by simp [knd, hr, hy])
        clear hun
        have M0 : Km (w.heap.size) a b c d x y (w.alloc (.cells #[.int .i64 a, .int .i64 b, .int .i64 c, .int .i64 d, .int .i64 x, .int .i64 y] 54)) := (Km.at (w.heap.size) rfl)
        have B0 : Below w.heap.size w (w.alloc (.cells #[.int .i64 a, .int .i64 b, .int .i64 c, .int .i64 d, .int .i64 x, .int .i64 y] 54)) := (Below.alloc (Below.refl _ _) (by first | with_reducible exact Nat.le_refl _ | (simp <;> omega)) _)
        go_enter Tryd.func50, Tryd.ntmps50
        have M0c0 := M0.c0
        have M0c1 := M0.c1
        have M0c2 := M0.c2
        have M0c3 := M0.c3
        have M0c4 := M0.c4
        have M0c5 := M0.c5
        have M0l := M0.1
        obtain ⟨v0, v1, v2, v3, v4⟩ := id hU
        have vn : ¬ 0 = w.heap.size := by omega
        go_wp2_with fail
        refine (isReflection_any _ _ _ _ _ hl).mono ?_
        rintro e w1 ⟨rfl, hb1⟩
        have M1 : Km (w.heap.size) a b c d x y w1 := Km.call M0 hb1
        have B1 : Below w.heap.size w w1 := bstep B0 hb1
        clear hb1 B0 M0
        have M1c0 := M1.c0
        have M1c1 := M1.c1
        have M1c2 := M1.c2
        have M1c3 := M1.c3
        have M1c4 := M1.c4
        have M1c5 := M1.c5
        have M1l := M1.1
        have M1n : ¬ w.heap.size = w1.heap.size := by omega
        go_wp2_with fail
        refine (twiceMo_any _ _ _ _ _ _ _ hl hv).mono ?_
        rintro e w2 ⟨rfl, hb2⟩
        have M2 : Km (w.heap.size) a b c d x y w2 := Km.call M1 hb2
        have B2 : Below w.heap.size w w2 := bstep B1 hb2
        clear hb2 B1 M1
        have M2c0 := M2.c0
        have M2c1 := M2.c1
        have M2c2 := M2.c2
        have M2c3 := M2.c3
        have M2c4 := M2.c4
        have M2c5 := M2.c5
        have M2l := M2.1
        have M2n : ¬ w.heap.size = w2.heap.size := by omega
        go_wp2
        go_ret
        refine ⟨ret_int EA.out.symm, ?_⟩
        repeat (first | with_reducible assumption | with_reducible exact Below.refl _ _ | with_reducible refine Below.setCell ?_ (by first | omega | (simp <;> omega)) _ | with_reducible refine Below.alloc ?_ (by first | omega | (simp <;> omega)) _ | with_reducible refine bstep ?_ (by with_reducible assumption) | with_reducible refine Below.drew ?_)
      · have EA := Lib.hid (show knd a b c d x y = 3 by simp [knd, hr, hx, hy])
        clear hun
        have M0 : Km (w.heap.size) a b c d x y (w.alloc (.cells #[.int .i64 a, .int .i64 b, .int .i64 c, .int .i64 d, .int .i64 x, .int .i64 y] 54)) := (Km.at (w.heap.size) rfl)
        have B0 : Below w.heap.size w (w.alloc (.cells #[.int .i64 a, .int .i64 b, .int .i64 c, .int .i64 d, .int .i64 x, .int .i64 y] 54)) := (Below.alloc (Below.refl _ _) (by first | with_reducible exact Nat.le_refl _ | (simp <;> omega)) _)
        go_enter Tryd.func50, Tryd.ntmps50
        have M0c0 := M0.c0
        have M0c1 := M0.c1
        have M0c2 := M0.c2
        have M0c3 := M0.c3
        have M0c4 := M0.c4
        have M0c5 := M0.c5
        have M0l := M0.1
        obtain ⟨v0, v1, v2, v3, v4⟩ := id hU
        have vn : ¬ 0 = w.heap.size := by omega
        go_wp2_with fail
        refine (isReflection_any _ _ _ _ _ hl).mono ?_
        rintro e w1 ⟨rfl, hb1⟩
        have M1 : Km (w.heap.size) a b c d x y w1 := Km.call M0 hb1
        have B1 : Below w.heap.size w w1 := bstep B0 hb1
        clear hb1 B0 M0
        have M1c0 := M1.c0
        have M1c1 := M1.c1
        have M1c2 := M1.c2
        have M1c3 := M1.c3
        have M1c4 := M1.c4
        have M1c5 := M1.c5
        have M1l := M1.1
        have M1n : ¬ w.heap.size = w1.heap.size := by omega
        go_wp2_with fail
        refine (twiceMo_any _ _ _ _ _ _ _ hl hv).mono ?_
        rintro e w2 ⟨rfl, hb2⟩
        have M2 : Km (w.heap.size) a b c d x y w2 := Km.call M1 hb2
        have B2 : Below w.heap.size w w2 := bstep B1 hb2
        clear hb2 B1 M1
        have M2c0 := M2.c0
        have M2c1 := M2.c1
        have M2c2 := M2.c2
        have M2c3 := M2.c3
        have M2c4 := M2.c4
        have M2c5 := M2.c5
        have M2l := M2.1
        have M2n : ¬ w.heap.size = w2.heap.size := by omega
        go_wp2
        go_ret
        refine ⟨ret_int EA.out.symm, ?_⟩
        repeat (first | with_reducible assumption | with_reducible exact Below.refl _ _ | with_reducible refine Below.setCell ?_ (by first | omega | (simp <;> omega)) _ | with_reducible refine Below.alloc ?_ (by first | omega | (simp <;> omega)) _ | with_reducible refine bstep ?_ (by with_reducible assumption) | with_reducible refine Below.drew ?_)
  · have hun : unitB a b c d = true := hu
    have hr := unit_refl hun
    rcases hx : x == 0 with _ | _
    · have EA := Lib.hid (show knd a b c d x y = 1 by simp [knd, hr, hun, hx])
      clear hun hr
      have M0 : Km (w.heap.size) a b c d x y (w.alloc (.cells #[.int .i64 a, .int .i64 b, .int .i64 c, .int .i64 d, .int .i64 x, .int .i64 y] 54)) := (Km.at (w.heap.size) rfl)
      have B0 : Below w.heap.size w (w.alloc (.cells #[.int .i64 a, .int .i64 b, .int .i64 c, .int .i64 d, .int .i64 x, .int .i64 y] 54)) := (Below.alloc (Below.refl _ _) (by first | with_reducible exact Nat.le_refl _ | (simp <;> omega)) _)
      go_enter Tryd.func50, Tryd.ntmps50
      have M0c0 := M0.c0
      have M0c1 := M0.c1
      have M0c2 := M0.c2
      have M0c3 := M0.c3
      have M0c4 := M0.c4
      have M0c5 := M0.c5
      have M0l := M0.1
      obtain ⟨v0, v1, v2, v3, v4⟩ := id hU
      have vn : ¬ 0 = w.heap.size := by omega
      go_wp2
      go_ret
      refine ⟨ret_int EA.out.symm, ?_⟩
      repeat (first | with_reducible assumption | with_reducible exact Below.refl _ _ | with_reducible refine Below.setCell ?_ (by first | omega | (simp <;> omega)) _ | with_reducible refine Below.alloc ?_ (by first | omega | (simp <;> omega)) _ | with_reducible refine bstep ?_ (by with_reducible assumption) | with_reducible refine Below.drew ?_)
    rcases hy : y == 0 with _ | _
    · have EA := Lib.hid (show knd a b c d x y = 1 by simp [knd, hr, hun, hy])
      clear hun hr
      have M0 : Km (w.heap.size) a b c d x y (w.alloc (.cells #[.int .i64 a, .int .i64 b, .int .i64 c, .int .i64 d, .int .i64 x, .int .i64 y] 54)) := (Km.at (w.heap.size) rfl)
      have B0 : Below w.heap.size w (w.alloc (.cells #[.int .i64 a, .int .i64 b, .int .i64 c, .int .i64 d, .int .i64 x, .int .i64 y] 54)) := (Below.alloc (Below.refl _ _) (by first | with_reducible exact Nat.le_refl _ | (simp <;> omega)) _)
      go_enter Tryd.func50, Tryd.ntmps50
      have M0c0 := M0.c0
      have M0c1 := M0.c1
      have M0c2 := M0.c2
      have M0c3 := M0.c3
      have M0c4 := M0.c4
      have M0c5 := M0.c5
      have M0l := M0.1
      obtain ⟨v0, v1, v2, v3, v4⟩ := id hU
      have vn : ¬ 0 = w.heap.size := by omega
      go_wp2
      go_ret
      refine ⟨ret_int EA.out.symm, ?_⟩
      repeat (first | with_reducible assumption | with_reducible exact Below.refl _ _ | with_reducible refine Below.setCell ?_ (by first | omega | (simp <;> omega)) _ | with_reducible refine Below.alloc ?_ (by first | omega | (simp <;> omega)) _ | with_reducible refine bstep ?_ (by with_reducible assumption) | with_reducible refine Below.drew ?_)
    · have EA := Lib.hid (show knd a b c d x y = 0 by simp [knd, hr, hun, hx, hy])
      clear hun hr
      have M0 : Km (w.heap.size) a b c d x y (w.alloc (.cells #[.int .i64 a, .int .i64 b, .int .i64 c, .int .i64 d, .int .i64 x, .int .i64 y] 54)) := (Km.at (w.heap.size) rfl)
      have B0 : Below w.heap.size w (w.alloc (.cells #[.int .i64 a, .int .i64 b, .int .i64 c, .int .i64 d, .int .i64 x, .int .i64 y] 54)) := (Below.alloc (Below.refl _ _) (by first | with_reducible exact Nat.le_refl _ | (simp <;> omega)) _)
      go_enter Tryd.func50, Tryd.ntmps50
      have M0c0 := M0.c0
      have M0c1 := M0.c1
      have M0c2 := M0.c2
      have M0c3 := M0.c3
      have M0c4 := M0.c4
      have M0c5 := M0.c5
      have M0l := M0.1
      obtain ⟨v0, v1, v2, v3, v4⟩ := id hU
      have vn : ¬ 0 = w.heap.size := by omega
      go_wp2
      go_ret
      refine ⟨ret_int EA.out.symm, ?_⟩
      repeat (first | with_reducible assumption | with_reducible exact Below.refl _ _ | with_reducible refine Below.setCell ?_ (by first | omega | (simp <;> omega)) _ | with_reducible refine Below.alloc ?_ (by first | omega | (simp <;> omega)) _ | with_reducible refine bstep ?_ (by with_reducible assumption) | with_reducible refine Below.drew ?_)

set_option maxRecDepth 100000 in
set_option maxHeartbeats 4000000 in
theorem orderMo_any (a b c d x y : Int) (w : World) (h : motB a b c d x y = true) (hU : UnitOK w) :
    Calls Tryd.prog 52 #[.agg #[.int .i64 a, .int .i64 b, .int .i64 c, .int .i64 d, .int .i64 x, .int .i64 y]] w fun e w' => e = .returned (.int .i64 (omoI a b c d x y)) ∧ Below w.heap.size w w' := by
  rcases h1 : knd a b c d x y == 1 with _ | _
  · rcases h4 : knd a b c d x y == 4 with _ | _
    · have EA := Lib.hid (show omoI a b c d x y = ordT a b c d by simp [omoI, h1, h4])
      have M0 : Km (w.heap.size) a b c d x y (w.alloc (.cells #[.int .i64 a, .int .i64 b, .int .i64 c, .int .i64 d, .int .i64 x, .int .i64 y] 54)) := (Km.at (w.heap.size) rfl)
      have B0 : Below w.heap.size w (w.alloc (.cells #[.int .i64 a, .int .i64 b, .int .i64 c, .int .i64 d, .int .i64 x, .int .i64 y] 54)) := (Below.alloc (Below.refl _ _) (by first | with_reducible exact Nat.le_refl _ | (simp <;> omega)) _)
      go_enter Tryd.func52, Tryd.ntmps52
      have M0c0 := M0.c0
      have M0c1 := M0.c1
      have M0c2 := M0.c2
      have M0c3 := M0.c3
      have M0c4 := M0.c4
      have M0c5 := M0.c5
      have M0l := M0.1
      go_wp2_with fail
      refine (kindMo_any _ _ _ _ _ _ _ h (UnitOK.alloc hU _)).mono ?_
      rintro e w1 ⟨rfl, hb1⟩
      have HB1 := Lib.hid hb1
      have M1 : Km (w.heap.size) a b c d x y w1 := Km.call M0 hb1
      have B1 : Below w.heap.size w w1 := bstep B0 hb1
      clear hb1 B0 M0
      have M1c0 := M1.c0
      have M1c1 := M1.c1
      have M1c2 := M1.c2
      have M1c3 := M1.c3
      have M1c4 := M1.c4
      have M1c5 := M1.c5
      have M1l := M1.1
      have M1n : ¬ w.heap.size = w1.heap.size := by omega
      go_wp2_with fail
      refine (order_any _ _ _ _ _ (motB_mat h) ((UnitOK.alloc hU _).call HB1.out)).mono ?_
      rintro e w2 ⟨rfl, hb2⟩
      have M2 : Km (w.heap.size) a b c d x y w2 := Km.call M1 hb2
      have B2 : Below w.heap.size w w2 := bstep B1 hb2
      clear hb2 B1 M1
      have M2c0 := M2.c0
      have M2c1 := M2.c1
      have M2c2 := M2.c2
      have M2c3 := M2.c3
      have M2c4 := M2.c4
      have M2c5 := M2.c5
      have M2l := M2.1
      have M2n : ¬ w.heap.size = w2.heap.size := by omega
      go_wp2
      go_ret
      refine ⟨ret_int EA.out.symm, ?_⟩
      repeat (first | with_reducible assumption | with_reducible exact Below.refl _ _ | with_reducible refine Below.setCell ?_ (by first | omega | (simp <;> omega)) _ | with_reducible refine Below.alloc ?_ (by first | omega | (simp <;> omega)) _ | with_reducible refine bstep ?_ (by with_reducible assumption) | with_reducible refine Below.drew ?_)
    · have EA := Lib.hid (show omoI a b c d x y = 0 by simp [omoI, h4])
      have M0 : Km (w.heap.size) a b c d x y (w.alloc (.cells #[.int .i64 a, .int .i64 b, .int .i64 c, .int .i64 d, .int .i64 x, .int .i64 y] 54)) := (Km.at (w.heap.size) rfl)
      have B0 : Below w.heap.size w (w.alloc (.cells #[.int .i64 a, .int .i64 b, .int .i64 c, .int .i64 d, .int .i64 x, .int .i64 y] 54)) := (Below.alloc (Below.refl _ _) (by first | with_reducible exact Nat.le_refl _ | (simp <;> omega)) _)
      go_enter Tryd.func52, Tryd.ntmps52
      have M0c0 := M0.c0
      have M0c1 := M0.c1
      have M0c2 := M0.c2
      have M0c3 := M0.c3
      have M0c4 := M0.c4
      have M0c5 := M0.c5
      have M0l := M0.1
      go_wp2_with fail
      refine (kindMo_any _ _ _ _ _ _ _ h (UnitOK.alloc hU _)).mono ?_
      rintro e w1 ⟨rfl, hb1⟩
      have HB1 := Lib.hid hb1
      have M1 : Km (w.heap.size) a b c d x y w1 := Km.call M0 hb1
      have B1 : Below w.heap.size w w1 := bstep B0 hb1
      clear hb1 B0 M0
      have M1c0 := M1.c0
      have M1c1 := M1.c1
      have M1c2 := M1.c2
      have M1c3 := M1.c3
      have M1c4 := M1.c4
      have M1c5 := M1.c5
      have M1l := M1.1
      have M1n : ¬ w.heap.size = w1.heap.size := by omega
      go_wp2
      go_ret
      refine ⟨ret_int EA.out.symm, ?_⟩
      repeat (first | with_reducible assumption | with_reducible exact Below.refl _ _ | with_reducible refine Below.setCell ?_ (by first | omega | (simp <;> omega)) _ | with_reducible refine Below.alloc ?_ (by first | omega | (simp <;> omega)) _ | with_reducible refine bstep ?_ (by with_reducible assumption) | with_reducible refine Below.drew ?_)
  · have EA := Lib.hid (show omoI a b c d x y = 0 by simp [omoI, h1])
    have M0 : Km (w.heap.size) a b c d x y (w.alloc (.cells #[.int .i64 a, .int .i64 b, .int .i64 c, .int .i64 d, .int .i64 x, .int .i64 y] 54)) := (Km.at (w.heap.size) rfl)
    have B0 : Below w.heap.size w (w.alloc (.cells #[.int .i64 a, .int .i64 b, .int .i64 c, .int .i64 d, .int .i64 x, .int .i64 y] 54)) := (Below.alloc (Below.refl _ _) (by first | with_reducible exact Nat.le_refl _ | (simp <;> omega)) _)
    go_enter Tryd.func52, Tryd.ntmps52
    have M0c0 := M0.c0
    have M0c1 := M0.c1
    have M0c2 := M0.c2
    have M0c3 := M0.c3
    have M0c4 := M0.c4
    have M0c5 := M0.c5
    have M0l := M0.1
    go_wp2_with fail
    refine (kindMo_any _ _ _ _ _ _ _ h (UnitOK.alloc hU _)).mono ?_
    rintro e w1 ⟨rfl, hb1⟩
    have HB1 := Lib.hid hb1
    have M1 : Km (w.heap.size) a b c d x y w1 := Km.call M0 hb1
    have B1 : Below w.heap.size w w1 := bstep B0 hb1
    clear hb1 B0 M0
    have M1c0 := M1.c0
    have M1c1 := M1.c1
    have M1c2 := M1.c2
    have M1c3 := M1.c3
    have M1c4 := M1.c4
    have M1c5 := M1.c5
    have M1l := M1.1
    have M1n : ¬ w.heap.size = w1.heap.size := by omega
    go_wp2
    go_ret
    refine ⟨ret_int EA.out.symm, ?_⟩
    repeat (first | with_reducible assumption | with_reducible exact Below.refl _ _ | with_reducible refine Below.setCell ?_ (by first | omega | (simp <;> omega)) _ | with_reducible refine Below.alloc ?_ (by first | omega | (simp <;> omega)) _ | with_reducible refine bstep ?_ (by with_reducible assumption) | with_reducible refine Below.drew ?_)

end Go.Proofs.YtpdekopmnchanabDoor
