/-
 Contracts of the names of facts, in the program and in the model (chapter 12). No condition.
-/
import Derived.Test.YtjjfomokecngoaaGreatDoorNmI
import Derived.Test.YtjjfomokecngoaaGreatDoorBx
import Derived.MapKept
import Derived.Deep.RegionHeld3
import Derived.LoopTactic
namespace Go.Proofs.YtjjfomokecngoaaGreatDoor
open Go.RowKit
set_option linter.unusedSimpArgs false
set_option linter.unusedVariables false

theorem ab (w : World) (o : Obj) : Below w.heap.size w (w.alloc o) := (Below.refl _ _).alloc (Nat.le_refl _) _
theorem ab2 (w : World) (o o2 : Obj) : Below w.heap.size w ((w.alloc o).alloc o2) := (ab w o).alloc (by simp) _
def nmS (r n e c : Int) (al : Bool) : Nat := if n = 0 then 0 else if r = 1 ∨ r = 2 then nmI r n e c al else 0
def nmW (r n e c : Int) (al : Bool) : Nat := if n = 0 then 0 else nmI r n e c al
set_option maxRecDepth 100000 in
set_option maxHeartbeats 16000000 in
theorem l12Plain_any (r e c : Int) (al : Bool) (w : World) :
  Calls Tryz.prog 122 #[.agg #[.int .i64 r, .int .i64 0, .int .i64 e, .int .i64 c, .bool al]] w fun z w' => z = .returned (.string (nmB (nmI r 0 e c al))) ∧ Below w.heap.size w w' := by
 by_cases he0 : e = 0
 ·subst he0
  by_cases hc0 : c = 0
  ·subst hc0
   cases al
   case false =>
    by_cases hr1 : r = 1
    ·subst hr1
     have hN : nmI 1 0 0 0 false = 1 := by
      unfold nmI
      first | (simp [nmI]; done) | (simp only [nmI]; repeat' split) <;> first | rfl | omega | (simp_all; done) | (simp_all; omega)
     have HN := Lib.hid hN
     clear hN
     go_enter Tryz.func122, Tryz.ntmps122
     go_wp2
     go_ret
     exact ⟨ret_str (by rw [HN.out]; rfl), by first | exact ab _ _ | exact ab2 _ _ _⟩
    have br1 : (r == 1) = false := by simpa using hr1
    by_cases hr2 : r = 2
    ·subst hr2
     have hN : nmI 2 0 0 0 false = 2 := by
      unfold nmI
      first | (simp [nmI, hr1]; done) | (simp only [nmI]; repeat' split) <;> first | rfl | omega | (simp_all; done) | (simp_all; omega)
     have HN := Lib.hid hN
     clear hN hr1
     go_enter Tryz.func122, Tryz.ntmps122
     go_wp2
     go_ret
     exact ⟨ret_str (by rw [HN.out]; rfl), by first | exact ab _ _ | exact ab2 _ _ _⟩
    have br2 : (r == 2) = false := by simpa using hr2
    by_cases hr3 : r = 3
    ·subst hr3
     have hN : nmI 3 0 0 0 false = 13 := by
      unfold nmI
      first | (simp [nmI, hr1, hr2]; done) | (simp only [nmI]; repeat' split) <;> first | rfl | omega | (simp_all; done) | (simp_all; omega)
     have HN := Lib.hid hN
     clear hN hr1 hr2
     go_enter Tryz.func122, Tryz.ntmps122
     go_wp2
     go_ret
     exact ⟨ret_str (by rw [HN.out]; rfl), by first | exact ab _ _ | exact ab2 _ _ _⟩
    have br3 : (r == 3) = false := by simpa using hr3
    by_cases hr4 : r = 4
    ·subst hr4
     have hN : nmI 4 0 0 0 false = 10 := by
      unfold nmI
      first | (simp [nmI, hr1, hr2, hr3]; done) | (simp only [nmI]; repeat' split) <;> first | rfl | omega | (simp_all; done) | (simp_all; omega)
     have HN := Lib.hid hN
     clear hN hr1 hr2 hr3
     go_enter Tryz.func122, Tryz.ntmps122
     go_wp2
     go_ret
     exact ⟨ret_str (by rw [HN.out]; rfl), by first | exact ab _ _ | exact ab2 _ _ _⟩
    have br4 : (r == 4) = false := by simpa using hr4
    by_cases hr6 : r = 6
    ·subst hr6
     have hN : nmI 6 0 0 0 false = 16 := by
      unfold nmI
      first | (simp [nmI, hr1, hr2, hr3, hr4]; done) | (simp only [nmI]; repeat' split) <;> first | rfl | omega | (simp_all; done) | (simp_all; omega)
     have HN := Lib.hid hN
     clear hN hr1 hr2 hr3 hr4
     go_enter Tryz.func122, Tryz.ntmps122
     go_wp2
     go_ret
     exact ⟨ret_str (by rw [HN.out]; rfl), by first | exact ab _ _ | exact ab2 _ _ _⟩
    have br6 : (r == 6) = false := by simpa using hr6
    have hN : nmI r 0 0 0 false = 0 := by
     unfold nmI
     first | (simp [nmI, hr1, hr2, hr3, hr4, hr6]; done) | (simp only [nmI]; repeat' split) <;> first | rfl | omega | (simp_all; done) | (simp_all; omega)
    have HN := Lib.hid hN
    clear hN hr1 hr2 hr3 hr4 hr6
    go_enter Tryz.func122, Tryz.ntmps122
    go_wp2
    go_ret
    exact ⟨ret_str (by rw [HN.out]; rfl), by first | exact ab _ _ | exact ab2 _ _ _⟩
   case true =>
    have hN : nmI r 0 0 0 true = 0 := by
     unfold nmI
     first | (simp [nmI]; done) | (simp only [nmI]; repeat' split) <;> first | rfl | omega | (simp_all; done) | (simp_all; omega)
    have HN := Lib.hid hN
    clear hN
    go_enter Tryz.func122, Tryz.ntmps122
    go_wp2
    go_ret
    exact ⟨ret_str (by rw [HN.out]; rfl), by first | exact ab _ _ | exact ab2 _ _ _⟩
  have bc0 : (c == 0) = false := by simpa using hc0
  have bc1 : (c != 0) = true := by simp [bne, bc0]
  have hN : nmI r 0 0 c al = 0 := by
   unfold nmI
   first | (simp [nmI, hc0]; done) | (simp only [nmI]; repeat' split) <;> first | rfl | omega | (simp_all; done) | (simp_all; omega)
  have HN := Lib.hid hN
  clear hN hc0
  go_enter Tryz.func122, Tryz.ntmps122
  go_wp2
  go_ret
  exact ⟨ret_str (by rw [HN.out]; rfl), by first | exact ab _ _ | exact ab2 _ _ _⟩
 have be0 : (e == 0) = false := by simpa using he0
 have be1 : (e != 0) = true := by simp [bne, be0]
 have hN : nmI r 0 e c al = 0 := by
  unfold nmI
  first | (simp [nmI, he0]; done) | (simp only [nmI]; repeat' split) <;> first | rfl | omega | (simp_all; done) | (simp_all; omega)
 have HN := Lib.hid hN
 clear hN he0
 go_enter Tryz.func122, Tryz.ntmps122
 go_wp2
 go_ret
 exact ⟨ret_str (by rw [HN.out]; rfl), by first | exact ab _ _ | exact ab2 _ _ _⟩
set_option maxRecDepth 100000 in
set_option maxHeartbeats 16000000 in
theorem l12Small_any (r n e c : Int) (al : Bool) (w : World) :
  Calls Tryz.prog 123 #[.agg #[.int .i64 r, .int .i64 n, .int .i64 e, .int .i64 c, .bool al]] w fun z w' => z = .returned (.string (nmB (nmS r n e c al))) ∧ Below w.heap.size w w' := by
 by_cases hr1 : r = 1
 ·subst hr1
  by_cases hn1 : n = 1
  ·subst hn1
   by_cases he0 : e = 0
   ·subst he0
    have hN : nmS 1 1 0 c al = 4 := by
     unfold nmS
     first | (simp [nmI]; done) | (simp only [nmI]; repeat' split) <;> first | rfl | omega | (simp_all; done) | (simp_all; omega)
    have HN := Lib.hid hN
    clear hN
    go_enter Tryz.func123, Tryz.ntmps123
    go_wp2
    go_ret
    exact ⟨ret_str (by rw [HN.out]; rfl), by first | exact ab _ _ | exact ab2 _ _ _⟩
   have be0 : (e == 0) = false := by simpa using he0
   by_cases he1 : e = 1
   ·subst he1
    by_cases hc1 : c = 1
    ·subst hc1
     have hN : nmS 1 1 1 1 al = 5 := by
      unfold nmS
      first | (simp [nmI, he0]; done) | (simp only [nmI]; repeat' split) <;> first | rfl | omega | (simp_all; done) | (simp_all; omega)
     have HN := Lib.hid hN
     clear hN he0
     go_enter Tryz.func123, Tryz.ntmps123
     go_wp2
     go_ret
     exact ⟨ret_str (by rw [HN.out]; rfl), by first | exact ab _ _ | exact ab2 _ _ _⟩
    have bc1 : (c == 1) = false := by simpa using hc1
    by_cases hc0 : c = 0
    ·subst hc0
     have hN : nmS 1 1 1 0 al = 3 := by
      unfold nmS
      first | (simp [nmI, he0, hc1]; done) | (simp only [nmI]; repeat' split) <;> first | rfl | omega | (simp_all; done) | (simp_all; omega)
     have HN := Lib.hid hN
     clear hN he0 hc1
     go_enter Tryz.func123, Tryz.ntmps123
     go_wp2
     go_ret
     exact ⟨ret_str (by rw [HN.out]; rfl), by first | exact ab _ _ | exact ab2 _ _ _⟩
    have bc0 : (c == 0) = false := by simpa using hc0
    have hN : nmS 1 1 1 c al = 0 := by
     unfold nmS
     first | (simp [nmI, he0, hc1, hc0]; done) | (simp only [nmI]; repeat' split) <;> first | rfl | omega | (simp_all; done) | (simp_all; omega)
    have HN := Lib.hid hN
    clear hN he0 hc1 hc0
    go_enter Tryz.func123, Tryz.ntmps123
    go_wp2
    go_ret
    exact ⟨ret_str (by rw [HN.out]; rfl), by first | exact ab _ _ | exact ab2 _ _ _⟩
   have be1 : (e == 1) = false := by simpa using he1
   have hN : nmS 1 1 e c al = 0 := by
    unfold nmS
    first | (simp [nmI, he0, he1]; done) | (simp only [nmI]; repeat' split) <;> first | rfl | omega | (simp_all; done) | (simp_all; omega)
   have HN := Lib.hid hN
   clear hN he0 he1
   go_enter Tryz.func123, Tryz.ntmps123
   go_wp2
   go_ret
   exact ⟨ret_str (by rw [HN.out]; rfl), by first | exact ab _ _ | exact ab2 _ _ _⟩
  have bn1 : (n == 1) = false := by simpa using hn1
  have hN : nmS 1 n e c al = 0 := by
   unfold nmS
   first | (simp [nmI, hn1]; done) | (simp only [nmI]; repeat' split) <;> first | rfl | omega | (simp_all; done) | (simp_all; omega)
  have HN := Lib.hid hN
  clear hN hn1
  go_enter Tryz.func123, Tryz.ntmps123
  go_wp2
  go_ret
  exact ⟨ret_str (by rw [HN.out]; rfl), by first | exact ab _ _ | exact ab2 _ _ _⟩
 have br1 : (r == 1) = false := by simpa using hr1
 by_cases hr2 : r = 2
 ·subst hr2
  by_cases hn2 : n = 2
  ·subst hn2
   by_cases hc2 : c = 2
   ·subst hc2
    by_cases he2 : e = 2
    ·subst he2
     have hN : nmS 2 2 2 2 al = 9 := by
      unfold nmS
      first | (simp [nmI, hr1]; done) | (simp only [nmI]; repeat' split) <;> first | rfl | omega | (simp_all; done) | (simp_all; omega)
     have HN := Lib.hid hN
     clear hN hr1
     go_enter Tryz.func123, Tryz.ntmps123
     go_wp2
     go_ret
     exact ⟨ret_str (by rw [HN.out]; rfl), by first | exact ab _ _ | exact ab2 _ _ _⟩
    have be2 : (e == 2) = false := by simpa using he2
    have hN : nmS 2 2 e 2 al = 0 := by
     unfold nmS
     first | (simp [nmI, hr1, he2]; done) | (simp only [nmI]; repeat' split) <;> first | rfl | omega | (simp_all; done) | (simp_all; omega)
    have HN := Lib.hid hN
    clear hN hr1 he2
    go_enter Tryz.func123, Tryz.ntmps123
    go_wp2
    go_ret
    exact ⟨ret_str (by rw [HN.out]; rfl), by first | exact ab _ _ | exact ab2 _ _ _⟩
   have bc2 : (c == 2) = false := by simpa using hc2
   by_cases hc0 : c = 0
   ·subst hc0
    by_cases he0 : e = 0
    ·subst he0
     have hN : nmS 2 2 0 0 al = 8 := by
      unfold nmS
      first | (simp [nmI, hr1, hc2]; done) | (simp only [nmI]; repeat' split) <;> first | rfl | omega | (simp_all; done) | (simp_all; omega)
     have HN := Lib.hid hN
     clear hN hr1 hc2
     go_enter Tryz.func123, Tryz.ntmps123
     go_wp2_with (go_at_call 189; refine (l01In_any _ _ _ _).mono ?_; rintro z9 w9 ⟨rfl, rfl⟩)
     go_wp2
     go_ret
     exact ⟨ret_str (by rw [HN.out]; rfl), by first | exact ab _ _ | exact ab2 _ _ _⟩
    have be0 : (e == 0) = false := by simpa using he0
    by_cases he1 : e = 1
    ·subst he1
     have hN : nmS 2 2 1 0 al = 7 := by
      unfold nmS
      first | (simp [nmI, hr1, hc2, he0]; done) | (simp only [nmI]; repeat' split) <;> first | rfl | omega | (simp_all; done) | (simp_all; omega)
     have HN := Lib.hid hN
     clear hN hr1 hc2 he0
     go_enter Tryz.func123, Tryz.ntmps123
     go_wp2_with (go_at_call 189; refine (l01In_any _ _ _ _).mono ?_; rintro z9 w9 ⟨rfl, rfl⟩)
     go_wp2
     go_ret
     exact ⟨ret_str (by rw [HN.out]; rfl), by first | exact ab _ _ | exact ab2 _ _ _⟩
    have be1 : (e == 1) = false := by simpa using he1
    by_cases he2 : e = 2
    ·subst he2
     have hN : nmS 2 2 2 0 al = 6 := by
      unfold nmS
      first | (simp [nmI, hr1, hc2, he0, he1]; done) | (simp only [nmI]; repeat' split) <;> first | rfl | omega | (simp_all; done) | (simp_all; omega)
     have HN := Lib.hid hN
     clear hN hr1 hc2 he0 he1
     go_enter Tryz.func123, Tryz.ntmps123
     go_wp2_with (go_at_call 189; refine (l01In_any _ _ _ _).mono ?_; rintro z9 w9 ⟨rfl, rfl⟩)
     go_wp2
     go_ret
     exact ⟨ret_str (by rw [HN.out]; rfl), by first | exact ab _ _ | exact ab2 _ _ _⟩
    have be2 : (e == 2) = false := by simpa using he2
    have hin : inB e 0 2 = false := by simp [inB]; omega
    have hN : nmS 2 2 e 0 al = 0 := by
     unfold nmS
     first | (simp [nmI, hr1, hc2, he0, he1, he2]; done) | (simp only [nmI]; repeat' split) <;> first | rfl | omega | (simp_all; done) | (simp_all; omega)
    have HN := Lib.hid hN
    clear hN hr1 hc2 he0 he1 he2
    go_enter Tryz.func123, Tryz.ntmps123
    go_wp2_with (go_at_call 189; refine (l01In_any _ _ _ _).mono ?_; rintro z9 w9 ⟨rfl, rfl⟩)
    go_wp2
    go_ret
    exact ⟨ret_str (by rw [HN.out]; rfl), by first | exact ab _ _ | exact ab2 _ _ _⟩
   have bc0 : (c == 0) = false := by simpa using hc0
   have hN : nmS 2 2 e c al = 0 := by
    unfold nmS
    first | (simp [nmI, hr1, hc2, hc0]; done) | (simp only [nmI]; repeat' split) <;> first | rfl | omega | (simp_all; done) | (simp_all; omega)
   have HN := Lib.hid hN
   clear hN hr1 hc2 hc0
   go_enter Tryz.func123, Tryz.ntmps123
   go_wp2
   go_ret
   exact ⟨ret_str (by rw [HN.out]; rfl), by first | exact ab _ _ | exact ab2 _ _ _⟩
  have bn2 : (n == 2) = false := by simpa using hn2
  have hN : nmS 2 n e c al = 0 := by
   unfold nmS
   first | (simp [nmI, hr1, hn2]; done) | (simp only [nmI]; repeat' split) <;> first | rfl | omega | (simp_all; done) | (simp_all; omega)
  have HN := Lib.hid hN
  clear hN hr1 hn2
  go_enter Tryz.func123, Tryz.ntmps123
  go_wp2
  go_ret
  exact ⟨ret_str (by rw [HN.out]; rfl), by first | exact ab _ _ | exact ab2 _ _ _⟩
 have br2 : (r == 2) = false := by simpa using hr2
 have hN : nmS r n e c al = 0 := by
  unfold nmS
  first | (simp [nmI, hr1, hr2]; done) | (simp only [nmI]; repeat' split) <;> first | rfl | omega | (simp_all; done) | (simp_all; omega)
 have HN := Lib.hid hN
 clear hN hr1 hr2
 go_enter Tryz.func123, Tryz.ntmps123
 go_wp2
 go_ret
 exact ⟨ret_str (by rw [HN.out]; rfl), by first | exact ab _ _ | exact ab2 _ _ _⟩
set_option maxRecDepth 100000 in
set_option maxHeartbeats 16000000 in
theorem l12Name_any (r n e c : Int) (al : Bool) (w : World) :
  Calls Tryz.prog 57 #[.agg #[.int .i64 r, .int .i64 n, .int .i64 e, .int .i64 c, .bool al]] w fun z w' => z = .returned (.string (nmB (nmI r n e c al))) ∧ Below w.heap.size w w' := by
 by_cases hn0 : n = 0
 ·subst hn0
  go_enter Tryz.func57, Tryz.ntmps57
  go_wp2_with (go_at_call 122; with_reducible refine (l12Plain_any _ _ _ _ _).mono ?_; rintro z9 w9 ⟨rfl, hb9⟩)
  go_wp2
  go_ret
  exact ⟨rfl, bstep ((Below.refl _ _).alloc (Nat.le_refl _) _) hb9⟩
 have bn0 : (n == 0) = false := by simpa using hn0
 by_cases hr2 : r ≤ 2
 ·have hN : nmS r n e c al = nmI r n e c al := by
   unfold nmS nmI
   rw [if_neg hn0, if_neg hn0]
   split
   ·rfl
   ·rename_i h; rw [if_neg (by omega), if_neg (by omega), if_neg (by omega), if_neg (by omega), if_neg (by omega)]
  have HN := Lib.hid hN
  clear hN
  go_enter Tryz.func57, Tryz.ntmps57
  go_wp2_with (go_at_call 123; with_reducible refine (l12Small_any _ _ _ _ _ _).mono ?_; rintro z9 w9 ⟨rfl, hb9⟩)
  go_wp2
  go_ret
  exact ⟨ret_str (by rw [HN.out]), bstep ((Below.refl _ _).alloc (Nat.le_refl _) _) hb9⟩
 have br1 : (r == 1) = false := by simp; omega
 have br2 : (r == 2) = false := by simp; omega
 have hr1 : ¬ r = 1 := by omega
 have hr22 : ¬ r = 2 := by omega
 by_cases hr3 : r = 3
 ·subst hr3
  by_cases hn3 : n = 3
  ·subst hn3
   by_cases he3 : e = 3
   ·subst he3
    by_cases hc3 : c = 3
    ·subst hc3
     cases al
     case false =>
      have hN : nmI 3 3 3 3 false = 14 := by
       unfold nmI
       first | (simp [nmI, hn0]; done) | (simp only [nmI]; repeat' split) <;> first | rfl | omega | (simp_all; done) | (simp_all; omega)
      have HN := Lib.hid hN
      clear hN hn0
      go_enter Tryz.func57, Tryz.ntmps57
      go_wp2
      go_ret
      exact ⟨ret_str (by rw [HN.out]; rfl), by first | exact ab _ _ | exact ab2 _ _ _⟩
     case true =>
      have hN : nmI 3 3 3 3 true = 15 := by
       unfold nmI
       first | (simp [nmI, hn0]; done) | (simp only [nmI]; repeat' split) <;> first | rfl | omega | (simp_all; done) | (simp_all; omega)
      have HN := Lib.hid hN
      clear hN hn0
      go_enter Tryz.func57, Tryz.ntmps57
      go_wp2
      go_ret
      exact ⟨ret_str (by rw [HN.out]; rfl), by first | exact ab _ _ | exact ab2 _ _ _⟩
    have bc3 : (c == 3) = false := by simpa using hc3
    have dc3 : (c != 3) = true := by simpa using hc3
    have hN : nmI 3 3 3 c al = 0 := by
     unfold nmI
     first | (simp [nmI, hn0, hc3]; done) | (simp only [nmI]; repeat' split) <;> first | rfl | omega | (simp_all; done) | (simp_all; omega)
    have HN := Lib.hid hN
    clear hN hn0 hc3
    go_enter Tryz.func57, Tryz.ntmps57
    go_wp2
    go_ret
    exact ⟨ret_str (by rw [HN.out]; rfl), by first | exact ab _ _ | exact ab2 _ _ _⟩
   have be3 : (e == 3) = false := by simpa using he3
   have de3 : (e != 3) = true := by simpa using he3
   have hN : nmI 3 3 e c al = 0 := by
    unfold nmI
    first | (simp [nmI, hn0, he3]; done) | (simp only [nmI]; repeat' split) <;> first | rfl | omega | (simp_all; done) | (simp_all; omega)
   have HN := Lib.hid hN
   clear hN hn0 he3
   go_enter Tryz.func57, Tryz.ntmps57
   go_wp2
   go_ret
   exact ⟨ret_str (by rw [HN.out]; rfl), by first | exact ab _ _ | exact ab2 _ _ _⟩
  have bn3 : (n == 3) = false := by simpa using hn3
  have dn3 : (n != 3) = true := by simpa using hn3
  have hN : nmI 3 n e c al = 0 := by
   unfold nmI
   first | (simp [nmI, hn0, hn3]; done) | (simp only [nmI]; repeat' split) <;> first | rfl | omega | (simp_all; done) | (simp_all; omega)
  have HN := Lib.hid hN
  clear hN hn0 hn3
  go_enter Tryz.func57, Tryz.ntmps57
  go_wp2
  go_ret
  exact ⟨ret_str (by rw [HN.out]; rfl), by first | exact ab _ _ | exact ab2 _ _ _⟩
 have br3 : (r == 3) = false := by simpa using hr3
 by_cases hr4 : r = 4
 ·subst hr4
  by_cases hn4 : n = 4
  ·subst hn4
   by_cases hc2 : c = 2
   ·subst hc2
    by_cases he4 : e = 4
    ·subst he4
     have hN : nmI 4 4 4 2 al = 11 := by
      unfold nmI
      first | (simp [nmI, hn0]; done) | (simp only [nmI]; repeat' split) <;> first | rfl | omega | (simp_all; done) | (simp_all; omega)
     have HN := Lib.hid hN
     clear hN hn0
     go_enter Tryz.func57, Tryz.ntmps57
     go_wp2
     go_ret
     exact ⟨ret_str (by rw [HN.out]; rfl), by first | exact ab _ _ | exact ab2 _ _ _⟩
    have be4 : (e == 4) = false := by simpa using he4
    have de4 : (e != 4) = true := by simpa using he4
    by_cases he2 : e = 2
    ·subst he2
     have hN : nmI 4 4 2 2 al = 12 := by
      unfold nmI
      first | (simp [nmI, hn0, he4]; done) | (simp only [nmI]; repeat' split) <;> first | rfl | omega | (simp_all; done) | (simp_all; omega)
     have HN := Lib.hid hN
     clear hN hn0 he4
     go_enter Tryz.func57, Tryz.ntmps57
     go_wp2
     go_ret
     exact ⟨ret_str (by rw [HN.out]; rfl), by first | exact ab _ _ | exact ab2 _ _ _⟩
    have be2 : (e == 2) = false := by simpa using he2
    have de2 : (e != 2) = true := by simpa using he2
    have hN : nmI 4 4 e 2 al = 0 := by
     unfold nmI
     first | (simp [nmI, hn0, he4, he2]; done) | (simp only [nmI]; repeat' split) <;> first | rfl | omega | (simp_all; done) | (simp_all; omega)
    have HN := Lib.hid hN
    clear hN hn0 he4 he2
    go_enter Tryz.func57, Tryz.ntmps57
    go_wp2
    go_ret
    exact ⟨ret_str (by rw [HN.out]; rfl), by first | exact ab _ _ | exact ab2 _ _ _⟩
   have bc2 : (c == 2) = false := by simpa using hc2
   have dc2 : (c != 2) = true := by simpa using hc2
   by_cases hc4 : c = 4
   ·subst hc4
    by_cases he4 : e = 4
    ·subst he4
     have hN : nmI 4 4 4 4 al = 0 := by
      unfold nmI
      first | (simp [nmI, hn0, hc2]; done) | (simp only [nmI]; repeat' split) <;> first | rfl | omega | (simp_all; done) | (simp_all; omega)
     have HN := Lib.hid hN
     clear hN hn0 hc2
     go_enter Tryz.func57, Tryz.ntmps57
     go_wp2
     go_ret
     exact ⟨ret_str (by rw [HN.out]; rfl), by first | exact ab _ _ | exact ab2 _ _ _⟩
    have be4 : (e == 4) = false := by simpa using he4
    have de4 : (e != 4) = true := by simpa using he4
    by_cases he2 : e = 2
    ·subst he2
     have hN : nmI 4 4 2 4 al = 0 := by
      unfold nmI
      first | (simp [nmI, hn0, hc2, he4]; done) | (simp only [nmI]; repeat' split) <;> first | rfl | omega | (simp_all; done) | (simp_all; omega)
     have HN := Lib.hid hN
     clear hN hn0 hc2 he4
     go_enter Tryz.func57, Tryz.ntmps57
     go_wp2
     go_ret
     exact ⟨ret_str (by rw [HN.out]; rfl), by first | exact ab _ _ | exact ab2 _ _ _⟩
    have be2 : (e == 2) = false := by simpa using he2
    have de2 : (e != 2) = true := by simpa using he2
    have hN : nmI 4 4 e 4 al = 0 := by
     unfold nmI
     first | (simp [nmI, hn0, hc2, he4, he2]; done) | (simp only [nmI]; repeat' split) <;> first | rfl | omega | (simp_all; done) | (simp_all; omega)
    have HN := Lib.hid hN
    clear hN hn0 hc2 he4 he2
    go_enter Tryz.func57, Tryz.ntmps57
    go_wp2
    go_ret
    exact ⟨ret_str (by rw [HN.out]; rfl), by first | exact ab _ _ | exact ab2 _ _ _⟩
   have bc4 : (c == 4) = false := by simpa using hc4
   have dc4 : (c != 4) = true := by simpa using hc4
   by_cases he4 : e = 4
   ·subst he4
    have hN : nmI 4 4 4 c al = 0 := by
     unfold nmI
     first | (simp [nmI, hn0, hc2, hc4]; done) | (simp only [nmI]; repeat' split) <;> first | rfl | omega | (simp_all; done) | (simp_all; omega)
    have HN := Lib.hid hN
    clear hN hn0 hc2 hc4
    go_enter Tryz.func57, Tryz.ntmps57
    go_wp2
    go_ret
    exact ⟨ret_str (by rw [HN.out]; rfl), by first | exact ab _ _ | exact ab2 _ _ _⟩
   have be4 : (e == 4) = false := by simpa using he4
   have de4 : (e != 4) = true := by simpa using he4
   by_cases he2 : e = 2
   ·subst he2
    have hN : nmI 4 4 2 c al = 0 := by
     unfold nmI
     first | (simp [nmI, hn0, hc2, hc4, he4]; done) | (simp only [nmI]; repeat' split) <;> first | rfl | omega | (simp_all; done) | (simp_all; omega)
    have HN := Lib.hid hN
    clear hN hn0 hc2 hc4 he4
    go_enter Tryz.func57, Tryz.ntmps57
    go_wp2
    go_ret
    exact ⟨ret_str (by rw [HN.out]; rfl), by first | exact ab _ _ | exact ab2 _ _ _⟩
   have be2 : (e == 2) = false := by simpa using he2
   have de2 : (e != 2) = true := by simpa using he2
   have hN : nmI 4 4 e c al = 0 := by
    unfold nmI
    first | (simp [nmI, hn0, hc2, hc4, he4, he2]; done) | (simp only [nmI]; repeat' split) <;> first | rfl | omega | (simp_all; done) | (simp_all; omega)
   have HN := Lib.hid hN
   clear hN hn0 hc2 hc4 he4 he2
   go_enter Tryz.func57, Tryz.ntmps57
   go_wp2
   go_ret
   exact ⟨ret_str (by rw [HN.out]; rfl), by first | exact ab _ _ | exact ab2 _ _ _⟩
  have bn4 : (n == 4) = false := by simpa using hn4
  have dn4 : (n != 4) = true := by simpa using hn4
  have hN : nmI 4 n e c al = 0 := by
   unfold nmI
   first | (simp [nmI, hn0, hn4]; done) | (simp only [nmI]; repeat' split) <;> first | rfl | omega | (simp_all; done) | (simp_all; omega)
  have HN := Lib.hid hN
  clear hN hn0 hn4
  go_enter Tryz.func57, Tryz.ntmps57
  go_wp2
  go_ret
  exact ⟨ret_str (by rw [HN.out]; rfl), by first | exact ab _ _ | exact ab2 _ _ _⟩
 have br4 : (r == 4) = false := by simpa using hr4
 by_cases hr6 : r = 6
 ·subst hr6
  by_cases hn6 : n = 6
  ·subst hn6
   by_cases he6 : e = 6
   ·subst he6
    by_cases hc6 : c = 6
    ·subst hc6
     have hN : nmI 6 6 6 6 al = 17 := by
      unfold nmI
      first | (simp [nmI, hn0]; done) | (simp only [nmI]; repeat' split) <;> first | rfl | omega | (simp_all; done) | (simp_all; omega)
     have HN := Lib.hid hN
     clear hN hn0
     go_enter Tryz.func57, Tryz.ntmps57
     go_wp2
     go_ret
     exact ⟨ret_str (by rw [HN.out]; rfl), by first | exact ab _ _ | exact ab2 _ _ _⟩
    have bc6 : (c == 6) = false := by simpa using hc6
    have dc6 : (c != 6) = true := by simpa using hc6
    have hN : nmI 6 6 6 c al = 0 := by
     unfold nmI
     first | (simp [nmI, hn0, hc6]; done) | (simp only [nmI]; repeat' split) <;> first | rfl | omega | (simp_all; done) | (simp_all; omega)
    have HN := Lib.hid hN
    clear hN hn0 hc6
    go_enter Tryz.func57, Tryz.ntmps57
    go_wp2
    go_ret
    exact ⟨ret_str (by rw [HN.out]; rfl), by first | exact ab _ _ | exact ab2 _ _ _⟩
   have be6 : (e == 6) = false := by simpa using he6
   have de6 : (e != 6) = true := by simpa using he6
   have hN : nmI 6 6 e c al = 0 := by
    unfold nmI
    first | (simp [nmI, hn0, he6]; done) | (simp only [nmI]; repeat' split) <;> first | rfl | omega | (simp_all; done) | (simp_all; omega)
   have HN := Lib.hid hN
   clear hN hn0 he6
   go_enter Tryz.func57, Tryz.ntmps57
   go_wp2
   go_ret
   exact ⟨ret_str (by rw [HN.out]; rfl), by first | exact ab _ _ | exact ab2 _ _ _⟩
  have bn6 : (n == 6) = false := by simpa using hn6
  have dn6 : (n != 6) = true := by simpa using hn6
  have hN : nmI 6 n e c al = 0 := by
   unfold nmI
   first | (simp [nmI, hn0, hn6]; done) | (simp only [nmI]; repeat' split) <;> first | rfl | omega | (simp_all; done) | (simp_all; omega)
  have HN := Lib.hid hN
  clear hN hn0 hn6
  go_enter Tryz.func57, Tryz.ntmps57
  go_wp2
  go_ret
  exact ⟨ret_str (by rw [HN.out]; rfl), by first | exact ab _ _ | exact ab2 _ _ _⟩
 have br6 : (r == 6) = false := by simpa using hr6
 by_cases hne : n = r
 ·subst hne
  by_cases hee : e = n
  ·subst hee
   by_cases hce : c = e
   ·subst hce
    have hN : nmI c c c c al = 0 := by
     unfold nmI
     simp [hn0, hr1, hr22, hr3, hr4, hr6]
    have HN := Lib.hid hN
    clear hN hr1 hr22 hr3 hr4 hr6
    go_enter Tryz.func57, Tryz.ntmps57
    go_wp2
    go_ret
    exact ⟨ret_str (by rw [HN.out]; rfl), ab _ _⟩
   have dce : (c != e) = true := by simpa using hce
   have hN : nmI e e e c al = 0 := by
    unfold nmI
    simp [hn0, hr1, hr22, hr3, hr4, hr6]
   have HN := Lib.hid hN
   clear hN hr1 hr22 hr3 hr4 hr6 hce
   go_enter Tryz.func57, Tryz.ntmps57
   go_wp2
   go_ret
   exact ⟨ret_str (by rw [HN.out]; rfl), ab _ _⟩
  have dee : (e != n) = true := by simpa using hee
  have hN : nmI n n e c al = 0 := by
   unfold nmI
   simp [hn0, hr1, hr22, hr3, hr4, hr6]
  have HN := Lib.hid hN
  clear hN hr1 hr22 hr3 hr4 hr6 hee
  go_enter Tryz.func57, Tryz.ntmps57
  go_wp2
  go_ret
  exact ⟨ret_str (by rw [HN.out]; rfl), ab _ _⟩
 have dne : (n != r) = true := by simpa using hne
 have hN : nmI r n e c al = 0 := by
  unfold nmI
  simp [hn0, hr1, hr22, hr3, hr4, hr6]
 have HN := Lib.hid hN
 clear hN hr1 hr22 hr3 hr4 hr6 hne
 go_enter Tryz.func57, Tryz.ntmps57
 go_wp2
 go_ret
 exact ⟨ret_str (by rw [HN.out]; rfl), ab _ _⟩
def nmR (K : Nat) : Value := .tuple #[.string (nmB K), .int .i64 (if K = 0 then 4 else 0)]
end Go.Proofs.YtjjfomokecngoaaGreatDoor
