/-
 Contracts of the names of facts in the program (chapter 12). No condition.
-/
import Derived.Test.YtjjfomokecngoaaGreatDoorNm1
import Derived.MapKept
import Derived.Deep.RegionHeld3
import Derived.LoopTactic
namespace Go.Proofs.YtjjfomokecngoaaGreatDoor
open Go.RowKit
set_option linter.unusedSimpArgs false
set_option linter.unusedVariables false

def fmB (k : Int) : ByteArray := ⟨#[(48 + k).toNat.toUInt8]⟩
set_option maxRecDepth 100000 in
set_option maxHeartbeats 8000000 in
theorem small_any (k : Int) (hk : k = 1 ∨ k = 2 ∨ k = 3 ∨ k = 4 ∨ k = 6) (w : World) :
  Calls Tryz.prog 258 #[.int .i64 k] w fun z w' => z = .returned (.string (fmB k)) ∧ w = w' := by
 rcases hk with rfl | rfl | rfl | rfl | rfl
 all_goals
  go_enter Tryz.func258, Tryz.ntmps258
  go_wp2
  go_ret
  exact ⟨rfl, rfl⟩
set_option maxRecDepth 100000 in
set_option maxHeartbeats 8000000 in
theorem fmtI_any (k : Int) (hk : k = 1 ∨ k = 2 ∨ k = 3 ∨ k = 4 ∨ k = 6) (w : World) :
  Calls Tryz.prog 220 #[.int .i64 k, .int .i64 10] w fun z w' => z = .returned (.string (fmB k)) ∧ w = w' := by
 rcases hk with rfl | rfl | rfl | rfl | rfl
 all_goals
  go_enter Tryz.func220, Tryz.ntmps220
  go_wp2_with (go_at_call 258; with_reducible refine (small_any _ (by decide) _).mono ?_; rintro z9 w9 ⟨rfl, rfl⟩)
  go_wp2
  go_ret
  exact ⟨rfl, rfl⟩
set_option maxRecDepth 100000 in
set_option maxHeartbeats 8000000 in
theorem fmt_any (k : Int) (hk : k = 1 ∨ k = 2 ∨ k = 3 ∨ k = 4 ∨ k = 6) (w : World) :
  Calls Tryz.prog 148 #[.int .i64 k, .int .i64 10] w fun z w' => z = .returned (.string (fmB k)) ∧ w = w' := by
 rcases hk with rfl | rfl | rfl | rfl | rfl
 all_goals
  go_enter Tryz.func148, Tryz.ntmps148
  go_wp2_with (go_at_call 220; with_reducible refine (fmtI_any _ (by decide) _).mono ?_; rintro z9 w9 ⟨rfl, rfl⟩)
  go_wp2
  go_ret
  exact ⟨rfl, rfl⟩
set_option maxHeartbeats 4000000 in
theorem counts_any (r n e c : Int) (al : Bool) (w : World) :
  Calls Tryz.prog 257 #[.agg #[.int .i64 r, .int .i64 n, .int .i64 e, .int .i64 c, .bool al]] w fun z w' => z = .returned (.agg #[.int .i64 n, .int .i64 e, .int .i64 c]) ∧ Below w.heap.size w w' := by
 go_enter Tryz.func257, Tryz.ntmps257
 go_wp2
 refine bodyPost_ret (v := .agg #[.int .i64 n, .int .i64 e, .int .i64 c]) (by simp [results, Tryz.results257, go_sem, *]) rfl ⟨rfl, ?_⟩
 repeat (first | with_reducible assumption | with_reducible exact Below.refl _ _ | with_reducible refine Below.setCell ?_ (by first | omega | (simp <;> omega)) _ | with_reducible refine Below.alloc ?_ (by first | omega | (simp <;> omega)) _ | with_reducible refine bstep ?_ (by with_reducible assumption) | with_reducible refine Below.drew ?_)
theorem eqA3 (a b c a' b' c' : Int) (w : World) : (Op.equalIn 10000 283 (.agg #[.int .i64 a, .int .i64 b, .int .i64 c]) (.agg #[.int .i64 a', .int .i64 b', .int .i64 c'])).run Tryz.prog w = .ok (a == a' && (b == b' && c == c')) w := by
 have u3 := Tryz.underlying2
 have a3 := Tryz.isAgg2
 have z3 := Tryz.sizeOf2
 rw [show (10000 : Nat) = 9999 + 1 from rfl, Op.equalIn]
 simp only [Sem.run_bind, run_underlying Tryz.underlying283, Result.andThen_ok]
 simp only [Std.Legacy.Range.forIn_eq_forIn_range', Std.Legacy.Range.size, Nat.sub_zero, Nat.add_sub_cancel, Nat.div_one, List.range'_succ, List.range'_zero, List.forIn_cons, List.forIn_nil]
 go_simp
 by_cases h1 : a = a' <;> by_cases h2 : b = b' <;> by_cases h3 : c = c' <;> simp [h1, h2, h3]
theorem eqF5 (r n e c : Int) (al : Bool) (w : World) : (Op.equalIn 10000 49 (.agg #[.int .i64 r, .int .i64 n, .int .i64 e, .int .i64 c, .bool al]) (.agg #[.int .i64 r, .int .i64 0, .int .i64 0, .int .i64 0, .bool false])).run Tryz.prog w = .ok (n == 0 && (e == 0 && (c == 0 && !al))) w := by
 have hu := Tryz.underlying49
 rw [show (10000 : Nat) = 9999 + 1 from rfl, run_equalIn_struct _ _ _ _ _ (by simp only [Program.fieldsOf, hu]) (by kernel_rfl)]
 simp only [Program.fieldsOf, hu]
 have u3 := Tryz.underlying2
 have a3 := Tryz.isAgg2
 have z3 := Tryz.sizeOf2
 have u4 := Tryz.underlying4
 have a4 := Tryz.isAgg4
 have z4 := Tryz.sizeOf4
 go_simp
 by_cases h1 : n = 0 <;> by_cases h2 : e = 0 <;> by_cases h3 : c = 0 <;> cases al <;> simp [h1, h2, h3]
attribute [local go_sem ↓] eqA3 eqF5
set_option maxRecDepth 100000 in
set_option maxHeartbeats 16000000 in
theorem nwW_any (r n e c : Int) (al : Bool) (w : World) :
  Calls Tryz.prog 215 #[.agg #[.int .i64 r, .int .i64 n, .int .i64 e, .int .i64 c, .bool al]] w fun z w' => z = .returned (.string (nmB (nmW 1 n e c al))) ∧ Below w.heap.size w w' := by
 by_cases hn1 : n = 1
 ·subst hn1
  by_cases he0 : e = 0
  ·subst he0
   have hN : nmW 1 1 0 c al = 4 := by
    unfold nmW
    first | (simp [nmI]; done) | (simp only [nmI]; repeat' split) <;> first | rfl | omega | (simp_all; done) | (simp_all; omega)
   have HN := Lib.hid hN
   clear hN
   go_enter Tryz.func215, Tryz.ntmps215
   go_wp2
   go_ret
   exact ⟨ret_str (by rw [HN.out]; rfl), by first | exact ab _ _ | exact ab2 _ _ _⟩
  have be0 : (e == 0) = false := by simpa using he0
  by_cases he1 : e = 1
  ·subst he1
   by_cases hc0 : c = 0
   ·subst hc0
    have hN : nmW 1 1 1 0 al = 3 := by
     unfold nmW
     first | (simp [nmI, he0]; done) | (simp only [nmI]; repeat' split) <;> first | rfl | omega | (simp_all; done) | (simp_all; omega)
    have HN := Lib.hid hN
    clear hN he0
    go_enter Tryz.func215, Tryz.ntmps215
    go_wp2_with (go_at_call 257; with_reducible refine (counts_any _ _ _ _ _ _).mono ?_; rintro z9 w9 ⟨rfl, hb9⟩; have hB9 := bstep (ab _ _) hb9; clear hb9)
    go_wp2
    go_ret
    exact ⟨ret_str (by rw [HN.out]; rfl), hB9⟩
   have bc0 : (c == 0) = false := by simpa using hc0
   by_cases hc1 : c = 1
   ·subst hc1
    have hN : nmW 1 1 1 1 al = 5 := by
     unfold nmW
     first | (simp [nmI, he0, hc0]; done) | (simp only [nmI]; repeat' split) <;> first | rfl | omega | (simp_all; done) | (simp_all; omega)
    have HN := Lib.hid hN
    clear hN he0 hc0
    go_enter Tryz.func215, Tryz.ntmps215
    go_wp2_with (go_at_call 257; with_reducible refine (counts_any _ _ _ _ _ _).mono ?_; rintro z9 w9 ⟨rfl, hb9⟩; have hB9 := bstep (ab _ _) hb9; clear hb9)
    go_wp2
    go_ret
    exact ⟨ret_str (by rw [HN.out]; rfl), hB9⟩
   have bc1 : (c == 1) = false := by simpa using hc1
   have hN : nmW 1 1 1 c al = 0 := by
    unfold nmW
    first | (simp [nmI, he0, hc0, hc1]; done) | (simp only [nmI]; repeat' split) <;> first | rfl | omega | (simp_all; done) | (simp_all; omega)
   have HN := Lib.hid hN
   clear hN he0 hc0 hc1
   go_enter Tryz.func215, Tryz.ntmps215
   go_wp2_with (go_at_call 257; with_reducible refine (counts_any _ _ _ _ _ _).mono ?_; rintro z9 w9 ⟨rfl, hb9⟩; have hB9 := bstep (ab _ _) hb9; clear hb9)
   go_wp2
   go_ret
   exact ⟨ret_str (by rw [HN.out]; rfl), hB9⟩
  have be1 : (e == 1) = false := by simpa using he1
  have hN : nmW 1 1 e c al = 0 := by
   unfold nmW
   first | (simp [nmI, he0, he1]; done) | (simp only [nmI]; repeat' split) <;> first | rfl | omega | (simp_all; done) | (simp_all; omega)
  have HN := Lib.hid hN
  clear hN he0 he1
  go_enter Tryz.func215, Tryz.ntmps215
  go_wp2_with (go_at_call 257; with_reducible refine (counts_any _ _ _ _ _ _).mono ?_; rintro z9 w9 ⟨rfl, hb9⟩; have hB9 := bstep (ab _ _) hb9; clear hb9)
  go_wp2
  go_ret
  exact ⟨ret_str (by rw [HN.out]; rfl), hB9⟩
 have bn1 : (n == 1) = false := by simpa using hn1
 have hN : nmW 1 n e c al = 0 := by
  unfold nmW
  first | (simp [nmI, hn1]; done) | (simp only [nmI]; repeat' split) <;> first | rfl | omega | (simp_all; done) | (simp_all; omega)
 have HN := Lib.hid hN
 clear hN hn1
 go_enter Tryz.func215, Tryz.ntmps215
 go_wp2_with (go_at_call 257; with_reducible refine (counts_any _ _ _ _ _ _).mono ?_; rintro z9 w9 ⟨rfl, hb9⟩; have hB9 := bstep (ab _ _) hb9; clear hb9)
 go_wp2
 go_ret
 exact ⟨ret_str (by rw [HN.out]; rfl), hB9⟩
set_option maxRecDepth 100000 in
set_option maxHeartbeats 16000000 in
theorem nwH_any (r n e c : Int) (al : Bool) (w : World) :
  Calls Tryz.prog 216 #[.agg #[.int .i64 r, .int .i64 n, .int .i64 e, .int .i64 c, .bool al]] w fun z w' => z = .returned (.string (nmB (nmW 2 n e c al))) ∧ Below w.heap.size w w' := by
 by_cases hn2 : n = 2
 ·subst hn2
  by_cases he2 : e = 2
  ·subst he2
   by_cases hc0 : c = 0
   ·subst hc0
    have hN : nmW 2 2 2 0 al = 6 := by
     unfold nmW
     first | (simp [nmI]; done) | (simp only [nmI]; repeat' split) <;> first | rfl | omega | (simp_all; done) | (simp_all; omega)
    have HN := Lib.hid hN
    clear hN
    go_enter Tryz.func216, Tryz.ntmps216
    go_wp2_with (go_at_call 257; with_reducible refine (counts_any _ _ _ _ _ _).mono ?_; rintro z9 w9 ⟨rfl, hb9⟩; have hB9 := bstep (ab _ _) hb9; clear hb9)
    go_wp2
    go_ret
    exact ⟨ret_str (by rw [HN.out]; rfl), hB9⟩
   have bc0 : (c == 0) = false := by simpa using hc0
   by_cases hc2 : c = 2
   ·subst hc2
    have hN : nmW 2 2 2 2 al = 9 := by
     unfold nmW
     first | (simp [nmI, hc0]; done) | (simp only [nmI]; repeat' split) <;> first | rfl | omega | (simp_all; done) | (simp_all; omega)
    have HN := Lib.hid hN
    clear hN hc0
    go_enter Tryz.func216, Tryz.ntmps216
    go_wp2_with (go_at_call 257; with_reducible refine (counts_any _ _ _ _ _ _).mono ?_; rintro z9 w9 ⟨rfl, hb9⟩; have hB9 := bstep (ab _ _) hb9; clear hb9)
    go_wp2
    go_ret
    exact ⟨ret_str (by rw [HN.out]; rfl), hB9⟩
   have bc2 : (c == 2) = false := by simpa using hc2
   have hN : nmW 2 2 2 c al = 0 := by
    unfold nmW
    first | (simp [nmI, hc0, hc2]; done) | (simp only [nmI]; repeat' split) <;> first | rfl | omega | (simp_all; done) | (simp_all; omega)
   have HN := Lib.hid hN
   clear hN hc0 hc2
   go_enter Tryz.func216, Tryz.ntmps216
   go_wp2_with (go_at_call 257; with_reducible refine (counts_any _ _ _ _ _ _).mono ?_; rintro z9 w9 ⟨rfl, hb9⟩; have hB9 := bstep (ab _ _) hb9; clear hb9)
   go_wp2
   go_ret
   exact ⟨ret_str (by rw [HN.out]; rfl), hB9⟩
  have be2 : (e == 2) = false := by simpa using he2
  by_cases he1 : e = 1
  ·subst he1
   by_cases hc0 : c = 0
   ·subst hc0
    have hN : nmW 2 2 1 0 al = 7 := by
     unfold nmW
     first | (simp [nmI, he2]; done) | (simp only [nmI]; repeat' split) <;> first | rfl | omega | (simp_all; done) | (simp_all; omega)
    have HN := Lib.hid hN
    clear hN he2
    go_enter Tryz.func216, Tryz.ntmps216
    go_wp2_with (go_at_call 257; with_reducible refine (counts_any _ _ _ _ _ _).mono ?_; rintro z9 w9 ⟨rfl, hb9⟩; have hB9 := bstep (ab _ _) hb9; clear hb9)
    go_wp2
    go_ret
    exact ⟨ret_str (by rw [HN.out]; rfl), hB9⟩
   have bc0 : (c == 0) = false := by simpa using hc0
   have hN : nmW 2 2 1 c al = 0 := by
    unfold nmW
    first | (simp [nmI, he2, hc0]; done) | (simp only [nmI]; repeat' split) <;> first | rfl | omega | (simp_all; done) | (simp_all; omega)
   have HN := Lib.hid hN
   clear hN he2 hc0
   go_enter Tryz.func216, Tryz.ntmps216
   go_wp2_with (go_at_call 257; with_reducible refine (counts_any _ _ _ _ _ _).mono ?_; rintro z9 w9 ⟨rfl, hb9⟩; have hB9 := bstep (ab _ _) hb9; clear hb9)
   go_wp2
   go_ret
   exact ⟨ret_str (by rw [HN.out]; rfl), hB9⟩
  have be1 : (e == 1) = false := by simpa using he1
  by_cases he0 : e = 0
  ·subst he0
   by_cases hc0 : c = 0
   ·subst hc0
    have hN : nmW 2 2 0 0 al = 8 := by
     unfold nmW
     first | (simp [nmI, he2, he1]; done) | (simp only [nmI]; repeat' split) <;> first | rfl | omega | (simp_all; done) | (simp_all; omega)
    have HN := Lib.hid hN
    clear hN he2 he1
    go_enter Tryz.func216, Tryz.ntmps216
    go_wp2_with (go_at_call 257; with_reducible refine (counts_any _ _ _ _ _ _).mono ?_; rintro z9 w9 ⟨rfl, hb9⟩; have hB9 := bstep (ab _ _) hb9; clear hb9)
    go_wp2
    go_ret
    exact ⟨ret_str (by rw [HN.out]; rfl), hB9⟩
   have bc0 : (c == 0) = false := by simpa using hc0
   have hN : nmW 2 2 0 c al = 0 := by
    unfold nmW
    first | (simp [nmI, he2, he1, hc0]; done) | (simp only [nmI]; repeat' split) <;> first | rfl | omega | (simp_all; done) | (simp_all; omega)
   have HN := Lib.hid hN
   clear hN he2 he1 hc0
   go_enter Tryz.func216, Tryz.ntmps216
   go_wp2_with (go_at_call 257; with_reducible refine (counts_any _ _ _ _ _ _).mono ?_; rintro z9 w9 ⟨rfl, hb9⟩; have hB9 := bstep (ab _ _) hb9; clear hb9)
   go_wp2
   go_ret
   exact ⟨ret_str (by rw [HN.out]; rfl), hB9⟩
  have be0 : (e == 0) = false := by simpa using he0
  have hN : nmW 2 2 e c al = 0 := by
   unfold nmW
   first | (simp [nmI, he2, he1, he0]; done) | (simp only [nmI]; repeat' split) <;> first | rfl | omega | (simp_all; done) | (simp_all; omega)
  have HN := Lib.hid hN
  clear hN he2 he1 he0
  go_enter Tryz.func216, Tryz.ntmps216
  go_wp2_with (go_at_call 257; with_reducible refine (counts_any _ _ _ _ _ _).mono ?_; rintro z9 w9 ⟨rfl, hb9⟩; have hB9 := bstep (ab _ _) hb9; clear hb9)
  go_wp2
  go_ret
  exact ⟨ret_str (by rw [HN.out]; rfl), hB9⟩
 have bn2 : (n == 2) = false := by simpa using hn2
 have hN : nmW 2 n e c al = 0 := by
  unfold nmW
  first | (simp [nmI, hn2]; done) | (simp only [nmI]; repeat' split) <;> first | rfl | omega | (simp_all; done) | (simp_all; omega)
 have HN := Lib.hid hN
 clear hN hn2
 go_enter Tryz.func216, Tryz.ntmps216
 go_wp2_with (go_at_call 257; with_reducible refine (counts_any _ _ _ _ _ _).mono ?_; rintro z9 w9 ⟨rfl, hb9⟩; have hB9 := bstep (ab _ _) hb9; clear hb9)
 go_wp2
 go_ret
 exact ⟨ret_str (by rw [HN.out]; rfl), hB9⟩
set_option maxRecDepth 100000 in
set_option maxHeartbeats 16000000 in
theorem nwT_any (r n e c : Int) (al : Bool) (w : World) :
  Calls Tryz.prog 217 #[.agg #[.int .i64 r, .int .i64 n, .int .i64 e, .int .i64 c, .bool al]] w fun z w' => z = .returned (.string (nmB (nmW 3 n e c al))) ∧ Below w.heap.size w w' := by
 by_cases hn3 : n = 3
 ·subst hn3
  by_cases he3 : e = 3
  ·subst he3
   by_cases hc3 : c = 3
   ·subst hc3
    cases al
    case false =>
     have hN : nmW 3 3 3 3 false = 14 := by
      unfold nmW
      first | (simp [nmI]; done) | (simp only [nmI]; repeat' split) <;> first | rfl | omega | (simp_all; done) | (simp_all; omega)
     have HN := Lib.hid hN
     clear hN
     go_enter Tryz.func217, Tryz.ntmps217
     go_wp2_with (go_at_call 257; with_reducible refine (counts_any _ _ _ _ _ _).mono ?_; rintro z9 w9 ⟨rfl, hb9⟩; have hB9 := bstep (ab _ _) hb9; have X9 := (Bx.at (w := w) (us := [.int .i64 r, .int .i64 3, .int .i64 3, .int .i64 3, .bool false]) (T := 49) w.heap.size rfl).call hb9; have x9 := X9.c4; clear hb9)
     go_wp2
     go_ret
     exact ⟨ret_str (by rw [HN.out]; rfl), hB9⟩
    case true =>
     have hN : nmW 3 3 3 3 true = 15 := by
      unfold nmW
      first | (simp [nmI]; done) | (simp only [nmI]; repeat' split) <;> first | rfl | omega | (simp_all; done) | (simp_all; omega)
     have HN := Lib.hid hN
     clear hN
     go_enter Tryz.func217, Tryz.ntmps217
     go_wp2_with (go_at_call 257; with_reducible refine (counts_any _ _ _ _ _ _).mono ?_; rintro z9 w9 ⟨rfl, hb9⟩; have hB9 := bstep (ab _ _) hb9; have X9 := (Bx.at (w := w) (us := [.int .i64 r, .int .i64 3, .int .i64 3, .int .i64 3, .bool true]) (T := 49) w.heap.size rfl).call hb9; have x9 := X9.c4; clear hb9)
     go_wp2
     go_ret
     exact ⟨ret_str (by rw [HN.out]; rfl), hB9⟩
   have bc3 : (c == 3) = false := by simpa using hc3
   have hN : nmW 3 3 3 c al = 0 := by
    unfold nmW
    first | (simp [nmI, hc3]; done) | (simp only [nmI]; repeat' split) <;> first | rfl | omega | (simp_all; done) | (simp_all; omega)
   have HN := Lib.hid hN
   clear hN hc3
   go_enter Tryz.func217, Tryz.ntmps217
   go_wp2_with (go_at_call 257; with_reducible refine (counts_any _ _ _ _ _ _).mono ?_; rintro z9 w9 ⟨rfl, hb9⟩; have hB9 := bstep (ab _ _) hb9; clear hb9)
   go_wp2
   go_ret
   exact ⟨ret_str (by rw [HN.out]; rfl), hB9⟩
  have be3 : (e == 3) = false := by simpa using he3
  have hN : nmW 3 3 e c al = 0 := by
   unfold nmW
   first | (simp [nmI, he3]; done) | (simp only [nmI]; repeat' split) <;> first | rfl | omega | (simp_all; done) | (simp_all; omega)
  have HN := Lib.hid hN
  clear hN he3
  go_enter Tryz.func217, Tryz.ntmps217
  go_wp2_with (go_at_call 257; with_reducible refine (counts_any _ _ _ _ _ _).mono ?_; rintro z9 w9 ⟨rfl, hb9⟩; have hB9 := bstep (ab _ _) hb9; clear hb9)
  go_wp2
  go_ret
  exact ⟨ret_str (by rw [HN.out]; rfl), hB9⟩
 have bn3 : (n == 3) = false := by simpa using hn3
 have hN : nmW 3 n e c al = 0 := by
  unfold nmW
  first | (simp [nmI, hn3]; done) | (simp only [nmI]; repeat' split) <;> first | rfl | omega | (simp_all; done) | (simp_all; omega)
 have HN := Lib.hid hN
 clear hN hn3
 go_enter Tryz.func217, Tryz.ntmps217
 go_wp2_with (go_at_call 257; with_reducible refine (counts_any _ _ _ _ _ _).mono ?_; rintro z9 w9 ⟨rfl, hb9⟩; have hB9 := bstep (ab _ _) hb9; clear hb9)
 go_wp2
 go_ret
 exact ⟨ret_str (by rw [HN.out]; rfl), hB9⟩
set_option maxRecDepth 100000 in
set_option maxHeartbeats 16000000 in
theorem nwQ_any (r n e c : Int) (al : Bool) (w : World) :
  Calls Tryz.prog 218 #[.agg #[.int .i64 r, .int .i64 n, .int .i64 e, .int .i64 c, .bool al]] w fun z w' => z = .returned (.string (nmB (nmW 4 n e c al))) ∧ Below w.heap.size w w' := by
 by_cases hn4 : n = 4
 ·subst hn4
  by_cases hc2 : c = 2
  ·subst hc2
   by_cases he4 : e = 4
   ·subst he4
    have hN : nmW 4 4 4 2 al = 11 := by
     unfold nmW
     first | (simp [nmI]; done) | (simp only [nmI]; repeat' split) <;> first | rfl | omega | (simp_all; done) | (simp_all; omega)
    have HN := Lib.hid hN
    clear hN
    go_enter Tryz.func218, Tryz.ntmps218
    go_wp2_with (go_at_call 257; with_reducible refine (counts_any _ _ _ _ _ _).mono ?_; rintro z9 w9 ⟨rfl, hb9⟩; have hB9 := bstep (ab _ _) hb9; clear hb9)
    go_wp2
    go_ret
    exact ⟨ret_str (by rw [HN.out]; rfl), hB9⟩
   have be4 : (e == 4) = false := by simpa using he4
   by_cases he2 : e = 2
   ·subst he2
    have hN : nmW 4 4 2 2 al = 12 := by
     unfold nmW
     first | (simp [nmI, he4]; done) | (simp only [nmI]; repeat' split) <;> first | rfl | omega | (simp_all; done) | (simp_all; omega)
    have HN := Lib.hid hN
    clear hN he4
    go_enter Tryz.func218, Tryz.ntmps218
    go_wp2_with (go_at_call 257; with_reducible refine (counts_any _ _ _ _ _ _).mono ?_; rintro z9 w9 ⟨rfl, hb9⟩; have hB9 := bstep (ab _ _) hb9; clear hb9)
    go_wp2
    go_ret
    exact ⟨ret_str (by rw [HN.out]; rfl), hB9⟩
   have be2 : (e == 2) = false := by simpa using he2
   have hN : nmW 4 4 e 2 al = 0 := by
    unfold nmW
    first | (simp [nmI, he4, he2]; done) | (simp only [nmI]; repeat' split) <;> first | rfl | omega | (simp_all; done) | (simp_all; omega)
   have HN := Lib.hid hN
   clear hN he4 he2
   go_enter Tryz.func218, Tryz.ntmps218
   go_wp2_with (go_at_call 257; with_reducible refine (counts_any _ _ _ _ _ _).mono ?_; rintro z9 w9 ⟨rfl, hb9⟩; have hB9 := bstep (ab _ _) hb9; clear hb9)
   go_wp2
   go_ret
   exact ⟨ret_str (by rw [HN.out]; rfl), hB9⟩
  have bc2 : (c == 2) = false := by simpa using hc2
  have hN : nmW 4 4 e c al = 0 := by
   unfold nmW
   first | (simp [nmI, hc2]; done) | (simp only [nmI]; repeat' split) <;> first | rfl | omega | (simp_all; done) | (simp_all; omega)
  have HN := Lib.hid hN
  clear hN hc2
  go_enter Tryz.func218, Tryz.ntmps218
  go_wp2_with (go_at_call 257; with_reducible refine (counts_any _ _ _ _ _ _).mono ?_; rintro z9 w9 ⟨rfl, hb9⟩; have hB9 := bstep (ab _ _) hb9; clear hb9)
  go_wp2
  go_ret
  exact ⟨ret_str (by rw [HN.out]; rfl), hB9⟩
 have bn4 : (n == 4) = false := by simpa using hn4
 have hN : nmW 4 n e c al = 0 := by
  unfold nmW
  first | (simp [nmI, hn4]; done) | (simp only [nmI]; repeat' split) <;> first | rfl | omega | (simp_all; done) | (simp_all; omega)
 have HN := Lib.hid hN
 clear hN hn4
 go_enter Tryz.func218, Tryz.ntmps218
 go_wp2_with (go_at_call 257; with_reducible refine (counts_any _ _ _ _ _ _).mono ?_; rintro z9 w9 ⟨rfl, hb9⟩; have hB9 := bstep (ab _ _) hb9; clear hb9)
 go_wp2
 go_ret
 exact ⟨ret_str (by rw [HN.out]; rfl), hB9⟩
set_option maxRecDepth 100000 in
set_option maxHeartbeats 16000000 in
theorem nwS_any (r n e c : Int) (al : Bool) (w : World) :
  Calls Tryz.prog 219 #[.agg #[.int .i64 r, .int .i64 n, .int .i64 e, .int .i64 c, .bool al]] w fun z w' => z = .returned (.string (nmB (nmW 6 n e c al))) ∧ Below w.heap.size w w' := by
 by_cases hn6 : n = 6
 ·subst hn6
  by_cases he6 : e = 6
  ·subst he6
   by_cases hc6 : c = 6
   ·subst hc6
    have hN : nmW 6 6 6 6 al = 17 := by
     unfold nmW
     first | (simp [nmI]; done) | (simp only [nmI]; repeat' split) <;> first | rfl | omega | (simp_all; done) | (simp_all; omega)
    have HN := Lib.hid hN
    clear hN
    go_enter Tryz.func219, Tryz.ntmps219
    go_wp2_with (go_at_call 257; with_reducible refine (counts_any _ _ _ _ _ _).mono ?_; rintro z9 w9 ⟨rfl, hb9⟩; have hB9 := bstep (ab _ _) hb9; clear hb9)
    go_wp2
    go_ret
    exact ⟨ret_str (by rw [HN.out]; rfl), hB9⟩
   have bc6 : (c == 6) = false := by simpa using hc6
   have hN : nmW 6 6 6 c al = 0 := by
    unfold nmW
    first | (simp [nmI, hc6]; done) | (simp only [nmI]; repeat' split) <;> first | rfl | omega | (simp_all; done) | (simp_all; omega)
   have HN := Lib.hid hN
   clear hN hc6
   go_enter Tryz.func219, Tryz.ntmps219
   go_wp2_with (go_at_call 257; with_reducible refine (counts_any _ _ _ _ _ _).mono ?_; rintro z9 w9 ⟨rfl, hb9⟩; have hB9 := bstep (ab _ _) hb9; clear hb9)
   go_wp2
   go_ret
   exact ⟨ret_str (by rw [HN.out]; rfl), hB9⟩
  have be6 : (e == 6) = false := by simpa using he6
  have hN : nmW 6 6 e c al = 0 := by
   unfold nmW
   first | (simp [nmI, he6]; done) | (simp only [nmI]; repeat' split) <;> first | rfl | omega | (simp_all; done) | (simp_all; omega)
  have HN := Lib.hid hN
  clear hN he6
  go_enter Tryz.func219, Tryz.ntmps219
  go_wp2_with (go_at_call 257; with_reducible refine (counts_any _ _ _ _ _ _).mono ?_; rintro z9 w9 ⟨rfl, hb9⟩; have hB9 := bstep (ab _ _) hb9; clear hb9)
  go_wp2
  go_ret
  exact ⟨ret_str (by rw [HN.out]; rfl), hB9⟩
 have bn6 : (n == 6) = false := by simpa using hn6
 have hN : nmW 6 n e c al = 0 := by
  unfold nmW
  first | (simp [nmI, hn6]; done) | (simp only [nmI]; repeat' split) <;> first | rfl | omega | (simp_all; done) | (simp_all; omega)
 have HN := Lib.hid hN
 clear hN hn6
 go_enter Tryz.func219, Tryz.ntmps219
 go_wp2_with (go_at_call 257; with_reducible refine (counts_any _ _ _ _ _ _).mono ?_; rintro z9 w9 ⟨rfl, hb9⟩; have hB9 := bstep (ab _ _) hb9; clear hb9)
 go_wp2
 go_ret
 exact ⟨ret_str (by rw [HN.out]; rfl), hB9⟩
end Go.Proofs.YtjjfomokecngoaaGreatDoor
