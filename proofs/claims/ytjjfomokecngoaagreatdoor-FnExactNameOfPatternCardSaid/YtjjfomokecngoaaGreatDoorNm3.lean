/-
 Contracts of the names of facts in the program: the map of the rules, and the whole (chapter 12). No condition.
-/
import Derived.Test.YtjjfomokecngoaaGreatDoorNm2
import Derived.MapKept
import Derived.Deep.RegionHeld3
import Derived.LoopTactic
namespace Go.Proofs.YtjjfomokecngoaaGreatDoor
open Go.RowKit
set_option linter.unusedSimpArgs false
set_option linter.unusedVariables false

attribute [local go_sem ↓] eqA3 eqF5
def mnE (k : Nat) : Array MapEntry := (#[{ key := .int .i64 1, val := .func (.func 215) #[] #[], born := 0 }, { key := .int .i64 2, val := .func (.func 216) #[] #[], born := 1 }, { key := .int .i64 3, val := .func (.func 217) #[] #[], born := 2 }, { key := .int .i64 4, val := .func (.func 218) #[] #[], born := 3 }, { key := .int .i64 6, val := .func (.func 219) #[] #[], born := 4 }] : Array MapEntry).take k
theorem push_set (h : Array Obj) (o o' : Obj) : (h.push o).setIfInBounds h.size o' = h.push o' := by
 apply Array.ext
 ·simp
 ·intro i h1 h2
  simp only [Array.size_setIfInBounds, Array.size_push] at h1
  by_cases hi : i = h.size
  ·subst hi; simp
  ·have hn : ¬ h.size = i := fun e => hi e.symm
   rw [Array.getElem_setIfInBounds (by simpa using h1), if_neg hn, Array.getElem_push, Array.getElem_push, dif_pos (show i < h.size by omega), dif_pos (show i < h.size by omega)]
theorem upd_at {W : World} {es es' : Array MapEntry} {c : Nat} {k : Int} {v : Value} (hf : Instr.findNow (.int .i64) (.int .i64 k) es.toList 0 = some none) (he : es.push { key := .int .i64 k, val := v, born := c } = es') :
  (Instr.mapUpdate 193 (.map (some W.heap.size)) (.int .i64 k) v).run Tryz.prog (W.alloc (.map es c)) = .ok () (W.alloc (.map es' (c + 1))) := by
 have hb : (W.alloc (.map es c)).heap[W.heap.size]? = some (.map es c) := Array.getElem?_push_size
 have hk : MapKept.IsKey (.int .i64) (.int .i64 k) := by simp [MapKept.IsKey]
 subst he
 simp [Instr.mapUpdate, run_underlying Tryz.underlying193, MapKept.run_getObj_map hb, MapKept.run_checkKey Tryz.underlying2 hk, MapKept.run_findKey Tryz.underlying2 hf, MapKept.run_setObj_map _ hb, Result.andThen]
 show _ = ({ W with heap := W.heap.push _ } : World)
 rw [← push_set W.heap (.map es c)]
 rfl
def fnV (r : Int) : Value := if r = 1 then .func (.func 215) #[] #[] else if r = 2 then .func (.func 216) #[] #[] else if r = 3 then .func (.func 217) #[] #[] else if r = 4 then .func (.func 218) #[] #[] else if r = 6 then .func (.func 219) #[] #[] else .nilFunc
def fnO (r : Int) : Bool := r == 1 || r == 2 || r == 3 || r == 4 || r == 6
theorem lkp_at {W : World} {g : Nat} {c : Nat} (r : Int) (hb : W.heap[g]? = some (.map (mnE 5) c)) :
  (Instr.lookup 193 (.map (some g)) (.int .i64 r) true).run Tryz.prog W = .ok (.tuple #[fnV r, .bool (fnO r)]) W := by
 have hk : MapKept.IsKey (.int .i64) (.int .i64 r) := by simp [MapKept.IsKey]
 have hz : ∀ W : World, (zeroValue 92).run Tryz.prog W = .ok .nilFunc W := fun _ => by kernel_rfl
 have hf : ∃ a, Instr.findNow (.int .i64) (.int .i64 r) (mnE 5).toList 0 = some a ∧ (match a with | some (_, v) => (v, true) | none => (Value.nilFunc, false)) = (fnV r, fnO r) := by
  by_cases h1 : r = 1
  ·subst h1; exact ⟨_, rfl, rfl⟩
  by_cases h2 : r = 2
  ·subst h2; exact ⟨_, rfl, rfl⟩
  by_cases h3 : r = 3
  ·subst h3; exact ⟨_, rfl, rfl⟩
  by_cases h4 : r = 4
  ·subst h4; exact ⟨_, rfl, rfl⟩
  by_cases h6 : r = 6
  ·subst h6; exact ⟨_, rfl, rfl⟩
  have b1 : (r == 1) = false := by simpa using h1
  have b2 : (r == 2) = false := by simpa using h2
  have b3 : (r == 3) = false := by simpa using h3
  have b4 : (r == 4) = false := by simpa using h4
  have b6 : (r == 6) = false := by simpa using h6
  refine ⟨none, ?_, ?_⟩
  ·simp [mnE, b1, b2, b3, b4, b6, Instr.findNow, Instr.sameNow, h1, h2, h3, h4, h6]
  ·simp [fnV, fnO, h1, h2, h3, h4, h6]
 obtain ⟨a, h1, h2⟩ := hf
 simp only [Prod.ext_iff] at h2
 rcases a with _ | ⟨i, v⟩
 ·simp only at h2
  simp [Instr.lookup, run_underlying Tryz.underlying193, MapKept.run_getObj_map hb, MapKept.run_checkKey Tryz.underlying2 hk, MapKept.run_findKey Tryz.underlying2 h1, Result.andThen, hz, ← h2.1, ← h2.2]
 ·simp only at h2
  simp [Instr.lookup, run_underlying Tryz.underlying193, MapKept.run_getObj_map hb, MapKept.run_checkKey Tryz.underlying2 hk, MapKept.run_findKey Tryz.underlying2 h1, Result.andThen, ← h2.1, ← h2.2]
set_option maxRecDepth 100000 in
set_option maxHeartbeats 4000000 in
theorem mirN_any (w : World) :
  Calls Tryz.prog 147 #[] w fun z w' => z = .returned (.map (some w.heap.size)) ∧ w' = w.alloc (.map (mnE 5) 5) := by
 have hmm := @run_makeMap Tryz.prog
 have u0 := upd_at (W := w) (es := #[]) (es' := mnE 1) (c := 0) (k := 1) (v := .func (.func 215) #[] #[]) rfl rfl
 have u1 := upd_at (W := w) (es := mnE 1) (es' := mnE 2) (c := 1) (k := 2) (v := .func (.func 216) #[] #[]) rfl rfl
 have u2 := upd_at (W := w) (es := mnE 2) (es' := mnE 3) (c := 2) (k := 3) (v := .func (.func 217) #[] #[]) rfl rfl
 have u3 := upd_at (W := w) (es := mnE 3) (es' := mnE 4) (c := 3) (k := 4) (v := .func (.func 218) #[] #[]) rfl rfl
 have u4 := upd_at (W := w) (es := mnE 4) (es' := mnE 5) (c := 4) (k := 6) (v := .func (.func 219) #[] #[]) rfl rfl
 go_enter Tryz.func147, Tryz.ntmps147
 go_wp2
 go_ret
 exact ⟨rfl, rfl⟩
theorem map_two (w : World) (o : Obj) : ((w.alloc o).alloc (.map (mnE 5) 5)).drew.heap[w.heap.size + 1]? = some (.map (mnE 5) 5) := by
 show ((w.heap.push o).push _)[w.heap.size + 1]? = _
 rw [show w.heap.size + 1 = (w.heap.push o).size by simp]
 exact Array.getElem?_push_size
theorem nmW_eq {r n e c : Int} {al : Bool} (h : (n == 0 && (e == 0 && (c == 0 && !al))) = false) : nmW r n e c al = nmI r n e c al := by
 unfold nmW
 split
 ·rename_i hn
  subst hn
  have : ¬ (e = 0 ∧ c = 0 ∧ al = false) := by
   rintro ⟨rfl, rfl, rfl⟩
   cases h
  unfold nmI
  rw [if_pos rfl, if_neg this]
 ·rfl
set_option maxRecDepth 100000 in
set_option maxHeartbeats 8000000 in
theorem name_1 (n e c : Int) (al : Bool) (w : World) :
  Calls Tryz.prog 80 #[.agg #[.int .i64 1, .int .i64 n, .int .i64 e, .int .i64 c, .bool al]] w fun z w' => z = .returned (.string (nmB (nmI 1 n e c al))) ∧ Below w.heap.size w w' := by
 have X0 : Bx w.heap.size [.int .i64 1, .int .i64 n, .int .i64 e, .int .i64 c, .bool al] (w.alloc (.cells #[.int .i64 1, .int .i64 n, .int .i64 e, .int .i64 c, .bool al] 49)) := Bx.at _ rfl
 have B0 : Below w.heap.size w (w.alloc (.cells #[.int .i64 1, .int .i64 n, .int .i64 e, .int .i64 c, .bool al] 49)) := ab _ _
 have hl1 := lkp_at 1 (map_two w (.cells #[.int .i64 1, .int .i64 n, .int .i64 e, .int .i64 c, .bool al] 49))
 have hv : fnV 1 = .func (.func 215) #[] #[] := rfl
 have ho : fnO 1 = true := rfl
 rw [hv, ho] at hl1
 clear hv ho
 have X1 := ((X0.alloc (.map (mnE 5) 5)).drew)
 have B1 : Below w.heap.size w ((w.alloc (.cells #[.int .i64 1, .int .i64 n, .int .i64 e, .int .i64 c, .bool al] 49)).alloc (.map (mnE 5) 5)).drew := (B0.alloc B0.size _).drew
 have hx0 := X1.c0
 rcases hq : (n == 0 && (e == 0 && (c == 0 && !al))) with _ | _
 ·have HQ := Lib.hid (nmW_eq (r := 1) hq)
  go_enter Tryz.func80, Tryz.ntmps80
  go_wp2_with fail
  go_region_with (first | (go_at_call 147; with_reducible refine (mirN_any _).mono ?_; rintro z9 w9 ⟨rfl, rfl⟩) | fail)
  all_goals
   go_wp2_with (go_at_call 215; with_reducible refine (nwW_any _ _ _ _ _ _).mono ?_; rintro z8 w8 ⟨rfl, hb8⟩; have B8 := bstep B1 hb8; clear hb8)
   go_wp2
   go_ret
   exact ⟨ret_str (by rw [HQ.out]), B8⟩
 ·obtain ⟨rfl, rfl, rfl, rfl⟩ : n = 0 ∧ e = 0 ∧ c = 0 ∧ al = false := by
   simp only [Bool.and_eq_true, beq_iff_eq, Bool.not_eq_true'] at hq
   exact ⟨hq.1, hq.2.1, hq.2.2.1, hq.2.2.2⟩
  clear hq
  go_enter Tryz.func80, Tryz.ntmps80
  go_wp2_with fail
  go_region_with (first | (go_at_call 147; with_reducible refine (mirN_any _).mono ?_; rintro z9 w9 ⟨rfl, rfl⟩) | fail)
  all_goals
   go_wp2_with (go_at_call 148; with_reducible refine (fmt_any _ (by decide) _).mono ?_; rintro z8 w8 ⟨rfl, rfl⟩)
   go_wp2
   go_ret
   exact ⟨ret_str (by decide +kernel), B1⟩
set_option maxRecDepth 100000 in
set_option maxHeartbeats 8000000 in
theorem name_2 (n e c : Int) (al : Bool) (w : World) :
  Calls Tryz.prog 80 #[.agg #[.int .i64 2, .int .i64 n, .int .i64 e, .int .i64 c, .bool al]] w fun z w' => z = .returned (.string (nmB (nmI 2 n e c al))) ∧ Below w.heap.size w w' := by
 have X0 : Bx w.heap.size [.int .i64 2, .int .i64 n, .int .i64 e, .int .i64 c, .bool al] (w.alloc (.cells #[.int .i64 2, .int .i64 n, .int .i64 e, .int .i64 c, .bool al] 49)) := Bx.at _ rfl
 have B0 : Below w.heap.size w (w.alloc (.cells #[.int .i64 2, .int .i64 n, .int .i64 e, .int .i64 c, .bool al] 49)) := ab _ _
 have hl1 := lkp_at 2 (map_two w (.cells #[.int .i64 2, .int .i64 n, .int .i64 e, .int .i64 c, .bool al] 49))
 have hv : fnV 2 = .func (.func 216) #[] #[] := rfl
 have ho : fnO 2 = true := rfl
 rw [hv, ho] at hl1
 clear hv ho
 have X1 := ((X0.alloc (.map (mnE 5) 5)).drew)
 have B1 : Below w.heap.size w ((w.alloc (.cells #[.int .i64 2, .int .i64 n, .int .i64 e, .int .i64 c, .bool al] 49)).alloc (.map (mnE 5) 5)).drew := (B0.alloc B0.size _).drew
 have hx0 := X1.c0
 rcases hq : (n == 0 && (e == 0 && (c == 0 && !al))) with _ | _
 ·have HQ := Lib.hid (nmW_eq (r := 2) hq)
  go_enter Tryz.func80, Tryz.ntmps80
  go_wp2_with fail
  go_region_with (first | (go_at_call 147; with_reducible refine (mirN_any _).mono ?_; rintro z9 w9 ⟨rfl, rfl⟩) | fail)
  all_goals
   go_wp2_with (go_at_call 216; with_reducible refine (nwH_any _ _ _ _ _ _).mono ?_; rintro z8 w8 ⟨rfl, hb8⟩; have B8 := bstep B1 hb8; clear hb8)
   go_wp2
   go_ret
   exact ⟨ret_str (by rw [HQ.out]), B8⟩
 ·obtain ⟨rfl, rfl, rfl, rfl⟩ : n = 0 ∧ e = 0 ∧ c = 0 ∧ al = false := by
   simp only [Bool.and_eq_true, beq_iff_eq, Bool.not_eq_true'] at hq
   exact ⟨hq.1, hq.2.1, hq.2.2.1, hq.2.2.2⟩
  clear hq
  go_enter Tryz.func80, Tryz.ntmps80
  go_wp2_with fail
  go_region_with (first | (go_at_call 147; with_reducible refine (mirN_any _).mono ?_; rintro z9 w9 ⟨rfl, rfl⟩) | fail)
  all_goals
   go_wp2_with (go_at_call 148; with_reducible refine (fmt_any _ (by decide) _).mono ?_; rintro z8 w8 ⟨rfl, rfl⟩)
   go_wp2
   go_ret
   exact ⟨ret_str (by decide +kernel), B1⟩
set_option maxRecDepth 100000 in
set_option maxHeartbeats 8000000 in
theorem name_3 (n e c : Int) (al : Bool) (w : World) :
  Calls Tryz.prog 80 #[.agg #[.int .i64 3, .int .i64 n, .int .i64 e, .int .i64 c, .bool al]] w fun z w' => z = .returned (.string (nmB (nmI 3 n e c al))) ∧ Below w.heap.size w w' := by
 have X0 : Bx w.heap.size [.int .i64 3, .int .i64 n, .int .i64 e, .int .i64 c, .bool al] (w.alloc (.cells #[.int .i64 3, .int .i64 n, .int .i64 e, .int .i64 c, .bool al] 49)) := Bx.at _ rfl
 have B0 : Below w.heap.size w (w.alloc (.cells #[.int .i64 3, .int .i64 n, .int .i64 e, .int .i64 c, .bool al] 49)) := ab _ _
 have hl1 := lkp_at 3 (map_two w (.cells #[.int .i64 3, .int .i64 n, .int .i64 e, .int .i64 c, .bool al] 49))
 have hv : fnV 3 = .func (.func 217) #[] #[] := rfl
 have ho : fnO 3 = true := rfl
 rw [hv, ho] at hl1
 clear hv ho
 have X1 := ((X0.alloc (.map (mnE 5) 5)).drew)
 have B1 : Below w.heap.size w ((w.alloc (.cells #[.int .i64 3, .int .i64 n, .int .i64 e, .int .i64 c, .bool al] 49)).alloc (.map (mnE 5) 5)).drew := (B0.alloc B0.size _).drew
 have hx0 := X1.c0
 rcases hq : (n == 0 && (e == 0 && (c == 0 && !al))) with _ | _
 ·have HQ := Lib.hid (nmW_eq (r := 3) hq)
  go_enter Tryz.func80, Tryz.ntmps80
  go_wp2_with fail
  go_region_with (first | (go_at_call 147; with_reducible refine (mirN_any _).mono ?_; rintro z9 w9 ⟨rfl, rfl⟩) | fail)
  all_goals
   go_wp2_with (go_at_call 217; with_reducible refine (nwT_any _ _ _ _ _ _).mono ?_; rintro z8 w8 ⟨rfl, hb8⟩; have B8 := bstep B1 hb8; clear hb8)
   go_wp2
   go_ret
   exact ⟨ret_str (by rw [HQ.out]), B8⟩
 ·obtain ⟨rfl, rfl, rfl, rfl⟩ : n = 0 ∧ e = 0 ∧ c = 0 ∧ al = false := by
   simp only [Bool.and_eq_true, beq_iff_eq, Bool.not_eq_true'] at hq
   exact ⟨hq.1, hq.2.1, hq.2.2.1, hq.2.2.2⟩
  clear hq
  go_enter Tryz.func80, Tryz.ntmps80
  go_wp2_with fail
  go_region_with (first | (go_at_call 147; with_reducible refine (mirN_any _).mono ?_; rintro z9 w9 ⟨rfl, rfl⟩) | fail)
  all_goals
   go_wp2_with (go_at_call 148; with_reducible refine (fmt_any _ (by decide) _).mono ?_; rintro z8 w8 ⟨rfl, rfl⟩)
   go_wp2
   go_ret
   exact ⟨ret_str (by decide +kernel), B1⟩
set_option maxRecDepth 100000 in
set_option maxHeartbeats 8000000 in
theorem name_4 (n e c : Int) (al : Bool) (w : World) :
  Calls Tryz.prog 80 #[.agg #[.int .i64 4, .int .i64 n, .int .i64 e, .int .i64 c, .bool al]] w fun z w' => z = .returned (.string (nmB (nmI 4 n e c al))) ∧ Below w.heap.size w w' := by
 have X0 : Bx w.heap.size [.int .i64 4, .int .i64 n, .int .i64 e, .int .i64 c, .bool al] (w.alloc (.cells #[.int .i64 4, .int .i64 n, .int .i64 e, .int .i64 c, .bool al] 49)) := Bx.at _ rfl
 have B0 : Below w.heap.size w (w.alloc (.cells #[.int .i64 4, .int .i64 n, .int .i64 e, .int .i64 c, .bool al] 49)) := ab _ _
 have hl1 := lkp_at 4 (map_two w (.cells #[.int .i64 4, .int .i64 n, .int .i64 e, .int .i64 c, .bool al] 49))
 have hv : fnV 4 = .func (.func 218) #[] #[] := rfl
 have ho : fnO 4 = true := rfl
 rw [hv, ho] at hl1
 clear hv ho
 have X1 := ((X0.alloc (.map (mnE 5) 5)).drew)
 have B1 : Below w.heap.size w ((w.alloc (.cells #[.int .i64 4, .int .i64 n, .int .i64 e, .int .i64 c, .bool al] 49)).alloc (.map (mnE 5) 5)).drew := (B0.alloc B0.size _).drew
 have hx0 := X1.c0
 rcases hq : (n == 0 && (e == 0 && (c == 0 && !al))) with _ | _
 ·have HQ := Lib.hid (nmW_eq (r := 4) hq)
  go_enter Tryz.func80, Tryz.ntmps80
  go_wp2_with fail
  go_region_with (first | (go_at_call 147; with_reducible refine (mirN_any _).mono ?_; rintro z9 w9 ⟨rfl, rfl⟩) | fail)
  all_goals
   go_wp2_with (go_at_call 218; with_reducible refine (nwQ_any _ _ _ _ _ _).mono ?_; rintro z8 w8 ⟨rfl, hb8⟩; have B8 := bstep B1 hb8; clear hb8)
   go_wp2
   go_ret
   exact ⟨ret_str (by rw [HQ.out]), B8⟩
 ·obtain ⟨rfl, rfl, rfl, rfl⟩ : n = 0 ∧ e = 0 ∧ c = 0 ∧ al = false := by
   simp only [Bool.and_eq_true, beq_iff_eq, Bool.not_eq_true'] at hq
   exact ⟨hq.1, hq.2.1, hq.2.2.1, hq.2.2.2⟩
  clear hq
  go_enter Tryz.func80, Tryz.ntmps80
  go_wp2_with fail
  go_region_with (first | (go_at_call 147; with_reducible refine (mirN_any _).mono ?_; rintro z9 w9 ⟨rfl, rfl⟩) | fail)
  all_goals
   go_wp2_with (go_at_call 148; with_reducible refine (fmt_any _ (by decide) _).mono ?_; rintro z8 w8 ⟨rfl, rfl⟩)
   go_wp2
   go_ret
   exact ⟨ret_str (by decide +kernel), B1⟩
set_option maxRecDepth 100000 in
set_option maxHeartbeats 8000000 in
theorem name_6 (n e c : Int) (al : Bool) (w : World) :
  Calls Tryz.prog 80 #[.agg #[.int .i64 6, .int .i64 n, .int .i64 e, .int .i64 c, .bool al]] w fun z w' => z = .returned (.string (nmB (nmI 6 n e c al))) ∧ Below w.heap.size w w' := by
 have X0 : Bx w.heap.size [.int .i64 6, .int .i64 n, .int .i64 e, .int .i64 c, .bool al] (w.alloc (.cells #[.int .i64 6, .int .i64 n, .int .i64 e, .int .i64 c, .bool al] 49)) := Bx.at _ rfl
 have B0 : Below w.heap.size w (w.alloc (.cells #[.int .i64 6, .int .i64 n, .int .i64 e, .int .i64 c, .bool al] 49)) := ab _ _
 have hl1 := lkp_at 6 (map_two w (.cells #[.int .i64 6, .int .i64 n, .int .i64 e, .int .i64 c, .bool al] 49))
 have hv : fnV 6 = .func (.func 219) #[] #[] := rfl
 have ho : fnO 6 = true := rfl
 rw [hv, ho] at hl1
 clear hv ho
 have X1 := ((X0.alloc (.map (mnE 5) 5)).drew)
 have B1 : Below w.heap.size w ((w.alloc (.cells #[.int .i64 6, .int .i64 n, .int .i64 e, .int .i64 c, .bool al] 49)).alloc (.map (mnE 5) 5)).drew := (B0.alloc B0.size _).drew
 have hx0 := X1.c0
 rcases hq : (n == 0 && (e == 0 && (c == 0 && !al))) with _ | _
 ·have HQ := Lib.hid (nmW_eq (r := 6) hq)
  go_enter Tryz.func80, Tryz.ntmps80
  go_wp2_with fail
  go_region_with (first | (go_at_call 147; with_reducible refine (mirN_any _).mono ?_; rintro z9 w9 ⟨rfl, rfl⟩) | fail)
  all_goals
   go_wp2_with (go_at_call 219; with_reducible refine (nwS_any _ _ _ _ _ _).mono ?_; rintro z8 w8 ⟨rfl, hb8⟩; have B8 := bstep B1 hb8; clear hb8)
   go_wp2
   go_ret
   exact ⟨ret_str (by rw [HQ.out]), B8⟩
 ·obtain ⟨rfl, rfl, rfl, rfl⟩ : n = 0 ∧ e = 0 ∧ c = 0 ∧ al = false := by
   simp only [Bool.and_eq_true, beq_iff_eq, Bool.not_eq_true'] at hq
   exact ⟨hq.1, hq.2.1, hq.2.2.1, hq.2.2.2⟩
  clear hq
  go_enter Tryz.func80, Tryz.ntmps80
  go_wp2_with fail
  go_region_with (first | (go_at_call 147; with_reducible refine (mirN_any _).mono ?_; rintro z9 w9 ⟨rfl, rfl⟩) | fail)
  all_goals
   go_wp2_with (go_at_call 148; with_reducible refine (fmt_any _ (by decide) _).mono ?_; rintro z8 w8 ⟨rfl, rfl⟩)
   go_wp2
   go_ret
   exact ⟨ret_str (by decide +kernel), B1⟩
set_option maxRecDepth 100000 in
set_option maxHeartbeats 8000000 in
theorem name5_any (r n e c : Int) (al : Bool) (w : World) :
  Calls Tryz.prog 80 #[.agg #[.int .i64 r, .int .i64 n, .int .i64 e, .int .i64 c, .bool al]] w fun z w' => z = .returned (.string (nmB (nmI r n e c al))) ∧ Below w.heap.size w w' := by
 by_cases h1 : r = 1
 ·subst h1; exact name_1 n e c al w
 by_cases h2 : r = 2
 ·subst h2; exact name_2 n e c al w
 by_cases h3 : r = 3
 ·subst h3; exact name_3 n e c al w
 by_cases h4 : r = 4
 ·subst h4; exact name_4 n e c al w
 by_cases h6 : r = 6
 ·subst h6; exact name_6 n e c al w
 have hN : nmI r n e c al = 0 := by
  unfold nmI
  simp [h1, h2, h3, h4, h6]
 have HN := Lib.hid hN
 have X0 : Bx w.heap.size [.int .i64 r, .int .i64 n, .int .i64 e, .int .i64 c, .bool al] (w.alloc (.cells #[.int .i64 r, .int .i64 n, .int .i64 e, .int .i64 c, .bool al] 49)) := Bx.at _ rfl
 have B0 : Below w.heap.size w (w.alloc (.cells #[.int .i64 r, .int .i64 n, .int .i64 e, .int .i64 c, .bool al] 49)) := ab _ _
 have hl1 := lkp_at r (map_two w (.cells #[.int .i64 r, .int .i64 n, .int .i64 e, .int .i64 c, .bool al] 49))
 have hv : fnV r = .nilFunc := by simp [fnV, h1, h2, h3, h4, h6]
 have ho : fnO r = false := by simp [fnO, h1, h2, h3, h4, h6]
 rw [hv, ho] at hl1
 clear hv ho hN
 have B1 : Below w.heap.size w ((w.alloc (.cells #[.int .i64 r, .int .i64 n, .int .i64 e, .int .i64 c, .bool al] 49)).alloc (.map (mnE 5) 5)).drew := (B0.alloc B0.size _).drew
 go_enter Tryz.func80, Tryz.ntmps80
 go_wp2_with fail
 go_region_with (first | (go_at_call 147; with_reducible refine (mirN_any _).mono ?_; rintro z9 w9 ⟨rfl, rfl⟩) | fail)
 all_goals
  go_wp2
  go_ret
  exact ⟨ret_str (by rw [HN.out]; rfl), B1⟩
set_option maxRecDepth 100000 in
set_option maxHeartbeats 8000000 in
theorem implNof_any (r n e c : Int) (al : Bool) (w : World) :
  Calls Tryz.prog 25 #[.agg #[.int .i64 r, .int .i64 n, .int .i64 e, .int .i64 c, .bool al]] w fun z w' => z = .returned (nmR (nmI r n e c al)) ∧ Below w.heap.size w w' := by
 have hk := nmI_le r n e c al
 obtain ⟨K, hK⟩ : ∃ K, K = nmI r n e c al := ⟨_, rfl⟩
 rw [← hK] at hk ⊢
 have HK := Lib.hid hK
 clear hK
 go_enter Tryz.func25, Tryz.ntmps25
 go_wp2_with fail
 with_reducible refine (name5_any r n e c al _).mono ?_
 rintro z9 w9 ⟨rfl, hb9⟩
 have hB := bstep ((Below.refl _ _).alloc (Nat.le_refl _) _) hb9
 clear hb9
 rw [← HK.out]
 by_cases h0 : K = 0
 ·clear HK
  subst h0
  have hq : (nmB 0).toList.isEmpty = true := by decide +kernel
  go_wp2
  all_goals go_ret2
  all_goals exact ⟨rfl, hB⟩
 ·have hq : (nmB K).toList.isEmpty = false := nmB_ne hk h0
  have hc : (if K = 0 then (4 : Int) else 0) = 0 := if_neg h0
  go_wp2
  all_goals go_ret2
  all_goals exact ⟨ret_val (by rw [nmR, hc]; rfl), hB⟩
end Go.Proofs.YtjjfomokecngoaaGreatDoor
