/-
 Several of my texts in one: Sh9, Df8.
-/
import Derived.Test.YtjjfomokecngoaaGreatDoorGm
import Derived.Test.YtjjfomokecngoaaGreatDoorMg6
import Derived.Deep.RegionHeld3
import Derived.IntWalk
import Derived.Test.YtjjfomokecngoaaGreatDoorPl6
import Derived.Laws.IdiomCopy
namespace Go.Proofs.YtjjfomokecngoaaGreatDoor
section
open Go.RowKit
set_option linter.unusedSimpArgs false
set_option linter.unusedVariables false

theorem pkGo0 {P : Prop} (h : P := by repeat (first | with_reducible assumption | with_reducible refine ownsRow_call ?_ (by with_reducible assumption) | with_reducible refine ownsRow_call ?_ (Below.drew (Below.refl _ _)) | with_reducible refine ownsRow_call ?_ (Below.alloc (Below.refl _ _) (Nat.le_refl _) _))) : P := h
theorem pkGo1 {P : Prop} (h : P := by repeat (first | with_reducible assumption | with_reducible exact Below.refl _ _ | with_reducible refine Below.alloc ?_ (by first | omega | (simp <;> omega)) _ | with_reducible refine bstep ?_ (by with_reducible assumption) | with_reducible refine Below.drew ?_)) : P := h
theorem pkGo2 {P : Prop} (h : P := by repeat (first | assumption | refine Ko6.drew ?_ | refine Ko6.alloc ?_ _ | refine Ko6.call ?_ (by assumption))) : P := h
def isOne (m : M6) : Bool := eqM m.1 m.2.1 m.2.2.1 m.2.2.2.1 1 0 0 1
def shP (xs : List M6) : List (Int × Int) := (xs.filter isOne).map fun m => (m.2.2.2.2.1, m.2.2.2.2.2)
theorem shP_yes {xs : List M6} {k : Nat} {m : M6} (h : xs.take (k + 1) = xs.take k ++ [m]) (hm : isOne m = true) : shP (xs.take (k + 1)) = shP (xs.take k) ++ [(m.2.2.2.2.1, m.2.2.2.2.2)] := by
 rw [h]; simp [shP, List.filter_append, hm]
theorem shP_no {xs : List M6} {k : Nat} {m : M6} (h : xs.take (k + 1) = xs.take k ++ [m]) (hm : isOne m = false) : shP (xs.take (k + 1)) = shP (xs.take k) := by
 rw [h]; simp [shP, List.filter_append, hm]
theorem shP_len (xs : List M6) : (shP xs).length ≤ xs.length := by unfold shP; rw [List.length_map]; exact List.length_filter_le _ _
theorem isOne_model (a b c d x y : Int) : eqT4 a b c d 1 0 0 1 = isOne (a, b, c, d, x, y) := by
 rw [Bool.eq_iff_iff]
 simp [eqT4, isOne, eqM, and_assoc]
attribute [local go_sem ↓] eqArr eqMa6
set_option maxRecDepth 100000 in
set_option maxHeartbeats 8000000 in
theorem shiftsIn_any {lo hi : Nat} {v : Value} {xs : List M6} {w1 : World} (h : SRow lo hi 6 v xs.length (fm xs) w1) (hn : xs.length ≤ 768) (hU : UnitOK w1) :
  Calls Tryz.prog 74 #[v] w1 fun e w' => ∃ v' : Value, e = .returned v' ∧ w'.ownsRow w1.heap.size 63 2 v' (shP xs).length (cells2 (shP xs)) ∧ Below w1.heap.size w1 w' := by
 obtain ⟨i0, hinf, hz0, hz1, hz2⟩ := info_parts infoVec
 have HS1 := Lib.hid h
 have H768 := Lib.hid hn
 have h7 : (xs.length : Int) ≤ 768 := by omega
 have U1 : UnitOK w1 := hU
 obtain ⟨ao, cap, rfl⟩ := srow_shape h
 clear h hn
 go_enter Tryz.func74, Tryz.ntmps74
 go_wp2_with fail
 go_loopw [3, 8] (fun s3 s8 W => ∃ k : Nat, s8 = .int .i64 (k : Int) ∧ k ≤ xs.length ∧ W.ownsRow w1.heap.size 63 2 s3 (shP (xs.take k)).length (cells2 (shP (xs.take k))) ∧ Below w1.heap.size w1 W) (fun _ s8 _ => xs.length - (intOf s8).toNat)
 case atStart => exact ⟨0, rfl, by omega, World.ownsRow_nil _ _ _ _, Below.refl _ _⟩
 case round =>
  obtain ⟨k, rfl, hk, hown, hB⟩ := hrel
  by_cases hk1 : k < xs.length
  ·have HPL := Lib.hid (shP_len (xs.take k))
   have hk2 : (k : Int) < (xs.length : Int) := by omega
   have hk3 : (k : Int) ≤ 768 := by omega
   have hres := HS1.out.2.2.resolve_left (fun h => by omega)
   have hhi := HS1.out.1
   obtain ⟨g, cap', e9, _, hg, RA⟩ := hres
   simp only [Value.slice.injEq, true_and] at e9
   obtain ⟨rfl, rfl⟩ := e9
   have q1 := (RA.grow hB (by omega)).mo k hk1
   have HT := Lib.hid (show xs.take (k + 1) = xs.take k ++ [xs[k]] from List.take_succ_eq_append_getElem hk1)
   have HTL := Lib.hid (show (xs.take k).length ≤ 768 by rw [List.length_take]; omega)
   have HK := Lib.hid hk1
   clear RA hg hhi hk
   generalize xs[k] = m at q1 HT
   clear hk1
   obtain ⟨a, b, c, d, x, y⟩ := m
   dsimp only at q1
   have U2 : UnitOK wr := Kq.call U1 hB
   have HY := Lib.hid (fun h => shP_yes HT.out h)
   have HN2 := Lib.hid (fun h => shP_no HT.out h)
   have HPT : Hid ((shP (xs.take k)).length ≤ 768) := Lib.hid (Nat.le_trans HPL.out HTL.out)
   generalize shP (xs.take k) = ys at hown HY HN2 HPT
   clear HPL HTL
   have zB := hB.size
   have q1c := q1.cells
   have X0 : KM wr.heap.size a b c d x y (wr.alloc (.cells #[.int .i64 a, .int .i64 b, .int .i64 c, .int .i64 d, .int .i64 x, .int .i64 y] 145)) := KM.at _ rfl
   have U3 : UnitOK (wr.alloc (.cells #[.int .i64 a, .int .i64 b, .int .i64 c, .int .i64 d, .int .i64 x, .int .i64 y] 145)) := Kq.alloc U2 _
   have O3 := World.ownsRow.alloc hown (.cells #[.int .i64 a, .int .i64 b, .int .i64 c, .int .i64 d, .int .i64 x, .int .i64 y] 145)
   have B3 : Below w1.heap.size w1 (wr.alloc (.cells #[.int .i64 a, .int .i64 b, .int .i64 c, .int .i64 d, .int .i64 x, .int .i64 y] 145)) := hB.alloc zB _
   have X0c := X0.cells5
   obtain ⟨u0, u1, u2, u3, u4⟩ := id U3
   have un : ¬ 0 = wr.heap.size := by have := U2.1; omega
   have z3 : (wr.alloc (.cells #[.int .i64 a, .int .i64 b, .int .i64 c, .int .i64 d, .int .i64 x, .int .i64 y] 145)).heap.size = wr.heap.size + 1 := by simp
   clear hown hB
   rcases ho : isOne (a, b, c, d, x, y) with _ | _
   ·have he : eqM a b c d 1 0 0 1 = false := ho
    have HQ := Lib.hid (HN2.out ho)
    clear HY HN2 ho
    go_wp2_with fail
    go_wp2
    go_roundw
    case rel => exact ⟨k + 1, by go_num, by have := HK.out; omega, by rw [HQ.out]; exact O3, B3⟩
    case measure => (have := HK.out); first | (simp [intOf]; done) | (simp [intOf]; omega)
   ·have he : eqM a b c d 1 0 0 1 = true := ho
    have HQ := Lib.hid (HY.out ho)
    clear HY HN2 ho
    go_wp2_with (at_builtin; refine wpList_append_own _ rfl _ _ 83 rfl w1.heap.size 63 i0 (.agg #[.int .i64 0, .int .i64 0]) 2 16 Tryz.underlying83 hinf hz0 hz1 hz2 rfl (by decide) _ _ _ rfl (O3.alloc _) ⟨wr.heap.size + 1, 0, none⟩ 1 1 [.int .i64 x, .int .i64 y] rfl rfl (new_two _ _ _ (by simp)) one_two (by have := HPT.out; unfold maxLen; omega) (by have := HPT.out; omega) (by (try simp); omega) ?_; intro v9 w9 hown9 hgrow _)
    have O9 := own_next2 hown9
    have B9 : Below w1.heap.size w1 w9 := Below.grown (Below.alloc B3 (by simp; omega) _) hgrow (by simp; omega) (fun r hr => by have := (O3.lt r hr).1; omega)
    clear hown9 hgrow O3 B3
    go_wp2
    go_roundw
    case rel => exact ⟨k + 1, by go_num, by have := HK.out; omega, by rw [HQ.out]; exact O9, B9⟩
    case measure => (have := HK.out); first | (simp [intOf]; done) | (simp [intOf]; omega)
  ·obtain rfl : k = xs.length := by omega
   rw [List.take_length] at hown
   clear hk hk1
   go_wp2
   go_ret
   exact ⟨_, rfl, hown, hB⟩
set_option maxRecDepth 100000 in
set_option maxHeartbeats 8000000 in
theorem l06Shifts_any {lo hi : Nat} {v : Value} {xs : List M6} {w : World} (h : SRow lo hi 6 v xs.length (fm xs) w) (hn : xs.length ≤ 768) :
  Calls Tryz.prog 76 #[v] w fun e w' => ∃ v' : Value, e = .returned v' ∧ w'.ownsRow w.heap.size 63 2 v' (shP xs).length (cells2 (shP xs)) ∧ Below w.heap.size w w' := by
 obtain ⟨i0, hinf, hz0, hz1, hz2⟩ := info_parts infoVec
 have HS1 := Lib.hid h
 have H768 := Lib.hid hn
 have h7 : (xs.length : Int) ≤ 768 := by omega
 obtain ⟨ao, cap, rfl⟩ := srow_shape h
 have B0 : Below w.heap.size w (w.alloc (.cells #[] 63)) := (Below.refl _ _).alloc (Nat.le_refl _) _
 have O0 : (w.alloc (.cells #[] 63)).ownsRow w.heap.size 63 2 (.slice (some ⟨w.heap.size, 0, none⟩) 0 0) (shP (xs.take 0)).length (cells2 (shP (xs.take 0))) := World.ownsRow_lit (base := w.heap.size) (e := 63) (size := 2) w #[] 0 (Nat.le_refl _) (by unfold maxLen; omega) rfl
 clear h hn
 go_enter Tryz.func76, Tryz.ntmps76
 go_wp2_with fail
 go_loopw [3, 4] (fun s3 s4 W => ∃ k : Nat, s4 = .int .i64 (k : Int) ∧ k ≤ xs.length ∧ W.ownsRow w.heap.size 63 2 s3 (shP (xs.take k)).length (cells2 (shP (xs.take k))) ∧ Below w.heap.size w W) (fun _ s4 _ => xs.length - (intOf s4).toNat)
 case atStart => exact ⟨0, rfl, by omega, O0, B0⟩
 case round =>
  clear O0 B0
  obtain ⟨k, rfl, hk, hown, hB⟩ := hrel
  by_cases hk1 : k < xs.length
  ·have HPL := Lib.hid (shP_len (xs.take k))
   have hk2 : (k : Int) < (xs.length : Int) := by omega
   have hk3 : (k : Int) ≤ 768 := by omega
   have hres := HS1.out.2.2.resolve_left (fun h => by omega)
   have hhi := HS1.out.1
   obtain ⟨g, cap', e9, _, hg, RA⟩ := hres
   simp only [Value.slice.injEq, true_and] at e9
   obtain ⟨rfl, rfl⟩ := e9
   have q1 := (RA.grow hB (by omega)).mo k hk1
   have HT := Lib.hid (show xs.take (k + 1) = xs.take k ++ [xs[k]] from List.take_succ_eq_append_getElem hk1)
   have HTL := Lib.hid (show (xs.take k).length ≤ 768 by rw [List.length_take]; omega)
   have HK := Lib.hid hk1
   clear RA hg hhi hk
   generalize xs[k] = m at q1 HT
   clear hk1
   obtain ⟨a, b, c, d, x, y⟩ := m
   dsimp only at q1
   have HY := Lib.hid (fun h => shP_yes HT.out h)
   have HN2 := Lib.hid (fun h => shP_no HT.out h)
   have HPT : Hid ((shP (xs.take k)).length ≤ 768) := Lib.hid (Nat.le_trans HPL.out HTL.out)
   generalize shP (xs.take k) = ys at hown HY HN2 HPT
   clear HPL HTL
   have zB := hB.size
   have q1c := q1.cells
   have hgl := ko_lt q1
   have HE := isOne_model a b c d x y
   rcases ho : isOne (a, b, c, d, x, y) with _ | _
   ·rw [ho] at HE
    have HQ := Lib.hid (HN2.out ho)
    clear HY HN2 ho
    go_wp2_with fail
    go_region_held3 (fun W => (W.cell? ⟨g, k * 6, none⟩ = some (.int .i64 a) ∧ W.cell? ⟨g, k * 6 + 1, none⟩ = some (.int .i64 b) ∧ W.cell? ⟨g, k * 6 + 2, none⟩ = some (.int .i64 c) ∧ W.cell? ⟨g, k * 6 + 3, none⟩ = some (.int .i64 d) ∧ W.cell? ⟨g, k * 6 + 4, none⟩ = some (.int .i64 x) ∧ W.cell? ⟨g, k * 6 + 5, none⟩ = some (.int .i64 y))) ((refine Ko6.cells ?_) <;> with_reducible exact pkGo2)
     (first
      | (go_at_call 144; with_reducible refine (l02Unit_any _).mono ?_; rintro e u1 ⟨rfl, hb1⟩; have X1 : Ko6 g (k * 6) a b c d x y u1 := (by with_reducible exact pkGo2); have O1 : u1.ownsRow w.heap.size 63 2 u3 ys.length (cells2 ys) := (by exact pkGo0); have B1 : Below w.heap.size w u1 := (by exact pkGo1)))
    all_goals
     go_wp2
     go_roundw
     case rel => exact ⟨k + 1, by go_num, by have := HK.out; omega, by rw [HQ.out]; exact pkGo0, by exact pkGo1⟩
     case measure => (have := HK.out); first | (simp [intOf]; done) | (simp [intOf]; omega)
   ·rw [ho] at HE
    have HQ := Lib.hid (HY.out ho)
    clear HY HN2 ho
    go_wp2_with fail
    go_region_held3 (fun W => (W.cell? ⟨g, k * 6, none⟩ = some (.int .i64 a) ∧ W.cell? ⟨g, k * 6 + 1, none⟩ = some (.int .i64 b) ∧ W.cell? ⟨g, k * 6 + 2, none⟩ = some (.int .i64 c) ∧ W.cell? ⟨g, k * 6 + 3, none⟩ = some (.int .i64 d) ∧ W.cell? ⟨g, k * 6 + 4, none⟩ = some (.int .i64 x) ∧ W.cell? ⟨g, k * 6 + 5, none⟩ = some (.int .i64 y))) ((refine Ko6.cells ?_) <;> with_reducible exact pkGo2)
     (first
      | (go_at_call 144; with_reducible refine (l02Unit_any _).mono ?_; rintro e u1 ⟨rfl, hb1⟩; have X1 : Ko6 g (k * 6) a b c d x y u1 := (by with_reducible exact pkGo2); have O1 : u1.ownsRow w.heap.size 63 2 u3 ys.length (cells2 ys) := (by exact pkGo0); have B1 : Below w.heap.size w u1 := (by exact pkGo1)))
    all_goals
     have X2 : Ko6 g (k * 6) a b c d x y u1 := X1
     have O2 := O1
     have B2 := B1
     have X2c := X2.cells
     clear X1 O1 B1 q1 q1c hown hB
     have z2 := B2.size
     go_wp2_with (at_builtin; refine wpList_append_own _ rfl _ _ 83 rfl w.heap.size 63 i0 (.agg #[.int .i64 0, .int .i64 0]) 2 16 Tryz.underlying83 hinf hz0 hz1 hz2 rfl (by decide) _ _ _ rfl (O2.alloc _) ⟨_, 0, none⟩ 1 1 [.int .i64 x, .int .i64 y] rfl rfl (new_two _ _ _ (by first | rfl | simp)) one_two (by have := HPT.out; unfold maxLen; omega) (by have := HPT.out; omega) (by (try simp); omega) ?_; intro v9 w9 hown9 hgrow _)
     have O9 := own_next2 hown9
     have B9 : Below w.heap.size w w9 := Below.grown (Below.alloc B2 (by omega) _) hgrow (by simp; omega) (fun r hr => by have := (O2.lt r hr).1; omega)
     clear hown9 hgrow O2 B2
     go_wp2
     go_roundw
     case rel => exact ⟨k + 1, by go_num, by have := HK.out; omega, by rw [HQ.out]; exact O9, B9⟩
     case measure => (have := HK.out); first | (simp [intOf]; done) | (simp [intOf]; omega)
  ·obtain rfl : k = xs.length := by omega
   rw [List.take_length] at hown
   clear hk hk1
   go_wp2
   go_ret
   exact ⟨_, rfl, hown, hB⟩

end
end Go.Proofs.YtjjfomokecngoaaGreatDoor

namespace Go.Proofs.YtjjfomokecngoaaGreatDoor
section
open Go.RowKit
set_option linter.unusedSimpArgs false
set_option linter.unusedVariables false

/- what a closure on motions does: it answers O m in each world that keeps Inv, and leaves what was there -/
/- an invariant that only looks at blocks other than g -/
structure Cmp6 (O : M6 → Bool) (L N : List M6) (j : Nat) : Prop where
 ij : N.length < j
 pre : N = (L.take j).filter (fun v => !O v)
theorem Cmp6.start {O : M6 → Bool} {L : List M6} {k : Nat} (hk : k < L.length) (ho : O L[k] = true) (hb : ∀ v ∈ L.take k, O v = false) : Cmp6 O L (L.take k) (k + 1) := by
 refine ⟨by rw [List.length_take]; omega, ?_⟩
 rw [List.take_succ_eq_append_getElem hk, List.filter_append, List.filter_eq_self.2 (fun v hv => by rw [hb v hv]; rfl)]
 simp [ho]
theorem Cmp6.skip {O : M6 → Bool} {L N : List M6} {j : Nat} (h : Cmp6 O L N j) (hj : j < L.length) (ho : O L[j] = true) : Cmp6 O L N (j + 1) := by
 refine ⟨by have := h.ij; omega, ?_⟩
 rw [List.take_succ_eq_append_getElem hj, List.filter_append, ← h.pre]
 simp [ho]
theorem Cmp6.keep {O : M6 → Bool} {L N : List M6} {j : Nat} (h : Cmp6 O L N j) (hj : j < L.length) (ho : O L[j] = false) : Cmp6 O L (N ++ [L[j]]) (j + 1) := by
 refine ⟨by have := h.ij; simp; omega, ?_⟩
 rw [List.take_succ_eq_append_getElem hj, List.filter_append, ← h.pre]
 simp [ho]
theorem Ko6.of {g o : Nat} {F : Nat → Int} {W : World} {N : Nat} {m : M6} (h : IRow g N F W) (ho : o + 5 < N) (e : F o = m.1 ∧ F (o + 1) = m.2.1 ∧ F (o + 2) = m.2.2.1 ∧ F (o + 3) = m.2.2.2.1 ∧ F (o + 4) = m.2.2.2.2.1 ∧ F (o + 5) = m.2.2.2.2.2) : Ko6 g o m.1 m.2.1 m.2.2.1 m.2.2.2.1 m.2.2.2.2.1 m.2.2.2.2.2 W := by
 have k := h.ko6 o ho
 rwa [e.1, e.2.1, e.2.2.1, e.2.2.2.1, e.2.2.2.2.1, e.2.2.2.2.2] at k
end
end Go.Proofs.YtjjfomokecngoaaGreatDoor

