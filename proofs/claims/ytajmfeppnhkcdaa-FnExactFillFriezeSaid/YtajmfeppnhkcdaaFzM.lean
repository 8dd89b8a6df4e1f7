/-
  Moved friezes in the program and in the model. Condition: the slice lies in a block of its own.
-/
import Derived.Test.YtajmfeppnhkcdaaFzQ
import Derived.Laws.Rows
import Derived.Laws.Tables
import Derived.Deep.RegionWith
namespace Go.Proofs.Ytajmfeppnhkcdaa
open Go.RowKit
set_option linter.unusedSimpArgs false
set_option linter.unusedVariables false

/- what a loop of stores leaves: place im k holds the number of place k, for the first K places -/
def mvF (im : Nat → Nat) (F : Nat → Int) : Nat → Nat → Int
  | 0 => fun _ => 0
  | k + 1 => fun t => if t = im k then F k else mvF im F k t
def mvN (h w n : Nat) (F : Nat → Int) (tx ty : Bool) (s : Nat) : Nat → Int := mvF (imN h w tx ty s) F n
theorem made_zero (n : Nat) : ∀ u ∈ (madeCells (Value.cells (.int .i64 0)) (n * 1)).toList, u = .int .i64 0 := by
  intro u hu
  unfold madeCells at hu
  simp only [Value.cells] at hu
  rw [Array.mem_toList_iff, Array.mem_map] at hu
  obtain ⟨i, _, rfl⟩ := hu
  have h : ∀ j, j < 1 → (#[Value.int .i64 0] : Array Value)[j]! = .int .i64 0 := by
    intro j hj
    have : j = 0 := by omega
    subst this
    rfl
  exact h _ (Nat.mod_lt _ (by simp))
theorem made_row {w1 : World} {g n cap : Nat} (h : w1.ownsRow g 2 1 (.slice (some ⟨g, 0, none⟩) n cap) n (madeCells (Value.cells (.int .i64 0)) (n * 1)).toList) : IRow g (n * 1) (fun _ => 0) w1 := by
  have hl := h.lt g rfl
  refine ⟨hl.2, fun t ht => ⟨?_, h.frozenAt t⟩⟩
  rw [h.cellAt t ht, List.getElem?_eq_getElem (by rw [h.1]; exact ht)]
  exact congrArg some (made_zero n _ (List.getElem_mem _))
theorem IRow.grown {g N : Nat} {F : Nat → Int} {W w1 : World} {row : Option Nat} (h : IRow g N F W) (hg : W.grownBy w1 row) (hr : row ≠ some g) : IRow g N F w1 := by
  have hh : w1.heap[g]? = W.heap[g]? := hg.block g h.1 (fun e => hr e.symm)
  exact ⟨Nat.lt_of_lt_of_le h.1 hg.size, fun t ht => ⟨(World.cell?_of_block (w := W) hh).trans (h.2 t ht).1, (World.frozen?_of_block (w := W) hh).trans (h.2 t ht).2⟩⟩
theorem K3.grown {g : Nat} {u0 u1 u2 : Value} {W w1 : World} {row : Option Nat} (h : K3 g u0 u1 u2 W) (hg : W.grownBy w1 row) (hr : row ≠ some g) : K3 g u0 u1 u2 w1 := by
  have hh : w1.heap[g]? = W.heap[g]? := hg.block g h.lt (fun e => hr e.symm)
  exact ⟨Nat.lt_of_lt_of_le h.lt hg.size, (World.cell?_of_block (w := W) hh).trans h.c0, (World.cell?_of_block (w := W) hh).trans h.c1, (World.cell?_of_block (w := W) hh).trans h.c2⟩
theorem KF.grown {g : Nat} {a b : Int} {v : Value} {W w1 : World} {row : Option Nat} (h : KF g a b v W) (hg : W.grownBy w1 row) (hr : row ≠ some g) : KF g a b v w1 := by
  have hh : w1.heap[g]? = W.heap[g]? := hg.block g h.lt (fun e => hr e.symm)
  exact ⟨Nat.lt_of_lt_of_le h.lt hg.size, (World.cell?_of_block (w := W) hh).trans h.c0, (World.cell?_of_block (w := W) hh).trans h.c1, (World.cell?_of_block (w := W) hh).trans h.c2, (World.frozen?_of_block (w := W) hh).trans h.f0, (World.frozen?_of_block (w := W) hh).trans h.f1, (World.frozen?_of_block (w := W) hh).trans h.f2⟩
/- an answer that is a frieze and a code -/
abbrev FR := Int × Int × Nat × (Nat → Int) × Int
def FAns (r : FR) (w : World) (e : Ending) (w' : World) : Prop :=
  ∃ (P Q : Int) (m : Nat) (G : Nat → Int) (c : Int) (v : Value), r = (P, Q, m, G, c) ∧ e = .returned (.tuple #[.agg #[.int .i64 P, .int .i64 Q, v], .int .i64 c]) ∧ SRow w.heap.size w'.heap.size 1 v m G w' ∧ Below w.heap.size w w'
theorem SRow.zero (lo : Nat) (F : Nat → Int) (W : World) : SRow lo W.heap.size 1 (.slice none 0 0) 0 F W := ⟨Nat.le_refl _, by omega, .inl ⟨rfl, none, 0, rfl⟩⟩
set_option maxRecDepth 100000 in
set_option maxHeartbeats 8000000 in
theorem moved_any {lo hi h w n s : Nat} {v : Value} {F : Nat → Int} {W : World} (p : FriI h w n F) (hv : SRow lo hi 1 v n F W) (tx ty : Bool) (hs : s ≤ 1000) :
    Calls Try.prog 65 #[.agg #[.int .i64 (h : Int), .int .i64 (w : Int), v], .agg #[.bool tx, .bool ty, .int .i64 (s : Int)]] W fun e w' => ∃ v', e = .returned (.agg #[.int .i64 (h : Int), .int .i64 (w : Int), v']) ∧ SRow W.heap.size w'.heap.size 1 v' n (mvN h w n F tx ty s) w' ∧ Below W.heap.size W w' := by
  obtain ⟨i0, hinf, hz0, hz1, hz2⟩ := info_parts infoI64
  have R := Lib.hid hv
  have P := Lib.hid p
  have h6 := p.h6
  have w24 := p.w24
  have n144 := p.n144
  have HNN := Lib.hid p.nn
  obtain ⟨g, cap, rfl, hg, _, r⟩ := hv.irow p.n1
  have hgs := hv.1
  have hgw : g < W.heap.size := by omega
  clear hv
  have KA0 : K3 W.heap.size (.int .i64 (h : Int)) (.int .i64 (w : Int)) (.slice (some ⟨g, 0, none⟩) n cap) (((W.alloc (.cells #[.int .i64 (h : Int), .int .i64 (w : Int), .slice (some ⟨g, 0, none⟩) n cap] 26)).alloc (.cells #[.bool tx, .bool ty, .int .i64 (s : Int)] 53)).alloc (.cells #[.int .i64 0, .int .i64 0, .slice none 0 0] 26)) := ((K3.at _ rfl).alloc _).alloc _
  have KB0 : K3 (W.heap.size + 1) (.bool tx) (.bool ty) (.int .i64 (s : Int)) (((W.alloc (.cells #[.int .i64 (h : Int), .int .i64 (w : Int), .slice (some ⟨g, 0, none⟩) n cap] 26)).alloc (.cells #[.bool tx, .bool ty, .int .i64 (s : Int)] 53)).alloc (.cells #[.int .i64 0, .int .i64 0, .slice none 0 0] 26)) := (K3.at _ (by simp)).alloc _
  have KC0 : KF (W.heap.size + 2) 0 0 (.slice none 0 0) (((W.alloc (.cells #[.int .i64 (h : Int), .int .i64 (w : Int), .slice (some ⟨g, 0, none⟩) n cap] 26)).alloc (.cells #[.bool tx, .bool ty, .int .i64 (s : Int)] 53)).alloc (.cells #[.int .i64 0, .int .i64 0, .slice none 0 0] 26)) := KF.at _ (by simp)
  have B0 : Below W.heap.size W (((W.alloc (.cells #[.int .i64 (h : Int), .int .i64 (w : Int), .slice (some ⟨g, 0, none⟩) n cap] 26)).alloc (.cells #[.bool tx, .bool ty, .int .i64 (s : Int)] 53)).alloc (.cells #[.int .i64 0, .int .i64 0, .slice none 0 0] 26)) := (((Below.refl _ _).alloc (Nat.le_refl _) _).alloc (by simp) _).alloc (by simp <;> omega) _
  have n144i : (n : Int) ≤ 144 := by omega
  have hsz0 : (((W.alloc (.cells #[.int .i64 (h : Int), .int .i64 (w : Int), .slice (some ⟨g, 0, none⟩) n cap] 26)).alloc (.cells #[.bool tx, .bool ty, .int .i64 (s : Int)] 53)).alloc (.cells #[.int .i64 0, .int .i64 0, .slice none 0 0] 26)).heap.size = W.heap.size + 3 := by simp
  go_enter Try.func65, Try.ntmps65
  go_wp2_with (refine wpList_make_full _ rfl _ _ _ rfl (W.heap.size + 3) 2 i0 (.int .i64 0) 1 Try.underlying22 hinf hz0 hz1 .i64 .i64 _ _ n rfl rfl rfl rfl (by rw [hz2]; omega) (by unfold maxLen; omega) (by simp) ?_; intro w1 hown1 hgr1; rw [hsz0] at hown1 ⊢; have KA1 := KA0.grown hgr1 (fun e => by cases e); have ka0 := KA1.c0; have ka1 := KA1.c1; have ka2 := KA1.c2; have kal := KA1.lt)
  have R1 := made_row hown1
  have KB1 := KB0.grown hgr1 (fun e => by cases e)
  have KC1 := KC0.grown hgr1 (fun e => by cases e)
  have B1 : Below W.heap.size W w1 := Below.grown B0 hgr1 (by simp <;> omega) (fun r hr => by cases hr)
  clear hown1 hgr1 hsz0 KA0 KB0 KC0 B0 hinf hz0 hz1 hz2 ka0 ka1 ka2 kal
  go_loopw [15] (fun t X => ∃ k : Nat, t = .int .i64 (k : Int) ∧ k ≤ n ∧ IRow (W.heap.size + 3) (n * 1) (mvF (imN h w tx ty s) F k) X ∧ K3 W.heap.size (.int .i64 (h : Int)) (.int .i64 (w : Int)) (.slice (some ⟨g, 0, none⟩) n cap) X ∧ K3 (W.heap.size + 1) (.bool tx) (.bool ty) (.int .i64 (s : Int)) X ∧ KF (W.heap.size + 2) 0 0 (.slice none 0 0) X ∧ Below W.heap.size W X) (fun t _ => n - (intOf t).toNat)
  case atStart => exact ⟨0, rfl, by omega, R1, KA1, KB1, KC1, B1⟩
  case round =>
    clear R1 KA1 KB1 KC1 B1
    obtain ⟨k, rfl, hk, R1, KA, KB, KC, hB⟩ := hrel
    by_cases hk1 : k < n
    · have hk2 : (k : Int) < (n : Int) := by omega
      have I0 := r.call hB
      have im1 : imN h w tx ty s k < n := by have hk9 := hk1; rw [HNN.out] at hk9 ⊢; exact imN_lt _ _ _ hk9
      have im2 : ((imN h w tx ty s k : Nat) : Int) < (n : Int) := by omega
      have im0 : (0 : Int) ≤ ((imN h w tx ty s k : Nat) : Int) := by omega
      have HT := Lib.hid (fun X => taken_any (h := h) (w := w) (s := s) (c := k) (.slice (some ⟨g, 0, none⟩) n cap) tx ty X h6 w24 hs (by have := HNN.out; omega))
      have c0 := I0.at k (by omega)
      obtain ⟨m, hm⟩ : ∃ m, m = imN h w tx ty s k := ⟨_, rfl⟩
      have HM := Lib.hid hm
      rw [← hm] at im2 im0 im1
      have HT2 := Lib.hid (fun X => (show Calls Try.prog 71 #[.agg #[.int .i64 (h : Int), .int .i64 (w : Int), .slice (some ⟨g, 0, none⟩) n cap], .agg #[.bool tx, .bool ty, .int .i64 (s : Int)], .int .i64 (k : Int)] X (fun e w' => e = .returned (.int .i64 (m : Int)) ∧ Below X.heap.size X w') by rw [hm]; exact HT.out X))
      clear HT hm
      obtain ⟨a, ha⟩ : ∃ a, a = F k := ⟨_, rfl⟩
      have HAB := Lib.hid ha
      rw [← ha] at c0
      clear ha
      have ka0 := KA.c0
      have ka1 := KA.c1
      have ka2 := KA.c2
      have kal := KA.lt
      have kb0 := KB.c0
      have kb1 := KB.c1
      have kb2 := KB.c2
      have kbl := KB.lt
      have hgl := I0.1
      go_wp2_with fail
      with_reducible refine (HT2.out _).mono ?_
      rintro e w2 ⟨rfl, hb2⟩
      have KA2 := KA.call hb2
      have KB2 := KB.call hb2
      have KC2 := KC.call hb2
      have RR := R1.call hb2
      have B2 := bstep hB hb2
      have f0 := RR.free m (by omega)
      have d0 := RR.at m (by omega)
      have rl := RR.1
      generalize mvF (imN h w tx ty s) F k m = z0 at d0
      clear ka0 ka1 ka2 kal kb0 kb1 kb2 kbl hgl c0 hb2 KA KB KC hB R1
      go_wp2
      go_roundw
      case rel =>
        refine ⟨k + 1, by go_num, by omega, (RR.put m (by omega) _).ext ?_, K3.far (by dsimp only; omega) KA2, K3.far (by dsimp only; omega) KB2, KF.far (by dsimp only; omega) KC2, B2.setCell (by dsimp only; omega) _⟩
        intro t _
        simp only [mvF]
        rw [← HM.out, ← HAB.out]
      case measure => first | (simp [intOf]; done) | (simp [intOf]; omega)
    · obtain rfl : k = n := by omega
      have ka0 := KA.c0
      have ka1 := KA.c1
      have ka2 := KA.c2
      have kal := KA.lt
      have kc0 := KC.c0
      have kc1 := KC.c1
      have kc2 := KC.c2
      have kcf0 := KC.f0
      have kcf1 := KC.f1
      have kcf2 := KC.f2
      have kcl := KC.lt
      have rl := R1.1
      go_wp2
      refine bodyPost_ret (v := .agg #[.int .i64 (h : Int), .int .i64 (w : Int), .slice (some ⟨W.heap.size + 3, 0, none⟩) k k]) (by simp [results, Try.results65, go_sem, *]) rfl ⟨_, rfl, ?_, ?_⟩
      · suffices h9 : IRow (W.heap.size + 3) (k * 1) (mvN h w k F tx ty s) _ from ⟨Nat.le_refl _, by omega, .inr ⟨_, _, rfl, by omega, h9.1, h9⟩⟩
        repeat (first | with_reducible exact R1 | (with_reducible refine IRow.far (by dsimp only; omega) ?_))
        exact R1
      · repeat (first | with_reducible exact hB | with_reducible refine Below.setCell ?_ (by first | omega | (dsimp only; omega)) _)
def mvA (a b : Int) (n : Nat) (F : Nat → Int) (tx ty : Bool) (s : Int) : FR :=
  if friB a b n F = true then (if 0 ≤ s ∧ s < b then (a, b, n, mvN a.toNat b.toNat n F tx ty s.toNat, 0) else (0, 0, 0, fun _ => 0, 2)) else (0, 0, 0, fun _ => 0, 1)
theorem mvA_no {a b : Int} {n : Nat} {F : Nat → Int} {tx ty : Bool} {s : Int} (h : friB a b n F = false) : mvA a b n F tx ty s = (0, 0, 0, fun _ => 0, 1) := by simp [mvA, h]
theorem mvA_out {h w n : Nat} {F : Nat → Int} {tx ty : Bool} {s : Int} (p : FriI h w n F) (hn : ¬ (0 ≤ s ∧ s < (w : Int))) : mvA h w n F tx ty s = (0, 0, 0, fun _ => 0, 2) := by
  unfold mvA; rw [if_pos p.b, if_neg hn]
theorem mvA_in {h w n s : Nat} {F : Nat → Int} {tx ty : Bool} (p : FriI h w n F) (hn : s < w) : mvA h w n F tx ty (s : Int) = ((h : Int), (w : Int), n, mvN h w n F tx ty s, 0) := by
  unfold mvA; rw [if_pos p.b, if_pos (by omega)]; rfl
set_option maxHeartbeats 4000000 in
theorem specMv_no {lo hi n : Nat} {v : Value} {F : Nat → Int} {W : World} (a b : Int) (hv : SRow lo hi 1 v n F W) (tx ty : Bool) (s : Int) (hf : friB a b n F = false) :
    Calls Try.prog 37 #[.agg #[.int .i64 a, .int .i64 b, v], .agg #[.bool tx, .bool ty, .int .i64 s]] W (FAns (mvA a b n F tx ty s) W) := by
  have R := Lib.hid hv
  obtain ⟨ao, cap, rfl⟩ := hv.slice
  clear hv
  go_enter Try.func37, Try.ntmps37
  go_wp2_with fail
  with_reducible refine (specIsFri_any a b (R.out.call (by repeat (first | with_reducible exact Below.refl _ _ | with_reducible assumption | with_reducible refine Below.setCell ?_ (by first | omega | (dsimp only; omega) | (simp <;> omega)) _ | with_reducible refine Below.alloc ?_ (by first | omega | (simp <;> omega)) _ | with_reducible refine bstep ?_ (by with_reducible assumption) | with_reducible refine Below.drew ?_)))).mono ?_
  rintro e w1 ⟨rfl, hb1⟩
  rw [hf]
  have HB := Lib.hid (show Below W.heap.size W w1 from bstep (by repeat (first | with_reducible exact Below.refl _ _ | with_reducible assumption | with_reducible refine Below.setCell ?_ (by first | omega | (dsimp only; omega) | (simp <;> omega)) _ | with_reducible refine Below.alloc ?_ (by first | omega | (simp <;> omega)) _ | with_reducible refine bstep ?_ (by with_reducible assumption) | with_reducible refine Below.drew ?_)) hb1)
  have KC1 : KF (W.heap.size + 2) 0 0 (.slice none 0 0) w1 := (KF.at (w := ((W.alloc (.cells #[.int .i64 a, .int .i64 b, .slice ao n cap] 26)).alloc (.cells #[.bool tx, .bool ty, .int .i64 s] 53))) _ (by simp)).call hb1
  have kc0 := KC1.c0
  have kc1 := KC1.c1
  have kc2 := KC1.c2
  have kcf0 := KC1.f0
  have kcf1 := KC1.f1
  have kcf2 := KC1.f2
  have kcl := KC1.lt
  clear hb1 KC1
  go_wp2
  refine bodyPost_ret (v := .tuple #[.agg #[.int .i64 0, .int .i64 0, .slice none 0 0], .int .i64 1]) (by simp [results, Try.results37, go_sem, *]) rfl ⟨0, 0, 0, fun _ => 0, 1, _, mvA_no hf, rfl, ?_, ?_⟩
  · exact SRow.zero _ _ _
  · have hB := HB.out
    repeat (first | with_reducible exact Below.refl _ _ | with_reducible assumption | with_reducible refine Below.setCell ?_ (by first | omega | (dsimp only; omega) | (simp <;> omega)) _ | with_reducible refine Below.alloc ?_ (by first | omega | (simp <;> omega)) _ | with_reducible refine bstep ?_ (by with_reducible assumption) | with_reducible refine Below.drew ?_)
set_option maxHeartbeats 4000000 in
theorem implMv_no {lo hi n : Nat} {v : Value} {F : Nat → Int} {W : World} (a b : Int) (hv : SRow lo hi 1 v n F W) (tx ty : Bool) (s : Int) (hf : friB a b n F = false) :
    Calls Try.prog 31 #[.agg #[.int .i64 a, .int .i64 b, v], .agg #[.bool tx, .bool ty, .int .i64 s]] W (FAns (mvA a b n F tx ty s) W) := by
  have R := Lib.hid hv
  obtain ⟨ao, cap, rfl⟩ := hv.slice
  clear hv
  go_enter Try.func31, Try.ntmps31
  go_wp2_with fail
  with_reducible refine (friValid_any a b (R.out.call (by repeat (first | with_reducible exact Below.refl _ _ | with_reducible assumption | with_reducible refine Below.setCell ?_ (by first | omega | (dsimp only; omega) | (simp <;> omega)) _ | with_reducible refine Below.alloc ?_ (by first | omega | (simp <;> omega)) _ | with_reducible refine bstep ?_ (by with_reducible assumption) | with_reducible refine Below.drew ?_)))).mono ?_
  rintro e w1 ⟨rfl, hb1⟩
  rw [hf]
  have HB := Lib.hid (show Below W.heap.size W w1 from bstep (by repeat (first | with_reducible exact Below.refl _ _ | with_reducible assumption | with_reducible refine Below.setCell ?_ (by first | omega | (dsimp only; omega) | (simp <;> omega)) _ | with_reducible refine Below.alloc ?_ (by first | omega | (simp <;> omega)) _ | with_reducible refine bstep ?_ (by with_reducible assumption) | with_reducible refine Below.drew ?_)) hb1)
  have KC1 : KF (W.heap.size + 2) 0 0 (.slice none 0 0) w1 := (KF.at (w := ((W.alloc (.cells #[.int .i64 a, .int .i64 b, .slice ao n cap] 26)).alloc (.cells #[.bool tx, .bool ty, .int .i64 s] 53))) _ (by simp)).call hb1
  have kc0 := KC1.c0
  have kc1 := KC1.c1
  have kc2 := KC1.c2
  have kcf0 := KC1.f0
  have kcf1 := KC1.f1
  have kcf2 := KC1.f2
  have kcl := KC1.lt
  clear hb1 KC1
  go_wp2
  refine bodyPost_ret (v := .tuple #[.agg #[.int .i64 0, .int .i64 0, .slice none 0 0], .int .i64 1]) (by simp [results, Try.results31, go_sem, *]) rfl ⟨0, 0, 0, fun _ => 0, 1, _, mvA_no hf, rfl, ?_, ?_⟩
  · exact SRow.zero _ _ _
  · have hB := HB.out
    repeat (first | with_reducible exact Below.refl _ _ | with_reducible assumption | with_reducible refine Below.setCell ?_ (by first | omega | (dsimp only; omega) | (simp <;> omega)) _ | with_reducible refine Below.alloc ?_ (by first | omega | (simp <;> omega)) _ | with_reducible refine bstep ?_ (by with_reducible assumption) | with_reducible refine Below.drew ?_)
set_option maxHeartbeats 8000000 in
theorem implMv_yes {lo hi h w n : Nat} {v : Value} {F : Nat → Int} {W : World} (p : FriI h w n F) (hv : SRow lo hi 1 v n F W) (tx ty : Bool) (s : Int) :
    Calls Try.prog 31 #[.agg #[.int .i64 (h : Int), .int .i64 (w : Int), v], .agg #[.bool tx, .bool ty, .int .i64 s]] W (FAns (mvA h w n F tx ty s) W) := by
  have R := Lib.hid hv
  have P := Lib.hid p
  have hf := p.b
  have w24 := p.w24
  obtain ⟨ao, cap, rfl⟩ := hv.slice
  clear hv p
  by_cases hs : 0 ≤ s ∧ s < (w : Int)
  · obtain ⟨t, rfl⟩ : ∃ t : Nat, s = (t : Int) := ⟨s.toNat, by omega⟩
    have ht : t < w := by omega
    have HA := Lib.hid (mvA_in (tx := tx) (ty := ty) P.out ht)
    have hs1 : ¬ (t : Int) < 0 := by omega
    have hs2 : ¬ (w : Int) ≤ (t : Int) := by omega
    have ht1000 : t ≤ 1000 := by omega
    clear hs
    go_enter Try.func31, Try.ntmps31
    go_wp2_with fail
    with_reducible refine (friValid_any _ _ (R.out.call (by repeat (first | with_reducible exact Below.refl _ _ | with_reducible assumption | with_reducible refine Below.setCell ?_ (by first | omega | (dsimp only; omega) | (simp <;> omega)) _ | with_reducible refine Below.alloc ?_ (by first | omega | (simp <;> omega)) _ | with_reducible refine bstep ?_ (by with_reducible assumption) | with_reducible refine Below.drew ?_)))).mono ?_
    rintro e w1 ⟨rfl, hb1⟩
    rw [hf]
    have HB := Lib.hid (show Below W.heap.size W w1 from bstep (by repeat (first | with_reducible exact Below.refl _ _ | with_reducible assumption | with_reducible refine Below.setCell ?_ (by first | omega | (dsimp only; omega) | (simp <;> omega)) _ | with_reducible refine Below.alloc ?_ (by first | omega | (simp <;> omega)) _ | with_reducible refine bstep ?_ (by with_reducible assumption) | with_reducible refine Below.drew ?_)) hb1)
    have KA1 : K3 W.heap.size (.int .i64 (h : Int)) (.int .i64 (w : Int)) (.slice ao n cap) w1 := (((K3.at _ rfl).alloc _).alloc _ : K3 _ _ _ _ (((W.alloc (.cells #[.int .i64 (h : Int), .int .i64 (w : Int), .slice ao n cap] 26)).alloc (.cells #[.bool tx, .bool ty, .int .i64 (t : Int)] 53)).alloc (.cells #[.int .i64 0, .int .i64 0, .slice none 0 0] 26))).call hb1
    have KB1 : K3 (W.heap.size + 1) (.bool tx) (.bool ty) (.int .i64 (t : Int)) w1 := ((K3.at _ (by simp)).alloc _ : K3 _ _ _ _ (((W.alloc (.cells #[.int .i64 (h : Int), .int .i64 (w : Int), .slice ao n cap] 26)).alloc (.cells #[.bool tx, .bool ty, .int .i64 (t : Int)] 53)).alloc (.cells #[.int .i64 0, .int .i64 0, .slice none 0 0] 26))).call hb1
    have KC1 : KF (W.heap.size + 2) 0 0 (.slice none 0 0) w1 := (KF.at (w := ((W.alloc (.cells #[.int .i64 (h : Int), .int .i64 (w : Int), .slice ao n cap] 26)).alloc (.cells #[.bool tx, .bool ty, .int .i64 (t : Int)] 53))) _ (by simp)).call hb1
    have ka0 := KA1.c0
    have ka1 := KA1.c1
    have ka2 := KA1.c2
    have kal := KA1.lt
    have kb0 := KB1.c0
    have kb1 := KB1.c1
    have kb2 := KB1.c2
    have kbl := KB1.lt
    clear hb1 KA1 KB1
    go_wp2_with fail
    with_reducible refine (moved_any P.out (R.out.call HB.out) tx ty ht1000).mono ?_
    rintro e w2 ⟨v2, rfl, r2, hb2⟩
    have HR := Lib.hid r2
    obtain ⟨ao2, cap2, rfl⟩ := r2.slice
    have B2 := Lib.hid (bstep HB.out hb2)
    have z1 := HB.out.size
    have KC2 := KC1.call hb2
    have kc0 := KC2.c0
    have kc1 := KC2.c1
    have kc2 := KC2.c2
    have kcf0 := KC2.f0
    have kcf1 := KC2.f1
    have kcf2 := KC2.f2
    have kcl := KC2.lt
    have kcl1 := Lib.hid KC1.lt
    clear ka0 ka1 ka2 kal kb0 kb1 kb2 kbl hb2 r2 KC1 KC2
    go_wp2
    refine bodyPost_ret (v := .tuple #[.agg #[.int .i64 (h : Int), .int .i64 (w : Int), .slice ao2 n cap2], .int .i64 0]) (by simp [results, Try.results31, go_sem, *]) rfl ⟨_, _, _, _, _, _, HA.out, rfl, ?_, ?_⟩
    · have hl := kcl1.out
      refine SRow.up (hi := w2.heap.size) (SRow.low (lo := w1.heap.size) ?_ z1)
      repeat (first | with_reducible exact HR.out | with_reducible refine SRow.put (by first | omega | (dsimp only; omega)) _ ?_)
    · have hB := B2.out
      repeat (first | with_reducible exact Below.refl _ _ | with_reducible assumption | with_reducible refine Below.setCell ?_ (by first | omega | (dsimp only; omega) | (simp <;> omega)) _ | with_reducible refine Below.alloc ?_ (by first | omega | (simp <;> omega)) _ | with_reducible refine bstep ?_ (by with_reducible assumption) | with_reducible refine Below.drew ?_)
  · have HA := Lib.hid (mvA_out (tx := tx) (ty := ty) P.out hs)
    have hs2 : s < 0 ∨ (w : Int) ≤ s := by omega
    clear hs
    go_enter Try.func31, Try.ntmps31
    go_wp2_with fail
    with_reducible refine (friValid_any _ _ (R.out.call (by repeat (first | with_reducible exact Below.refl _ _ | with_reducible assumption | with_reducible refine Below.setCell ?_ (by first | omega | (dsimp only; omega) | (simp <;> omega)) _ | with_reducible refine Below.alloc ?_ (by first | omega | (simp <;> omega)) _ | with_reducible refine bstep ?_ (by with_reducible assumption) | with_reducible refine Below.drew ?_)))).mono ?_
    rintro e w1 ⟨rfl, hb1⟩
    rw [hf]
    have HB := Lib.hid (show Below W.heap.size W w1 from bstep (by repeat (first | with_reducible exact Below.refl _ _ | with_reducible assumption | with_reducible refine Below.setCell ?_ (by first | omega | (dsimp only; omega) | (simp <;> omega)) _ | with_reducible refine Below.alloc ?_ (by first | omega | (simp <;> omega)) _ | with_reducible refine bstep ?_ (by with_reducible assumption) | with_reducible refine Below.drew ?_)) hb1)
    have KC1 : KF (W.heap.size + 2) 0 0 (.slice none 0 0) w1 := (KF.at (w := ((W.alloc (.cells #[.int .i64 (h : Int), .int .i64 (w : Int), .slice ao n cap] 26)).alloc (.cells #[.bool tx, .bool ty, .int .i64 s] 53))) _ (by simp)).call hb1
    have kc0 := KC1.c0
    have kc1 := KC1.c1
    have kc2 := KC1.c2
    have kcf0 := KC1.f0
    have kcf1 := KC1.f1
    have kcf2 := KC1.f2
    have kcl := KC1.lt
    have k1 := bcell hb1
    have z1 := lt_alloc hb1
    clear KC1
    rcases hs2 with hs2 | hs2
    · go_wp2
      refine bodyPost_ret (v := .tuple #[.agg #[.int .i64 0, .int .i64 0, .slice none 0 0], .int .i64 2]) (by simp [results, Try.results31, go_sem, *]) rfl ⟨_, _, _, _, _, _, HA.out, rfl, ?_, ?_⟩
      · exact SRow.zero _ _ _
      · have hB := HB.out
        repeat (first | with_reducible exact Below.refl _ _ | with_reducible assumption | with_reducible refine Below.setCell ?_ (by first | omega | (dsimp only; omega) | (simp <;> omega)) _ | with_reducible refine Below.alloc ?_ (by first | omega | (simp <;> omega)) _ | with_reducible refine bstep ?_ (by with_reducible assumption) | with_reducible refine Below.drew ?_)
    · have hs3 : ¬ s < 0 := by omega
      go_wp2
      refine bodyPost_ret (v := .tuple #[.agg #[.int .i64 0, .int .i64 0, .slice none 0 0], .int .i64 2]) (by simp [results, Try.results31, go_sem, *]) rfl ⟨_, _, _, _, _, _, HA.out, rfl, ?_, ?_⟩
      · exact SRow.zero _ _ _
      · have hB := HB.out
        repeat (first | with_reducible exact Below.refl _ _ | with_reducible assumption | with_reducible refine Below.setCell ?_ (by first | omega | (dsimp only; omega) | (simp <;> omega)) _ | with_reducible refine Below.alloc ?_ (by first | omega | (simp <;> omega)) _ | with_reducible refine bstep ?_ (by with_reducible assumption) | with_reducible refine Below.drew ?_)
end Go.Proofs.Ytajmfeppnhkcdaa
