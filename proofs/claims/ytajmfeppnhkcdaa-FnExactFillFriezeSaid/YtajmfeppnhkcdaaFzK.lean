/-
  Friezes and their motions as blocks of cells, an argument that is a slice of numbers, and the laws' helpers on friezes. Conditions: only the lengths that are stated.
-/
import Derived.Test.YtajmfeppnhkcdaaSl1
import Derived.Test.YtajmfeppnhkcdaaFzF
import Derived.Test.YtajmfeppnhkcdaaFzR
import Derived.Lib.SmallJoins
import Derived.Deep.Slices
import Derived.Laws.Rows
import Derived.Laws.Tables
namespace Go.Proofs.Ytajmfeppnhkcdaa
open Go.RowKit Go.ChangeShapes Go.WideShapes Go.ChangeAt Go.Joins Go.Deep Go.WideElems
set_option linter.unusedSimpArgs false
set_option linter.unusedVariables false

/- a frieze in a block -/
structure Kf (g : Nat) (a b : Int) (v : Value) (W : World) : Prop where
  lt : g < W.heap.size
  c0 : W.cell? ⟨g, 0, none⟩ = some (.int .i64 a)
  c1 : W.cell? ⟨g, 1, none⟩ = some (.int .i64 b)
  c2 : W.cell? ⟨g, 2, none⟩ = some v
theorem Kf.cells {g : Nat} {a b : Int} {v : Value} {W : World} (h : Kf g a b v W) : W.cell? ⟨g, 0, none⟩ = some (.int .i64 a) ∧ W.cell? ⟨g, 1, none⟩ = some (.int .i64 b) ∧ W.cell? ⟨g, 2, none⟩ = some v := ⟨h.c0, h.c1, h.c2⟩
theorem Kf.grow {g B : Nat} {a b : Int} {v : Value} {W w1 : World} (h : Kf g a b v W) (hb : Below B W w1) (hg : g < B) : Kf g a b v w1 :=
  ⟨Nat.lt_of_lt_of_le h.lt hb.size, by rw [hb.cell (p := ⟨g, 0, none⟩) hg]; exact h.c0, by rw [hb.cell (p := ⟨g, 1, none⟩) hg]; exact h.c1, by rw [hb.cell (p := ⟨g, 2, none⟩) hg]; exact h.c2⟩
theorem Kf.call {g : Nat} {a b : Int} {v : Value} {W w1 : World} (h : Kf g a b v W) (hb : Below W.heap.size W w1) : Kf g a b v w1 := h.grow hb h.lt
theorem Kf.alloc {g : Nat} {a b : Int} {v : Value} {W : World} (h : Kf g a b v W) (o : Obj) : Kf g a b v (W.alloc o) := h.call ((Below.refl _ _).alloc (Nat.le_refl _) _)
theorem Kf.drew {g : Nat} {a b : Int} {v : Value} {W : World} (h : Kf g a b v W) : Kf g a b v W.drew := h.call (Below.refl _ _).drew
theorem Kf.at {w : World} {a b : Int} {v : Value} {T : TypeId} (R : Nat) (hR : R = w.heap.size) : Kf R a b v (w.alloc (.cells #[.int .i64 a, .int .i64 b, v] T)) := by
  subst hR
  refine ⟨by simp, ?_, ?_, ?_⟩ <;> simp [go_sem]
theorem Kf.far {g : Nat} {a b : Int} {v : Value} {W : World} {q : Addr} {u : Value} (hq : q.block ≠ g) (h : Kf g a b v W) : Kf g a b v (W.setCell q u) := by
  have hh : (W.setCell q u).heap[g]? = W.heap[g]? := Below.heap_setCell _ _ _ _ (by omega)
  exact ⟨by simpa [World.setCell] using h.lt, (World.cell?_of_block (w := W) hh).trans h.c0, (World.cell?_of_block (w := W) hh).trans h.c1, (World.cell?_of_block (w := W) hh).trans h.c2⟩
/- a frieze in a block that may be written -/
structure KF (g : Nat) (a b : Int) (v : Value) (W : World) : Prop where
  lt : g < W.heap.size
  c0 : W.cell? ⟨g, 0, none⟩ = some (.int .i64 a)
  c1 : W.cell? ⟨g, 1, none⟩ = some (.int .i64 b)
  c2 : W.cell? ⟨g, 2, none⟩ = some v
  f0 : W.frozen? ⟨g, 0, none⟩ = false
  f1 : W.frozen? ⟨g, 1, none⟩ = false
  f2 : W.frozen? ⟨g, 2, none⟩ = false
theorem KF.cells {g : Nat} {a b : Int} {v : Value} {W : World} (h : KF g a b v W) : W.cell? ⟨g, 0, none⟩ = some (.int .i64 a) ∧ W.cell? ⟨g, 1, none⟩ = some (.int .i64 b) ∧ W.cell? ⟨g, 2, none⟩ = some v := ⟨h.c0, h.c1, h.c2⟩
theorem KF.grow {g B : Nat} {a b : Int} {v : Value} {W w1 : World} (h : KF g a b v W) (hb : Below B W w1) (hg : g < B) : KF g a b v w1 :=
  ⟨Nat.lt_of_lt_of_le h.lt hb.size, by rw [hb.cell (p := ⟨g, 0, none⟩) hg]; exact h.c0, by rw [hb.cell (p := ⟨g, 1, none⟩) hg]; exact h.c1, by rw [hb.cell (p := ⟨g, 2, none⟩) hg]; exact h.c2, by rw [hb.frozen (p := ⟨g, 0, none⟩) hg]; exact h.f0, by rw [hb.frozen (p := ⟨g, 1, none⟩) hg]; exact h.f1, by rw [hb.frozen (p := ⟨g, 2, none⟩) hg]; exact h.f2⟩
theorem KF.call {g : Nat} {a b : Int} {v : Value} {W w1 : World} (h : KF g a b v W) (hb : Below W.heap.size W w1) : KF g a b v w1 := h.grow hb h.lt
theorem KF.alloc {g : Nat} {a b : Int} {v : Value} {W : World} (h : KF g a b v W) (o : Obj) : KF g a b v (W.alloc o) := h.call ((Below.refl _ _).alloc (Nat.le_refl _) _)
theorem KF.drew {g : Nat} {a b : Int} {v : Value} {W : World} (h : KF g a b v W) : KF g a b v W.drew := h.call (Below.refl _ _).drew
theorem KF.at {w : World} {a b : Int} {v : Value} {T : TypeId} (R : Nat) (hR : R = w.heap.size) : KF R a b v (w.alloc (.cells #[.int .i64 a, .int .i64 b, v] T)) := by
  subst hR
  refine ⟨by simp, ?_, ?_, ?_, ?_, ?_, ?_⟩ <;> simp [go_sem]
theorem KF.far {g : Nat} {a b : Int} {v : Value} {W : World} {q : Addr} {u : Value} (hq : q.block ≠ g) (h : KF g a b v W) : KF g a b v (W.setCell q u) := by
  have hh : (W.setCell q u).heap[g]? = W.heap[g]? := Below.heap_setCell _ _ _ _ (by omega)
  exact ⟨by simpa [World.setCell] using h.lt, (World.cell?_of_block (w := W) hh).trans h.c0, (World.cell?_of_block (w := W) hh).trans h.c1, (World.cell?_of_block (w := W) hh).trans h.c2, (World.frozen?_of_block (w := W) hh).trans h.f0, (World.frozen?_of_block (w := W) hh).trans h.f1, (World.frozen?_of_block (w := W) hh).trans h.f2⟩
theorem KF.store0 {g : Nat} {a b : Int} {v : Value} {W : World} (h : KF g a b v W) (u : Int) : KF g u b v (W.setCell ⟨g, 0, none⟩ (.int .i64 u)) := by
  obtain ⟨h0, h1, h2, h3, h4, h5, h6⟩ := h
  refine ⟨by simpa [World.setCell] using h0, ?_, ?_, ?_, ?_, ?_, ?_⟩ <;> simp [go_sem, *]
theorem KF.store1 {g : Nat} {a b : Int} {v : Value} {W : World} (h : KF g a b v W) (u : Int) : KF g a u v (W.setCell ⟨g, 1, none⟩ (.int .i64 u)) := by
  obtain ⟨h0, h1, h2, h3, h4, h5, h6⟩ := h
  refine ⟨by simpa [World.setCell] using h0, ?_, ?_, ?_, ?_, ?_, ?_⟩ <;> simp [go_sem, *]
theorem KF.store2 {g : Nat} {a b : Int} {v : Value} {W : World} (h : KF g a b v W) (u : Value) : KF g a b u (W.setCell ⟨g, 2, none⟩ u) := by
  obtain ⟨h0, h1, h2, h3, h4, h5, h6⟩ := h
  refine ⟨by simpa [World.setCell] using h0, ?_, ?_, ?_, ?_, ?_, ?_⟩ <;> simp [go_sem, *]
theorem KF.store {g : Nat} {a b : Int} {v : Value} {W : World} (h : KF g a b v W) (a' b' : Int) (v' : Value) : KF g a' b' v' (((W.setCell ⟨g, 0, none⟩ (.int .i64 a')).setCell ⟨g, 1, none⟩ (.int .i64 b')).setCell ⟨g, 2, none⟩ v') := ((h.store0 a').store1 b').store2 v'

theorem add_block (a : Addr) (n : Nat) : (a.add n).block = a.block := by unfold Addr.add; split <;> rfl
/- a slice of numbers that came in -/
def ARw (v : Value) (n : Nat) (F : Nat → Int) (W : World) : Prop :=
  ∃ ao cap, v = .slice ao n cap ∧ ∀ t, t < n → ∃ a, ao = some a ∧ a.block < W.heap.size ∧ W.cell? (a.add t) = some (.int .i64 (F t))
theorem ARw.call {v : Value} {n : Nat} {F : Nat → Int} {W w1 : World} (h : ARw v n F W) (hb : Below W.heap.size W w1) : ARw v n F w1 := by
  obtain ⟨ao, cap, rfl, h⟩ := h
  refine ⟨ao, cap, rfl, fun t ht => ?_⟩
  obtain ⟨a, rfl, h1, h2⟩ := h t ht
  exact ⟨a, rfl, Nat.lt_of_lt_of_le h1 hb.size, by rw [hb.cell (p := a.add t) (by rw [add_block]; exact h1)]; exact h2⟩
theorem ARw.alloc {v : Value} {n : Nat} {F : Nat → Int} {W : World} (h : ARw v n F W) (o : Obj) : ARw v n F (W.alloc o) := h.call ((Below.refl _ _).alloc (Nat.le_refl _) _)

set_option maxHeartbeats 1000000 in
theorem szInt_any (ao : Option Addr) (n cap : Nat) (z : Int) (w : World) (hn : n ≤ 9223372036854775807) (hz : 0 ≤ z ∧ z ≤ 1048576) :
    Calls Try.prog 40 #[.slice ao n cap, .int .i64 z] w fun e w' => e = .returned (.int .i64 (if (n : Int) ≤ z then z - n else -1)) ∧ Below w.heap.size w w' := by
  have hn2 : (n : Int) ≤ 9223372036854775807 := by omega
  by_cases h : (n : Int) ≤ z
  · rw [if_pos h]
    go_enter Try.func40, Try.ntmps40
    go_wp2
    go_ret
    exact ⟨rfl, Below.refl _ _⟩
  · rw [if_neg h]
    go_enter Try.func40, Try.ntmps40
    go_wp2
    go_ret
    exact ⟨rfl, Below.refl _ _⟩
set_option maxHeartbeats 2000000 in
theorem szFr_any (a b : Int) (ao : Option Addr) (n cap : Nat) (z : Int) (w : World) (hn : n ≤ 9223372036854775807) (hz : 0 ≤ z ∧ z ≤ 1048576) :
    Calls Try.prog 8 #[.agg #[.int .i64 a, .int .i64 b, .slice ao n cap], .int .i64 z] w fun e w' => e = .returned (.int .i64 (if (n : Int) ≤ z then z - n else -1)) ∧ Below w.heap.size w w' := by
  have hn2 : (n : Int) ≤ 9223372036854775807 := by omega
  by_cases h : (n : Int) ≤ z
  · rw [if_pos h]
    have hz2 := hz.2
    go_enter Try.func8, Try.ntmps8
    go_wp2_with fail
    refine (szInt_any ao n cap z _ hn hz).mono ?_
    rintro e w1 ⟨rfl, hb1⟩
    rw [if_pos h]
    go_wp2
    go_ret
    exact ⟨rfl, bstep ((Below.refl _ _).alloc (Nat.le_refl _) _) hb1⟩
  · rw [if_neg h]
    have H := Lib.hid h
    go_enter Try.func8, Try.ntmps8
    go_wp2_with fail
    refine (szInt_any ao n cap z _ hn hz).mono ?_
    rintro e w1 ⟨rfl, hb1⟩
    rw [if_neg (show ¬ ((n : Int) ≤ z) by have := H.out; omega)]
    go_wp2
    go_ret
    exact ⟨rfl, bstep ((Below.refl _ _).alloc (Nat.le_refl _) _) hb1⟩

theorem infoI64 : (Try.prog.info? 2).map (fun i => (i.zero, i.size, i.bytes)) = some (some (.int .i64 0), 1, 8) := by kernel_rfl
theorem made1_int (n : Nat) : ∀ u ∈ (madeCells (Value.cells (.int .i64 0)) (n * 1)).toList, ∃ z, u = .int .i64 z := by
  intro u hu
  unfold madeCells at hu
  simp only [Value.cells] at hu
  rw [Array.mem_toList_iff, Array.mem_map] at hu
  obtain ⟨i, _, rfl⟩ := hu
  have h : ∀ j, j < 1 → ∃ z, (#[Value.int .i64 0] : Array Value)[j]! = .int .i64 z := by
    intro j hj
    have : j = 0 := by omega
    subst this
    exact ⟨0, rfl⟩
  exact h _ (Nat.mod_lt _ (by simp))
theorem add_pos (q : Addr) (j : Nat) (h : j ≠ 0) : q.add j = ⟨q.block, q.off + j, none⟩ := by unfold Addr.add; rw [if_neg h]
set_option maxRecDepth 100000 in
set_option maxHeartbeats 8000000 in
theorem toInt_any {v : Value} {n : Nat} {F : Nat → Int} {w : World} (h : ARw v n F w) (hn : n ≤ 1048576) :
    Calls Try.prog 44 #[v] w fun e w' => ∃ v' : Value, e = .returned v' ∧ SRow w.heap.size w'.heap.size 1 v' n F w' ∧ Below w.heap.size w w' := by
  obtain ⟨i0, hinf, hz0, hz1, hz2⟩ := info_parts infoI64
  have HA := Lib.hid h
  obtain ⟨ao, cap, rfl, _⟩ := h
  have HN := Lib.hid hn
  have hn2 : (n : Int) ≤ 1048576 := by omega
  clear hn
  go_enter Try.func44, Try.ntmps44
  go_wp2_with (refine wpList_make_full _ rfl _ _ _ rfl w.heap.size 2 i0 (.int .i64 0) 1 Try.underlying22 hinf hz0 hz1 .i64 .i64 _ _ n rfl rfl rfl rfl (by rw [hz2]; have := HN.out; omega) (by have := HN.out; unfold maxLen; omega) (Nat.le_refl _) ?_; intro w1 hown1 hgr1)
  have B1 : Below w.heap.size w w1 := Below.grown (Below.refl _ _) hgr1 (by omega) (fun r hr => by cases hr)
  have S1 : ∃ F, IRow w.heap.size (n * 1) F w1 ∧ w.heap.size < w1.heap.size := by
    have hl := hown1.lt w.heap.size rfl
    refine ⟨intAt (madeCells (Value.cells (.int .i64 0)) (n * 1)).toList, ⟨hl.2, fun t ht => ⟨?_, hown1.frozenAt t⟩⟩, hl.2⟩
    rw [hown1.cellAt t ht]
    exact intAt_eq (made1_int _) (by rw [hown1.1]; exact ht)
  obtain ⟨F0, R1, hg1⟩ := S1
  clear hown1 hgr1
  go_wp2_with fail
  go_loopw [4] (fun s4 W => ∃ k : Nat, s4 = .int .i64 (k : Int) ∧ k ≤ n ∧ IRow w.heap.size (n * 1) (fun t => if t < k then F t else F0 t) W ∧ Below w.heap.size w W) (fun s4 _ => n - (intOf s4).toNat)
  case atStart => exact ⟨0, rfl, by omega, R1.ext (fun t _ => by simp), B1⟩
  case round =>
    clear R1 B1 hg1
    obtain ⟨k, rfl, hk, r1, hB⟩ := hrel
    by_cases hk1 : k < n
    · have hk2 : (k : Int) < (n : Int) := by omega
      have hkx : (k : Int) ≤ 1048576 := by omega
      have HAw := HA.out.call hB
      obtain ⟨ao', cap', e9, hcell⟩ := HAw
      simp only [Value.slice.injEq, true_and] at e9
      obtain ⟨rfl, rfl⟩ := e9
      obtain ⟨aa, rfl, hab, hc0⟩ := hcell k (by omega)
      clear hcell
      have HK := Lib.hid hk1
      have RR := Lib.hid r1
      have hgl := r1.1
      have c0 := r1.at k (by omega)
      have f0 := r1.free k (by omega)
      clear r1
      obtain ⟨a, ha⟩ : ∃ a, a = F k := ⟨_, rfl⟩
      rw [← ha] at hc0
      have HV := Lib.hid ha
      clear ha
      have zB := hB.size
      have HB := Lib.hid hB
      clear hB
      generalize (fun t => if t < k then F t else F0 t) k = z0 at c0
      go_wp2
      go_roundw
      case rel =>
        refine ⟨k + 1, by go_num, by have := HK.out; omega, (RR.out.put k (by have := HK.out; omega) _).ext ?_, HB.out.setCell (Nat.le_refl _) _⟩
        have hv := HV.out
        intro t ht
        by_cases e0 : t = k
        · subst e0; simp [hv]
        by_cases el : t < k
        · have el2 : t < k + 1 := by omega
          simp [e0, el, el2]
        · have el2 : ¬ t < k + 1 := by omega
          simp [e0, el, el2]
      case measure => (have := HK.out); first | (simp [intOf]; done) | (simp [intOf]; omega)
    · obtain rfl : k = n := by omega
      go_wp2
      go_ret
      exact ⟨_, rfl, ⟨Nat.le_refl _, by have := HN.out; omega, .inr ⟨_, _, rfl, Nat.le_refl _, r1.1, r1.ext (fun t ht => by simp [show t < k by omega])⟩⟩, hB⟩

theorem SRow.slice {lo hi K n : Nat} {F : Nat → Int} {v : Value} {W : World} (h : SRow lo hi K v n F W) : ∃ ao cap, v = .slice ao n cap := by
  rcases h.2.2 with ⟨rfl, ao, cap, rfl⟩ | ⟨g, cap, rfl, _⟩
  · exact ⟨ao, cap, rfl⟩
  · exact ⟨_, cap, rfl⟩
theorem SRow.low {lo lo' hi K n : Nat} {F : Nat → Int} {v : Value} {W : World} (h : SRow lo hi K v n F W) (hl : lo' ≤ lo) : SRow lo' hi K v n F W := by
  obtain ⟨e1, e2, e3⟩ := h
  refine ⟨e1, e2, e3.imp id ?_⟩
  rintro ⟨g, cap, rfl, hg, hg2, r⟩
  exact ⟨g, cap, rfl, Nat.le_trans hl hg, hg2, r⟩
theorem SRow.high {lo hi hi' K n : Nat} {F : Nat → Int} {v : Value} {W : World} (h : SRow lo hi K v n F W) (h1 : hi ≤ hi') (h2 : hi' ≤ W.heap.size) : SRow lo hi' K v n F W := by
  obtain ⟨e1, e2, e3⟩ := h
  refine ⟨h2, e2, e3.imp id ?_⟩
  rintro ⟨g, cap, rfl, hg, hg2, r⟩
  exact ⟨g, cap, rfl, hg, Nat.lt_of_lt_of_le hg2 h1, r⟩
theorem IRow.far {g N : Nat} {F : Nat → Int} {W : World} {q : Addr} {u : Value} (hq : q.block ≠ g) (h : IRow g N F W) : IRow g N F (W.setCell q u) := by
  have hh : (W.setCell q u).heap[g]? = W.heap[g]? := Below.heap_setCell _ _ _ _ (by omega)
  exact ⟨by simpa [World.setCell] using h.1, fun t ht => ⟨(World.cell?_of_block (w := W) hh).trans (h.2 t ht).1, (World.frozen?_of_block (w := W) hh).trans (h.2 t ht).2⟩⟩
theorem SRow.put {lo hi K n : Nat} {F : Nat → Int} {v : Value} {W : World} {q : Addr} (hq : q.block < lo) (u : Value) (h : SRow lo hi K v n F W) : SRow lo hi K v n F (W.setCell q u) := by
  obtain ⟨e1, e2, e3⟩ := h
  refine ⟨by simpa [World.setCell] using e1, e2, e3.imp id ?_⟩
  rintro ⟨g, cap, rfl, hg, hg2, r⟩
  exact ⟨g, cap, rfl, hg, hg2, r.far (by omega)⟩
theorem SRow.up {lo hi K n : Nat} {F : Nat → Int} {v : Value} {W : World} (h : SRow lo hi K v n F W) : SRow lo W.heap.size K v n F W := h.high h.1 (Nat.le_refl _)
set_option maxHeartbeats 4000000 in
theorem toFr_any {v : Value} {n : Nat} {F : Nat → Int} {w : World} (a b : Int) (h : ARw v n F w) (hn : n ≤ 1048576) :
    Calls Try.prog 10 #[.agg #[.int .i64 a, .int .i64 b, v]] w fun e w' => ∃ v' : Value, e = .returned (.agg #[.int .i64 a, .int .i64 b, v']) ∧ SRow w.heap.size w'.heap.size 1 v' n F w' ∧ Below w.heap.size w w' := by
  have HA := Lib.hid h
  clear h
  go_enter Try.func10, Try.ntmps10
  go_wp2_with fail
  refine (toInt_any ((HA.out).call ?_) hn).mono ?_
  · repeat (first | exact Below.refl _ _ | refine Below.setCell ?_ (by first | omega | (simp <;> omega)) _ | refine Below.alloc ?_ (by first | omega | (simp <;> omega)) _)
  rintro e w1 ⟨v', rfl, r1, hb1⟩
  have k1 := bcell hb1
  have z1 := hb1.size
  have hB : Below w.heap.size w w1 := by
    repeat (first | with_reducible exact Below.refl _ _ | with_reducible assumption | with_reducible refine Below.setCell ?_ (by first | omega | (simp <;> omega)) _ | with_reducible refine Below.alloc ?_ (by first | omega | (simp <;> omega)) _ | with_reducible refine bstep ?_ (by with_reducible assumption) | with_reducible refine Below.drew ?_)
  have HR := Lib.hid (r1.low (lo' := w.heap.size + 3) (by simp))
  obtain ⟨ao', cap', rfl⟩ := r1.slice
  clear r1
  have HB := Lib.hid hB
  have hz1 := Lib.hid (show w.heap.size + 3 ≤ w1.heap.size by simpa using z1)
  have g1 : w.heap.size + 2 < w1.heap.size := by have := hz1.out; omega
  have g2 : w.heap.size + 1 < w1.heap.size := by have := hz1.out; omega
  clear z1 hb1 hB
  go_wp2
  refine bodyPost_ret (v := .agg #[.int .i64 a, .int .i64 b, .slice ao' n cap']) (by simp [results, Try.results10, go_sem, *]) rfl ⟨_, rfl, ?_, ?_⟩
  · refine SRow.up (hi := w1.heap.size) (SRow.low (lo := w.heap.size + 3) ?_ (by omega))
    repeat (first | with_reducible exact HR.out | with_reducible refine SRow.put (by first | omega | (dsimp only; omega)) _ ?_)
  · repeat (first | with_reducible exact Below.refl _ _ | with_reducible assumption | with_reducible exact HB.out | with_reducible refine Below.setCell ?_ (by first | omega | (simp <;> omega)) _ | with_reducible refine Below.alloc ?_ (by first | omega | (simp <;> omega)) _ | with_reducible refine bstep ?_ (by with_reducible assumption) | with_reducible refine Below.drew ?_)
set_option maxHeartbeats 4000000 in
theorem eqFr_any {lo hi lo' hi' n : Nat} {v v' : Value} {F : Nat → Int} {w : World} (a b : Int) (h1 : SRow lo hi 1 v n F w) (h2 : SRow lo' hi' 1 v' n F w) :
    Calls Try.prog 12 #[.agg #[.int .i64 a, .int .i64 b, v], .agg #[.int .i64 a, .int .i64 b, v']] w fun e w' => e = .returned (.bool true) ∧ Below w.heap.size w w' := by
  have R1 := Lib.hid h1
  have R2 := Lib.hid h2
  obtain ⟨ao, cap, rfl⟩ := h1.slice
  obtain ⟨ao', cap', rfl⟩ := h2.slice
  clear h1 h2
  go_enter Try.func12, Try.ntmps12
  go_wp2_with fail
  refine (eqInt64S_any (R1.out.call ?_) (R2.out.call ?_)).mono ?_
  · repeat (first | with_reducible exact Below.refl _ _ | with_reducible assumption | with_reducible exact HB.out | with_reducible refine Below.setCell ?_ (by first | omega | (simp <;> omega)) _ | with_reducible refine Below.alloc ?_ (by first | omega | (simp <;> omega)) _ | with_reducible refine bstep ?_ (by with_reducible assumption) | with_reducible refine Below.drew ?_)
  · repeat (first | with_reducible exact Below.refl _ _ | with_reducible assumption | with_reducible exact HB.out | with_reducible refine Below.setCell ?_ (by first | omega | (simp <;> omega)) _ | with_reducible refine Below.alloc ?_ (by first | omega | (simp <;> omega)) _ | with_reducible refine bstep ?_ (by with_reducible assumption) | with_reducible refine Below.drew ?_)
  rintro e w1 ⟨rfl, hb1⟩
  go_wp2
  go_ret
  exact ⟨rfl, bstep (by repeat (first | with_reducible exact Below.refl _ _ | with_reducible assumption | with_reducible exact HB.out | with_reducible refine Below.setCell ?_ (by first | omega | (simp <;> omega)) _ | with_reducible refine Below.alloc ?_ (by first | omega | (simp <;> omega)) _ | with_reducible refine bstep ?_ (by with_reducible assumption) | with_reducible refine Below.drew ?_)) hb1⟩
/- a block that is not the one of a slice that holds something -/
def offB (v : Value) (b : Nat) : Prop := ∀ n cap, v = .slice (some ⟨b, 0, none⟩) n cap → n = 0
/- the old blocks are as they were, but the one of a slice -/
def KeepV (v : Value) (W W' : World) : Prop := ∀ b, offB v b → b < W.heap.size → W'.heap[b]? = W.heap[b]?
theorem SRow.off {lo hi K n b : Nat} {v : Value} {F : Nat → Int} {W : World} (h : SRow lo hi K v n F W) (hb : b < lo ∨ hi ≤ b) : offB v b := by
  intro n' cap' e
  rcases h.2.2 with ⟨rfl, ao, cap, rfl⟩ | ⟨g, cap, rfl, h1, h2, _⟩
  · simp only [Value.slice.injEq] at e; exact e.2.1.symm
  · simp only [Value.slice.injEq, Option.some.injEq, Addr.mk.injEq] at e
    omega
theorem SRow.keepV {lo' hi' K n : Nat} {u v : Value} {F : Nat → Int} {W w1 : World} (h : SRow lo' hi' K v n F W) (hk : KeepV u W w1) (ho : ∀ b, lo' ≤ b → b < hi' → offB u b) (hs : W.heap.size ≤ w1.heap.size) : SRow lo' hi' K v n F w1 := by
  obtain ⟨h1, h2, h3⟩ := h
  refine ⟨Nat.le_trans h1 hs, h2, ?_⟩
  rcases h3 with h3 | ⟨g, cap, rfl, hg, hg2, r⟩
  · exact .inl h3
  · have hh := hk g (ho g hg hg2) (by omega)
    refine .inr ⟨g, cap, rfl, hg, hg2, Nat.lt_of_lt_of_le r.1 hs, fun t ht => ⟨(World.cell?_of_block (w := W) hh).trans (r.at t ht), (World.frozen?_of_block (w := W) hh).trans (r.free t ht)⟩⟩
theorem Kf.keepV {g : Nat} {a b : Int} {u v : Value} {W w1 : World} (h : Kf g a b v W) (hk : KeepV u W w1) (ho : offB u g) (hs : W.heap.size ≤ w1.heap.size) : Kf g a b v w1 := by
  have hh := hk g ho h.lt
  exact ⟨Nat.lt_of_lt_of_le h.lt hs, (World.cell?_of_block (w := W) hh).trans h.c0, (World.cell?_of_block (w := W) hh).trans h.c1, (World.cell?_of_block (w := W) hh).trans h.c2⟩
theorem KF.kf {g : Nat} {a b : Int} {v : Value} {W : World} (h : KF g a b v W) : Kf g a b v W := ⟨h.lt, h.c0, h.c1, h.c2⟩
set_option maxHeartbeats 4000000 in
theorem markInt_any {lo hi n : Nat} {v : Value} {F : Nat → Int} {w : World} (h : SRow lo hi 1 v n F w) :
    Calls Try.prog 49 #[v, .int .i64 1] w fun e w' => e = .returned (.int .i64 ((n : Int) * 1 + 1)) ∧ SRow lo hi 1 v n mark1 w' ∧ Below lo w w' ∧ KeepV v w w' := by
  obtain ⟨hh, hm, h1⟩ := h
  by_cases hn : n = 0
  · subst hn
    obtain ⟨ao, cap, rfl⟩ : ∃ ao cap, v = .slice ao 0 cap := by
      rcases h1 with ⟨_, ao, cap, rfl⟩ | ⟨g, cap, rfl, _⟩
      · exact ⟨ao, cap, rfl⟩
      · exact ⟨_, cap, rfl⟩
    clear h1
    go_enter Try.func49, Try.ntmps49
    go_wp2_with fail
    go_loopw [1, 5] (fun q i W => q = .int .i64 1 ∧ i = .int .i64 ((0 : Nat) : Int) ∧ W = w) (fun _ _ _ => 0)
    case atStart => exact ⟨rfl, rfl, rfl⟩
    case round =>
      obtain ⟨rfl, rfl, rfl⟩ := hrel
      go_wp2
      go_ret
      exact ⟨rfl, ⟨hh, hm, .inl ⟨rfl, ao, cap, rfl⟩⟩, Below.refl _ _, fun _ _ _ => rfl⟩
  · obtain ⟨g, cap, rfl, hlo, hhi, r1⟩ := h1.resolve_left (fun h => hn h.1)
    clear h1
    have HM := Lib.hid hm
    clear hm hn
    have R1 := Lib.hid r1
    clear r1
    have HH := Lib.hid (show hi ≤ w.heap.size ∧ lo ≤ g ∧ g < hi from ⟨hh, hlo, hhi⟩)
    clear hh hlo hhi
    go_enter Try.func49, Try.ntmps49
    go_wp2_with fail
    go_loopw [1, 5] (fun q i W => ∃ k : Nat, q = .int .i64 ((k : Int) + 1) ∧ i = .int .i64 (k : Int) ∧ k ≤ n ∧ IRow g (n * 1) (fun t => if t < k then mark1 t else F t) W ∧ Below lo w W ∧ KeepV (.slice (some ⟨g, 0, none⟩) n cap) w W) (fun _ i _ => n - (intOf i).toNat)
    case atStart => exact ⟨0, rfl, rfl, by omega, R1.out.ext (fun t _ => by simp), Below.refl _ _, fun _ _ _ => rfl⟩
    case round =>
      obtain ⟨k, rfl, rfl, hk, r1, hB, hKH⟩ := hrel
      by_cases hk1 : k < n
      · have hk2 : (k : Int) < (n : Int) := by omega
        have hmx := HM.out
        have hkx : (k : Int) ≤ 2000000 := by omega
        have c0 := r1.at k (by omega)
        have f0 := r1.free k (by omega)
        generalize (fun t => if t < k then mark1 t else F t) k = x at c0
        have RR := Lib.hid r1
        clear r1
        go_wp2
        go_roundw
        case rel =>
          refine ⟨k + 1, by go_num, by go_num, by omega, (RR.out.put k (by omega) _).ext ?_, hB.setCell HH.out.2.1 _, fun b ho hb => (Below.heap_setCell _ _ _ _ (by intro e9; dsimp only at e9; subst e9; have := ho n cap rfl; omega)).trans (hKH b ho hb)⟩
          intro t ht
          simp only [mark1]
          repeat' split
          all_goals first | omega | rfl
        case measure => first | (simp [intOf]; done) | (simp [intOf]; omega)
      · obtain rfl : k = n := by omega
        go_wp2
        go_ret
        exact ⟨ret_int (by omega), ⟨Nat.le_trans HH.out.1 hB.size, HM.out, .inr ⟨g, cap, rfl, HH.out.2.1, HH.out.2.2, r1.ext (fun t ht => by simp [show t < k by omega])⟩⟩, hB, hKH⟩

set_option maxHeartbeats 4000000 in
theorem markFr_any {lo hi n : Nat} {v : Value} {F : Nat → Int} {w : World} (a b : Int) (h : SRow lo hi 1 v n F w) (hl : lo ≤ hi) :
    Calls Try.prog 13 #[.agg #[.int .i64 a, .int .i64 b, v], .int .i64 1] w fun e w' => e = .returned (.int .i64 ((n : Int) * 1 + 1)) ∧ SRow lo hi 1 v n mark1 w' ∧ Below lo w w' ∧ KeepV v w w' := by
  have R1 := Lib.hid h
  have hn := h.2.1
  have hh := Lib.hid (show hi ≤ w.heap.size ∧ lo ≤ hi from ⟨h.1, hl⟩)
  obtain ⟨ao, cap, rfl⟩ := h.slice
  clear h hl
  go_enter Try.func13, Try.ntmps13
  go_wp2_with fail
  refine (markInt_any (R1.out.call ?_)).mono ?_
  · repeat (first | with_reducible exact Below.refl _ _ | with_reducible assumption | with_reducible refine Below.setCell ?_ (by first | omega | (simp <;> omega)) _ | with_reducible refine Below.alloc ?_ (by first | omega | (simp <;> omega)) _ | with_reducible refine bstep ?_ (by with_reducible assumption) | with_reducible refine Below.drew ?_)
  rintro e w1 ⟨rfl, r1, hb1, hk1⟩
  have R2 := Lib.hid r1
  have hB2 : Below lo w w1 := (show Below lo w _ from (Below.refl _ _).alloc (by have := hh.out; omega) _).trans hb1
  have HB := Lib.hid hB2
  have HK := Lib.hid (show KeepV (.slice ao n cap) w w1 from fun b h1 h2 => (hk1 b h1 (by simp; omega)).trans (((Below.refl w.heap.size w).alloc (Nat.le_refl _) _).block b h2))
  clear r1 hb1 hk1 hB2
  go_wp2
  go_ret
  exact ⟨ret_int (by omega), R2.out, HB.out, HK.out⟩
set_option maxHeartbeats 4000000 in
theorem heldFr_any {lo hi n : Nat} {v : Value} {w : World} (a b : Int) (h : SRow lo hi 1 v n mark1 w) :
    Calls Try.prog 14 #[.agg #[.int .i64 a, .int .i64 b, v], .int .i64 1] w fun e w' => e = .returned (.int .i64 ((n : Int) * 1 + 1)) ∧ Below w.heap.size w w' := by
  have R1 := Lib.hid h
  have hn := h.2.1
  obtain ⟨ao, cap, rfl⟩ := h.slice
  clear h
  go_enter Try.func14, Try.ntmps14
  go_wp2_with fail
  refine (heldInt64S_any (R1.out.call ?_)).mono ?_
  · repeat (first | with_reducible exact Below.refl _ _ | with_reducible assumption | with_reducible exact HB.out | with_reducible refine Below.setCell ?_ (by first | omega | (simp <;> omega)) _ | with_reducible refine Below.alloc ?_ (by first | omega | (simp <;> omega)) _ | with_reducible refine bstep ?_ (by with_reducible assumption) | with_reducible refine Below.drew ?_)
  rintro e w1 ⟨rfl, hb1⟩
  have hk : ¬ ((n : Int) * 1 + 1 < 0) := by omega
  go_wp2
  go_ret
  exact ⟨ret_int (by omega), bstep (by repeat (first | with_reducible exact Below.refl _ _ | with_reducible assumption | with_reducible exact HB.out | with_reducible refine Below.setCell ?_ (by first | omega | (simp <;> omega)) _ | with_reducible refine Below.alloc ?_ (by first | omega | (simp <;> omega)) _ | with_reducible refine bstep ?_ (by with_reducible assumption) | with_reducible refine Below.drew ?_)) hb1⟩
end Go.Proofs.Ytajmfeppnhkcdaa
