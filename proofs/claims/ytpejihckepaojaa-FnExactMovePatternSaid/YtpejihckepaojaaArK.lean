/-
  A slice of numbers that came in, its copy, and marks in it; colours of a list. Conditions: only the lengths that are stated.
-/
import Derived.Test.YtpejihckepaojaaSl1
import Derived.Lib.SmallJoins
import Derived.Deep.Slices
import Derived.Laws.Rows
import Derived.Laws.Tables
namespace Go.Proofs.Ytpejihckepaojaa
open Go.RowKit Go.ChangeShapes Go.WideShapes Go.ChangeAt Go.Joins Go.Deep Go.WideElems
set_option linter.unusedSimpArgs false
set_option linter.unusedVariables false

theorem add_block (a : Addr) (n : Nat) : (a.add n).block = a.block := by unfold Addr.add; split <;> rfl
def ARw (v : Value) (n : Nat) (F : Nat → Int) (W : World) : Prop :=
  ∃ ao cap, v = .slice ao n cap ∧ ∀ t, t < n → ∃ a, ao = some a ∧ a.block < W.heap.size ∧ W.cell? (a.add t) = some (.int .i64 (F t))
theorem ARw.call {v : Value} {n : Nat} {F : Nat → Int} {W w1 : World} (h : ARw v n F W) (hb : Below W.heap.size W w1) : ARw v n F w1 := by
  obtain ⟨ao, cap, rfl, h⟩ := h
  refine ⟨ao, cap, rfl, fun t ht => ?_⟩
  obtain ⟨a, rfl, h1, h2⟩ := h t ht
  exact ⟨a, rfl, Nat.lt_of_lt_of_le h1 hb.size, by rw [hb.cell (p := a.add t) (by rw [add_block]; exact h1)]; exact h2⟩
theorem ARw.alloc {v : Value} {n : Nat} {F : Nat → Int} {W : World} (h : ARw v n F W) (o : Obj) : ARw v n F (W.alloc o) := h.call ((Below.refl _ _).alloc (Nat.le_refl _) _)
set_option maxHeartbeats 1000000 in
theorem szInt_any (ao : Option Addr) (n cap : Nat) (z : Int) (w : World) (hn : n ≤ 9223372036854775807) (hz : 0 ≤ z ∧ z ≤ 1048576) :
    Calls Try.prog 29 #[.slice ao n cap, .int .i64 z] w fun e w' => e = .returned (.int .i64 (if (n : Int) ≤ z then z - n else -1)) ∧ Below w.heap.size w w' := by
  have hn2 : (n : Int) ≤ 9223372036854775807 := by omega
  by_cases h : (n : Int) ≤ z
  · rw [if_pos h]
    go_enter Try.func29, Try.ntmps29
    go_wp2
    go_ret
    exact ⟨rfl, Below.refl _ _⟩
  · rw [if_neg h]
    go_enter Try.func29, Try.ntmps29
    go_wp2
    go_ret
    exact ⟨rfl, Below.refl _ _⟩
theorem infoI64 : (Try.prog.info? 2).map (fun i => (i.zero, i.size, i.bytes)) = some (some (.int .i64 0), 1, 8) := by kernel_rfl
theorem made1_int (n : Nat) : ∀ u ∈ (madeCells (Value.cells (.int .i64 0)) (n * 1)).toList, ∃ z, u = .int .i64 z := by
  intro u hu
  unfold madeCells at hu
  simp only [Value.cells] at hu
  rw [Array.mem_toList_iff, Array.mem_map] at hu
  obtain ⟨i, _, rfl⟩ := hu
  have h : ∀ j, j < 1 → ∃ z, (#[Value.int .i64 0] : Array Value)[j]! = .int .i64 z := by
    intro j hj
    have : j = 0 := by omega
    subst this
    exact ⟨0, rfl⟩
  exact h _ (Nat.mod_lt _ (by simp))
theorem add_pos (q : Addr) (j : Nat) (h : j ≠ 0) : q.add j = ⟨q.block, q.off + j, none⟩ := by unfold Addr.add; rw [if_neg h]
set_option maxRecDepth 100000 in
set_option maxHeartbeats 8000000 in
theorem toInt_any {v : Value} {n : Nat} {F : Nat → Int} {w : World} (h : ARw v n F w) (hn : n ≤ 1048576) :
    Calls Try.prog 33 #[v] w fun e w' => ∃ v' : Value, e = .returned v' ∧ SRow w.heap.size w'.heap.size 1 v' n F w' ∧ Below w.heap.size w w' := by
  obtain ⟨i0, hinf, hz0, hz1, hz2⟩ := info_parts infoI64
  have HA := Lib.hid h
  obtain ⟨ao, cap, rfl, _⟩ := h
  have HN := Lib.hid hn
  have hn2 : (n : Int) ≤ 1048576 := by omega
  clear hn
  go_enter Try.func33, Try.ntmps33
  go_wp2_with (refine wpList_make_full _ rfl _ _ _ rfl w.heap.size 2 i0 (.int .i64 0) 1 Try.underlying24 hinf hz0 hz1 .i64 .i64 _ _ n rfl rfl rfl rfl (by rw [hz2]; have := HN.out; omega) (by have := HN.out; unfold maxLen; omega) (Nat.le_refl _) ?_; intro w1 hown1 hgr1)
  have B1 : Below w.heap.size w w1 := Below.grown (Below.refl _ _) hgr1 (by omega) (fun r hr => by cases hr)
  have S1 : ∃ F, IRow w.heap.size (n * 1) F w1 ∧ w.heap.size < w1.heap.size := by
    have hl := hown1.lt w.heap.size rfl
    refine ⟨intAt (madeCells (Value.cells (.int .i64 0)) (n * 1)).toList, ⟨hl.2, fun t ht => ⟨?_, hown1.frozenAt t⟩⟩, hl.2⟩
    rw [hown1.cellAt t ht]
    exact intAt_eq (made1_int _) (by rw [hown1.1]; exact ht)
  obtain ⟨F0, R1, hg1⟩ := S1
  clear hown1 hgr1
  go_wp2_with fail
  go_loopw [4] (fun s4 W => ∃ k : Nat, s4 = .int .i64 (k : Int) ∧ k ≤ n ∧ IRow w.heap.size (n * 1) (fun t => if t < k then F t else F0 t) W ∧ Below w.heap.size w W) (fun s4 _ => n - (intOf s4).toNat)
  case atStart => exact ⟨0, rfl, by omega, R1.ext (fun t _ => by simp), B1⟩
  case round =>
    clear R1 B1 hg1
    obtain ⟨k, rfl, hk, r1, hB⟩ := hrel
    by_cases hk1 : k < n
    · have hk2 : (k : Int) < (n : Int) := by omega
      have hkx : (k : Int) ≤ 1048576 := by omega
      have HAw := HA.out.call hB
      obtain ⟨ao', cap', e9, hcell⟩ := HAw
      simp only [Value.slice.injEq, true_and] at e9
      obtain ⟨rfl, rfl⟩ := e9
      obtain ⟨aa, rfl, hab, hc0⟩ := hcell k (by omega)
      clear hcell
      have HK := Lib.hid hk1
      have RR := Lib.hid r1
      have hgl := r1.1
      have c0 := r1.at k (by omega)
      have f0 := r1.free k (by omega)
      clear r1
      obtain ⟨a, ha⟩ : ∃ a, a = F k := ⟨_, rfl⟩
      rw [← ha] at hc0
      have HV := Lib.hid ha
      clear ha
      have zB := hB.size
      have HB := Lib.hid hB
      clear hB
      generalize (fun t => if t < k then F t else F0 t) k = z0 at c0
      go_wp2
      go_roundw
      case rel =>
        refine ⟨k + 1, by go_num, by have := HK.out; omega, (RR.out.put k (by have := HK.out; omega) _).ext ?_, HB.out.setCell (Nat.le_refl _) _⟩
        have hv := HV.out
        intro t ht
        by_cases e0 : t = k
        · subst e0; simp [hv]
        by_cases el : t < k
        · have el2 : t < k + 1 := by omega
          simp [e0, el, el2]
        · have el2 : ¬ t < k + 1 := by omega
          simp [e0, el, el2]
      case measure => (have := HK.out); first | (simp [intOf]; done) | (simp [intOf]; omega)
    · obtain rfl : k = n := by omega
      go_wp2
      go_ret
      exact ⟨_, rfl, ⟨Nat.le_refl _, by have := HN.out; omega, .inr ⟨_, _, rfl, Nat.le_refl _, r1.1, r1.ext (fun t ht => by simp [show t < k by omega])⟩⟩, hB⟩
theorem SRow.slice {lo hi K n : Nat} {F : Nat → Int} {v : Value} {W : World} (h : SRow lo hi K v n F W) : ∃ ao cap, v = .slice ao n cap := by
  rcases h.2.2 with ⟨rfl, ao, cap, rfl⟩ | ⟨g, cap, rfl, _⟩
  · exact ⟨ao, cap, rfl⟩
  · exact ⟨_, cap, rfl⟩
theorem SRow.low {lo lo' hi K n : Nat} {F : Nat → Int} {v : Value} {W : World} (h : SRow lo hi K v n F W) (hl : lo' ≤ lo) : SRow lo' hi K v n F W := by
  obtain ⟨e1, e2, e3⟩ := h
  refine ⟨e1, e2, e3.imp id ?_⟩
  rintro ⟨g, cap, rfl, hg, hg2, r⟩
  exact ⟨g, cap, rfl, Nat.le_trans hl hg, hg2, r⟩
theorem SRow.high {lo hi hi' K n : Nat} {F : Nat → Int} {v : Value} {W : World} (h : SRow lo hi K v n F W) (h1 : hi ≤ hi') (h2 : hi' ≤ W.heap.size) : SRow lo hi' K v n F W := by
  obtain ⟨e1, e2, e3⟩ := h
  refine ⟨h2, e2, e3.imp id ?_⟩
  rintro ⟨g, cap, rfl, hg, hg2, r⟩
  exact ⟨g, cap, rfl, hg, Nat.lt_of_lt_of_le hg2 h1, r⟩
theorem IRow.far {g N : Nat} {F : Nat → Int} {W : World} {q : Addr} {u : Value} (hq : q.block ≠ g) (h : IRow g N F W) : IRow g N F (W.setCell q u) := by
  have hh : (W.setCell q u).heap[g]? = W.heap[g]? := Below.heap_setCell _ _ _ _ (by omega)
  exact ⟨by simpa [World.setCell] using h.1, fun t ht => ⟨(World.cell?_of_block (w := W) hh).trans (h.2 t ht).1, (World.frozen?_of_block (w := W) hh).trans (h.2 t ht).2⟩⟩
theorem SRow.put {lo hi K n : Nat} {F : Nat → Int} {v : Value} {W : World} {q : Addr} (hq : q.block < lo) (u : Value) (h : SRow lo hi K v n F W) : SRow lo hi K v n F (W.setCell q u) := by
  obtain ⟨e1, e2, e3⟩ := h
  refine ⟨by simpa [World.setCell] using e1, e2, e3.imp id ?_⟩
  rintro ⟨g, cap, rfl, hg, hg2, r⟩
  exact ⟨g, cap, rfl, hg, hg2, r.far (by omega)⟩
theorem SRow.up {lo hi K n : Nat} {F : Nat → Int} {v : Value} {W : World} (h : SRow lo hi K v n F W) : SRow lo W.heap.size K v n F W := h.high h.1 (Nat.le_refl _)
def offB (v : Value) (b : Nat) : Prop := ∀ n cap, v = .slice (some ⟨b, 0, none⟩) n cap → n = 0
def KeepV (v : Value) (W W' : World) : Prop := ∀ b, offB v b → b < W.heap.size → W'.heap[b]? = W.heap[b]?
theorem SRow.off {lo hi K n b : Nat} {v : Value} {F : Nat → Int} {W : World} (h : SRow lo hi K v n F W) (hb : b < lo ∨ hi ≤ b) : offB v b := by
  intro n' cap' e
  rcases h.2.2 with ⟨rfl, ao, cap, rfl⟩ | ⟨g, cap, rfl, h1, h2, _⟩
  · simp only [Value.slice.injEq] at e; exact e.2.1.symm
  · simp only [Value.slice.injEq, Option.some.injEq, Addr.mk.injEq] at e
    omega
theorem SRow.keepV {lo' hi' K n : Nat} {u v : Value} {F : Nat → Int} {W w1 : World} (h : SRow lo' hi' K v n F W) (hk : KeepV u W w1) (ho : ∀ b, lo' ≤ b → b < hi' → offB u b) (hs : W.heap.size ≤ w1.heap.size) : SRow lo' hi' K v n F w1 := by
  obtain ⟨h1, h2, h3⟩ := h
  refine ⟨Nat.le_trans h1 hs, h2, ?_⟩
  rcases h3 with h3 | ⟨g, cap, rfl, hg, hg2, r⟩
  · exact .inl h3
  · have hh := hk g (ho g hg hg2) (by omega)
    refine .inr ⟨g, cap, rfl, hg, hg2, Nat.lt_of_lt_of_le r.1 hs, fun t ht => ⟨(World.cell?_of_block (w := W) hh).trans (r.at t ht), (World.frozen?_of_block (w := W) hh).trans (r.free t ht)⟩⟩
set_option maxHeartbeats 4000000 in
theorem markInt_any {lo hi n : Nat} {v : Value} {F : Nat → Int} {w : World} (h : SRow lo hi 1 v n F w) :
    Calls Try.prog 23 #[v, .int .i64 1] w fun e w' => e = .returned (.int .i64 ((n : Int) * 1 + 1)) ∧ SRow lo hi 1 v n mark1 w' ∧ Below lo w w' ∧ KeepV v w w' := by
  obtain ⟨hh, hm, h1⟩ := h
  by_cases hn : n = 0
  · subst hn
    obtain ⟨ao, cap, rfl⟩ : ∃ ao cap, v = .slice ao 0 cap := by
      rcases h1 with ⟨_, ao, cap, rfl⟩ | ⟨g, cap, rfl, _⟩
      · exact ⟨ao, cap, rfl⟩
      · exact ⟨_, cap, rfl⟩
    clear h1
    go_enter Try.func23, Try.ntmps23
    go_wp2_with fail
    go_loopw [1, 5] (fun q i W => q = .int .i64 1 ∧ i = .int .i64 ((0 : Nat) : Int) ∧ W = w) (fun _ _ _ => 0)
    case atStart => exact ⟨rfl, rfl, rfl⟩
    case round =>
      obtain ⟨rfl, rfl, rfl⟩ := hrel
      go_wp2
      go_ret
      exact ⟨rfl, ⟨hh, hm, .inl ⟨rfl, ao, cap, rfl⟩⟩, Below.refl _ _, fun _ _ _ => rfl⟩
  · obtain ⟨g, cap, rfl, hlo, hhi, r1⟩ := h1.resolve_left (fun h => hn h.1)
    clear h1
    have HM := Lib.hid hm
    clear hm hn
    have R1 := Lib.hid r1
    clear r1
    have HH := Lib.hid (show hi ≤ w.heap.size ∧ lo ≤ g ∧ g < hi from ⟨hh, hlo, hhi⟩)
    clear hh hlo hhi
    go_enter Try.func23, Try.ntmps23
    go_wp2_with fail
    go_loopw [1, 5] (fun q i W => ∃ k : Nat, q = .int .i64 ((k : Int) + 1) ∧ i = .int .i64 (k : Int) ∧ k ≤ n ∧ IRow g (n * 1) (fun t => if t < k then mark1 t else F t) W ∧ Below lo w W ∧ KeepV (.slice (some ⟨g, 0, none⟩) n cap) w W) (fun _ i _ => n - (intOf i).toNat)
    case atStart => exact ⟨0, rfl, rfl, by omega, R1.out.ext (fun t _ => by simp), Below.refl _ _, fun _ _ _ => rfl⟩
    case round =>
      obtain ⟨k, rfl, rfl, hk, r1, hB, hKH⟩ := hrel
      by_cases hk1 : k < n
      · have hk2 : (k : Int) < (n : Int) := by omega
        have hmx := HM.out
        have hkx : (k : Int) ≤ 2000000 := by omega
        have c0 := r1.at k (by omega)
        have f0 := r1.free k (by omega)
        generalize (fun t => if t < k then mark1 t else F t) k = x at c0
        have RR := Lib.hid r1
        clear r1
        go_wp2
        go_roundw
        case rel =>
          refine ⟨k + 1, by go_num, by go_num, by omega, (RR.out.put k (by omega) _).ext ?_, hB.setCell HH.out.2.1 _, fun b ho hb => (Below.heap_setCell _ _ _ _ (by intro e9; dsimp only at e9; subst e9; have := ho n cap rfl; omega)).trans (hKH b ho hb)⟩
          intro t ht
          simp only [mark1]
          repeat' split
          all_goals first | omega | rfl
        case measure => first | (simp [intOf]; done) | (simp [intOf]; omega)
      · obtain rfl : k = n := by omega
        go_wp2
        go_ret
        exact ⟨ret_int (by omega), ⟨Nat.le_trans HH.out.1 hB.size, HM.out, .inr ⟨g, cap, rfl, HH.out.2.1, HH.out.2.2, r1.ext (fun t ht => by simp [show t < k by omega])⟩⟩, hB, hKH⟩
def colB (n : Nat) (F : Nat → Int) : Bool := (List.range n).all fun t => inB (F t) 0 9
theorem colB_yes {n : Nat} {F : Nat → Int} (h : ∀ t, t < n → inB (F t) 0 9 = true) : colB n F = true := List.all_eq_true.2 fun t ht => h t (List.mem_range.1 ht)
theorem colB_no {n t : Nat} {F : Nat → Int} (ht : t < n) (h : inB (F t) 0 9 = false) : colB n F = false := by
  cases e : colB n F
  · rfl
  · have := List.all_eq_true.1 e t (List.mem_range.2 ht)
    rw [h] at this; cases this
theorem colB_at {n t : Nat} {F : Nat → Int} (h : colB n F = true) (ht : t < n) : 0 ≤ F t ∧ F t ≤ 9 := inB_bd (List.all_eq_true.1 h t (List.mem_range.2 ht))
theorem SRow.irow {lo hi K n : Nat} {v : Value} {F : Nat → Int} {W : World} (h : SRow lo hi K v n F W) (hn : 1 ≤ n) : ∃ g cap, v = .slice (some ⟨g, 0, none⟩) n cap ∧ g < hi ∧ lo ≤ g ∧ IRow g (n * K) F W := by
  obtain ⟨g, cap, e, h1, h2, r⟩ := h.2.2.resolve_left (fun h => by omega)
  exact ⟨g, cap, e, h2, h1, r⟩
end Go.Proofs.Ytpejihckepaojaa
