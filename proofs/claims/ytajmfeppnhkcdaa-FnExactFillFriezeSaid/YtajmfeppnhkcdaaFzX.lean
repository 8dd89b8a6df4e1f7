/-
  The laws' copy of a frieze, with its capacity. Condition: only the lengths that are stated.
-/
import Derived.Test.YtajmfeppnhkcdaaFzK
namespace Go.Proofs.Ytajmfeppnhkcdaa
open Go.RowKit Go.ChangeShapes Go.WideShapes Go.ChangeAt Go.Joins Go.Deep Go.WideElems
set_option linter.unusedSimpArgs false
set_option linter.unusedVariables false
/- a slice's capacity is no less than its length -/
def CapOK (v : Value) : Prop := ∀ ao n cap, v = .slice ao n cap → n ≤ cap
set_option maxRecDepth 100000 in
set_option maxHeartbeats 8000000 in
theorem toInt_cap {v : Value} {n : Nat} {F : Nat → Int} {w : World} (h : ARw v n F w) (hn : n ≤ 1048576) :
    Calls Try.prog 44 #[v] w fun e w' => ∃ v' : Value, e = .returned v' ∧ CapOK v' ∧ SRow w.heap.size w'.heap.size 1 v' n F w' ∧ Below w.heap.size w w' := by
  obtain ⟨i0, hinf, hz0, hz1, hz2⟩ := info_parts infoI64
  have HA := Lib.hid h
  obtain ⟨ao, cap, rfl, _⟩ := h
  have HN := Lib.hid hn
  have hn2 : (n : Int) ≤ 1048576 := by omega
  clear hn
  go_enter Try.func44, Try.ntmps44
  go_wp2_with (refine wpList_make_full _ rfl _ _ _ rfl w.heap.size 2 i0 (.int .i64 0) 1 Try.underlying22 hinf hz0 hz1 .i64 .i64 _ _ n rfl rfl rfl rfl (by rw [hz2]; have := HN.out; omega) (by have := HN.out; unfold maxLen; omega) (Nat.le_refl _) ?_; intro w1 hown1 hgr1)
  have B1 : Below w.heap.size w w1 := Below.grown (Below.refl _ _) hgr1 (by omega) (fun r hr => by cases hr)
  have S1 : ∃ F, IRow w.heap.size (n * 1) F w1 ∧ w.heap.size < w1.heap.size := by
    have hl := hown1.lt w.heap.size rfl
    refine ⟨intAt (madeCells (Value.cells (.int .i64 0)) (n * 1)).toList, ⟨hl.2, fun t ht => ⟨?_, hown1.frozenAt t⟩⟩, hl.2⟩
    rw [hown1.cellAt t ht]
    exact intAt_eq (made1_int _) (by rw [hown1.1]; exact ht)
  obtain ⟨F0, R1, hg1⟩ := S1
  clear hown1 hgr1
  go_wp2_with fail
  go_loopw [4] (fun s4 W => ∃ k : Nat, s4 = .int .i64 (k : Int) ∧ k ≤ n ∧ IRow w.heap.size (n * 1) (fun t => if t < k then F t else F0 t) W ∧ Below w.heap.size w W) (fun s4 _ => n - (intOf s4).toNat)
  case atStart => exact ⟨0, rfl, by omega, R1.ext (fun t _ => by simp), B1⟩
  case round =>
    clear R1 B1 hg1
    obtain ⟨k, rfl, hk, r1, hB⟩ := hrel
    by_cases hk1 : k < n
    · have hk2 : (k : Int) < (n : Int) := by omega
      have hkx : (k : Int) ≤ 1048576 := by omega
      have HAw := HA.out.call hB
      obtain ⟨ao', cap', e9, hcell⟩ := HAw
      simp only [Value.slice.injEq, true_and] at e9
      obtain ⟨rfl, rfl⟩ := e9
      obtain ⟨aa, rfl, hab, hc0⟩ := hcell k (by omega)
      clear hcell
      have HK := Lib.hid hk1
      have RR := Lib.hid r1
      have hgl := r1.1
      have c0 := r1.at k (by omega)
      have f0 := r1.free k (by omega)
      clear r1
      obtain ⟨a, ha⟩ : ∃ a, a = F k := ⟨_, rfl⟩
      rw [← ha] at hc0
      have HV := Lib.hid ha
      clear ha
      have zB := hB.size
      have HB := Lib.hid hB
      clear hB
      generalize (fun t => if t < k then F t else F0 t) k = z0 at c0
      go_wp2
      go_roundw
      case rel =>
        refine ⟨k + 1, by go_num, by have := HK.out; omega, (RR.out.put k (by have := HK.out; omega) _).ext ?_, HB.out.setCell (Nat.le_refl _) _⟩
        have hv := HV.out
        intro t ht
        by_cases e0 : t = k
        · subst e0; simp [hv]
        by_cases el : t < k
        · have el2 : t < k + 1 := by omega
          simp [e0, el, el2]
        · have el2 : ¬ t < k + 1 := by omega
          simp [e0, el, el2]
      case measure => (have := HK.out); first | (simp [intOf]; done) | (simp [intOf]; omega)
    · obtain rfl : k = n := by omega
      go_wp2
      go_ret
      exact ⟨_, rfl, (fun ao' n' cap' e9 => by change Value.slice (some ⟨w.heap.size, 0, none⟩) k k = _ at e9; simp only [Value.slice.injEq] at e9; have := e9.2; omega), ⟨Nat.le_refl _, by have := HN.out; omega, .inr ⟨_, _, rfl, Nat.le_refl _, r1.1, r1.ext (fun t ht => by simp [show t < k by omega])⟩⟩, hB⟩

set_option maxHeartbeats 4000000 in
theorem toFr_cap {v : Value} {n : Nat} {F : Nat → Int} {w : World} (a b : Int) (h : ARw v n F w) (hn : n ≤ 1048576) :
    Calls Try.prog 10 #[.agg #[.int .i64 a, .int .i64 b, v]] w fun e w' => ∃ v' : Value, e = .returned (.agg #[.int .i64 a, .int .i64 b, v']) ∧ CapOK v' ∧ SRow w.heap.size w'.heap.size 1 v' n F w' ∧ Below w.heap.size w w' := by
  have HA := Lib.hid h
  clear h
  go_enter Try.func10, Try.ntmps10
  go_wp2_with fail
  refine (toInt_cap ((HA.out).call ?_) hn).mono ?_
  · repeat (first | exact Below.refl _ _ | refine Below.setCell ?_ (by first | omega | (simp <;> omega)) _ | refine Below.alloc ?_ (by first | omega | (simp <;> omega)) _)
  rintro e w1 ⟨v', rfl, hcp, r1, hb1⟩
  have HCP := Lib.hid hcp
  clear hcp
  have k1 := bcell hb1
  have z1 := hb1.size
  have hB : Below w.heap.size w w1 := by
    repeat (first | with_reducible exact Below.refl _ _ | with_reducible assumption | with_reducible refine Below.setCell ?_ (by first | omega | (simp <;> omega)) _ | with_reducible refine Below.alloc ?_ (by first | omega | (simp <;> omega)) _ | with_reducible refine bstep ?_ (by with_reducible assumption) | with_reducible refine Below.drew ?_)
  have HR := Lib.hid (r1.low (lo' := w.heap.size + 3) (by simp))
  obtain ⟨ao', cap', rfl⟩ := r1.slice
  clear r1
  have HB := Lib.hid hB
  have hz1 := Lib.hid (show w.heap.size + 3 ≤ w1.heap.size by simpa using z1)
  have g1 : w.heap.size + 2 < w1.heap.size := by have := hz1.out; omega
  have g2 : w.heap.size + 1 < w1.heap.size := by have := hz1.out; omega
  clear z1 hb1 hB
  go_wp2
  refine bodyPost_ret (v := .agg #[.int .i64 a, .int .i64 b, .slice ao' n cap']) (by simp [results, Try.results10, go_sem, *]) rfl ⟨_, rfl, HCP.out, ?_, ?_⟩
  · refine SRow.up (hi := w1.heap.size) (SRow.low (lo := w.heap.size + 3) ?_ (by omega))
    repeat (first | with_reducible exact HR.out | with_reducible refine SRow.put (by first | omega | (dsimp only; omega)) _ ?_)
  · repeat (first | with_reducible exact Below.refl _ _ | with_reducible assumption | with_reducible exact HB.out | with_reducible refine Below.setCell ?_ (by first | omega | (simp <;> omega)) _ | with_reducible refine Below.alloc ?_ (by first | omega | (simp <;> omega)) _ | with_reducible refine bstep ?_ (by with_reducible assumption) | with_reducible refine Below.drew ?_)
end Go.Proofs.Ytajmfeppnhkcdaa
