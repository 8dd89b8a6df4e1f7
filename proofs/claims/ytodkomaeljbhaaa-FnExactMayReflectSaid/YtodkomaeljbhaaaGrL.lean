/-
  Plain facts of sorted lists of motions: where a motion stands or is put, and lists that grow to a closure. Conditions: those stated.
-/
import Derived.Test.YtodkomaeljbhaaaGrF
namespace Go.Proofs.Ytodkomaeljbhaaa
set_option linter.unusedVariables false
set_option linter.unusedSimpArgs false

def plM (L : List M6) (m : M6) : Nat := (L.filter fun n => ltM n m).length
theorem plM_le (L : List M6) (m : M6) : plM L m ≤ L.length := List.length_filter_le _ _
theorem plM_iff (m : M6) : ∀ (L : List M6), Up L → ∀ (i : Nat) (h : i < L.length), ltM L[i] m = true ↔ i < plM L m
  | [], _, i, h => absurd h (by simp)
  | a :: L, hU, i, h => by
    have h1 := List.pairwise_cons.1 hU
    have ih := plM_iff m L h1.2
    rcases ha : ltM a m with _ | _
    · have hz : L.filter (fun n => ltM n m) = [] := by
        refine List.filter_eq_nil_iff.2 fun n hn hnm => ?_
        have := ltM_trans (h1.1 n hn) hnm
        rw [ha] at this; cases this
      have e : plM (a :: L) m = 0 := by simp [plM, ha, hz]
      rw [e]
      refine ⟨fun h' => ?_, fun h' => absurd h' (by omega)⟩
      cases i with
      | zero => simp only [List.getElem_cons_zero] at h'; rw [ha] at h'; cases h'
      | succ i =>
        simp only [List.getElem_cons_succ] at h'
        have := ltM_trans (h1.1 _ (List.getElem_mem (by simpa using h))) h'
        rw [ha] at this; cases this
    · have e : plM (a :: L) m = plM L m + 1 := by simp [plM, ha]
      rw [e]
      cases i with
      | zero => simp only [List.getElem_cons_zero]; exact ⟨fun _ => by omega, fun _ => ha⟩
      | succ i =>
        simp only [List.getElem_cons_succ]
        rw [ih i (by simpa using h)]
        omega
theorem plM_at {L : List M6} {m : M6} (hU : Up L) (hm : m ∈ L) : ∃ h : plM L m < L.length, L[plM L m] = m := by
  obtain ⟨i, hi, rfl⟩ := List.mem_iff_getElem.1 hm
  have h1 : ¬ i < plM L L[i] := fun h => by
    have := (plM_iff L[i] L hU i hi).2 h
    rw [ltM_irrefl] at this; cases this
  have h2 : ¬ plM L L[i] < i := fun h => by
    have hlt : plM L L[i] < L.length := by omega
    have h3 := List.pairwise_iff_getElem.1 hU _ _ hlt hi h
    have := (plM_iff L[i] L hU _ hlt).1 h3
    omega
  have e : plM L L[i] = i := by omega
  exact ⟨by omega, by simp only [e]⟩
theorem plM_mem {L : List M6} {m : M6} (hU : Up L) : m ∈ L ↔ ∃ h : plM L m < L.length, L[plM L m] = m :=
  ⟨plM_at hU, fun ⟨h, e⟩ => by rw [← e]; exact List.getElem_mem h⟩
def insM (L : List M6) (m : M6) : List M6 := L.take (plM L m) ++ m :: L.drop (plM L m)
theorem insM_mem {L : List M6} {m n : M6} : n ∈ insM L m ↔ n = m ∨ n ∈ L := by
  unfold insM
  have : n ∈ L ↔ n ∈ L.take (plM L m) ∨ n ∈ L.drop (plM L m) := by
    rw [← List.mem_append, List.take_append_drop]
  rw [List.mem_append, List.mem_cons, this]
  constructor
  · rintro (h | h | h)
    · exact .inr (.inl h)
    · exact .inl h
    · exact .inr (.inr h)
  · rintro (h | h | h)
    · exact .inr (.inl h)
    · exact .inl h
    · exact .inr (.inr h)
theorem insM_up {L : List M6} {m : M6} (hU : Up L) (hm : m ∉ L) : Up (insM L m) := by
  have hp := plM_iff m L hU
  have h1 : ∀ a ∈ L.take (plM L m), ltM a m = true := by
    intro a ha
    obtain ⟨i, hi, rfl⟩ := List.mem_iff_getElem.1 ha
    have hi2 : i < plM L m ∧ i < L.length := by rw [List.length_take] at hi; omega
    rw [List.getElem_take]
    exact (hp i hi2.2).2 hi2.1
  have h2 : ∀ a ∈ L.drop (plM L m), ltM m a = true := by
    intro a ha
    have hmem := List.mem_of_mem_drop ha
    obtain ⟨i, hi, rfl⟩ := List.mem_iff_getElem.1 ha
    rw [List.length_drop] at hi
    have hi2 : plM L m + i < L.length := by omega
    rw [List.getElem_drop] at hmem ⊢
    rcases hc : ltM m L[plM L m + i] with _ | _
    · exfalso
      have hn : ltM L[plM L m + i] m = false := by
        rcases hc2 : ltM L[plM L m + i] m with _ | _
        · rfl
        · have := (hp _ hi2).1 hc2
          omega
      have := ltM_total hc hn
      exact hm (this ▸ hmem)
    · rfl
  unfold insM
  refine List.pairwise_append.2 ⟨hU.sublist (List.take_sublist _ _), List.pairwise_cons.2 ⟨h2, hU.sublist (List.drop_sublist _ _)⟩, fun a ha b hb => ?_⟩
  rcases List.mem_cons.1 hb with rfl | hb
  · exact h1 a ha
  · exact ltM_trans (h1 a ha) (h2 b hb)
theorem insM_len (L : List M6) (m : M6) : (insM L m).length = L.length + 1 := by
  unfold insM
  have := plM_le L m
  simp only [List.length_append, List.length_take, List.length_cons, List.length_drop]
  omega
/- a list of products that grows: what is kept between two rounds -/
structure Grows (A B C : Int) (R Q : List M6) (i k : Nat) : Prop where
  nodup : Q.Nodup
  one : oneM ∈ Q
  reach : ∀ m ∈ Q, Reach A B C R m
  done : ∀ (j : Nat) (h : j < Q.length), j < i → ∀ r ∈ R, mulM A B C r Q[j] ∈ Q
  part : ∀ (h : i < Q.length), ∀ r ∈ R.take k, mulM A B C r Q[i] ∈ Q
theorem Grows.start (A B C : Int) (R : List M6) : Grows A B C R [oneM] 0 0 :=
  ⟨by simp, by simp, fun m hm => by simp at hm; subst hm; exact reach_one A B C R, fun j _ h => absurd h (by omega), fun _ r hr => by simp at hr⟩
theorem Grows.has {A B C : Int} {R Q : List M6} {i k : Nat} (h : Grows A B C R Q i k) (hi : i < Q.length) (hk : k < R.length) (hm : mulM A B C R[k] Q[i] ∈ Q) : Grows A B C R Q i (k + 1) :=
  ⟨h.nodup, h.one, h.reach, h.done, fun hi r hr => by
    rw [List.take_succ_eq_append_getElem hk] at hr
    rcases List.mem_append.1 hr with hr | hr
    · exact h.part hi r hr
    · simp at hr; subst hr; exact hm⟩
theorem Grows.adds {A B C : Int} {R Q : List M6} {i k : Nat} (h : Grows A B C R Q i k) (hi : i < Q.length) (hk : k < R.length) (hm : mulM A B C R[k] Q[i] ∉ Q) : Grows A B C R (Q ++ [mulM A B C R[k] Q[i]]) i (k + 1) := by
  refine ⟨?_, List.mem_append.2 (.inl h.one), ?_, ?_, ?_⟩
  · exact List.nodup_append.2 ⟨h.nodup, by simp, fun a ha b hb => by simp at hb; subst hb; exact fun e => hm (e ▸ ha)⟩
  · intro m hm'
    rcases List.mem_append.1 hm' with hm' | hm'
    · exact h.reach m hm'
    · simp at hm'; subst hm'
      exact reach_step (List.getElem_mem hk) (h.reach _ (List.getElem_mem hi))
  · intro j hj hji r hr
    rw [List.getElem_append_left (by omega)]
    exact List.mem_append.2 (.inl (h.done j (by omega) hji r hr))
  · intro hi' r hr
    rw [List.getElem_append_left hi]
    rw [List.take_succ_eq_append_getElem hk] at hr
    rcases List.mem_append.1 hr with hr | hr
    · exact List.mem_append.2 (.inl (h.part hi r hr))
    · simp at hr; subst hr; exact List.mem_append.2 (.inr (by simp))
theorem Grows.next {A B C : Int} {R Q : List M6} {i : Nat} (h : Grows A B C R Q i R.length) : Grows A B C R Q (i + 1) 0 :=
  ⟨h.nodup, h.one, h.reach, fun j hj hji r hr => by
    by_cases e : j = i
    · subst e; exact h.part hj r (by rw [List.take_length]; exact hr)
    · exact h.done j hj (by omega) r hr, fun _ r hr => by simp at hr⟩
theorem Grows.mem {A B C : Int} {R Q : List M6} {k : Nat} (h : Grows A B C R Q Q.length k) (m : M6) : m ∈ Q ↔ Reach A B C R m :=
  ⟨h.reach m, fun hm => reach_closed h.one (fun r hr n hn => by
    obtain ⟨j, hj, rfl⟩ := List.mem_iff_getElem.1 hn
    exact h.done j hj hj r hr) hm⟩
theorem Grows.good {f A B C : Int} (hl : latI A B C) {R Q : List M6} {i k : Nat} (hR : GoodR f A B C R) (h : Grows A B C R Q i k) : GoodR f A B C Q := fun m hm => reach_good hl hR (h.reach m hm)
theorem Grows.len {f A B C : Int} (hf : frB f = true) (hl : latI A B C) {R Q : List M6} {i k : Nat} (hR : GoodR f A B C R) (h : Grows A B C R Q i k) : Q.length ≤ 768 := good_len hf hl h.nodup (h.good hl hR)
theorem clos_len {f A B C : Int} (hf : frB f = true) (hl : latI A B C) {R L : List M6} (hR : GoodR f A B C R) (h : IsClos A B C R L) : L.length ≤ 768 := good_len hf hl h.1.nodup fun m hm => reach_good hl hR ((h.2 m).1 hm)
end Go.Proofs.Ytodkomaeljbhaaa
