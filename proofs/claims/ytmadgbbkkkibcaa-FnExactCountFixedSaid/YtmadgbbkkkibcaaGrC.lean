/-
  Plain facts of groups: the motions that a closure keeps as makers, sorted lists, groups that are shifted, and motions in two groups. Conditions: those stated.
-/
import Derived.Test.YtmadgbbkkkibcaaGrL
namespace Go.Proofs.Ytmadgbbkkkibcaa
set_option linter.unusedVariables false
set_option linter.unusedSimpArgs false

/- makers: motions of a list that reach all motions of its first k -/
structure Gath (A B C : Int) (R : List M6) (k : Nat) (Ms : List M6) : Prop where
  sub : ∀ m ∈ Ms, m ∈ R
  all : ∀ m ∈ R.take k, Reach A B C Ms m
  len : Ms.length ≤ k
theorem Gath.start (A B C : Int) (R : List M6) : Gath A B C R 0 [] := ⟨by simp, by simp, by simp⟩
theorem Gath.good {f A B C : Int} {R Ms : List M6} {k : Nat} (hR : GoodR f A B C R) (h : Gath A B C R k Ms) : GoodR f A B C Ms := fun m hm => hR m (h.sub m hm)
theorem Gath.has {A B C : Int} {R Ms : List M6} {k : Nat} (h : Gath A B C R k Ms) (hk : k < R.length) (hm : Reach A B C Ms R[k]) : Gath A B C R (k + 1) Ms :=
  ⟨h.sub, fun m hm' => by
    rw [List.take_succ_eq_append_getElem hk] at hm'
    rcases List.mem_append.1 hm' with hm' | hm'
    · exact h.all m hm'
    · simp at hm'; subst hm'; exact hm, by have := h.len; omega⟩
theorem Gath.adds {f A B C : Int} (hl : latI A B C) {R Ms : List M6} (hR : GoodR f A B C R) {k : Nat} (h : Gath A B C R k Ms) (hk : k < R.length) : Gath A B C R (k + 1) (Ms ++ [R[k]]) := by
  have hg : GoodR f A B C (Ms ++ [R[k]]) := by
    intro m hm
    rcases List.mem_append.1 hm with hm | hm
    · exact h.good hR m hm
    · simp at hm; subst hm; exact hR _ (List.getElem_mem hk)
  refine ⟨?_, ?_, by have := h.len; simp; omega⟩
  · intro m hm
    rcases List.mem_append.1 hm with hm | hm
    · exact h.sub m hm
    · simp at hm; subst hm; exact List.getElem_mem hk
  · intro m hm
    rw [List.take_succ_eq_append_getElem hk] at hm
    rcases List.mem_append.1 hm with hm | hm
    · exact reach_sub hl hg (fun r hr => reach_mem hl hg (List.mem_append.2 (.inl hr))) (h.all m hm)
    · simp at hm; subst hm; exact reach_mem hl hg (List.mem_append.2 (.inr (by simp)))
theorem Gath.fin {f A B C : Int} (hl : latI A B C) {R Ms : List M6} (hR : GoodR f A B C R) (h : Gath A B C R R.length Ms) (m : M6) : Reach A B C Ms m ↔ Reach A B C R m :=
  ⟨reach_sub hl hR fun r hr => reach_mem hl hR (h.sub r hr), reach_sub hl (h.good hR) fun r hr => h.all r (by rw [List.take_length]; exact hr)⟩
/- one list that is strictly increasing -/
theorem up_of {L : List M6} (hn : L.Nodup) (h : L.Pairwise fun m n => ltM n m = false) : Up L := by
  have := List.pairwise_and_iff.2 ⟨h, hn⟩
  refine this.imp fun {a b} hab => ?_
  rcases hc : ltM a b with _ | _
  · exact absurd (ltM_total hc hab.1) hab.2
  · rfl
theorem sort_up {L : List M6} (hn : L.Nodup) : Up (L.mergeSort fun x y => !ltM y x) := by
  have hs := List.pairwise_mergeSort (le := fun x y => !ltM y x) (fun a b c h1 h2 => by
    simp only [Bool.not_eq_true'] at *
    rcases hc : ltM c a with _ | _
    · rfl
    · rcases hab : ltM a b with _ | _
      · have e := ltM_total hab h1
        subst e
        rw [h2] at hc; cases hc
      · have := ltM_trans hc hab
        rw [h2] at this; cases this) (fun a b => by
    rcases hab : ltM a b with _ | _ <;> rcases hba : ltM b a with _ | _ <;> simp_all
    have := ltM_trans hab hba
    rw [ltM_irrefl] at this; cases this) L
  refine up_of ((List.mergeSort_perm L _).nodup_iff.2 hn) (hs.imp fun {a b} h => by simpa using h)
theorem sort_mem (L : List M6) (m : M6) : m ∈ L.mergeSort (fun x y => !ltM y x) ↔ m ∈ L := (List.mergeSort_perm L _).mem_iff
theorem sort_clos {A B C : Int} {R L : List M6} (hn : L.Nodup) (h : ∀ m, m ∈ L ↔ Reach A B C R m) : IsClos A B C R (L.mergeSort fun x y => !ltM y x) := ⟨sort_up hn, fun m => (sort_mem L m).trans (h m)⟩
theorem sort_eq {L L' : List M6} (hn : L.Nodup) (hU : Up L') (h : ∀ m, m ∈ L' ↔ m ∈ L) : L.mergeSort (fun x y => !ltM y x) = L' := up_unique (sort_up hn) hU fun m => (sort_mem L m).trans (h m).symm
/- a group that is shifted -/
def conM (A B C p q : Int) (m : M6) : M6 := redM A B C (m.1, m.2.1, m.2.2.1, m.2.2.2.1, m.2.2.2.2.1 + (p + (m.1 * p + m.2.1 * q) * -1), m.2.2.2.2.2 + (q + (m.2.2.1 * p + m.2.2.2.1 * q) * -1))
theorem con_inj {A B C p q : Int} (hl : latI A B C) {m n : M6} (hm : redM A B C m = m) (hn : redM A B C n = n) (h : conM A B C p q m = conM A B C p q n) : m = n := by
  obtain ⟨a, b, c, d, x, y⟩ := m
  obtain ⟨a', b', c', d', x', y'⟩ := n
  simp only [conM, redM, Prod.mk.injEq] at h
  obtain ⟨rfl, rfl, rfl, rfl, h1, h2⟩ := h
  have h3 := (red_same hl).1 ⟨h1, h2⟩
  have e1 : x + (p + (a * p + b * q) * -1) - (x' + (p + (a * p + b * q) * -1)) = x - x' := by omega
  have e2 : y + (q + (c * p + d * q) * -1) - (y' + (q + (c * p + d * q) * -1)) = y - y' := by omega
  rw [e1, e2] at h3
  rw [← hm, ← hn]
  exact redM_eq hl h3
theorem con_prog (A B C p q : Int) (m : M6) : redM A B C (cmpM (cmpM (1, 0, 0, 1, p, q) m) (1, 0, 0, 1, -p, -q)) = conM A B C p q m := by
  obtain ⟨a, b, c, d, x, y⟩ := m
  simp only [conM, redM, cmpM, cmpI]
  have e1 : (1 * a + 0 * c) * 1 + (1 * b + 0 * d) * 0 = a := by omega
  have e2 : (1 * a + 0 * c) * 0 + (1 * b + 0 * d) * 1 = b := by omega
  have e3 : (0 * a + 1 * c) * 1 + (0 * b + 1 * d) * 0 = c := by omega
  have e4 : (0 * a + 1 * c) * 0 + (0 * b + 1 * d) * 1 = d := by omega
  have e5 : (1 * a + 0 * c) * -p + (1 * b + 0 * d) * -q + (1 * x + 0 * y + p) = x + (p + (a * p + b * q) * -1) := by grind
  have e6 : (0 * a + 1 * c) * -p + (0 * b + 1 * d) * -q + (0 * x + 1 * y + q) = y + (q + (c * p + d * q) * -1) := by grind
  rw [e1, e2, e3, e4, e5, e6]
theorem con_nodup {f A B C p q : Int} (hl : latI A B C) : ∀ {L : List M6}, L.Nodup → (∀ m ∈ L, redM A B C m = m) → (L.map (conM A B C p q)).Nodup
  | [], _, _ => by simp
  | a :: L, hn, hr => by
    have h1 := List.nodup_cons.1 hn
    rw [List.map_cons]
    refine List.nodup_cons.2 ⟨fun h => ?_, con_nodup (f := f) hl h1.2 fun m hm => hr m (by simp [hm])⟩
    obtain ⟨m, hm, e⟩ := List.mem_map.1 h
    exact h1.1 (con_inj hl (hr m (by simp [hm])) (hr a (by simp)) e ▸ hm)
/- what a fold of insertions keeps -/
def putM (L : List M6) (m : M6) : List M6 := if m ∈ L then L else insM L m
theorem putM_mem {L : List M6} {m n : M6} : n ∈ putM L m ↔ n = m ∨ n ∈ L := by
  unfold putM
  split
  · rename_i h
    exact ⟨.inr, fun h' => h'.elim (fun e => e ▸ h) id⟩
  · exact insM_mem
theorem putM_up {L : List M6} {m : M6} (hU : Up L) : Up (putM L m) := by
  unfold putM
  split
  · exact hU
  · rename_i h; exact insM_up hU h
theorem putM_len (L : List M6) (m : M6) : (putM L m).length ≤ L.length + 1 := by
  unfold putM
  split
  · omega
  · rw [insM_len]; omega
def putAll (L : List M6) : List M6 := L.foldl putM []
theorem putAll_snoc (L : List M6) (m : M6) : putAll (L ++ [m]) = putM (putAll L) m := by simp [putAll, List.foldl_append]
theorem putAll_facts : ∀ (L L0 : List M6), Up L0 → Up (L.foldl putM L0) ∧ ∀ m, m ∈ L.foldl putM L0 ↔ m ∈ L0 ∨ m ∈ L
  | [], L0, h => ⟨h, by simp⟩
  | a :: L, L0, h => by
    obtain ⟨h1, h2⟩ := putAll_facts L (putM L0 a) (putM_up h)
    refine ⟨h1, fun m => (h2 m).trans ?_⟩
    rw [putM_mem, List.mem_cons]
    constructor
    · rintro ((h | h) | h)
      · exact .inr (.inl h)
      · exact .inl h
      · exact .inr (.inr h)
    · rintro (h | h | h)
      · exact .inl (.inr h)
      · exact .inl (.inl h)
      · exact .inr h
theorem putAll_up (L : List M6) : Up (putAll L) := (putAll_facts L [] List.Pairwise.nil).1
theorem putAll_mem (L : List M6) (m : M6) : m ∈ putAll L ↔ m ∈ L := by rw [putAll, (putAll_facts L [] List.Pairwise.nil).2]; simp
theorem putAll_len (L : List M6) : (putAll L).length ≤ L.length := nodup_len _ _ (putAll_up L).nodup fun m hm => (putAll_mem L m).1 hm
theorem sort_put {L : List M6} (hn : L.Nodup) : L.mergeSort (fun x y => !ltM y x) = putAll L := sort_eq hn (putAll_up L) (putAll_mem L)
/- a list is a group just if it is the closure of its reduced motions -/
theorem grp_len {f A B C : Int} {L : List M6} (h : grpB f A B C L = true) : L.length ≤ 768 := by
  have h0 := h
  unfold grpB at h
  simp only [Bool.and_eq_true, decide_eq_true_eq, List.all_eq_true, List.contains_iff_mem, beq_iff_eq] at h
  obtain ⟨hfl, h1, h2, _⟩ := h
  simp only [flB, Bool.and_eq_true] at hfl
  have hl := latB_iff.1 hfl.2
  exact good_len hfl.1 hl h2.nodup fun m hm => ⟨(okM_iff.1 (h1 m hm).1).2.1, (h1 m hm).2⟩
theorem grp_ok {f A B C : Int} {L : List M6} (h : grpB f A B C L = true) : flB f A B C = true ∧ (∀ m ∈ L, okM f A B C m = true ∧ redM A B C m = m) ∧ Up L := by
  unfold grpB at h
  simp only [Bool.and_eq_true, decide_eq_true_eq, List.all_eq_true, beq_iff_eq] at h
  exact ⟨h.1, h.2.1, h.2.2.1⟩
theorem grp_eq {f A B C : Int} (hfl : flB f A B C = true) {L L' : List M6} (hok : ∀ m ∈ L, okM f A B C m = true) (h : IsClos A B C (L.map (redM A B C)) L') : grpB f A B C L = decide (L' = L) := by
  rcases hd : decide (L' = L) with _ | _
  · rcases hg : grpB f A B C L with _ | _
    · rfl
    · exact absurd (clos_unique h ((grp_iff hfl hok).1 hg)) (by simpa using hd)
  · have e : L' = L := by simpa using hd
    rw [(grp_iff hfl hok).2 (e ▸ h)]
theorem grp_bad {f A B C : Int} {L : List M6} {m : M6} (hm : m ∈ L) (h : okM f A B C m = false) : grpB f A B C L = false := by
  rcases hg : grpB f A B C L with _ | _
  · rfl
  · have := ((grp_ok hg).2.1 m hm).1
    rw [h] at this; cases this
theorem grp_fl {f A B C : Int} {L : List M6} (h : flB f A B C = false) : grpB f A B C L = false := by simp [grpB, h]
end Go.Proofs.Ytmadgbbkkkibcaa
