/-
  A group's motions are as many as the matrices of its point part times its shifts.
-/
import Derived.Test.YtkfeajjpbmbmpaaGreatDoorPp6
import Derived.Test.YtkfeajjpbmbmpaaGreatDoorGp
namespace Go.Proofs.YtkfeajjpbmbmpaaGreatDoor
open Go.RowKit
set_option linter.unusedSimpArgs false
set_option linter.unusedVariables false

def up4 (m : M4) : M6 := (m.1, m.2.1, m.2.2.1, m.2.2.2, 0, 0)
def lt4 (m n : M4) : Bool := ltM (up4 m) (up4 n)
theorem lt4_total {m n : M4} (h : lt4 m n = false) (h' : lt4 n m = false) : m = n := by
  have := ltM_total h h'
  obtain ⟨a, b, c, d⟩ := m
  obtain ⟨a', b', c', d'⟩ := n
  simp only [up4, Prod.mk.injEq, and_true] at this ⊢
  exact this
theorem lt4_of {m n : M6} (h : ltM m n = true) : lt4 (matM n) (matM m) = false := by
  obtain ⟨a, b, c, d, x, y⟩ := m
  obtain ⟨a', b', c', d', x', y'⟩ := n
  simp only [ltM, lt4, up4, matM, decide_eq_true_eq, decide_eq_false_iff_not] at h ⊢
  omega
theorem ddK_facts {L : List M4} (hs : ∀ (i j : Nat) (hi : i < L.length) (hj : j < L.length), i < j → lt4 L[j] L[i] = false) : ∀ k, k ≤ L.length → (ddK L k).Nodup ∧ ∀ x, x ∈ ddK L k ↔ ∃ i, i < k ∧ L[i]? = some x
  | 0, _ => by simp [ddK]
  | k + 1, hk => by
    obtain ⟨h1, h2⟩ := ddK_facts hs k (by omega)
    have hkL : k < L.length := by omega
    by_cases h0 : ∃ h0 : 0 < k, L[k] = L[k - 1]'(by omega)
    · obtain ⟨h0, he⟩ := h0
      rw [ddK_skip h0 hkL he]
      refine ⟨h1, fun x => (h2 x).trans ⟨fun ⟨i, hi, e⟩ => ⟨i, by omega, e⟩, fun ⟨i, hi, e⟩ => ?_⟩⟩
      by_cases hik : i < k
      · exact ⟨i, hik, e⟩
      · obtain rfl : i = k := by omega
        refine ⟨i - 1, by omega, ?_⟩
        rw [List.getElem?_eq_getElem hkL] at e
        rw [List.getElem?_eq_getElem (by omega), ← he]
        exact e
    · have hne : ∀ h0 : 0 < k, L[k] ≠ L[k - 1]'(by omega) := fun h e => h0 ⟨h, e⟩
      rw [ddK_keep hkL hne]
      constructor
      · rw [List.nodup_append]
        refine ⟨h1, List.pairwise_singleton _ _, ?_⟩
        rintro a ha b hb rfl
        rw [List.mem_singleton] at hb
        obtain ⟨i, hi, e⟩ := (h2 a).1 ha
        rw [List.getElem?_eq_getElem (by omega)] at e
        have e := Option.some.inj e
        refine hne (by omega) ?_
        by_cases hik : i = k - 1
        · subst hik
          rw [e, hb]
        · have q1 := hs i (k - 1) (by omega) (by omega) (by omega)
          have q2 := hs (k - 1) k (by omega) hkL (by omega)
          rw [← hb, ← e] at q2
          rw [← hb, ← e]
          exact lt4_total q2 q1
      · intro x
        rw [List.mem_append, List.mem_singleton, h2]
        constructor
        · rintro (⟨i, hi, e⟩ | rfl)
          · exact ⟨i, by omega, e⟩
          · exact ⟨k, by omega, List.getElem?_eq_getElem hkL⟩
        · rintro ⟨i, hi, e⟩
          by_cases hik : i < k
          · exact .inl ⟨i, hik, e⟩
          · obtain rfl : i = k := by omega
            rw [List.getElem?_eq_getElem hkL] at e
            exact .inr (Option.some.inj e).symm
theorem len_count {c : Nat} : ∀ (D L : List M4), D.Nodup → (∀ x ∈ L, x ∈ D) → (∀ d ∈ D, (L.filter (· == d)).length = c) → L.length = D.length * c
  | [], L, _, h, _ => by
    rcases L with _ | ⟨a, L⟩
    · simp
    · exact absurd (h a (by simp)) (by simp)
  | d :: D, L, hn, h, hc => by
    have h1 : L.length = (L.filter (· == d)).length + (L.filter (fun x => !(x == d))).length := by
      clear h hc hn
      induction L with
      | nil => rfl
      | cons a L ih =>
        rw [List.filter_cons, List.filter_cons, List.length_cons, ih]
        rcases a == d with _ | _ <;> simp <;> omega
    have hn' := List.nodup_cons.1 hn
    have h2 := len_count (c := c) D (L.filter (fun x => !(x == d))) hn'.2 (fun x hx => by
      obtain ⟨a1, a2⟩ := List.mem_filter.1 hx
      rcases List.mem_cons.1 (h x a1) with e | e
      · subst e; simp at a2
      · exact e) (fun d' hd' => by
      rw [← hc d' (List.mem_cons_of_mem _ hd'), List.filter_filter]
      refine congrArg List.length (List.filter_congr fun x _ => ?_)
      rcases hx : x == d' with _ | _
      · simp
      · have : x = d' := by simpa using hx
        subst this
        have : x ≠ d := fun e => hn'.1 (e ▸ hd')
        simp [this])
    rw [h1, h2, hc d (by simp), List.length_cons, Nat.add_mul, Nat.one_mul]
    omega
/- the motions with one matrix are as many as the shifts -/
theorem mulM_mat (A B C : Int) (m n : M6) : matM (mulM A B C m n) = (m.1 * n.1 + m.2.1 * n.2.2.1, m.1 * n.2.1 + m.2.1 * n.2.2.2.1, m.2.2.1 * n.1 + m.2.2.2.1 * n.2.2.1, m.2.2.1 * n.2.1 + m.2.2.2.1 * n.2.2.2.1) := rfl
theorem isOne_iff (m : M6) : isOne m = true ↔ matM m = (1, 0, 0, 1) := by
  obtain ⟨a, b, c, d, x, y⟩ := m
  simp [isOne, eqM, matM, and_assoc]
theorem grp_rinv {f A B C : Int} {G : List M6} (h : grpB f A B C G = true) {g : M6} (hg : g ∈ G) : ∃ n ∈ G, mulM A B C g n = oneM := by
  obtain ⟨hl, hf, hG⟩ := grp_good h
  obtain ⟨n, hn, e⟩ := grp_inv h hg
  obtain ⟨k, hk, e'⟩ := grp_inv h hn
  refine ⟨n, hn, ?_⟩
  have h1 : mulM A B C (mulM A B C k n) g = mulM A B C k (mulM A B C n g) := mul_assoc6 hl (hG k hk).1
  rw [e', e, one_mul (hG g hg).2, mul_one (hG k hk).2] at h1
  rw [h1]; exact e'
theorem map_len {f A B C : Int} {G : List M6} (h : grpB f A B C G = true) {P Q : M6 → Bool} {k : M6} (hk : k ∈ G) (hPQ : ∀ m ∈ G, P m = true → Q (mulM A B C m k) = true) : (G.filter P).length ≤ (G.filter Q).length := by
  obtain ⟨hl, hf, hG⟩ := grp_good h
  obtain ⟨h1, h2⟩ := grp_mem2 h
  have hn : ((G.filter P).map fun m => mulM A B C m k).Nodup := by
    refine List.pairwise_map.2 (List.Pairwise.imp_of_mem (fun {m n} hm hn hmn e => hmn ?_) ((grp_ok h).2.2.nodup.sublist List.filter_sublist))
    exact mul_cancel hf hl (hG m (List.mem_filter.1 hm).1).2 (hG n (List.mem_filter.1 hn).1).2 (hG k hk).1 e
  have := nodup_len _ (G.filter Q) hn (fun x hx => by
    obtain ⟨m, hm, rfl⟩ := List.mem_map.1 hx
    obtain ⟨a1, a2⟩ := List.mem_filter.1 hm
    exact List.mem_filter.2 ⟨h2 m a1 k hk, hPQ m a1 a2⟩)
  rwa [List.length_map] at this
theorem class_len {f A B C : Int} {G : List M6} (h : grpB f A B C G = true) {g : M6} (hg : g ∈ G) : (G.filter fun m => matM m == matM g).length = (shP G).length := by
  have hs : (shP G).length = (G.filter isOne).length := by unfold shP; rw [List.length_map]
  rw [hs]
  refine Nat.le_antisymm ?_ ?_
  · obtain ⟨n, hn, e⟩ := grp_rinv h hg
    refine map_len h hn fun m hm hP => ?_
    rw [isOne_iff]
    have hP : matM m = matM g := by simpa using hP
    have e2 : matM (mulM A B C g n) = (1, 0, 0, 1) := by rw [e]; rfl
    rw [mulM_mat] at e2 ⊢
    obtain ⟨a, b, c, d, x, y⟩ := m
    obtain ⟨a', b', c', d', x', y'⟩ := g
    simp only [matM, Prod.mk.injEq] at hP
    obtain ⟨rfl, rfl, rfl, rfl⟩ := hP
    exact e2
  · refine map_len h hg fun m hm hP => ?_
    have hP := (isOne_iff m).1 hP
    rw [beq_iff_eq, mulM_mat]
    obtain ⟨a, b, c, d, x, y⟩ := m
    simp only [matM, Prod.mk.injEq] at hP
    obtain ⟨rfl, rfl, rfl, rfl⟩ := hP
    simp [matM]
theorem part_len {f A B C : Int} {G : List M6} (h : grpB f A B C G = true) : (ptP G).length * (shP G).length = G.length := by
  have hU := (grp_ok h).2.2
  have hs : ∀ (i j : Nat) (hi : i < (G.map matM).length) (hj : j < (G.map matM).length), i < j → lt4 (G.map matM)[j] (G.map matM)[i] = false := fun i j hi hj hij => by
    rw [List.getElem_map, List.getElem_map]
    exact lt4_of (List.pairwise_iff_getElem.1 hU i j (by simpa using hi) (by simpa using hj) hij)
  obtain ⟨h1, h2⟩ := ddK_facts hs G.length (by simp)
  have := len_count (c := (shP G).length) (ptP G) (G.map matM) h1 (fun x hx => (h2 x).2 (by
    obtain ⟨i, hi, rfl⟩ := List.getElem_of_mem hx
    exact ⟨i, by simpa using hi, List.getElem?_eq_getElem hi⟩)) (fun d hd => by
    obtain ⟨i, hi, e⟩ := (h2 d).1 hd
    rw [List.getElem?_eq_getElem (by simpa using hi), List.getElem_map] at e
    have e := Option.some.inj e
    subst e
    rw [List.filter_map, List.length_map]
    exact class_len h (List.getElem_mem hi))
  rw [List.length_map] at this
  exact this.symm
end Go.Proofs.YtkfeajjpbmbmpaaGreatDoor
