/-
  Plain facts on decimal numerals and commas: a number is read back from its numeral, a numeral holds no comma, two numbers joined by a comma are found again. No program is spoken of. Condition: numbers from -10^12 to 10^12.
-/
import Derived.Lib.ItoaLen
import Derived.Lib.ParseIntBCases
import Derived.Lib.IndexMore
namespace Go.Proofs.YtpdekopmnchanabGreatDoor

def stepD (a : Nat) (c : UInt8) : Nat := a * 10 + (c.toNat - 48)
def isDig (c : UInt8) : Prop := 48 ≤ c.toNat ∧ c.toNat ≤ 57

theorem dig_of (d : Nat) (h : d < 10) : (UInt8.ofNat (48 + d)).toNat = 48 + d := by
  rw [UInt8.toNat_ofNat']; omega

theorem dec_spec : ∀ (m u : Nat), u < m → (∀ c ∈ Lib.decDigits u, isDig c) ∧ Lib.decDigits u ≠ [] ∧ (Lib.decDigits u).foldl stepD 0 = u := by
  intro m
  induction m with
  | zero => intro u h; omega
  | succ m ih =>
    intro u h
    by_cases hs : u < 10
    · rw [Lib.decDigits, dif_pos hs]
      refine ⟨fun c hc => ?_, by simp, ?_⟩
      · rw [List.mem_singleton.1 hc]; unfold isDig; rw [dig_of u hs]; omega
      · simp only [List.foldl_cons, List.foldl_nil, stepD]; rw [dig_of u hs]; omega
    · obtain ⟨h1, h2, h3⟩ := ih (u / 10) (by omega)
      rw [Lib.decDigits, dif_neg hs]
      refine ⟨fun c hc => ?_, by simp, ?_⟩
      · rcases List.mem_append.1 hc with hc | hc
        · exact h1 c hc
        · rw [List.mem_singleton.1 hc]; unfold isDig; rw [dig_of _ (by omega)]; omega
      · rw [List.foldl_append, h3]
        simp only [List.foldl_cons, List.foldl_nil, stepD]
        rw [dig_of _ (by omega)]; omega

theorem dec_digits (u : Nat) : ∀ c ∈ Lib.decDigits u, isDig c := (dec_spec (u + 1) u (by omega)).1
theorem dec_ne (u : Nat) : Lib.decDigits u ≠ [] := (dec_spec (u + 1) u (by omega)).2.1
theorem dec_val (u : Nat) : (Lib.decDigits u).foldl stepD 0 = u := (dec_spec (u + 1) u (by omega)).2.2

theorem fold_ge : ∀ (l : List UInt8) (a : Nat), a ≤ l.foldl stepD a
  | [], a => Nat.le_refl _
  | c :: r, a => by
    simp only [List.foldl_cons]
    exact Nat.le_trans (by unfold stepD; omega) (fold_ge r (stepD a c))

theorem parse_digits (M : Nat) : ∀ (l : List UInt8) (a : Nat), (∀ c ∈ l, isDig c) → l.foldl stepD a ≤ M → l.foldl stepD a ≤ 1000000000000 → Lib.parseUintM M a l = .ok (l.foldl stepD a)
  | [], a, _, _, _ => rfl
  | c :: r, a, hd, hM, hB => by
    have hc := hd c (by simp)
    have hg := fold_ge r (stepD a c)
    simp only [List.foldl_cons] at hM hB ⊢
    have e : a * 10 + (c.toNat - 48) = stepD a c := rfl
    unfold isDig at hc
    have h1 : stepD a c ≤ 1000000000000 := Nat.le_trans hg hB
    have h2 : stepD a c ≤ M := Nat.le_trans hg hM
    rw [Lib.parseUintM, if_pos hc, if_neg (by unfold stepD at h1; omega), e, if_neg (by omega)]
    exact parse_digits M r (stepD a c) (fun x hx => hd x (by simp [hx])) hM hB

theorem parse_dec (u : Nat) (h : u ≤ 1000000000000) : Lib.parseUintB 64 (Lib.decDigits u) = .ok u := by
  unfold Lib.parseUintB
  rw [if_neg (dec_ne u)]
  have hv := dec_val u
  have := parse_digits (2 ^ 64 - 1) (Lib.decDigits u) 0 (dec_digits u) (by rw [hv]; omega) (by rw [hv]; exact h)
  rw [hv] at this
  exact this

theorem parse_itoa (n : Int) (h0 : -1000000000000 ≤ n) (h1 : n ≤ 1000000000000) : Lib.parseIntB 64 (Lib.itoa n) = .ok n := by
  unfold Lib.itoa
  by_cases hn : n < 0
  · rw [if_pos hn, Lib.parseIntB_minus, parse_dec _ (by omega)]
    unfold Lib.signedC
    simp only
    rw [if_neg (by omega)]
    congr 1
    omega
  · rw [if_neg hn]
    have hd := dec_digits n.toNat
    have hp := parse_dec n.toNat (by omega)
    cases hl : Lib.decDigits n.toNat with
    | nil => exact absurd hl (dec_ne _)
    | cons c r =>
      rw [hl] at hd hp
      have hc := hd c (by simp)
      unfold isDig at hc
      rw [Lib.parseIntB_plain 64 c r (by omega) (by omega), hp]
      unfold Lib.signlessC
      simp only
      rw [if_neg (by omega)]
      congr 1
      omega

theorem itoa_inj {m n : Int} (h0 : -1000000000000 ≤ m) (h1 : m ≤ 1000000000000) (h2 : -1000000000000 ≤ n) (h3 : n ≤ 1000000000000) (h : Lib.itoa m = Lib.itoa n) : m = n := by
  have a := parse_itoa m h0 h1
  rw [h, parse_itoa n h2 h3] at a
  cases a
  rfl

theorem dec_inj {u v : Nat} (h : Lib.decDigits u = Lib.decDigits v) : u = v := by
  have a := dec_val u
  rw [h, dec_val v] at a
  exact a.symm
theorem dec_minus (u : Nat) (r : List UInt8) : Lib.decDigits u ≠ 45 :: r := by
  intro h
  have hd := dec_digits u 45 (by rw [h]; simp)
  unfold isDig at hd
  revert hd
  decide
theorem itoa_injg {m n : Int} (h : Lib.itoa m = Lib.itoa n) : m = n := by
  unfold Lib.itoa at h
  by_cases hm : m < 0
  · by_cases hn : n < 0
    · rw [if_pos hm, if_pos hn] at h
      have := dec_inj (List.cons.inj h).2
      omega
    · rw [if_pos hm, if_neg hn] at h
      exact absurd h.symm (dec_minus _ _)
  · by_cases hn : n < 0
    · rw [if_neg hm, if_pos hn] at h
      exact absurd h (dec_minus _ _)
    · rw [if_neg hm, if_neg hn] at h
      have := dec_inj h
      omega
theorem itoa_ne (n : Int) : Lib.itoa n ≠ [] := by
  unfold Lib.itoa
  split
  · simp
  · exact dec_ne _

theorem comma_dig {c : UInt8} (h : isDig c) : c ≠ 44 := by
  rintro rfl
  unfold isDig at h
  revert h
  decide
theorem itoa_comma (n : Int) : (44 : UInt8) ∉ Lib.itoa n := by
  unfold Lib.itoa
  by_cases hn : n < 0
  · rw [if_pos hn]
    intro h
    rcases List.mem_cons.1 h with h | h
    · revert h; decide
    · exact comma_dig (dec_digits _ _ h) rfl
  · rw [if_neg hn]
    intro h
    exact comma_dig (dec_digits _ _ h) rfl

theorem comma_inj : ∀ {l l' r r' : List UInt8}, (44 : UInt8) ∉ l → (44 : UInt8) ∉ l' → l ++ 44 :: r = l' ++ 44 :: r' → l = l' ∧ r = r'
  | [], [], r, r', _, _, h => by simpa using h
  | [], b :: l', r, r', _, h', h => by
    simp at h
    exact absurd (by simp [h.1]) h'
  | a :: l, [], r, r', h', _, h => by
    simp at h
    exact absurd (by simp [h.1]) h'
  | a :: l, b :: l', r, r', h1, h2, h => by
    simp at h
    obtain ⟨e1, e2⟩ := comma_inj (l := l) (l' := l') (fun x => h1 (by simp [x])) (fun x => h2 (by simp [x])) h.2
    exact ⟨by rw [h.1, e1], e2⟩

theorem index_comma : ∀ s : List UInt8, (Lib.index s [44] = -1 ∧ (44 : UInt8) ∉ s) ∨ ∃ l r, s = l ++ 44 :: r ∧ (44 : UInt8) ∉ l ∧ Lib.index s [44] = (l.length : Int)
  | [] => .inl ⟨rfl, by simp⟩
  | b :: s => by
    by_cases hb : b = 44
    · subst hb
      exact .inr ⟨[], s, rfl, by simp, by simp [Lib.index]⟩
    · have hp : ([44] : List UInt8).isPrefixOf (b :: s) = false := by
        simp [List.isPrefixOf]; exact fun h => hb h.symm
      rcases index_comma s with ⟨h1, h2⟩ | ⟨l, r, h1, h2, h3⟩
      · refine .inl ⟨by simp [Lib.index, hp, h1], ?_⟩
        intro h
        rcases List.mem_cons.1 h with h | h
        · exact hb h.symm
        · exact h2 h
      · refine .inr ⟨b :: l, r, by simp [h1], ?_, ?_⟩
        · intro h
          rcases List.mem_cons.1 h with h | h
          · exact hb h.symm
          · exact h2 h
        · rw [Lib.index, hp, h3]
          simp

theorem cut_comma (s : List UInt8) : (Lib.cut s [44] = (s, [], false) ∧ (44 : UInt8) ∉ s) ∨ ∃ l r, s = l ++ 44 :: r ∧ (44 : UInt8) ∉ l ∧ Lib.cut s [44] = (l, r, true) := by
  rcases index_comma s with ⟨h1, h2⟩ | ⟨l, r, h1, h2, h3⟩
  · exact .inl ⟨by unfold Lib.cut; rw [if_neg (by omega)], h2⟩
  · refine .inr ⟨l, r, h1, h2, ?_⟩
    unfold Lib.cut
    rw [if_pos (by omega), h3]
    subst h1
    simp

end Go.Proofs.YtpdekopmnchanabGreatDoor
