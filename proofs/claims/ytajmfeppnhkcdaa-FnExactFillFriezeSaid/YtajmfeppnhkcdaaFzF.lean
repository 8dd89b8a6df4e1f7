/-
  Plain facts of friezes: the cell to which a motion takes a cell, the motions that keep a frieze, its period and symmetries, and filled friezes. No condition but those stated.
-/
import Derived.Test.YtajmfeppnhkcdaaProg
namespace Go.Proofs.Ytajmfeppnhkcdaa
set_option linter.unusedVariables false

def imN (h w : Nat) (tx ty : Bool) (s c : Nat) : Nat :=
  (if ty then h - 1 - c / w else c / w) * w + (s + (if tx then w - c % w else c % w)) % w
theorem row_lt {h w y x : Nat} (hy : y < h) (hx : x < w) : y * w + x < h * w := by
  have h1 : (y + 1) * w ≤ h * w := Nat.mul_le_mul_right w hy
  have h2 : (y + 1) * w = y * w + w := Nat.succ_mul y w
  omega
theorem div_row {w y x : Nat} (hx : x < w) : (y * w + x) / w = y := by
  rw [Nat.mul_comm, Nat.mul_add_div (by omega), Nat.div_eq_of_lt hx]; omega
theorem mod_row {w y x : Nat} (hx : x < w) : (y * w + x) % w = x := by
  rw [Nat.mul_comm, Nat.mul_add_mod, Nat.mod_eq_of_lt hx]
theorem cell_row (w c : Nat) : c / w * w + c % w = c := by rw [Nat.mul_comm]; exact Nat.div_add_mod c w
theorem imN_lt {h w : Nat} (tx ty : Bool) (s : Nat) {c : Nat} (hc : c < h * w) : imN h w tx ty s c < h * w := by
  have hw : 0 < w := by rcases Nat.eq_zero_or_pos w with e | e <;> simp_all
  have hy : c / w < h := Nat.div_lt_of_lt_mul (by rwa [Nat.mul_comm])
  unfold imN
  generalize c / w = q at hy
  exact row_lt (by split <;> omega) (Nat.mod_lt _ hw)
theorem imN_div {h w : Nat} (tx ty : Bool) (s : Nat) {c : Nat} (hw : 0 < w) : imN h w tx ty s c / w = if ty then h - 1 - c / w else c / w := div_row (Nat.mod_lt _ hw)
theorem imN_mod {h w : Nat} (tx ty : Bool) (s : Nat) {c : Nat} (hw : 0 < w) : imN h w tx ty s c % w = (s + (if tx then w - c % w else c % w)) % w := mod_row (Nat.mod_lt _ hw)
theorem imN_full {h w c : Nat} : imN h w false false w c = c := by
  simp [imN, cell_row]
def kpN (h w : Nat) (F : Nat → Int) (tx ty : Bool) (s : Nat) : Bool := (List.range (h * w)).all fun c => F (imN h w tx ty s c) == F c
theorem kpN_full (h w : Nat) (F : Nat → Int) : kpN h w F false false w = true := by
  simp [kpN, imN_full]
theorem kpN_no {h w : Nat} {F : Nat → Int} {tx ty : Bool} {s c : Nat} (hc : c < h * w) (hn : (F (imN h w tx ty s c) == F c) = false) : kpN h w F tx ty s = false := by
  cases e : kpN h w F tx ty s
  · rfl
  · have := List.all_eq_true.1 e c (List.mem_range.2 hc)
    rw [hn] at this; cases this
theorem kpN_yes {h w : Nat} {F : Nat → Int} {tx ty : Bool} {s : Nat} (hh : ∀ c, c < h * w → (F (imN h w tx ty s c) == F c) = true) : kpN h w F tx ty s = true :=
  List.all_eq_true.2 fun c hc => hh c (List.mem_range.1 hc)
def perF (P : Nat → Bool) : Nat → Nat → Nat
  | 0, n => n
  | k + 1, n => if P n then n else perF P k (n + 1)
def perN (h w : Nat) (F : Nat → Int) : Nat := perF (kpN h w F false false) w 1
/- what holds between the rounds of the search for the period -/
def PerAt (h w : Nat) (F : Nat → Int) (n : Nat) : Prop := 1 ≤ n ∧ n ≤ w ∧ perN h w F = perF (kpN h w F false false) (w + 1 - n) n
theorem PerAt.start {h w : Nat} (F : Nat → Int) (hw : 1 ≤ w) : PerAt h w F 1 := ⟨by omega, hw, rfl⟩
theorem PerAt.hit {h w : Nat} {F : Nat → Int} {n : Nat} (p : PerAt h w F n) (hk : kpN h w F false false n = true) : perN h w F = n := by
  obtain ⟨h1, h2, h3⟩ := p
  obtain ⟨k, hk'⟩ : ∃ k, w + 1 - n = k + 1 := ⟨w - n, by omega⟩
  rw [h3, hk', perF, hk]; rfl
theorem PerAt.next {h w : Nat} {F : Nat → Int} {n : Nat} (p : PerAt h w F n) (hk : kpN h w F false false n = false) : PerAt h w F (n + 1) := by
  obtain ⟨h1, h2, h3⟩ := p
  have hne : n ≠ w := by rintro rfl; rw [kpN_full] at hk; cases hk
  obtain ⟨k, hk'⟩ : ∃ k, w + 1 - n = k + 1 := ⟨w - n, by omega⟩
  refine ⟨by omega, by omega, ?_⟩
  rw [h3, hk', perF, hk]
  have : w + 1 - (n + 1) = k := by omega
  rw [this]; rfl
theorem perF_bd (P : Nat → Bool) : ∀ (k n m : Nat), n ≤ m → m < n + k → P m = true → n ≤ perF P k n ∧ perF P k n ≤ m ∧ P (perF P k n) = true
  | 0, n, m, h1, h2, _ => by omega
  | k + 1, n, m, h1, h2, h3 => by
    unfold perF
    by_cases e : P n = true
    · rw [if_pos e]; exact ⟨Nat.le_refl _, h1, e⟩
    · rw [if_neg e]
      have hne : n ≠ m := by rintro rfl; exact e h3
      have := perF_bd P k (n + 1) m (by omega) (by omega) h3
      exact ⟨by omega, this.2.1, this.2.2⟩
theorem perN_bd {h w : Nat} (F : Nat → Int) (hw : 1 ≤ w) : 1 ≤ perN h w F ∧ perN h w F ≤ w ∧ kpN h w F false false (perN h w F) = true :=
  perF_bd _ w 1 w hw (by omega) (kpN_full h w F)

/- all symmetries, in order -/
abbrev FMo := Bool × Bool × Nat
def symAt (p k : Nat) : FMo := (decide (2 ≤ k / p), decide (k / p % 2 = 1), k % p)
def symP (h w : Nat) (F : Nat → Int) (K : Nat) : List FMo := ((List.range K).map (symAt (perN h w F))).filter fun m => kpN h w F m.1 m.2.1 m.2.2
def symL (h w : Nat) (F : Nat → Int) : List FMo := symP h w F (4 * perN h w F)
theorem symP_zero (h w : Nat) (F : Nat → Int) : symP h w F 0 = [] := rfl
theorem symP_yes {h w : Nat} {F : Nat → Int} {K : Nat} {tx ty : Bool} {s : Nat} (e : symAt (perN h w F) K = (tx, ty, s)) (hk : kpN h w F tx ty s = true) : symP h w F (K + 1) = symP h w F K ++ [(tx, ty, s)] := by
  unfold symP
  rw [List.range_succ, List.map_append, List.filter_append]
  simp [e, hk]
theorem symP_no {h w : Nat} {F : Nat → Int} {K : Nat} {tx ty : Bool} {s : Nat} (e : symAt (perN h w F) K = (tx, ty, s)) (hk : kpN h w F tx ty s = false) : symP h w F (K + 1) = symP h w F K := by
  unfold symP
  rw [List.range_succ, List.map_append, List.filter_append]
  simp [e, hk]
theorem symP_len (h w : Nat) (F : Nat → Int) (K : Nat) : (symP h w F K).length ≤ K := by
  have := List.length_filter_le (fun m : FMo => kpN h w F m.1 m.2.1 m.2.2) ((List.range K).map (symAt (perN h w F)))
  simpa [symP] using this
theorem symAt_of {p : Nat} (a b : Bool) {s : Nat} (hs : s < p) : symAt p ((2 * a.toNat + b.toNat) * p + s) = (a, b, s) := by
  unfold symAt
  rw [div_row hs, mod_row hs]
  rcases a with _ | _ <;> rcases b with _ | _ <;> rfl
/- the name -/
def hasH (l : List FMo) : Bool := l.any fun m => !m.1 && m.2.1 && m.2.2 == 0
def hasG (l : List FMo) : Bool := l.any fun m => !m.1 && m.2.1 && m.2.2 != 0
def hasV (l : List FMo) : Bool := l.any fun m => m.1 && !m.2.1
def hasR (l : List FMo) : Bool := l.any fun m => m.1 && m.2.1
/- filled friezes: the cells to which a cell is taken -/
def imM (h w : Nat) (m : FMo) (c : Nat) : Nat := imN h w m.1 m.2.1 m.2.2 c
def orbN (h w : Nat) (ms : List FMo) (c : Nat) : List Nat := ms.foldl (fun l m => l ++ l.map (imM h w m)) [c]
def minL : List Nat → Nat
  | [] => 0
  | a :: l => l.foldl min a
def firN (h w : Nat) (ms : List FMo) (c : Nat) : Nat := minL (orbN h w ms c)
theorem mod2 {a w : Nat} (h : a < 2 * w) : a % w = if a < w then a else a - w := by
  split
  · exact Nat.mod_eq_of_lt ‹_›
  · rw [Nat.mod_eq_sub_mod (by omega), Nat.mod_eq_of_lt (by omega)]
/- a maker: done twice it changes nothing -/
def Mak (w : Nat) (m : FMo) : Prop := m.2.2 = 0 ∨ (m.1 = false ∧ 2 * m.2.2 = w)
theorem ext_cell {w a b : Nat} (h1 : a / w = b / w) (h2 : a % w = b % w) : a = b := by
  rw [← cell_row w a, ← cell_row w b, h1, h2]
theorem im_twice {h w : Nat} {m : FMo} (hm : Mak w m) {c : Nat} (hc : c < h * w) : imM h w m (imM h w m c) = c := by
  have hw : 0 < w := by rcases Nat.eq_zero_or_pos w with e | e <;> simp_all
  have hy : c / w < h := Nat.div_lt_of_lt_mul (by rwa [Nat.mul_comm])
  obtain ⟨tx, ty, s⟩ := m
  simp only [Mak] at hm
  simp only [imM]
  apply ext_cell (w := w)
  · rw [imN_div _ _ _ hw, imN_div _ _ _ hw]
    generalize c / w = q at *
    rcases ty with _ | _ <;> simp <;> omega
  · rw [imN_mod _ _ _ hw, imN_mod _ _ _ hw]
    have hx : c % w < w := Nat.mod_lt _ hw
    generalize c % w = x at *
    rcases tx with _ | _
    · simp only [Bool.false_eq_true, if_false]
      rcases hm with rfl | ⟨_, h2⟩
      · rw [mod2 (a := 0 + x) (by omega)]
        simp only [Nat.zero_add, hx, if_true]
        exact Nat.mod_eq_of_lt hx
      · rw [mod2 (a := s + x) (by omega)]
        split
        · rw [mod2 (by omega)]; split <;> omega
        · rw [mod2 (by omega)]; split <;> omega
    · simp only [if_true]
      rcases hm with rfl | ⟨h1, _⟩
      · rw [mod2 (a := 0 + (w - x)) (by omega)]
        split
        · rw [mod2 (by omega)]; split <;> omega
        · rw [mod2 (by omega)]; split <;> omega
      · cases h1
theorem im_swap {h w : Nat} {s : Nat} (hs : s = 0 ∨ 2 * s = w) {c : Nat} (hc : c < h * w) : imM h w (true, false, 0) (imM h w (false, true, s) c) = imM h w (false, true, s) (imM h w (true, false, 0) c) := by
  have hw : 0 < w := by rcases Nat.eq_zero_or_pos w with e | e <;> simp_all
  have hy : c / w < h := Nat.div_lt_of_lt_mul (by rwa [Nat.mul_comm])
  simp only [imM]
  apply ext_cell (w := w)
  · rw [imN_div _ _ _ hw, imN_div _ _ _ hw, imN_div _ _ _ hw, imN_div _ _ _ hw]
    simp
  · rw [imN_mod _ _ _ hw, imN_mod _ _ _ hw, imN_mod _ _ _ hw, imN_mod _ _ _ hw]
    have hx : c % w < w := Nat.mod_lt _ hw
    generalize c % w = x at *
    simp only [Bool.false_eq_true, if_false, if_true]
    rw [mod2 (a := 0 + (w - x)) (by omega), mod2 (a := s + x) (by omega)]
    rcases hs with rfl | h2
    · split <;> split <;> (rw [mod2 (by omega), mod2 (by omega)]; split <;> split <;> omega)
    · split <;> split <;> (rw [mod2 (by omega), mod2 (by omega)]; split <;> split <;> omega)

theorem imM_lt {h w : Nat} {m : FMo} {c : Nat} (hc : c < h * w) : imM h w m c < h * w := imN_lt _ _ _ hc
theorem minL_mem : ∀ {l : List Nat}, l ≠ [] → minL l ∈ l
  | [], h => absurd rfl h
  | a :: l, _ => by
    have : ∀ (l : List Nat) (a : Nat), l.foldl min a ∈ a :: l := by
      intro l
      induction l with
      | nil => intro a; simp
      | cons b l ih =>
        intro a
        have := ih (min a b)
        simp only [List.foldl_cons]
        rcases List.mem_cons.1 this with h | h
        · rw [h]; rcases Nat.le_total a b with e | e
          · simp [Nat.min_eq_left e]
          · simp [Nat.min_eq_right e]
        · exact List.mem_cons_of_mem _ (List.mem_cons_of_mem _ h)
    exact this l a
theorem minL_le : ∀ {l : List Nat} {x : Nat}, x ∈ l → minL l ≤ x
  | [], x, h => by simp at h
  | a :: l, x, hx => by
    have : ∀ (l : List Nat) (a x : Nat), (x = a ∨ x ∈ l) → l.foldl min a ≤ x := by
      intro l
      induction l with
      | nil => intro a x h; simp at h; simp [h]
      | cons b l ih =>
        intro a x h
        simp only [List.foldl_cons]
        rcases h with rfl | h
        · exact Nat.le_trans (ih (min x b) (min x b) (.inl rfl)) (Nat.min_le_left _ _)
        · rcases List.mem_cons.1 h with rfl | h
          · exact Nat.le_trans (ih (min a x) (min a x) (.inl rfl)) (Nat.min_le_right _ _)
          · exact ih _ _ (.inr h)
    exact this l a x (by simpa using hx)
theorem orbN_me (h w : Nat) (ms : List FMo) (c : Nat) : c ∈ orbN h w ms c := by
  have : ∀ (ms : List FMo) (l : List Nat), c ∈ l → c ∈ ms.foldl (fun l m => l ++ l.map (imM h w m)) l := by
    intro ms
    induction ms with
    | nil => intro l h; exact h
    | cons m ms ih => intro l h; exact ih _ (List.mem_append_left _ h)
  exact this ms [c] (by simp)
/- the lists of makers that a name may ask for -/
def Maks (w : Nat) (ms : List FMo) : Prop := ms = [] ∨ (∃ m, ms = [m] ∧ Mak w m) ∨ ∃ s, ms = [(true, false, 0), (false, true, s)] ∧ (s = 0 ∨ 2 * s = w)
theorem orb_move {h w : Nat} {ms : List FMo} (hm : Maks w ms) {m : FMo} (hi : m ∈ ms) {c : Nat} (hc : c < h * w) : ∀ x, x ∈ orbN h w ms (imM h w m c) ↔ x ∈ orbN h w ms c := by
  rcases hm with rfl | ⟨m', rfl, h2⟩ | ⟨s, rfl, h2⟩
  · simp at hi
  · obtain rfl : m = m' := by simpa using hi
    intro x
    simp only [orbN, List.foldl_cons, List.foldl_nil, List.map_cons, List.map_nil, List.cons_append, List.nil_append, im_twice h2 hc, List.mem_cons, List.not_mem_nil, or_false]
    exact or_comm
  · intro x
    have e1 := im_swap h2 hc (h := h)
    have a1 : imM h w (true, false, 0) (imM h w (true, false, 0) c) = c := im_twice (.inl rfl) hc
    have a2 : imM h w (false, true, s) (imM h w (false, true, s) c) = c := im_twice (by rcases h2 with e | e; exact .inl e; exact .inr ⟨rfl, e⟩) hc
    have a3 : imM h w (true, false, 0) (imM h w (true, false, 0) (imM h w (false, true, s) c)) = imM h w (false, true, s) c := im_twice (.inl rfl) (imM_lt hc)
    have a4 : imM h w (false, true, s) (imM h w (false, true, s) (imM h w (true, false, 0) c)) = imM h w (true, false, 0) c := im_twice (by rcases h2 with e | e; exact .inl e; exact .inr ⟨rfl, e⟩) (imM_lt hc)
    simp only [orbN, List.foldl_cons, List.foldl_nil, List.map_cons, List.map_nil, List.cons_append, List.nil_append, List.mem_cons, List.not_mem_nil, or_false]
    have hi2 : m = (true, false, 0) ∨ m = (false, true, s) := by simpa using hi
    rcases hi2 with rfl | rfl
    · rw [a1, ← e1]
      constructor <;> (intro h; rcases h with h | h | h | h <;> simp [h])
    · rw [e1, a4, a2]
      constructor <;> (intro h; rcases h with h | h | h | h <;> simp [h])
theorem orbN_lt {h w : Nat} {ms : List FMo} {c : Nat} (hc : c < h * w) : ∀ x ∈ orbN h w ms c, x < h * w := by
  have : ∀ (ms : List FMo) (l : List Nat), (∀ x ∈ l, x < h * w) → ∀ x ∈ ms.foldl (fun l m => l ++ l.map (imM h w m)) l, x < h * w := by
    intro ms
    induction ms with
    | nil => intro l h; exact h
    | cons m ms ih =>
      intro l hl
      refine ih _ fun x hx => ?_
      rcases List.mem_append.1 hx with hx | hx
      · exact hl x hx
      · obtain ⟨y, hy, rfl⟩ := List.mem_map.1 hx
        exact imM_lt (hl y hy)
  exact this ms [c] (by simpa using hc)
theorem firN_lt {h w : Nat} {ms : List FMo} {c : Nat} (hc : c < h * w) : firN h w ms c < h * w :=
  orbN_lt hc _ (minL_mem (List.ne_nil_of_mem (orbN_me h w ms c)))
theorem firN_move {h w : Nat} {ms : List FMo} (hm : Maks w ms) {m : FMo} (hi : m ∈ ms) {c : Nat} (hc : c < h * w) : firN h w ms (imM h w m c) = firN h w ms c := by
  have h1 : firN h w ms c ∈ orbN h w ms c := minL_mem (List.ne_nil_of_mem (orbN_me h w ms c))
  have h2 : firN h w ms (imM h w m c) ∈ orbN h w ms (imM h w m c) := minL_mem (List.ne_nil_of_mem (orbN_me h w ms _))
  have h3 : firN h w ms (imM h w m c) ≤ firN h w ms c := minL_le ((orb_move hm hi hc _).2 h1)
  have h4 : firN h w ms c ≤ firN h w ms (imM h w m c) := minL_le ((orb_move hm hi hc _).1 h2)
  omega
/- what holds of the model's numbers between its steps: each is a cell of the orbit, and no greater than its own cell -/
def FilI (h w : Nat) (ms : List FMo) (A : Nat → Nat) : Prop := ∀ k, k < h * w → A k ∈ orbN h w ms k ∧ A k ≤ k
theorem FilI.start (h w : Nat) (ms : List FMo) : FilI h w ms fun k => k := fun k _ => ⟨orbN_me h w ms k, Nat.le_refl _⟩
theorem FilI.lt {h w : Nat} {ms : List FMo} {A : Nat → Nat} (hA : FilI h w ms A) {k : Nat} (hk : k < h * w) : A k < h * w := Nat.lt_of_le_of_lt (hA k hk).2 hk
theorem FilI.step {h w : Nat} {ms : List FMo} (hm : Maks w ms) {A : Nat → Nat} (hA : FilI h w ms A) {m : FMo} (hi : m ∈ ms) {k : Nat} (hk : k < h * w) :
    FilI h w ms fun t => if t = k then min (A (imM h w m k)) (A k) else if t = imM h w m k then min (A (imM h w m k)) (A k) else A t := by
  have hj := imM_lt (h := h) (w := w) (m := m) hk
  intro t ht
  have h1 := hA k hk
  have h2 := hA _ hj
  have h3 := orb_move hm hi hk
  have hmn : min (A (imM h w m k)) (A k) = A (imM h w m k) ∨ min (A (imM h w m k)) (A k) = A k := by omega
  by_cases e1 : t = k
  · subst e1
    simp only [if_true]
    refine ⟨?_, by omega⟩
    rcases hmn with e | e
    · rw [e]; exact (h3 _).1 h2.1
    · rw [e]; exact h1.1
  · simp only [if_neg e1]
    by_cases e2 : t = imM h w m k
    · subst e2
      simp only [if_true]
      refine ⟨?_, by omega⟩
      rcases hmn with e | e
      · rw [e]; exact h2.1
      · rw [e]; exact (h3 _).2 h1.1
    · simp only [if_neg e2]; exact hA t ht
theorem FilI.fin {h w : Nat} {ms : List FMo} {A : Nat → Nat} (hA : FilI h w ms A) (hf : ∀ k, k < h * w → ∀ m ∈ ms, A (imM h w m k) = A k) {k : Nat} (hk : k < h * w) : A k = firN h w ms k := by
  have h1 : firN h w ms k ∈ orbN h w ms k := minL_mem (List.ne_nil_of_mem (orbN_me h w ms k))
  have h2 : firN h w ms k ≤ A k := minL_le (hA k hk).1
  have h3 : ∀ x ∈ orbN h w ms k, A x = A k := by
    have : ∀ (ms' : List FMo) (l : List Nat), (∀ m ∈ ms', m ∈ ms) → (∀ x ∈ l, x < h * w ∧ A x = A k) → ∀ x ∈ ms'.foldl (fun l m => l ++ l.map (imM h w m)) l, x < h * w ∧ A x = A k := by
      intro ms'
      induction ms' with
      | nil => intro l _ h; exact h
      | cons m ms' ih =>
        intro l hs hl
        refine ih _ (fun m' h' => hs m' (List.mem_cons_of_mem _ h')) fun x hx => ?_
        rcases List.mem_append.1 hx with hx | hx
        · exact hl x hx
        · obtain ⟨y, hy, rfl⟩ := List.mem_map.1 hx
          exact ⟨imM_lt (hl y hy).1, (hf y (hl y hy).1 m (hs m (by simp))).trans (hl y hy).2⟩
    exact fun x hx => (this ms [k] (fun _ h => h) (by simpa using hk) x hx).2
  have h4 := (hA _ (firN_lt hk (ms := ms))).2
  rw [h3 _ h1] at h4
  omega
/- a sum that gets less -/
def sumA (A : Nat → Nat) : Nat → Nat
  | 0 => 0
  | n + 1 => sumA A n + A n
theorem sumA_le {A B : Nat → Nat} : ∀ {n : Nat}, (∀ t, t < n → B t ≤ A t) → sumA B n ≤ sumA A n
  | 0, _ => Nat.le_refl _
  | n + 1, h => Nat.add_le_add (sumA_le fun t ht => h t (by omega)) (h n (by omega))
theorem sumA_lt {A B : Nat → Nat} : ∀ {n k : Nat}, (∀ t, t < n → B t ≤ A t) → k < n → B k < A k → sumA B n < sumA A n
  | 0, k, _, hk, _ => by omega
  | n + 1, k, h, hk, hl => by
    have h1 := h n (by omega)
    have h0 : sumA B n ≤ sumA A n := sumA_le fun t ht => h t (by omega)
    by_cases e : k = n
    · subst e; simp only [sumA]; omega
    · have := sumA_lt (n := n) (fun t ht => h t (by omega)) (by omega : k < n) hl
      simp only [sumA]; omega

end Go.Proofs.Ytajmfeppnhkcdaa
