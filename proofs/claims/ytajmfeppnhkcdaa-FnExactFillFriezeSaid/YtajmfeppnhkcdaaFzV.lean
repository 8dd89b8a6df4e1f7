/-
  Whether a frieze is valid, in the program and in the model. Condition: a slice that lies in a block of its own.
-/
import Derived.Test.YtajmfeppnhkcdaaFzK
namespace Go.Proofs.Ytajmfeppnhkcdaa
open Go.RowKit
set_option linter.unusedSimpArgs false
set_option linter.unusedVariables false

def colB (n : Nat) (F : Nat → Int) : Bool := (List.range n).all fun t => inB (F t) 0 9
theorem colB_yes {n : Nat} {F : Nat → Int} (h : ∀ t, t < n → inB (F t) 0 9 = true) : colB n F = true := List.all_eq_true.2 fun t ht => h t (List.mem_range.1 ht)
theorem colB_no {n t : Nat} {F : Nat → Int} (ht : t < n) (h : inB (F t) 0 9 = false) : colB n F = false := by
  cases e : colB n F
  · rfl
  · have := List.all_eq_true.1 e t (List.mem_range.2 ht)
    rw [h] at this; cases this
theorem colB_at {n t : Nat} {F : Nat → Int} (h : colB n F = true) (ht : t < n) : 0 ≤ F t ∧ F t ≤ 9 := inB_bd (List.all_eq_true.1 h t (List.mem_range.2 ht))
def friB (a b : Int) (n : Nat) (F : Nat → Int) : Bool := inB a 1 6 && inB b 1 24 && decide ((n : Int) = a * b) && colB n F
/- a valid frieze: h rows and w columns -/
structure FriI (h w n : Nat) (F : Nat → Int) : Prop where
  h1 : 1 ≤ h
  h6 : h ≤ 6
  w1 : 1 ≤ w
  w24 : w ≤ 24
  nn : n = h * w
  col : ∀ t, t < n → 0 ≤ F t ∧ F t ≤ 9
theorem FriI.n144 {h w n : Nat} {F : Nat → Int} (p : FriI h w n F) : n ≤ 144 := by
  rw [p.nn]; exact Nat.le_trans (Nat.mul_le_mul p.h6 p.w24) (by omega)
theorem FriI.n1 {h w n : Nat} {F : Nat → Int} (p : FriI h w n F) : 1 ≤ n := by
  rw [p.nn]; exact Nat.le_trans (by omega) (Nat.mul_le_mul p.h1 p.w1)
theorem friB_of {a b : Int} {n : Nat} {F : Nat → Int} (h : friB a b n F = true) : ∃ h w : Nat, a = (h : Int) ∧ b = (w : Int) ∧ FriI h w n F := by
  simp only [friB, Bool.and_eq_true, decide_eq_true_eq] at h
  obtain ⟨⟨⟨h1, h2⟩, h3⟩, h4⟩ := h
  have h1 := inB_bd h1
  have h2 := inB_bd h2
  obtain ⟨p, rfl⟩ : ∃ p : Nat, a = (p : Int) := ⟨a.toNat, by omega⟩
  obtain ⟨q, rfl⟩ : ∃ q : Nat, b = (q : Int) := ⟨b.toNat, by omega⟩
  exact ⟨p, q, rfl, rfl, by omega, by omega, by omega, by omega, by exact_mod_cast h3, fun t ht => colB_at h4 ht⟩
theorem FriI.b {h w n : Nat} {F : Nat → Int} (p : FriI h w n F) : friB (h : Int) (w : Int) n F = true := by
  obtain ⟨a, b, c, d, e, f⟩ := p
  have hc : colB n F = true := colB_yes fun t ht => by have := f t ht; simp [inB]; omega
  have hn : ((n : Nat) : Int) = (h : Int) * (w : Int) := by exact_mod_cast e
  simp only [friB, Bool.and_eq_true, decide_eq_true_eq]
  exact ⟨⟨⟨by simp [inB]; omega, by simp [inB]; omega⟩, hn⟩, hc⟩
theorem prod_bd {a b : Int} (ha : 1 ≤ a ∧ a ≤ 6) (hb : 1 ≤ b ∧ b ≤ 24) : 1 ≤ a * b ∧ a * b ≤ 144 := by
  obtain ⟨p, rfl⟩ : ∃ p : Nat, a = (p : Int) := ⟨a.toNat, by omega⟩
  obtain ⟨q, rfl⟩ : ∃ q : Nat, b = (q : Int) := ⟨b.toNat, by omega⟩
  have h1 : p * q ≤ 6 * 24 := Nat.mul_le_mul (by omega) (by omega)
  have h2 : 1 * 1 ≤ p * q := Nat.mul_le_mul (by omega) (by omega)
  have e : (p : Int) * (q : Int) = ((p * q : Nat) : Int) := by simp
  rw [e]; omega

set_option maxHeartbeats 4000000 in
theorem within_any {lo hi n : Nat} {v : Value} {F : Nat → Int} {w : World} (h : SRow lo hi 1 v n F w) (hn : n ≤ 144) :
    Calls Try.prog 68 #[v, .int .i64 144, .int .i64 0, .int .i64 9] w fun e w' => e = .returned (.bool (colB n F)) ∧ Below w.heap.size w w' := by
  have HN := Lib.hid hn
  have R := Lib.hid h
  obtain ⟨ao, cap, rfl⟩ := h.slice
  clear h
  have hn2 : (n : Int) ≤ 144 := by omega
  go_enter Try.func68, Try.ntmps68
  go_wp2_with fail
  go_loopw [9] (fun s W => ∃ k : Nat, s = .int .i64 (k : Int) ∧ k ≤ n ∧ (∀ t, t < k → inB (F t) 0 9 = true) ∧ Below w.heap.size w W) (fun s _ => n - (intOf s).toNat)
  case atStart => exact ⟨0, rfl, by omega, fun t ht => by omega, Below.refl _ _⟩
  case round =>
    obtain ⟨k, rfl, hk, hall, hB⟩ := hrel
    have HA := Lib.hid hall
    clear hall
    by_cases hk1 : k < n
    · have hk2 : (k : Int) < (n : Int) := by omega
      have hkx : (k : Int) ≤ 144 := by omega
      have r := R.out.call hB
      obtain ⟨_, _, hr⟩ := r
      obtain ⟨g, cap', e, _, _, r⟩ := hr.resolve_left (fun h => by omega)
      simp only [Value.slice.injEq] at e
      obtain ⟨rfl, _, rfl⟩ := e
      clear hr
      have c0 := r.at k (by omega)
      clear r
      have HB := Lib.hid hB
      clear hB
      rcases hx : inB (F k) 0 9 with _ | _
      · go_wp2_with fail
        refine (l01In_any _ _ _ _).mono ?_
        rintro e w' ⟨rfl, rfl⟩
        go_wp2
        go_ret
        exact ⟨ret_bool (colB_no hk1 hx).symm, HB.out⟩
      · go_wp2_with fail
        refine (l01In_any _ _ _ _).mono ?_
        rintro e w' ⟨rfl, rfl⟩
        go_wp2
        go_roundw
        case rel => exact ⟨k + 1, by go_num, by omega, fun t ht => by rcases Nat.lt_or_ge t k with h | h; exact HA.out t h; (have : t = k := by omega); rw [this]; exact hx, HB.out⟩
        case measure => first | (simp [intOf]; done) | (simp [intOf]; omega)
    · obtain rfl : k = n := by omega
      go_wp2
      go_ret
      exact ⟨ret_bool (by rw [colB_yes HA.out]), hB⟩

set_option maxHeartbeats 8000000 in
theorem specIsFri_any {lo hi n : Nat} {v : Value} {F : Nat → Int} {w : World} (a b : Int) (h : SRow lo hi 1 v n F w) :
    Calls Try.prog 39 #[.agg #[.int .i64 a, .int .i64 b, v]] w fun e w' => e = .returned (.bool (friB a b n F)) ∧ Below w.heap.size w w' := by
  have R := Lib.hid h
  have hn := h.2.1
  obtain ⟨ao, cap, rfl⟩ := h.slice
  clear h
  rcases h1 : inB a 1 6 with _ | _
  · have e : friB a b n F = false := by simp [friB, h1]
    rw [e]
    go_enter Try.func39, Try.ntmps39
    go_wp2_with (go_at_call 61; refine (l01In_any _ _ _ _).mono ?_; rintro e w' ⟨rfl, rfl⟩)
    go_ret
    exact ⟨rfl, (Below.refl _ _).alloc (Nat.le_refl _) _⟩
  rcases h2 : inB b 1 24 with _ | _
  · have e : friB a b n F = false := by simp [friB, h2]
    rw [e]
    go_enter Try.func39, Try.ntmps39
    go_wp2_with (go_at_call 61; refine (l01In_any _ _ _ _).mono ?_; rintro e w' ⟨rfl, rfl⟩)
    go_ret
    exact ⟨rfl, (Below.refl _ _).alloc (Nat.le_refl _) _⟩
  have hp := prod_bd (inB_bd h1) (inB_bd h2)
  by_cases h3 : (n : Int) = a * b
  · have e : friB a b n F = colB n F := by simp [friB, h1, h2, h3]
    have h3b : ((n : Int) == a * b) = true := by simp [h3]
    have hn2 : n ≤ 144 := by omega
    rw [e]
    clear e
    have HN := Lib.hid hn2
    go_enter Try.func39, Try.ntmps39
    go_wp2_with (first | (go_at_call 61; refine (l01In_any _ _ _ _).mono ?_; rintro e w' ⟨rfl, rfl⟩) | (go_at_call 68; refine (within_any (R.out.call ((Below.refl _ _).alloc (Nat.le_refl _) _)) HN.out).mono ?_; rintro e w1 ⟨rfl, hb1⟩))
    go_ret
    exact ⟨rfl, bstep ((Below.refl _ _).alloc (Nat.le_refl _) _) hb1⟩
  · have e : friB a b n F = false := by simp [friB, h3]
    have h3b : ((n : Int) == a * b) = false := by simp [h3]
    rw [e]
    go_enter Try.func39, Try.ntmps39
    go_wp2_with (go_at_call 61; refine (l01In_any _ _ _ _).mono ?_; rintro e w' ⟨rfl, rfl⟩)
    go_ret
    exact ⟨rfl, (Below.refl _ _).alloc (Nat.le_refl _) _⟩
set_option maxHeartbeats 1000000 in
theorem noCol_any (x : Int) (w : World) :
    Calls Try.prog 69 #[.int .i64 x] w fun e w' => e = .returned (.bool (!inB x 0 9)) ∧ Below w.heap.size w w' := by
  by_cases h1 : x < 0
  · have e : inB x 0 9 = false := by simp [inB]; omega
    rw [e]
    go_enter Try.func69, Try.ntmps69
    go_wp2
    go_ret
    exact ⟨rfl, Below.refl _ _⟩
  · have e : (!inB x 0 9) = decide (9 < x) := by by_cases h2 : 9 < x <;> simp [inB, h2] <;> omega
    rw [e]
    go_enter Try.func69, Try.ntmps69
    go_wp2
    go_ret
    exact ⟨rfl, Below.refl _ _⟩
set_option maxHeartbeats 4000000 in
theorem indexCol_any {lo hi n : Nat} {v : Value} {F : Nat → Int} {w : World} (h : SRow lo hi 1 v n F w) (hn : n ≤ 144) :
    Calls Try.prog 79 #[v, .func (.func 69) #[] #[]] w fun e w' => (∃ z : Int, e = .returned (.int .i64 z) ∧ decide (0 ≤ z) = !colB n F ∧ -1 ≤ z ∧ z ≤ 144) ∧ Below w.heap.size w w' := by
  have HN := Lib.hid hn
  have R := Lib.hid h
  obtain ⟨ao, cap, rfl⟩ := h.slice
  clear h
  have hn2 : (n : Int) ≤ 144 := by omega
  go_enter Try.func79, Try.ntmps79
  go_wp2_with fail
  go_loopw [8] (fun s W => ∃ k : Nat, s = .int .i64 (k : Int) ∧ k ≤ n ∧ (∀ t, t < k → inB (F t) 0 9 = true) ∧ Below w.heap.size w W) (fun s _ => n - (intOf s).toNat)
  case atStart => exact ⟨0, rfl, by omega, fun t ht => by omega, Below.refl _ _⟩
  case round =>
    obtain ⟨k, rfl, hk, hall, hB⟩ := hrel
    have HA := Lib.hid hall
    clear hall
    by_cases hk1 : k < n
    · have hk2 : (k : Int) < (n : Int) := by omega
      have hkx : (k : Int) ≤ 144 := by omega
      have r := R.out.call hB
      obtain ⟨_, _, hr⟩ := r
      obtain ⟨g, cap', e, _, _, r⟩ := hr.resolve_left (fun h => by omega)
      simp only [Value.slice.injEq] at e
      obtain ⟨rfl, _, rfl⟩ := e
      clear hr
      have c0 := r.at k (by omega)
      clear r
      have HB := Lib.hid hB
      clear hB
      rcases hx : inB (F k) 0 9 with _ | _
      · go_wp2_with fail
        refine (noCol_any _ _).mono ?_
        rintro e w' ⟨rfl, hb'⟩
        rw [hx]
        go_wp2
        go_ret
        exact ⟨⟨_, rfl, by rw [colB_no hk1 hx]; simp, by omega, by omega⟩, bstep HB.out hb'⟩
      · go_wp2_with fail
        refine (noCol_any _ _).mono ?_
        rintro e w' ⟨rfl, hb'⟩
        rw [hx]
        go_wp2
        go_roundw
        case rel => exact ⟨k + 1, by go_num, by omega, fun t ht => by rcases Nat.lt_or_ge t k with h | h; exact HA.out t h; (have : t = k := by omega); rw [this]; exact hx, bstep HB.out hb'⟩
        case measure => first | (simp [intOf]; done) | (simp [intOf]; omega)
    · obtain rfl : k = n := by omega
      go_wp2
      go_ret
      exact ⟨⟨_, rfl, by rw [colB_yes HA.out]; rfl, by omega, by omega⟩, hB⟩
set_option maxHeartbeats 4000000 in
theorem containsCol_any {lo hi n : Nat} {v : Value} {F : Nat → Int} {w : World} (h : SRow lo hi 1 v n F w) (hn : n ≤ 144) :
    Calls Try.prog 70 #[v, .func (.func 69) #[] #[]] w fun e w' => e = .returned (.bool (!colB n F)) ∧ Below w.heap.size w w' := by
  have HN := Lib.hid hn
  have R := Lib.hid h
  obtain ⟨ao, cap, rfl⟩ := h.slice
  clear h hn
  go_enter Try.func70, Try.ntmps70
  go_wp2_with fail
  refine (indexCol_any R.out HN.out).mono ?_
  rintro e w' ⟨⟨z, rfl, hz, hz1, hz2⟩, hb⟩
  have HZ := Lib.hid hz
  clear hz
  go_wp2
  go_ret
  exact ⟨ret_bool HZ.out, hb⟩
set_option maxHeartbeats 8000000 in
theorem friValid_any {lo hi n : Nat} {v : Value} {F : Nat → Int} {w : World} (a b : Int) (h : SRow lo hi 1 v n F w) :
    Calls Try.prog 45 #[.agg #[.int .i64 a, .int .i64 b, v]] w fun e w' => e = .returned (.bool (friB a b n F)) ∧ Below w.heap.size w w' := by
  have R := Lib.hid h
  have hn := h.2.1
  obtain ⟨ao, cap, rfl⟩ := h.slice
  clear h
  by_cases h1a : a < 1
  · have e : friB a b n F = false := by have : inB a 1 6 = false := (by simp [inB]; omega); simp [friB, this]
    rw [e]
    go_enter Try.func45, Try.ntmps45
    go_wp2
    go_ret
    exact ⟨rfl, (Below.refl _ _).alloc (Nat.le_refl _) _⟩
  by_cases h1b : 6 < a
  · have e : friB a b n F = false := by have : inB a 1 6 = false := (by simp [inB]; omega); simp [friB, this]
    rw [e]
    go_enter Try.func45, Try.ntmps45
    go_wp2
    go_ret
    exact ⟨rfl, (Below.refl _ _).alloc (Nat.le_refl _) _⟩
  by_cases h2a : b < 1
  · have e : friB a b n F = false := by have : inB b 1 24 = false := (by simp [inB]; omega); simp [friB, this]
    rw [e]
    go_enter Try.func45, Try.ntmps45
    go_wp2
    go_ret
    exact ⟨rfl, (Below.refl _ _).alloc (Nat.le_refl _) _⟩
  by_cases h2b : 24 < b
  · have e : friB a b n F = false := by have : inB b 1 24 = false := (by simp [inB]; omega); simp [friB, this]
    rw [e]
    go_enter Try.func45, Try.ntmps45
    go_wp2
    go_ret
    exact ⟨rfl, (Below.refl _ _).alloc (Nat.le_refl _) _⟩
  have hp := prod_bd (a := a) (b := b) (by omega) (by omega)
  have i1 : inB a 1 6 = true := by simp [inB]; omega
  have i2 : inB b 1 24 = true := by simp [inB]; omega
  by_cases h3 : (n : Int) = a * b
  · have e : friB a b n F = colB n F := by simp [friB, i1, i2, h3]
    have h3b : ((n : Int) == a * b) = true := by simp [h3]
    have hn2 : n ≤ 144 := by omega
    rw [e]
    have HN := Lib.hid hn2
    clear e i1 i2
    go_enter Try.func45, Try.ntmps45
    go_wp2_with (go_at_call 70; refine (containsCol_any (R.out.call ((Below.refl _ _).alloc (Nat.le_refl _) _)) HN.out).mono ?_; rintro e w1 ⟨rfl, hb1⟩)
    go_ret
    exact ⟨ret_bool (by simp), bstep ((Below.refl _ _).alloc (Nat.le_refl _) _) hb1⟩
  · have e : friB a b n F = false := by simp [friB, h3]
    have h3b : ((n : Int) == a * b) = false := by simp [h3]
    rw [e]
    clear e i1 i2
    go_enter Try.func45, Try.ntmps45
    go_wp2
    go_ret
    exact ⟨rfl, (Below.refl _ _).alloc (Nat.le_refl _) _⟩
set_option maxHeartbeats 1000000 in
theorem implIsFri_any {lo hi n : Nat} {v : Value} {F : Nat → Int} {w : World} (a b : Int) (h : SRow lo hi 1 v n F w) :
    Calls Try.prog 38 #[.agg #[.int .i64 a, .int .i64 b, v]] w fun e w' => e = .returned (.bool (friB a b n F)) ∧ Below w.heap.size w w' := by
  have R := Lib.hid h
  obtain ⟨ao, cap, rfl⟩ := h.slice
  clear h
  go_enter Try.func38, Try.ntmps38
  go_wp2_with fail
  refine (friValid_any a b (R.out.call ((Below.refl _ _).alloc (Nat.le_refl _) _))).mono ?_
  rintro e w1 ⟨rfl, hb1⟩
  go_wp2
  go_ret
  exact ⟨rfl, bstep ((Below.refl _ _).alloc (Nat.le_refl _) _) hb1⟩
end Go.Proofs.Ytajmfeppnhkcdaa
