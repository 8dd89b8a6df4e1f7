/-
  The model's FillFrieze: what holds between its steps. No condition but those stated.
-/
import Derived.Test.YtajmfeppnhkcdaaFzD
namespace Go.Proofs.Ytajmfeppnhkcdaa
open Go.RowKit
set_option linter.unusedSimpArgs false
set_option linter.unusedVariables false

theorem mkM_mem (s : ByteArray) (w : Nat) : ∀ m, m ∈ (mkM s w).1 ↔ (m ∈ (mkM s w).1) := fun _ => Iff.rfl
/- numbers that a list of cells holds -/
def numOf8 (W : World) (g : Nat) (t : Nat) : Nat := match W.cell? ⟨g, t, none⟩ with | some (.int _ z) => z.toNat | _ => 0
def sumC (W : World) (g n : Nat) : Nat := sumA (numOf8 W g) n
theorem sumA_ext {A B : Nat → Nat} : ∀ {n : Nat}, (∀ t, t < n → A t = B t) → sumA A n = sumA B n
  | 0, _ => rfl
  | n + 1, h => by simp only [sumA]; rw [sumA_ext fun t ht => h t (by omega), h n (by omega)]
theorem sumC_of {g n : Nat} {A : Nat → Nat} {W : World} (h : IRow g n (fun t => ((A t : Nat) : Int)) W) : sumC W g n = sumA A n := by
  unfold sumC
  refine sumA_ext fun t ht => ?_
  unfold numOf8
  rw [h.at t ht]
  rfl
/- one step of the model: the two cells get the lesser number -/
def stepA (A : Nat → Nat) (j k : Nat) : Nat → Nat := fun t => if t = k then min (A j) (A k) else if t = j then min (A j) (A k) else A t
theorem stepA_same {A : Nat → Nat} {j k : Nat} (h : A j = A k) : stepA A j k = A := by
  funext t
  unfold stepA
  by_cases e1 : t = k
  · rw [if_pos e1, e1]; omega
  · rw [if_neg e1]
    by_cases e2 : t = j
    · rw [if_pos e2, e2]; omega
    · rw [if_neg e2]
theorem stepA_le (A : Nat → Nat) (j k t : Nat) : stepA A j k t ≤ A t := by
  unfold stepA
  by_cases e1 : t = k
  · rw [if_pos e1, e1]; omega
  · rw [if_neg e1]
    by_cases e2 : t = j
    · rw [if_pos e2, e2]; omega
    · rw [if_neg e2]; omega
theorem stepA_lt {A : Nat → Nat} {j k n : Nat} (hj : j < n) (hk : k < n) (h : A j ≠ A k) : sumA (stepA A j k) n < sumA A n := by
  rcases Nat.lt_or_ge (A j) (A k) with h1 | h1
  · refine sumA_lt (fun t _ => stepA_le A j k t) hk ?_
    unfold stepA; rw [if_pos rfl]; omega
  · refine sumA_lt (fun t _ => stepA_le A j k t) hj ?_
    have hne : j ≠ k := fun e => h (by rw [e])
    unfold stepA; rw [if_neg hne, if_pos rfl]; omega
/- what holds inside one pass that began with A0: ch tells whether a number has changed; fx: the pairs that have been looked at -/
structure Pass (h w : Nat) (ms lm : List FMo) (A0 A : Nat → Nat) (ch : Bool) (K I : Nat) : Prop where
  fil : FilI h w ms A
  le : sumA A (h * w) ≤ sumA A0 (h * w)
  yes : ch = true → sumA A (h * w) < sumA A0 (h * w)
  no : ch = false → A = A0 ∧ (∀ k, k < K → ∀ m ∈ lm, A0 (imM h w m k) = A0 k) ∧ ∀ i (hi : i < lm.length), i < I → A0 (imM h w lm[i] K) = A0 K
theorem Pass.start {h w : Nat} {ms : List FMo} (lm : List FMo) {A : Nat → Nat} (hA : FilI h w ms A) : Pass h w ms lm A A false 0 0 :=
  ⟨hA, Nat.le_refl _, (fun e => by cases e), fun _ => ⟨rfl, fun k hk => by omega, fun i _ hi => by omega⟩⟩
theorem Pass.row {h w : Nat} {ms lm : List FMo} {A0 A : Nat → Nat} {ch : Bool} {K : Nat} (p : Pass h w ms lm A0 A ch K lm.length) : Pass h w ms lm A0 A ch (K + 1) 0 := by
  refine ⟨p.fil, p.le, p.yes, fun e => ?_⟩
  obtain ⟨a, b, c⟩ := p.no e
  refine ⟨a, fun k hk m hm => ?_, fun i _ hi => by omega⟩
  rcases Nat.lt_or_ge k K with h1 | h1
  · exact b k h1 m hm
  · obtain rfl : k = K := by omega
    obtain ⟨i, hi, rfl⟩ := List.getElem_of_mem hm
    exact c i hi hi
theorem Pass.step {h w : Nat} {ms lm : List FMo} {A0 A : Nat → Nat} {ch : Bool} {K I : Nat} (hm : Maks w ms) (p : Pass h w ms lm A0 A ch K I) (hK : K < h * w) (hI : I < lm.length) (hin : lm[I] ∈ ms) :
    Pass h w ms lm A0 (stepA A (imM h w lm[I] K) K) (ch || A (imM h w lm[I] K) != A K) K (I + 1) := by
  have hj := imM_lt (h := h) (w := w) (m := lm[I]) hK
  have hfil : FilI h w ms (stepA A (imM h w lm[I] K) K) := FilI.step hm p.fil hin hK
  by_cases e : A (imM h w lm[I] K) = A K
  · rw [stepA_same e]
    have hb : (A (imM h w lm[I] K) != A K) = false := by simp [e]
    rw [hb, Bool.or_false]
    refine ⟨p.fil, p.le, p.yes, fun hc => ?_⟩
    obtain ⟨a, b, c⟩ := p.no hc
    refine ⟨a, b, fun i hi hi2 => ?_⟩
    rcases Nat.lt_or_ge i I with h1 | h1
    · exact c i hi h1
    · obtain rfl : i = I := by omega
      rw [← a]; exact e
  · have hlt := stepA_lt hj hK e
    have hb : (A (imM h w lm[I] K) != A K) = true := by simp [e]
    rw [hb, Bool.or_true]
    exact ⟨hfil, by have := p.le; omega, fun _ => by have := p.le; omega, fun hc => by cases hc⟩
set_option maxRecDepth 100000 in
set_option maxHeartbeats 8000000 in
theorem l08Motions_gen (s : ByteArray) (b : Int) (W : World) :
    Calls Try.prog 41 #[.string s, .int .i64 b] W fun e w' => (∃ (u : Value) (c : Bool), e = .returned (.tuple #[u, .bool c])) ∧ Below W.heap.size W w' := by
  have h20 : ¬ (2 : Int) = 0 := by omega
  by_cases n_p1 : s = (⟨#[112, 49]⟩ : ByteArray)
  · subst n_p1
    have q_p1 : ((⟨#[112, 49]⟩ : ByteArray) == (⟨#[112, 49]⟩ : ByteArray)) = true := by decide
    have q_p11m : ((⟨#[112, 49]⟩ : ByteArray) == (⟨#[112, 49, 49, 109]⟩ : ByteArray)) = false := by decide
    have q_p1m1 : ((⟨#[112, 49]⟩ : ByteArray) == (⟨#[112, 49, 109, 49]⟩ : ByteArray)) = false := by decide
    have q_p2 : ((⟨#[112, 49]⟩ : ByteArray) == (⟨#[112, 50]⟩ : ByteArray)) = false := by decide
    have q_p2mm : ((⟨#[112, 49]⟩ : ByteArray) == (⟨#[112, 50, 109, 109]⟩ : ByteArray)) = false := by decide
    have q_p11g : ((⟨#[112, 49]⟩ : ByteArray) == (⟨#[112, 49, 49, 103]⟩ : ByteArray)) = false := by decide
    have q_p2mg : ((⟨#[112, 49]⟩ : ByteArray) == (⟨#[112, 50, 109, 103]⟩ : ByteArray)) = false := by decide
    go_enter Try.func41, Try.ntmps41
    go_wp2
    go_ret2
    exact ⟨⟨_, _, rfl⟩, by repeat (first | with_reducible exact Below.refl _ _ | with_reducible refine Below.setCell ?_ (by first | omega | (simp <;> omega)) _ | with_reducible refine Below.alloc ?_ (by first | omega | (simp <;> omega)) _)⟩
  by_cases n_p11m : s = (⟨#[112, 49, 49, 109]⟩ : ByteArray)
  · subst n_p11m
    have q_p1 : ((⟨#[112, 49, 49, 109]⟩ : ByteArray) == (⟨#[112, 49]⟩ : ByteArray)) = false := by decide
    have q_p11m : ((⟨#[112, 49, 49, 109]⟩ : ByteArray) == (⟨#[112, 49, 49, 109]⟩ : ByteArray)) = true := by decide
    have q_p1m1 : ((⟨#[112, 49, 49, 109]⟩ : ByteArray) == (⟨#[112, 49, 109, 49]⟩ : ByteArray)) = false := by decide
    have q_p2 : ((⟨#[112, 49, 49, 109]⟩ : ByteArray) == (⟨#[112, 50]⟩ : ByteArray)) = false := by decide
    have q_p2mm : ((⟨#[112, 49, 49, 109]⟩ : ByteArray) == (⟨#[112, 50, 109, 109]⟩ : ByteArray)) = false := by decide
    have q_p11g : ((⟨#[112, 49, 49, 109]⟩ : ByteArray) == (⟨#[112, 49, 49, 103]⟩ : ByteArray)) = false := by decide
    have q_p2mg : ((⟨#[112, 49, 49, 109]⟩ : ByteArray) == (⟨#[112, 50, 109, 103]⟩ : ByteArray)) = false := by decide
    go_enter Try.func41, Try.ntmps41
    go_wp2
    go_ret2
    exact ⟨⟨_, _, rfl⟩, by repeat (first | with_reducible exact Below.refl _ _ | with_reducible refine Below.setCell ?_ (by first | omega | (simp <;> omega)) _ | with_reducible refine Below.alloc ?_ (by first | omega | (simp <;> omega)) _)⟩
  by_cases n_p1m1 : s = (⟨#[112, 49, 109, 49]⟩ : ByteArray)
  · subst n_p1m1
    have q_p1 : ((⟨#[112, 49, 109, 49]⟩ : ByteArray) == (⟨#[112, 49]⟩ : ByteArray)) = false := by decide
    have q_p11m : ((⟨#[112, 49, 109, 49]⟩ : ByteArray) == (⟨#[112, 49, 49, 109]⟩ : ByteArray)) = false := by decide
    have q_p1m1 : ((⟨#[112, 49, 109, 49]⟩ : ByteArray) == (⟨#[112, 49, 109, 49]⟩ : ByteArray)) = true := by decide
    have q_p2 : ((⟨#[112, 49, 109, 49]⟩ : ByteArray) == (⟨#[112, 50]⟩ : ByteArray)) = false := by decide
    have q_p2mm : ((⟨#[112, 49, 109, 49]⟩ : ByteArray) == (⟨#[112, 50, 109, 109]⟩ : ByteArray)) = false := by decide
    have q_p11g : ((⟨#[112, 49, 109, 49]⟩ : ByteArray) == (⟨#[112, 49, 49, 103]⟩ : ByteArray)) = false := by decide
    have q_p2mg : ((⟨#[112, 49, 109, 49]⟩ : ByteArray) == (⟨#[112, 50, 109, 103]⟩ : ByteArray)) = false := by decide
    go_enter Try.func41, Try.ntmps41
    go_wp2
    go_ret2
    exact ⟨⟨_, _, rfl⟩, by repeat (first | with_reducible exact Below.refl _ _ | with_reducible refine Below.setCell ?_ (by first | omega | (simp <;> omega)) _ | with_reducible refine Below.alloc ?_ (by first | omega | (simp <;> omega)) _)⟩
  by_cases n_p2 : s = (⟨#[112, 50]⟩ : ByteArray)
  · subst n_p2
    have q_p1 : ((⟨#[112, 50]⟩ : ByteArray) == (⟨#[112, 49]⟩ : ByteArray)) = false := by decide
    have q_p11m : ((⟨#[112, 50]⟩ : ByteArray) == (⟨#[112, 49, 49, 109]⟩ : ByteArray)) = false := by decide
    have q_p1m1 : ((⟨#[112, 50]⟩ : ByteArray) == (⟨#[112, 49, 109, 49]⟩ : ByteArray)) = false := by decide
    have q_p2 : ((⟨#[112, 50]⟩ : ByteArray) == (⟨#[112, 50]⟩ : ByteArray)) = true := by decide
    have q_p2mm : ((⟨#[112, 50]⟩ : ByteArray) == (⟨#[112, 50, 109, 109]⟩ : ByteArray)) = false := by decide
    have q_p11g : ((⟨#[112, 50]⟩ : ByteArray) == (⟨#[112, 49, 49, 103]⟩ : ByteArray)) = false := by decide
    have q_p2mg : ((⟨#[112, 50]⟩ : ByteArray) == (⟨#[112, 50, 109, 103]⟩ : ByteArray)) = false := by decide
    go_enter Try.func41, Try.ntmps41
    go_wp2
    go_ret2
    exact ⟨⟨_, _, rfl⟩, by repeat (first | with_reducible exact Below.refl _ _ | with_reducible refine Below.setCell ?_ (by first | omega | (simp <;> omega)) _ | with_reducible refine Below.alloc ?_ (by first | omega | (simp <;> omega)) _)⟩
  by_cases n_p2mm : s = (⟨#[112, 50, 109, 109]⟩ : ByteArray)
  · subst n_p2mm
    have q_p1 : ((⟨#[112, 50, 109, 109]⟩ : ByteArray) == (⟨#[112, 49]⟩ : ByteArray)) = false := by decide
    have q_p11m : ((⟨#[112, 50, 109, 109]⟩ : ByteArray) == (⟨#[112, 49, 49, 109]⟩ : ByteArray)) = false := by decide
    have q_p1m1 : ((⟨#[112, 50, 109, 109]⟩ : ByteArray) == (⟨#[112, 49, 109, 49]⟩ : ByteArray)) = false := by decide
    have q_p2 : ((⟨#[112, 50, 109, 109]⟩ : ByteArray) == (⟨#[112, 50]⟩ : ByteArray)) = false := by decide
    have q_p2mm : ((⟨#[112, 50, 109, 109]⟩ : ByteArray) == (⟨#[112, 50, 109, 109]⟩ : ByteArray)) = true := by decide
    have q_p11g : ((⟨#[112, 50, 109, 109]⟩ : ByteArray) == (⟨#[112, 49, 49, 103]⟩ : ByteArray)) = false := by decide
    have q_p2mg : ((⟨#[112, 50, 109, 109]⟩ : ByteArray) == (⟨#[112, 50, 109, 103]⟩ : ByteArray)) = false := by decide
    go_enter Try.func41, Try.ntmps41
    go_wp2
    go_ret2
    exact ⟨⟨_, _, rfl⟩, by repeat (first | with_reducible exact Below.refl _ _ | with_reducible refine Below.setCell ?_ (by first | omega | (simp <;> omega)) _ | with_reducible refine Below.alloc ?_ (by first | omega | (simp <;> omega)) _)⟩
  by_cases n_p11g : s = (⟨#[112, 49, 49, 103]⟩ : ByteArray)
  · subst n_p11g
    have q_p1 : ((⟨#[112, 49, 49, 103]⟩ : ByteArray) == (⟨#[112, 49]⟩ : ByteArray)) = false := by decide
    have q_p11m : ((⟨#[112, 49, 49, 103]⟩ : ByteArray) == (⟨#[112, 49, 49, 109]⟩ : ByteArray)) = false := by decide
    have q_p1m1 : ((⟨#[112, 49, 49, 103]⟩ : ByteArray) == (⟨#[112, 49, 109, 49]⟩ : ByteArray)) = false := by decide
    have q_p2 : ((⟨#[112, 49, 49, 103]⟩ : ByteArray) == (⟨#[112, 50]⟩ : ByteArray)) = false := by decide
    have q_p2mm : ((⟨#[112, 49, 49, 103]⟩ : ByteArray) == (⟨#[112, 50, 109, 109]⟩ : ByteArray)) = false := by decide
    have q_p11g : ((⟨#[112, 49, 49, 103]⟩ : ByteArray) == (⟨#[112, 49, 49, 103]⟩ : ByteArray)) = true := by decide
    have q_p2mg : ((⟨#[112, 49, 49, 103]⟩ : ByteArray) == (⟨#[112, 50, 109, 103]⟩ : ByteArray)) = false := by decide
    go_enter Try.func41, Try.ntmps41
    go_wp2
    go_ret2
    exact ⟨⟨_, _, rfl⟩, by repeat (first | with_reducible exact Below.refl _ _ | with_reducible refine Below.setCell ?_ (by first | omega | (simp <;> omega)) _ | with_reducible refine Below.alloc ?_ (by first | omega | (simp <;> omega)) _)⟩
  by_cases n_p2mg : s = (⟨#[112, 50, 109, 103]⟩ : ByteArray)
  · subst n_p2mg
    have q_p1 : ((⟨#[112, 50, 109, 103]⟩ : ByteArray) == (⟨#[112, 49]⟩ : ByteArray)) = false := by decide
    have q_p11m : ((⟨#[112, 50, 109, 103]⟩ : ByteArray) == (⟨#[112, 49, 49, 109]⟩ : ByteArray)) = false := by decide
    have q_p1m1 : ((⟨#[112, 50, 109, 103]⟩ : ByteArray) == (⟨#[112, 49, 109, 49]⟩ : ByteArray)) = false := by decide
    have q_p2 : ((⟨#[112, 50, 109, 103]⟩ : ByteArray) == (⟨#[112, 50]⟩ : ByteArray)) = false := by decide
    have q_p2mm : ((⟨#[112, 50, 109, 103]⟩ : ByteArray) == (⟨#[112, 50, 109, 109]⟩ : ByteArray)) = false := by decide
    have q_p11g : ((⟨#[112, 50, 109, 103]⟩ : ByteArray) == (⟨#[112, 49, 49, 103]⟩ : ByteArray)) = false := by decide
    have q_p2mg : ((⟨#[112, 50, 109, 103]⟩ : ByteArray) == (⟨#[112, 50, 109, 103]⟩ : ByteArray)) = true := by decide
    go_enter Try.func41, Try.ntmps41
    go_wp2
    go_ret2
    exact ⟨⟨_, _, rfl⟩, by repeat (first | with_reducible exact Below.refl _ _ | with_reducible refine Below.setCell ?_ (by first | omega | (simp <;> omega)) _ | with_reducible refine Below.alloc ?_ (by first | omega | (simp <;> omega)) _)⟩
  have q_p1 : (s.toList == [112,49]) = false := tneq n_p1
  have q_p11m : (s.toList == [112,49,49,109]) = false := tneq n_p11m
  have q_p1m1 : (s.toList == [112,49,109,49]) = false := tneq n_p1m1
  have q_p2 : (s.toList == [112,50]) = false := tneq n_p2
  have q_p2mm : (s.toList == [112,50,109,109]) = false := tneq n_p2mm
  have q_p11g : (s.toList == [112,49,49,103]) = false := tneq n_p11g
  have q_p2mg : (s.toList == [112,50,109,103]) = false := tneq n_p2mg
  go_enter Try.func41, Try.ntmps41
  go_wp2
  go_ret2
  exact ⟨⟨_, _, rfl⟩, by repeat (first | with_reducible exact Below.refl _ _ | with_reducible refine Below.setCell ?_ (by first | omega | (simp <;> omega)) _ | with_reducible refine Below.alloc ?_ (by first | omega | (simp <;> omega)) _)⟩
end Go.Proofs.Ytajmfeppnhkcdaa
