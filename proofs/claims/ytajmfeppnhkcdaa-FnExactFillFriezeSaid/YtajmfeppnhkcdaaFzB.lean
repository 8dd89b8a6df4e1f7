/-
  The motions that a name asks for, in the program and in the model, and the least of a list. Condition: the frieze is valid, for the answer to be told.
-/
import Derived.Test.YtajmfeppnhkcdaaFzY
import Derived.Test.YtajmfeppnhkcdaaFzH
namespace Go.Proofs.Ytajmfeppnhkcdaa
open Go.RowKit
set_option linter.unusedSimpArgs false
set_option linter.unusedVariables false

def mkP (s : ByteArray) (w : Nat) : List FMo × Int :=
  if s = (⟨#[112, 49]⟩ : ByteArray) then ([], 0) else if s = (⟨#[112, 49, 49, 109]⟩ : ByteArray) then ([(false, true, 0)], 0) else if s = (⟨#[112, 49, 109, 49]⟩ : ByteArray) then ([(true, false, 0)], 0) else if s = (⟨#[112, 50]⟩ : ByteArray) then ([(true, true, 0)], 0) else if s = (⟨#[112, 50, 109, 109]⟩ : ByteArray) then ([(true, false, 0), (false, true, 0)], 0) else if s = (⟨#[112, 49, 49, 103]⟩ : ByteArray) then (if w % 2 = 0 then ([(false, true, w / 2)], 0) else ([], 5)) else if s = (⟨#[112, 50, 109, 103]⟩ : ByteArray) then (if w % 2 = 0 then ([(true, false, 0), (false, true, w / 2)], 0) else ([], 5)) else ([], 2)
def mkM (s : ByteArray) (w : Nat) : List FMo × Bool :=
  if s = (⟨#[112, 49]⟩ : ByteArray) then ([], true) else if s = (⟨#[112, 49, 49, 109]⟩ : ByteArray) then ([(false, true, 0)], true) else if s = (⟨#[112, 49, 109, 49]⟩ : ByteArray) then ([(true, false, 0)], true) else if s = (⟨#[112, 50]⟩ : ByteArray) then ([(true, true, 0)], true) else if s = (⟨#[112, 50, 109, 109]⟩ : ByteArray) then ([(false, true, 0), (true, false, 0)], true) else if s = (⟨#[112, 49, 49, 103]⟩ : ByteArray) then ([(false, true, w / 2)], true) else if s = (⟨#[112, 50, 109, 103]⟩ : ByteArray) then ([(true, false, 0), (false, true, w / 2)], true) else ([], false)
theorem tneq {s : ByteArray} {a : Array UInt8} (h : ¬ s = ⟨a⟩) : (s.toList == a.toList) = false := by
  refine beq_eq_false_iff_ne.2 fun e => h ?_
  rw [ByteArray.toList_eq] at e
  cases s with
  | mk d => exact congrArg ByteArray.mk (Array.toList_inj.1 e)
theorem MRo.nil (W : World) : MRo (.slice none 0 0) [] W := .inl ⟨rfl, none, 0, rfl⟩
theorem MRo.one {W : World} {g : Nat} {a b : Bool} {c : Nat} (hg : g < W.heap.size) (h0 : W.cell? ⟨g, 0, none⟩ = some (.bool a)) (h1 : W.cell? ⟨g, 1, none⟩ = some (.bool b)) (h2 : W.cell? ⟨g, 2, none⟩ = some (.int .i64 ((c : Nat) : Int))) (cap : Nat) : MRo (.slice (some ⟨g, 0, none⟩) 1 cap) [(a, b, c)] W := by
  refine .inr ⟨g, cap, rfl, hg, fun k hk => ?_⟩
  obtain rfl : k = 0 := by simpa using hk
  exact ⟨h0, h1, h2⟩
theorem MRo.two {W : World} {g : Nat} {a b a' b' : Bool} {c c' : Nat} (hg : g < W.heap.size) (h0 : W.cell? ⟨g, 0, none⟩ = some (.bool a)) (h1 : W.cell? ⟨g, 1, none⟩ = some (.bool b)) (h2 : W.cell? ⟨g, 2, none⟩ = some (.int .i64 ((c : Nat) : Int)))
    (h3 : W.cell? ⟨g, 3, none⟩ = some (.bool a')) (h4 : W.cell? ⟨g, 4, none⟩ = some (.bool b')) (h5 : W.cell? ⟨g, 5, none⟩ = some (.int .i64 ((c' : Nat) : Int))) (cap : Nat) : MRo (.slice (some ⟨g, 0, none⟩) 2 cap) [(a, b, c), (a', b', c')] W := by
  refine .inr ⟨g, cap, rfl, hg, fun k hk => ?_⟩
  have hk2 : k = 0 ∨ k = 1 := by simp at hk; omega
  rcases hk2 with rfl | rfl
  · exact ⟨h0, h1, h2⟩
  · exact ⟨h3, h4, h5⟩
set_option maxRecDepth 100000 in
set_option maxHeartbeats 8000000 in
theorem makersFor_any {w : Nat} (s : ByteArray) (a : Int) (v : Value) (W : World) (hw : w ≤ 1000) :
    Calls Try.prog 46 #[.agg #[.int .i64 a, .int .i64 (w : Int), v], .string s] W fun e w' => ∃ u : Value, e = .returned (.tuple #[u, .int .i64 (mkP s w).2]) ∧ MRo u (mkP s w).1 w' ∧ Below W.heap.size W w' := by
  have hwi : (w : Int) ≤ 1000 := by omega
  obtain ⟨q, hq⟩ : ∃ q, q = w / 2 := ⟨_, rfl⟩
  obtain ⟨r, hr⟩ : ∃ r, r = w % 2 := ⟨_, rfl⟩
  have hd1 : (w : Int) / 2 = (q : Int) := by rw [hq]; omega
  have hd2 : (w : Int).tdiv 2 = (q : Int) := by rw [Int.tdiv_eq_ediv_of_nonneg (by omega)]; exact hd1
  have hm1 : (w : Int) % 2 = (r : Int) := by rw [hr]; omega
  have hm2 : (w : Int).tmod 2 = (r : Int) := by rw [Int.tmod_eq_emod_of_nonneg (by omega)]; exact hm1
  have hw1 : IntKind.i64.wrap (q : Int) = (q : Int) := IntWalk.i64_in _ (by omega)
  have hw2 : IntKind.i64.wrap (r : Int) = (r : Int) := IntWalk.i64_in _ (by omega)
  have HQ := Lib.hid hq
  have HRR := Lib.hid hr
  clear hq hr
  by_cases n_p1 : s = (⟨#[112, 49]⟩ : ByteArray)
  · subst n_p1
    have q_p1 : ((⟨#[112, 49]⟩ : ByteArray) == (⟨#[112, 49]⟩ : ByteArray)) = true := by decide
    have q_p11m : ((⟨#[112, 49]⟩ : ByteArray) == (⟨#[112, 49, 49, 109]⟩ : ByteArray)) = false := by decide
    have q_p1m1 : ((⟨#[112, 49]⟩ : ByteArray) == (⟨#[112, 49, 109, 49]⟩ : ByteArray)) = false := by decide
    have q_p2 : ((⟨#[112, 49]⟩ : ByteArray) == (⟨#[112, 50]⟩ : ByteArray)) = false := by decide
    have q_p2mm : ((⟨#[112, 49]⟩ : ByteArray) == (⟨#[112, 50, 109, 109]⟩ : ByteArray)) = false := by decide
    have q_p11g : ((⟨#[112, 49]⟩ : ByteArray) == (⟨#[112, 49, 49, 103]⟩ : ByteArray)) = false := by decide
    have q_p2mg : ((⟨#[112, 49]⟩ : ByteArray) == (⟨#[112, 50, 109, 103]⟩ : ByteArray)) = false := by decide
    have e9 : mkP (⟨#[112, 49]⟩ : ByteArray) w = ([], 0) := by unfold mkP; rw [if_pos rfl]
    rw [e9]
    go_enter Try.func46, Try.ntmps46
    go_wp2
    go_ret2
    exact ⟨_, rfl, MRo.nil _, by repeat (first | with_reducible exact Below.refl _ _ | with_reducible refine Below.setCell ?_ (by first | omega | (simp <;> omega)) _ | with_reducible refine Below.alloc ?_ (by first | omega | (simp <;> omega)) _)⟩
  by_cases n_p11m : s = (⟨#[112, 49, 49, 109]⟩ : ByteArray)
  · subst n_p11m
    have q_p1 : ((⟨#[112, 49, 49, 109]⟩ : ByteArray) == (⟨#[112, 49]⟩ : ByteArray)) = false := by decide
    have q_p11m : ((⟨#[112, 49, 49, 109]⟩ : ByteArray) == (⟨#[112, 49, 49, 109]⟩ : ByteArray)) = true := by decide
    have q_p1m1 : ((⟨#[112, 49, 49, 109]⟩ : ByteArray) == (⟨#[112, 49, 109, 49]⟩ : ByteArray)) = false := by decide
    have q_p2 : ((⟨#[112, 49, 49, 109]⟩ : ByteArray) == (⟨#[112, 50]⟩ : ByteArray)) = false := by decide
    have q_p2mm : ((⟨#[112, 49, 49, 109]⟩ : ByteArray) == (⟨#[112, 50, 109, 109]⟩ : ByteArray)) = false := by decide
    have q_p11g : ((⟨#[112, 49, 49, 109]⟩ : ByteArray) == (⟨#[112, 49, 49, 103]⟩ : ByteArray)) = false := by decide
    have q_p2mg : ((⟨#[112, 49, 49, 109]⟩ : ByteArray) == (⟨#[112, 50, 109, 103]⟩ : ByteArray)) = false := by decide
    have e9 : mkP (⟨#[112, 49, 49, 109]⟩ : ByteArray) w = ([(false, true, 0)], 0) := by unfold mkP; rw [if_neg (by decide : ¬ (⟨#[112, 49, 49, 109]⟩ : ByteArray) = (⟨#[112, 49]⟩ : ByteArray)), if_pos rfl]
    rw [e9]
    go_enter Try.func46, Try.ntmps46
    go_wp2
    go_ret2
    exact ⟨_, rfl, MRo.one (by simp) (by simp [go_sem]) (by simp [go_sem]) (by simp [go_sem]) _, by repeat (first | with_reducible exact Below.refl _ _ | with_reducible refine Below.setCell ?_ (by first | omega | (simp <;> omega)) _ | with_reducible refine Below.alloc ?_ (by first | omega | (simp <;> omega)) _)⟩
  by_cases n_p1m1 : s = (⟨#[112, 49, 109, 49]⟩ : ByteArray)
  · subst n_p1m1
    have q_p1 : ((⟨#[112, 49, 109, 49]⟩ : ByteArray) == (⟨#[112, 49]⟩ : ByteArray)) = false := by decide
    have q_p11m : ((⟨#[112, 49, 109, 49]⟩ : ByteArray) == (⟨#[112, 49, 49, 109]⟩ : ByteArray)) = false := by decide
    have q_p1m1 : ((⟨#[112, 49, 109, 49]⟩ : ByteArray) == (⟨#[112, 49, 109, 49]⟩ : ByteArray)) = true := by decide
    have q_p2 : ((⟨#[112, 49, 109, 49]⟩ : ByteArray) == (⟨#[112, 50]⟩ : ByteArray)) = false := by decide
    have q_p2mm : ((⟨#[112, 49, 109, 49]⟩ : ByteArray) == (⟨#[112, 50, 109, 109]⟩ : ByteArray)) = false := by decide
    have q_p11g : ((⟨#[112, 49, 109, 49]⟩ : ByteArray) == (⟨#[112, 49, 49, 103]⟩ : ByteArray)) = false := by decide
    have q_p2mg : ((⟨#[112, 49, 109, 49]⟩ : ByteArray) == (⟨#[112, 50, 109, 103]⟩ : ByteArray)) = false := by decide
    have e9 : mkP (⟨#[112, 49, 109, 49]⟩ : ByteArray) w = ([(true, false, 0)], 0) := by unfold mkP; rw [if_neg (by decide : ¬ (⟨#[112, 49, 109, 49]⟩ : ByteArray) = (⟨#[112, 49]⟩ : ByteArray)), if_neg (by decide : ¬ (⟨#[112, 49, 109, 49]⟩ : ByteArray) = (⟨#[112, 49, 49, 109]⟩ : ByteArray)), if_pos rfl]
    rw [e9]
    go_enter Try.func46, Try.ntmps46
    go_wp2
    go_ret2
    exact ⟨_, rfl, MRo.one (by simp) (by simp [go_sem]) (by simp [go_sem]) (by simp [go_sem]) _, by repeat (first | with_reducible exact Below.refl _ _ | with_reducible refine Below.setCell ?_ (by first | omega | (simp <;> omega)) _ | with_reducible refine Below.alloc ?_ (by first | omega | (simp <;> omega)) _)⟩
  by_cases n_p2 : s = (⟨#[112, 50]⟩ : ByteArray)
  · subst n_p2
    have q_p1 : ((⟨#[112, 50]⟩ : ByteArray) == (⟨#[112, 49]⟩ : ByteArray)) = false := by decide
    have q_p11m : ((⟨#[112, 50]⟩ : ByteArray) == (⟨#[112, 49, 49, 109]⟩ : ByteArray)) = false := by decide
    have q_p1m1 : ((⟨#[112, 50]⟩ : ByteArray) == (⟨#[112, 49, 109, 49]⟩ : ByteArray)) = false := by decide
    have q_p2 : ((⟨#[112, 50]⟩ : ByteArray) == (⟨#[112, 50]⟩ : ByteArray)) = true := by decide
    have q_p2mm : ((⟨#[112, 50]⟩ : ByteArray) == (⟨#[112, 50, 109, 109]⟩ : ByteArray)) = false := by decide
    have q_p11g : ((⟨#[112, 50]⟩ : ByteArray) == (⟨#[112, 49, 49, 103]⟩ : ByteArray)) = false := by decide
    have q_p2mg : ((⟨#[112, 50]⟩ : ByteArray) == (⟨#[112, 50, 109, 103]⟩ : ByteArray)) = false := by decide
    have e9 : mkP (⟨#[112, 50]⟩ : ByteArray) w = ([(true, true, 0)], 0) := by unfold mkP; rw [if_neg (by decide : ¬ (⟨#[112, 50]⟩ : ByteArray) = (⟨#[112, 49]⟩ : ByteArray)), if_neg (by decide : ¬ (⟨#[112, 50]⟩ : ByteArray) = (⟨#[112, 49, 49, 109]⟩ : ByteArray)), if_neg (by decide : ¬ (⟨#[112, 50]⟩ : ByteArray) = (⟨#[112, 49, 109, 49]⟩ : ByteArray)), if_pos rfl]
    rw [e9]
    go_enter Try.func46, Try.ntmps46
    go_wp2
    go_ret2
    exact ⟨_, rfl, MRo.one (by simp) (by simp [go_sem]) (by simp [go_sem]) (by simp [go_sem]) _, by repeat (first | with_reducible exact Below.refl _ _ | with_reducible refine Below.setCell ?_ (by first | omega | (simp <;> omega)) _ | with_reducible refine Below.alloc ?_ (by first | omega | (simp <;> omega)) _)⟩
  by_cases n_p2mm : s = (⟨#[112, 50, 109, 109]⟩ : ByteArray)
  · subst n_p2mm
    have q_p1 : ((⟨#[112, 50, 109, 109]⟩ : ByteArray) == (⟨#[112, 49]⟩ : ByteArray)) = false := by decide
    have q_p11m : ((⟨#[112, 50, 109, 109]⟩ : ByteArray) == (⟨#[112, 49, 49, 109]⟩ : ByteArray)) = false := by decide
    have q_p1m1 : ((⟨#[112, 50, 109, 109]⟩ : ByteArray) == (⟨#[112, 49, 109, 49]⟩ : ByteArray)) = false := by decide
    have q_p2 : ((⟨#[112, 50, 109, 109]⟩ : ByteArray) == (⟨#[112, 50]⟩ : ByteArray)) = false := by decide
    have q_p2mm : ((⟨#[112, 50, 109, 109]⟩ : ByteArray) == (⟨#[112, 50, 109, 109]⟩ : ByteArray)) = true := by decide
    have q_p11g : ((⟨#[112, 50, 109, 109]⟩ : ByteArray) == (⟨#[112, 49, 49, 103]⟩ : ByteArray)) = false := by decide
    have q_p2mg : ((⟨#[112, 50, 109, 109]⟩ : ByteArray) == (⟨#[112, 50, 109, 103]⟩ : ByteArray)) = false := by decide
    have e9 : mkP (⟨#[112, 50, 109, 109]⟩ : ByteArray) w = ([(true, false, 0), (false, true, 0)], 0) := by unfold mkP; rw [if_neg (by decide : ¬ (⟨#[112, 50, 109, 109]⟩ : ByteArray) = (⟨#[112, 49]⟩ : ByteArray)), if_neg (by decide : ¬ (⟨#[112, 50, 109, 109]⟩ : ByteArray) = (⟨#[112, 49, 49, 109]⟩ : ByteArray)), if_neg (by decide : ¬ (⟨#[112, 50, 109, 109]⟩ : ByteArray) = (⟨#[112, 49, 109, 49]⟩ : ByteArray)), if_neg (by decide : ¬ (⟨#[112, 50, 109, 109]⟩ : ByteArray) = (⟨#[112, 50]⟩ : ByteArray)), if_pos rfl]
    rw [e9]
    go_enter Try.func46, Try.ntmps46
    go_wp2
    go_ret2
    exact ⟨_, rfl, MRo.two (by simp) (by simp [go_sem]) (by simp [go_sem]) (by simp [go_sem]) (by simp [go_sem]) (by simp [go_sem]) (by simp [go_sem]) _, by repeat (first | with_reducible exact Below.refl _ _ | with_reducible refine Below.setCell ?_ (by first | omega | (simp <;> omega)) _ | with_reducible refine Below.alloc ?_ (by first | omega | (simp <;> omega)) _)⟩
  by_cases n_p11g : s = (⟨#[112, 49, 49, 103]⟩ : ByteArray)
  · subst n_p11g
    have q_p1 : ((⟨#[112, 49, 49, 103]⟩ : ByteArray) == (⟨#[112, 49]⟩ : ByteArray)) = false := by decide
    have q_p11m : ((⟨#[112, 49, 49, 103]⟩ : ByteArray) == (⟨#[112, 49, 49, 109]⟩ : ByteArray)) = false := by decide
    have q_p1m1 : ((⟨#[112, 49, 49, 103]⟩ : ByteArray) == (⟨#[112, 49, 109, 49]⟩ : ByteArray)) = false := by decide
    have q_p2 : ((⟨#[112, 49, 49, 103]⟩ : ByteArray) == (⟨#[112, 50]⟩ : ByteArray)) = false := by decide
    have q_p2mm : ((⟨#[112, 49, 49, 103]⟩ : ByteArray) == (⟨#[112, 50, 109, 109]⟩ : ByteArray)) = false := by decide
    have q_p11g : ((⟨#[112, 49, 49, 103]⟩ : ByteArray) == (⟨#[112, 49, 49, 103]⟩ : ByteArray)) = true := by decide
    have q_p2mg : ((⟨#[112, 49, 49, 103]⟩ : ByteArray) == (⟨#[112, 50, 109, 103]⟩ : ByteArray)) = false := by decide
    by_cases hodd : w % 2 = 0
    · have h99 : (r : Int) = 0 := by rw [HRR.out]; omega
      have e9 : mkP (⟨#[112, 49, 49, 103]⟩ : ByteArray) w = ([(false, true, q)], 0) := by rw [HQ.out]; unfold mkP; rw [if_neg (by decide : ¬ (⟨#[112, 49, 49, 103]⟩ : ByteArray) = (⟨#[112, 49]⟩ : ByteArray)), if_neg (by decide : ¬ (⟨#[112, 49, 49, 103]⟩ : ByteArray) = (⟨#[112, 49, 49, 109]⟩ : ByteArray)), if_neg (by decide : ¬ (⟨#[112, 49, 49, 103]⟩ : ByteArray) = (⟨#[112, 49, 109, 49]⟩ : ByteArray)), if_neg (by decide : ¬ (⟨#[112, 49, 49, 103]⟩ : ByteArray) = (⟨#[112, 50]⟩ : ByteArray)), if_neg (by decide : ¬ (⟨#[112, 49, 49, 103]⟩ : ByteArray) = (⟨#[112, 50, 109, 109]⟩ : ByteArray)), if_pos rfl, if_pos hodd]
      rw [e9]
      have hodd9 := Lib.hid hodd
      clear hodd
      go_enter Try.func46, Try.ntmps46
      go_wp2
      go_ret2
      exact ⟨_, rfl, MRo.one (by simp) (by simp [go_sem]) (by simp [go_sem]) (by simp [go_sem]) _, by repeat (first | with_reducible exact Below.refl _ _ | with_reducible refine Below.setCell ?_ (by first | omega | (simp <;> omega)) _ | with_reducible refine Below.alloc ?_ (by first | omega | (simp <;> omega)) _)⟩
    · have h99 : ¬ (r : Int) = 0 := by rw [HRR.out]; omega
      have e9 : mkP (⟨#[112, 49, 49, 103]⟩ : ByteArray) w = ([], 5) := by unfold mkP; rw [if_neg (by decide : ¬ (⟨#[112, 49, 49, 103]⟩ : ByteArray) = (⟨#[112, 49]⟩ : ByteArray)), if_neg (by decide : ¬ (⟨#[112, 49, 49, 103]⟩ : ByteArray) = (⟨#[112, 49, 49, 109]⟩ : ByteArray)), if_neg (by decide : ¬ (⟨#[112, 49, 49, 103]⟩ : ByteArray) = (⟨#[112, 49, 109, 49]⟩ : ByteArray)), if_neg (by decide : ¬ (⟨#[112, 49, 49, 103]⟩ : ByteArray) = (⟨#[112, 50]⟩ : ByteArray)), if_neg (by decide : ¬ (⟨#[112, 49, 49, 103]⟩ : ByteArray) = (⟨#[112, 50, 109, 109]⟩ : ByteArray)), if_pos rfl, if_neg hodd]
      rw [e9]
      have hodd9 := Lib.hid hodd
      clear hodd
      go_enter Try.func46, Try.ntmps46
      go_wp2
      go_ret2
      exact ⟨_, rfl, MRo.nil _, by repeat (first | with_reducible exact Below.refl _ _ | with_reducible refine Below.setCell ?_ (by first | omega | (simp <;> omega)) _ | with_reducible refine Below.alloc ?_ (by first | omega | (simp <;> omega)) _)⟩
  by_cases n_p2mg : s = (⟨#[112, 50, 109, 103]⟩ : ByteArray)
  · subst n_p2mg
    have q_p1 : ((⟨#[112, 50, 109, 103]⟩ : ByteArray) == (⟨#[112, 49]⟩ : ByteArray)) = false := by decide
    have q_p11m : ((⟨#[112, 50, 109, 103]⟩ : ByteArray) == (⟨#[112, 49, 49, 109]⟩ : ByteArray)) = false := by decide
    have q_p1m1 : ((⟨#[112, 50, 109, 103]⟩ : ByteArray) == (⟨#[112, 49, 109, 49]⟩ : ByteArray)) = false := by decide
    have q_p2 : ((⟨#[112, 50, 109, 103]⟩ : ByteArray) == (⟨#[112, 50]⟩ : ByteArray)) = false := by decide
    have q_p2mm : ((⟨#[112, 50, 109, 103]⟩ : ByteArray) == (⟨#[112, 50, 109, 109]⟩ : ByteArray)) = false := by decide
    have q_p11g : ((⟨#[112, 50, 109, 103]⟩ : ByteArray) == (⟨#[112, 49, 49, 103]⟩ : ByteArray)) = false := by decide
    have q_p2mg : ((⟨#[112, 50, 109, 103]⟩ : ByteArray) == (⟨#[112, 50, 109, 103]⟩ : ByteArray)) = true := by decide
    by_cases hodd : w % 2 = 0
    · have h99 : (r : Int) = 0 := by rw [HRR.out]; omega
      have e9 : mkP (⟨#[112, 50, 109, 103]⟩ : ByteArray) w = ([(true, false, 0), (false, true, q)], 0) := by rw [HQ.out]; unfold mkP; rw [if_neg (by decide : ¬ (⟨#[112, 50, 109, 103]⟩ : ByteArray) = (⟨#[112, 49]⟩ : ByteArray)), if_neg (by decide : ¬ (⟨#[112, 50, 109, 103]⟩ : ByteArray) = (⟨#[112, 49, 49, 109]⟩ : ByteArray)), if_neg (by decide : ¬ (⟨#[112, 50, 109, 103]⟩ : ByteArray) = (⟨#[112, 49, 109, 49]⟩ : ByteArray)), if_neg (by decide : ¬ (⟨#[112, 50, 109, 103]⟩ : ByteArray) = (⟨#[112, 50]⟩ : ByteArray)), if_neg (by decide : ¬ (⟨#[112, 50, 109, 103]⟩ : ByteArray) = (⟨#[112, 50, 109, 109]⟩ : ByteArray)), if_neg (by decide : ¬ (⟨#[112, 50, 109, 103]⟩ : ByteArray) = (⟨#[112, 49, 49, 103]⟩ : ByteArray)), if_pos rfl, if_pos hodd]
      rw [e9]
      have hodd9 := Lib.hid hodd
      clear hodd
      go_enter Try.func46, Try.ntmps46
      go_wp2
      go_ret2
      exact ⟨_, rfl, MRo.two (by simp) (by simp [go_sem]) (by simp [go_sem]) (by simp [go_sem]) (by simp [go_sem]) (by simp [go_sem]) (by simp [go_sem]) _, by repeat (first | with_reducible exact Below.refl _ _ | with_reducible refine Below.setCell ?_ (by first | omega | (simp <;> omega)) _ | with_reducible refine Below.alloc ?_ (by first | omega | (simp <;> omega)) _)⟩
    · have h99 : ¬ (r : Int) = 0 := by rw [HRR.out]; omega
      have e9 : mkP (⟨#[112, 50, 109, 103]⟩ : ByteArray) w = ([], 5) := by unfold mkP; rw [if_neg (by decide : ¬ (⟨#[112, 50, 109, 103]⟩ : ByteArray) = (⟨#[112, 49]⟩ : ByteArray)), if_neg (by decide : ¬ (⟨#[112, 50, 109, 103]⟩ : ByteArray) = (⟨#[112, 49, 49, 109]⟩ : ByteArray)), if_neg (by decide : ¬ (⟨#[112, 50, 109, 103]⟩ : ByteArray) = (⟨#[112, 49, 109, 49]⟩ : ByteArray)), if_neg (by decide : ¬ (⟨#[112, 50, 109, 103]⟩ : ByteArray) = (⟨#[112, 50]⟩ : ByteArray)), if_neg (by decide : ¬ (⟨#[112, 50, 109, 103]⟩ : ByteArray) = (⟨#[112, 50, 109, 109]⟩ : ByteArray)), if_neg (by decide : ¬ (⟨#[112, 50, 109, 103]⟩ : ByteArray) = (⟨#[112, 49, 49, 103]⟩ : ByteArray)), if_pos rfl, if_neg hodd]
      rw [e9]
      have hodd9 := Lib.hid hodd
      clear hodd
      go_enter Try.func46, Try.ntmps46
      go_wp2
      go_ret2
      exact ⟨_, rfl, MRo.nil _, by repeat (first | with_reducible exact Below.refl _ _ | with_reducible refine Below.setCell ?_ (by first | omega | (simp <;> omega)) _ | with_reducible refine Below.alloc ?_ (by first | omega | (simp <;> omega)) _)⟩
  have q_p1 : (s.toList == [112,49]) = false := tneq n_p1
  have q_p11m : (s.toList == [112,49,49,109]) = false := tneq n_p11m
  have q_p1m1 : (s.toList == [112,49,109,49]) = false := tneq n_p1m1
  have q_p2 : (s.toList == [112,50]) = false := tneq n_p2
  have q_p2mm : (s.toList == [112,50,109,109]) = false := tneq n_p2mm
  have q_p11g : (s.toList == [112,49,49,103]) = false := tneq n_p11g
  have q_p2mg : (s.toList == [112,50,109,103]) = false := tneq n_p2mg
  have e9 : mkP s w = ([], 2) := by unfold mkP; rw [if_neg n_p1, if_neg n_p11m, if_neg n_p1m1, if_neg n_p2, if_neg n_p2mm, if_neg n_p11g, if_neg n_p2mg]
  rw [e9]
  go_enter Try.func46, Try.ntmps46
  go_wp2
  go_ret2
  exact ⟨_, rfl, MRo.nil _, by repeat (first | with_reducible exact Below.refl _ _ | with_reducible refine Below.setCell ?_ (by first | omega | (simp <;> omega)) _ | with_reducible refine Below.alloc ?_ (by first | omega | (simp <;> omega)) _)⟩
set_option maxRecDepth 100000 in
set_option maxHeartbeats 8000000 in
theorem l08Motions_any {w : Nat} (s : ByteArray) (W : World) (hw : w ≤ 1000) :
    Calls Try.prog 41 #[.string s, .int .i64 (w : Int)] W fun e w' => ∃ u : Value, e = .returned (.tuple #[u, .bool (mkM s w).2]) ∧ MRo u (mkM s w).1 w' ∧ Below W.heap.size W w' := by
  have hwi : (w : Int) ≤ 1000 := by omega
  obtain ⟨q, hq⟩ : ∃ q, q = w / 2 := ⟨_, rfl⟩
  obtain ⟨r, hr⟩ : ∃ r, r = w % 2 := ⟨_, rfl⟩
  have hd1 : (w : Int) / 2 = (q : Int) := by rw [hq]; omega
  have hd2 : (w : Int).tdiv 2 = (q : Int) := by rw [Int.tdiv_eq_ediv_of_nonneg (by omega)]; exact hd1
  have hm1 : (w : Int) % 2 = (r : Int) := by rw [hr]; omega
  have hm2 : (w : Int).tmod 2 = (r : Int) := by rw [Int.tmod_eq_emod_of_nonneg (by omega)]; exact hm1
  have hw1 : IntKind.i64.wrap (q : Int) = (q : Int) := IntWalk.i64_in _ (by omega)
  have hw2 : IntKind.i64.wrap (r : Int) = (r : Int) := IntWalk.i64_in _ (by omega)
  have HQ := Lib.hid hq
  have HRR := Lib.hid hr
  clear hq hr
  by_cases n_p1 : s = (⟨#[112, 49]⟩ : ByteArray)
  · subst n_p1
    have q_p1 : ((⟨#[112, 49]⟩ : ByteArray) == (⟨#[112, 49]⟩ : ByteArray)) = true := by decide
    have q_p11m : ((⟨#[112, 49]⟩ : ByteArray) == (⟨#[112, 49, 49, 109]⟩ : ByteArray)) = false := by decide
    have q_p1m1 : ((⟨#[112, 49]⟩ : ByteArray) == (⟨#[112, 49, 109, 49]⟩ : ByteArray)) = false := by decide
    have q_p2 : ((⟨#[112, 49]⟩ : ByteArray) == (⟨#[112, 50]⟩ : ByteArray)) = false := by decide
    have q_p2mm : ((⟨#[112, 49]⟩ : ByteArray) == (⟨#[112, 50, 109, 109]⟩ : ByteArray)) = false := by decide
    have q_p11g : ((⟨#[112, 49]⟩ : ByteArray) == (⟨#[112, 49, 49, 103]⟩ : ByteArray)) = false := by decide
    have q_p2mg : ((⟨#[112, 49]⟩ : ByteArray) == (⟨#[112, 50, 109, 103]⟩ : ByteArray)) = false := by decide
    have e9 : mkM (⟨#[112, 49]⟩ : ByteArray) w = ([], true) := by unfold mkM; rw [if_pos rfl]
    rw [e9]
    go_enter Try.func41, Try.ntmps41
    go_wp2
    go_ret2
    exact ⟨_, rfl, MRo.nil _, by repeat (first | with_reducible exact Below.refl _ _ | with_reducible refine Below.setCell ?_ (by first | omega | (simp <;> omega)) _ | with_reducible refine Below.alloc ?_ (by first | omega | (simp <;> omega)) _)⟩
  by_cases n_p11m : s = (⟨#[112, 49, 49, 109]⟩ : ByteArray)
  · subst n_p11m
    have q_p1 : ((⟨#[112, 49, 49, 109]⟩ : ByteArray) == (⟨#[112, 49]⟩ : ByteArray)) = false := by decide
    have q_p11m : ((⟨#[112, 49, 49, 109]⟩ : ByteArray) == (⟨#[112, 49, 49, 109]⟩ : ByteArray)) = true := by decide
    have q_p1m1 : ((⟨#[112, 49, 49, 109]⟩ : ByteArray) == (⟨#[112, 49, 109, 49]⟩ : ByteArray)) = false := by decide
    have q_p2 : ((⟨#[112, 49, 49, 109]⟩ : ByteArray) == (⟨#[112, 50]⟩ : ByteArray)) = false := by decide
    have q_p2mm : ((⟨#[112, 49, 49, 109]⟩ : ByteArray) == (⟨#[112, 50, 109, 109]⟩ : ByteArray)) = false := by decide
    have q_p11g : ((⟨#[112, 49, 49, 109]⟩ : ByteArray) == (⟨#[112, 49, 49, 103]⟩ : ByteArray)) = false := by decide
    have q_p2mg : ((⟨#[112, 49, 49, 109]⟩ : ByteArray) == (⟨#[112, 50, 109, 103]⟩ : ByteArray)) = false := by decide
    have e9 : mkM (⟨#[112, 49, 49, 109]⟩ : ByteArray) w = ([(false, true, 0)], true) := by unfold mkM; rw [if_neg (by decide : ¬ (⟨#[112, 49, 49, 109]⟩ : ByteArray) = (⟨#[112, 49]⟩ : ByteArray)), if_pos rfl]
    rw [e9]
    go_enter Try.func41, Try.ntmps41
    go_wp2
    go_ret2
    exact ⟨_, rfl, MRo.one (by simp) (by simp [go_sem]) (by simp [go_sem]) (by simp [go_sem]) _, by repeat (first | with_reducible exact Below.refl _ _ | with_reducible refine Below.setCell ?_ (by first | omega | (simp <;> omega)) _ | with_reducible refine Below.alloc ?_ (by first | omega | (simp <;> omega)) _)⟩
  by_cases n_p1m1 : s = (⟨#[112, 49, 109, 49]⟩ : ByteArray)
  · subst n_p1m1
    have q_p1 : ((⟨#[112, 49, 109, 49]⟩ : ByteArray) == (⟨#[112, 49]⟩ : ByteArray)) = false := by decide
    have q_p11m : ((⟨#[112, 49, 109, 49]⟩ : ByteArray) == (⟨#[112, 49, 49, 109]⟩ : ByteArray)) = false := by decide
    have q_p1m1 : ((⟨#[112, 49, 109, 49]⟩ : ByteArray) == (⟨#[112, 49, 109, 49]⟩ : ByteArray)) = true := by decide
    have q_p2 : ((⟨#[112, 49, 109, 49]⟩ : ByteArray) == (⟨#[112, 50]⟩ : ByteArray)) = false := by decide
    have q_p2mm : ((⟨#[112, 49, 109, 49]⟩ : ByteArray) == (⟨#[112, 50, 109, 109]⟩ : ByteArray)) = false := by decide
    have q_p11g : ((⟨#[112, 49, 109, 49]⟩ : ByteArray) == (⟨#[112, 49, 49, 103]⟩ : ByteArray)) = false := by decide
    have q_p2mg : ((⟨#[112, 49, 109, 49]⟩ : ByteArray) == (⟨#[112, 50, 109, 103]⟩ : ByteArray)) = false := by decide
    have e9 : mkM (⟨#[112, 49, 109, 49]⟩ : ByteArray) w = ([(true, false, 0)], true) := by unfold mkM; rw [if_neg (by decide : ¬ (⟨#[112, 49, 109, 49]⟩ : ByteArray) = (⟨#[112, 49]⟩ : ByteArray)), if_neg (by decide : ¬ (⟨#[112, 49, 109, 49]⟩ : ByteArray) = (⟨#[112, 49, 49, 109]⟩ : ByteArray)), if_pos rfl]
    rw [e9]
    go_enter Try.func41, Try.ntmps41
    go_wp2
    go_ret2
    exact ⟨_, rfl, MRo.one (by simp) (by simp [go_sem]) (by simp [go_sem]) (by simp [go_sem]) _, by repeat (first | with_reducible exact Below.refl _ _ | with_reducible refine Below.setCell ?_ (by first | omega | (simp <;> omega)) _ | with_reducible refine Below.alloc ?_ (by first | omega | (simp <;> omega)) _)⟩
  by_cases n_p2 : s = (⟨#[112, 50]⟩ : ByteArray)
  · subst n_p2
    have q_p1 : ((⟨#[112, 50]⟩ : ByteArray) == (⟨#[112, 49]⟩ : ByteArray)) = false := by decide
    have q_p11m : ((⟨#[112, 50]⟩ : ByteArray) == (⟨#[112, 49, 49, 109]⟩ : ByteArray)) = false := by decide
    have q_p1m1 : ((⟨#[112, 50]⟩ : ByteArray) == (⟨#[112, 49, 109, 49]⟩ : ByteArray)) = false := by decide
    have q_p2 : ((⟨#[112, 50]⟩ : ByteArray) == (⟨#[112, 50]⟩ : ByteArray)) = true := by decide
    have q_p2mm : ((⟨#[112, 50]⟩ : ByteArray) == (⟨#[112, 50, 109, 109]⟩ : ByteArray)) = false := by decide
    have q_p11g : ((⟨#[112, 50]⟩ : ByteArray) == (⟨#[112, 49, 49, 103]⟩ : ByteArray)) = false := by decide
    have q_p2mg : ((⟨#[112, 50]⟩ : ByteArray) == (⟨#[112, 50, 109, 103]⟩ : ByteArray)) = false := by decide
    have e9 : mkM (⟨#[112, 50]⟩ : ByteArray) w = ([(true, true, 0)], true) := by unfold mkM; rw [if_neg (by decide : ¬ (⟨#[112, 50]⟩ : ByteArray) = (⟨#[112, 49]⟩ : ByteArray)), if_neg (by decide : ¬ (⟨#[112, 50]⟩ : ByteArray) = (⟨#[112, 49, 49, 109]⟩ : ByteArray)), if_neg (by decide : ¬ (⟨#[112, 50]⟩ : ByteArray) = (⟨#[112, 49, 109, 49]⟩ : ByteArray)), if_pos rfl]
    rw [e9]
    go_enter Try.func41, Try.ntmps41
    go_wp2
    go_ret2
    exact ⟨_, rfl, MRo.one (by simp) (by simp [go_sem]) (by simp [go_sem]) (by simp [go_sem]) _, by repeat (first | with_reducible exact Below.refl _ _ | with_reducible refine Below.setCell ?_ (by first | omega | (simp <;> omega)) _ | with_reducible refine Below.alloc ?_ (by first | omega | (simp <;> omega)) _)⟩
  by_cases n_p2mm : s = (⟨#[112, 50, 109, 109]⟩ : ByteArray)
  · subst n_p2mm
    have q_p1 : ((⟨#[112, 50, 109, 109]⟩ : ByteArray) == (⟨#[112, 49]⟩ : ByteArray)) = false := by decide
    have q_p11m : ((⟨#[112, 50, 109, 109]⟩ : ByteArray) == (⟨#[112, 49, 49, 109]⟩ : ByteArray)) = false := by decide
    have q_p1m1 : ((⟨#[112, 50, 109, 109]⟩ : ByteArray) == (⟨#[112, 49, 109, 49]⟩ : ByteArray)) = false := by decide
    have q_p2 : ((⟨#[112, 50, 109, 109]⟩ : ByteArray) == (⟨#[112, 50]⟩ : ByteArray)) = false := by decide
    have q_p2mm : ((⟨#[112, 50, 109, 109]⟩ : ByteArray) == (⟨#[112, 50, 109, 109]⟩ : ByteArray)) = true := by decide
    have q_p11g : ((⟨#[112, 50, 109, 109]⟩ : ByteArray) == (⟨#[112, 49, 49, 103]⟩ : ByteArray)) = false := by decide
    have q_p2mg : ((⟨#[112, 50, 109, 109]⟩ : ByteArray) == (⟨#[112, 50, 109, 103]⟩ : ByteArray)) = false := by decide
    have e9 : mkM (⟨#[112, 50, 109, 109]⟩ : ByteArray) w = ([(false, true, 0), (true, false, 0)], true) := by unfold mkM; rw [if_neg (by decide : ¬ (⟨#[112, 50, 109, 109]⟩ : ByteArray) = (⟨#[112, 49]⟩ : ByteArray)), if_neg (by decide : ¬ (⟨#[112, 50, 109, 109]⟩ : ByteArray) = (⟨#[112, 49, 49, 109]⟩ : ByteArray)), if_neg (by decide : ¬ (⟨#[112, 50, 109, 109]⟩ : ByteArray) = (⟨#[112, 49, 109, 49]⟩ : ByteArray)), if_neg (by decide : ¬ (⟨#[112, 50, 109, 109]⟩ : ByteArray) = (⟨#[112, 50]⟩ : ByteArray)), if_pos rfl]
    rw [e9]
    go_enter Try.func41, Try.ntmps41
    go_wp2
    go_ret2
    exact ⟨_, rfl, MRo.two (by simp) (by simp [go_sem]) (by simp [go_sem]) (by simp [go_sem]) (by simp [go_sem]) (by simp [go_sem]) (by simp [go_sem]) _, by repeat (first | with_reducible exact Below.refl _ _ | with_reducible refine Below.setCell ?_ (by first | omega | (simp <;> omega)) _ | with_reducible refine Below.alloc ?_ (by first | omega | (simp <;> omega)) _)⟩
  by_cases n_p11g : s = (⟨#[112, 49, 49, 103]⟩ : ByteArray)
  · subst n_p11g
    have q_p1 : ((⟨#[112, 49, 49, 103]⟩ : ByteArray) == (⟨#[112, 49]⟩ : ByteArray)) = false := by decide
    have q_p11m : ((⟨#[112, 49, 49, 103]⟩ : ByteArray) == (⟨#[112, 49, 49, 109]⟩ : ByteArray)) = false := by decide
    have q_p1m1 : ((⟨#[112, 49, 49, 103]⟩ : ByteArray) == (⟨#[112, 49, 109, 49]⟩ : ByteArray)) = false := by decide
    have q_p2 : ((⟨#[112, 49, 49, 103]⟩ : ByteArray) == (⟨#[112, 50]⟩ : ByteArray)) = false := by decide
    have q_p2mm : ((⟨#[112, 49, 49, 103]⟩ : ByteArray) == (⟨#[112, 50, 109, 109]⟩ : ByteArray)) = false := by decide
    have q_p11g : ((⟨#[112, 49, 49, 103]⟩ : ByteArray) == (⟨#[112, 49, 49, 103]⟩ : ByteArray)) = true := by decide
    have q_p2mg : ((⟨#[112, 49, 49, 103]⟩ : ByteArray) == (⟨#[112, 50, 109, 103]⟩ : ByteArray)) = false := by decide
    have e9 : mkM (⟨#[112, 49, 49, 103]⟩ : ByteArray) w = ([(false, true, q)], true) := by rw [HQ.out]; unfold mkM; rw [if_neg (by decide : ¬ (⟨#[112, 49, 49, 103]⟩ : ByteArray) = (⟨#[112, 49]⟩ : ByteArray)), if_neg (by decide : ¬ (⟨#[112, 49, 49, 103]⟩ : ByteArray) = (⟨#[112, 49, 49, 109]⟩ : ByteArray)), if_neg (by decide : ¬ (⟨#[112, 49, 49, 103]⟩ : ByteArray) = (⟨#[112, 49, 109, 49]⟩ : ByteArray)), if_neg (by decide : ¬ (⟨#[112, 49, 49, 103]⟩ : ByteArray) = (⟨#[112, 50]⟩ : ByteArray)), if_neg (by decide : ¬ (⟨#[112, 49, 49, 103]⟩ : ByteArray) = (⟨#[112, 50, 109, 109]⟩ : ByteArray)), if_pos rfl]
    rw [e9]
    go_enter Try.func41, Try.ntmps41
    go_wp2
    go_ret2
    exact ⟨_, rfl, MRo.one (by simp) (by simp [go_sem]) (by simp [go_sem]) (by simp [go_sem]) _, by repeat (first | with_reducible exact Below.refl _ _ | with_reducible refine Below.setCell ?_ (by first | omega | (simp <;> omega)) _ | with_reducible refine Below.alloc ?_ (by first | omega | (simp <;> omega)) _)⟩
  by_cases n_p2mg : s = (⟨#[112, 50, 109, 103]⟩ : ByteArray)
  · subst n_p2mg
    have q_p1 : ((⟨#[112, 50, 109, 103]⟩ : ByteArray) == (⟨#[112, 49]⟩ : ByteArray)) = false := by decide
    have q_p11m : ((⟨#[112, 50, 109, 103]⟩ : ByteArray) == (⟨#[112, 49, 49, 109]⟩ : ByteArray)) = false := by decide
    have q_p1m1 : ((⟨#[112, 50, 109, 103]⟩ : ByteArray) == (⟨#[112, 49, 109, 49]⟩ : ByteArray)) = false := by decide
    have q_p2 : ((⟨#[112, 50, 109, 103]⟩ : ByteArray) == (⟨#[112, 50]⟩ : ByteArray)) = false := by decide
    have q_p2mm : ((⟨#[112, 50, 109, 103]⟩ : ByteArray) == (⟨#[112, 50, 109, 109]⟩ : ByteArray)) = false := by decide
    have q_p11g : ((⟨#[112, 50, 109, 103]⟩ : ByteArray) == (⟨#[112, 49, 49, 103]⟩ : ByteArray)) = false := by decide
    have q_p2mg : ((⟨#[112, 50, 109, 103]⟩ : ByteArray) == (⟨#[112, 50, 109, 103]⟩ : ByteArray)) = true := by decide
    have e9 : mkM (⟨#[112, 50, 109, 103]⟩ : ByteArray) w = ([(true, false, 0), (false, true, q)], true) := by rw [HQ.out]; unfold mkM; rw [if_neg (by decide : ¬ (⟨#[112, 50, 109, 103]⟩ : ByteArray) = (⟨#[112, 49]⟩ : ByteArray)), if_neg (by decide : ¬ (⟨#[112, 50, 109, 103]⟩ : ByteArray) = (⟨#[112, 49, 49, 109]⟩ : ByteArray)), if_neg (by decide : ¬ (⟨#[112, 50, 109, 103]⟩ : ByteArray) = (⟨#[112, 49, 109, 49]⟩ : ByteArray)), if_neg (by decide : ¬ (⟨#[112, 50, 109, 103]⟩ : ByteArray) = (⟨#[112, 50]⟩ : ByteArray)), if_neg (by decide : ¬ (⟨#[112, 50, 109, 103]⟩ : ByteArray) = (⟨#[112, 50, 109, 109]⟩ : ByteArray)), if_neg (by decide : ¬ (⟨#[112, 50, 109, 103]⟩ : ByteArray) = (⟨#[112, 49, 49, 103]⟩ : ByteArray)), if_pos rfl]
    rw [e9]
    go_enter Try.func41, Try.ntmps41
    go_wp2
    go_ret2
    exact ⟨_, rfl, MRo.two (by simp) (by simp [go_sem]) (by simp [go_sem]) (by simp [go_sem]) (by simp [go_sem]) (by simp [go_sem]) (by simp [go_sem]) _, by repeat (first | with_reducible exact Below.refl _ _ | with_reducible refine Below.setCell ?_ (by first | omega | (simp <;> omega)) _ | with_reducible refine Below.alloc ?_ (by first | omega | (simp <;> omega)) _)⟩
  have q_p1 : (s.toList == [112,49]) = false := tneq n_p1
  have q_p11m : (s.toList == [112,49,49,109]) = false := tneq n_p11m
  have q_p1m1 : (s.toList == [112,49,109,49]) = false := tneq n_p1m1
  have q_p2 : (s.toList == [112,50]) = false := tneq n_p2
  have q_p2mm : (s.toList == [112,50,109,109]) = false := tneq n_p2mm
  have q_p11g : (s.toList == [112,49,49,103]) = false := tneq n_p11g
  have q_p2mg : (s.toList == [112,50,109,103]) = false := tneq n_p2mg
  have e9 : mkM s w = ([], false) := by unfold mkM; rw [if_neg n_p1, if_neg n_p11m, if_neg n_p1m1, if_neg n_p2, if_neg n_p2mm, if_neg n_p11g, if_neg n_p2mg]
  rw [e9]
  go_enter Try.func41, Try.ntmps41
  go_wp2
  go_ret2
  exact ⟨_, rfl, MRo.nil _, by repeat (first | with_reducible exact Below.refl _ _ | with_reducible refine Below.setCell ?_ (by first | omega | (simp <;> omega)) _ | with_reducible refine Below.alloc ?_ (by first | omega | (simp <;> omega)) _)⟩
end Go.Proofs.Ytajmfeppnhkcdaa
