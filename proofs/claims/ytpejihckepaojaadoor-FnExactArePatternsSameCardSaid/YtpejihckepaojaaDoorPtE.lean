/-
  Rows of numbers and patterns compared, in the program and in the model. Condition: rows that are not empty.
-/
import Derived.Test.YtpejihckepaojaaDoorPtA
namespace Go.Proofs.YtpejihckepaojaaDoor
open Go.RowKit
set_option linter.unusedSimpArgs false
set_option linter.unusedVariables false

def rowB (n m : Nat) (F G : Nat → Int) : Bool := n == m && (List.range n).all fun t => F t == G t
theorem rowB_yes {n : Nat} {F G : Nat → Int} (h : ∀ t, t < n → F t = G t) : rowB n n F G = true := by
  unfold rowB
  rw [Bool.and_eq_true]
  exact ⟨by simp, List.all_eq_true.2 fun t ht => by rw [h t (List.mem_range.1 ht)]; simp⟩
theorem rowB_no {n k : Nat} {F G : Nat → Int} (hk : k < n) (h : F k ≠ G k) : rowB n n F G = false := by
  unfold rowB
  rw [Bool.and_eq_false_iff]
  refine .inr ?_
  rw [List.all_eq_false]
  exact ⟨k, List.mem_range.2 hk, by simpa using h⟩
theorem rowB_len {n m : Nat} {F G : Nat → Int} (h : n ≠ m) : rowB n m F G = false := by
  unfold rowB
  rw [Bool.and_eq_false_iff]
  exact .inl (by simpa using h)
set_option maxHeartbeats 4000000 in
theorem l01Same_any {lo hi lo' hi' n m : Nat} {v v' : Value} {F G : Nat → Int} {w : World} (h1 : SRow lo hi 1 v n F w) (h2 : SRow lo' hi' 1 v' m G w) (hn : 1 ≤ n) (hm : 1 ≤ m) :
    Calls Tryd.prog 72 #[v, v'] w fun e w' => e = .returned (.bool (rowB n m F G)) ∧ Below w.heap.size w w' := by
  have HM := Lib.hid (And.intro h1.2.1 h2.2.1)
  obtain ⟨g, cap, rfl, _, _, r1⟩ := h1.irow hn
  obtain ⟨g', cap', rfl, _, _, r2⟩ := h2.irow hm
  clear h1 h2
  by_cases e : n = m
  · subst e
    have R1 := Lib.hid r1
    have R2 := Lib.hid r2
    clear r1 r2 hm
    have hnn : ((n : Int) != (n : Int)) = false := by simp
    go_enter Tryd.func72, Tryd.ntmps72
    go_wp2_with fail
    go_loopw [5] (fun i W => ∃ k : Nat, i = .int .i64 (k : Int) ∧ k ≤ n ∧ (∀ t, t < k → F t = G t) ∧ Below w.heap.size w W) (fun i _ => n - (intOf i).toNat)
    case atStart => exact ⟨0, rfl, by omega, fun t ht => by omega, Below.refl _ _⟩
    case round =>
      obtain ⟨k, rfl, hk, hall, hB⟩ := hrel
      have HALL := Lib.hid hall
      clear hall
      by_cases hk1 : k < n
      · have hk2 : (k : Int) < (n : Int) := by omega
        have r1 := R1.out.grow hB R1.out.1
        have r2 := R2.out.grow hB R2.out.1
        have s1 := r1.at k (by omega)
        have s2 := r2.at k (by omega)
        have hmx := HM.out
        clear r1 r2
        by_cases e : F k = G k
        · have HE : Hid (∀ t, t < k + 1 → F t = G t) := Lib.hid (fun t ht => by
            by_cases e9 : t = k
            · subst e9; exact e
            · exact HALL.out t (by omega))
          rw [← e] at s2
          clear e
          generalize F k = x at *
          have hne : (x != x) = false := by simp
          go_wp2_with fail
          go_quiet (fail)
          go_wp2
          go_roundw
          case rel => exact ⟨k + 1, by go_num, by omega, HE.out, below_drewN hB _⟩
          case measure => first | (simp [intOf]; done) | (simp [intOf]; omega)
        · have HE := Lib.hid (rowB_no hk1 e)
          have hne : (F k != G k) = true := by simpa using e
          clear e
          generalize F k = x at *
          generalize G k = y at *
          go_wp2_with fail
          go_quiet (fail)
          go_wp2
          go_ret
          exact ⟨by rw [HE.out]; rfl, by first | exact hB | exact below_drewN hB _⟩
      · obtain rfl : k = n := by omega
        have HE := Lib.hid (rowB_yes HALL.out)
        go_wp2
        go_ret
        exact ⟨by rw [HE.out]; rfl, by first | exact hB | exact below_drewN hB _⟩
  · have HE := Lib.hid (rowB_len (F := F) (G := G) e)
    have hne : ((n : Int) != (m : Int)) = true := by simp; omega
    clear e r1 r2
    go_enter Tryd.func72, Tryd.ntmps72
    go_wp2
    go_ret
    exact ⟨by rw [HE.out]; rfl, by first | exact Below.refl _ _ | exact (Below.refl _ _).drew⟩
set_option maxHeartbeats 4000000 in
theorem slEqual_any {lo hi lo' hi' n m : Nat} {v v' : Value} {F G : Nat → Int} {w : World} (h1 : SRow lo hi 1 v n F w) (h2 : SRow lo' hi' 1 v' m G w) (hn : 1 ≤ n) (hm : 1 ≤ m) :
    Calls Tryd.prog 73 #[v, v'] w fun e w' => e = .returned (.bool (rowB n m F G)) ∧ Below w.heap.size w w' := by
  have HM := Lib.hid (And.intro h1.2.1 h2.2.1)
  obtain ⟨g, cap, rfl, _, _, r1⟩ := h1.irow hn
  obtain ⟨g', cap', rfl, _, _, r2⟩ := h2.irow hm
  clear h1 h2
  by_cases e : n = m
  · subst e
    have R1 := Lib.hid r1
    have R2 := Lib.hid r2
    clear r1 r2 hm
    have hnn : ((n : Int) != (n : Int)) = false := by simp
    go_enter Tryd.func73, Tryd.ntmps73
    go_wp2_with fail
    go_loopw [13] (fun i W => ∃ k : Nat, i = .int .i64 (k : Int) ∧ k ≤ n ∧ (∀ t, t < k → F t = G t) ∧ Below w.heap.size w W) (fun i _ => n - (intOf i).toNat)
    case atStart => exact ⟨0, rfl, by omega, fun t ht => by omega, Below.refl _ _⟩
    case round =>
      obtain ⟨k, rfl, hk, hall, hB⟩ := hrel
      have HALL := Lib.hid hall
      clear hall
      by_cases hk1 : k < n
      · have hk2 : (k : Int) < (n : Int) := by omega
        have r1 := R1.out.grow hB R1.out.1
        have r2 := R2.out.grow hB R2.out.1
        have s1 := r1.at k (by omega)
        have s2 := r2.at k (by omega)
        have hmx := HM.out
        clear r1 r2
        by_cases e : F k = G k
        · have HE : Hid (∀ t, t < k + 1 → F t = G t) := Lib.hid (fun t ht => by
            by_cases e9 : t = k
            · subst e9; exact e
            · exact HALL.out t (by omega))
          rw [← e] at s2
          clear e
          generalize F k = x at *
          have hne : (x != x) = false := by simp
          go_wp2_with fail
          go_quiet (fail)
          go_wp2
          go_roundw
          case rel => exact ⟨k + 1, by go_num, by omega, HE.out, below_drewN hB _⟩
          case measure => first | (simp [intOf]; done) | (simp [intOf]; omega)
        · have HE := Lib.hid (rowB_no hk1 e)
          have hne : (F k != G k) = true := by simpa using e
          clear e
          generalize F k = x at *
          generalize G k = y at *
          go_wp2_with fail
          go_quiet (fail)
          go_wp2
          go_ret
          exact ⟨by rw [HE.out]; rfl, by first | exact hB | exact below_drewN hB _⟩
      · obtain rfl : k = n := by omega
        have HE := Lib.hid (rowB_yes HALL.out)
        go_wp2
        go_ret
        exact ⟨by rw [HE.out]; rfl, by first | exact hB | exact below_drewN hB _⟩
  · have HE := Lib.hid (rowB_len (F := F) (G := G) e)
    have hne : ((n : Int) != (m : Int)) = true := by simp; omega
    clear e r1 r2
    go_enter Tryd.func73, Tryd.ntmps73
    go_wp2
    go_ret
    exact ⟨by rw [HE.out]; rfl, by first | exact Below.refl _ _ | exact (Below.refl _ _).drew⟩
def patEq (f A B C : Int) (n : Nat) (F : Nat → Int) (f' A' B' C' : Int) (m : Nat) (G : Nat → Int) : Bool := (f == f' && (A == A' && (B == B' && C == C'))) && rowB n m F G
set_option maxHeartbeats 8000000 in
theorem equals_any {lo hi lo' hi' n m : Nat} {v v' : Value} {F G : Nat → Int} {w : World} (f A B C f' A' B' C' : Int) (h1 : SRow lo hi 1 v n F w) (h2 : SRow lo' hi' 1 v' m G w) (hn : 1 ≤ n) (hm : 1 ≤ m) :
    Calls Tryd.prog 44 #[.agg #[.int .i64 f, .int .i64 A, .int .i64 B, .int .i64 C, v], .agg #[.int .i64 f', .int .i64 A', .int .i64 B', .int .i64 C', v']] w fun e w' => e = .returned (.bool (patEq f A B C n F f' A' B' C' m G)) ∧ Below w.heap.size w w' := by
  have R1 := Lib.hid h1
  have R2 := Lib.hid h2
  have HN := Lib.hid (And.intro hn hm)
  obtain ⟨ao, cap, rfl⟩ := h1.slice
  obtain ⟨ao', cap', rfl⟩ := h2.slice
  clear h1 h2 hn hm
  by_cases e0 : f = f'
  · subst e0
    by_cases e1 : A = A'
    · subst e1
      by_cases e2 : B = B'
      · subst e2
        by_cases e3 : C = C'
        · subst e3
          have HE := Lib.hid (show patEq f A B C n F f A B C m G = rowB n m F G by simp [patEq])
          go_enter Tryd.func44, Tryd.ntmps44
          go_wp2_with fail
          with_reducible refine (slEqual_any (R1.out.call ?_) (R2.out.call ?_) HN.out.1 HN.out.2).mono ?_
          · repeat (first | with_reducible exact Below.refl _ _ | with_reducible assumption | with_reducible refine Below.setCell ?_ (by first | omega | (dsimp only; omega) | (simp <;> omega)) _ | with_reducible refine Below.alloc ?_ (by first | omega | (simp <;> omega)) _ | with_reducible refine bstep ?_ (by with_reducible assumption) | with_reducible refine Below.drew ?_ | with_reducible refine below_drewN ?_ _)
          · repeat (first | with_reducible exact Below.refl _ _ | with_reducible assumption | with_reducible refine Below.setCell ?_ (by first | omega | (dsimp only; omega) | (simp <;> omega)) _ | with_reducible refine Below.alloc ?_ (by first | omega | (simp <;> omega)) _ | with_reducible refine bstep ?_ (by with_reducible assumption) | with_reducible refine Below.drew ?_ | with_reducible refine below_drewN ?_ _)
          rintro e w1 ⟨rfl, hb1⟩
          go_wp2
          go_ret
          exact ⟨by rw [HE.out]; rfl, bstep (by repeat (first | with_reducible exact Below.refl _ _ | with_reducible assumption | with_reducible refine Below.setCell ?_ (by first | omega | (dsimp only; omega) | (simp <;> omega)) _ | with_reducible refine Below.alloc ?_ (by first | omega | (simp <;> omega)) _ | with_reducible refine bstep ?_ (by with_reducible assumption) | with_reducible refine Below.drew ?_ | with_reducible refine below_drewN ?_ _)) hb1⟩
        · have k3 : (C == C') = false := by simpa using e3
          have HE := Lib.hid (show patEq f A B C n F f A B C' m G = false by simp [patEq, k3])
          exact by (go_enter Tryd.func44, Tryd.ntmps44; go_wp2; go_ret; exact ⟨by rw [HE.out]; rfl, by repeat (first | with_reducible exact Below.refl _ _ | with_reducible assumption | with_reducible refine Below.setCell ?_ (by first | omega | (dsimp only; omega) | (simp <;> omega)) _ | with_reducible refine Below.alloc ?_ (by first | omega | (simp <;> omega)) _ | with_reducible refine bstep ?_ (by with_reducible assumption) | with_reducible refine Below.drew ?_ | with_reducible refine below_drewN ?_ _)⟩)
      · have k2 : (B == B') = false := by simpa using e2
        have HE := Lib.hid (show patEq f A B C n F f A B' C' m G = false by simp [patEq, k2])
        exact by (go_enter Tryd.func44, Tryd.ntmps44; go_wp2; go_ret; exact ⟨by rw [HE.out]; rfl, by repeat (first | with_reducible exact Below.refl _ _ | with_reducible assumption | with_reducible refine Below.setCell ?_ (by first | omega | (dsimp only; omega) | (simp <;> omega)) _ | with_reducible refine Below.alloc ?_ (by first | omega | (simp <;> omega)) _ | with_reducible refine bstep ?_ (by with_reducible assumption) | with_reducible refine Below.drew ?_ | with_reducible refine below_drewN ?_ _)⟩)
    · have k1 : (A == A') = false := by simpa using e1
      have HE := Lib.hid (show patEq f A B C n F f A' B' C' m G = false by simp [patEq, k1])
      exact by (go_enter Tryd.func44, Tryd.ntmps44; go_wp2; go_ret; exact ⟨by rw [HE.out]; rfl, by repeat (first | with_reducible exact Below.refl _ _ | with_reducible assumption | with_reducible refine Below.setCell ?_ (by first | omega | (dsimp only; omega) | (simp <;> omega)) _ | with_reducible refine Below.alloc ?_ (by first | omega | (simp <;> omega)) _ | with_reducible refine bstep ?_ (by with_reducible assumption) | with_reducible refine Below.drew ?_ | with_reducible refine below_drewN ?_ _)⟩)
  · have k0 : (f == f') = false := by simpa using e0
    have HE := Lib.hid (show patEq f A B C n F f' A' B' C' m G = false by simp [patEq, k0])
    exact by (go_enter Tryd.func44, Tryd.ntmps44; go_wp2; go_ret; exact ⟨by rw [HE.out]; rfl, by repeat (first | with_reducible exact Below.refl _ _ | with_reducible assumption | with_reducible refine Below.setCell ?_ (by first | omega | (dsimp only; omega) | (simp <;> omega)) _ | with_reducible refine Below.alloc ?_ (by first | omega | (simp <;> omega)) _ | with_reducible refine bstep ?_ (by with_reducible assumption) | with_reducible refine Below.drew ?_ | with_reducible refine below_drewN ?_ _)⟩)
set_option maxHeartbeats 8000000 in
theorem l09Same_any {lo hi lo' hi' n m : Nat} {v v' : Value} {F G : Nat → Int} {w : World} (f A B C f' A' B' C' : Int) (h1 : SRow lo hi 1 v n F w) (h2 : SRow lo' hi' 1 v' m G w) (hn : 1 ≤ n) (hm : 1 ≤ m) :
    Calls Tryd.prog 43 #[.agg #[.int .i64 f, .int .i64 A, .int .i64 B, .int .i64 C, v], .agg #[.int .i64 f', .int .i64 A', .int .i64 B', .int .i64 C', v']] w fun e w' => e = .returned (.bool (patEq f A B C n F f' A' B' C' m G)) ∧ Below w.heap.size w w' := by
  have R1 := Lib.hid h1
  have R2 := Lib.hid h2
  have HN := Lib.hid (And.intro hn hm)
  obtain ⟨ao, cap, rfl⟩ := h1.slice
  obtain ⟨ao', cap', rfl⟩ := h2.slice
  clear h1 h2 hn hm
  by_cases e0 : f = f'
  · subst e0
    by_cases e1 : A = A'
    · subst e1
      by_cases e2 : B = B'
      · subst e2
        by_cases e3 : C = C'
        · subst e3
          have HE := Lib.hid (show patEq f A B C n F f A B C m G = rowB n m F G by simp [patEq])
          go_enter Tryd.func43, Tryd.ntmps43
          go_wp2_with fail
          with_reducible refine (l01Same_any (R1.out.call ?_) (R2.out.call ?_) HN.out.1 HN.out.2).mono ?_
          · repeat (first | with_reducible exact Below.refl _ _ | with_reducible assumption | with_reducible refine Below.setCell ?_ (by first | omega | (dsimp only; omega) | (simp <;> omega)) _ | with_reducible refine Below.alloc ?_ (by first | omega | (simp <;> omega)) _ | with_reducible refine bstep ?_ (by with_reducible assumption) | with_reducible refine Below.drew ?_ | with_reducible refine below_drewN ?_ _)
          · repeat (first | with_reducible exact Below.refl _ _ | with_reducible assumption | with_reducible refine Below.setCell ?_ (by first | omega | (dsimp only; omega) | (simp <;> omega)) _ | with_reducible refine Below.alloc ?_ (by first | omega | (simp <;> omega)) _ | with_reducible refine bstep ?_ (by with_reducible assumption) | with_reducible refine Below.drew ?_ | with_reducible refine below_drewN ?_ _)
          rintro e w1 ⟨rfl, hb1⟩
          go_wp2
          go_ret
          exact ⟨by rw [HE.out]; rfl, bstep (by repeat (first | with_reducible exact Below.refl _ _ | with_reducible assumption | with_reducible refine Below.setCell ?_ (by first | omega | (dsimp only; omega) | (simp <;> omega)) _ | with_reducible refine Below.alloc ?_ (by first | omega | (simp <;> omega)) _ | with_reducible refine bstep ?_ (by with_reducible assumption) | with_reducible refine Below.drew ?_ | with_reducible refine below_drewN ?_ _)) hb1⟩
        · have k3 : (C == C') = false := by simpa using e3
          have HE := Lib.hid (show patEq f A B C n F f A B C' m G = false by simp [patEq, k3])
          exact by (go_enter Tryd.func43, Tryd.ntmps43; go_wp2; go_ret; exact ⟨by rw [HE.out]; rfl, by repeat (first | with_reducible exact Below.refl _ _ | with_reducible assumption | with_reducible refine Below.setCell ?_ (by first | omega | (dsimp only; omega) | (simp <;> omega)) _ | with_reducible refine Below.alloc ?_ (by first | omega | (simp <;> omega)) _ | with_reducible refine bstep ?_ (by with_reducible assumption) | with_reducible refine Below.drew ?_ | with_reducible refine below_drewN ?_ _)⟩)
      · have k2 : (B == B') = false := by simpa using e2
        have HE := Lib.hid (show patEq f A B C n F f A B' C' m G = false by simp [patEq, k2])
        exact by (go_enter Tryd.func43, Tryd.ntmps43; go_wp2; go_ret; exact ⟨by rw [HE.out]; rfl, by repeat (first | with_reducible exact Below.refl _ _ | with_reducible assumption | with_reducible refine Below.setCell ?_ (by first | omega | (dsimp only; omega) | (simp <;> omega)) _ | with_reducible refine Below.alloc ?_ (by first | omega | (simp <;> omega)) _ | with_reducible refine bstep ?_ (by with_reducible assumption) | with_reducible refine Below.drew ?_ | with_reducible refine below_drewN ?_ _)⟩)
    · have k1 : (A == A') = false := by simpa using e1
      have HE := Lib.hid (show patEq f A B C n F f A' B' C' m G = false by simp [patEq, k1])
      exact by (go_enter Tryd.func43, Tryd.ntmps43; go_wp2; go_ret; exact ⟨by rw [HE.out]; rfl, by repeat (first | with_reducible exact Below.refl _ _ | with_reducible assumption | with_reducible refine Below.setCell ?_ (by first | omega | (dsimp only; omega) | (simp <;> omega)) _ | with_reducible refine Below.alloc ?_ (by first | omega | (simp <;> omega)) _ | with_reducible refine bstep ?_ (by with_reducible assumption) | with_reducible refine Below.drew ?_ | with_reducible refine below_drewN ?_ _)⟩)
  · have k0 : (f == f') = false := by simpa using e0
    have HE := Lib.hid (show patEq f A B C n F f' A' B' C' m G = false by simp [patEq, k0])
    exact by (go_enter Tryd.func43, Tryd.ntmps43; go_wp2; go_ret; exact ⟨by rw [HE.out]; rfl, by repeat (first | with_reducible exact Below.refl _ _ | with_reducible assumption | with_reducible refine Below.setCell ?_ (by first | omega | (dsimp only; omega) | (simp <;> omega)) _ | with_reducible refine Below.alloc ?_ (by first | omega | (simp <;> omega)) _ | with_reducible refine bstep ?_ (by with_reducible assumption) | with_reducible refine Below.drew ?_ | with_reducible refine below_drewN ?_ _)⟩)
end Go.Proofs.YtpejihckepaojaaDoor
