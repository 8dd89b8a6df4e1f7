/-
 Whether a pattern is valid, in the program and in the model. Condition: a slice that lies in a block of its own.
-/
import Derived.Test.YtdgophfembpniaaGreatDoorGv
import Derived.Test.YtdgophfembpniaaGreatDoorGe
import Derived.Deep.RegionHeld3
namespace Go.Proofs.YtdgophfembpniaaGreatDoor
open Go.RowKit
set_option linter.unusedSimpArgs false
set_option linter.unusedVariables false
theorem tkPtV9 {md P ops Q S} {i : Nat} {oi : Oper} {v : Value} {fuel : Nat} {listed : Array Bool} {a : Act} {w : World} (hi : ops[i]? = some oi := by (simp only [List.getElem?_toArray, List.getElem?_cons_succ, List.getElem?_cons_zero]); rfl) (hs : Region.noSelect ops = true := by kernel_rfl) (hf : Region.free md ops listed i = true := by kernel_rfl) (hr : (Region.ready md ops listed).contains i = true := by kernel_rfl) (hQ : ∀ c a w, Q (.panic c) (a.put oi.dst v) w → Q (.panic c) a w := by exact fun _ _ _ h => h) (hy : YieldsIf P ops S oi v a) (hS : S w := by assumption) (h : wpAnyH P md ops Q S fuel (listed.setIfInBounds i true) (a.put oi.dst v) w) : wpAnyH P md ops Q S (fuel + 1) listed a w := wpAnyH_take hi hs hf hr hQ hy hS h

def patB (f A B C : Int) (n : Nat) (F : Nat → Int) : Bool := frB f && (latB A B C && (decide ((n : Int) = A * C) && colB n F))
/- a valid pattern: p times q cells -/
structure PatI (f : Int) (p : Nat) (B : Int) (q n : Nat) (F : Nat → Int) : Prop where
 fr : frB f = true
 lat : latI (p : Int) B (q : Int)
 nn : n = p * q
 col : ∀ t, t < n → 0 ≤ F t ∧ F t ≤ 9
theorem PatI.bd {f B : Int} {p q n : Nat} {F : Nat → Int} (h : PatI f p B q n F) : 1 ≤ p ∧ p ≤ 64 ∧ 1 ≤ q ∧ q ≤ 64 ∧ n ≤ 64 ∧ 1 ≤ n := by
 obtain ⟨_, hl, rfl, _⟩ := h
 have h1 := latI_bd hl
 have h2 := hl.2.2.2.2
 have h3 := hl.1
 have h4 := hl.2.1
 have e : ((p * q : Nat) : Int) = (p : Int) * (q : Int) := by simp
 have h5 : 1 * 1 ≤ p * q := Nat.mul_le_mul (by omega) (by omega)
 omega
theorem patB_of {f A B C : Int} {n : Nat} {F : Nat → Int} (h : patB f A B C n F = true) : ∃ p q : Nat, A = (p : Int) ∧ C = (q : Int) ∧ PatI f p B q n F := by
 simp only [patB, Bool.and_eq_true, decide_eq_true_eq] at h
 obtain ⟨h1, h2, h3, h4⟩ := h
 have hl := latB_iff.1 h2
 obtain ⟨p, rfl⟩ : ∃ p : Nat, A = (p : Int) := ⟨A.toNat, by have := hl.1; omega⟩
 obtain ⟨q, rfl⟩ : ∃ q : Nat, C = (q : Int) := ⟨C.toNat, by have := hl.2.1; omega⟩
 exact ⟨p, q, rfl, rfl, h1, hl, by exact_mod_cast h3, fun t ht => colB_at h4 ht⟩
theorem PatI.b {f B : Int} {p q n : Nat} {F : Nat → Int} (h : PatI f p B q n F) : patB f (p : Int) B (q : Int) n F = true := by
 obtain ⟨a, b, c, d⟩ := h
 have hc : colB n F = true := colB_yes fun t ht => by have := d t ht; simp [inB]; omega
 have hn : ((n : Nat) : Int) = (p : Int) * (q : Int) := by exact_mod_cast c
 simp only [patB, Bool.and_eq_true, decide_eq_true_eq]
 exact ⟨a, latB_iff.2 b, hn, hc⟩
theorem lat_prod {A B C : Int} (h : latB A B C = true) : 1 ≤ A * C ∧ A * C ≤ 64 := by
 have hl := latB_iff.1 h
 refine ⟨?_, hl.2.2.2.2⟩
 have := Int.mul_le_mul hl.1 hl.2.1 (by omega) (by have := hl.1; omega)
 omega
set_option maxHeartbeats 4000000 in
theorem withinC_any {lo hi n : Nat} {v : Value} {F : Nat → Int} {w : World} (h : SRow lo hi 1 v n F w) (hn : n ≤ 2000000) :
  Calls Tryz.prog 56 #[v, .int .i64 64, .int .i64 0, .int .i64 9] w fun e w' => e = .returned (.bool (colB n F && decide (n ≤ 64))) ∧ Below w.heap.size w w' := by
 have R := Lib.hid h
 obtain ⟨ao, cap, rfl⟩ := h.slice
 clear h
 have hn2 : (n : Int) ≤ 2000000 := by omega
 go_enter Tryz.func56, Tryz.ntmps56
 go_wp2_with fail
 go_loopw [9] (fun s W => ∃ k : Nat, s = .int .i64 (k : Int) ∧ k ≤ n ∧ (∀ t, t < k → inB (F t) 0 9 = true) ∧ Below w.heap.size w W) (fun s _ => n - (intOf s).toNat)
 case atStart => exact ⟨0, rfl, by omega, fun t ht => by omega, Below.refl _ _⟩
 case round =>
  obtain ⟨k, rfl, hk, hall, hB⟩ := hrel
  have HA := Lib.hid hall
  clear hall
  by_cases hk1 : k < n
  ·have hk2 : (k : Int) < (n : Int) := by omega
   have hkx : (k : Int) ≤ 2000000 := by omega
   have r := R.out.call hB
   obtain ⟨_, _, hr⟩ := r
   obtain ⟨g, cap', e, _, _, r⟩ := hr.resolve_left (fun h => by omega)
   simp only [Value.slice.injEq] at e
   obtain ⟨rfl, _, rfl⟩ := e
   clear hr
   have c0 := r.at k (by omega)
   clear r
   have HB := Lib.hid hB
   clear hB
   rcases hx : inB (F k) 0 9 with _ | _
   ·go_wp2_with fail
    refine (l01In_any _ _ _ _).mono ?_
    rintro e w' ⟨rfl, rfl⟩
    go_wp2
    go_ret
    exact ⟨ret_bool (by simp [colB_no hk1 hx]), HB.out⟩
   ·go_wp2_with fail
    refine (l01In_any _ _ _ _).mono ?_
    rintro e w' ⟨rfl, rfl⟩
    go_wp2
    go_roundw
    case rel => exact ⟨k + 1, by go_num, by omega, fun t ht => by rcases Nat.lt_or_ge t k with h | h; exact HA.out t h; (have : t = k := by omega); rw [this]; exact hx, HB.out⟩
    case measure => first | (simp [intOf]; done) | (simp [intOf]; omega)
  ·obtain rfl : k = n := by omega
   go_wp2
   go_ret
   exact ⟨ret_bool (by rw [colB_yes HA.out, Bool.true_and]; first | (congr 1; done) | (exact decide_eq_decide.2 (by omega)) | (rw [Bool.eq_iff_iff]; simp; omega)), hB⟩
theorem within64_any {lo hi n : Nat} {v : Value} {F : Nat → Int} {w : World} (h : SRow lo hi 1 v n F w) (hn : n ≤ 64) :
  Calls Tryz.prog 56 #[v, .int .i64 64, .int .i64 0, .int .i64 9] w fun e w' => e = .returned (.bool (colB n F)) ∧ Below w.heap.size w w' := by
 have := withinC_any h (show n ≤ 2000000 by omega)
 simpa [hn] using this
set_option maxHeartbeats 1000000 in
theorem noColP_any (x : Int) (w : World) :
  Calls Tryz.prog 93 #[.int .i64 x] w fun e w' => e = .returned (.bool (!inB x 0 9)) ∧ Below w.heap.size w w' := by
 by_cases h1 : x < 0
 ·have e : inB x 0 9 = false := by simp [inB]; omega
  rw [e]
  go_enter Tryz.func93, Tryz.ntmps93
  go_wp2
  go_ret
  exact ⟨rfl, Below.refl _ _⟩
 ·have e : (!inB x 0 9) = decide (9 < x) := by by_cases h2 : 9 < x <;> simp [inB, h2] <;> omega
  rw [e]
  go_enter Tryz.func93, Tryz.ntmps93
  go_wp2
  go_ret
  exact ⟨rfl, Below.refl _ _⟩
set_option maxHeartbeats 4000000 in
theorem indexColP_any {lo hi n : Nat} {v : Value} {F : Nat → Int} {w : World} (h : SRow lo hi 1 v n F w) (hn : n ≤ 2000000) :
  Calls Tryz.prog 125 #[v, .func (.func 93) #[] #[]] w fun e w' => (∃ z : Int, e = .returned (.int .i64 z) ∧ decide (0 ≤ z) = !colB n F ∧ -1 ≤ z ∧ z ≤ 2000000) ∧ Below w.heap.size w w' := by
 have R := Lib.hid h
 obtain ⟨ao, cap, rfl⟩ := h.slice
 clear h
 have hn2 : (n : Int) ≤ 2000000 := by omega
 go_enter Tryz.func125, Tryz.ntmps125
 go_wp2_with fail
 go_loopw [8] (fun s W => ∃ k : Nat, s = .int .i64 (k : Int) ∧ k ≤ n ∧ (∀ t, t < k → inB (F t) 0 9 = true) ∧ Below w.heap.size w W) (fun s _ => n - (intOf s).toNat)
 case atStart => exact ⟨0, rfl, by omega, fun t ht => by omega, Below.refl _ _⟩
 case round =>
  obtain ⟨k, rfl, hk, hall, hB⟩ := hrel
  have HA := Lib.hid hall
  clear hall
  by_cases hk1 : k < n
  ·have hk2 : (k : Int) < (n : Int) := by omega
   have hkx : (k : Int) ≤ 2000000 := by omega
   have r := R.out.call hB
   obtain ⟨_, _, hr⟩ := r
   obtain ⟨g, cap', e, _, _, r⟩ := hr.resolve_left (fun h => by omega)
   simp only [Value.slice.injEq] at e
   obtain ⟨rfl, _, rfl⟩ := e
   clear hr
   have c0 := r.at k (by omega)
   clear r
   have HB := Lib.hid hB
   clear hB
   rcases hx : inB (F k) 0 9 with _ | _
   ·go_wp2_with fail
    refine (noColP_any _ _).mono ?_
    rintro e w' ⟨rfl, hb'⟩
    rw [hx]
    go_wp2
    go_ret
    exact ⟨⟨_, rfl, by rw [colB_no hk1 hx]; simp, by omega, by omega⟩, bstep HB.out hb'⟩
   ·go_wp2_with fail
    refine (noColP_any _ _).mono ?_
    rintro e w' ⟨rfl, hb'⟩
    rw [hx]
    go_wp2
    go_roundw
    case rel => exact ⟨k + 1, by go_num, by omega, fun t ht => by rcases Nat.lt_or_ge t k with h | h; exact HA.out t h; (have : t = k := by omega); rw [this]; exact hx, bstep HB.out hb'⟩
    case measure => first | (simp [intOf]; done) | (simp [intOf]; omega)
  ·obtain rfl : k = n := by omega
   go_wp2
   go_ret
   exact ⟨⟨_, rfl, by rw [colB_yes HA.out]; rfl, by omega, by omega⟩, hB⟩
set_option maxHeartbeats 4000000 in
theorem containsColP_any {lo hi n : Nat} {v : Value} {F : Nat → Int} {w : World} (h : SRow lo hi 1 v n F w) (hn : n ≤ 2000000) :
  Calls Tryz.prog 94 #[v, .func (.func 93) #[] #[]] w fun e w' => e = .returned (.bool (!colB n F)) ∧ Below w.heap.size w w' := by
 have HN := Lib.hid hn
 have R := Lib.hid h
 obtain ⟨ao, cap, rfl⟩ := h.slice
 clear h hn
 go_enter Tryz.func94, Tryz.ntmps94
 go_wp2_with fail
 refine (indexColP_any R.out HN.out).mono ?_
 rintro e w' ⟨⟨z, rfl, hz, hz1, hz2⟩, hb⟩
 have HZ := Lib.hid hz
 clear hz
 go_wp2
 go_ret
 exact ⟨ret_bool HZ.out, hb⟩
set_option maxHeartbeats 4000000 in
theorem areCol_any {lo hi n : Nat} {v : Value} {F : Nat → Int} {w : World} (h : SRow lo hi 1 v n F w) (hn : n ≤ 2000000) :
  Calls Tryz.prog 60 #[v] w fun e w' => e = .returned (.bool (colB n F)) ∧ Below w.heap.size w w' := by
 have HN := Lib.hid hn
 have R := Lib.hid h
 obtain ⟨ao, cap, rfl⟩ := h.slice
 clear h hn
 obtain ⟨b, hb9⟩ : ∃ b, b = colB n F := ⟨_, rfl⟩
 have C := Lib.hid (containsColP_any R.out HN.out)
 rw [← hb9] at C ⊢
 go_enter Tryz.func60, Tryz.ntmps60
 go_wp2_with fail
 refine C.out.mono ?_
 rintro e w' ⟨rfl, hb⟩
 go_wp2
 go_ret
 exact ⟨ret_bool hb9.symm, hb⟩
theorem l04CodeP_any (f A B C : Int) (w : World) :
  Calls Tryz.prog 101 #[.int .i64 f, .agg #[.int .i64 A, .int .i64 B, .int .i64 C]] w fun e w' => e = .returned (.int .i64 (bif frB f && latB A B C then 0 else 1)) ∧ Below w.heap.size w w' := by
 rcases h : frB f with _ | _
 ·rw [show (bif false && latB A B C then (0 : Int) else 1) = 1 from rfl]
  go_enter Tryz.func101, Tryz.ntmps101
  go_wp2_with fail
  refine (specIsFrame_any _ _).mono ?_
  rintro e w1 ⟨rfl, rfl⟩
  rw [h]
  go_wp2
  go_ret
  exact ⟨rfl, (Below.refl _ _).alloc (Nat.le_refl _) _⟩
 rcases hl : latB A B C with _ | _
 all_goals
  first | rw [show (bif true && true then (0 : Int) else 1) = 0 from rfl] | rw [show (bif true && false then (0 : Int) else 1) = 1 from rfl]
  go_enter Tryz.func101, Tryz.ntmps101
  go_wp2_with fail
  refine (specIsFrame_any _ _).mono ?_
  rintro e w1 ⟨rfl, rfl⟩
  rw [h]
  go_wp2_with fail
  refine (specIsLattice_any _ _ _ _).mono ?_
  rintro e w2 ⟨rfl, hb2⟩
  rw [hl]
  go_wp2
  go_ret
  exact ⟨rfl, bstep ((Below.refl _ _).alloc (Nat.le_refl _) _) hb2⟩
theorem indexP_any (A B C : Int) (w : World) (h : -1000000 ≤ A * C ∧ A * C ≤ 1000000) :
  Calls Tryz.prog 95 #[.agg #[.int .i64 A, .int .i64 B, .int .i64 C]] w fun e w' => e = .returned (.int .i64 (A * C)) ∧ Below w.heap.size w w' := by
 go_enter Tryz.func95, Tryz.ntmps95
 go_wp2
 go_ret
 exact ⟨rfl, by repeat (first | with_reducible exact Below.refl _ _ | with_reducible assumption | with_reducible refine Below.setCell ?_ (by first | omega | (dsimp only; omega) | (simp <;> omega)) _ | with_reducible refine Below.alloc ?_ (by first | omega | (simp <;> omega)) _ | with_reducible refine bstep ?_ (by with_reducible assumption) | with_reducible refine Below.drew ?_ | with_reducible refine below_drewN ?_ _)⟩
set_option maxHeartbeats 8000000 in
theorem specIsPat_any {lo hi n : Nat} {v : Value} {F : Nat → Int} {w : World} (f A B C : Int) (h : SRow lo hi 1 v n F w) :
  Calls Tryz.prog 77 #[.agg #[.int .i64 f, .int .i64 A, .int .i64 B, .int .i64 C, v]] w fun e w' => e = .returned (.bool (patB f A B C n F)) ∧ Below w.heap.size w w' := by
 have R := Lib.hid h
 have hn := h.2.1
 obtain ⟨ao, cap, rfl⟩ := h.slice
 clear h
 have P0 : Bx w.heap.size [.int .i64 f, .int .i64 A, .int .i64 B, .int .i64 C, (.slice ao n cap)] (w.alloc (.cells #[.int .i64 f, .int .i64 A, .int .i64 B, .int .i64 C, .slice ao n cap] 34)) := Bx.at _ rfl
 have B0 : Below w.heap.size w (w.alloc (.cells #[.int .i64 f, .int .i64 A, .int .i64 B, .int .i64 C, .slice ao n cap] 34)) := (Below.refl _ _).alloc (Nat.le_refl _) _
 rcases h1 : (frB f && latB A B C) with _ | _
 ·have e : patB f A B C n F = false := by rw [patB, ← Bool.and_assoc, h1]; rfl
  rw [e]
  clear e
  go_enter Tryz.func77, Tryz.ntmps77
  go_wp2_with fail
  with_reducible refine (l04CodeP_any f A B C _).mono ?_
  rintro e w1 ⟨rfl, hb1⟩
  rw [h1]
  have P1 := P0.call hb1
  have B1 := bstep B0 hb1
  clear P0 B0 hb1
  have p1c0 := P1.c0
  have p1c1 := P1.c1
  have p1c2 := P1.c2
  have p1c3 := P1.c3
  have p1c4 := P1.c4
  have p1l := P1.lt
  go_wp2
  go_ret
  exact ⟨rfl, B1⟩
 have hlat : latB A B C = true := by revert h1; cases latB A B C <;> simp
 have hp := lat_prod hlat
 have hb := latI_bd (latB_iff.1 hlat)
 by_cases h3 : (n : Int) = A * C
 ·have e : patB f A B C n F = colB n F := by rw [patB, ← Bool.and_assoc, h1]; simp [h3]
  have h3b : ((n : Int) == A * C) = true := by simp [h3]
  have HN := Lib.hid (show n ≤ 64 by omega)
  rw [e]
  clear e
  go_enter Tryz.func77, Tryz.ntmps77
  go_wp2_with fail
  with_reducible refine (l04CodeP_any f A B C _).mono ?_
  rintro e w1 ⟨rfl, hb1⟩
  rw [h1]
  have P1 := P0.call hb1
  have B1 := bstep B0 hb1
  clear P0 B0 hb1
  have p1c0 := P1.c0
  have p1c1 := P1.c1
  have p1c2 := P1.c2
  have p1c3 := P1.c3
  have p1c4 := P1.c4
  have p1l := P1.lt
  go_wp2_with fail
  with_reducible refine (within64_any (R.out.call B1) HN.out).mono ?_
  rintro e w2 ⟨rfl, hb2⟩
  go_wp2
  go_ret
  exact ⟨rfl, bstep B1 hb2⟩
 ·have e : patB f A B C n F = false := by rw [patB, ← Bool.and_assoc, h1]; simp [h3]
  have h3b : ((n : Int) == A * C) = false := by simp [h3]
  rw [e]
  clear e
  go_enter Tryz.func77, Tryz.ntmps77
  go_wp2_with fail
  with_reducible refine (l04CodeP_any f A B C _).mono ?_
  rintro e w1 ⟨rfl, hb1⟩
  rw [h1]
  have P1 := P0.call hb1
  have B1 := bstep B0 hb1
  clear P0 B0 hb1
  have p1c0 := P1.c0
  have p1c1 := P1.c1
  have p1c2 := P1.c2
  have p1c3 := P1.c3
  have p1c4 := P1.c4
  have p1l := P1.lt
  go_wp2
  go_ret
  exact ⟨rfl, B1⟩
set_option maxHeartbeats 8000000 in
theorem patValid_any {lo hi n : Nat} {v : Value} {F : Nat → Int} {w : World} (f A B C : Int) (h : SRow lo hi 1 v n F w) :
  Calls Tryz.prog 80 #[.agg #[.int .i64 f, .int .i64 A, .int .i64 B, .int .i64 C, v]] w fun e w' => e = .returned (.bool (patB f A B C n F)) ∧ Below w.heap.size w w' := by
 have R := Lib.hid h
 have hn := h.2.1
 obtain ⟨ao, cap, rfl⟩ := h.slice
 clear h
 have P0 : Bx w.heap.size [.int .i64 f, .int .i64 A, .int .i64 B, .int .i64 C, (.slice ao n cap)] (w.alloc (.cells #[.int .i64 f, .int .i64 A, .int .i64 B, .int .i64 C, .slice ao n cap] 34)) := Bx.at _ rfl
 have B0 : Below w.heap.size w (w.alloc (.cells #[.int .i64 f, .int .i64 A, .int .i64 B, .int .i64 C, .slice ao n cap] 34)) := (Below.refl _ _).alloc (Nat.le_refl _) _
 rcases h1 : frB f with _ | _
 ·have EA := Lib.hid (show patB f A B C n F = false by simp [patB, h1])
  have C1 : Hid (∀ W, Calls Tryz.prog 113 #[.int .i64 f] W fun e w' => e = .returned (.bool false) ∧ Below W.heap.size W w') := Lib.hid (fun W => by have h := implIsFrame_any f W; rw [h1] at h; exact h)
  go_enter Tryz.func80, Tryz.ntmps80
  go_wp2_with fail
  refine wp_region_held_drew (S := (fun W => W.cell? ⟨w.heap.size, 0, none⟩ = some (.int .i64 f) ∧ W.cell? ⟨w.heap.size, 1, none⟩ = some (.int .i64 A) ∧ W.cell? ⟨w.heap.size, 2, none⟩ = some (.int .i64 B) ∧ W.cell? ⟨w.heap.size, 3, none⟩ = some (.int .i64 C) ∧ W.cell? ⟨w.heap.size, 4, none⟩ = some (.slice ao n cap))) (by kernel_rfl) ?_ (fun hHeld => ?_)
  ·exact P0.cells5
  refine tkPtV9 (i := 0) (v := ?_) (hy := Or.inl ⟨by rfl, ?_⟩) (h := ?_)
  rotate_left 1
  ·(intro w hSw; (try dsimp only at hSw); go_simp) <;> with_reducible rfl
  (try simp only [Act.put, List.setIfInBounds_toArray, List.set_cons_zero, List.set_cons_succ])
  refine tkPtV9 (i := 1) (v := ?_) (hy := Or.inl ⟨by rfl, ?_⟩) (h := ?_)
  rotate_left 1
  ·(intro w hSw; (try dsimp only at hSw); go_simp) <;> with_reducible rfl
  (try simp only [Act.put, List.setIfInBounds_toArray, List.set_cons_zero, List.set_cons_succ])
  refine wpAnyH_ready (rs := [2]) (by kernel_rfl) (by simp) ?_
  refine AllReadyH.cons (o := _) (by (simp only [List.getElem?_toArray, List.getElem?_cons_succ, List.getElem?_cons_zero]); rfl) (fun K hK => ?_) AllReadyH.nil
  go_simp
  go_at_call 113
  refine (C1.out _).mono ?_
  rintro e u1 ⟨rfl, hb1⟩
  have P1 : Bx (w.heap.size) ([.int .i64 f, .int .i64 A, .int .i64 B, .int .i64 C, (.slice ao n cap)]) u1 := (by with_reducible repeat (first | assumption | refine Bx.drew ?_ | refine Bx.alloc ?_ _ | refine Bx.call ?_ (by assumption)))
  have B1 : Below w.heap.size w u1 := (by with_reducible repeat (first | assumption | refine Below.drew ?_ | refine bstep ?_ (by assumption)))
  clear hb1
  go_wp2_with fail
  refine hK.out _ _ ?_ (fun hHeld => ?_)
  ·(try dsimp only)
   exact P1.cells5
  clear hK K
  (try simp only [Act.put, List.setIfInBounds_toArray, List.set_cons_zero, List.set_cons_succ])
  refine tkPtV9 (i := 3) (v := ?_) (hy := Or.inl ⟨by rfl, ?_⟩) (h := ?_)
  rotate_left 1
  ·(intro w hSw; (try dsimp only at hSw); go_simp) <;> with_reducible rfl
  (try simp only [Act.put, List.setIfInBounds_toArray, List.set_cons_zero, List.set_cons_succ])
  refine tkPtV9 (i := 4) (v := undef) (hy := Or.inr ⟨by rfl, rfl⟩) (h := ?_)
  (try simp only [Act.put, List.setIfInBounds_toArray, List.set_cons_zero, List.set_cons_succ])
  refine tkPtV9 (i := 5) (v := undef) (hy := Or.inr ⟨by rfl, rfl⟩) (h := ?_)
  (try simp only [Act.put, List.setIfInBounds_toArray, List.set_cons_zero, List.set_cons_succ])
  refine tkPtV9 (i := 6) (v := undef) (hy := Or.inr ⟨by rfl, rfl⟩) (h := ?_)
  (try simp only [Act.put, List.setIfInBounds_toArray, List.set_cons_zero, List.set_cons_succ])
  refine tkPtV9 (i := 7) (v := ?_) (hy := Or.inl ⟨by rfl, ?_⟩) (h := ?_)
  rotate_left 1
  ·(intro w hSw; (try dsimp only at hSw); go_simp) <;> with_reducible rfl
  (try simp only [Act.put, List.setIfInBounds_toArray, List.set_cons_zero, List.set_cons_succ])
  refine tkPtV9 (i := 8) (v := ?_) (hy := Or.inl ⟨by rfl, ?_⟩) (h := ?_)
  rotate_left 1
  ·(intro w hSw; (try dsimp only at hSw); go_simp) <;> with_reducible rfl
  (try simp only [Act.put, List.setIfInBounds_toArray, List.set_cons_zero, List.set_cons_succ])
  refine tkPtV9 (i := 9) (v := undef) (hy := Or.inr ⟨by rfl, rfl⟩) (h := ?_)
  (try simp only [Act.put, List.setIfInBounds_toArray, List.set_cons_zero, List.set_cons_succ])
  refine tkPtV9 (i := 10) (v := undef) (hy := Or.inr ⟨by rfl, rfl⟩) (h := ?_)
  (try simp only [Act.put, List.setIfInBounds_toArray, List.set_cons_zero, List.set_cons_succ])
  refine tkPtV9 (i := 11) (v := undef) (hy := Or.inr ⟨by rfl, rfl⟩) (h := ?_)
  (try simp only [Act.put, List.setIfInBounds_toArray, List.set_cons_zero, List.set_cons_succ])
  refine tkPtV9 (i := 12) (v := undef) (hy := Or.inr ⟨by rfl, rfl⟩) (h := ?_)
  (try simp only [Act.put, List.setIfInBounds_toArray, List.set_cons_zero, List.set_cons_succ])
  refine tkPtV9 (i := 13) (v := undef) (hy := Or.inr ⟨by rfl, rfl⟩) (h := ?_)
  (try simp only [Act.put, List.setIfInBounds_toArray, List.set_cons_zero, List.set_cons_succ])
  refine tkPtV9 (i := 14) (v := undef) (hy := Or.inr ⟨by rfl, rfl⟩) (h := ?_)
  (try simp only [Act.put, List.setIfInBounds_toArray, List.set_cons_zero, List.set_cons_succ])
  refine tkPtV9 (i := 15) (v := undef) (hy := Or.inr ⟨by rfl, rfl⟩) (h := ?_)
  (try simp only [Act.put, List.setIfInBounds_toArray, List.set_cons_zero, List.set_cons_succ])
  refine tkPtV9 (i := 16) (v := ?_) (hy := Or.inl ⟨by rfl, ?_⟩) (h := ?_)
  rotate_left 1
  ·(intro w hSw; (try dsimp only at hSw); go_simp) <;> with_reducible rfl
  (try simp only [Act.put, List.setIfInBounds_toArray, List.set_cons_zero, List.set_cons_succ])
  refine tkPtV9 (i := 17) (v := ?_) (hy := Or.inl ⟨by rfl, ?_⟩) (h := ?_)
  rotate_left 1
  ·(intro w hSw; (try dsimp only at hSw); go_simp) <;> with_reducible rfl
  (try simp only [Act.put, List.setIfInBounds_toArray, List.set_cons_zero, List.set_cons_succ])
  refine tkPtV9 (i := 18) (v := undef) (hy := Or.inr ⟨by rfl, rfl⟩) (h := ?_)
  (try simp only [Act.put, List.setIfInBounds_toArray, List.set_cons_zero, List.set_cons_succ])
  refine tkPtV9 (i := 19) (v := undef) (hy := Or.inr ⟨by rfl, rfl⟩) (h := ?_)
  (try simp only [Act.put, List.setIfInBounds_toArray, List.set_cons_zero, List.set_cons_succ])
  refine tkPtV9 (i := 20) (v := undef) (hy := Or.inr ⟨by rfl, rfl⟩) (h := ?_)
  (try simp only [Act.put, List.setIfInBounds_toArray, List.set_cons_zero, List.set_cons_succ])
  refine tkPtV9 (i := 21) (v := ?_) (hy := Or.inl ⟨by rfl, ?_⟩) (h := ?_)
  rotate_left 1
  ·(intro w hSw; (try dsimp only at hSw); go_simp) <;> with_reducible rfl
  (try simp only [Act.put, List.setIfInBounds_toArray, List.set_cons_zero, List.set_cons_succ])
  refine tkPtV9 (i := 22) (v := ?_) (hy := Or.inl ⟨by rfl, ?_⟩) (h := ?_)
  rotate_left 1
  ·(intro w hSw; (try dsimp only at hSw); go_simp) <;> with_reducible rfl
  (try simp only [Act.put, List.setIfInBounds_toArray, List.set_cons_zero, List.set_cons_succ])
  refine wpAnyH_done (by kernel_rfl) ?_ _
  go_wp2
  go_ret
  refine ⟨ret_bool EA.out.symm, ?_⟩
  repeat (first | with_reducible exact Below.refl _ _ | with_reducible assumption | with_reducible refine Below.setCell ?_ (by first | omega | (dsimp only; omega) | (simp <;> omega)) _ | with_reducible refine Below.alloc ?_ (by first | omega | (simp <;> omega)) _ | with_reducible refine bstep ?_ (by with_reducible assumption) | with_reducible refine Below.drew ?_ | with_reducible refine below_drewN ?_ _)
 rcases h2 : latB A B C with _ | _
 ·have EA := Lib.hid (show patB f A B C n F = false by simp [patB, h2])
  have C1 : Hid (∀ W, Calls Tryz.prog 113 #[.int .i64 f] W fun e w' => e = .returned (.bool true) ∧ Below W.heap.size W w') := Lib.hid (fun W => by have h := implIsFrame_any f W; rw [h1] at h; exact h)
  have C2 : Hid (∀ W, Calls Tryz.prog 114 #[.agg #[.int .i64 A, .int .i64 B, .int .i64 C]] W fun e w' => e = .returned (.bool false) ∧ Below W.heap.size W w') := Lib.hid (fun W => by have h := isValidL_any A B C W; rw [h2] at h; exact h)
  go_enter Tryz.func80, Tryz.ntmps80
  go_wp2_with fail
  refine wp_region_held_drew (S := (fun W => W.cell? ⟨w.heap.size, 0, none⟩ = some (.int .i64 f) ∧ W.cell? ⟨w.heap.size, 1, none⟩ = some (.int .i64 A) ∧ W.cell? ⟨w.heap.size, 2, none⟩ = some (.int .i64 B) ∧ W.cell? ⟨w.heap.size, 3, none⟩ = some (.int .i64 C) ∧ W.cell? ⟨w.heap.size, 4, none⟩ = some (.slice ao n cap))) (by kernel_rfl) ?_ (fun hHeld => ?_)
  ·exact P0.cells5
  refine tkPtV9 (i := 0) (v := ?_) (hy := Or.inl ⟨by rfl, ?_⟩) (h := ?_)
  rotate_left 1
  ·(intro w hSw; (try dsimp only at hSw); go_simp) <;> with_reducible rfl
  (try simp only [Act.put, List.setIfInBounds_toArray, List.set_cons_zero, List.set_cons_succ])
  refine tkPtV9 (i := 1) (v := ?_) (hy := Or.inl ⟨by rfl, ?_⟩) (h := ?_)
  rotate_left 1
  ·(intro w hSw; (try dsimp only at hSw); go_simp) <;> with_reducible rfl
  (try simp only [Act.put, List.setIfInBounds_toArray, List.set_cons_zero, List.set_cons_succ])
  refine wpAnyH_ready (rs := [2]) (by kernel_rfl) (by simp) ?_
  refine AllReadyH.cons (o := _) (by (simp only [List.getElem?_toArray, List.getElem?_cons_succ, List.getElem?_cons_zero]); rfl) (fun K hK => ?_) AllReadyH.nil
  go_simp
  go_at_call 113
  refine (C1.out _).mono ?_
  rintro e u1 ⟨rfl, hb1⟩
  have P1 : Bx (w.heap.size) ([.int .i64 f, .int .i64 A, .int .i64 B, .int .i64 C, (.slice ao n cap)]) u1 := (by with_reducible repeat (first | assumption | refine Bx.drew ?_ | refine Bx.alloc ?_ _ | refine Bx.call ?_ (by assumption)))
  have B1 : Below w.heap.size w u1 := (by with_reducible repeat (first | assumption | refine Below.drew ?_ | refine bstep ?_ (by assumption)))
  clear hb1
  go_wp2_with fail
  refine hK.out _ _ ?_ (fun hHeld => ?_)
  ·(try dsimp only)
   exact P1.cells5
  clear hK K
  (try simp only [Act.put, List.setIfInBounds_toArray, List.set_cons_zero, List.set_cons_succ])
  refine tkPtV9 (i := 3) (v := ?_) (hy := Or.inl ⟨by rfl, ?_⟩) (h := ?_)
  rotate_left 1
  ·(intro w hSw; (try dsimp only at hSw); go_simp) <;> with_reducible rfl
  (try simp only [Act.put, List.setIfInBounds_toArray, List.set_cons_zero, List.set_cons_succ])
  refine tkPtV9 (i := 4) (v := ?_) (hy := Or.inl ⟨by rfl, ?_⟩) (h := ?_)
  rotate_left 1
  ·(intro w hSw; (try dsimp only at hSw); go_simp) <;> with_reducible rfl
  (try simp only [Act.put, List.setIfInBounds_toArray, List.set_cons_zero, List.set_cons_succ])
  refine tkPtV9 (i := 5) (v := ?_) (hy := Or.inl ⟨by rfl, ?_⟩) (h := ?_)
  rotate_left 1
  ·(intro w hSw; (try dsimp only at hSw); go_simp) <;> with_reducible rfl
  (try simp only [Act.put, List.setIfInBounds_toArray, List.set_cons_zero, List.set_cons_succ])
  refine wpAnyH_ready (rs := [6]) (by kernel_rfl) (by simp) ?_
  refine AllReadyH.cons (o := _) (by (simp only [List.getElem?_toArray, List.getElem?_cons_succ, List.getElem?_cons_zero]); rfl) (fun K hK => ?_) AllReadyH.nil
  go_simp
  go_at_call 114
  refine (C2.out _).mono ?_
  rintro e u2 ⟨rfl, hb2⟩
  have P2 : Bx (w.heap.size) ([.int .i64 f, .int .i64 A, .int .i64 B, .int .i64 C, (.slice ao n cap)]) u2 := (by with_reducible repeat (first | assumption | refine Bx.drew ?_ | refine Bx.alloc ?_ _ | refine Bx.call ?_ (by assumption)))
  have B2 : Below w.heap.size w u2 := (by with_reducible repeat (first | assumption | refine Below.drew ?_ | refine bstep ?_ (by assumption)))
  clear hb2
  go_wp2_with fail
  refine hK.out _ _ ?_ (fun hHeld => ?_)
  ·(try dsimp only)
   exact P2.cells5
  clear hK K
  (try simp only [Act.put, List.setIfInBounds_toArray, List.set_cons_zero, List.set_cons_succ])
  refine tkPtV9 (i := 7) (v := ?_) (hy := Or.inl ⟨by rfl, ?_⟩) (h := ?_)
  rotate_left 1
  ·(intro w hSw; (try dsimp only at hSw); go_simp) <;> with_reducible rfl
  (try simp only [Act.put, List.setIfInBounds_toArray, List.set_cons_zero, List.set_cons_succ])
  refine tkPtV9 (i := 8) (v := ?_) (hy := Or.inl ⟨by rfl, ?_⟩) (h := ?_)
  rotate_left 1
  ·(intro w hSw; (try dsimp only at hSw); go_simp) <;> with_reducible rfl
  (try simp only [Act.put, List.setIfInBounds_toArray, List.set_cons_zero, List.set_cons_succ])
  refine tkPtV9 (i := 9) (v := undef) (hy := Or.inr ⟨by rfl, rfl⟩) (h := ?_)
  (try simp only [Act.put, List.setIfInBounds_toArray, List.set_cons_zero, List.set_cons_succ])
  refine tkPtV9 (i := 10) (v := undef) (hy := Or.inr ⟨by rfl, rfl⟩) (h := ?_)
  (try simp only [Act.put, List.setIfInBounds_toArray, List.set_cons_zero, List.set_cons_succ])
  refine tkPtV9 (i := 11) (v := undef) (hy := Or.inr ⟨by rfl, rfl⟩) (h := ?_)
  (try simp only [Act.put, List.setIfInBounds_toArray, List.set_cons_zero, List.set_cons_succ])
  refine tkPtV9 (i := 12) (v := undef) (hy := Or.inr ⟨by rfl, rfl⟩) (h := ?_)
  (try simp only [Act.put, List.setIfInBounds_toArray, List.set_cons_zero, List.set_cons_succ])
  refine tkPtV9 (i := 13) (v := undef) (hy := Or.inr ⟨by rfl, rfl⟩) (h := ?_)
  (try simp only [Act.put, List.setIfInBounds_toArray, List.set_cons_zero, List.set_cons_succ])
  refine tkPtV9 (i := 14) (v := undef) (hy := Or.inr ⟨by rfl, rfl⟩) (h := ?_)
  (try simp only [Act.put, List.setIfInBounds_toArray, List.set_cons_zero, List.set_cons_succ])
  refine tkPtV9 (i := 15) (v := undef) (hy := Or.inr ⟨by rfl, rfl⟩) (h := ?_)
  (try simp only [Act.put, List.setIfInBounds_toArray, List.set_cons_zero, List.set_cons_succ])
  refine tkPtV9 (i := 16) (v := ?_) (hy := Or.inl ⟨by rfl, ?_⟩) (h := ?_)
  rotate_left 1
  ·(intro w hSw; (try dsimp only at hSw); go_simp) <;> with_reducible rfl
  (try simp only [Act.put, List.setIfInBounds_toArray, List.set_cons_zero, List.set_cons_succ])
  refine tkPtV9 (i := 17) (v := ?_) (hy := Or.inl ⟨by rfl, ?_⟩) (h := ?_)
  rotate_left 1
  ·(intro w hSw; (try dsimp only at hSw); go_simp) <;> with_reducible rfl
  (try simp only [Act.put, List.setIfInBounds_toArray, List.set_cons_zero, List.set_cons_succ])
  refine tkPtV9 (i := 18) (v := undef) (hy := Or.inr ⟨by rfl, rfl⟩) (h := ?_)
  (try simp only [Act.put, List.setIfInBounds_toArray, List.set_cons_zero, List.set_cons_succ])
  refine tkPtV9 (i := 19) (v := undef) (hy := Or.inr ⟨by rfl, rfl⟩) (h := ?_)
  (try simp only [Act.put, List.setIfInBounds_toArray, List.set_cons_zero, List.set_cons_succ])
  refine tkPtV9 (i := 20) (v := undef) (hy := Or.inr ⟨by rfl, rfl⟩) (h := ?_)
  (try simp only [Act.put, List.setIfInBounds_toArray, List.set_cons_zero, List.set_cons_succ])
  refine tkPtV9 (i := 21) (v := ?_) (hy := Or.inl ⟨by rfl, ?_⟩) (h := ?_)
  rotate_left 1
  ·(intro w hSw; (try dsimp only at hSw); go_simp) <;> with_reducible rfl
  (try simp only [Act.put, List.setIfInBounds_toArray, List.set_cons_zero, List.set_cons_succ])
  refine tkPtV9 (i := 22) (v := ?_) (hy := Or.inl ⟨by rfl, ?_⟩) (h := ?_)
  rotate_left 1
  ·(intro w hSw; (try dsimp only at hSw); go_simp) <;> with_reducible rfl
  (try simp only [Act.put, List.setIfInBounds_toArray, List.set_cons_zero, List.set_cons_succ])
  refine wpAnyH_done (by kernel_rfl) ?_ _
  go_wp2
  go_ret
  refine ⟨ret_bool EA.out.symm, ?_⟩
  repeat (first | with_reducible exact Below.refl _ _ | with_reducible assumption | with_reducible refine Below.setCell ?_ (by first | omega | (dsimp only; omega) | (simp <;> omega)) _ | with_reducible refine Below.alloc ?_ (by first | omega | (simp <;> omega)) _ | with_reducible refine bstep ?_ (by with_reducible assumption) | with_reducible refine Below.drew ?_ | with_reducible refine below_drewN ?_ _)
 by_cases h3 : ¬ (n : Int) = A * C
 ·have EA := Lib.hid (show patB f A B C n F = false by simp [patB, h3])
  have C1 : Hid (∀ W, Calls Tryz.prog 113 #[.int .i64 f] W fun e w' => e = .returned (.bool true) ∧ Below W.heap.size W w') := Lib.hid (fun W => by have h := implIsFrame_any f W; rw [h1] at h; exact h)
  have C2 : Hid (∀ W, Calls Tryz.prog 114 #[.agg #[.int .i64 A, .int .i64 B, .int .i64 C]] W fun e w' => e = .returned (.bool true) ∧ Below W.heap.size W w') := Lib.hid (fun W => by have h := isValidL_any A B C W; rw [h2] at h; exact h)
  have hp := lat_prod h2
  have C3 := Lib.hid (fun W => indexP_any A B C W (by omega))
  have h3b : ((n : Int) == A * C) = false := by simp [h3]
  go_enter Tryz.func80, Tryz.ntmps80
  go_wp2_with fail
  refine wp_region_held_drew (S := (fun W => W.cell? ⟨w.heap.size, 0, none⟩ = some (.int .i64 f) ∧ W.cell? ⟨w.heap.size, 1, none⟩ = some (.int .i64 A) ∧ W.cell? ⟨w.heap.size, 2, none⟩ = some (.int .i64 B) ∧ W.cell? ⟨w.heap.size, 3, none⟩ = some (.int .i64 C) ∧ W.cell? ⟨w.heap.size, 4, none⟩ = some (.slice ao n cap))) (by kernel_rfl) ?_ (fun hHeld => ?_)
  ·exact P0.cells5
  refine tkPtV9 (i := 0) (v := ?_) (hy := Or.inl ⟨by rfl, ?_⟩) (h := ?_)
  rotate_left 1
  ·(intro w hSw; (try dsimp only at hSw); go_simp) <;> with_reducible rfl
  (try simp only [Act.put, List.setIfInBounds_toArray, List.set_cons_zero, List.set_cons_succ])
  refine tkPtV9 (i := 1) (v := ?_) (hy := Or.inl ⟨by rfl, ?_⟩) (h := ?_)
  rotate_left 1
  ·(intro w hSw; (try dsimp only at hSw); go_simp) <;> with_reducible rfl
  (try simp only [Act.put, List.setIfInBounds_toArray, List.set_cons_zero, List.set_cons_succ])
  refine wpAnyH_ready (rs := [2]) (by kernel_rfl) (by simp) ?_
  refine AllReadyH.cons (o := _) (by (simp only [List.getElem?_toArray, List.getElem?_cons_succ, List.getElem?_cons_zero]); rfl) (fun K hK => ?_) AllReadyH.nil
  go_simp
  go_at_call 113
  refine (C1.out _).mono ?_
  rintro e u1 ⟨rfl, hb1⟩
  have P1 : Bx (w.heap.size) ([.int .i64 f, .int .i64 A, .int .i64 B, .int .i64 C, (.slice ao n cap)]) u1 := (by with_reducible repeat (first | assumption | refine Bx.drew ?_ | refine Bx.alloc ?_ _ | refine Bx.call ?_ (by assumption)))
  have B1 : Below w.heap.size w u1 := (by with_reducible repeat (first | assumption | refine Below.drew ?_ | refine bstep ?_ (by assumption)))
  clear hb1
  go_wp2_with fail
  refine hK.out _ _ ?_ (fun hHeld => ?_)
  ·(try dsimp only)
   exact P1.cells5
  clear hK K
  (try simp only [Act.put, List.setIfInBounds_toArray, List.set_cons_zero, List.set_cons_succ])
  refine tkPtV9 (i := 3) (v := ?_) (hy := Or.inl ⟨by rfl, ?_⟩) (h := ?_)
  rotate_left 1
  ·(intro w hSw; (try dsimp only at hSw); go_simp) <;> with_reducible rfl
  (try simp only [Act.put, List.setIfInBounds_toArray, List.set_cons_zero, List.set_cons_succ])
  refine tkPtV9 (i := 4) (v := ?_) (hy := Or.inl ⟨by rfl, ?_⟩) (h := ?_)
  rotate_left 1
  ·(intro w hSw; (try dsimp only at hSw); go_simp) <;> with_reducible rfl
  (try simp only [Act.put, List.setIfInBounds_toArray, List.set_cons_zero, List.set_cons_succ])
  refine tkPtV9 (i := 5) (v := ?_) (hy := Or.inl ⟨by rfl, ?_⟩) (h := ?_)
  rotate_left 1
  ·(intro w hSw; (try dsimp only at hSw); go_simp) <;> with_reducible rfl
  (try simp only [Act.put, List.setIfInBounds_toArray, List.set_cons_zero, List.set_cons_succ])
  refine wpAnyH_ready (rs := [6]) (by kernel_rfl) (by simp) ?_
  refine AllReadyH.cons (o := _) (by (simp only [List.getElem?_toArray, List.getElem?_cons_succ, List.getElem?_cons_zero]); rfl) (fun K hK => ?_) AllReadyH.nil
  go_simp
  go_at_call 114
  refine (C2.out _).mono ?_
  rintro e u2 ⟨rfl, hb2⟩
  have P2 : Bx (w.heap.size) ([.int .i64 f, .int .i64 A, .int .i64 B, .int .i64 C, (.slice ao n cap)]) u2 := (by with_reducible repeat (first | assumption | refine Bx.drew ?_ | refine Bx.alloc ?_ _ | refine Bx.call ?_ (by assumption)))
  have B2 : Below w.heap.size w u2 := (by with_reducible repeat (first | assumption | refine Below.drew ?_ | refine bstep ?_ (by assumption)))
  clear hb2
  go_wp2_with fail
  refine hK.out _ _ ?_ (fun hHeld => ?_)
  ·(try dsimp only)
   exact P2.cells5
  clear hK K
  (try simp only [Act.put, List.setIfInBounds_toArray, List.set_cons_zero, List.set_cons_succ])
  refine tkPtV9 (i := 7) (v := ?_) (hy := Or.inl ⟨by rfl, ?_⟩) (h := ?_)
  rotate_left 1
  ·(intro w hSw; (try dsimp only at hSw); go_simp) <;> with_reducible rfl
  (try simp only [Act.put, List.setIfInBounds_toArray, List.set_cons_zero, List.set_cons_succ])
  refine tkPtV9 (i := 8) (v := ?_) (hy := Or.inl ⟨by rfl, ?_⟩) (h := ?_)
  rotate_left 1
  ·(intro w hSw; (try dsimp only at hSw); go_simp) <;> with_reducible rfl
  (try simp only [Act.put, List.setIfInBounds_toArray, List.set_cons_zero, List.set_cons_succ])
  refine tkPtV9 (i := 9) (v := ?_) (hy := Or.inl ⟨by rfl, ?_⟩) (h := ?_)
  rotate_left 1
  ·(intro w hSw; (try dsimp only at hSw); go_simp) <;> with_reducible rfl
  (try simp only [Act.put, List.setIfInBounds_toArray, List.set_cons_zero, List.set_cons_succ])
  refine tkPtV9 (i := 10) (v := ?_) (hy := Or.inl ⟨by rfl, ?_⟩) (h := ?_)
  rotate_left 1
  ·(intro w hSw; (try dsimp only at hSw); go_simp) <;> with_reducible rfl
  (try simp only [Act.put, List.setIfInBounds_toArray, List.set_cons_zero, List.set_cons_succ])
  refine tkPtV9 (i := 11) (v := ?_) (hy := Or.inl ⟨by rfl, ?_⟩) (h := ?_)
  rotate_left 1
  ·(intro w hSw; (try dsimp only at hSw); go_simp) <;> with_reducible rfl
  (try simp only [Act.put, List.setIfInBounds_toArray, List.set_cons_zero, List.set_cons_succ])
  refine tkPtV9 (i := 12) (v := ?_) (hy := Or.inl ⟨by rfl, ?_⟩) (h := ?_)
  rotate_left 1
  ·(intro w hSw; (try dsimp only at hSw); go_simp) <;> with_reducible rfl
  (try simp only [Act.put, List.setIfInBounds_toArray, List.set_cons_zero, List.set_cons_succ])
  refine tkPtV9 (i := 13) (v := ?_) (hy := Or.inl ⟨by rfl, ?_⟩) (h := ?_)
  rotate_left 1
  ·(intro w hSw; (try dsimp only at hSw); go_simp) <;> with_reducible rfl
  (try simp only [Act.put, List.setIfInBounds_toArray, List.set_cons_zero, List.set_cons_succ])
  refine wpAnyH_ready (rs := [14]) (by kernel_rfl) (by simp) ?_
  refine AllReadyH.cons (o := _) (by (simp only [List.getElem?_toArray, List.getElem?_cons_succ, List.getElem?_cons_zero]); rfl) (fun K hK => ?_) AllReadyH.nil
  go_simp
  go_at_call 95
  refine (C3.out _).mono ?_
  rintro e u3 ⟨rfl, hb3⟩
  have P3 : Bx (w.heap.size) ([.int .i64 f, .int .i64 A, .int .i64 B, .int .i64 C, (.slice ao n cap)]) u3 := (by with_reducible repeat (first | assumption | refine Bx.drew ?_ | refine Bx.alloc ?_ _ | refine Bx.call ?_ (by assumption)))
  have B3 : Below w.heap.size w u3 := (by with_reducible repeat (first | assumption | refine Below.drew ?_ | refine bstep ?_ (by assumption)))
  clear hb3
  go_wp2_with fail
  refine hK.out _ _ ?_ (fun hHeld => ?_)
  ·(try dsimp only)
   exact P3.cells5
  clear hK K
  (try simp only [Act.put, List.setIfInBounds_toArray, List.set_cons_zero, List.set_cons_succ])
  refine tkPtV9 (i := 15) (v := ?_) (hy := Or.inl ⟨by rfl, ?_⟩) (h := ?_)
  rotate_left 1
  ·(intro w hSw; (try dsimp only at hSw); go_simp) <;> with_reducible rfl
  (try simp only [Act.put, List.setIfInBounds_toArray, List.set_cons_zero, List.set_cons_succ])
  refine tkPtV9 (i := 16) (v := ?_) (hy := Or.inl ⟨by rfl, ?_⟩) (h := ?_)
  rotate_left 1
  ·(intro w hSw; (try dsimp only at hSw); go_simp) <;> with_reducible rfl
  (try simp only [Act.put, List.setIfInBounds_toArray, List.set_cons_zero, List.set_cons_succ])
  refine tkPtV9 (i := 17) (v := ?_) (hy := Or.inl ⟨by rfl, ?_⟩) (h := ?_)
  rotate_left 1
  ·(intro w hSw; (try dsimp only at hSw); go_simp) <;> with_reducible rfl
  (try simp only [Act.put, List.setIfInBounds_toArray, List.set_cons_zero, List.set_cons_succ])
  refine tkPtV9 (i := 18) (v := undef) (hy := Or.inr ⟨by rfl, rfl⟩) (h := ?_)
  (try simp only [Act.put, List.setIfInBounds_toArray, List.set_cons_zero, List.set_cons_succ])
  refine tkPtV9 (i := 19) (v := undef) (hy := Or.inr ⟨by rfl, rfl⟩) (h := ?_)
  (try simp only [Act.put, List.setIfInBounds_toArray, List.set_cons_zero, List.set_cons_succ])
  refine tkPtV9 (i := 20) (v := undef) (hy := Or.inr ⟨by rfl, rfl⟩) (h := ?_)
  (try simp only [Act.put, List.setIfInBounds_toArray, List.set_cons_zero, List.set_cons_succ])
  refine tkPtV9 (i := 21) (v := ?_) (hy := Or.inl ⟨by rfl, ?_⟩) (h := ?_)
  rotate_left 1
  ·(intro w hSw; (try dsimp only at hSw); go_simp) <;> with_reducible rfl
  (try simp only [Act.put, List.setIfInBounds_toArray, List.set_cons_zero, List.set_cons_succ])
  refine tkPtV9 (i := 22) (v := ?_) (hy := Or.inl ⟨by rfl, ?_⟩) (h := ?_)
  rotate_left 1
  ·(intro w hSw; (try dsimp only at hSw); go_simp) <;> with_reducible rfl
  (try simp only [Act.put, List.setIfInBounds_toArray, List.set_cons_zero, List.set_cons_succ])
  refine wpAnyH_done (by kernel_rfl) ?_ _
  go_wp2
  go_ret
  refine ⟨ret_bool EA.out.symm, ?_⟩
  repeat (first | with_reducible exact Below.refl _ _ | with_reducible assumption | with_reducible refine Below.setCell ?_ (by first | omega | (dsimp only; omega) | (simp <;> omega)) _ | with_reducible refine Below.alloc ?_ (by first | omega | (simp <;> omega)) _ | with_reducible refine bstep ?_ (by with_reducible assumption) | with_reducible refine Below.drew ?_ | with_reducible refine below_drewN ?_ _)
 have h3 : (n : Int) = A * C := Classical.not_not.1 h3
 ·have EA := Lib.hid (show patB f A B C n F = colB n F by simp [patB, h1, h2, h3])
  have C1 : Hid (∀ W, Calls Tryz.prog 113 #[.int .i64 f] W fun e w' => e = .returned (.bool true) ∧ Below W.heap.size W w') := Lib.hid (fun W => by have h := implIsFrame_any f W; rw [h1] at h; exact h)
  have C2 : Hid (∀ W, Calls Tryz.prog 114 #[.agg #[.int .i64 A, .int .i64 B, .int .i64 C]] W fun e w' => e = .returned (.bool true) ∧ Below W.heap.size W w') := Lib.hid (fun W => by have h := isValidL_any A B C W; rw [h2] at h; exact h)
  have hp := lat_prod h2
  have C3 := Lib.hid (fun W => indexP_any A B C W (by omega))
  have h3b : ((n : Int) == A * C) = true := by simp [h3]
  have HN := Lib.hid (show n ≤ 2000000 by omega)
  go_enter Tryz.func80, Tryz.ntmps80
  go_wp2_with fail
  refine wp_region_held_drew (S := (fun W => W.cell? ⟨w.heap.size, 0, none⟩ = some (.int .i64 f) ∧ W.cell? ⟨w.heap.size, 1, none⟩ = some (.int .i64 A) ∧ W.cell? ⟨w.heap.size, 2, none⟩ = some (.int .i64 B) ∧ W.cell? ⟨w.heap.size, 3, none⟩ = some (.int .i64 C) ∧ W.cell? ⟨w.heap.size, 4, none⟩ = some (.slice ao n cap))) (by kernel_rfl) ?_ (fun hHeld => ?_)
  ·exact P0.cells5
  refine tkPtV9 (i := 0) (v := ?_) (hy := Or.inl ⟨by rfl, ?_⟩) (h := ?_)
  rotate_left 1
  ·(intro w hSw; (try dsimp only at hSw); go_simp) <;> with_reducible rfl
  (try simp only [Act.put, List.setIfInBounds_toArray, List.set_cons_zero, List.set_cons_succ])
  refine tkPtV9 (i := 1) (v := ?_) (hy := Or.inl ⟨by rfl, ?_⟩) (h := ?_)
  rotate_left 1
  ·(intro w hSw; (try dsimp only at hSw); go_simp) <;> with_reducible rfl
  (try simp only [Act.put, List.setIfInBounds_toArray, List.set_cons_zero, List.set_cons_succ])
  refine wpAnyH_ready (rs := [2]) (by kernel_rfl) (by simp) ?_
  refine AllReadyH.cons (o := _) (by (simp only [List.getElem?_toArray, List.getElem?_cons_succ, List.getElem?_cons_zero]); rfl) (fun K hK => ?_) AllReadyH.nil
  go_simp
  go_at_call 113
  refine (C1.out _).mono ?_
  rintro e u1 ⟨rfl, hb1⟩
  have P1 : Bx (w.heap.size) ([.int .i64 f, .int .i64 A, .int .i64 B, .int .i64 C, (.slice ao n cap)]) u1 := (by with_reducible repeat (first | assumption | refine Bx.drew ?_ | refine Bx.alloc ?_ _ | refine Bx.call ?_ (by assumption)))
  have B1 : Below w.heap.size w u1 := (by with_reducible repeat (first | assumption | refine Below.drew ?_ | refine bstep ?_ (by assumption)))
  clear hb1
  go_wp2_with fail
  refine hK.out _ _ ?_ (fun hHeld => ?_)
  ·(try dsimp only)
   exact P1.cells5
  clear hK K
  (try simp only [Act.put, List.setIfInBounds_toArray, List.set_cons_zero, List.set_cons_succ])
  refine tkPtV9 (i := 3) (v := ?_) (hy := Or.inl ⟨by rfl, ?_⟩) (h := ?_)
  rotate_left 1
  ·(intro w hSw; (try dsimp only at hSw); go_simp) <;> with_reducible rfl
  (try simp only [Act.put, List.setIfInBounds_toArray, List.set_cons_zero, List.set_cons_succ])
  refine tkPtV9 (i := 4) (v := ?_) (hy := Or.inl ⟨by rfl, ?_⟩) (h := ?_)
  rotate_left 1
  ·(intro w hSw; (try dsimp only at hSw); go_simp) <;> with_reducible rfl
  (try simp only [Act.put, List.setIfInBounds_toArray, List.set_cons_zero, List.set_cons_succ])
  refine tkPtV9 (i := 5) (v := ?_) (hy := Or.inl ⟨by rfl, ?_⟩) (h := ?_)
  rotate_left 1
  ·(intro w hSw; (try dsimp only at hSw); go_simp) <;> with_reducible rfl
  (try simp only [Act.put, List.setIfInBounds_toArray, List.set_cons_zero, List.set_cons_succ])
  refine wpAnyH_ready (rs := [6]) (by kernel_rfl) (by simp) ?_
  refine AllReadyH.cons (o := _) (by (simp only [List.getElem?_toArray, List.getElem?_cons_succ, List.getElem?_cons_zero]); rfl) (fun K hK => ?_) AllReadyH.nil
  go_simp
  go_at_call 114
  refine (C2.out _).mono ?_
  rintro e u2 ⟨rfl, hb2⟩
  have P2 : Bx (w.heap.size) ([.int .i64 f, .int .i64 A, .int .i64 B, .int .i64 C, (.slice ao n cap)]) u2 := (by with_reducible repeat (first | assumption | refine Bx.drew ?_ | refine Bx.alloc ?_ _ | refine Bx.call ?_ (by assumption)))
  have B2 : Below w.heap.size w u2 := (by with_reducible repeat (first | assumption | refine Below.drew ?_ | refine bstep ?_ (by assumption)))
  clear hb2
  go_wp2_with fail
  refine hK.out _ _ ?_ (fun hHeld => ?_)
  ·(try dsimp only)
   exact P2.cells5
  clear hK K
  (try simp only [Act.put, List.setIfInBounds_toArray, List.set_cons_zero, List.set_cons_succ])
  refine tkPtV9 (i := 7) (v := ?_) (hy := Or.inl ⟨by rfl, ?_⟩) (h := ?_)
  rotate_left 1
  ·(intro w hSw; (try dsimp only at hSw); go_simp) <;> with_reducible rfl
  (try simp only [Act.put, List.setIfInBounds_toArray, List.set_cons_zero, List.set_cons_succ])
  refine tkPtV9 (i := 8) (v := ?_) (hy := Or.inl ⟨by rfl, ?_⟩) (h := ?_)
  rotate_left 1
  ·(intro w hSw; (try dsimp only at hSw); go_simp) <;> with_reducible rfl
  (try simp only [Act.put, List.setIfInBounds_toArray, List.set_cons_zero, List.set_cons_succ])
  refine tkPtV9 (i := 9) (v := ?_) (hy := Or.inl ⟨by rfl, ?_⟩) (h := ?_)
  rotate_left 1
  ·(intro w hSw; (try dsimp only at hSw); go_simp) <;> with_reducible rfl
  (try simp only [Act.put, List.setIfInBounds_toArray, List.set_cons_zero, List.set_cons_succ])
  refine tkPtV9 (i := 10) (v := ?_) (hy := Or.inl ⟨by rfl, ?_⟩) (h := ?_)
  rotate_left 1
  ·(intro w hSw; (try dsimp only at hSw); go_simp) <;> with_reducible rfl
  (try simp only [Act.put, List.setIfInBounds_toArray, List.set_cons_zero, List.set_cons_succ])
  refine tkPtV9 (i := 11) (v := ?_) (hy := Or.inl ⟨by rfl, ?_⟩) (h := ?_)
  rotate_left 1
  ·(intro w hSw; (try dsimp only at hSw); go_simp) <;> with_reducible rfl
  (try simp only [Act.put, List.setIfInBounds_toArray, List.set_cons_zero, List.set_cons_succ])
  refine tkPtV9 (i := 12) (v := ?_) (hy := Or.inl ⟨by rfl, ?_⟩) (h := ?_)
  rotate_left 1
  ·(intro w hSw; (try dsimp only at hSw); go_simp) <;> with_reducible rfl
  (try simp only [Act.put, List.setIfInBounds_toArray, List.set_cons_zero, List.set_cons_succ])
  refine tkPtV9 (i := 13) (v := ?_) (hy := Or.inl ⟨by rfl, ?_⟩) (h := ?_)
  rotate_left 1
  ·(intro w hSw; (try dsimp only at hSw); go_simp) <;> with_reducible rfl
  (try simp only [Act.put, List.setIfInBounds_toArray, List.set_cons_zero, List.set_cons_succ])
  refine wpAnyH_ready (rs := [14]) (by kernel_rfl) (by simp) ?_
  refine AllReadyH.cons (o := _) (by (simp only [List.getElem?_toArray, List.getElem?_cons_succ, List.getElem?_cons_zero]); rfl) (fun K hK => ?_) AllReadyH.nil
  go_simp
  go_at_call 95
  refine (C3.out _).mono ?_
  rintro e u3 ⟨rfl, hb3⟩
  have P3 : Bx (w.heap.size) ([.int .i64 f, .int .i64 A, .int .i64 B, .int .i64 C, (.slice ao n cap)]) u3 := (by with_reducible repeat (first | assumption | refine Bx.drew ?_ | refine Bx.alloc ?_ _ | refine Bx.call ?_ (by assumption)))
  have B3 : Below w.heap.size w u3 := (by with_reducible repeat (first | assumption | refine Below.drew ?_ | refine bstep ?_ (by assumption)))
  clear hb3
  go_wp2_with fail
  refine hK.out _ _ ?_ (fun hHeld => ?_)
  ·(try dsimp only)
   exact P3.cells5
  clear hK K
  (try simp only [Act.put, List.setIfInBounds_toArray, List.set_cons_zero, List.set_cons_succ])
  refine tkPtV9 (i := 15) (v := ?_) (hy := Or.inl ⟨by rfl, ?_⟩) (h := ?_)
  rotate_left 1
  ·(intro w hSw; (try dsimp only at hSw); go_simp) <;> with_reducible rfl
  (try simp only [Act.put, List.setIfInBounds_toArray, List.set_cons_zero, List.set_cons_succ])
  refine tkPtV9 (i := 16) (v := ?_) (hy := Or.inl ⟨by rfl, ?_⟩) (h := ?_)
  rotate_left 1
  ·(intro w hSw; (try dsimp only at hSw); go_simp) <;> with_reducible rfl
  (try simp only [Act.put, List.setIfInBounds_toArray, List.set_cons_zero, List.set_cons_succ])
  refine tkPtV9 (i := 17) (v := ?_) (hy := Or.inl ⟨by rfl, ?_⟩) (h := ?_)
  rotate_left 1
  ·(intro w hSw; (try dsimp only at hSw); go_simp) <;> with_reducible rfl
  (try simp only [Act.put, List.setIfInBounds_toArray, List.set_cons_zero, List.set_cons_succ])
  refine tkPtV9 (i := 18) (v := ?_) (hy := Or.inl ⟨by rfl, ?_⟩) (h := ?_)
  rotate_left 1
  ·(intro w hSw; (try dsimp only at hSw); go_simp) <;> with_reducible rfl
  (try simp only [Act.put, List.setIfInBounds_toArray, List.set_cons_zero, List.set_cons_succ])
  refine tkPtV9 (i := 19) (v := ?_) (hy := Or.inl ⟨by rfl, ?_⟩) (h := ?_)
  rotate_left 1
  ·(intro w hSw; (try dsimp only at hSw); go_simp) <;> with_reducible rfl
  (try simp only [Act.put, List.setIfInBounds_toArray, List.set_cons_zero, List.set_cons_succ])
  refine wpAnyH_ready (rs := [20]) (by kernel_rfl) (by simp) ?_
  refine AllReadyH.cons (o := _) (by (simp only [List.getElem?_toArray, List.getElem?_cons_succ, List.getElem?_cons_zero]); rfl) (fun K hK => ?_) AllReadyH.nil
  go_simp
  go_at_call 60
  with_reducible refine (areCol_any (R.out.call (by repeat (first | with_reducible exact Below.refl _ _ | with_reducible assumption | with_reducible refine Below.setCell ?_ (by first | omega | (dsimp only; omega) | (simp <;> omega)) _ | with_reducible refine Below.alloc ?_ (by first | omega | (simp <;> omega)) _ | with_reducible refine bstep ?_ (by with_reducible assumption) | with_reducible refine Below.drew ?_ | with_reducible refine below_drewN ?_ _))) HN.out).mono ?_
  rintro e u4 ⟨rfl, hb4⟩
  have P4 : Bx (w.heap.size) ([.int .i64 f, .int .i64 A, .int .i64 B, .int .i64 C, (.slice ao n cap)]) u4 := (by with_reducible repeat (first | assumption | refine Bx.drew ?_ | refine Bx.alloc ?_ _ | refine Bx.call ?_ (by assumption)))
  have B4 : Below w.heap.size w u4 := (by with_reducible repeat (first | assumption | refine Below.drew ?_ | refine bstep ?_ (by assumption)))
  clear hb4
  go_wp2_with fail
  refine hK.out _ _ ?_ (fun hHeld => ?_)
  ·(try dsimp only)
   exact P4.cells5
  clear hK K
  (try simp only [Act.put, List.setIfInBounds_toArray, List.set_cons_zero, List.set_cons_succ])
  refine tkPtV9 (i := 21) (v := ?_) (hy := Or.inl ⟨by rfl, ?_⟩) (h := ?_)
  rotate_left 1
  ·(intro w hSw; (try dsimp only at hSw); go_simp) <;> with_reducible rfl
  (try simp only [Act.put, List.setIfInBounds_toArray, List.set_cons_zero, List.set_cons_succ])
  refine tkPtV9 (i := 22) (v := ?_) (hy := Or.inl ⟨by rfl, ?_⟩) (h := ?_)
  rotate_left 1
  ·(intro w hSw; (try dsimp only at hSw); go_simp) <;> with_reducible rfl
  (try simp only [Act.put, List.setIfInBounds_toArray, List.set_cons_zero, List.set_cons_succ])
  refine wpAnyH_done (by kernel_rfl) ?_ _
  go_wp2
  go_ret
  refine ⟨ret_bool EA.out.symm, ?_⟩
  repeat (first | with_reducible exact Below.refl _ _ | with_reducible assumption | with_reducible refine Below.setCell ?_ (by first | omega | (dsimp only; omega) | (simp <;> omega)) _ | with_reducible refine Below.alloc ?_ (by first | omega | (simp <;> omega)) _ | with_reducible refine bstep ?_ (by with_reducible assumption) | with_reducible refine Below.drew ?_ | with_reducible refine below_drewN ?_ _)
end Go.Proofs.YtdgophfembpniaaGreatDoor
