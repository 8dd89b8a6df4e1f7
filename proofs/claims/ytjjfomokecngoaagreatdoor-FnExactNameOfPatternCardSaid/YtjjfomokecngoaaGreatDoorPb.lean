/-
 Several of my texts in one: PtV, PtA.
-/
import Derived.Test.YtjjfomokecngoaaGreatDoorGv
import Derived.Test.YtjjfomokecngoaaGreatDoorGe
import Derived.Deep.RegionHeld3
namespace Go.Proofs.YtjjfomokecngoaaGreatDoor
section
open Go.RowKit
set_option linter.unusedSimpArgs false
set_option linter.unusedVariables false
theorem pkPb0 {P : Prop} (h : P := by repeat (first | with_reducible exact Below.refl _ _ | with_reducible assumption | with_reducible refine Below.setCell ?_ (by first | omega | (dsimp only; omega) | (simp <;> omega)) _ | with_reducible refine Below.alloc ?_ (by first | omega | (simp <;> omega)) _ | with_reducible refine bstep ?_ (by with_reducible assumption) | with_reducible refine Below.drew ?_ | with_reducible refine below_drewN ?_ _)) : P := h
theorem pkPb2 {P : Prop} (h : P := by repeat (first | assumption | refine Bx.drew ?_ | refine Bx.alloc ?_ _ | refine Bx.call ?_ (by assumption))) : P := h
theorem pkPb3 {P : Prop} (h : P := by repeat (first | assumption | refine Below.drew ?_ | refine bstep ?_ (by assumption))) : P := h
theorem tkPb {md P ops Q S} {i : Nat} {oi : Oper} {v : Value} {fuel : Nat} {listed : Array Bool} {a : Act} {w : World} (hi : ops[i]? = some oi := by (simp only [List.getElem?_toArray, List.getElem?_cons_succ, List.getElem?_cons_zero]); rfl) (hs : Region.noSelect ops = true := by kernel_rfl) (hf : Region.free md ops listed i = true := by kernel_rfl) (hr : (Region.ready md ops listed).contains i = true := by kernel_rfl) (hQ : ∀ c a w, Q (.panic c) (a.put oi.dst v) w → Q (.panic c) a w := by exact fun _ _ _ h => h) (hy : YieldsIf P ops S oi v a) (hS : S w := by assumption) (h : wpAnyH P md ops Q S fuel (listed.setIfInBounds i true) (a.put oi.dst v) w) : wpAnyH P md ops Q S (fuel + 1) listed a w := wpAnyH_take hi hs hf hr hQ hy hS h

def patB (f A B C : Int) (n : Nat) (F : Nat → Int) : Bool := frB f && (latB A B C && (decide ((n : Int) = A * C) && colB n F))
/- a valid pattern: p times q cells -/
structure PatI (f : Int) (p : Nat) (B : Int) (q n : Nat) (F : Nat → Int) : Prop where
 fr : frB f = true
 lat : latI (p : Int) B (q : Int)
 nn : n = p * q
 col : ∀ t, t < n → 0 ≤ F t ∧ F t ≤ 9
theorem PatI.bd {f B : Int} {p q n : Nat} {F : Nat → Int} (h : PatI f p B q n F) : 1 ≤ p ∧ p ≤ 64 ∧ 1 ≤ q ∧ q ≤ 64 ∧ n ≤ 64 ∧ 1 ≤ n := by
 obtain ⟨_, hl, rfl, _⟩ := h
 have h1 := latI_bd hl
 have h2 := hl.2.2.2.2
 have h3 := hl.1
 have h4 := hl.2.1
 have e : ((p * q : Nat) : Int) = (p : Int) * (q : Int) := by simp
 have h5 : 1 * 1 ≤ p * q := Nat.mul_le_mul (by omega) (by omega)
 omega
theorem patB_of {f A B C : Int} {n : Nat} {F : Nat → Int} (h : patB f A B C n F = true) : ∃ p q : Nat, A = (p : Int) ∧ C = (q : Int) ∧ PatI f p B q n F := by
 simp only [patB, Bool.and_eq_true, decide_eq_true_eq] at h
 obtain ⟨h1, h2, h3, h4⟩ := h
 have hl := latB_iff.1 h2
 obtain ⟨p, rfl⟩ : ∃ p : Nat, A = (p : Int) := ⟨A.toNat, by have := hl.1; omega⟩
 obtain ⟨q, rfl⟩ : ∃ q : Nat, C = (q : Int) := ⟨C.toNat, by have := hl.2.1; omega⟩
 exact ⟨p, q, rfl, rfl, h1, hl, by exact_mod_cast h3, fun t ht => colB_at h4 ht⟩
theorem PatI.b {f B : Int} {p q n : Nat} {F : Nat → Int} (h : PatI f p B q n F) : patB f (p : Int) B (q : Int) n F = true := by
 obtain ⟨a, b, c, d⟩ := h
 have hc : colB n F = true := colB_yes fun t ht => by have := d t ht; simp [inB]; omega
 have hn : ((n : Nat) : Int) = (p : Int) * (q : Int) := by exact_mod_cast c
 simp only [patB, Bool.and_eq_true, decide_eq_true_eq]
 exact ⟨a, latB_iff.2 b, hn, hc⟩
theorem lat_prod {A B C : Int} (h : latB A B C = true) : 1 ≤ A * C ∧ A * C ≤ 64 := by
 have hl := latB_iff.1 h
 refine ⟨?_, hl.2.2.2.2⟩
 have := Int.mul_le_mul hl.1 hl.2.1 (by omega) (by have := hl.1; omega)
 omega
set_option maxHeartbeats 1000000 in
theorem noColP_any (x : Int) (w : World) :
  Calls Tryz.prog 132 #[.int .i64 x] w fun e w' => e = .returned (.bool (!inB x 0 9)) ∧ Below w.heap.size w w' := by
 by_cases h1 : x < 0
 ·have e : inB x 0 9 = false := by simp [inB]; omega
  rw [e]
  go_enter Tryz.func132, Tryz.ntmps132
  go_wp2
  go_ret
  exact ⟨rfl, Below.refl _ _⟩
 ·have e : (!inB x 0 9) = decide (9 < x) := by by_cases h2 : 9 < x <;> simp [inB, h2] <;> omega
  rw [e]
  go_enter Tryz.func132, Tryz.ntmps132
  go_wp2
  go_ret
  exact ⟨rfl, Below.refl _ _⟩
set_option maxHeartbeats 4000000 in
theorem indexColP_any {lo hi n : Nat} {v : Value} {F : Nat → Int} {w : World} (h : SRow lo hi 1 v n F w) (hn : n ≤ 64) :
  Calls Tryz.prog 197 #[v, .func (.func 132) #[] #[]] w fun e w' => (∃ z : Int, e = .returned (.int .i64 z) ∧ decide (0 ≤ z) = !colB n F ∧ -1 ≤ z ∧ z ≤ 144) ∧ Below w.heap.size w w' := by
 have R := Lib.hid h
 obtain ⟨ao, cap, rfl⟩ := h.slice
 clear h
 have hn2 : (n : Int) ≤ 64 := by omega
 go_enter Tryz.func197, Tryz.ntmps197
 go_wp2_with fail
 go_loopw [8] (fun s W => ∃ k : Nat, s = .int .i64 (k : Int) ∧ k ≤ n ∧ (∀ t, t < k → inB (F t) 0 9 = true) ∧ Below w.heap.size w W) (fun s _ => n - (intOf s).toNat)
 case atStart => exact ⟨0, rfl, by omega, fun t ht => by omega, Below.refl _ _⟩
 case round =>
  obtain ⟨k, rfl, hk, hall, hB⟩ := hrel
  have HA := Lib.hid hall
  clear hall
  by_cases hk1 : k < n
  ·have hk2 : (k : Int) < (n : Int) := by omega
   have hkx : (k : Int) ≤ 64 := by omega
   have r := R.out.call hB
   obtain ⟨_, _, hr⟩ := r
   obtain ⟨g, cap', e, _, _, r⟩ := hr.resolve_left (fun h => by omega)
   simp only [Value.slice.injEq] at e
   obtain ⟨rfl, _, rfl⟩ := e
   clear hr
   have c0 := r.at k (by omega)
   clear r
   have HB := Lib.hid hB
   clear hB
   rcases hx : inB (F k) 0 9 with _ | _
   ·go_wp2_with fail
    refine (noColP_any _ _).mono ?_
    rintro e w' ⟨rfl, hb'⟩
    rw [hx]
    go_wp2
    go_ret
    exact ⟨⟨_, rfl, by rw [colB_no hk1 hx]; simp, by omega, by omega⟩, bstep HB.out hb'⟩
   ·go_wp2_with fail
    refine (noColP_any _ _).mono ?_
    rintro e w' ⟨rfl, hb'⟩
    rw [hx]
    go_wp2
    go_roundw
    case rel => exact ⟨k + 1, by go_num, by omega, fun t ht => by rcases Nat.lt_or_ge t k with h | h; exact HA.out t h; (have : t = k := by omega); rw [this]; exact hx, bstep HB.out hb'⟩
    case measure => first | (simp [intOf]; done) | (simp [intOf]; omega)
  ·obtain rfl : k = n := by omega
   go_wp2
   go_ret
   exact ⟨⟨_, rfl, by rw [colB_yes HA.out]; rfl, by omega, by omega⟩, hB⟩
set_option maxHeartbeats 4000000 in
theorem containsColP_any {lo hi n : Nat} {v : Value} {F : Nat → Int} {w : World} (h : SRow lo hi 1 v n F w) (hn : n ≤ 64) :
  Calls Tryz.prog 135 #[v, .func (.func 132) #[] #[]] w fun e w' => e = .returned (.bool (!colB n F)) ∧ Below w.heap.size w w' := by
 have HN := Lib.hid hn
 have R := Lib.hid h
 obtain ⟨ao, cap, rfl⟩ := h.slice
 clear h hn
 go_enter Tryz.func135, Tryz.ntmps135
 go_wp2_with fail
 refine (indexColP_any R.out HN.out).mono ?_
 rintro e w' ⟨⟨z, rfl, hz, hz1, hz2⟩, hb⟩
 have HZ := Lib.hid hz
 clear hz
 go_wp2
 go_ret
 exact ⟨ret_bool HZ.out, hb⟩
theorem indexP_any (A B C : Int) (w : World) (h : -1000000 ≤ A * C ∧ A * C ≤ 1000000) :
  Calls Tryz.prog 134 #[.agg #[.int .i64 A, .int .i64 B, .int .i64 C]] w fun e w' => e = .returned (.int .i64 (A * C)) ∧ Below w.heap.size w w' := by
 go_enter Tryz.func134, Tryz.ntmps134
 go_wp2
 go_ret
 exact ⟨rfl, by exact pkPb0⟩
set_option maxHeartbeats 8000000 in
theorem patValid_any {lo hi n : Nat} {v : Value} {F : Nat → Int} {w : World} (f A B C : Int) (h : SRow lo hi 1 v n F w) :
  Calls Tryz.prog 64 #[.agg #[.int .i64 f, .int .i64 A, .int .i64 B, .int .i64 C, v]] w fun e w' => e = .returned (.bool (patB f A B C n F)) ∧ Below w.heap.size w w' := by
 have R := Lib.hid h
 have hn := h.2.1
 obtain ⟨ao, cap, rfl⟩ := h.slice
 clear h
 have P0 : Bx w.heap.size [.int .i64 f, .int .i64 A, .int .i64 B, .int .i64 C, (.slice ao n cap)] (w.alloc (.cells #[.int .i64 f, .int .i64 A, .int .i64 B, .int .i64 C, .slice ao n cap] 40)) := Bx.at _ rfl
 have B0 : Below w.heap.size w (w.alloc (.cells #[.int .i64 f, .int .i64 A, .int .i64 B, .int .i64 C, .slice ao n cap] 40)) := (Below.refl _ _).alloc (Nat.le_refl _) _
 rcases h1 : frB f with _ | _
 ·have EA := Lib.hid (show patB f A B C n F = false by simp [patB, h1])
  have C1 : Hid (∀ W, Calls Tryz.prog 133 #[.int .i64 f] W fun e w' => e = .returned (.bool false) ∧ Below W.heap.size W w') := Lib.hid (fun W => by have h := implIsFrame_any f W; rw [h1] at h; exact h)
  go_enter Tryz.func64, Tryz.ntmps64
  go_wp2_with fail
  refine wp_region_held_drew (S := (fun W => W.cell? ⟨w.heap.size, 0, none⟩ = some (.int .i64 f) ∧ W.cell? ⟨w.heap.size, 1, none⟩ = some (.int .i64 A) ∧ W.cell? ⟨w.heap.size, 2, none⟩ = some (.int .i64 B) ∧ W.cell? ⟨w.heap.size, 3, none⟩ = some (.int .i64 C) ∧ W.cell? ⟨w.heap.size, 4, none⟩ = some (.slice ao n cap))) (by kernel_rfl) ?_ (fun hHeld => ?_)
  ·exact P0.cells5
  refine tkPb (i := 0) (v := ?_) (hy := Or.inl ⟨by rfl, ?_⟩) (h := ?_)
  rotate_left 1
  ·(intro w hSw; (try dsimp only at hSw); go_simp) <;> with_reducible rfl
  (try simp only [Act.put, List.setIfInBounds_toArray, List.set_cons_zero, List.set_cons_succ])
  refine tkPb (i := 1) (v := ?_) (hy := Or.inl ⟨by rfl, ?_⟩) (h := ?_)
  rotate_left 1
  ·(intro w hSw; (try dsimp only at hSw); go_simp) <;> with_reducible rfl
  (try simp only [Act.put, List.setIfInBounds_toArray, List.set_cons_zero, List.set_cons_succ])
  refine wpAnyH_ready (rs := [2]) (by kernel_rfl) (by simp) ?_
  refine AllReadyH.cons (o := _) (by (simp only [List.getElem?_toArray, List.getElem?_cons_succ, List.getElem?_cons_zero]); rfl) (fun K hK => ?_) AllReadyH.nil
  go_simp
  go_at_call 133
  refine (C1.out _).mono ?_
  rintro e u1 ⟨rfl, hb1⟩
  have P1 : Bx (w.heap.size) ([.int .i64 f, .int .i64 A, .int .i64 B, .int .i64 C, (.slice ao n cap)]) u1 := (by with_reducible exact pkPb2)
  have B1 : Below w.heap.size w u1 := (by with_reducible exact pkPb3)
  clear hb1
  go_wp2_with fail
  refine hK.out _ _ ?_ (fun hHeld => ?_)
  ·(try dsimp only)
   exact P1.cells5
  clear hK K
  (try simp only [Act.put, List.setIfInBounds_toArray, List.set_cons_zero, List.set_cons_succ])
  refine tkPb (i := 3) (v := ?_) (hy := Or.inl ⟨by rfl, ?_⟩) (h := ?_)
  rotate_left 1
  ·(intro w hSw; (try dsimp only at hSw); go_simp) <;> with_reducible rfl
  (try simp only [Act.put, List.setIfInBounds_toArray, List.set_cons_zero, List.set_cons_succ])
  refine tkPb (i := 4) (v := undef) (hy := Or.inr ⟨by rfl, rfl⟩) (h := ?_)
  (try simp only [Act.put, List.setIfInBounds_toArray, List.set_cons_zero, List.set_cons_succ])
  refine tkPb (i := 5) (v := undef) (hy := Or.inr ⟨by rfl, rfl⟩) (h := ?_)
  (try simp only [Act.put, List.setIfInBounds_toArray, List.set_cons_zero, List.set_cons_succ])
  refine tkPb (i := 6) (v := undef) (hy := Or.inr ⟨by rfl, rfl⟩) (h := ?_)
  (try simp only [Act.put, List.setIfInBounds_toArray, List.set_cons_zero, List.set_cons_succ])
  refine tkPb (i := 7) (v := ?_) (hy := Or.inl ⟨by rfl, ?_⟩) (h := ?_)
  rotate_left 1
  ·(intro w hSw; (try dsimp only at hSw); go_simp) <;> with_reducible rfl
  (try simp only [Act.put, List.setIfInBounds_toArray, List.set_cons_zero, List.set_cons_succ])
  refine tkPb (i := 8) (v := ?_) (hy := Or.inl ⟨by rfl, ?_⟩) (h := ?_)
  rotate_left 1
  ·(intro w hSw; (try dsimp only at hSw); go_simp) <;> with_reducible rfl
  (try simp only [Act.put, List.setIfInBounds_toArray, List.set_cons_zero, List.set_cons_succ])
  refine tkPb (i := 9) (v := undef) (hy := Or.inr ⟨by rfl, rfl⟩) (h := ?_)
  (try simp only [Act.put, List.setIfInBounds_toArray, List.set_cons_zero, List.set_cons_succ])
  refine tkPb (i := 10) (v := undef) (hy := Or.inr ⟨by rfl, rfl⟩) (h := ?_)
  (try simp only [Act.put, List.setIfInBounds_toArray, List.set_cons_zero, List.set_cons_succ])
  refine tkPb (i := 11) (v := undef) (hy := Or.inr ⟨by rfl, rfl⟩) (h := ?_)
  (try simp only [Act.put, List.setIfInBounds_toArray, List.set_cons_zero, List.set_cons_succ])
  refine tkPb (i := 12) (v := undef) (hy := Or.inr ⟨by rfl, rfl⟩) (h := ?_)
  (try simp only [Act.put, List.setIfInBounds_toArray, List.set_cons_zero, List.set_cons_succ])
  refine tkPb (i := 13) (v := undef) (hy := Or.inr ⟨by rfl, rfl⟩) (h := ?_)
  (try simp only [Act.put, List.setIfInBounds_toArray, List.set_cons_zero, List.set_cons_succ])
  refine tkPb (i := 14) (v := undef) (hy := Or.inr ⟨by rfl, rfl⟩) (h := ?_)
  (try simp only [Act.put, List.setIfInBounds_toArray, List.set_cons_zero, List.set_cons_succ])
  refine tkPb (i := 15) (v := undef) (hy := Or.inr ⟨by rfl, rfl⟩) (h := ?_)
  (try simp only [Act.put, List.setIfInBounds_toArray, List.set_cons_zero, List.set_cons_succ])
  refine tkPb (i := 16) (v := ?_) (hy := Or.inl ⟨by rfl, ?_⟩) (h := ?_)
  rotate_left 1
  ·(intro w hSw; (try dsimp only at hSw); go_simp) <;> with_reducible rfl
  (try simp only [Act.put, List.setIfInBounds_toArray, List.set_cons_zero, List.set_cons_succ])
  refine tkPb (i := 17) (v := ?_) (hy := Or.inl ⟨by rfl, ?_⟩) (h := ?_)
  rotate_left 1
  ·(intro w hSw; (try dsimp only at hSw); go_simp) <;> with_reducible rfl
  (try simp only [Act.put, List.setIfInBounds_toArray, List.set_cons_zero, List.set_cons_succ])
  refine tkPb (i := 18) (v := undef) (hy := Or.inr ⟨by rfl, rfl⟩) (h := ?_)
  (try simp only [Act.put, List.setIfInBounds_toArray, List.set_cons_zero, List.set_cons_succ])
  refine tkPb (i := 19) (v := undef) (hy := Or.inr ⟨by rfl, rfl⟩) (h := ?_)
  (try simp only [Act.put, List.setIfInBounds_toArray, List.set_cons_zero, List.set_cons_succ])
  refine tkPb (i := 20) (v := undef) (hy := Or.inr ⟨by rfl, rfl⟩) (h := ?_)
  (try simp only [Act.put, List.setIfInBounds_toArray, List.set_cons_zero, List.set_cons_succ])
  refine tkPb (i := 21) (v := undef) (hy := Or.inr ⟨by rfl, rfl⟩) (h := ?_)
  (try simp only [Act.put, List.setIfInBounds_toArray, List.set_cons_zero, List.set_cons_succ])
  refine tkPb (i := 22) (v := undef) (hy := Or.inr ⟨by rfl, rfl⟩) (h := ?_)
  (try simp only [Act.put, List.setIfInBounds_toArray, List.set_cons_zero, List.set_cons_succ])
  refine tkPb (i := 23) (v := ?_) (hy := Or.inl ⟨by rfl, ?_⟩) (h := ?_)
  rotate_left 1
  ·(intro w hSw; (try dsimp only at hSw); go_simp) <;> with_reducible rfl
  (try simp only [Act.put, List.setIfInBounds_toArray, List.set_cons_zero, List.set_cons_succ])
  refine tkPb (i := 24) (v := ?_) (hy := Or.inl ⟨by rfl, ?_⟩) (h := ?_)
  rotate_left 1
  ·(intro w hSw; (try dsimp only at hSw); go_simp) <;> with_reducible rfl
  (try simp only [Act.put, List.setIfInBounds_toArray, List.set_cons_zero, List.set_cons_succ])
  refine wpAnyH_done (by kernel_rfl) ?_ _
  go_wp2
  go_ret
  refine ⟨ret_bool EA.out.symm, ?_⟩
  exact pkPb0
 rcases h2 : latB A B C with _ | _
 ·have EA := Lib.hid (show patB f A B C n F = false by simp [patB, h2])
  have C1 : Hid (∀ W, Calls Tryz.prog 133 #[.int .i64 f] W fun e w' => e = .returned (.bool true) ∧ Below W.heap.size W w') := Lib.hid (fun W => by have h := implIsFrame_any f W; rw [h1] at h; exact h)
  have C2 : Hid (∀ W, Calls Tryz.prog 101 #[.agg #[.int .i64 A, .int .i64 B, .int .i64 C]] W fun e w' => e = .returned (.bool false) ∧ Below W.heap.size W w') := Lib.hid (fun W => by have h := isValidL_any A B C W; rw [h2] at h; exact h)
  go_enter Tryz.func64, Tryz.ntmps64
  go_wp2_with fail
  refine wp_region_held_drew (S := (fun W => W.cell? ⟨w.heap.size, 0, none⟩ = some (.int .i64 f) ∧ W.cell? ⟨w.heap.size, 1, none⟩ = some (.int .i64 A) ∧ W.cell? ⟨w.heap.size, 2, none⟩ = some (.int .i64 B) ∧ W.cell? ⟨w.heap.size, 3, none⟩ = some (.int .i64 C) ∧ W.cell? ⟨w.heap.size, 4, none⟩ = some (.slice ao n cap))) (by kernel_rfl) ?_ (fun hHeld => ?_)
  ·exact P0.cells5
  refine tkPb (i := 0) (v := ?_) (hy := Or.inl ⟨by rfl, ?_⟩) (h := ?_)
  rotate_left 1
  ·(intro w hSw; (try dsimp only at hSw); go_simp) <;> with_reducible rfl
  (try simp only [Act.put, List.setIfInBounds_toArray, List.set_cons_zero, List.set_cons_succ])
  refine tkPb (i := 1) (v := ?_) (hy := Or.inl ⟨by rfl, ?_⟩) (h := ?_)
  rotate_left 1
  ·(intro w hSw; (try dsimp only at hSw); go_simp) <;> with_reducible rfl
  (try simp only [Act.put, List.setIfInBounds_toArray, List.set_cons_zero, List.set_cons_succ])
  refine wpAnyH_ready (rs := [2]) (by kernel_rfl) (by simp) ?_
  refine AllReadyH.cons (o := _) (by (simp only [List.getElem?_toArray, List.getElem?_cons_succ, List.getElem?_cons_zero]); rfl) (fun K hK => ?_) AllReadyH.nil
  go_simp
  go_at_call 133
  refine (C1.out _).mono ?_
  rintro e u1 ⟨rfl, hb1⟩
  have P1 : Bx (w.heap.size) ([.int .i64 f, .int .i64 A, .int .i64 B, .int .i64 C, (.slice ao n cap)]) u1 := (by with_reducible exact pkPb2)
  have B1 : Below w.heap.size w u1 := (by with_reducible exact pkPb3)
  clear hb1
  go_wp2_with fail
  refine hK.out _ _ ?_ (fun hHeld => ?_)
  ·(try dsimp only)
   exact P1.cells5
  clear hK K
  (try simp only [Act.put, List.setIfInBounds_toArray, List.set_cons_zero, List.set_cons_succ])
  refine tkPb (i := 3) (v := ?_) (hy := Or.inl ⟨by rfl, ?_⟩) (h := ?_)
  rotate_left 1
  ·(intro w hSw; (try dsimp only at hSw); go_simp) <;> with_reducible rfl
  (try simp only [Act.put, List.setIfInBounds_toArray, List.set_cons_zero, List.set_cons_succ])
  refine tkPb (i := 4) (v := ?_) (hy := Or.inl ⟨by rfl, ?_⟩) (h := ?_)
  rotate_left 1
  ·(intro w hSw; (try dsimp only at hSw); go_simp) <;> with_reducible rfl
  (try simp only [Act.put, List.setIfInBounds_toArray, List.set_cons_zero, List.set_cons_succ])
  refine tkPb (i := 5) (v := ?_) (hy := Or.inl ⟨by rfl, ?_⟩) (h := ?_)
  rotate_left 1
  ·(intro w hSw; (try dsimp only at hSw); go_simp) <;> with_reducible rfl
  (try simp only [Act.put, List.setIfInBounds_toArray, List.set_cons_zero, List.set_cons_succ])
  refine wpAnyH_ready (rs := [6]) (by kernel_rfl) (by simp) ?_
  refine AllReadyH.cons (o := _) (by (simp only [List.getElem?_toArray, List.getElem?_cons_succ, List.getElem?_cons_zero]); rfl) (fun K hK => ?_) AllReadyH.nil
  go_simp
  go_at_call 101
  refine (C2.out _).mono ?_
  rintro e u2 ⟨rfl, hb2⟩
  have P2 : Bx (w.heap.size) ([.int .i64 f, .int .i64 A, .int .i64 B, .int .i64 C, (.slice ao n cap)]) u2 := (by with_reducible exact pkPb2)
  have B2 : Below w.heap.size w u2 := (by with_reducible exact pkPb3)
  clear hb2
  go_wp2_with fail
  refine hK.out _ _ ?_ (fun hHeld => ?_)
  ·(try dsimp only)
   exact P2.cells5
  clear hK K
  (try simp only [Act.put, List.setIfInBounds_toArray, List.set_cons_zero, List.set_cons_succ])
  refine tkPb (i := 7) (v := ?_) (hy := Or.inl ⟨by rfl, ?_⟩) (h := ?_)
  rotate_left 1
  ·(intro w hSw; (try dsimp only at hSw); go_simp) <;> with_reducible rfl
  (try simp only [Act.put, List.setIfInBounds_toArray, List.set_cons_zero, List.set_cons_succ])
  refine tkPb (i := 8) (v := ?_) (hy := Or.inl ⟨by rfl, ?_⟩) (h := ?_)
  rotate_left 1
  ·(intro w hSw; (try dsimp only at hSw); go_simp) <;> with_reducible rfl
  (try simp only [Act.put, List.setIfInBounds_toArray, List.set_cons_zero, List.set_cons_succ])
  refine tkPb (i := 9) (v := undef) (hy := Or.inr ⟨by rfl, rfl⟩) (h := ?_)
  (try simp only [Act.put, List.setIfInBounds_toArray, List.set_cons_zero, List.set_cons_succ])
  refine tkPb (i := 10) (v := undef) (hy := Or.inr ⟨by rfl, rfl⟩) (h := ?_)
  (try simp only [Act.put, List.setIfInBounds_toArray, List.set_cons_zero, List.set_cons_succ])
  refine tkPb (i := 11) (v := undef) (hy := Or.inr ⟨by rfl, rfl⟩) (h := ?_)
  (try simp only [Act.put, List.setIfInBounds_toArray, List.set_cons_zero, List.set_cons_succ])
  refine tkPb (i := 12) (v := undef) (hy := Or.inr ⟨by rfl, rfl⟩) (h := ?_)
  (try simp only [Act.put, List.setIfInBounds_toArray, List.set_cons_zero, List.set_cons_succ])
  refine tkPb (i := 13) (v := undef) (hy := Or.inr ⟨by rfl, rfl⟩) (h := ?_)
  (try simp only [Act.put, List.setIfInBounds_toArray, List.set_cons_zero, List.set_cons_succ])
  refine tkPb (i := 14) (v := undef) (hy := Or.inr ⟨by rfl, rfl⟩) (h := ?_)
  (try simp only [Act.put, List.setIfInBounds_toArray, List.set_cons_zero, List.set_cons_succ])
  refine tkPb (i := 15) (v := undef) (hy := Or.inr ⟨by rfl, rfl⟩) (h := ?_)
  (try simp only [Act.put, List.setIfInBounds_toArray, List.set_cons_zero, List.set_cons_succ])
  refine tkPb (i := 16) (v := ?_) (hy := Or.inl ⟨by rfl, ?_⟩) (h := ?_)
  rotate_left 1
  ·(intro w hSw; (try dsimp only at hSw); go_simp) <;> with_reducible rfl
  (try simp only [Act.put, List.setIfInBounds_toArray, List.set_cons_zero, List.set_cons_succ])
  refine tkPb (i := 17) (v := ?_) (hy := Or.inl ⟨by rfl, ?_⟩) (h := ?_)
  rotate_left 1
  ·(intro w hSw; (try dsimp only at hSw); go_simp) <;> with_reducible rfl
  (try simp only [Act.put, List.setIfInBounds_toArray, List.set_cons_zero, List.set_cons_succ])
  refine tkPb (i := 18) (v := undef) (hy := Or.inr ⟨by rfl, rfl⟩) (h := ?_)
  (try simp only [Act.put, List.setIfInBounds_toArray, List.set_cons_zero, List.set_cons_succ])
  refine tkPb (i := 19) (v := undef) (hy := Or.inr ⟨by rfl, rfl⟩) (h := ?_)
  (try simp only [Act.put, List.setIfInBounds_toArray, List.set_cons_zero, List.set_cons_succ])
  refine tkPb (i := 20) (v := undef) (hy := Or.inr ⟨by rfl, rfl⟩) (h := ?_)
  (try simp only [Act.put, List.setIfInBounds_toArray, List.set_cons_zero, List.set_cons_succ])
  refine tkPb (i := 21) (v := undef) (hy := Or.inr ⟨by rfl, rfl⟩) (h := ?_)
  (try simp only [Act.put, List.setIfInBounds_toArray, List.set_cons_zero, List.set_cons_succ])
  refine tkPb (i := 22) (v := undef) (hy := Or.inr ⟨by rfl, rfl⟩) (h := ?_)
  (try simp only [Act.put, List.setIfInBounds_toArray, List.set_cons_zero, List.set_cons_succ])
  refine tkPb (i := 23) (v := ?_) (hy := Or.inl ⟨by rfl, ?_⟩) (h := ?_)
  rotate_left 1
  ·(intro w hSw; (try dsimp only at hSw); go_simp) <;> with_reducible rfl
  (try simp only [Act.put, List.setIfInBounds_toArray, List.set_cons_zero, List.set_cons_succ])
  refine tkPb (i := 24) (v := ?_) (hy := Or.inl ⟨by rfl, ?_⟩) (h := ?_)
  rotate_left 1
  ·(intro w hSw; (try dsimp only at hSw); go_simp) <;> with_reducible rfl
  (try simp only [Act.put, List.setIfInBounds_toArray, List.set_cons_zero, List.set_cons_succ])
  refine wpAnyH_done (by kernel_rfl) ?_ _
  go_wp2
  go_ret
  refine ⟨ret_bool EA.out.symm, ?_⟩
  exact pkPb0
 by_cases h3 : ¬ (n : Int) = A * C
 ·have EA := Lib.hid (show patB f A B C n F = false by simp [patB, h3])
  have C1 : Hid (∀ W, Calls Tryz.prog 133 #[.int .i64 f] W fun e w' => e = .returned (.bool true) ∧ Below W.heap.size W w') := Lib.hid (fun W => by have h := implIsFrame_any f W; rw [h1] at h; exact h)
  have C2 : Hid (∀ W, Calls Tryz.prog 101 #[.agg #[.int .i64 A, .int .i64 B, .int .i64 C]] W fun e w' => e = .returned (.bool true) ∧ Below W.heap.size W w') := Lib.hid (fun W => by have h := isValidL_any A B C W; rw [h2] at h; exact h)
  have hp := lat_prod h2
  have C3 := Lib.hid (fun W => indexP_any A B C W (by omega))
  have h3b : ((n : Int) == A * C) = false := by simp [h3]
  go_enter Tryz.func64, Tryz.ntmps64
  go_wp2_with fail
  refine wp_region_held_drew (S := (fun W => W.cell? ⟨w.heap.size, 0, none⟩ = some (.int .i64 f) ∧ W.cell? ⟨w.heap.size, 1, none⟩ = some (.int .i64 A) ∧ W.cell? ⟨w.heap.size, 2, none⟩ = some (.int .i64 B) ∧ W.cell? ⟨w.heap.size, 3, none⟩ = some (.int .i64 C) ∧ W.cell? ⟨w.heap.size, 4, none⟩ = some (.slice ao n cap))) (by kernel_rfl) ?_ (fun hHeld => ?_)
  ·exact P0.cells5
  refine tkPb (i := 0) (v := ?_) (hy := Or.inl ⟨by rfl, ?_⟩) (h := ?_)
  rotate_left 1
  ·(intro w hSw; (try dsimp only at hSw); go_simp) <;> with_reducible rfl
  (try simp only [Act.put, List.setIfInBounds_toArray, List.set_cons_zero, List.set_cons_succ])
  refine tkPb (i := 1) (v := ?_) (hy := Or.inl ⟨by rfl, ?_⟩) (h := ?_)
  rotate_left 1
  ·(intro w hSw; (try dsimp only at hSw); go_simp) <;> with_reducible rfl
  (try simp only [Act.put, List.setIfInBounds_toArray, List.set_cons_zero, List.set_cons_succ])
  refine wpAnyH_ready (rs := [2]) (by kernel_rfl) (by simp) ?_
  refine AllReadyH.cons (o := _) (by (simp only [List.getElem?_toArray, List.getElem?_cons_succ, List.getElem?_cons_zero]); rfl) (fun K hK => ?_) AllReadyH.nil
  go_simp
  go_at_call 133
  refine (C1.out _).mono ?_
  rintro e u1 ⟨rfl, hb1⟩
  have P1 : Bx (w.heap.size) ([.int .i64 f, .int .i64 A, .int .i64 B, .int .i64 C, (.slice ao n cap)]) u1 := (by with_reducible exact pkPb2)
  have B1 : Below w.heap.size w u1 := (by with_reducible exact pkPb3)
  clear hb1
  go_wp2_with fail
  refine hK.out _ _ ?_ (fun hHeld => ?_)
  ·(try dsimp only)
   exact P1.cells5
  clear hK K
  (try simp only [Act.put, List.setIfInBounds_toArray, List.set_cons_zero, List.set_cons_succ])
  refine tkPb (i := 3) (v := ?_) (hy := Or.inl ⟨by rfl, ?_⟩) (h := ?_)
  rotate_left 1
  ·(intro w hSw; (try dsimp only at hSw); go_simp) <;> with_reducible rfl
  (try simp only [Act.put, List.setIfInBounds_toArray, List.set_cons_zero, List.set_cons_succ])
  refine tkPb (i := 4) (v := ?_) (hy := Or.inl ⟨by rfl, ?_⟩) (h := ?_)
  rotate_left 1
  ·(intro w hSw; (try dsimp only at hSw); go_simp) <;> with_reducible rfl
  (try simp only [Act.put, List.setIfInBounds_toArray, List.set_cons_zero, List.set_cons_succ])
  refine tkPb (i := 5) (v := ?_) (hy := Or.inl ⟨by rfl, ?_⟩) (h := ?_)
  rotate_left 1
  ·(intro w hSw; (try dsimp only at hSw); go_simp) <;> with_reducible rfl
  (try simp only [Act.put, List.setIfInBounds_toArray, List.set_cons_zero, List.set_cons_succ])
  refine wpAnyH_ready (rs := [6]) (by kernel_rfl) (by simp) ?_
  refine AllReadyH.cons (o := _) (by (simp only [List.getElem?_toArray, List.getElem?_cons_succ, List.getElem?_cons_zero]); rfl) (fun K hK => ?_) AllReadyH.nil
  go_simp
  go_at_call 101
  refine (C2.out _).mono ?_
  rintro e u2 ⟨rfl, hb2⟩
  have P2 : Bx (w.heap.size) ([.int .i64 f, .int .i64 A, .int .i64 B, .int .i64 C, (.slice ao n cap)]) u2 := (by with_reducible exact pkPb2)
  have B2 : Below w.heap.size w u2 := (by with_reducible exact pkPb3)
  clear hb2
  go_wp2_with fail
  refine hK.out _ _ ?_ (fun hHeld => ?_)
  ·(try dsimp only)
   exact P2.cells5
  clear hK K
  (try simp only [Act.put, List.setIfInBounds_toArray, List.set_cons_zero, List.set_cons_succ])
  refine tkPb (i := 7) (v := ?_) (hy := Or.inl ⟨by rfl, ?_⟩) (h := ?_)
  rotate_left 1
  ·(intro w hSw; (try dsimp only at hSw); go_simp) <;> with_reducible rfl
  (try simp only [Act.put, List.setIfInBounds_toArray, List.set_cons_zero, List.set_cons_succ])
  refine tkPb (i := 8) (v := ?_) (hy := Or.inl ⟨by rfl, ?_⟩) (h := ?_)
  rotate_left 1
  ·(intro w hSw; (try dsimp only at hSw); go_simp) <;> with_reducible rfl
  (try simp only [Act.put, List.setIfInBounds_toArray, List.set_cons_zero, List.set_cons_succ])
  refine tkPb (i := 9) (v := ?_) (hy := Or.inl ⟨by rfl, ?_⟩) (h := ?_)
  rotate_left 1
  ·(intro w hSw; (try dsimp only at hSw); go_simp) <;> with_reducible rfl
  (try simp only [Act.put, List.setIfInBounds_toArray, List.set_cons_zero, List.set_cons_succ])
  refine tkPb (i := 10) (v := ?_) (hy := Or.inl ⟨by rfl, ?_⟩) (h := ?_)
  rotate_left 1
  ·(intro w hSw; (try dsimp only at hSw); go_simp) <;> with_reducible rfl
  (try simp only [Act.put, List.setIfInBounds_toArray, List.set_cons_zero, List.set_cons_succ])
  refine tkPb (i := 11) (v := ?_) (hy := Or.inl ⟨by rfl, ?_⟩) (h := ?_)
  rotate_left 1
  ·(intro w hSw; (try dsimp only at hSw); go_simp) <;> with_reducible rfl
  (try simp only [Act.put, List.setIfInBounds_toArray, List.set_cons_zero, List.set_cons_succ])
  refine tkPb (i := 12) (v := ?_) (hy := Or.inl ⟨by rfl, ?_⟩) (h := ?_)
  rotate_left 1
  ·(intro w hSw; (try dsimp only at hSw); go_simp) <;> with_reducible rfl
  (try simp only [Act.put, List.setIfInBounds_toArray, List.set_cons_zero, List.set_cons_succ])
  refine tkPb (i := 13) (v := ?_) (hy := Or.inl ⟨by rfl, ?_⟩) (h := ?_)
  rotate_left 1
  ·(intro w hSw; (try dsimp only at hSw); go_simp) <;> with_reducible rfl
  (try simp only [Act.put, List.setIfInBounds_toArray, List.set_cons_zero, List.set_cons_succ])
  refine wpAnyH_ready (rs := [14]) (by kernel_rfl) (by simp) ?_
  refine AllReadyH.cons (o := _) (by (simp only [List.getElem?_toArray, List.getElem?_cons_succ, List.getElem?_cons_zero]); rfl) (fun K hK => ?_) AllReadyH.nil
  go_simp
  go_at_call 134
  refine (C3.out _).mono ?_
  rintro e u3 ⟨rfl, hb3⟩
  have P3 : Bx (w.heap.size) ([.int .i64 f, .int .i64 A, .int .i64 B, .int .i64 C, (.slice ao n cap)]) u3 := (by with_reducible exact pkPb2)
  have B3 : Below w.heap.size w u3 := (by with_reducible exact pkPb3)
  clear hb3
  go_wp2_with fail
  refine hK.out _ _ ?_ (fun hHeld => ?_)
  ·(try dsimp only)
   exact P3.cells5
  clear hK K
  (try simp only [Act.put, List.setIfInBounds_toArray, List.set_cons_zero, List.set_cons_succ])
  refine tkPb (i := 15) (v := ?_) (hy := Or.inl ⟨by rfl, ?_⟩) (h := ?_)
  rotate_left 1
  ·(intro w hSw; (try dsimp only at hSw); go_simp) <;> with_reducible rfl
  (try simp only [Act.put, List.setIfInBounds_toArray, List.set_cons_zero, List.set_cons_succ])
  refine tkPb (i := 16) (v := ?_) (hy := Or.inl ⟨by rfl, ?_⟩) (h := ?_)
  rotate_left 1
  ·(intro w hSw; (try dsimp only at hSw); go_simp) <;> with_reducible rfl
  (try simp only [Act.put, List.setIfInBounds_toArray, List.set_cons_zero, List.set_cons_succ])
  refine tkPb (i := 17) (v := ?_) (hy := Or.inl ⟨by rfl, ?_⟩) (h := ?_)
  rotate_left 1
  ·(intro w hSw; (try dsimp only at hSw); go_simp) <;> with_reducible rfl
  (try simp only [Act.put, List.setIfInBounds_toArray, List.set_cons_zero, List.set_cons_succ])
  refine tkPb (i := 18) (v := undef) (hy := Or.inr ⟨by rfl, rfl⟩) (h := ?_)
  (try simp only [Act.put, List.setIfInBounds_toArray, List.set_cons_zero, List.set_cons_succ])
  refine tkPb (i := 19) (v := undef) (hy := Or.inr ⟨by rfl, rfl⟩) (h := ?_)
  (try simp only [Act.put, List.setIfInBounds_toArray, List.set_cons_zero, List.set_cons_succ])
  refine tkPb (i := 20) (v := undef) (hy := Or.inr ⟨by rfl, rfl⟩) (h := ?_)
  (try simp only [Act.put, List.setIfInBounds_toArray, List.set_cons_zero, List.set_cons_succ])
  refine tkPb (i := 21) (v := undef) (hy := Or.inr ⟨by rfl, rfl⟩) (h := ?_)
  (try simp only [Act.put, List.setIfInBounds_toArray, List.set_cons_zero, List.set_cons_succ])
  refine tkPb (i := 22) (v := undef) (hy := Or.inr ⟨by rfl, rfl⟩) (h := ?_)
  (try simp only [Act.put, List.setIfInBounds_toArray, List.set_cons_zero, List.set_cons_succ])
  refine tkPb (i := 23) (v := ?_) (hy := Or.inl ⟨by rfl, ?_⟩) (h := ?_)
  rotate_left 1
  ·(intro w hSw; (try dsimp only at hSw); go_simp) <;> with_reducible rfl
  (try simp only [Act.put, List.setIfInBounds_toArray, List.set_cons_zero, List.set_cons_succ])
  refine tkPb (i := 24) (v := ?_) (hy := Or.inl ⟨by rfl, ?_⟩) (h := ?_)
  rotate_left 1
  ·(intro w hSw; (try dsimp only at hSw); go_simp) <;> with_reducible rfl
  (try simp only [Act.put, List.setIfInBounds_toArray, List.set_cons_zero, List.set_cons_succ])
  refine wpAnyH_done (by kernel_rfl) ?_ _
  go_wp2
  go_ret
  refine ⟨ret_bool EA.out.symm, ?_⟩
  exact pkPb0
 have h3 : (n : Int) = A * C := Classical.not_not.1 h3
 ·have EA := Lib.hid (show patB f A B C n F = colB n F by simp [patB, h1, h2, h3])
  have C1 : Hid (∀ W, Calls Tryz.prog 133 #[.int .i64 f] W fun e w' => e = .returned (.bool true) ∧ Below W.heap.size W w') := Lib.hid (fun W => by have h := implIsFrame_any f W; rw [h1] at h; exact h)
  have C2 : Hid (∀ W, Calls Tryz.prog 101 #[.agg #[.int .i64 A, .int .i64 B, .int .i64 C]] W fun e w' => e = .returned (.bool true) ∧ Below W.heap.size W w') := Lib.hid (fun W => by have h := isValidL_any A B C W; rw [h2] at h; exact h)
  have hp := lat_prod h2
  have C3 := Lib.hid (fun W => indexP_any A B C W (by omega))
  have h3b : ((n : Int) == A * C) = true := by simp [h3]
  have HN := Lib.hid (show n ≤ 64 by omega)
  go_enter Tryz.func64, Tryz.ntmps64
  go_wp2_with fail
  refine wp_region_held_drew (S := (fun W => W.cell? ⟨w.heap.size, 0, none⟩ = some (.int .i64 f) ∧ W.cell? ⟨w.heap.size, 1, none⟩ = some (.int .i64 A) ∧ W.cell? ⟨w.heap.size, 2, none⟩ = some (.int .i64 B) ∧ W.cell? ⟨w.heap.size, 3, none⟩ = some (.int .i64 C) ∧ W.cell? ⟨w.heap.size, 4, none⟩ = some (.slice ao n cap))) (by kernel_rfl) ?_ (fun hHeld => ?_)
  ·exact P0.cells5
  refine tkPb (i := 0) (v := ?_) (hy := Or.inl ⟨by rfl, ?_⟩) (h := ?_)
  rotate_left 1
  ·(intro w hSw; (try dsimp only at hSw); go_simp) <;> with_reducible rfl
  (try simp only [Act.put, List.setIfInBounds_toArray, List.set_cons_zero, List.set_cons_succ])
  refine tkPb (i := 1) (v := ?_) (hy := Or.inl ⟨by rfl, ?_⟩) (h := ?_)
  rotate_left 1
  ·(intro w hSw; (try dsimp only at hSw); go_simp) <;> with_reducible rfl
  (try simp only [Act.put, List.setIfInBounds_toArray, List.set_cons_zero, List.set_cons_succ])
  refine wpAnyH_ready (rs := [2]) (by kernel_rfl) (by simp) ?_
  refine AllReadyH.cons (o := _) (by (simp only [List.getElem?_toArray, List.getElem?_cons_succ, List.getElem?_cons_zero]); rfl) (fun K hK => ?_) AllReadyH.nil
  go_simp
  go_at_call 133
  refine (C1.out _).mono ?_
  rintro e u1 ⟨rfl, hb1⟩
  have P1 : Bx (w.heap.size) ([.int .i64 f, .int .i64 A, .int .i64 B, .int .i64 C, (.slice ao n cap)]) u1 := (by with_reducible exact pkPb2)
  have B1 : Below w.heap.size w u1 := (by with_reducible exact pkPb3)
  clear hb1
  go_wp2_with fail
  refine hK.out _ _ ?_ (fun hHeld => ?_)
  ·(try dsimp only)
   exact P1.cells5
  clear hK K
  (try simp only [Act.put, List.setIfInBounds_toArray, List.set_cons_zero, List.set_cons_succ])
  refine tkPb (i := 3) (v := ?_) (hy := Or.inl ⟨by rfl, ?_⟩) (h := ?_)
  rotate_left 1
  ·(intro w hSw; (try dsimp only at hSw); go_simp) <;> with_reducible rfl
  (try simp only [Act.put, List.setIfInBounds_toArray, List.set_cons_zero, List.set_cons_succ])
  refine tkPb (i := 4) (v := ?_) (hy := Or.inl ⟨by rfl, ?_⟩) (h := ?_)
  rotate_left 1
  ·(intro w hSw; (try dsimp only at hSw); go_simp) <;> with_reducible rfl
  (try simp only [Act.put, List.setIfInBounds_toArray, List.set_cons_zero, List.set_cons_succ])
  refine tkPb (i := 5) (v := ?_) (hy := Or.inl ⟨by rfl, ?_⟩) (h := ?_)
  rotate_left 1
  ·(intro w hSw; (try dsimp only at hSw); go_simp) <;> with_reducible rfl
  (try simp only [Act.put, List.setIfInBounds_toArray, List.set_cons_zero, List.set_cons_succ])
  refine wpAnyH_ready (rs := [6]) (by kernel_rfl) (by simp) ?_
  refine AllReadyH.cons (o := _) (by (simp only [List.getElem?_toArray, List.getElem?_cons_succ, List.getElem?_cons_zero]); rfl) (fun K hK => ?_) AllReadyH.nil
  go_simp
  go_at_call 101
  refine (C2.out _).mono ?_
  rintro e u2 ⟨rfl, hb2⟩
  have P2 : Bx (w.heap.size) ([.int .i64 f, .int .i64 A, .int .i64 B, .int .i64 C, (.slice ao n cap)]) u2 := (by with_reducible exact pkPb2)
  have B2 : Below w.heap.size w u2 := (by with_reducible exact pkPb3)
  clear hb2
  go_wp2_with fail
  refine hK.out _ _ ?_ (fun hHeld => ?_)
  ·(try dsimp only)
   exact P2.cells5
  clear hK K
  (try simp only [Act.put, List.setIfInBounds_toArray, List.set_cons_zero, List.set_cons_succ])
  refine tkPb (i := 7) (v := ?_) (hy := Or.inl ⟨by rfl, ?_⟩) (h := ?_)
  rotate_left 1
  ·(intro w hSw; (try dsimp only at hSw); go_simp) <;> with_reducible rfl
  (try simp only [Act.put, List.setIfInBounds_toArray, List.set_cons_zero, List.set_cons_succ])
  refine tkPb (i := 8) (v := ?_) (hy := Or.inl ⟨by rfl, ?_⟩) (h := ?_)
  rotate_left 1
  ·(intro w hSw; (try dsimp only at hSw); go_simp) <;> with_reducible rfl
  (try simp only [Act.put, List.setIfInBounds_toArray, List.set_cons_zero, List.set_cons_succ])
  refine tkPb (i := 9) (v := ?_) (hy := Or.inl ⟨by rfl, ?_⟩) (h := ?_)
  rotate_left 1
  ·(intro w hSw; (try dsimp only at hSw); go_simp) <;> with_reducible rfl
  (try simp only [Act.put, List.setIfInBounds_toArray, List.set_cons_zero, List.set_cons_succ])
  refine tkPb (i := 10) (v := ?_) (hy := Or.inl ⟨by rfl, ?_⟩) (h := ?_)
  rotate_left 1
  ·(intro w hSw; (try dsimp only at hSw); go_simp) <;> with_reducible rfl
  (try simp only [Act.put, List.setIfInBounds_toArray, List.set_cons_zero, List.set_cons_succ])
  refine tkPb (i := 11) (v := ?_) (hy := Or.inl ⟨by rfl, ?_⟩) (h := ?_)
  rotate_left 1
  ·(intro w hSw; (try dsimp only at hSw); go_simp) <;> with_reducible rfl
  (try simp only [Act.put, List.setIfInBounds_toArray, List.set_cons_zero, List.set_cons_succ])
  refine tkPb (i := 12) (v := ?_) (hy := Or.inl ⟨by rfl, ?_⟩) (h := ?_)
  rotate_left 1
  ·(intro w hSw; (try dsimp only at hSw); go_simp) <;> with_reducible rfl
  (try simp only [Act.put, List.setIfInBounds_toArray, List.set_cons_zero, List.set_cons_succ])
  refine tkPb (i := 13) (v := ?_) (hy := Or.inl ⟨by rfl, ?_⟩) (h := ?_)
  rotate_left 1
  ·(intro w hSw; (try dsimp only at hSw); go_simp) <;> with_reducible rfl
  (try simp only [Act.put, List.setIfInBounds_toArray, List.set_cons_zero, List.set_cons_succ])
  refine wpAnyH_ready (rs := [14]) (by kernel_rfl) (by simp) ?_
  refine AllReadyH.cons (o := _) (by (simp only [List.getElem?_toArray, List.getElem?_cons_succ, List.getElem?_cons_zero]); rfl) (fun K hK => ?_) AllReadyH.nil
  go_simp
  go_at_call 134
  refine (C3.out _).mono ?_
  rintro e u3 ⟨rfl, hb3⟩
  have P3 : Bx (w.heap.size) ([.int .i64 f, .int .i64 A, .int .i64 B, .int .i64 C, (.slice ao n cap)]) u3 := (by with_reducible exact pkPb2)
  have B3 : Below w.heap.size w u3 := (by with_reducible exact pkPb3)
  clear hb3
  go_wp2_with fail
  refine hK.out _ _ ?_ (fun hHeld => ?_)
  ·(try dsimp only)
   exact P3.cells5
  clear hK K
  (try simp only [Act.put, List.setIfInBounds_toArray, List.set_cons_zero, List.set_cons_succ])
  refine tkPb (i := 15) (v := ?_) (hy := Or.inl ⟨by rfl, ?_⟩) (h := ?_)
  rotate_left 1
  ·(intro w hSw; (try dsimp only at hSw); go_simp) <;> with_reducible rfl
  (try simp only [Act.put, List.setIfInBounds_toArray, List.set_cons_zero, List.set_cons_succ])
  refine tkPb (i := 16) (v := ?_) (hy := Or.inl ⟨by rfl, ?_⟩) (h := ?_)
  rotate_left 1
  ·(intro w hSw; (try dsimp only at hSw); go_simp) <;> with_reducible rfl
  (try simp only [Act.put, List.setIfInBounds_toArray, List.set_cons_zero, List.set_cons_succ])
  refine tkPb (i := 17) (v := ?_) (hy := Or.inl ⟨by rfl, ?_⟩) (h := ?_)
  rotate_left 1
  ·(intro w hSw; (try dsimp only at hSw); go_simp) <;> with_reducible rfl
  (try simp only [Act.put, List.setIfInBounds_toArray, List.set_cons_zero, List.set_cons_succ])
  refine tkPb (i := 18) (v := ?_) (hy := Or.inl ⟨by rfl, ?_⟩) (h := ?_)
  rotate_left 1
  ·(intro w hSw; (try dsimp only at hSw); go_simp) <;> with_reducible rfl
  (try simp only [Act.put, List.setIfInBounds_toArray, List.set_cons_zero, List.set_cons_succ])
  refine tkPb (i := 19) (v := ?_) (hy := Or.inl ⟨by rfl, ?_⟩) (h := ?_)
  rotate_left 1
  ·(intro w hSw; (try dsimp only at hSw); go_simp) <;> with_reducible rfl
  (try simp only [Act.put, List.setIfInBounds_toArray, List.set_cons_zero, List.set_cons_succ])
  refine tkPb (i := 20) (v := ?_) (hy := Or.inl ⟨by rfl, ?_⟩) (h := ?_)
  rotate_left 1
  ·(intro w hSw; (try dsimp only at hSw); go_simp) <;> with_reducible rfl
  (try simp only [Act.put, List.setIfInBounds_toArray, List.set_cons_zero, List.set_cons_succ])
  refine wpAnyH_ready (rs := [21]) (by kernel_rfl) (by simp) ?_
  refine AllReadyH.cons (o := _) (by (simp only [List.getElem?_toArray, List.getElem?_cons_succ, List.getElem?_cons_zero]); rfl) (fun K hK => ?_) AllReadyH.nil
  go_simp
  go_at_call 135
  with_reducible refine (containsColP_any (R.out.call (by exact pkPb0)) HN.out).mono ?_
  rintro e u4 ⟨rfl, hb4⟩
  have P4 : Bx (w.heap.size) ([.int .i64 f, .int .i64 A, .int .i64 B, .int .i64 C, (.slice ao n cap)]) u4 := (by with_reducible exact pkPb2)
  have B4 : Below w.heap.size w u4 := (by with_reducible exact pkPb3)
  clear hb4
  go_wp2_with fail
  refine hK.out _ _ ?_ (fun hHeld => ?_)
  ·(try dsimp only)
   exact P4.cells5
  clear hK K
  (try simp only [Act.put, List.setIfInBounds_toArray, List.set_cons_zero, List.set_cons_succ])
  refine tkPb (i := 22) (v := ?_) (hy := Or.inl ⟨by rfl, ?_⟩) (h := ?_)
  rotate_left 1
  ·(intro w hSw; (try dsimp only at hSw); go_simp) <;> with_reducible rfl
  (try simp only [Act.put, List.setIfInBounds_toArray, List.set_cons_zero, List.set_cons_succ])
  refine tkPb (i := 23) (v := ?_) (hy := Or.inl ⟨by rfl, ?_⟩) (h := ?_)
  rotate_left 1
  ·(intro w hSw; (try dsimp only at hSw); go_simp) <;> with_reducible rfl
  (try simp only [Act.put, List.setIfInBounds_toArray, List.set_cons_zero, List.set_cons_succ])
  refine tkPb (i := 24) (v := ?_) (hy := Or.inl ⟨by rfl, ?_⟩) (h := ?_)
  rotate_left 1
  ·(intro w hSw; (try dsimp only at hSw); go_simp) <;> with_reducible rfl
  (try simp only [Act.put, List.setIfInBounds_toArray, List.set_cons_zero, List.set_cons_succ])
  refine wpAnyH_done (by kernel_rfl) ?_ _
  go_wp2
  go_ret
  refine ⟨ret_bool EA.out.symm, ?_⟩
  exact pkPb0
end
end Go.Proofs.YtjjfomokecngoaaGreatDoor

namespace Go.Proofs.YtjjfomokecngoaaGreatDoor
section
open Go.RowKit
set_option linter.unusedSimpArgs false
set_option linter.unusedVariables false

theorem IRow.drewP {g N : Nat} {F : Nat → Int} {W : World} (h : IRow g N F W) : IRow g N F W.drew := h.call (Below.refl _ _).drew
theorem IRow.allocP {g N : Nat} {F : Nat → Int} {W : World} (h : IRow g N F W) (z : Obj) : IRow g N F (W.alloc z) := h.call ((Below.refl _ _).alloc (Nat.le_refl _) _)
/- the number of the cell to which a vector is reduced -/
def numP (A B C x y : Int) : Nat := (redX A B C x y * C + redY C y).toNat
theorem num_bd {A C X Y : Int} (hX : 0 ≤ X ∧ X < A) (hY : 0 ≤ Y ∧ Y < C) (hA : A ≤ 64) (hC : C ≤ 64) : (0 ≤ X * C ∧ X * C ≤ 4096) ∧ X * C + Y < A * C := by
 obtain ⟨a, rfl⟩ : ∃ a : Nat, X = (a : Int) := ⟨X.toNat, by omega⟩
 obtain ⟨c, rfl⟩ : ∃ c : Nat, C = (c : Int) := ⟨C.toNat, by omega⟩
 obtain ⟨p, rfl⟩ : ∃ p : Nat, A = (p : Int) := ⟨A.toNat, by omega⟩
 have h1 : a * c ≤ 64 * 64 := Nat.mul_le_mul (by omega) (by omega)
 have h2 : (a + 1) * c ≤ p * c := Nat.mul_le_mul_right c (by omega)
 rw [Nat.succ_mul] at h2
 have e1 : (a : Int) * (c : Int) = ((a * c : Nat) : Int) := by simp
 have e2 : (p : Int) * (c : Int) = ((p * c : Nat) : Int) := by simp
 rw [e1, e2]
 omega
theorem numP_int {A B C x y : Int} (h : latI A B C) : ((numP A B C x y : Nat) : Int) = redX A B C x y * C + redY C y := by
 have h1 := redX_bd (x := x) (y := y) h
 have h2 := redY_bd (y := y) h
 have h3 := latI_bd h
 have h4 := (num_bd h1 h2 h3.1 h3.2).1.1
 unfold numP
 omega
theorem numP_lt {f B : Int} {p q n : Nat} {F : Nat → Int} (h : PatI f p B q n F) (x y : Int) : numP (p : Int) B (q : Int) x y < n := by
 have h1 := redX_bd (x := x) (y := y) h.lat
 have h2 := redY_bd (y := y) h.lat
 have h3 := latI_bd h.lat
 have h4 := (num_bd h1 h2 h3.1 h3.2).2
 have h5 := numP_int (x := x) (y := y) h.lat
 have e : (p : Int) * (q : Int) = ((p * q : Nat) : Int) := by simp
 rw [h.nn]
 omega
/- facts on a vector's number, its parts as variables -/
theorem num_parts {f B : Int} {p q n : Nat} {F : Nat → Int} (h : PatI f p B q n F) (x y : Int) : ∃ (X Y : Int) (k : Nat), redX (p : Int) B (q : Int) x y = X ∧ redY (q : Int) y = Y ∧ numP (p : Int) B (q : Int) x y = k ∧ (0 ≤ X ∧ X < (p : Int)) ∧ (0 ≤ Y ∧ Y < (q : Int)) ∧ (k : Int) = X * (q : Int) + Y ∧ k < n ∧ (0 ≤ X * (q : Int) ∧ X * (q : Int) ≤ 4096) := by
 have h1 := redX_bd (x := x) (y := y) h.lat
 have h2 := redY_bd (y := y) h.lat
 have h3 := latI_bd h.lat
 exact ⟨_, _, _, rfl, rfl, rfl, h1, h2, numP_int h.lat, numP_lt h x y, (num_bd h1 h2 h3.1 h3.2).1⟩
set_option maxHeartbeats 4000000 in
theorem numberP_any (A B C X Y : Int) (w : World) (hm : 0 ≤ X * C ∧ X * C ≤ 4096) (hy : 0 ≤ Y ∧ Y ≤ 64) :
  Calls Tryz.prog 243 #[.agg #[.int .i64 A, .int .i64 B, .int .i64 C], .agg #[.int .i64 X, .int .i64 Y]] w fun e w' => e = .returned (.int .i64 (X * C + Y)) ∧ Below w.heap.size w w' := by
 go_enter Tryz.func243, Tryz.ntmps243
 go_wp2
 go_ret
 exact ⟨rfl, by exact pkPb0⟩
set_option maxRecDepth 100000 in
set_option maxHeartbeats 8000000 in
theorem at_any {lo hi p q n : Nat} {f B : Int} {v : Value} {F : Nat → Int} {W : World} (h : PatI f p B q n F) (hv : SRow lo hi 1 v n F W) (x y : Int) (hx : midI x) (hy : midI y) :
  Calls Tryz.prog 245 #[.agg #[.int .i64 f, .int .i64 (p : Int), .int .i64 B, .int .i64 (q : Int), v], .agg #[.int .i64 x, .int .i64 y]] W fun e w' => e = .returned (.int .i64 (F (numP (p : Int) B (q : Int) x y))) ∧ Below W.heap.size W w' := by
 obtain ⟨X, Y, k, eX, eY, ek, bX, bY, hk, hkn, hm⟩ := num_parts h x y
 have hbd := h.bd
 rw [ek]
 have HR := Lib.hid (fun W => (show Calls Tryz.prog 172 #[.agg #[.int .i64 ((p : Int)), .int .i64 B, .int .i64 ((q : Int))], .agg #[.int .i64 x, .int .i64 y]] W (fun e w' => e = .returned (.agg #[.int .i64 X, .int .i64 Y]) ∧ Below W.heap.size W w') from by have h9 := reduce_any (p : Int) B (q : Int) x y W h.lat hx hy; unfold redV at h9; rw [eX, eY] at h9; exact h9))
 have HN := Lib.hid (fun W => (show Calls Tryz.prog 243 #[.agg #[.int .i64 ((p : Int)), .int .i64 B, .int .i64 ((q : Int))], .agg #[.int .i64 X, .int .i64 Y]] W (fun e w' => e = .returned (.int .i64 (k : Int)) ∧ Below W.heap.size W w') from by rw [hk]; exact numberP_any (p : Int) B (q : Int) X Y W hm (by omega)))
 obtain ⟨g, cap, rfl, hg, _, r⟩ := hv.irow (by omega)
 have hgs := hv.1
 have hgw : g < W.heap.size := by omega
 have hkn1 : k < n * 1 := by omega
 have hki : (k : Int) < (n : Int) := by omega
 obtain ⟨b, hb⟩ : ∃ b, b = F k := ⟨_, rfl⟩
 rw [← hb]
 have HF := Lib.hid hb
 have P0 : Bx W.heap.size [.int .i64 f, .int .i64 (p : Int), .int .i64 B, .int .i64 (q : Int), .slice (some ⟨g, 0, none⟩) n cap] ((W.alloc (.cells #[.int .i64 f, .int .i64 (p : Int), .int .i64 B, .int .i64 (q : Int), .slice (some ⟨g, 0, none⟩) n cap] 40)).alloc (.cells #[.int .i64 x, .int .i64 y] 63)) := (Bx.at _ rfl).alloc _
 have V0 : Bx (W.heap.size + 1) [.int .i64 x, .int .i64 y] ((W.alloc (.cells #[.int .i64 f, .int .i64 (p : Int), .int .i64 B, .int .i64 (q : Int), .slice (some ⟨g, 0, none⟩) n cap] 40)).alloc (.cells #[.int .i64 x, .int .i64 y] 63)) := Bx.at _ (by simp)
 have I0 : IRow g (n * 1) F ((W.alloc (.cells #[.int .i64 f, .int .i64 (p : Int), .int .i64 B, .int .i64 (q : Int), .slice (some ⟨g, 0, none⟩) n cap] 40)).alloc (.cells #[.int .i64 x, .int .i64 y] 63)) := (r.allocP _).allocP _
 have hk0 : (0 : Int) ≤ (k : Int) := by omega
 clear r hv h hx hy eX eY ek bX bY hk hm hb hbd
 go_enter Tryz.func245, Tryz.ntmps245
 go_wp2_with fail
 go_region_held3 (fun W9 => (W9.cell? ⟨W.heap.size, 0, none⟩ = some (.int .i64 f) ∧ W9.cell? ⟨W.heap.size, 1, none⟩ = some (.int .i64 (p : Int)) ∧ W9.cell? ⟨W.heap.size, 2, none⟩ = some (.int .i64 B) ∧ W9.cell? ⟨W.heap.size, 3, none⟩ = some (.int .i64 (q : Int)) ∧ W9.cell? ⟨W.heap.size, 4, none⟩ = some (.slice (some ⟨g, 0, none⟩) n cap)) ∧ (W9.cell? ⟨W.heap.size + 1, 0, none⟩ = some (.int .i64 x) ∧ W9.cell? ⟨W.heap.size + 1, 1, none⟩ = some (.int .i64 y)) ∧ W9.cell? ⟨g, k, none⟩ = some (.int .i64 b)) ((refine And.intro (Bx.cells5 ?_) (And.intro (Bx.cells2 ?_) ((IRow.at (N := n * 1) ?_ _ hkn1).trans (by rw [HF.out])))) <;> (with_reducible repeat (first | assumption | refine Bx.drew ?_ | refine IRow.drewP ?_ | refine Bx.alloc ?_ _ | refine Bx.call ?_ (by assumption) | refine IRow.call ?_ (by assumption))))
  (first
   | (go_at_call 172; with_reducible refine (HR.out _).mono ?_; rintro e w2 ⟨rfl, hb2⟩)
   | (go_at_call 243; with_reducible refine (HN.out _).mono ?_; rintro e w3 ⟨rfl, hb3⟩))
 all_goals
  go_wp2
  go_ret
  exact ⟨rfl, by exact pkPb0⟩
end
end Go.Proofs.YtjjfomokecngoaaGreatDoor

