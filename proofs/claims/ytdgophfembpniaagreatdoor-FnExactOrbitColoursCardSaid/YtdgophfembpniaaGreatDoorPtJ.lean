/-
 Whether a motion keeps a pattern, and the full lattice, in the model. Condition: the pattern is valid, the numbers small.
-/
import Derived.Test.YtdgophfembpniaaGreatDoorPtG
import Derived.Test.YtdgophfembpniaaGreatDoorMo3
namespace Go.Proofs.YtdgophfembpniaaGreatDoor
open Go.RowKit
set_option linter.unusedSimpArgs false
set_option linter.unusedVariables false
theorem tkPtJ {md P ops Q S} {i : Nat} {oi : Oper} {v : Value} {fuel : Nat} {listed : Array Bool} {a : Act} {w : World} (hi : ops[i]? = some oi := by (simp only [List.getElem?_toArray, List.getElem?_cons_succ, List.getElem?_cons_zero]); rfl) (hs : Region.noSelect ops = true := by kernel_rfl) (hf : Region.free md ops listed i = true := by kernel_rfl) (hr : (Region.ready md ops listed).contains i = true := by kernel_rfl) (hQ : ∀ c a w, Q (.panic c) (a.put oi.dst v) w → Q (.panic c) a w := by exact fun _ _ _ h => h) (hy : YieldsIf P ops S oi v a) (hS : S w := by assumption) (h : wpAnyH P md ops Q S fuel (listed.setIfInBounds i true) (a.put oi.dst v) w) : wpAnyH P md ops Q S (fuel + 1) listed a w := wpAnyH_take hi hs hf hr hQ hy hS h

theorem Bx.cells6 {g : Nat} {u0 u1 u2 u3 u4 u5 : Value} {W : World} (h : Bx g [u0, u1, u2, u3, u4, u5] W) : W.cell? ⟨g, 0, none⟩ = some u0 ∧ W.cell? ⟨g, 1, none⟩ = some u1 ∧ W.cell? ⟨g, 2, none⟩ = some u2 ∧ W.cell? ⟨g, 3, none⟩ = some u3 ∧ W.cell? ⟨g, 4, none⟩ = some u4 ∧ W.cell? ⟨g, 5, none⟩ = some u5 := ⟨h.c0, h.c1, h.c2, h.c3, h.c4, h.c5⟩
theorem cells2_at9 : ∀ (xs : List V29) (i : Nat) (hi : i < xs.length), (cells2 xs)[i * 2]? = some (.int .i64 xs[i].1) ∧ (cells2 xs)[i * 2 + 1]? = some (.int .i64 xs[i].2)
 | [], i, hi => by simp at hi
 | t :: xs, 0, _ => by simp [cells2]
 | t :: xs, i + 1, hi => by
  have hs := cells2_at9 xs i (by simpa using hi)
  have e : cells2 (t :: xs) = [.int .i64 t.1, .int .i64 t.2] ++ cells2 xs := by simp [cells2]
  rw [e, List.getElem?_append_right (by simp; omega), List.getElem?_append_right (by simp; omega)]
  simp only [List.length_cons, List.length_nil, List.getElem_cons_succ]
  rw [show (i + 1) * 2 - (0 + 1 + 1) = i * 2 by omega, show (i + 1) * 2 + 1 - (0 + 1 + 1) = i * 2 + 1 by omega]
  exact hs
theorem IRow.v29 {g : Nat} {xs : List V29} {W : World} (h : IRow g (xs.length * 2) (intAt (cells2 xs)) W) (i : Nat) (hi : i < xs.length) : Ko2 g (i * 2) xs[i].1 xs[i].2 W := by
 have k := h.ko2 (i * 2) (by omega)
 obtain ⟨e0, e1⟩ := cells2_at9 xs i hi
 have z0 : intAt (cells2 xs) (i * 2) = xs[i].1 := by simp [intAt, e0]
 have z1 : intAt (cells2 xs) (i * 2 + 1) = xs[i].2 := by simp [intAt, e1]
 rwa [z0, z1] at k
theorem bd9 {a t : Int} (ha : -1000 ≤ a ∧ a ≤ 1000) (ht : 0 ≤ t ∧ t ≤ 64) : -64000 ≤ a * t ∧ a * t ≤ 64000 := by
 have h1 := Int.mul_le_mul_of_nonneg_right ha.2 ht.1
 have h2 := Int.mul_le_mul_of_nonneg_right ha.1 ht.1
 omega
theorem cellP_mem9 {p q : Nat} {v : V29} (h : v ∈ cellP q p) : (0 ≤ v.1 ∧ v.1 < p) ∧ (0 ≤ v.2 ∧ v.2 < q) := by
 unfold cellP cellR at h
 obtain ⟨a, ha, h⟩ := List.mem_flatMap.1 h
 obtain ⟨b, hb, rfl⟩ := List.mem_map.1 h
 have h1 := List.mem_range.1 ha
 have h2 := List.mem_range.1 hb
 dsimp only
 omega
theorem kepM_snoc (A B C : Int) (F : Nat → Int) (a b c d x y : Int) (L : List V29) : kepM A B C F a b c d x y L = true ↔ ∀ v ∈ L, (F (numP A B C (a * v.1 + b * v.2 + x) (c * v.1 + d * v.2 + y)) == F (numP A B C v.1 v.2)) = true := List.all_eq_true
theorem kepM_no {A B C : Int} {F : Nat → Int} {a b c d x y : Int} {L : List V29} {v : V29} (hv : v ∈ L) (h : (F (numP A B C (a * v.1 + b * v.2 + x) (c * v.1 + d * v.2 + y)) == F (numP A B C v.1 v.2)) = false) : kepM A B C F a b c d x y L = false := by
 rw [kepM, List.all_eq_false]
 exact ⟨v, hv, by simp only [h]; simp⟩
set_option maxRecDepth 100000 in
set_option maxHeartbeats 16000000 in
theorem l09Keeps_any {lo hi p q n : Nat} {f B : Int} {v : Value} {F : Nat → Int} {W : World} (h : PatI f p B q n F) (hv : SRow lo hi 1 v n F W) (a b c d x y : Int) (hl : limB a b c d = true) (hxy : vecB x y = true) :
  Calls Tryz.prog 78 #[.agg #[.int .i64 f, .int .i64 (p : Int), .int .i64 B, .int .i64 (q : Int), v], .agg #[.int .i64 a, .int .i64 b, .int .i64 c, .int .i64 d, .int .i64 x, .int .i64 y]] W fun e w' => e = .returned (.bool (kepM (p : Int) B (q : Int) F a b c d x y (cellP q p))) ∧ Below W.heap.size W w' := by
 have R := Lib.hid hv
 have HH := Lib.hid h
 obtain ⟨hp1, hp2, hq1, hq2, hn64, hn1⟩ := h.bd
 have hpq : p * q ≤ 64 := by rw [← h.nn]; exact hn64
 have hpq1 : 1 ≤ p * q := by rw [← h.nn]; exact hn1
 obtain ⟨g, cap, rfl, hg, _, r⟩ := hv.irow hn1
 have hgs := hv.1
 have hgw : g < W.heap.size := by omega
 have HLI := Lib.hid (And.intro hl hxy)
 have P0 : Bx W.heap.size [.int .i64 f, .int .i64 (p : Int), .int .i64 B, .int .i64 (q : Int), .slice (some ⟨g, 0, none⟩) n cap] ((W.alloc (.cells #[.int .i64 f, .int .i64 (p : Int), .int .i64 B, .int .i64 (q : Int), .slice (some ⟨g, 0, none⟩) n cap] 34)).alloc (.cells #[.int .i64 a, .int .i64 b, .int .i64 c, .int .i64 d, .int .i64 x, .int .i64 y] 81)) := (Bx.at _ rfl).alloc _
 have M0 : Bx (W.heap.size + 1) [.int .i64 a, .int .i64 b, .int .i64 c, .int .i64 d, .int .i64 x, .int .i64 y] ((W.alloc (.cells #[.int .i64 f, .int .i64 (p : Int), .int .i64 B, .int .i64 (q : Int), .slice (some ⟨g, 0, none⟩) n cap] 34)).alloc (.cells #[.int .i64 a, .int .i64 b, .int .i64 c, .int .i64 d, .int .i64 x, .int .i64 y] 81)) := Bx.at _ (by simp)
 have B0 : Below W.heap.size W ((W.alloc (.cells #[.int .i64 f, .int .i64 (p : Int), .int .i64 B, .int .i64 (q : Int), .slice (some ⟨g, 0, none⟩) n cap] 34)).alloc (.cells #[.int .i64 a, .int .i64 b, .int .i64 c, .int .i64 d, .int .i64 x, .int .i64 y] 81)) := by repeat (first | with_reducible exact Below.refl _ _ | with_reducible assumption | with_reducible refine Below.setCell ?_ (by first | omega | (dsimp only; omega) | (simp <;> omega)) _ | with_reducible refine Below.alloc ?_ (by first | omega | (simp <;> omega)) _ | with_reducible refine bstep ?_ (by with_reducible assumption) | with_reducible refine Below.drew ?_ | with_reducible refine below_drewN ?_ _)
 clear hv h hl hxy
 go_enter Tryz.func78, Tryz.ntmps78
 go_wp2_with fail
 with_reducible refine (l03Cells_any p q B _ hp2 hq2).mono ?_
 rintro e w1 ⟨vc, rfl, hown, hb1⟩
 have P1 := P0.call hb1
 have M1 := M0.call hb1
 have B1 := bstep B0 hb1
 obtain ⟨N, hN⟩ : ∃ N, N = (cellP q p).length := ⟨_, rfl⟩
 have hNpq : N = p * q := by rw [hN, cellP_len]
 have hN64 : N ≤ 64 := by omega
 rw [← hN] at hown
 have HSR := SRow.of hown (cells2_int _) (by omega)
 obtain ⟨gc, capc, rfl, hgc, hgc2, rc⟩ := HSR.irow (by omega)
 rw [hN] at rc
 have hNi : (N : Int) ≤ 64 := by omega
 have HN := Lib.hid hN
 clear hown hb1 P0 M0 B0 hNpq hN HSR hp1 hp2 hq1 hq2 hpq hpq1
 have hl1 := M1.lt
 go_wp2_with fail
 go_loopw [6] (fun s X => ∃ k : Nat, s = .int .i64 (k : Int) ∧ k ≤ N ∧ (∀ v ∈ (cellP q p).take k, (F (numP (p : Int) B (q : Int) (a * v.1 + b * v.2 + x) (c * v.1 + d * v.2 + y)) == F (numP (p : Int) B (q : Int) v.1 v.2)) = true) ∧ Below w1.heap.size w1 X) (fun s _ => N - (intOf s).toNat)
 case atStart => exact ⟨0, rfl, by omega, fun v hv => by simp at hv, Below.refl _ _⟩
 case round =>
  obtain ⟨k, rfl, hk, hall, hB⟩ := hrel
  have HALL := Lib.hid hall
  clear hall
  have hB2 := bstep B1 hB
  by_cases hk1 : k < N
  ·have hk2 : (k : Int) < (N : Int) := by omega
   have hkc : k < (cellP q p).length := by rw [← HN.out]; exact hk1
   obtain ⟨⟨x0, x1⟩, hxx⟩ : ∃ v, v = (cellP q p)[k] := ⟨_, rfl⟩
   have KK := (rc.v29 k hkc).call hB
   rw [← hxx] at KK
   dsimp only at KK
   have hmem : ((x0, x1) : V29) ∈ cellP q p := by rw [hxx]; exact List.getElem_mem hkc
   have hbd := cellP_mem9 hmem
   dsimp only at hbd
   have hbd2 : (0 ≤ x0 ∧ x0 ≤ 64) ∧ (0 ≤ x1 ∧ x1 ≤ 64) := by have := HH.out.bd; omega
   have hla := limB_bd HLI.out.1
   have hvb := vecB_bd HLI.out.2
   have m1 := bd9 hla.1.1 hbd2.1
   have m2 := bd9 hla.1.2 hbd2.2
   have m3 := bd9 hla.2.1 hbd2.1
   have m4 := bd9 hla.2.2 hbd2.2
   have HPL := Lib.hid (fun X => l05Apply_any a b c d x y x0 x1 X HLI.out.1 HLI.out.2 (by simp [vecB]; omega))
   have MID := Lib.hid (show midI (a * x0 + b * x1 + x) ∧ midI (c * x0 + d * x1 + y) from ⟨by unfold midI; omega, by unfold midI; omega⟩)
   clear hla hvb m1 m2 m3 m4
   obtain ⟨X1, hX1⟩ : ∃ z, z = a * x0 + b * x1 + x := ⟨_, rfl⟩
   obtain ⟨X2, hX2⟩ : ∃ z, z = c * x0 + d * x1 + y := ⟨_, rfl⟩
   rw [← hX1, ← hX2] at HPL MID
   obtain ⟨b1, hb1⟩ : ∃ b, b = F (numP (p : Int) B (q : Int) X1 X2) := ⟨_, rfl⟩
   obtain ⟨b0, hb0⟩ : ∃ b, b = F (numP (p : Int) B (q : Int) x0 x1) := ⟨_, rfl⟩
   have HA1 := Lib.hid (fun X (hX : Below wr.heap.size wr X) => (show Calls Tryz.prog 54 #[.agg #[.int .i64 f, .int .i64 (p : Int), .int .i64 B, .int .i64 (q : Int), .slice (some ⟨g, 0, none⟩) n cap], .agg #[.int .i64 X1, .int .i64 X2]] X (fun e w' => e = .returned (.int .i64 b1) ∧ Below X.heap.size X w') from by rw [hb1]; exact l09At_any HH.out (R.out.call (bstep hB2 hX)) _ _ MID.out.1 MID.out.2))
   have HA0 := Lib.hid (fun X (hX : Below wr.heap.size wr X) => (show Calls Tryz.prog 54 #[.agg #[.int .i64 f, .int .i64 (p : Int), .int .i64 B, .int .i64 (q : Int), .slice (some ⟨g, 0, none⟩) n cap], .agg #[.int .i64 x0, .int .i64 x1]] X (fun e w' => e = .returned (.int .i64 b0) ∧ Below X.heap.size X w') from by rw [hb0]; exact l09At_any HH.out (R.out.call (bstep hB2 hX)) _ _ (by unfold midI; omega) (by unfold midI; omega)))
   have P0 := (P1.call hB).drew
   have M0 := (M1.call hB).drew
   have K0 := KK.drew
   have D0 : Below wr.heap.size wr wr.drew := (Below.refl _ _).drew
   have HX := Lib.hid (And.intro hxx (And.intro hX1 hX2))
   have HMEM := Lib.hid hmem
   clear hmem hbd hbd2 hxx hX1 hX2 KK
   by_cases hbb : b1 = b0
   ·have HEQ := Lib.hid (show (F (numP (p : Int) B (q : Int) X1 X2) == F (numP (p : Int) B (q : Int) x0 x1)) = true from by rw [← hb1, ← hb0, hbb]; simp)
    clear hb1 hb0
    subst hbb
    go_wp2_with fail
    refine wp_region_held_drew (S := (fun W9 => (W9.cell? ⟨W.heap.size, 0, none⟩ = some (.int .i64 f) ∧ W9.cell? ⟨W.heap.size, 1, none⟩ = some (.int .i64 (p : Int)) ∧ W9.cell? ⟨W.heap.size, 2, none⟩ = some (.int .i64 B) ∧ W9.cell? ⟨W.heap.size, 3, none⟩ = some (.int .i64 (q : Int)) ∧ W9.cell? ⟨W.heap.size, 4, none⟩ = some (.slice (some ⟨g, 0, none⟩) n cap)) ∧ (W9.cell? ⟨W.heap.size + 1, 0, none⟩ = some (.int .i64 a) ∧ W9.cell? ⟨W.heap.size + 1, 1, none⟩ = some (.int .i64 b) ∧ W9.cell? ⟨W.heap.size + 1, 2, none⟩ = some (.int .i64 c) ∧ W9.cell? ⟨W.heap.size + 1, 3, none⟩ = some (.int .i64 d) ∧ W9.cell? ⟨W.heap.size + 1, 4, none⟩ = some (.int .i64 x) ∧ W9.cell? ⟨W.heap.size + 1, 5, none⟩ = some (.int .i64 y)) ∧ (W9.cell? ⟨gc, k * 2, none⟩ = some (.int .i64 x0) ∧ W9.cell? ⟨gc, k * 2 + 1, none⟩ = some (.int .i64 x1)))) (by kernel_rfl) ?_ (fun hHeld => ?_)
    ·exact ⟨Bx.cells5 P0, Bx.cells6 M0, Ko2.cells K0⟩
    refine tkPtJ (i := 0) (v := ?_) (hy := Or.inl ⟨by rfl, ?_⟩) (h := ?_)
    rotate_left 1
    ·(intro w hSw; (try dsimp only at hSw); go_simp) <;> with_reducible rfl
    (try simp only [Act.put, List.setIfInBounds_toArray, List.set_cons_zero, List.set_cons_succ])
    refine tkPtJ (i := 1) (v := ?_) (hy := Or.inl ⟨by rfl, ?_⟩) (h := ?_)
    rotate_left 1
    ·(intro w hSw; (try dsimp only at hSw); go_simp) <;> with_reducible rfl
    (try simp only [Act.put, List.setIfInBounds_toArray, List.set_cons_zero, List.set_cons_succ])
    refine tkPtJ (i := 2) (v := ?_) (hy := Or.inl ⟨by rfl, ?_⟩) (h := ?_)
    rotate_left 1
    ·(intro w hSw; (try dsimp only at hSw); go_simp) <;> with_reducible rfl
    (try simp only [Act.put, List.setIfInBounds_toArray, List.set_cons_zero, List.set_cons_succ])
    refine tkPtJ (i := 3) (v := ?_) (hy := Or.inl ⟨by rfl, ?_⟩) (h := ?_)
    rotate_left 1
    ·(intro w hSw; (try dsimp only at hSw); go_simp) <;> with_reducible rfl
    (try simp only [Act.put, List.setIfInBounds_toArray, List.set_cons_zero, List.set_cons_succ])
    refine tkPtJ (i := 4) (v := ?_) (hy := Or.inl ⟨by rfl, ?_⟩) (h := ?_)
    rotate_left 1
    ·(intro w hSw; (try dsimp only at hSw); go_simp) <;> with_reducible rfl
    (try simp only [Act.put, List.setIfInBounds_toArray, List.set_cons_zero, List.set_cons_succ])
    refine tkPtJ (i := 5) (v := ?_) (hy := Or.inl ⟨by rfl, ?_⟩) (h := ?_)
    rotate_left 1
    ·(intro w hSw; (try dsimp only at hSw); go_simp) <;> with_reducible rfl
    (try simp only [Act.put, List.setIfInBounds_toArray, List.set_cons_zero, List.set_cons_succ])
    refine tkPtJ (i := 8) (v := ?_) (hy := Or.inl ⟨by rfl, ?_⟩) (h := ?_)
    rotate_left 1
    ·(intro w hSw; (try dsimp only at hSw); go_simp) <;> with_reducible rfl
    (try simp only [Act.put, List.setIfInBounds_toArray, List.set_cons_zero, List.set_cons_succ])
    refine tkPtJ (i := 9) (v := ?_) (hy := Or.inl ⟨by rfl, ?_⟩) (h := ?_)
    rotate_left 1
    ·(intro w hSw; (try dsimp only at hSw); go_simp) <;> with_reducible rfl
    (try simp only [Act.put, List.setIfInBounds_toArray, List.set_cons_zero, List.set_cons_succ])
    refine tkPtJ (i := 10) (v := ?_) (hy := Or.inl ⟨by rfl, ?_⟩) (h := ?_)
    rotate_left 1
    ·(intro w hSw; (try dsimp only at hSw); go_simp) <;> with_reducible rfl
    (try simp only [Act.put, List.setIfInBounds_toArray, List.set_cons_zero, List.set_cons_succ])
    refine tkPtJ (i := 11) (v := ?_) (hy := Or.inl ⟨by rfl, ?_⟩) (h := ?_)
    rotate_left 1
    ·(intro w hSw; (try dsimp only at hSw); go_simp) <;> with_reducible rfl
    (try simp only [Act.put, List.setIfInBounds_toArray, List.set_cons_zero, List.set_cons_succ])
    refine tkPtJ (i := 12) (v := ?_) (hy := Or.inl ⟨by rfl, ?_⟩) (h := ?_)
    rotate_left 1
    ·(intro w hSw; (try dsimp only at hSw); go_simp) <;> with_reducible rfl
    (try simp only [Act.put, List.setIfInBounds_toArray, List.set_cons_zero, List.set_cons_succ])
    refine wpAnyH_ready (rs := [6]) (by kernel_rfl) (by simp) ?_
    refine AllReadyH.cons (o := _) (by (simp only [List.getElem?_toArray, List.getElem?_cons_succ, List.getElem?_cons_zero]); rfl) (fun K hK => ?_) AllReadyH.nil
    go_simp
    go_at_call 112
    with_reducible refine (HPL.out _).mono ?_
    rintro e u1 ⟨rfl, hb1⟩
    have P1 : Bx W.heap.size [.int .i64 f, .int .i64 (p : Int), .int .i64 B, .int .i64 (q : Int), .slice (some ⟨g, 0, none⟩) n cap] u1 := (by with_reducible repeat (first | assumption | refine Bx.drew ?_ | refine Ko2.drew ?_ | refine Bx.call ?_ (by assumption) | refine Ko2.call ?_ (by assumption)))
    have M1 : Bx (W.heap.size + 1) [.int .i64 a, .int .i64 b, .int .i64 c, .int .i64 d, .int .i64 x, .int .i64 y] u1 := (by with_reducible repeat (first | assumption | refine Bx.drew ?_ | refine Ko2.drew ?_ | refine Bx.call ?_ (by assumption) | refine Ko2.call ?_ (by assumption)))
    have K1 : Ko2 gc (k * 2) x0 x1 u1 := (by with_reducible repeat (first | assumption | refine Bx.drew ?_ | refine Ko2.drew ?_ | refine Bx.call ?_ (by assumption) | refine Ko2.call ?_ (by assumption)))
    have D1 : Below wr.heap.size wr u1 := (by with_reducible repeat (first | assumption | refine Below.drew ?_ | refine bstep ?_ (by assumption)))
    clear hb1
    (try go_wp2_with fail)
    refine hK.out _ _ ?_ (fun hHeld => ?_)
    ·(try dsimp only)
     exact ⟨Bx.cells5 P1, Bx.cells6 M1, Ko2.cells K1⟩
    clear hK K
    (try simp only [Act.put, List.setIfInBounds_toArray, List.set_cons_zero, List.set_cons_succ])
    refine wpAnyH_ready (rs := [7]) (by kernel_rfl) (by simp) ?_
    refine AllReadyH.cons (o := _) (by (simp only [List.getElem?_toArray, List.getElem?_cons_succ, List.getElem?_cons_zero]); rfl) (fun K hK => ?_) AllReadyH.nil
    go_simp
    go_at_call 54
    with_reducible refine (HA1.out _ D1).mono ?_
    rintro e u2 ⟨rfl, hb2⟩
    have P2 : Bx W.heap.size [.int .i64 f, .int .i64 (p : Int), .int .i64 B, .int .i64 (q : Int), .slice (some ⟨g, 0, none⟩) n cap] u2 := (by with_reducible repeat (first | assumption | refine Bx.drew ?_ | refine Ko2.drew ?_ | refine Bx.call ?_ (by assumption) | refine Ko2.call ?_ (by assumption)))
    have M2 : Bx (W.heap.size + 1) [.int .i64 a, .int .i64 b, .int .i64 c, .int .i64 d, .int .i64 x, .int .i64 y] u2 := (by with_reducible repeat (first | assumption | refine Bx.drew ?_ | refine Ko2.drew ?_ | refine Bx.call ?_ (by assumption) | refine Ko2.call ?_ (by assumption)))
    have K2 : Ko2 gc (k * 2) x0 x1 u2 := (by with_reducible repeat (first | assumption | refine Bx.drew ?_ | refine Ko2.drew ?_ | refine Bx.call ?_ (by assumption) | refine Ko2.call ?_ (by assumption)))
    have D2 : Below wr.heap.size wr u2 := (by with_reducible repeat (first | assumption | refine Below.drew ?_ | refine bstep ?_ (by assumption)))
    clear hb2
    (try go_wp2_with fail)
    refine hK.out _ _ ?_ (fun hHeld => ?_)
    ·(try dsimp only)
     exact ⟨Bx.cells5 P2, Bx.cells6 M2, Ko2.cells K2⟩
    clear hK K
    (try simp only [Act.put, List.setIfInBounds_toArray, List.set_cons_zero, List.set_cons_succ])
    refine wpAnyH_ready (rs := [13]) (by kernel_rfl) (by simp) ?_
    refine AllReadyH.cons (o := _) (by (simp only [List.getElem?_toArray, List.getElem?_cons_succ, List.getElem?_cons_zero]); rfl) (fun K hK => ?_) AllReadyH.nil
    go_simp
    go_at_call 54
    with_reducible refine (HA0.out _ D2).mono ?_
    rintro e u3 ⟨rfl, hb3⟩
    have P3 : Bx W.heap.size [.int .i64 f, .int .i64 (p : Int), .int .i64 B, .int .i64 (q : Int), .slice (some ⟨g, 0, none⟩) n cap] u3 := (by with_reducible repeat (first | assumption | refine Bx.drew ?_ | refine Ko2.drew ?_ | refine Bx.call ?_ (by assumption) | refine Ko2.call ?_ (by assumption)))
    have M3 : Bx (W.heap.size + 1) [.int .i64 a, .int .i64 b, .int .i64 c, .int .i64 d, .int .i64 x, .int .i64 y] u3 := (by with_reducible repeat (first | assumption | refine Bx.drew ?_ | refine Ko2.drew ?_ | refine Bx.call ?_ (by assumption) | refine Ko2.call ?_ (by assumption)))
    have K3 : Ko2 gc (k * 2) x0 x1 u3 := (by with_reducible repeat (first | assumption | refine Bx.drew ?_ | refine Ko2.drew ?_ | refine Bx.call ?_ (by assumption) | refine Ko2.call ?_ (by assumption)))
    have D3 : Below wr.heap.size wr u3 := (by with_reducible repeat (first | assumption | refine Below.drew ?_ | refine bstep ?_ (by assumption)))
    clear hb3
    (try go_wp2_with fail)
    refine hK.out _ _ ?_ (fun hHeld => ?_)
    ·(try dsimp only)
     exact ⟨Bx.cells5 P3, Bx.cells6 M3, Ko2.cells K3⟩
    clear hK K
    (try simp only [Act.put, List.setIfInBounds_toArray, List.set_cons_zero, List.set_cons_succ])
    refine tkPtJ (i := 14) (v := ?_) (hy := Or.inl ⟨by rfl, ?_⟩) (h := ?_)
    rotate_left 1
    ·(intro w hSw; (try dsimp only at hSw); go_simp) <;> with_reducible rfl
    (try simp only [Act.put, List.setIfInBounds_toArray, List.set_cons_zero, List.set_cons_succ])
    refine wpAnyH_done (by kernel_rfl) ?_ _
    go_wp2
    go_roundw
    case rel =>
     refine ⟨k + 1, by go_num, by omega, fun v hv => ?_, hB.trans (D3.mono hB.size)⟩
     rw [List.take_succ_eq_append_getElem (by rw [← HN.out]; exact hk1), List.mem_append] at hv
     rcases hv with hv | hv
     ·exact HALL.out v hv
     ·have e9 : v = (x0, x1) := by rw [HX.out.1]; simpa using hv
      subst e9
      dsimp only
      rw [← HX.out.2.1, ← HX.out.2.2]
      exact HEQ.out
    case measure => first | (simp [intOf]; done) | (simp [intOf]; omega)
   ·have HNE := Lib.hid (show (F (numP (p : Int) B (q : Int) X1 X2) == F (numP (p : Int) B (q : Int) x0 x1)) = false from by rw [← hb1, ← hb0]; simpa using hbb)
    have hbn : (b1 != b0) = true := by simp [hbb]
    clear hb1 hb0
    go_wp2_with fail
    refine wp_region_held_drew (S := (fun W9 => (W9.cell? ⟨W.heap.size, 0, none⟩ = some (.int .i64 f) ∧ W9.cell? ⟨W.heap.size, 1, none⟩ = some (.int .i64 (p : Int)) ∧ W9.cell? ⟨W.heap.size, 2, none⟩ = some (.int .i64 B) ∧ W9.cell? ⟨W.heap.size, 3, none⟩ = some (.int .i64 (q : Int)) ∧ W9.cell? ⟨W.heap.size, 4, none⟩ = some (.slice (some ⟨g, 0, none⟩) n cap)) ∧ (W9.cell? ⟨W.heap.size + 1, 0, none⟩ = some (.int .i64 a) ∧ W9.cell? ⟨W.heap.size + 1, 1, none⟩ = some (.int .i64 b) ∧ W9.cell? ⟨W.heap.size + 1, 2, none⟩ = some (.int .i64 c) ∧ W9.cell? ⟨W.heap.size + 1, 3, none⟩ = some (.int .i64 d) ∧ W9.cell? ⟨W.heap.size + 1, 4, none⟩ = some (.int .i64 x) ∧ W9.cell? ⟨W.heap.size + 1, 5, none⟩ = some (.int .i64 y)) ∧ (W9.cell? ⟨gc, k * 2, none⟩ = some (.int .i64 x0) ∧ W9.cell? ⟨gc, k * 2 + 1, none⟩ = some (.int .i64 x1)))) (by kernel_rfl) ?_ (fun hHeld => ?_)
    ·exact ⟨Bx.cells5 P0, Bx.cells6 M0, Ko2.cells K0⟩
    refine tkPtJ (i := 0) (v := ?_) (hy := Or.inl ⟨by rfl, ?_⟩) (h := ?_)
    rotate_left 1
    ·(intro w hSw; (try dsimp only at hSw); go_simp) <;> with_reducible rfl
    (try simp only [Act.put, List.setIfInBounds_toArray, List.set_cons_zero, List.set_cons_succ])
    refine tkPtJ (i := 1) (v := ?_) (hy := Or.inl ⟨by rfl, ?_⟩) (h := ?_)
    rotate_left 1
    ·(intro w hSw; (try dsimp only at hSw); go_simp) <;> with_reducible rfl
    (try simp only [Act.put, List.setIfInBounds_toArray, List.set_cons_zero, List.set_cons_succ])
    refine tkPtJ (i := 2) (v := ?_) (hy := Or.inl ⟨by rfl, ?_⟩) (h := ?_)
    rotate_left 1
    ·(intro w hSw; (try dsimp only at hSw); go_simp) <;> with_reducible rfl
    (try simp only [Act.put, List.setIfInBounds_toArray, List.set_cons_zero, List.set_cons_succ])
    refine tkPtJ (i := 3) (v := ?_) (hy := Or.inl ⟨by rfl, ?_⟩) (h := ?_)
    rotate_left 1
    ·(intro w hSw; (try dsimp only at hSw); go_simp) <;> with_reducible rfl
    (try simp only [Act.put, List.setIfInBounds_toArray, List.set_cons_zero, List.set_cons_succ])
    refine tkPtJ (i := 4) (v := ?_) (hy := Or.inl ⟨by rfl, ?_⟩) (h := ?_)
    rotate_left 1
    ·(intro w hSw; (try dsimp only at hSw); go_simp) <;> with_reducible rfl
    (try simp only [Act.put, List.setIfInBounds_toArray, List.set_cons_zero, List.set_cons_succ])
    refine tkPtJ (i := 5) (v := ?_) (hy := Or.inl ⟨by rfl, ?_⟩) (h := ?_)
    rotate_left 1
    ·(intro w hSw; (try dsimp only at hSw); go_simp) <;> with_reducible rfl
    (try simp only [Act.put, List.setIfInBounds_toArray, List.set_cons_zero, List.set_cons_succ])
    refine tkPtJ (i := 8) (v := ?_) (hy := Or.inl ⟨by rfl, ?_⟩) (h := ?_)
    rotate_left 1
    ·(intro w hSw; (try dsimp only at hSw); go_simp) <;> with_reducible rfl
    (try simp only [Act.put, List.setIfInBounds_toArray, List.set_cons_zero, List.set_cons_succ])
    refine tkPtJ (i := 9) (v := ?_) (hy := Or.inl ⟨by rfl, ?_⟩) (h := ?_)
    rotate_left 1
    ·(intro w hSw; (try dsimp only at hSw); go_simp) <;> with_reducible rfl
    (try simp only [Act.put, List.setIfInBounds_toArray, List.set_cons_zero, List.set_cons_succ])
    refine tkPtJ (i := 10) (v := ?_) (hy := Or.inl ⟨by rfl, ?_⟩) (h := ?_)
    rotate_left 1
    ·(intro w hSw; (try dsimp only at hSw); go_simp) <;> with_reducible rfl
    (try simp only [Act.put, List.setIfInBounds_toArray, List.set_cons_zero, List.set_cons_succ])
    refine tkPtJ (i := 11) (v := ?_) (hy := Or.inl ⟨by rfl, ?_⟩) (h := ?_)
    rotate_left 1
    ·(intro w hSw; (try dsimp only at hSw); go_simp) <;> with_reducible rfl
    (try simp only [Act.put, List.setIfInBounds_toArray, List.set_cons_zero, List.set_cons_succ])
    refine tkPtJ (i := 12) (v := ?_) (hy := Or.inl ⟨by rfl, ?_⟩) (h := ?_)
    rotate_left 1
    ·(intro w hSw; (try dsimp only at hSw); go_simp) <;> with_reducible rfl
    (try simp only [Act.put, List.setIfInBounds_toArray, List.set_cons_zero, List.set_cons_succ])
    refine wpAnyH_ready (rs := [6]) (by kernel_rfl) (by simp) ?_
    refine AllReadyH.cons (o := _) (by (simp only [List.getElem?_toArray, List.getElem?_cons_succ, List.getElem?_cons_zero]); rfl) (fun K hK => ?_) AllReadyH.nil
    go_simp
    go_at_call 112
    with_reducible refine (HPL.out _).mono ?_
    rintro e u1 ⟨rfl, hb1⟩
    have P1 : Bx W.heap.size [.int .i64 f, .int .i64 (p : Int), .int .i64 B, .int .i64 (q : Int), .slice (some ⟨g, 0, none⟩) n cap] u1 := (by with_reducible repeat (first | assumption | refine Bx.drew ?_ | refine Ko2.drew ?_ | refine Bx.call ?_ (by assumption) | refine Ko2.call ?_ (by assumption)))
    have M1 : Bx (W.heap.size + 1) [.int .i64 a, .int .i64 b, .int .i64 c, .int .i64 d, .int .i64 x, .int .i64 y] u1 := (by with_reducible repeat (first | assumption | refine Bx.drew ?_ | refine Ko2.drew ?_ | refine Bx.call ?_ (by assumption) | refine Ko2.call ?_ (by assumption)))
    have K1 : Ko2 gc (k * 2) x0 x1 u1 := (by with_reducible repeat (first | assumption | refine Bx.drew ?_ | refine Ko2.drew ?_ | refine Bx.call ?_ (by assumption) | refine Ko2.call ?_ (by assumption)))
    have D1 : Below wr.heap.size wr u1 := (by with_reducible repeat (first | assumption | refine Below.drew ?_ | refine bstep ?_ (by assumption)))
    clear hb1
    (try go_wp2_with fail)
    refine hK.out _ _ ?_ (fun hHeld => ?_)
    ·(try dsimp only)
     exact ⟨Bx.cells5 P1, Bx.cells6 M1, Ko2.cells K1⟩
    clear hK K
    (try simp only [Act.put, List.setIfInBounds_toArray, List.set_cons_zero, List.set_cons_succ])
    refine wpAnyH_ready (rs := [7]) (by kernel_rfl) (by simp) ?_
    refine AllReadyH.cons (o := _) (by (simp only [List.getElem?_toArray, List.getElem?_cons_succ, List.getElem?_cons_zero]); rfl) (fun K hK => ?_) AllReadyH.nil
    go_simp
    go_at_call 54
    with_reducible refine (HA1.out _ D1).mono ?_
    rintro e u2 ⟨rfl, hb2⟩
    have P2 : Bx W.heap.size [.int .i64 f, .int .i64 (p : Int), .int .i64 B, .int .i64 (q : Int), .slice (some ⟨g, 0, none⟩) n cap] u2 := (by with_reducible repeat (first | assumption | refine Bx.drew ?_ | refine Ko2.drew ?_ | refine Bx.call ?_ (by assumption) | refine Ko2.call ?_ (by assumption)))
    have M2 : Bx (W.heap.size + 1) [.int .i64 a, .int .i64 b, .int .i64 c, .int .i64 d, .int .i64 x, .int .i64 y] u2 := (by with_reducible repeat (first | assumption | refine Bx.drew ?_ | refine Ko2.drew ?_ | refine Bx.call ?_ (by assumption) | refine Ko2.call ?_ (by assumption)))
    have K2 : Ko2 gc (k * 2) x0 x1 u2 := (by with_reducible repeat (first | assumption | refine Bx.drew ?_ | refine Ko2.drew ?_ | refine Bx.call ?_ (by assumption) | refine Ko2.call ?_ (by assumption)))
    have D2 : Below wr.heap.size wr u2 := (by with_reducible repeat (first | assumption | refine Below.drew ?_ | refine bstep ?_ (by assumption)))
    clear hb2
    (try go_wp2_with fail)
    refine hK.out _ _ ?_ (fun hHeld => ?_)
    ·(try dsimp only)
     exact ⟨Bx.cells5 P2, Bx.cells6 M2, Ko2.cells K2⟩
    clear hK K
    (try simp only [Act.put, List.setIfInBounds_toArray, List.set_cons_zero, List.set_cons_succ])
    refine wpAnyH_ready (rs := [13]) (by kernel_rfl) (by simp) ?_
    refine AllReadyH.cons (o := _) (by (simp only [List.getElem?_toArray, List.getElem?_cons_succ, List.getElem?_cons_zero]); rfl) (fun K hK => ?_) AllReadyH.nil
    go_simp
    go_at_call 54
    with_reducible refine (HA0.out _ D2).mono ?_
    rintro e u3 ⟨rfl, hb3⟩
    have P3 : Bx W.heap.size [.int .i64 f, .int .i64 (p : Int), .int .i64 B, .int .i64 (q : Int), .slice (some ⟨g, 0, none⟩) n cap] u3 := (by with_reducible repeat (first | assumption | refine Bx.drew ?_ | refine Ko2.drew ?_ | refine Bx.call ?_ (by assumption) | refine Ko2.call ?_ (by assumption)))
    have M3 : Bx (W.heap.size + 1) [.int .i64 a, .int .i64 b, .int .i64 c, .int .i64 d, .int .i64 x, .int .i64 y] u3 := (by with_reducible repeat (first | assumption | refine Bx.drew ?_ | refine Ko2.drew ?_ | refine Bx.call ?_ (by assumption) | refine Ko2.call ?_ (by assumption)))
    have K3 : Ko2 gc (k * 2) x0 x1 u3 := (by with_reducible repeat (first | assumption | refine Bx.drew ?_ | refine Ko2.drew ?_ | refine Bx.call ?_ (by assumption) | refine Ko2.call ?_ (by assumption)))
    have D3 : Below wr.heap.size wr u3 := (by with_reducible repeat (first | assumption | refine Below.drew ?_ | refine bstep ?_ (by assumption)))
    clear hb3
    (try go_wp2_with fail)
    refine hK.out _ _ ?_ (fun hHeld => ?_)
    ·(try dsimp only)
     exact ⟨Bx.cells5 P3, Bx.cells6 M3, Ko2.cells K3⟩
    clear hK K
    (try simp only [Act.put, List.setIfInBounds_toArray, List.set_cons_zero, List.set_cons_succ])
    refine tkPtJ (i := 14) (v := ?_) (hy := Or.inl ⟨by rfl, ?_⟩) (h := ?_)
    rotate_left 1
    ·(intro w hSw; (try dsimp only at hSw); go_simp) <;> with_reducible rfl
    (try simp only [Act.put, List.setIfInBounds_toArray, List.set_cons_zero, List.set_cons_succ])
    refine wpAnyH_done (by kernel_rfl) ?_ _
    go_wp2
    go_ret
    exact ⟨ret_bool (kepM_no HMEM.out (by dsimp only; rw [← HX.out.2.1, ← HX.out.2.2]; exact HNE.out)).symm, bstep hB2 D3⟩
  ·obtain rfl : k = N := by omega
   go_wp2
   go_ret
   refine ⟨ret_bool ((kepM_snoc _ _ _ _ _ _ _ _ _ _ _).2 fun v hv => HALL.out v (by rw [HN.out, List.take_length]; exact hv)).symm, hB2⟩
end Go.Proofs.YtdgophfembpniaaGreatDoor
