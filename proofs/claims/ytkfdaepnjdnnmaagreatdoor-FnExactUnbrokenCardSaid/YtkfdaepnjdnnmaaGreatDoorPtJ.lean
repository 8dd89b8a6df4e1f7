/-
  Whether a motion keeps a pattern, and the full lattice, in the model. Condition: the pattern is valid, the numbers small.
-/
import Derived.Test.YtkfdaepnjdnnmaaGreatDoorPtG
import Derived.Test.YtkfdaepnjdnnmaaGreatDoorMo3
namespace Go.Proofs.YtkfdaepnjdnnmaaGreatDoor
open Go.RowKit
set_option linter.unusedSimpArgs false
set_option linter.unusedVariables false

theorem Bx.cells6 {g : Nat} {u0 u1 u2 u3 u4 u5 : Value} {W : World} (h : Bx g [u0, u1, u2, u3, u4, u5] W) : W.cell? ⟨g, 0, none⟩ = some u0 ∧ W.cell? ⟨g, 1, none⟩ = some u1 ∧ W.cell? ⟨g, 2, none⟩ = some u2 ∧ W.cell? ⟨g, 3, none⟩ = some u3 ∧ W.cell? ⟨g, 4, none⟩ = some u4 ∧ W.cell? ⟨g, 5, none⟩ = some u5 := ⟨h.c0, h.c1, h.c2, h.c3, h.c4, h.c5⟩
theorem cells2_at9 : ∀ (xs : List V29) (i : Nat) (hi : i < xs.length), (cells2 xs)[i * 2]? = some (.int .i64 xs[i].1) ∧ (cells2 xs)[i * 2 + 1]? = some (.int .i64 xs[i].2)
  | [], i, hi => by simp at hi
  | t :: xs, 0, _ => by simp [cells2]
  | t :: xs, i + 1, hi => by
    have hs := cells2_at9 xs i (by simpa using hi)
    have e : cells2 (t :: xs) = [.int .i64 t.1, .int .i64 t.2] ++ cells2 xs := by simp [cells2]
    rw [e, List.getElem?_append_right (by simp; omega), List.getElem?_append_right (by simp; omega)]
    simp only [List.length_cons, List.length_nil, List.getElem_cons_succ]
    rw [show (i + 1) * 2 - (0 + 1 + 1) = i * 2 by omega, show (i + 1) * 2 + 1 - (0 + 1 + 1) = i * 2 + 1 by omega]
    exact hs
theorem IRow.v29 {g : Nat} {xs : List V29} {W : World} (h : IRow g (xs.length * 2) (intAt (cells2 xs)) W) (i : Nat) (hi : i < xs.length) : Ko2 g (i * 2) xs[i].1 xs[i].2 W := by
  have k := h.ko2 (i * 2) (by omega)
  obtain ⟨e0, e1⟩ := cells2_at9 xs i hi
  have z0 : intAt (cells2 xs) (i * 2) = xs[i].1 := by simp [intAt, e0]
  have z1 : intAt (cells2 xs) (i * 2 + 1) = xs[i].2 := by simp [intAt, e1]
  rwa [z0, z1] at k
theorem bd9 {a t : Int} (ha : -1000 ≤ a ∧ a ≤ 1000) (ht : 0 ≤ t ∧ t ≤ 64) : -64000 ≤ a * t ∧ a * t ≤ 64000 := by
  have h1 := Int.mul_le_mul_of_nonneg_right ha.2 ht.1
  have h2 := Int.mul_le_mul_of_nonneg_right ha.1 ht.1
  omega
theorem cellP_mem9 {p q : Nat} {v : V29} (h : v ∈ cellP q p) : (0 ≤ v.1 ∧ v.1 < p) ∧ (0 ≤ v.2 ∧ v.2 < q) := by
  unfold cellP cellR at h
  obtain ⟨a, ha, h⟩ := List.mem_flatMap.1 h
  obtain ⟨b, hb, rfl⟩ := List.mem_map.1 h
  have h1 := List.mem_range.1 ha
  have h2 := List.mem_range.1 hb
  dsimp only
  omega
theorem ownsRow_call9 {W w1 : World} {base : Nat} {e : TypeId} {size : Nat} {v : Value} {n : Nat} {xs : List Value} (h : W.ownsRow base e size v n xs) (hb : Below W.heap.size W w1) : w1.ownsRow base e size v n xs := by
  obtain ⟨h1, h2⟩ := h
  refine ⟨h1, h2.imp id ?_⟩
  rintro ⟨g, cap, cur, rfl, hg, hb9, r⟩
  exact ⟨g, cap, cur, rfl, hg, (hb.block g (Array.getElem?_eq_some_iff.1 hb9).1).trans hb9, r⟩
theorem VL_own {W : World} {base n g cap : Nat} {T : TypeId} {L : List (Int × Int)} (h : W.ownsRow base T 2 (.slice (some ⟨g, 0, none⟩) n cap) n (cells2 L)) (hn : n = L.length) : VL g L W := by
  refine ⟨(h.lt g rfl).2, fun i hi => ?_⟩
  obtain ⟨h1, h2⟩ := cells2_at9 L i hi
  exact ⟨(h.cellAt (i * 2) (by omega)).trans h1, (h.cellAt (i * 2 + 1) (by omega)).trans h2⟩
theorem kepM_snoc (A B C : Int) (F : Nat → Int) (a b c d x y : Int) (L : List V29) : kepM A B C F a b c d x y L = true ↔ ∀ v ∈ L, (F (numP A B C (a * v.1 + b * v.2 + x) (c * v.1 + d * v.2 + y)) == F (numP A B C v.1 v.2)) = true := List.all_eq_true
theorem kepM_no {A B C : Int} {F : Nat → Int} {a b c d x y : Int} {L : List V29} {v : V29} (hv : v ∈ L) (h : (F (numP A B C (a * v.1 + b * v.2 + x) (c * v.1 + d * v.2 + y)) == F (numP A B C v.1 v.2)) = false) : kepM A B C F a b c d x y L = false := by
  rw [kepM, List.all_eq_false]
  exact ⟨v, hv, by simp only [h]; simp⟩
set_option maxRecDepth 100000 in
set_option maxHeartbeats 16000000 in
theorem l09Keeps_any {lo hi p q n : Nat} {f B : Int} {v : Value} {F : Nat → Int} {W : World} (h : PatI f p B q n F) (hv : SRow lo hi 1 v n F W) (a b c d x y : Int) (hl : limB a b c d = true) (hxy : vecB x y = true) :
    Calls Tryz.prog 32 #[.agg #[.int .i64 f, .int .i64 (p : Int), .int .i64 B, .int .i64 (q : Int), v], .agg #[.int .i64 a, .int .i64 b, .int .i64 c, .int .i64 d, .int .i64 x, .int .i64 y]] W fun e w' => e = .returned (.bool (kepM (p : Int) B (q : Int) F a b c d x y (cellP q p))) ∧ Below W.heap.size W w' := by
  have R := Lib.hid hv
  have HH := Lib.hid h
  obtain ⟨hp1, hp2, hq1, hq2, hn64, hn1⟩ := h.bd
  have hpq : p * q ≤ 64 := by rw [← h.nn]; exact hn64
  have hpq1 : 1 ≤ p * q := by rw [← h.nn]; exact hn1
  obtain ⟨g, cap, rfl, hg, _, r⟩ := hv.irow hn1
  have hgs := hv.1
  have hgw : g < W.heap.size := by omega
  have HLI := Lib.hid (And.intro hl hxy)
  have P0 : Bx W.heap.size [.int .i64 f, .int .i64 (p : Int), .int .i64 B, .int .i64 (q : Int), .slice (some ⟨g, 0, none⟩) n cap] ((W.alloc (.cells #[.int .i64 f, .int .i64 (p : Int), .int .i64 B, .int .i64 (q : Int), .slice (some ⟨g, 0, none⟩) n cap] 35)).alloc (.cells #[.int .i64 a, .int .i64 b, .int .i64 c, .int .i64 d, .int .i64 x, .int .i64 y] 62)) := (Bx.at _ rfl).alloc _
  have M0 : Bx (W.heap.size + 1) [.int .i64 a, .int .i64 b, .int .i64 c, .int .i64 d, .int .i64 x, .int .i64 y] ((W.alloc (.cells #[.int .i64 f, .int .i64 (p : Int), .int .i64 B, .int .i64 (q : Int), .slice (some ⟨g, 0, none⟩) n cap] 35)).alloc (.cells #[.int .i64 a, .int .i64 b, .int .i64 c, .int .i64 d, .int .i64 x, .int .i64 y] 62)) := Bx.at _ (by simp)
  have B0 : Below W.heap.size W ((W.alloc (.cells #[.int .i64 f, .int .i64 (p : Int), .int .i64 B, .int .i64 (q : Int), .slice (some ⟨g, 0, none⟩) n cap] 35)).alloc (.cells #[.int .i64 a, .int .i64 b, .int .i64 c, .int .i64 d, .int .i64 x, .int .i64 y] 62)) := by repeat (first | with_reducible exact Below.refl _ _ | with_reducible assumption | with_reducible refine Below.setCell ?_ (by first | omega | (dsimp only; omega) | (simp <;> omega)) _ | with_reducible refine Below.alloc ?_ (by first | omega | (simp <;> omega)) _ | with_reducible refine bstep ?_ (by with_reducible assumption) | with_reducible refine Below.drew ?_ | with_reducible refine below_drewN ?_ _)
  clear hv h hl hxy
  go_enter Tryz.func32, Tryz.ntmps32
  go_wp2_with fail
  with_reducible refine (l03Cells_any p q B _ hp2 hq2).mono ?_
  rintro e w1 ⟨vc, rfl, hown, hb1⟩
  have P1 := P0.call hb1
  have M1 := M0.call hb1
  have B1 := bstep B0 hb1
  obtain ⟨N, hN⟩ : ∃ N, N = (cellP q p).length := ⟨_, rfl⟩
  have hNpq : N = p * q := by rw [hN, cellP_len]
  have hN64 : N ≤ 64 := by omega
  rw [← hN] at hown
  have HSR := SRow.of hown (cells2_int _) (by omega)
  obtain ⟨gc, capc, rfl, hgc, hgc2, rc⟩ := HSR.irow (by omega)
  rw [hN] at rc
  have hNi : (N : Int) ≤ 64 := by omega
  have HN := Lib.hid hN
  clear hown hb1 P0 M0 B0 hNpq hN HSR hp1 hp2 hq1 hq2 hpq hpq1
  have hl1 := M1.lt
  go_wp2_with fail
  go_loopw [6] (fun s X => ∃ k : Nat, s = .int .i64 (k : Int) ∧ k ≤ N ∧ (∀ v ∈ (cellP q p).take k, (F (numP (p : Int) B (q : Int) (a * v.1 + b * v.2 + x) (c * v.1 + d * v.2 + y)) == F (numP (p : Int) B (q : Int) v.1 v.2)) = true) ∧ Below w1.heap.size w1 X) (fun s _ => N - (intOf s).toNat)
  case atStart => exact ⟨0, rfl, by omega, fun v hv => by simp at hv, Below.refl _ _⟩
  case round =>
    obtain ⟨k, rfl, hk, hall, hB⟩ := hrel
    have HALL := Lib.hid hall
    clear hall
    have hB2 := bstep B1 hB
    by_cases hk1 : k < N
    · have hk2 : (k : Int) < (N : Int) := by omega
      have hkc : k < (cellP q p).length := by rw [← HN.out]; exact hk1
      obtain ⟨⟨x0, x1⟩, hxx⟩ : ∃ v, v = (cellP q p)[k] := ⟨_, rfl⟩
      have KK := (rc.v29 k hkc).call hB
      rw [← hxx] at KK
      dsimp only at KK
      have hmem : ((x0, x1) : V29) ∈ cellP q p := by rw [hxx]; exact List.getElem_mem hkc
      have hbd := cellP_mem9 hmem
      dsimp only at hbd
      have hbd2 : (0 ≤ x0 ∧ x0 ≤ 64) ∧ (0 ≤ x1 ∧ x1 ≤ 64) := by have := HH.out.bd; omega
      have hla := limB_bd HLI.out.1
      have hvb := vecB_bd HLI.out.2
      have m1 := bd9 hla.1.1 hbd2.1
      have m2 := bd9 hla.1.2 hbd2.2
      have m3 := bd9 hla.2.1 hbd2.1
      have m4 := bd9 hla.2.2 hbd2.2
      have HPL := Lib.hid (fun X => l05Apply_any a b c d x y x0 x1 X HLI.out.1 HLI.out.2 (by simp [vecB]; omega))
      have MID := Lib.hid (show midI (a * x0 + b * x1 + x) ∧ midI (c * x0 + d * x1 + y) from ⟨by unfold midI; omega, by unfold midI; omega⟩)
      clear hla hvb m1 m2 m3 m4
      obtain ⟨X1, hX1⟩ : ∃ z, z = a * x0 + b * x1 + x := ⟨_, rfl⟩
      obtain ⟨X2, hX2⟩ : ∃ z, z = c * x0 + d * x1 + y := ⟨_, rfl⟩
      rw [← hX1, ← hX2] at HPL MID
      obtain ⟨b1, hb1⟩ : ∃ b, b = F (numP (p : Int) B (q : Int) X1 X2) := ⟨_, rfl⟩
      obtain ⟨b0, hb0⟩ : ∃ b, b = F (numP (p : Int) B (q : Int) x0 x1) := ⟨_, rfl⟩
      have HA1 := Lib.hid (fun X (hX : Below wr.heap.size wr X) => (show Calls Tryz.prog 67 #[.agg #[.int .i64 f, .int .i64 (p : Int), .int .i64 B, .int .i64 (q : Int), .slice (some ⟨g, 0, none⟩) n cap], .agg #[.int .i64 X1, .int .i64 X2]] X (fun e w' => e = .returned (.int .i64 b1) ∧ Below X.heap.size X w') from by rw [hb1]; exact l09At_any HH.out (R.out.call (bstep hB2 hX)) _ _ MID.out.1 MID.out.2))
      have HA0 := Lib.hid (fun X (hX : Below wr.heap.size wr X) => (show Calls Tryz.prog 67 #[.agg #[.int .i64 f, .int .i64 (p : Int), .int .i64 B, .int .i64 (q : Int), .slice (some ⟨g, 0, none⟩) n cap], .agg #[.int .i64 x0, .int .i64 x1]] X (fun e w' => e = .returned (.int .i64 b0) ∧ Below X.heap.size X w') from by rw [hb0]; exact l09At_any HH.out (R.out.call (bstep hB2 hX)) _ _ (by unfold midI; omega) (by unfold midI; omega)))
      have P0 := (P1.call hB).drew
      have M0 := (M1.call hB).drew
      have K0 := KK.drew
      have D0 : Below wr.heap.size wr wr.drew := (Below.refl _ _).drew
      have HX := Lib.hid (And.intro hxx (And.intro hX1 hX2))
      have HMEM := Lib.hid hmem
      clear hmem hbd hbd2 hxx hX1 hX2 KK
      by_cases hbb : b1 = b0
      · have HEQ := Lib.hid (show (F (numP (p : Int) B (q : Int) X1 X2) == F (numP (p : Int) B (q : Int) x0 x1)) = true from by rw [← hb1, ← hb0, hbb]; simp)
        clear hb1 hb0
        subst hbb
        go_wp2_with fail
        refine wp_region_held_drew (S := (fun W9 => (W9.cell? ⟨W.heap.size, 0, none⟩ = some (.int .i64 f) ∧ W9.cell? ⟨W.heap.size, 1, none⟩ = some (.int .i64 (p : Int)) ∧ W9.cell? ⟨W.heap.size, 2, none⟩ = some (.int .i64 B) ∧ W9.cell? ⟨W.heap.size, 3, none⟩ = some (.int .i64 (q : Int)) ∧ W9.cell? ⟨W.heap.size, 4, none⟩ = some (.slice (some ⟨g, 0, none⟩) n cap)) ∧ (W9.cell? ⟨W.heap.size + 1, 0, none⟩ = some (.int .i64 a) ∧ W9.cell? ⟨W.heap.size + 1, 1, none⟩ = some (.int .i64 b) ∧ W9.cell? ⟨W.heap.size + 1, 2, none⟩ = some (.int .i64 c) ∧ W9.cell? ⟨W.heap.size + 1, 3, none⟩ = some (.int .i64 d) ∧ W9.cell? ⟨W.heap.size + 1, 4, none⟩ = some (.int .i64 x) ∧ W9.cell? ⟨W.heap.size + 1, 5, none⟩ = some (.int .i64 y)) ∧ (W9.cell? ⟨gc, k * 2, none⟩ = some (.int .i64 x0) ∧ W9.cell? ⟨gc, k * 2 + 1, none⟩ = some (.int .i64 x1)))) (by kernel_rfl) ?_ (fun hHeld => ?_)
        · exact ⟨Bx.cells5 P0, Bx.cells6 M0, Ko2.cells K0⟩
        refine wpAnyH_take (i := 0) (v := ?_) (by (simp only [List.getElem?_toArray, List.getElem?_cons_succ, List.getElem?_cons_zero]); rfl) (by kernel_rfl) (by kernel_rfl) (by kernel_rfl) (by exact fun _ _ _ h => h) (Or.inl ⟨by rfl, ?_⟩) (by assumption) ?_
        rotate_left 1
        · (intro w hSw; (try dsimp only at hSw); go_simp) <;> with_reducible rfl
        (try simp only [Act.put, List.setIfInBounds_toArray, List.set_cons_zero, List.set_cons_succ])
        refine wpAnyH_take (i := 1) (v := ?_) (by (simp only [List.getElem?_toArray, List.getElem?_cons_succ, List.getElem?_cons_zero]); rfl) (by kernel_rfl) (by kernel_rfl) (by kernel_rfl) (by exact fun _ _ _ h => h) (Or.inl ⟨by rfl, ?_⟩) (by assumption) ?_
        rotate_left 1
        · (intro w hSw; (try dsimp only at hSw); go_simp) <;> with_reducible rfl
        (try simp only [Act.put, List.setIfInBounds_toArray, List.set_cons_zero, List.set_cons_succ])
        refine wpAnyH_take (i := 2) (v := ?_) (by (simp only [List.getElem?_toArray, List.getElem?_cons_succ, List.getElem?_cons_zero]); rfl) (by kernel_rfl) (by kernel_rfl) (by kernel_rfl) (by exact fun _ _ _ h => h) (Or.inl ⟨by rfl, ?_⟩) (by assumption) ?_
        rotate_left 1
        · (intro w hSw; (try dsimp only at hSw); go_simp) <;> with_reducible rfl
        (try simp only [Act.put, List.setIfInBounds_toArray, List.set_cons_zero, List.set_cons_succ])
        refine wpAnyH_take (i := 3) (v := ?_) (by (simp only [List.getElem?_toArray, List.getElem?_cons_succ, List.getElem?_cons_zero]); rfl) (by kernel_rfl) (by kernel_rfl) (by kernel_rfl) (by exact fun _ _ _ h => h) (Or.inl ⟨by rfl, ?_⟩) (by assumption) ?_
        rotate_left 1
        · (intro w hSw; (try dsimp only at hSw); go_simp) <;> with_reducible rfl
        (try simp only [Act.put, List.setIfInBounds_toArray, List.set_cons_zero, List.set_cons_succ])
        refine wpAnyH_take (i := 4) (v := ?_) (by (simp only [List.getElem?_toArray, List.getElem?_cons_succ, List.getElem?_cons_zero]); rfl) (by kernel_rfl) (by kernel_rfl) (by kernel_rfl) (by exact fun _ _ _ h => h) (Or.inl ⟨by rfl, ?_⟩) (by assumption) ?_
        rotate_left 1
        · (intro w hSw; (try dsimp only at hSw); go_simp) <;> with_reducible rfl
        (try simp only [Act.put, List.setIfInBounds_toArray, List.set_cons_zero, List.set_cons_succ])
        refine wpAnyH_take (i := 5) (v := ?_) (by (simp only [List.getElem?_toArray, List.getElem?_cons_succ, List.getElem?_cons_zero]); rfl) (by kernel_rfl) (by kernel_rfl) (by kernel_rfl) (by exact fun _ _ _ h => h) (Or.inl ⟨by rfl, ?_⟩) (by assumption) ?_
        rotate_left 1
        · (intro w hSw; (try dsimp only at hSw); go_simp) <;> with_reducible rfl
        (try simp only [Act.put, List.setIfInBounds_toArray, List.set_cons_zero, List.set_cons_succ])
        refine wpAnyH_take (i := 8) (v := ?_) (by (simp only [List.getElem?_toArray, List.getElem?_cons_succ, List.getElem?_cons_zero]); rfl) (by kernel_rfl) (by kernel_rfl) (by kernel_rfl) (by exact fun _ _ _ h => h) (Or.inl ⟨by rfl, ?_⟩) (by assumption) ?_
        rotate_left 1
        · (intro w hSw; (try dsimp only at hSw); go_simp) <;> with_reducible rfl
        (try simp only [Act.put, List.setIfInBounds_toArray, List.set_cons_zero, List.set_cons_succ])
        refine wpAnyH_take (i := 9) (v := ?_) (by (simp only [List.getElem?_toArray, List.getElem?_cons_succ, List.getElem?_cons_zero]); rfl) (by kernel_rfl) (by kernel_rfl) (by kernel_rfl) (by exact fun _ _ _ h => h) (Or.inl ⟨by rfl, ?_⟩) (by assumption) ?_
        rotate_left 1
        · (intro w hSw; (try dsimp only at hSw); go_simp) <;> with_reducible rfl
        (try simp only [Act.put, List.setIfInBounds_toArray, List.set_cons_zero, List.set_cons_succ])
        refine wpAnyH_take (i := 10) (v := ?_) (by (simp only [List.getElem?_toArray, List.getElem?_cons_succ, List.getElem?_cons_zero]); rfl) (by kernel_rfl) (by kernel_rfl) (by kernel_rfl) (by exact fun _ _ _ h => h) (Or.inl ⟨by rfl, ?_⟩) (by assumption) ?_
        rotate_left 1
        · (intro w hSw; (try dsimp only at hSw); go_simp) <;> with_reducible rfl
        (try simp only [Act.put, List.setIfInBounds_toArray, List.set_cons_zero, List.set_cons_succ])
        refine wpAnyH_take (i := 11) (v := ?_) (by (simp only [List.getElem?_toArray, List.getElem?_cons_succ, List.getElem?_cons_zero]); rfl) (by kernel_rfl) (by kernel_rfl) (by kernel_rfl) (by exact fun _ _ _ h => h) (Or.inl ⟨by rfl, ?_⟩) (by assumption) ?_
        rotate_left 1
        · (intro w hSw; (try dsimp only at hSw); go_simp) <;> with_reducible rfl
        (try simp only [Act.put, List.setIfInBounds_toArray, List.set_cons_zero, List.set_cons_succ])
        refine wpAnyH_take (i := 12) (v := ?_) (by (simp only [List.getElem?_toArray, List.getElem?_cons_succ, List.getElem?_cons_zero]); rfl) (by kernel_rfl) (by kernel_rfl) (by kernel_rfl) (by exact fun _ _ _ h => h) (Or.inl ⟨by rfl, ?_⟩) (by assumption) ?_
        rotate_left 1
        · (intro w hSw; (try dsimp only at hSw); go_simp) <;> with_reducible rfl
        (try simp only [Act.put, List.setIfInBounds_toArray, List.set_cons_zero, List.set_cons_succ])
        refine wpAnyH_ready (rs := [6]) (by kernel_rfl) (by simp) ?_
        refine AllReadyH.cons (o := _) (by (simp only [List.getElem?_toArray, List.getElem?_cons_succ, List.getElem?_cons_zero]); rfl) (fun K hK => ?_) AllReadyH.nil
        go_simp
        go_at_call 68
        with_reducible refine (HPL.out _).mono ?_
        rintro e u1 ⟨rfl, hb1⟩
        have P1 : Bx W.heap.size [.int .i64 f, .int .i64 (p : Int), .int .i64 B, .int .i64 (q : Int), .slice (some ⟨g, 0, none⟩) n cap] u1 := (by repeat (first | with_reducible assumption | with_reducible refine Bx.drew ?_ | with_reducible refine Ko2.drew ?_ | with_reducible refine Bx.call ?_ (by with_reducible assumption) | with_reducible refine Ko2.call ?_ (by with_reducible assumption)))
        have M1 : Bx (W.heap.size + 1) [.int .i64 a, .int .i64 b, .int .i64 c, .int .i64 d, .int .i64 x, .int .i64 y] u1 := (by repeat (first | with_reducible assumption | with_reducible refine Bx.drew ?_ | with_reducible refine Ko2.drew ?_ | with_reducible refine Bx.call ?_ (by with_reducible assumption) | with_reducible refine Ko2.call ?_ (by with_reducible assumption)))
        have K1 : Ko2 gc (k * 2) x0 x1 u1 := (by repeat (first | with_reducible assumption | with_reducible refine Bx.drew ?_ | with_reducible refine Ko2.drew ?_ | with_reducible refine Bx.call ?_ (by with_reducible assumption) | with_reducible refine Ko2.call ?_ (by with_reducible assumption)))
        have D1 : Below wr.heap.size wr u1 := (by repeat (first | with_reducible assumption | with_reducible refine Below.drew ?_ | with_reducible refine bstep ?_ (by with_reducible assumption)))
        clear hb1
        (try go_wp2_with fail)
        refine hK.out _ _ ?_ (fun hHeld => ?_)
        · (try dsimp only)
          exact ⟨Bx.cells5 P1, Bx.cells6 M1, Ko2.cells K1⟩
        clear hK K
        (try simp only [Act.put, List.setIfInBounds_toArray, List.set_cons_zero, List.set_cons_succ])
        refine wpAnyH_ready (rs := [7]) (by kernel_rfl) (by simp) ?_
        refine AllReadyH.cons (o := _) (by (simp only [List.getElem?_toArray, List.getElem?_cons_succ, List.getElem?_cons_zero]); rfl) (fun K hK => ?_) AllReadyH.nil
        go_simp
        go_at_call 67
        with_reducible refine (HA1.out _ D1).mono ?_
        rintro e u2 ⟨rfl, hb2⟩
        have P2 : Bx W.heap.size [.int .i64 f, .int .i64 (p : Int), .int .i64 B, .int .i64 (q : Int), .slice (some ⟨g, 0, none⟩) n cap] u2 := (by repeat (first | with_reducible assumption | with_reducible refine Bx.drew ?_ | with_reducible refine Ko2.drew ?_ | with_reducible refine Bx.call ?_ (by with_reducible assumption) | with_reducible refine Ko2.call ?_ (by with_reducible assumption)))
        have M2 : Bx (W.heap.size + 1) [.int .i64 a, .int .i64 b, .int .i64 c, .int .i64 d, .int .i64 x, .int .i64 y] u2 := (by repeat (first | with_reducible assumption | with_reducible refine Bx.drew ?_ | with_reducible refine Ko2.drew ?_ | with_reducible refine Bx.call ?_ (by with_reducible assumption) | with_reducible refine Ko2.call ?_ (by with_reducible assumption)))
        have K2 : Ko2 gc (k * 2) x0 x1 u2 := (by repeat (first | with_reducible assumption | with_reducible refine Bx.drew ?_ | with_reducible refine Ko2.drew ?_ | with_reducible refine Bx.call ?_ (by with_reducible assumption) | with_reducible refine Ko2.call ?_ (by with_reducible assumption)))
        have D2 : Below wr.heap.size wr u2 := (by repeat (first | with_reducible assumption | with_reducible refine Below.drew ?_ | with_reducible refine bstep ?_ (by with_reducible assumption)))
        clear hb2
        (try go_wp2_with fail)
        refine hK.out _ _ ?_ (fun hHeld => ?_)
        · (try dsimp only)
          exact ⟨Bx.cells5 P2, Bx.cells6 M2, Ko2.cells K2⟩
        clear hK K
        (try simp only [Act.put, List.setIfInBounds_toArray, List.set_cons_zero, List.set_cons_succ])
        refine wpAnyH_ready (rs := [13]) (by kernel_rfl) (by simp) ?_
        refine AllReadyH.cons (o := _) (by (simp only [List.getElem?_toArray, List.getElem?_cons_succ, List.getElem?_cons_zero]); rfl) (fun K hK => ?_) AllReadyH.nil
        go_simp
        go_at_call 67
        with_reducible refine (HA0.out _ D2).mono ?_
        rintro e u3 ⟨rfl, hb3⟩
        have P3 : Bx W.heap.size [.int .i64 f, .int .i64 (p : Int), .int .i64 B, .int .i64 (q : Int), .slice (some ⟨g, 0, none⟩) n cap] u3 := (by repeat (first | with_reducible assumption | with_reducible refine Bx.drew ?_ | with_reducible refine Ko2.drew ?_ | with_reducible refine Bx.call ?_ (by with_reducible assumption) | with_reducible refine Ko2.call ?_ (by with_reducible assumption)))
        have M3 : Bx (W.heap.size + 1) [.int .i64 a, .int .i64 b, .int .i64 c, .int .i64 d, .int .i64 x, .int .i64 y] u3 := (by repeat (first | with_reducible assumption | with_reducible refine Bx.drew ?_ | with_reducible refine Ko2.drew ?_ | with_reducible refine Bx.call ?_ (by with_reducible assumption) | with_reducible refine Ko2.call ?_ (by with_reducible assumption)))
        have K3 : Ko2 gc (k * 2) x0 x1 u3 := (by repeat (first | with_reducible assumption | with_reducible refine Bx.drew ?_ | with_reducible refine Ko2.drew ?_ | with_reducible refine Bx.call ?_ (by with_reducible assumption) | with_reducible refine Ko2.call ?_ (by with_reducible assumption)))
        have D3 : Below wr.heap.size wr u3 := (by repeat (first | with_reducible assumption | with_reducible refine Below.drew ?_ | with_reducible refine bstep ?_ (by with_reducible assumption)))
        clear hb3
        (try go_wp2_with fail)
        refine hK.out _ _ ?_ (fun hHeld => ?_)
        · (try dsimp only)
          exact ⟨Bx.cells5 P3, Bx.cells6 M3, Ko2.cells K3⟩
        clear hK K
        (try simp only [Act.put, List.setIfInBounds_toArray, List.set_cons_zero, List.set_cons_succ])
        refine wpAnyH_take (i := 14) (v := ?_) (by (simp only [List.getElem?_toArray, List.getElem?_cons_succ, List.getElem?_cons_zero]); rfl) (by kernel_rfl) (by kernel_rfl) (by kernel_rfl) (by exact fun _ _ _ h => h) (Or.inl ⟨by rfl, ?_⟩) (by assumption) ?_
        rotate_left 1
        · (intro w hSw; (try dsimp only at hSw); go_simp) <;> with_reducible rfl
        (try simp only [Act.put, List.setIfInBounds_toArray, List.set_cons_zero, List.set_cons_succ])
        refine wpAnyH_done (by kernel_rfl) ?_ _
        go_wp2
        go_roundw
        case rel =>
          refine ⟨k + 1, by go_num, by omega, fun v hv => ?_, hB.trans (D3.mono hB.size)⟩
          rw [List.take_succ_eq_append_getElem (by rw [← HN.out]; exact hk1), List.mem_append] at hv
          rcases hv with hv | hv
          · exact HALL.out v hv
          · have e9 : v = (x0, x1) := by rw [HX.out.1]; simpa using hv
            subst e9
            dsimp only
            rw [← HX.out.2.1, ← HX.out.2.2]
            exact HEQ.out
        case measure => first | (simp [intOf]; done) | (simp [intOf]; omega)
      · have HNE := Lib.hid (show (F (numP (p : Int) B (q : Int) X1 X2) == F (numP (p : Int) B (q : Int) x0 x1)) = false from by rw [← hb1, ← hb0]; simpa using hbb)
        have hbn : (b1 != b0) = true := by simp [hbb]
        clear hb1 hb0
        go_wp2_with fail
        refine wp_region_held_drew (S := (fun W9 => (W9.cell? ⟨W.heap.size, 0, none⟩ = some (.int .i64 f) ∧ W9.cell? ⟨W.heap.size, 1, none⟩ = some (.int .i64 (p : Int)) ∧ W9.cell? ⟨W.heap.size, 2, none⟩ = some (.int .i64 B) ∧ W9.cell? ⟨W.heap.size, 3, none⟩ = some (.int .i64 (q : Int)) ∧ W9.cell? ⟨W.heap.size, 4, none⟩ = some (.slice (some ⟨g, 0, none⟩) n cap)) ∧ (W9.cell? ⟨W.heap.size + 1, 0, none⟩ = some (.int .i64 a) ∧ W9.cell? ⟨W.heap.size + 1, 1, none⟩ = some (.int .i64 b) ∧ W9.cell? ⟨W.heap.size + 1, 2, none⟩ = some (.int .i64 c) ∧ W9.cell? ⟨W.heap.size + 1, 3, none⟩ = some (.int .i64 d) ∧ W9.cell? ⟨W.heap.size + 1, 4, none⟩ = some (.int .i64 x) ∧ W9.cell? ⟨W.heap.size + 1, 5, none⟩ = some (.int .i64 y)) ∧ (W9.cell? ⟨gc, k * 2, none⟩ = some (.int .i64 x0) ∧ W9.cell? ⟨gc, k * 2 + 1, none⟩ = some (.int .i64 x1)))) (by kernel_rfl) ?_ (fun hHeld => ?_)
        · exact ⟨Bx.cells5 P0, Bx.cells6 M0, Ko2.cells K0⟩
        refine wpAnyH_take (i := 0) (v := ?_) (by (simp only [List.getElem?_toArray, List.getElem?_cons_succ, List.getElem?_cons_zero]); rfl) (by kernel_rfl) (by kernel_rfl) (by kernel_rfl) (by exact fun _ _ _ h => h) (Or.inl ⟨by rfl, ?_⟩) (by assumption) ?_
        rotate_left 1
        · (intro w hSw; (try dsimp only at hSw); go_simp) <;> with_reducible rfl
        (try simp only [Act.put, List.setIfInBounds_toArray, List.set_cons_zero, List.set_cons_succ])
        refine wpAnyH_take (i := 1) (v := ?_) (by (simp only [List.getElem?_toArray, List.getElem?_cons_succ, List.getElem?_cons_zero]); rfl) (by kernel_rfl) (by kernel_rfl) (by kernel_rfl) (by exact fun _ _ _ h => h) (Or.inl ⟨by rfl, ?_⟩) (by assumption) ?_
        rotate_left 1
        · (intro w hSw; (try dsimp only at hSw); go_simp) <;> with_reducible rfl
        (try simp only [Act.put, List.setIfInBounds_toArray, List.set_cons_zero, List.set_cons_succ])
        refine wpAnyH_take (i := 2) (v := ?_) (by (simp only [List.getElem?_toArray, List.getElem?_cons_succ, List.getElem?_cons_zero]); rfl) (by kernel_rfl) (by kernel_rfl) (by kernel_rfl) (by exact fun _ _ _ h => h) (Or.inl ⟨by rfl, ?_⟩) (by assumption) ?_
        rotate_left 1
        · (intro w hSw; (try dsimp only at hSw); go_simp) <;> with_reducible rfl
        (try simp only [Act.put, List.setIfInBounds_toArray, List.set_cons_zero, List.set_cons_succ])
        refine wpAnyH_take (i := 3) (v := ?_) (by (simp only [List.getElem?_toArray, List.getElem?_cons_succ, List.getElem?_cons_zero]); rfl) (by kernel_rfl) (by kernel_rfl) (by kernel_rfl) (by exact fun _ _ _ h => h) (Or.inl ⟨by rfl, ?_⟩) (by assumption) ?_
        rotate_left 1
        · (intro w hSw; (try dsimp only at hSw); go_simp) <;> with_reducible rfl
        (try simp only [Act.put, List.setIfInBounds_toArray, List.set_cons_zero, List.set_cons_succ])
        refine wpAnyH_take (i := 4) (v := ?_) (by (simp only [List.getElem?_toArray, List.getElem?_cons_succ, List.getElem?_cons_zero]); rfl) (by kernel_rfl) (by kernel_rfl) (by kernel_rfl) (by exact fun _ _ _ h => h) (Or.inl ⟨by rfl, ?_⟩) (by assumption) ?_
        rotate_left 1
        · (intro w hSw; (try dsimp only at hSw); go_simp) <;> with_reducible rfl
        (try simp only [Act.put, List.setIfInBounds_toArray, List.set_cons_zero, List.set_cons_succ])
        refine wpAnyH_take (i := 5) (v := ?_) (by (simp only [List.getElem?_toArray, List.getElem?_cons_succ, List.getElem?_cons_zero]); rfl) (by kernel_rfl) (by kernel_rfl) (by kernel_rfl) (by exact fun _ _ _ h => h) (Or.inl ⟨by rfl, ?_⟩) (by assumption) ?_
        rotate_left 1
        · (intro w hSw; (try dsimp only at hSw); go_simp) <;> with_reducible rfl
        (try simp only [Act.put, List.setIfInBounds_toArray, List.set_cons_zero, List.set_cons_succ])
        refine wpAnyH_take (i := 8) (v := ?_) (by (simp only [List.getElem?_toArray, List.getElem?_cons_succ, List.getElem?_cons_zero]); rfl) (by kernel_rfl) (by kernel_rfl) (by kernel_rfl) (by exact fun _ _ _ h => h) (Or.inl ⟨by rfl, ?_⟩) (by assumption) ?_
        rotate_left 1
        · (intro w hSw; (try dsimp only at hSw); go_simp) <;> with_reducible rfl
        (try simp only [Act.put, List.setIfInBounds_toArray, List.set_cons_zero, List.set_cons_succ])
        refine wpAnyH_take (i := 9) (v := ?_) (by (simp only [List.getElem?_toArray, List.getElem?_cons_succ, List.getElem?_cons_zero]); rfl) (by kernel_rfl) (by kernel_rfl) (by kernel_rfl) (by exact fun _ _ _ h => h) (Or.inl ⟨by rfl, ?_⟩) (by assumption) ?_
        rotate_left 1
        · (intro w hSw; (try dsimp only at hSw); go_simp) <;> with_reducible rfl
        (try simp only [Act.put, List.setIfInBounds_toArray, List.set_cons_zero, List.set_cons_succ])
        refine wpAnyH_take (i := 10) (v := ?_) (by (simp only [List.getElem?_toArray, List.getElem?_cons_succ, List.getElem?_cons_zero]); rfl) (by kernel_rfl) (by kernel_rfl) (by kernel_rfl) (by exact fun _ _ _ h => h) (Or.inl ⟨by rfl, ?_⟩) (by assumption) ?_
        rotate_left 1
        · (intro w hSw; (try dsimp only at hSw); go_simp) <;> with_reducible rfl
        (try simp only [Act.put, List.setIfInBounds_toArray, List.set_cons_zero, List.set_cons_succ])
        refine wpAnyH_take (i := 11) (v := ?_) (by (simp only [List.getElem?_toArray, List.getElem?_cons_succ, List.getElem?_cons_zero]); rfl) (by kernel_rfl) (by kernel_rfl) (by kernel_rfl) (by exact fun _ _ _ h => h) (Or.inl ⟨by rfl, ?_⟩) (by assumption) ?_
        rotate_left 1
        · (intro w hSw; (try dsimp only at hSw); go_simp) <;> with_reducible rfl
        (try simp only [Act.put, List.setIfInBounds_toArray, List.set_cons_zero, List.set_cons_succ])
        refine wpAnyH_take (i := 12) (v := ?_) (by (simp only [List.getElem?_toArray, List.getElem?_cons_succ, List.getElem?_cons_zero]); rfl) (by kernel_rfl) (by kernel_rfl) (by kernel_rfl) (by exact fun _ _ _ h => h) (Or.inl ⟨by rfl, ?_⟩) (by assumption) ?_
        rotate_left 1
        · (intro w hSw; (try dsimp only at hSw); go_simp) <;> with_reducible rfl
        (try simp only [Act.put, List.setIfInBounds_toArray, List.set_cons_zero, List.set_cons_succ])
        refine wpAnyH_ready (rs := [6]) (by kernel_rfl) (by simp) ?_
        refine AllReadyH.cons (o := _) (by (simp only [List.getElem?_toArray, List.getElem?_cons_succ, List.getElem?_cons_zero]); rfl) (fun K hK => ?_) AllReadyH.nil
        go_simp
        go_at_call 68
        with_reducible refine (HPL.out _).mono ?_
        rintro e u1 ⟨rfl, hb1⟩
        have P1 : Bx W.heap.size [.int .i64 f, .int .i64 (p : Int), .int .i64 B, .int .i64 (q : Int), .slice (some ⟨g, 0, none⟩) n cap] u1 := (by repeat (first | with_reducible assumption | with_reducible refine Bx.drew ?_ | with_reducible refine Ko2.drew ?_ | with_reducible refine Bx.call ?_ (by with_reducible assumption) | with_reducible refine Ko2.call ?_ (by with_reducible assumption)))
        have M1 : Bx (W.heap.size + 1) [.int .i64 a, .int .i64 b, .int .i64 c, .int .i64 d, .int .i64 x, .int .i64 y] u1 := (by repeat (first | with_reducible assumption | with_reducible refine Bx.drew ?_ | with_reducible refine Ko2.drew ?_ | with_reducible refine Bx.call ?_ (by with_reducible assumption) | with_reducible refine Ko2.call ?_ (by with_reducible assumption)))
        have K1 : Ko2 gc (k * 2) x0 x1 u1 := (by repeat (first | with_reducible assumption | with_reducible refine Bx.drew ?_ | with_reducible refine Ko2.drew ?_ | with_reducible refine Bx.call ?_ (by with_reducible assumption) | with_reducible refine Ko2.call ?_ (by with_reducible assumption)))
        have D1 : Below wr.heap.size wr u1 := (by repeat (first | with_reducible assumption | with_reducible refine Below.drew ?_ | with_reducible refine bstep ?_ (by with_reducible assumption)))
        clear hb1
        (try go_wp2_with fail)
        refine hK.out _ _ ?_ (fun hHeld => ?_)
        · (try dsimp only)
          exact ⟨Bx.cells5 P1, Bx.cells6 M1, Ko2.cells K1⟩
        clear hK K
        (try simp only [Act.put, List.setIfInBounds_toArray, List.set_cons_zero, List.set_cons_succ])
        refine wpAnyH_ready (rs := [7]) (by kernel_rfl) (by simp) ?_
        refine AllReadyH.cons (o := _) (by (simp only [List.getElem?_toArray, List.getElem?_cons_succ, List.getElem?_cons_zero]); rfl) (fun K hK => ?_) AllReadyH.nil
        go_simp
        go_at_call 67
        with_reducible refine (HA1.out _ D1).mono ?_
        rintro e u2 ⟨rfl, hb2⟩
        have P2 : Bx W.heap.size [.int .i64 f, .int .i64 (p : Int), .int .i64 B, .int .i64 (q : Int), .slice (some ⟨g, 0, none⟩) n cap] u2 := (by repeat (first | with_reducible assumption | with_reducible refine Bx.drew ?_ | with_reducible refine Ko2.drew ?_ | with_reducible refine Bx.call ?_ (by with_reducible assumption) | with_reducible refine Ko2.call ?_ (by with_reducible assumption)))
        have M2 : Bx (W.heap.size + 1) [.int .i64 a, .int .i64 b, .int .i64 c, .int .i64 d, .int .i64 x, .int .i64 y] u2 := (by repeat (first | with_reducible assumption | with_reducible refine Bx.drew ?_ | with_reducible refine Ko2.drew ?_ | with_reducible refine Bx.call ?_ (by with_reducible assumption) | with_reducible refine Ko2.call ?_ (by with_reducible assumption)))
        have K2 : Ko2 gc (k * 2) x0 x1 u2 := (by repeat (first | with_reducible assumption | with_reducible refine Bx.drew ?_ | with_reducible refine Ko2.drew ?_ | with_reducible refine Bx.call ?_ (by with_reducible assumption) | with_reducible refine Ko2.call ?_ (by with_reducible assumption)))
        have D2 : Below wr.heap.size wr u2 := (by repeat (first | with_reducible assumption | with_reducible refine Below.drew ?_ | with_reducible refine bstep ?_ (by with_reducible assumption)))
        clear hb2
        (try go_wp2_with fail)
        refine hK.out _ _ ?_ (fun hHeld => ?_)
        · (try dsimp only)
          exact ⟨Bx.cells5 P2, Bx.cells6 M2, Ko2.cells K2⟩
        clear hK K
        (try simp only [Act.put, List.setIfInBounds_toArray, List.set_cons_zero, List.set_cons_succ])
        refine wpAnyH_ready (rs := [13]) (by kernel_rfl) (by simp) ?_
        refine AllReadyH.cons (o := _) (by (simp only [List.getElem?_toArray, List.getElem?_cons_succ, List.getElem?_cons_zero]); rfl) (fun K hK => ?_) AllReadyH.nil
        go_simp
        go_at_call 67
        with_reducible refine (HA0.out _ D2).mono ?_
        rintro e u3 ⟨rfl, hb3⟩
        have P3 : Bx W.heap.size [.int .i64 f, .int .i64 (p : Int), .int .i64 B, .int .i64 (q : Int), .slice (some ⟨g, 0, none⟩) n cap] u3 := (by repeat (first | with_reducible assumption | with_reducible refine Bx.drew ?_ | with_reducible refine Ko2.drew ?_ | with_reducible refine Bx.call ?_ (by with_reducible assumption) | with_reducible refine Ko2.call ?_ (by with_reducible assumption)))
        have M3 : Bx (W.heap.size + 1) [.int .i64 a, .int .i64 b, .int .i64 c, .int .i64 d, .int .i64 x, .int .i64 y] u3 := (by repeat (first | with_reducible assumption | with_reducible refine Bx.drew ?_ | with_reducible refine Ko2.drew ?_ | with_reducible refine Bx.call ?_ (by with_reducible assumption) | with_reducible refine Ko2.call ?_ (by with_reducible assumption)))
        have K3 : Ko2 gc (k * 2) x0 x1 u3 := (by repeat (first | with_reducible assumption | with_reducible refine Bx.drew ?_ | with_reducible refine Ko2.drew ?_ | with_reducible refine Bx.call ?_ (by with_reducible assumption) | with_reducible refine Ko2.call ?_ (by with_reducible assumption)))
        have D3 : Below wr.heap.size wr u3 := (by repeat (first | with_reducible assumption | with_reducible refine Below.drew ?_ | with_reducible refine bstep ?_ (by with_reducible assumption)))
        clear hb3
        (try go_wp2_with fail)
        refine hK.out _ _ ?_ (fun hHeld => ?_)
        · (try dsimp only)
          exact ⟨Bx.cells5 P3, Bx.cells6 M3, Ko2.cells K3⟩
        clear hK K
        (try simp only [Act.put, List.setIfInBounds_toArray, List.set_cons_zero, List.set_cons_succ])
        refine wpAnyH_take (i := 14) (v := ?_) (by (simp only [List.getElem?_toArray, List.getElem?_cons_succ, List.getElem?_cons_zero]); rfl) (by kernel_rfl) (by kernel_rfl) (by kernel_rfl) (by exact fun _ _ _ h => h) (Or.inl ⟨by rfl, ?_⟩) (by assumption) ?_
        rotate_left 1
        · (intro w hSw; (try dsimp only at hSw); go_simp) <;> with_reducible rfl
        (try simp only [Act.put, List.setIfInBounds_toArray, List.set_cons_zero, List.set_cons_succ])
        refine wpAnyH_done (by kernel_rfl) ?_ _
        go_wp2
        go_ret
        exact ⟨ret_bool (kepM_no HMEM.out (by dsimp only; rw [← HX.out.2.1, ← HX.out.2.2]; exact HNE.out)).symm, bstep hB2 D3⟩
    · obtain rfl : k = N := by omega
      go_wp2
      go_ret
      refine ⟨ret_bool ((kepM_snoc _ _ _ _ _ _ _ _ _ _ _).2 fun v hv => HALL.out v (by rw [HN.out, List.take_length]; exact hv)).symm, hB2⟩
theorem infoVec9 : (Tryz.prog.info? 53).map (fun i => (i.zero, i.size, i.bytes)) = some (some (.agg #[.int .i64 0, .int .i64 0]), 2, 16) := by kernel_rfl
theorem l03BasisO_any (A B C : Int) (w : World) :
    Calls Tryz.prog 99 #[.agg #[.int .i64 A, .int .i64 B, .int .i64 C]] w fun e w' => ∃ v, e = .returned v ∧ w'.ownsRow w.heap.size 53 2 v 2 (cells2 (basL A B C)) ∧ Below w.heap.size w w' := by
  go_enter Tryz.func99, Tryz.ntmps99
  go_wp2
  go_ret
  refine ⟨_, rfl, ?_, by repeat (first | with_reducible exact Below.refl _ _ | with_reducible assumption | with_reducible refine Below.setCell ?_ (by first | omega | (dsimp only; omega) | (simp <;> omega)) _ | with_reducible refine Below.alloc ?_ (by first | omega | (simp <;> omega)) _ | with_reducible refine bstep ?_ (by with_reducible assumption) | with_reducible refine Below.drew ?_ | with_reducible refine below_drewN ?_ _)⟩
  have h := World.ownsRow_lit (base := w.heap.size) (e := 53) (size := 2) (w.alloc (.cells #[.int .i64 A, .int .i64 B, .int .i64 C] 33)) #[.int .i64 A, .int .i64 0, .int .i64 B, .int .i64 C] 2 (by simp) (by unfold maxLen; omega) rfl
  simpa [cells2, basL] using h
theorem fl_len (A B C : Int) (F : Nat → Int) (q p k : Nat) : (basL A B C ++ ((cellP q p).take k).filter (kptA A B C F)).length ≤ k + 2 := by
  rw [List.length_append]
  have h1 := List.length_filter_le (kptA A B C F) ((cellP q p).take k)
  have h2 := List.length_take_le k (cellP q p)
  have h3 : (basL A B C).length = 2 := rfl
  omega
theorem fl_vecs {p q : Nat} {B : Int} (hl : latI (p : Int) B (q : Int)) (F : Nat → Int) : vecsB (basL (p : Int) B (q : Int) ++ (cellP q p).filter (kptA (p : Int) B (q : Int) F)) := by
  have hb := latI_bd hl
  have h1 := hl.2.2
  intro v hv
  rcases List.mem_append.1 hv with h | h
  · simp only [basL, List.mem_cons, List.not_mem_nil, or_false] at h
    rcases h with rfl | rfl
    · dsimp only; omega
    · dsimp only; omega
  · have := cellP_mem9 (List.mem_filter.1 h).1
    omega
theorem new_two9 {W : World} {g : Nat} (T : TypeId) (a b : Value) (hg : g = W.heap.size) : ∀ (j : Nat) (u : Value), [a, b][j]? = some u → (W.alloc (.cells #[a, b] T)).cell? ((⟨g, 0, none⟩ : Addr).add j) = some u := by
  subst hg
  intro j u hj
  match j, hj with
  | 0, hj => simp at hj; subst hj; simp [Addr.add, go_sem]
  | 1, hj => simp at hj; subst hj; simp [Addr.add, go_sem]
  | j + 2, hj => simp at hj
set_option maxRecDepth 100000 in
set_option maxHeartbeats 16000000 in
theorem l09Full_any {lo hi p q n : Nat} {f B : Int} {v : Value} {F : Nat → Int} {W : World} (h : PatI f p B q n F) (hv : SRow lo hi 1 v n F W) :
    Calls Tryz.prog 59 #[.agg #[.int .i64 f, .int .i64 (p : Int), .int .i64 B, .int .i64 (q : Int), v]] W fun e w' => e = .returned (.agg #[.int .i64 ((fulI (p : Int) B (q : Int) F).1), .int .i64 ((fulI (p : Int) B (q : Int) F).2.1), .int .i64 ((fulI (p : Int) B (q : Int) F).2.2)]) ∧ Below W.heap.size W w' := by
  obtain ⟨i0, hinf, hz0, hz1, hz2⟩ := info_parts infoVec9
  have R := Lib.hid hv
  have HH := Lib.hid h
  obtain ⟨hp1, hp2, hq1, hq2, hn64, hn1⟩ := h.bd
  have hpq : p * q ≤ 64 := by rw [← h.nn]; exact hn64
  have hpq1 : 1 ≤ p * q := by rw [← h.nn]; exact hn1
  obtain ⟨g, cap, rfl, hg, _, r⟩ := hv.irow hn1
  have hgs := hv.1
  have hgw : g < W.heap.size := by omega
  have HFV := Lib.hid (fl_vecs h.lat F)
  have HFM := Lib.hid (fulM_st h.lat ((cellP q p).filter (kptA (p : Int) B (q : Int) F)))
  have HFP := Lib.hid (fulM_pos h.lat ((cellP q p).filter (kptA (p : Int) B (q : Int) F)))
  have HFI := Lib.hid (fulM_lat h.lat F)
  have P0 : Bx W.heap.size [.int .i64 f, .int .i64 (p : Int), .int .i64 B, .int .i64 (q : Int), .slice (some ⟨g, 0, none⟩) n cap] ((W.alloc (.cells #[.int .i64 f, .int .i64 (p : Int), .int .i64 B, .int .i64 (q : Int), .slice (some ⟨g, 0, none⟩) n cap] 35)).alloc (.cells #[.int .i64 0, .int .i64 0, .int .i64 0] 33)) := (Bx.at _ rfl).alloc _
  have R0 : BX (W.heap.size + 1) [.int .i64 0, .int .i64 0, .int .i64 0] ((W.alloc (.cells #[.int .i64 f, .int .i64 (p : Int), .int .i64 B, .int .i64 (q : Int), .slice (some ⟨g, 0, none⟩) n cap] 35)).alloc (.cells #[.int .i64 0, .int .i64 0, .int .i64 0] 33)) := BX.at _ (by simp)
  have B0 : Below W.heap.size W ((W.alloc (.cells #[.int .i64 f, .int .i64 (p : Int), .int .i64 B, .int .i64 (q : Int), .slice (some ⟨g, 0, none⟩) n cap] 35)).alloc (.cells #[.int .i64 0, .int .i64 0, .int .i64 0] 33)) := by repeat (first | with_reducible exact Below.refl _ _ | with_reducible assumption | with_reducible refine Below.setCell ?_ (by first | omega | (dsimp only; omega) | (simp <;> omega)) _ | with_reducible refine Below.alloc ?_ (by first | omega | (simp <;> omega)) _ | with_reducible refine bstep ?_ (by with_reducible assumption) | with_reducible refine Below.drew ?_ | with_reducible refine below_drewN ?_ _)
  clear hv h
  go_enter Tryz.func59, Tryz.ntmps59
  go_wp2_with fail
  with_reducible refine (l03Cells_any p q B _ hp2 hq2).mono ?_
  rintro e w1 ⟨vc, rfl, hown, hb1⟩
  have P1 := P0.call hb1
  have R1 := R0.call hb1
  have B1 := bstep B0 hb1
  obtain ⟨N, hN⟩ : ∃ N, N = (cellP q p).length := ⟨_, rfl⟩
  have hNpq : N = p * q := by rw [hN, cellP_len]
  have hN64 : N ≤ 64 := by omega
  rw [← hN] at hown
  have HSR := SRow.of hown (cells2_int _) (by omega)
  obtain ⟨gc, capc, rfl, hgc, hgc2, rc⟩ := HSR.irow (by omega)
  rw [hN] at rc
  have hNi : (N : Int) ≤ 64 := by omega
  have HN := Lib.hid hN
  clear hown hb1 P0 R0 B0 hNpq hN HSR hp1 hp2 hq1 hq2 hpq hpq1
  have p1c0 := P1.c0
  have p1c1 := P1.c1
  have p1c2 := P1.c2
  have p1c3 := P1.c3
  have p1c4 := P1.c4
  have p1l := P1.lt
  go_wp2_with fail
  with_reducible refine (l03BasisO_any (p : Int) B (q : Int) _).mono ?_
  rintro e w2 ⟨v4, rfl, hown, hb2⟩
  have hR1l := R1.lt
  have O2 : w2.ownsRow w1.heap.size 53 2 v4 (basL (p : Int) B (q : Int) ++ ((cellP q p).take 0).filter (kptA (p : Int) B (q : Int) F)).length (cells2 (basL (p : Int) B (q : Int) ++ ((cellP q p).take 0).filter (kptA (p : Int) B (q : Int) F))) := by simpa [basL] using hown
  have hb2' := hb2
  clear hown p1c0 p1c1 p1c2 p1c3 p1c4 p1l
  go_wp2_with fail
  go_loopw [4, 5] (fun u s X => ∃ k : Nat, s = .int .i64 (k : Int) ∧ k ≤ N ∧ X.ownsRow w1.heap.size 53 2 u (basL (p : Int) B (q : Int) ++ ((cellP q p).take k).filter (kptA (p : Int) B (q : Int) F)).length (cells2 (basL (p : Int) B (q : Int) ++ ((cellP q p).take k).filter (kptA (p : Int) B (q : Int) F))) ∧ Below w1.heap.size w1 X) (fun _ s _ => N - (intOf s).toNat)
  case atStart => exact ⟨0, rfl, by omega, O2, hb2'⟩
  case round =>
    rename_i u4 _ wr
    obtain ⟨k, rfl, hk, OO, hB⟩ := hrel
    have hB2 := bstep B1 hB
    by_cases hk1 : k < N
    · have hk2 : (k : Int) < (N : Int) := by omega
      have hkc : k < (cellP q p).length := by rw [← HN.out]; exact hk1
      obtain ⟨⟨x0, x1⟩, hxx⟩ : ∃ v, v = (cellP q p)[k] := ⟨_, rfl⟩
      have KK := (rc.v29 k hkc).call hB
      rw [← hxx] at KK
      dsimp only at KK
      have hmem : ((x0, x1) : V29) ∈ cellP q p := by rw [hxx]; exact List.getElem_mem hkc
      have hbd := cellP_mem9 hmem
      dsimp only at hbd
      have HST := Lib.hid (show (cellP q p).take (k + 1) = (cellP q p).take k ++ [(x0, x1)] from by rw [List.take_succ_eq_append_getElem hkc, hxx])
      obtain ⟨kb, hkb⟩ : ∃ kb, kb = kptA (p : Int) B (q : Int) F (x0, x1) := ⟨_, rfl⟩
      have HKP := Lib.hid (fun X (hX : Below wr.heap.size wr X) => (show Calls Tryz.prog 32 #[.agg #[.int .i64 f, .int .i64 (p : Int), .int .i64 B, .int .i64 (q : Int), .slice (some ⟨g, 0, none⟩) n cap], .agg #[.int .i64 1, .int .i64 0, .int .i64 0, .int .i64 1, .int .i64 x0, .int .i64 x1]] X (fun e w' => e = .returned (.bool kb) ∧ Below X.heap.size X w') from by
        have h9 := l09Keeps_any HH.out (R.out.call (bstep hB2 hX)) 1 0 0 1 x0 x1 (by simp [limB, vecB]) (by have := HH.out.bd; simp [vecB]; omega)
        rw [kepM_unit] at h9
        rw [hkb]
        exact h9))
      have HKB := Lib.hid hkb
      have P0 := (P1.call hB).drew
      have K0 := KK.drew
      have D0 : Below wr.heap.size wr wr.drew := (Below.refl _ _).drew
      have hfl := fl_len (p : Int) B (q : Int) F q p k
      have HFL := Lib.hid hfl
      clear hmem hbd hxx KK hkc hkb hfl
      have hws := hB.size
      rcases kb with _ | _
      · go_wp2_with fail
        refine wp_region_held_drew (S := (fun W9 => (W9.cell? ⟨W.heap.size, 0, none⟩ = some (.int .i64 f) ∧ W9.cell? ⟨W.heap.size, 1, none⟩ = some (.int .i64 (p : Int)) ∧ W9.cell? ⟨W.heap.size, 2, none⟩ = some (.int .i64 B) ∧ W9.cell? ⟨W.heap.size, 3, none⟩ = some (.int .i64 (q : Int)) ∧ W9.cell? ⟨W.heap.size, 4, none⟩ = some (.slice (some ⟨g, 0, none⟩) n cap)) ∧ (W9.cell? ⟨gc, k * 2, none⟩ = some (.int .i64 x0) ∧ W9.cell? ⟨gc, k * 2 + 1, none⟩ = some (.int .i64 x1)))) (by kernel_rfl) ?_ (fun hHeld => ?_)
        · exact ⟨Bx.cells5 P0, Ko2.cells K0⟩
        refine wpAnyH_take (i := 0) (v := ?_) (by (simp only [List.getElem?_toArray, List.getElem?_cons_succ, List.getElem?_cons_zero]); rfl) (by kernel_rfl) (by kernel_rfl) (by kernel_rfl) (by exact fun _ _ _ h => h) (Or.inl ⟨by rfl, ?_⟩) (by assumption) ?_
        rotate_left 1
        · (intro w hSw; (try dsimp only at hSw); go_simp) <;> with_reducible rfl
        (try simp only [Act.put, List.setIfInBounds_toArray, List.set_cons_zero, List.set_cons_succ])
        refine wpAnyH_take (i := 2) (v := ?_) (by (simp only [List.getElem?_toArray, List.getElem?_cons_succ, List.getElem?_cons_zero]); rfl) (by kernel_rfl) (by kernel_rfl) (by kernel_rfl) (by exact fun _ _ _ h => h) (Or.inl ⟨by rfl, ?_⟩) (by assumption) ?_
        rotate_left 1
        · (intro w hSw; (try dsimp only at hSw); go_simp) <;> with_reducible rfl
        (try simp only [Act.put, List.setIfInBounds_toArray, List.set_cons_zero, List.set_cons_succ])
        refine wpAnyH_take (i := 3) (v := ?_) (by (simp only [List.getElem?_toArray, List.getElem?_cons_succ, List.getElem?_cons_zero]); rfl) (by kernel_rfl) (by kernel_rfl) (by kernel_rfl) (by exact fun _ _ _ h => h) (Or.inl ⟨by rfl, ?_⟩) (by assumption) ?_
        rotate_left 1
        · (intro w hSw; (try dsimp only at hSw); go_simp) <;> with_reducible rfl
        (try simp only [Act.put, List.setIfInBounds_toArray, List.set_cons_zero, List.set_cons_succ])
        refine wpAnyH_take (i := 4) (v := ?_) (by (simp only [List.getElem?_toArray, List.getElem?_cons_succ, List.getElem?_cons_zero]); rfl) (by kernel_rfl) (by kernel_rfl) (by kernel_rfl) (by exact fun _ _ _ h => h) (Or.inl ⟨by rfl, ?_⟩) (by assumption) ?_
        rotate_left 1
        · (intro w hSw; (try dsimp only at hSw); go_simp) <;> with_reducible rfl
        (try simp only [Act.put, List.setIfInBounds_toArray, List.set_cons_zero, List.set_cons_succ])
        refine wpAnyH_take (i := 5) (v := ?_) (by (simp only [List.getElem?_toArray, List.getElem?_cons_succ, List.getElem?_cons_zero]); rfl) (by kernel_rfl) (by kernel_rfl) (by kernel_rfl) (by exact fun _ _ _ h => h) (Or.inl ⟨by rfl, ?_⟩) (by assumption) ?_
        rotate_left 1
        · (intro w hSw; (try dsimp only at hSw); go_simp) <;> with_reducible rfl
        (try simp only [Act.put, List.setIfInBounds_toArray, List.set_cons_zero, List.set_cons_succ])
        refine wpAnyH_ready (rs := [1]) (by kernel_rfl) (by simp) ?_
        refine AllReadyH.cons (o := _) (by (simp only [List.getElem?_toArray, List.getElem?_cons_succ, List.getElem?_cons_zero]); rfl) (fun K hK => ?_) AllReadyH.nil
        go_simp
        go_at_call 100
        with_reducible refine (l02Unit_any _).mono ?_
        rintro e u1 ⟨rfl, hb1⟩
        have P1 : Bx W.heap.size [.int .i64 f, .int .i64 (p : Int), .int .i64 B, .int .i64 (q : Int), .slice (some ⟨g, 0, none⟩) n cap] u1 := (by repeat (first | with_reducible assumption | with_reducible refine Bx.drew ?_ | with_reducible refine Ko2.drew ?_ | with_reducible refine Bx.call ?_ (by with_reducible assumption) | with_reducible refine Ko2.call ?_ (by with_reducible assumption)))
        have K1 : Ko2 gc (k * 2) x0 x1 u1 := (by repeat (first | with_reducible assumption | with_reducible refine Bx.drew ?_ | with_reducible refine Ko2.drew ?_ | with_reducible refine Bx.call ?_ (by with_reducible assumption) | with_reducible refine Ko2.call ?_ (by with_reducible assumption)))
        have D1 : Below wr.heap.size wr u1 := (by repeat (first | with_reducible assumption | with_reducible refine Below.drew ?_ | with_reducible refine bstep ?_ (by with_reducible assumption)))
        clear hb1
        (try go_wp2_with fail)
        refine hK.out _ _ ?_ (fun hHeld => ?_)
        · (try dsimp only)
          exact ⟨Bx.cells5 P1, Ko2.cells K1⟩
        clear hK K
        (try simp only [Act.put, List.setIfInBounds_toArray, List.set_cons_zero, List.set_cons_succ])
        refine wpAnyH_take (i := 6) (v := ?_) (by (simp only [List.getElem?_toArray, List.getElem?_cons_succ, List.getElem?_cons_zero]); rfl) (by kernel_rfl) (by kernel_rfl) (by kernel_rfl) (by exact fun _ _ _ h => h) (Or.inl ⟨by rfl, ?_⟩) (by assumption) ?_
        rotate_left 1
        · (intro w hSw; (try dsimp only at hSw); go_simp) <;> with_reducible rfl
        (try simp only [Act.put, List.setIfInBounds_toArray, List.set_cons_zero, List.set_cons_succ])
        refine wpAnyH_ready (rs := [7]) (by kernel_rfl) (by simp) ?_
        refine AllReadyH.cons (o := _) (by (simp only [List.getElem?_toArray, List.getElem?_cons_succ, List.getElem?_cons_zero]); rfl) (fun K hK => ?_) AllReadyH.nil
        go_simp
        go_at_call 32
        with_reducible refine (HKP.out _ D1).mono ?_
        rintro e u2 ⟨rfl, hb2⟩
        have P2 : Bx W.heap.size [.int .i64 f, .int .i64 (p : Int), .int .i64 B, .int .i64 (q : Int), .slice (some ⟨g, 0, none⟩) n cap] u2 := (by repeat (first | with_reducible assumption | with_reducible refine Bx.drew ?_ | with_reducible refine Ko2.drew ?_ | with_reducible refine Bx.call ?_ (by with_reducible assumption) | with_reducible refine Ko2.call ?_ (by with_reducible assumption)))
        have K2 : Ko2 gc (k * 2) x0 x1 u2 := (by repeat (first | with_reducible assumption | with_reducible refine Bx.drew ?_ | with_reducible refine Ko2.drew ?_ | with_reducible refine Bx.call ?_ (by with_reducible assumption) | with_reducible refine Ko2.call ?_ (by with_reducible assumption)))
        have D2 : Below wr.heap.size wr u2 := (by repeat (first | with_reducible assumption | with_reducible refine Below.drew ?_ | with_reducible refine bstep ?_ (by with_reducible assumption)))
        clear hb2
        (try go_wp2_with fail)
        refine hK.out _ _ ?_ (fun hHeld => ?_)
        · (try dsimp only)
          exact ⟨Bx.cells5 P2, Ko2.cells K2⟩
        clear hK K
        (try simp only [Act.put, List.setIfInBounds_toArray, List.set_cons_zero, List.set_cons_succ])
        refine wpAnyH_done (by kernel_rfl) ?_ _
        go_wp2
        go_roundw
        case rel =>
          refine ⟨k + 1, by go_num, by omega, ?_, hB.trans (D2.mono hB.size)⟩
          have e9 : (basL (p : Int) B (q : Int) ++ ((cellP q p).take (k + 1)).filter (kptA (p : Int) B (q : Int) F)) = (basL (p : Int) B (q : Int) ++ ((cellP q p).take k).filter (kptA (p : Int) B (q : Int) F)) := by rw [HST.out, List.filter_append]; simp [← HKB.out]
          rw [e9]
          exact ownsRow_call9 OO D2
        case measure => first | (simp [intOf]; done) | (simp [intOf]; omega)
      · go_wp2_with fail
        refine wp_region_held_drew (S := (fun W9 => (W9.cell? ⟨W.heap.size, 0, none⟩ = some (.int .i64 f) ∧ W9.cell? ⟨W.heap.size, 1, none⟩ = some (.int .i64 (p : Int)) ∧ W9.cell? ⟨W.heap.size, 2, none⟩ = some (.int .i64 B) ∧ W9.cell? ⟨W.heap.size, 3, none⟩ = some (.int .i64 (q : Int)) ∧ W9.cell? ⟨W.heap.size, 4, none⟩ = some (.slice (some ⟨g, 0, none⟩) n cap)) ∧ (W9.cell? ⟨gc, k * 2, none⟩ = some (.int .i64 x0) ∧ W9.cell? ⟨gc, k * 2 + 1, none⟩ = some (.int .i64 x1)))) (by kernel_rfl) ?_ (fun hHeld => ?_)
        · exact ⟨Bx.cells5 P0, Ko2.cells K0⟩
        refine wpAnyH_take (i := 0) (v := ?_) (by (simp only [List.getElem?_toArray, List.getElem?_cons_succ, List.getElem?_cons_zero]); rfl) (by kernel_rfl) (by kernel_rfl) (by kernel_rfl) (by exact fun _ _ _ h => h) (Or.inl ⟨by rfl, ?_⟩) (by assumption) ?_
        rotate_left 1
        · (intro w hSw; (try dsimp only at hSw); go_simp) <;> with_reducible rfl
        (try simp only [Act.put, List.setIfInBounds_toArray, List.set_cons_zero, List.set_cons_succ])
        refine wpAnyH_take (i := 2) (v := ?_) (by (simp only [List.getElem?_toArray, List.getElem?_cons_succ, List.getElem?_cons_zero]); rfl) (by kernel_rfl) (by kernel_rfl) (by kernel_rfl) (by exact fun _ _ _ h => h) (Or.inl ⟨by rfl, ?_⟩) (by assumption) ?_
        rotate_left 1
        · (intro w hSw; (try dsimp only at hSw); go_simp) <;> with_reducible rfl
        (try simp only [Act.put, List.setIfInBounds_toArray, List.set_cons_zero, List.set_cons_succ])
        refine wpAnyH_take (i := 3) (v := ?_) (by (simp only [List.getElem?_toArray, List.getElem?_cons_succ, List.getElem?_cons_zero]); rfl) (by kernel_rfl) (by kernel_rfl) (by kernel_rfl) (by exact fun _ _ _ h => h) (Or.inl ⟨by rfl, ?_⟩) (by assumption) ?_
        rotate_left 1
        · (intro w hSw; (try dsimp only at hSw); go_simp) <;> with_reducible rfl
        (try simp only [Act.put, List.setIfInBounds_toArray, List.set_cons_zero, List.set_cons_succ])
        refine wpAnyH_take (i := 4) (v := ?_) (by (simp only [List.getElem?_toArray, List.getElem?_cons_succ, List.getElem?_cons_zero]); rfl) (by kernel_rfl) (by kernel_rfl) (by kernel_rfl) (by exact fun _ _ _ h => h) (Or.inl ⟨by rfl, ?_⟩) (by assumption) ?_
        rotate_left 1
        · (intro w hSw; (try dsimp only at hSw); go_simp) <;> with_reducible rfl
        (try simp only [Act.put, List.setIfInBounds_toArray, List.set_cons_zero, List.set_cons_succ])
        refine wpAnyH_take (i := 5) (v := ?_) (by (simp only [List.getElem?_toArray, List.getElem?_cons_succ, List.getElem?_cons_zero]); rfl) (by kernel_rfl) (by kernel_rfl) (by kernel_rfl) (by exact fun _ _ _ h => h) (Or.inl ⟨by rfl, ?_⟩) (by assumption) ?_
        rotate_left 1
        · (intro w hSw; (try dsimp only at hSw); go_simp) <;> with_reducible rfl
        (try simp only [Act.put, List.setIfInBounds_toArray, List.set_cons_zero, List.set_cons_succ])
        refine wpAnyH_ready (rs := [1]) (by kernel_rfl) (by simp) ?_
        refine AllReadyH.cons (o := _) (by (simp only [List.getElem?_toArray, List.getElem?_cons_succ, List.getElem?_cons_zero]); rfl) (fun K hK => ?_) AllReadyH.nil
        go_simp
        go_at_call 100
        with_reducible refine (l02Unit_any _).mono ?_
        rintro e u1 ⟨rfl, hb1⟩
        have P1 : Bx W.heap.size [.int .i64 f, .int .i64 (p : Int), .int .i64 B, .int .i64 (q : Int), .slice (some ⟨g, 0, none⟩) n cap] u1 := (by repeat (first | with_reducible assumption | with_reducible refine Bx.drew ?_ | with_reducible refine Ko2.drew ?_ | with_reducible refine Bx.call ?_ (by with_reducible assumption) | with_reducible refine Ko2.call ?_ (by with_reducible assumption)))
        have K1 : Ko2 gc (k * 2) x0 x1 u1 := (by repeat (first | with_reducible assumption | with_reducible refine Bx.drew ?_ | with_reducible refine Ko2.drew ?_ | with_reducible refine Bx.call ?_ (by with_reducible assumption) | with_reducible refine Ko2.call ?_ (by with_reducible assumption)))
        have D1 : Below wr.heap.size wr u1 := (by repeat (first | with_reducible assumption | with_reducible refine Below.drew ?_ | with_reducible refine bstep ?_ (by with_reducible assumption)))
        clear hb1
        (try go_wp2_with fail)
        refine hK.out _ _ ?_ (fun hHeld => ?_)
        · (try dsimp only)
          exact ⟨Bx.cells5 P1, Ko2.cells K1⟩
        clear hK K
        (try simp only [Act.put, List.setIfInBounds_toArray, List.set_cons_zero, List.set_cons_succ])
        refine wpAnyH_take (i := 6) (v := ?_) (by (simp only [List.getElem?_toArray, List.getElem?_cons_succ, List.getElem?_cons_zero]); rfl) (by kernel_rfl) (by kernel_rfl) (by kernel_rfl) (by exact fun _ _ _ h => h) (Or.inl ⟨by rfl, ?_⟩) (by assumption) ?_
        rotate_left 1
        · (intro w hSw; (try dsimp only at hSw); go_simp) <;> with_reducible rfl
        (try simp only [Act.put, List.setIfInBounds_toArray, List.set_cons_zero, List.set_cons_succ])
        refine wpAnyH_ready (rs := [7]) (by kernel_rfl) (by simp) ?_
        refine AllReadyH.cons (o := _) (by (simp only [List.getElem?_toArray, List.getElem?_cons_succ, List.getElem?_cons_zero]); rfl) (fun K hK => ?_) AllReadyH.nil
        go_simp
        go_at_call 32
        with_reducible refine (HKP.out _ D1).mono ?_
        rintro e u2 ⟨rfl, hb2⟩
        have P2 : Bx W.heap.size [.int .i64 f, .int .i64 (p : Int), .int .i64 B, .int .i64 (q : Int), .slice (some ⟨g, 0, none⟩) n cap] u2 := (by repeat (first | with_reducible assumption | with_reducible refine Bx.drew ?_ | with_reducible refine Ko2.drew ?_ | with_reducible refine Bx.call ?_ (by with_reducible assumption) | with_reducible refine Ko2.call ?_ (by with_reducible assumption)))
        have K2 : Ko2 gc (k * 2) x0 x1 u2 := (by repeat (first | with_reducible assumption | with_reducible refine Bx.drew ?_ | with_reducible refine Ko2.drew ?_ | with_reducible refine Bx.call ?_ (by with_reducible assumption) | with_reducible refine Ko2.call ?_ (by with_reducible assumption)))
        have D2 : Below wr.heap.size wr u2 := (by repeat (first | with_reducible assumption | with_reducible refine Below.drew ?_ | with_reducible refine bstep ?_ (by with_reducible assumption)))
        clear hb2
        (try go_wp2_with fail)
        refine hK.out _ _ ?_ (fun hHeld => ?_)
        · (try dsimp only)
          exact ⟨Bx.cells5 P2, Ko2.cells K2⟩
        clear hK K
        (try simp only [Act.put, List.setIfInBounds_toArray, List.set_cons_zero, List.set_cons_succ])
        refine wpAnyH_done (by kernel_rfl) ?_ _
        have O9 := ownsRow_call9 OO D2
        have kk0 := K2.2.1
        have kk1 := K2.2.2
        have kkl := K2.1
        have hu9 := D2.size
        go_wp2_with (at_builtin; refine wpList_append_own _ rfl _ _ 90 rfl w1.heap.size 53 i0 (.agg #[.int .i64 0, .int .i64 0]) 2 16 Tryz.underlying90 hinf hz0 hz1 hz2 rfl (by decide) _ _ _ rfl (O9.alloc _) ⟨u2.heap.size, 0, none⟩ 1 1 [.int .i64 x0, .int .i64 x1] rfl rfl ?c1 ?c2 ?c3 ?c4 ?c5 ?_)
        case c1 => exact new_two9 _ _ _ rfl
        case c2 => exact one_two
        case c3 => have := HFL.out; unfold maxLen; omega
        case c4 => have := HFL.out; omega
        case c5 => simp; omega
        intro v' w9 hown' hgrow _
        have hB1 : Below w1.heap.size w1 w9 := Below.grown (Below.alloc (hB.trans (D2.mono hB.size)) (by omega) _) hgrow (by simp; omega) (fun j hj => (O9.lt j hj).1)
        have e9 : (basL (p : Int) B (q : Int) ++ ((cellP q p).take (k + 1)).filter (kptA (p : Int) B (q : Int) F)) = (basL (p : Int) B (q : Int) ++ ((cellP q p).take k).filter (kptA (p : Int) B (q : Int) F)) ++ [(x0, x1)] := by rw [HST.out, List.filter_append, ← List.append_assoc]; simp [← HKB.out]
        have O10 : w9.ownsRow w1.heap.size 53 2 v' (basL (p : Int) B (q : Int) ++ ((cellP q p).take (k + 1)).filter (kptA (p : Int) B (q : Int) F)).length (cells2 (basL (p : Int) B (q : Int) ++ ((cellP q p).take (k + 1)).filter (kptA (p : Int) B (q : Int) F))) := by rw [e9, cells2_snoc, List.length_append, List.length_append]; exact hown'
        go_wp2
        go_roundw
        case rel => exact ⟨k + 1, by go_num, by omega, O10, hB1⟩
        case measure => first | (simp [intOf]; done) | (simp [intOf]; omega)
    · obtain rfl : k = N := by omega
      have R2 := R1.call hB
      have hfl := fl_len (p : Int) B (q : Int) F q p k
      have hwr := hB.size
      have OO2 := OO
      rw [show (cellP q p).take k = cellP q p by rw [HN.out, List.take_length]] at OO2 hfl
      have HS9 := SRow.of OO2 (cells2_int _) (by omega)
      obtain ⟨g9, cap9, rfl, hg9, hg9b, r9⟩ := HS9.irow (by rw [List.length_append]; simp only [basL, List.length_cons, List.length_nil]; omega)
      have HVL := Lib.hid (VL_own OO2 rfl)
      obtain ⟨M9, hM9⟩ : ∃ M9, M9 = basL (p : Int) B (q : Int) ++ (cellP q p).filter (kptA (p : Int) B (q : Int) F) := ⟨_, rfl⟩
      rw [← hM9] at HFV HFM HFP HVL hfl
      have HFI2 := Lib.hid (show latL M9 = fulI (p : Int) B (q : Int) F from by rw [hM9, ← HFI.out]; unfold fulM; simp)
      rw [← hM9]
      clear OO OO2 HS9 r9 hM9
      go_wp2_with fail
      with_reducible refine (hermite9_any M9 g9 cap9 _ HVL.out HFV.out (by omega) HFP.out HFM.out).mono ?_
      rintro e w3 ⟨rfl, hb3⟩
      rw [HFI2.out]
      have R3 := R2.call hb3
      have B3 := bstep hB2 hb3
      clear hb3 R2
      have r3c0 := R3.c0
      have r3c1 := R3.c1
      have r3c2 := R3.c2
      have r3f0 := R3.f0
      have r3f1 := R3.f1
      have r3f2 := R3.f2
      have r3l := R3.lt
      go_wp2
      refine bodyPost_ret (v := .agg #[.int .i64 ((fulI (p : Int) B (q : Int) F).1), .int .i64 ((fulI (p : Int) B (q : Int) F).2.1), .int .i64 ((fulI (p : Int) B (q : Int) F).2.2)]) (by simp [results, Tryz.results59, go_sem, *]) rfl ⟨rfl, ?_⟩
      repeat (first | with_reducible exact Below.refl _ _ | with_reducible assumption | with_reducible refine Below.setCell ?_ (by first | omega | (dsimp only; omega) | (simp <;> omega)) _ | with_reducible refine Below.alloc ?_ (by first | omega | (simp <;> omega)) _ | with_reducible refine bstep ?_ (by with_reducible assumption) | with_reducible refine Below.drew ?_ | with_reducible refine below_drewN ?_ _)
end Go.Proofs.YtkfdaepnjdnnmaaGreatDoor
