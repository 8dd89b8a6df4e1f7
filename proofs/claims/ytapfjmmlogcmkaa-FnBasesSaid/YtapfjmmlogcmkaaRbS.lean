/-
  ReducedBasis of the model. Conditions: the frame and the lattice are valid.
-/
import Derived.Test.YtapfjmmlogcmkaaRbI
namespace Go.Proofs.Ytapfjmmlogcmkaa
open Go.RowKit
set_option linter.unusedSimpArgs false
set_option linter.unusedVariables false

theorem detM_any (ux uy x y : Int) (w : World) (h1 : -1000000000000 ≤ ux * y ∧ ux * y ≤ 1000000000000) (h2 : -1000000000000 ≤ uy * x ∧ uy * x ≤ 1000000000000) :
    Calls Try.prog 43 #[.agg #[.int .i64 ux, .int .i64 uy], .agg #[.int .i64 x, .int .i64 y]] w fun e w' => e = .returned (.int .i64 (ux * y - uy * x)) ∧ Below w.heap.size w w' := by
  obtain ⟨a1, a2⟩ := h1
  obtain ⟨a3, a4⟩ := h2
  go_enter Try.func43, Try.ntmps43
  go_wp2
  go_ret
  refine ⟨rfl, ?_⟩
  repeat (first | exact Below.refl _ _ | refine Below.setCell ?_ (by first | omega | (simp <;> omega)) _ | refine Below.alloc ?_ (by first | omega | (simp <;> omega)) _ | refine bstep ?_ (by assumption) | refine Below.drew ?_)
theorem IRow.far2 {g N : Nat} {F : Nat → Int} {W : World} {q : Addr} {u : Value} (hq : q.block ≠ g) (h : IRow g N F W) : IRow g N F (W.setCell q u) := by
  refine ⟨by simp; exact h.1, fun t ht => ?_⟩
  rw [World.cell?_setCell_other _ _ _ _ (fun e => hq (by rw [e])), World.frozen?_setCell]
  exact h.2 t ht
theorem bestF_take {f A B C : Int} {u : Int × Int} {L : List (Int × Int)} {k : Nat} (h : k < L.length) : bestF f A B C u (L.take (k + 1)) = bestStep f A B C u (bestF f A B C u (L.take k)) L[k] := by
  rw [List.take_succ_eq_append_getElem h, bestF_snoc]
theorem bestF_in {f A B C : Int} {u : Int × Int} {L : List (Int × Int)} (hm : ∀ v ∈ L, midI v.1 ∧ midI v.2) (k : Nat) : ∀ b, bestF f A B C u (L.take k) = some b → midI b.1 ∧ midI b.2 := by
  induction k with
  | zero => intro b h; simp [bestF] at h
  | succ k ih =>
    intro b h
    by_cases hk : k < L.length
    · rw [bestF_take hk] at h
      have hv := hm _ (List.getElem_mem hk)
      generalize L[k] = v at h hv
      rcases hs : bestF f A B C u (L.take k) with _ | c
      · rw [hs] at h
        simp only [bestStep] at h
        split at h
        · cases h; exact hv
        · cases h
      · rw [hs] at h
        have hc := ih c hs
        simp only [bestStep] at h
        split at h
        · split at h
          · cases h; exact hv
          · cases h; exact hc
        · cases h; exact hc
    · rw [List.take_of_length_le (by omega)] at h
      rw [List.take_of_length_le (by omega)] at ih
      exact ih b h
theorem step_no {f A B C : Int} {u : Int × Int} {st : Option (Int × Int)} {v : Int × Int} (h : bestC A B C u v = false) : bestStep f A B C u st v = st := by
  unfold bestStep
  cases st <;> simp [h]
theorem step_none {f A B C : Int} {u v : Int × Int} (h : bestC A B C u v = true) : bestStep f A B C u none v = some v := by simp [bestStep, h]
theorem step_yes {f A B C : Int} {u v b : Int × Int} (h : bestC A B C u v = true) (h2 : nrmV f v ≤ nrmV f b) : bestStep f A B C u (some b) v = some v := by simp [bestStep, h, h2]
theorem step_old {f A B C : Int} {u v b : Int × Int} (h : bestC A B C u v = true) (h2 : ¬ nrmV f v ≤ nrmV f b) : bestStep f A B C u (some b) v = some b := by simp [bestStep, h, h2]
set_option maxRecDepth 100000 in
set_option maxHeartbeats 6000000 in
theorem specRb_good (f A B C : Int) (w : World) (hf : frB f = true) (hl : latB A B C = true) : Calls Try.prog 8 #[.int .i64 f, .agg #[.int .i64 A, .int .i64 B, .int .i64 C]] w (RbOk f A B C w) := by
  have hli := latB_iff.1 hl
  have HLI := Lib.hid hli
  have EC : flC f A B C = 0 := by simp [flC, flB, hf, hl]
  have Z0 : Kt w.heap.size A B C (((w.alloc (.cells #[.int .i64 A, .int .i64 B, .int .i64 C] 25)).alloc (.cells #[.int .i64 0, .int .i64 0] 29)).alloc (.cells #[.int .i64 0, .int .i64 0] 29)) := Kt.alloc (Kt.alloc (Kt.at _ rfl) _) _
  have U0 : KW (w.heap.size + 1) 0 0 (((w.alloc (.cells #[.int .i64 A, .int .i64 B, .int .i64 C] 25)).alloc (.cells #[.int .i64 0, .int .i64 0] 29)).alloc (.cells #[.int .i64 0, .int .i64 0] 29)) := KW.alloc (KW.at _ (by simp)) _
  have V0 : KW (w.heap.size + 1 + 1) 0 0 (((w.alloc (.cells #[.int .i64 A, .int .i64 B, .int .i64 C] 25)).alloc (.cells #[.int .i64 0, .int .i64 0] 29)).alloc (.cells #[.int .i64 0, .int .i64 0] 29)) := KW.at _ (by simp)
  have B0 : Below w.heap.size w (((w.alloc (.cells #[.int .i64 A, .int .i64 B, .int .i64 C] 25)).alloc (.cells #[.int .i64 0, .int .i64 0] 29)).alloc (.cells #[.int .i64 0, .int .i64 0] 29)) := (((Below.refl _ _).alloc (Nat.le_refl _) _).alloc (by simp) _).alloc (by simp <;> omega) _
  go_enter Try.func8, Try.ntmps8
  go_wp2_with fail
  refine (l04Code_any _ _ _ _ _).mono ?_
  rintro e w1 ⟨rfl, hb1⟩
  rw [EC]
  have K1 := Z0.call hb1
  have U1 := U0.call hb1
  have V1 := V0.call hb1
  have B1 := bstep B0 hb1
  clear Z0 U0 V0 B0 hb1
  obtain ⟨k0, k1, k2, k3⟩ := id K1
  go_wp2_with fail
  refine (l04Shortest_any _ _ _ _ _ hf hli).mono ?_
  rintro e w4 ⟨v, rfl, hown, hb4⟩
  have K4 := K1.call hb4
  have U4 := U1.call hb4
  have V4 := V1.call hb4
  have B4 := bstep B1 hb4
  clear K1 U1 V1 B1 hb4 k0 k1 k2 k3
  have hne := shortM_ne hf hli
  have hlen : (shortM f A B C).length ≤ 1000000 := Nat.le_trans (List.length_filter_le _ _) (Nat.le_trans (nearP_len f (A * A) 128 (2 * 128 + 1) (2 * 128 + 1)) (by omega))
  obtain ⟨m, hm⟩ : ∃ m, (shortM f A B C).length = m + 1 := ⟨(shortM f A B C).length - 1, by have := List.length_pos_iff.2 hne; omega⟩
  have hlast := last_at hm hne
  rw [← rbU_last hne] at hlast
  have S4 := SRow.of hown (cells2_int _) hlen
  rw [hm] at S4 hlen
  obtain ⟨g1, cap1, rfl, hg1, hg2, RN⟩ := S4.2.2.resolve_left (fun h => by omega)
  have q1 := RN.ko2 (m * 2) (by omega)
  rw [hlast.1, hlast.2] at q1
  have HUm : Hid (midI (rbU f A B C).1 ∧ midI (rbU f A B C).2) := Lib.hid (by
    have := (List.mem_filter.1 (rbU_mem hf hli)).1
    have := (nearL_mem.1 this).1
    unfold midI; omega)
  generalize hrU : rbU f A B C = U at *
  obtain ⟨px, py⟩ := U
  obtain ⟨q10, q11, q12⟩ := id q1
  simp only at q10 q11 q12 HUm
  have hm2 : ((m + 1 : Nat) : Int) = (m : Int) + 1 := by omega
  have hw1 : IntKind.i64.wrap ((m : Int)) = (m : Int) := IntWalk.i64_in _ (by omega)
  have hw2 : IntKind.i64.wrap ((m : Int) + 1 - 1) = (m : Int) := by rw [show (m : Int) + 1 - 1 = m by omega]; exact hw1
  have hm3 : (0 : Int) ≤ (m : Int) := by omega
  have hm4 : (m : Int) < (m : Int) + 1 := by omega
  clear hown S4 RN hlast hm hne
  go_wp2_with fail
  have hb4z := U4.lt
  have hb4y := V4.lt
  have P5 : KW w4.heap.size px py ((w4.alloc (.cells #[.int .i64 px, .int .i64 py] 29)).alloc (.cells #[.int .i64 0, .int .i64 0] 29)) := KW.alloc (KW.at _ rfl) _
  have Q5 : KW (w4.heap.size + 1) 0 0 ((w4.alloc (.cells #[.int .i64 px, .int .i64 py] 29)).alloc (.cells #[.int .i64 0, .int .i64 0] 29)) := KW.at _ (by simp)
  have K5 := (K4.alloc (.cells #[.int .i64 px, .int .i64 py] 29)).alloc (.cells #[.int .i64 0, .int .i64 0] 29)
  have U5 := (U4.alloc (.cells #[.int .i64 px, .int .i64 py] 29)).alloc (.cells #[.int .i64 0, .int .i64 0] 29)
  have V5 := (V4.alloc (.cells #[.int .i64 px, .int .i64 py] 29)).alloc (.cells #[.int .i64 0, .int .i64 0] 29)
  have B5 : Below w.heap.size w ((w4.alloc (.cells #[.int .i64 px, .int .i64 py] 29)).alloc (.cells #[.int .i64 0, .int .i64 0] 29)) := (B4.alloc B4.size _).alloc (by have := B4.size; simp; omega) _
  refine (l04Near_any f 32768 128 _ hf (by omega)).mono ?_
  rintro e w5 ⟨vn, rfl, hown, hb5⟩
  have P6 := P5.call hb5
  have Q6 := Q5.call hb5
  have K6 := K5.call hb5
  have U6 := U5.call hb5
  have V6 := V5.call hb5
  have B6 := bstep B5 hb5
  have zp := Q5.lt
  clear P5 Q5 K5 U5 V5 B5 hb5 K4 U4 V4 B4 q1 q10 q11 q12 hm2 hw1 hw2 hm3 hm4
  go_wp2_with fail
  -- LOOPMARK
  have hlenN : (nearL f 32768 128).length ≤ 66049 := by
    have := nearP_len f 32768 128 (2 * 128 + 1) (2 * 128 + 1)
    exact Nat.le_trans this (by omega)
  have S1 := SRow.of hown (cells2_int _) (by omega)
  have HM : Hid (∀ v ∈ nearL f 32768 128, midI v.1 ∧ midI v.2) := Lib.hid (by
    intro v hv
    have := (nearL_mem.1 hv).1
    unfold midI; omega)
  have HE : Hid (rbV f A B C (px, py) = (bestF f A B C (px, py) (nearL f 32768 128)).getD (0, 0)) := Lib.hid rfl
  have hposN : 0 < (nearL f 32768 128).length := by
    have : ((0 : Int), (0 : Int)) ∈ nearL f 32768 128 := by
      rw [nearL_mem]
      refine ⟨by dsimp only; omega, ?_⟩
      have : nrmI f 0 0 = 0 := by unfold nrmI; simp
      dsimp only
      omega
    exact List.length_pos_iff.2 (fun e => by rw [e] at this; simp at this)
  generalize nearL f 32768 128 = NL at *
  obtain ⟨g, cap, rfl, hgl, hgh, RN⟩ := S1.2.2.resolve_left (fun h => by omega)
  have hgl' : w4.heap.size + 1 < g := by simp at hgl; omega
  generalize w4.heap.size = p at *
  have hq1 : w.heap.size + 1 + 1 < p := by omega
  have hAC := latI_prod hli
  have hAC0 : 0 ≤ A * C := Int.mul_nonneg (by have := hli.1; omega) (by have := hli.2.1; omega)
  have hwAC : IntKind.i64.wrap (A * C) = A * C := IntWalk.i64_in _ (by omega)
  have HLN := Lib.hid hlenN
  have hlen' : (NL.length : Int) ≤ 66049 := by omega
  have HRU := Lib.hid hrU
  clear S1 hown hposN hlenN hrU hgl zp hb4z hb4y hli
  generalize hqq : w.heap.size = q at *
  rw [← hqq] at B6
  have hwp : w.heap.size ≤ p := by omega
  have hwq : w.heap.size ≤ q := by omega
  clear hqq
  go_loopw [11, 13] (fun fo i W => ∃ k : Nat, i = .int .i64 (k : Int) ∧ k ≤ NL.length ∧ fo = .bool (bestF f A B C (px, py) (NL.take k)).isSome ∧ KW (p + 1) ((bestF f A B C (px, py) (NL.take k)).getD (0, 0)).1 ((bestF f A B C (px, py) (NL.take k)).getD (0, 0)).2 W ∧ KW p px py W ∧ Kt q A B C W ∧ KW (q + 1) 0 0 W ∧ KW (q + 1 + 1) 0 0 W ∧ IRow g (NL.length * 2) (intAt (cells2 NL)) W ∧ Below w.heap.size w W) (fun _ i _ => NL.length - (intOf i).toNat)
  case atStart => exact ⟨0, rfl, by omega, rfl, Q6, P6, K6, U6, V6, RN, B6⟩
  case round =>
    clear Q6 P6 K6 U6 V6 RN B6
    obtain ⟨k, rfl, hk, rfl, Q0, P0, K0, U0, V0, R0, B0⟩ := hrel
    by_cases hk1 : k < NL.length
    · have hk2 : (k : Int) < (NL.length : Int) := by omega
      have hk3 : (0 : Int) ≤ (k : Int) := by omega
      have HKB := Lib.hid (show k * 2 < NL.length * 2 ∧ k * 2 + 1 < NL.length * 2 by omega)
      have HXX := at2 hk1
      have HMv := Lib.hid (HM.out NL[k] (List.getElem_mem hk1))
      have HST0 := bestF_take (f := f) (A := A) (B := B) (C := C) (u := (px, py)) hk1
      have HMb := bestF_in (f := f) (A := A) (B := B) (C := C) (u := (px, py)) HM.out k
      have HK := Lib.hid hk1
      generalize NL[k] = v at HXX HMv HST0
      obtain ⟨x, y⟩ := v
      generalize bestF f A B C (px, py) (NL.take k) = st at *
      have HX1 := Lib.hid (show intAt (cells2 NL) (k * 2) = x from HXX.1)
      have HX2 := Lib.hid (show intAt (cells2 NL) (k * 2 + 1) = y from HXX.2)
      have X0 : wr.cell? ⟨g, k * 2, none⟩ = some (.int .i64 x) ∧ wr.cell? ⟨g, k * 2 + 1, none⟩ = some (.int .i64 y) := (by rw [← HX1.out, ← HX2.out]; exact ⟨R0.at _ HKB.out.1, R0.at _ HKB.out.2⟩)
      have DT := Lib.hid (fun W => detM_any px py x y W (mid_mul HUm.out.1 HMv.out.2) (mid_mul HUm.out.2 HMv.out.1))
      have HS := Lib.hid (fun W => l03Has_any A B C x y W HLI.out HMv.out.1 HMv.out.2)
      have NV := Lib.hid (fun W => l04Norm_any f x y W hf HMv.out.1 HMv.out.2)
      have HBC : bestC A B C (px, py) (x, y) = (decide (px * y - py * x = A * C) && hasB A B C x y) := rfl
      clear HXX hk hk1
      obtain ⟨bx, bz, hb⟩ : ∃ bx bz, st.getD (0, 0) = (bx, bz) := ⟨_, _, rfl⟩
      have HB := Lib.hid hb
      rw [hb] at Q0
      simp only at Q0
      by_cases c1 : px * y - py * x = A * C
      · have c1b : (px * y - py * x == A * C) = true := beq_iff_eq.2 c1
        have c1c : decide (px * y - py * x = A * C) = true := decide_eq_true c1
        rcases c2 : hasB A B C x y with _ | _
        · have HST := Lib.hid (HST0.trans (step_no (by rw [HBC, c2, Bool.and_false])))
          have HSO : Hid (st.isSome = st.isSome) := Lib.hid rfl
          simp only [c2] at HS
          clear HST0 HBC NV HMb hb c1c
          generalize px * y - py * x = dv at *
          go_wp2_with fail
          refine wp_region_held_drew (S := (fun W => (W.cell? ⟨p, 0, none⟩ = some (.int .i64 px) ∧ W.cell? ⟨p, 1, none⟩ = some (.int .i64 py)) ∧ (W.cell? ⟨p + 1, 0, none⟩ = some (.int .i64 bx) ∧ W.cell? ⟨p + 1, 1, none⟩ = some (.int .i64 bz)) ∧ (W.cell? ⟨q, 0, none⟩ = some (.int .i64 A) ∧ W.cell? ⟨q, 1, none⟩ = some (.int .i64 B) ∧ W.cell? ⟨q, 2, none⟩ = some (.int .i64 C)) ∧ (W.cell? ⟨g, k * 2, none⟩ = some (.int .i64 x) ∧ W.cell? ⟨g, k * 2 + 1, none⟩ = some (.int .i64 y)))) (by kernel_rfl) ?_ (fun hHeld => ?_)
          · exact ⟨P0.pair, Q0.pair, K0.cells, X0⟩
          refine wpAnyH_take (i := 0) (v := ?_) (by (simp only [List.getElem?_toArray, List.getElem?_cons_succ, List.getElem?_cons_zero]); rfl) (by kernel_rfl) (by kernel_rfl) (by kernel_rfl) (by exact fun _ _ _ h => h) (Or.inl ⟨by rfl, ?_⟩) (by assumption) ?_
          rotate_left 1
          · (intro w hSw; (try dsimp only at hSw); go_simp) <;> with_reducible rfl
          (try simp only [Act.put, List.setIfInBounds_toArray, List.set_cons_zero, List.set_cons_succ])
          refine wpAnyH_take (i := 1) (v := ?_) (by (simp only [List.getElem?_toArray, List.getElem?_cons_succ, List.getElem?_cons_zero]); rfl) (by kernel_rfl) (by kernel_rfl) (by kernel_rfl) (by exact fun _ _ _ h => h) (Or.inl ⟨by rfl, ?_⟩) (by assumption) ?_
          rotate_left 1
          · (intro w hSw; (try dsimp only at hSw); go_simp) <;> with_reducible rfl
          (try simp only [Act.put, List.setIfInBounds_toArray, List.set_cons_zero, List.set_cons_succ])
          refine wpAnyH_take (i := 2) (v := ?_) (by (simp only [List.getElem?_toArray, List.getElem?_cons_succ, List.getElem?_cons_zero]); rfl) (by kernel_rfl) (by kernel_rfl) (by kernel_rfl) (by exact fun _ _ _ h => h) (Or.inl ⟨by rfl, ?_⟩) (by assumption) ?_
          rotate_left 1
          · (intro w hSw; (try dsimp only at hSw); go_simp) <;> with_reducible rfl
          (try simp only [Act.put, List.setIfInBounds_toArray, List.set_cons_zero, List.set_cons_succ])
          refine wpAnyH_take (i := 3) (v := ?_) (by (simp only [List.getElem?_toArray, List.getElem?_cons_succ, List.getElem?_cons_zero]); rfl) (by kernel_rfl) (by kernel_rfl) (by kernel_rfl) (by exact fun _ _ _ h => h) (Or.inl ⟨by rfl, ?_⟩) (by assumption) ?_
          rotate_left 1
          · (intro w hSw; (try dsimp only at hSw); go_simp) <;> with_reducible rfl
          (try simp only [Act.put, List.setIfInBounds_toArray, List.set_cons_zero, List.set_cons_succ])
          refine wpAnyH_take (i := 4) (v := ?_) (by (simp only [List.getElem?_toArray, List.getElem?_cons_succ, List.getElem?_cons_zero]); rfl) (by kernel_rfl) (by kernel_rfl) (by kernel_rfl) (by exact fun _ _ _ h => h) (Or.inl ⟨by rfl, ?_⟩) (by assumption) ?_
          rotate_left 1
          · (intro w hSw; (try dsimp only at hSw); go_simp) <;> with_reducible rfl
          (try simp only [Act.put, List.setIfInBounds_toArray, List.set_cons_zero, List.set_cons_succ])
          refine wpAnyH_take (i := 6) (v := ?_) (by (simp only [List.getElem?_toArray, List.getElem?_cons_succ, List.getElem?_cons_zero]); rfl) (by kernel_rfl) (by kernel_rfl) (by kernel_rfl) (by exact fun _ _ _ h => h) (Or.inl ⟨by rfl, ?_⟩) (by assumption) ?_
          rotate_left 1
          · (intro w hSw; (try dsimp only at hSw); go_simp) <;> with_reducible rfl
          (try simp only [Act.put, List.setIfInBounds_toArray, List.set_cons_zero, List.set_cons_succ])
          refine wpAnyH_take (i := 7) (v := ?_) (by (simp only [List.getElem?_toArray, List.getElem?_cons_succ, List.getElem?_cons_zero]); rfl) (by kernel_rfl) (by kernel_rfl) (by kernel_rfl) (by exact fun _ _ _ h => h) (Or.inl ⟨by rfl, ?_⟩) (by assumption) ?_
          rotate_left 1
          · (intro w hSw; (try dsimp only at hSw); go_simp) <;> with_reducible rfl
          (try simp only [Act.put, List.setIfInBounds_toArray, List.set_cons_zero, List.set_cons_succ])
          refine wpAnyH_take (i := 8) (v := ?_) (by (simp only [List.getElem?_toArray, List.getElem?_cons_succ, List.getElem?_cons_zero]); rfl) (by kernel_rfl) (by kernel_rfl) (by kernel_rfl) (by exact fun _ _ _ h => h) (Or.inl ⟨by rfl, ?_⟩) (by assumption) ?_
          rotate_left 1
          · (intro w hSw; (try dsimp only at hSw); go_simp) <;> with_reducible rfl
          (try simp only [Act.put, List.setIfInBounds_toArray, List.set_cons_zero, List.set_cons_succ])
          refine wpAnyH_take (i := 9) (v := ?_) (by (simp only [List.getElem?_toArray, List.getElem?_cons_succ, List.getElem?_cons_zero]); rfl) (by kernel_rfl) (by kernel_rfl) (by kernel_rfl) (by exact fun _ _ _ h => h) (Or.inl ⟨by rfl, ?_⟩) (by assumption) ?_
          rotate_left 1
          · (intro w hSw; (try dsimp only at hSw); go_simp) <;> with_reducible rfl
          (try simp only [Act.put, List.setIfInBounds_toArray, List.set_cons_zero, List.set_cons_succ])
          refine wpAnyH_take (i := 10) (v := ?_) (by (simp only [List.getElem?_toArray, List.getElem?_cons_succ, List.getElem?_cons_zero]); rfl) (by kernel_rfl) (by kernel_rfl) (by kernel_rfl) (by exact fun _ _ _ h => h) (Or.inl ⟨by rfl, ?_⟩) (by assumption) ?_
          rotate_left 1
          · (intro w hSw; (try dsimp only at hSw); go_simp) <;> with_reducible rfl
          (try simp only [Act.put, List.setIfInBounds_toArray, List.set_cons_zero, List.set_cons_succ])
          refine wpAnyH_ready (rs := [5]) (by kernel_rfl) (by simp) ?_
          refine AllReadyH.cons (o := _) (by (simp only [List.getElem?_toArray, List.getElem?_cons_succ, List.getElem?_cons_zero]); rfl) (fun K hK => ?_) AllReadyH.nil
          go_simp
          go_at_call 43
          refine (DT.out _).mono ?_
          rintro e u1 ⟨rfl, hb1⟩
          have P1 : KW p px py u1 := (by repeat (first | assumption | with_reducible refine KW.drew ?_ | with_reducible refine KW.call ?_ (by assumption) | with_reducible refine Kt.drew ?_ | with_reducible refine Kt.call ?_ (by assumption) | with_reducible refine IRow.call ?_ (Below.drew (Below.refl _ _)) | with_reducible refine IRow.call ?_ (by assumption)))
          have Q1 : KW (p + 1) bx bz u1 := (by repeat (first | assumption | with_reducible refine KW.drew ?_ | with_reducible refine KW.call ?_ (by assumption) | with_reducible refine Kt.drew ?_ | with_reducible refine Kt.call ?_ (by assumption) | with_reducible refine IRow.call ?_ (Below.drew (Below.refl _ _)) | with_reducible refine IRow.call ?_ (by assumption)))
          have K1 : Kt q A B C u1 := (by repeat (first | assumption | with_reducible refine KW.drew ?_ | with_reducible refine KW.call ?_ (by assumption) | with_reducible refine Kt.drew ?_ | with_reducible refine Kt.call ?_ (by assumption) | with_reducible refine IRow.call ?_ (Below.drew (Below.refl _ _)) | with_reducible refine IRow.call ?_ (by assumption)))
          have U1 : KW (q + 1) 0 0 u1 := (by repeat (first | assumption | with_reducible refine KW.drew ?_ | with_reducible refine KW.call ?_ (by assumption) | with_reducible refine Kt.drew ?_ | with_reducible refine Kt.call ?_ (by assumption) | with_reducible refine IRow.call ?_ (Below.drew (Below.refl _ _)) | with_reducible refine IRow.call ?_ (by assumption)))
          have V1 : KW (q + 1 + 1) 0 0 u1 := (by repeat (first | assumption | with_reducible refine KW.drew ?_ | with_reducible refine KW.call ?_ (by assumption) | with_reducible refine Kt.drew ?_ | with_reducible refine Kt.call ?_ (by assumption) | with_reducible refine IRow.call ?_ (Below.drew (Below.refl _ _)) | with_reducible refine IRow.call ?_ (by assumption)))
          have R1 : IRow g (NL.length * 2) (intAt (cells2 NL)) u1 := (by repeat (first | assumption | with_reducible refine KW.drew ?_ | with_reducible refine KW.call ?_ (by assumption) | with_reducible refine Kt.drew ?_ | with_reducible refine Kt.call ?_ (by assumption) | with_reducible refine IRow.call ?_ (Below.drew (Below.refl _ _)) | with_reducible refine IRow.call ?_ (by assumption)))
          have B1 : Below w.heap.size w u1 := (by repeat (first | assumption | with_reducible refine Below.drew ?_ | with_reducible refine bstep ?_ (by assumption)))
          have X1 : u1.cell? ⟨g, k * 2, none⟩ = some (.int .i64 x) ∧ u1.cell? ⟨g, k * 2 + 1, none⟩ = some (.int .i64 y) := (by rw [← HX1.out, ← HX2.out]; exact ⟨R1.at _ HKB.out.1, R1.at _ HKB.out.2⟩)
          clear hb1
          go_wp2_with fail
          refine hK.out _ _ ?_ (fun hHeld => ?_)
          · (try dsimp only)
            exact ⟨P1.pair, Q1.pair, K1.cells, X1⟩
          clear hK K
          (try simp only [Act.put, List.setIfInBounds_toArray, List.set_cons_zero, List.set_cons_succ])
          refine wpAnyH_take (i := 11) (v := ?_) (by (simp only [List.getElem?_toArray, List.getElem?_cons_succ, List.getElem?_cons_zero]); rfl) (by kernel_rfl) (by kernel_rfl) (by kernel_rfl) (by exact fun _ _ _ h => h) (Or.inl ⟨by rfl, ?_⟩) (by assumption) ?_
          rotate_left 1
          · (intro w hSw; (try dsimp only at hSw); go_simp) <;> with_reducible rfl
          (try simp only [Act.put, List.setIfInBounds_toArray, List.set_cons_zero, List.set_cons_succ])
          refine wpAnyH_take (i := 12) (v := ?_) (by (simp only [List.getElem?_toArray, List.getElem?_cons_succ, List.getElem?_cons_zero]); rfl) (by kernel_rfl) (by kernel_rfl) (by kernel_rfl) (by exact fun _ _ _ h => h) (Or.inl ⟨by rfl, ?_⟩) (by assumption) ?_
          rotate_left 1
          · (intro w hSw; (try dsimp only at hSw); go_simp) <;> with_reducible rfl
          (try simp only [Act.put, List.setIfInBounds_toArray, List.set_cons_zero, List.set_cons_succ])
          refine wpAnyH_take (i := 13) (v := ?_) (by (simp only [List.getElem?_toArray, List.getElem?_cons_succ, List.getElem?_cons_zero]); rfl) (by kernel_rfl) (by kernel_rfl) (by kernel_rfl) (by exact fun _ _ _ h => h) (Or.inl ⟨by rfl, ?_⟩) (by assumption) ?_
          rotate_left 1
          · (intro w hSw; (try dsimp only at hSw); go_simp) <;> with_reducible rfl
          (try simp only [Act.put, List.setIfInBounds_toArray, List.set_cons_zero, List.set_cons_succ])
          refine wpAnyH_take (i := 14) (v := ?_) (by (simp only [List.getElem?_toArray, List.getElem?_cons_succ, List.getElem?_cons_zero]); rfl) (by kernel_rfl) (by kernel_rfl) (by kernel_rfl) (by exact fun _ _ _ h => h) (Or.inl ⟨by rfl, ?_⟩) (by assumption) ?_
          rotate_left 1
          · (intro w hSw; (try dsimp only at hSw); go_simp) <;> with_reducible rfl
          (try simp only [Act.put, List.setIfInBounds_toArray, List.set_cons_zero, List.set_cons_succ])
          refine wpAnyH_take (i := 15) (v := ?_) (by (simp only [List.getElem?_toArray, List.getElem?_cons_succ, List.getElem?_cons_zero]); rfl) (by kernel_rfl) (by kernel_rfl) (by kernel_rfl) (by exact fun _ _ _ h => h) (Or.inl ⟨by rfl, ?_⟩) (by assumption) ?_
          rotate_left 1
          · (intro w hSw; (try dsimp only at hSw); go_simp) <;> with_reducible rfl
          (try simp only [Act.put, List.setIfInBounds_toArray, List.set_cons_zero, List.set_cons_succ])
          refine wpAnyH_take (i := 16) (v := ?_) (by (simp only [List.getElem?_toArray, List.getElem?_cons_succ, List.getElem?_cons_zero]); rfl) (by kernel_rfl) (by kernel_rfl) (by kernel_rfl) (by exact fun _ _ _ h => h) (Or.inl ⟨by rfl, ?_⟩) (by assumption) ?_
          rotate_left 1
          · (intro w hSw; (try dsimp only at hSw); go_simp) <;> with_reducible rfl
          (try simp only [Act.put, List.setIfInBounds_toArray, List.set_cons_zero, List.set_cons_succ])
          refine wpAnyH_take (i := 17) (v := ?_) (by (simp only [List.getElem?_toArray, List.getElem?_cons_succ, List.getElem?_cons_zero]); rfl) (by kernel_rfl) (by kernel_rfl) (by kernel_rfl) (by exact fun _ _ _ h => h) (Or.inl ⟨by rfl, ?_⟩) (by assumption) ?_
          rotate_left 1
          · (intro w hSw; (try dsimp only at hSw); go_simp) <;> with_reducible rfl
          (try simp only [Act.put, List.setIfInBounds_toArray, List.set_cons_zero, List.set_cons_succ])
          refine wpAnyH_ready (rs := [18]) (by kernel_rfl) (by simp) ?_
          refine AllReadyH.cons (o := _) (by (simp only [List.getElem?_toArray, List.getElem?_cons_succ, List.getElem?_cons_zero]); rfl) (fun K hK => ?_) AllReadyH.nil
          go_simp
          go_at_call 44
          refine (HS.out _).mono ?_
          rintro e u2 ⟨rfl, hb2⟩
          have P2 : KW p px py u2 := (by repeat (first | assumption | with_reducible refine KW.drew ?_ | with_reducible refine KW.call ?_ (by assumption) | with_reducible refine Kt.drew ?_ | with_reducible refine Kt.call ?_ (by assumption) | with_reducible refine IRow.call ?_ (Below.drew (Below.refl _ _)) | with_reducible refine IRow.call ?_ (by assumption)))
          have Q2 : KW (p + 1) bx bz u2 := (by repeat (first | assumption | with_reducible refine KW.drew ?_ | with_reducible refine KW.call ?_ (by assumption) | with_reducible refine Kt.drew ?_ | with_reducible refine Kt.call ?_ (by assumption) | with_reducible refine IRow.call ?_ (Below.drew (Below.refl _ _)) | with_reducible refine IRow.call ?_ (by assumption)))
          have K2 : Kt q A B C u2 := (by repeat (first | assumption | with_reducible refine KW.drew ?_ | with_reducible refine KW.call ?_ (by assumption) | with_reducible refine Kt.drew ?_ | with_reducible refine Kt.call ?_ (by assumption) | with_reducible refine IRow.call ?_ (Below.drew (Below.refl _ _)) | with_reducible refine IRow.call ?_ (by assumption)))
          have U2 : KW (q + 1) 0 0 u2 := (by repeat (first | assumption | with_reducible refine KW.drew ?_ | with_reducible refine KW.call ?_ (by assumption) | with_reducible refine Kt.drew ?_ | with_reducible refine Kt.call ?_ (by assumption) | with_reducible refine IRow.call ?_ (Below.drew (Below.refl _ _)) | with_reducible refine IRow.call ?_ (by assumption)))
          have V2 : KW (q + 1 + 1) 0 0 u2 := (by repeat (first | assumption | with_reducible refine KW.drew ?_ | with_reducible refine KW.call ?_ (by assumption) | with_reducible refine Kt.drew ?_ | with_reducible refine Kt.call ?_ (by assumption) | with_reducible refine IRow.call ?_ (Below.drew (Below.refl _ _)) | with_reducible refine IRow.call ?_ (by assumption)))
          have R2 : IRow g (NL.length * 2) (intAt (cells2 NL)) u2 := (by repeat (first | assumption | with_reducible refine KW.drew ?_ | with_reducible refine KW.call ?_ (by assumption) | with_reducible refine Kt.drew ?_ | with_reducible refine Kt.call ?_ (by assumption) | with_reducible refine IRow.call ?_ (Below.drew (Below.refl _ _)) | with_reducible refine IRow.call ?_ (by assumption)))
          have B2 : Below w.heap.size w u2 := (by repeat (first | assumption | with_reducible refine Below.drew ?_ | with_reducible refine bstep ?_ (by assumption)))
          have X2 : u2.cell? ⟨g, k * 2, none⟩ = some (.int .i64 x) ∧ u2.cell? ⟨g, k * 2 + 1, none⟩ = some (.int .i64 y) := (by rw [← HX1.out, ← HX2.out]; exact ⟨R2.at _ HKB.out.1, R2.at _ HKB.out.2⟩)
          clear hb2
          go_wp2_with fail
          refine hK.out _ _ ?_ (fun hHeld => ?_)
          · (try dsimp only)
            exact ⟨P2.pair, Q2.pair, K2.cells, X2⟩
          clear hK K
          (try simp only [Act.put, List.setIfInBounds_toArray, List.set_cons_zero, List.set_cons_succ])
          refine wpAnyH_take (i := 19) (v := ?_) (by (simp only [List.getElem?_toArray, List.getElem?_cons_succ, List.getElem?_cons_zero]); rfl) (by kernel_rfl) (by kernel_rfl) (by kernel_rfl) (by exact fun _ _ _ h => h) (Or.inl ⟨by rfl, ?_⟩) (by assumption) ?_
          rotate_left 1
          · (intro w hSw; (try dsimp only at hSw); go_simp) <;> with_reducible rfl
          (try simp only [Act.put, List.setIfInBounds_toArray, List.set_cons_zero, List.set_cons_succ])
          refine wpAnyH_take (i := 20) (v := ?_) (by (simp only [List.getElem?_toArray, List.getElem?_cons_succ, List.getElem?_cons_zero]); rfl) (by kernel_rfl) (by kernel_rfl) (by kernel_rfl) (by exact fun _ _ _ h => h) (Or.inl ⟨by rfl, ?_⟩) (by assumption) ?_
          rotate_left 1
          · (intro w hSw; (try dsimp only at hSw); go_simp) <;> with_reducible rfl
          (try simp only [Act.put, List.setIfInBounds_toArray, List.set_cons_zero, List.set_cons_succ])
          refine wpAnyH_take (i := 21) (v := undef) (by (simp only [List.getElem?_toArray, List.getElem?_cons_succ, List.getElem?_cons_zero]); rfl) (by kernel_rfl) (by kernel_rfl) (by kernel_rfl) (by exact fun _ _ _ h => h) (Or.inr ⟨by rfl, rfl⟩) (by assumption) ?_
          (try simp only [Act.put, List.setIfInBounds_toArray, List.set_cons_zero, List.set_cons_succ])
          refine wpAnyH_take (i := 22) (v := undef) (by (simp only [List.getElem?_toArray, List.getElem?_cons_succ, List.getElem?_cons_zero]); rfl) (by kernel_rfl) (by kernel_rfl) (by kernel_rfl) (by exact fun _ _ _ h => h) (Or.inr ⟨by rfl, rfl⟩) (by assumption) ?_
          (try simp only [Act.put, List.setIfInBounds_toArray, List.set_cons_zero, List.set_cons_succ])
          refine wpAnyH_take (i := 23) (v := undef) (by (simp only [List.getElem?_toArray, List.getElem?_cons_succ, List.getElem?_cons_zero]); rfl) (by kernel_rfl) (by kernel_rfl) (by kernel_rfl) (by exact fun _ _ _ h => h) (Or.inr ⟨by rfl, rfl⟩) (by assumption) ?_
          (try simp only [Act.put, List.setIfInBounds_toArray, List.set_cons_zero, List.set_cons_succ])
          refine wpAnyH_take (i := 24) (v := undef) (by (simp only [List.getElem?_toArray, List.getElem?_cons_succ, List.getElem?_cons_zero]); rfl) (by kernel_rfl) (by kernel_rfl) (by kernel_rfl) (by exact fun _ _ _ h => h) (Or.inr ⟨by rfl, rfl⟩) (by assumption) ?_
          (try simp only [Act.put, List.setIfInBounds_toArray, List.set_cons_zero, List.set_cons_succ])
          refine wpAnyH_take (i := 25) (v := undef) (by (simp only [List.getElem?_toArray, List.getElem?_cons_succ, List.getElem?_cons_zero]); rfl) (by kernel_rfl) (by kernel_rfl) (by kernel_rfl) (by exact fun _ _ _ h => h) (Or.inr ⟨by rfl, rfl⟩) (by assumption) ?_
          (try simp only [Act.put, List.setIfInBounds_toArray, List.set_cons_zero, List.set_cons_succ])
          refine wpAnyH_take (i := 26) (v := undef) (by (simp only [List.getElem?_toArray, List.getElem?_cons_succ, List.getElem?_cons_zero]); rfl) (by kernel_rfl) (by kernel_rfl) (by kernel_rfl) (by exact fun _ _ _ h => h) (Or.inr ⟨by rfl, rfl⟩) (by assumption) ?_
          (try simp only [Act.put, List.setIfInBounds_toArray, List.set_cons_zero, List.set_cons_succ])
          refine wpAnyH_take (i := 27) (v := undef) (by (simp only [List.getElem?_toArray, List.getElem?_cons_succ, List.getElem?_cons_zero]); rfl) (by kernel_rfl) (by kernel_rfl) (by kernel_rfl) (by exact fun _ _ _ h => h) (Or.inr ⟨by rfl, rfl⟩) (by assumption) ?_
          (try simp only [Act.put, List.setIfInBounds_toArray, List.set_cons_zero, List.set_cons_succ])
          refine wpAnyH_take (i := 28) (v := undef) (by (simp only [List.getElem?_toArray, List.getElem?_cons_succ, List.getElem?_cons_zero]); rfl) (by kernel_rfl) (by kernel_rfl) (by kernel_rfl) (by exact fun _ _ _ h => h) (Or.inr ⟨by rfl, rfl⟩) (by assumption) ?_
          (try simp only [Act.put, List.setIfInBounds_toArray, List.set_cons_zero, List.set_cons_succ])
          refine wpAnyH_take (i := 29) (v := undef) (by (simp only [List.getElem?_toArray, List.getElem?_cons_succ, List.getElem?_cons_zero]); rfl) (by kernel_rfl) (by kernel_rfl) (by kernel_rfl) (by exact fun _ _ _ h => h) (Or.inr ⟨by rfl, rfl⟩) (by assumption) ?_
          (try simp only [Act.put, List.setIfInBounds_toArray, List.set_cons_zero, List.set_cons_succ])
          refine wpAnyH_take (i := 30) (v := undef) (by (simp only [List.getElem?_toArray, List.getElem?_cons_succ, List.getElem?_cons_zero]); rfl) (by kernel_rfl) (by kernel_rfl) (by kernel_rfl) (by exact fun _ _ _ h => h) (Or.inr ⟨by rfl, rfl⟩) (by assumption) ?_
          (try simp only [Act.put, List.setIfInBounds_toArray, List.set_cons_zero, List.set_cons_succ])
          refine wpAnyH_take (i := 31) (v := undef) (by (simp only [List.getElem?_toArray, List.getElem?_cons_succ, List.getElem?_cons_zero]); rfl) (by kernel_rfl) (by kernel_rfl) (by kernel_rfl) (by exact fun _ _ _ h => h) (Or.inr ⟨by rfl, rfl⟩) (by assumption) ?_
          (try simp only [Act.put, List.setIfInBounds_toArray, List.set_cons_zero, List.set_cons_succ])
          refine wpAnyH_take (i := 32) (v := undef) (by (simp only [List.getElem?_toArray, List.getElem?_cons_succ, List.getElem?_cons_zero]); rfl) (by kernel_rfl) (by kernel_rfl) (by kernel_rfl) (by exact fun _ _ _ h => h) (Or.inr ⟨by rfl, rfl⟩) (by assumption) ?_
          (try simp only [Act.put, List.setIfInBounds_toArray, List.set_cons_zero, List.set_cons_succ])
          refine wpAnyH_take (i := 33) (v := undef) (by (simp only [List.getElem?_toArray, List.getElem?_cons_succ, List.getElem?_cons_zero]); rfl) (by kernel_rfl) (by kernel_rfl) (by kernel_rfl) (by exact fun _ _ _ h => h) (Or.inr ⟨by rfl, rfl⟩) (by assumption) ?_
          (try simp only [Act.put, List.setIfInBounds_toArray, List.set_cons_zero, List.set_cons_succ])
          refine wpAnyH_take (i := 34) (v := undef) (by (simp only [List.getElem?_toArray, List.getElem?_cons_succ, List.getElem?_cons_zero]); rfl) (by kernel_rfl) (by kernel_rfl) (by kernel_rfl) (by exact fun _ _ _ h => h) (Or.inr ⟨by rfl, rfl⟩) (by assumption) ?_
          (try simp only [Act.put, List.setIfInBounds_toArray, List.set_cons_zero, List.set_cons_succ])
          refine wpAnyH_take (i := 35) (v := ?_) (by (simp only [List.getElem?_toArray, List.getElem?_cons_succ, List.getElem?_cons_zero]); rfl) (by kernel_rfl) (by kernel_rfl) (by kernel_rfl) (by exact fun _ _ _ h => h) (Or.inl ⟨by rfl, ?_⟩) (by assumption) ?_
          rotate_left 1
          · (intro w hSw; (try dsimp only at hSw); go_simp) <;> with_reducible rfl
          (try simp only [Act.put, List.setIfInBounds_toArray, List.set_cons_zero, List.set_cons_succ])
          refine wpAnyH_done (by kernel_rfl) ?_ _
          go_wp2
          have hk1 := HK.out
          go_roundw
          case rel => exact ⟨k + 1, by go_num, by omega, by rw [HST.out] <;> first | rfl | rw [HSO.out], by rw [HST.out] <;> first | exact Q2 | (rw [HB.out]; exact Q2), P2, K2, U2, V2, R2, B2⟩
          case measure => first | (simp [intOf]; done) | (simp [intOf]; omega)
        · have hbc : bestC A B C (px, py) (x, y) = true := by rw [HBC, c1c, c2]; rfl
          simp only [c2] at HS
          rcases hst : st with _ | b
          · have HST := Lib.hid (HST0.trans (by rw [hst, step_none hbc]))
            have hso : st.isSome = false := by rw [hst]; rfl
            clear HST0 HBC NV HMb hb c1c hst hbc
            generalize px * y - py * x = dv at *
            go_wp2_with fail
            refine wp_region_held_drew (S := (fun W => (W.cell? ⟨p, 0, none⟩ = some (.int .i64 px) ∧ W.cell? ⟨p, 1, none⟩ = some (.int .i64 py)) ∧ (W.cell? ⟨p + 1, 0, none⟩ = some (.int .i64 bx) ∧ W.cell? ⟨p + 1, 1, none⟩ = some (.int .i64 bz)) ∧ (W.cell? ⟨q, 0, none⟩ = some (.int .i64 A) ∧ W.cell? ⟨q, 1, none⟩ = some (.int .i64 B) ∧ W.cell? ⟨q, 2, none⟩ = some (.int .i64 C)) ∧ (W.cell? ⟨g, k * 2, none⟩ = some (.int .i64 x) ∧ W.cell? ⟨g, k * 2 + 1, none⟩ = some (.int .i64 y)))) (by kernel_rfl) ?_ (fun hHeld => ?_)
            · exact ⟨P0.pair, Q0.pair, K0.cells, X0⟩
            refine wpAnyH_take (i := 0) (v := ?_) (by (simp only [List.getElem?_toArray, List.getElem?_cons_succ, List.getElem?_cons_zero]); rfl) (by kernel_rfl) (by kernel_rfl) (by kernel_rfl) (by exact fun _ _ _ h => h) (Or.inl ⟨by rfl, ?_⟩) (by assumption) ?_
            rotate_left 1
            · (intro w hSw; (try dsimp only at hSw); go_simp) <;> with_reducible rfl
            (try simp only [Act.put, List.setIfInBounds_toArray, List.set_cons_zero, List.set_cons_succ])
            refine wpAnyH_take (i := 1) (v := ?_) (by (simp only [List.getElem?_toArray, List.getElem?_cons_succ, List.getElem?_cons_zero]); rfl) (by kernel_rfl) (by kernel_rfl) (by kernel_rfl) (by exact fun _ _ _ h => h) (Or.inl ⟨by rfl, ?_⟩) (by assumption) ?_
            rotate_left 1
            · (intro w hSw; (try dsimp only at hSw); go_simp) <;> with_reducible rfl
            (try simp only [Act.put, List.setIfInBounds_toArray, List.set_cons_zero, List.set_cons_succ])
            refine wpAnyH_take (i := 2) (v := ?_) (by (simp only [List.getElem?_toArray, List.getElem?_cons_succ, List.getElem?_cons_zero]); rfl) (by kernel_rfl) (by kernel_rfl) (by kernel_rfl) (by exact fun _ _ _ h => h) (Or.inl ⟨by rfl, ?_⟩) (by assumption) ?_
            rotate_left 1
            · (intro w hSw; (try dsimp only at hSw); go_simp) <;> with_reducible rfl
            (try simp only [Act.put, List.setIfInBounds_toArray, List.set_cons_zero, List.set_cons_succ])
            refine wpAnyH_take (i := 3) (v := ?_) (by (simp only [List.getElem?_toArray, List.getElem?_cons_succ, List.getElem?_cons_zero]); rfl) (by kernel_rfl) (by kernel_rfl) (by kernel_rfl) (by exact fun _ _ _ h => h) (Or.inl ⟨by rfl, ?_⟩) (by assumption) ?_
            rotate_left 1
            · (intro w hSw; (try dsimp only at hSw); go_simp) <;> with_reducible rfl
            (try simp only [Act.put, List.setIfInBounds_toArray, List.set_cons_zero, List.set_cons_succ])
            refine wpAnyH_take (i := 4) (v := ?_) (by (simp only [List.getElem?_toArray, List.getElem?_cons_succ, List.getElem?_cons_zero]); rfl) (by kernel_rfl) (by kernel_rfl) (by kernel_rfl) (by exact fun _ _ _ h => h) (Or.inl ⟨by rfl, ?_⟩) (by assumption) ?_
            rotate_left 1
            · (intro w hSw; (try dsimp only at hSw); go_simp) <;> with_reducible rfl
            (try simp only [Act.put, List.setIfInBounds_toArray, List.set_cons_zero, List.set_cons_succ])
            refine wpAnyH_take (i := 6) (v := ?_) (by (simp only [List.getElem?_toArray, List.getElem?_cons_succ, List.getElem?_cons_zero]); rfl) (by kernel_rfl) (by kernel_rfl) (by kernel_rfl) (by exact fun _ _ _ h => h) (Or.inl ⟨by rfl, ?_⟩) (by assumption) ?_
            rotate_left 1
            · (intro w hSw; (try dsimp only at hSw); go_simp) <;> with_reducible rfl
            (try simp only [Act.put, List.setIfInBounds_toArray, List.set_cons_zero, List.set_cons_succ])
            refine wpAnyH_take (i := 7) (v := ?_) (by (simp only [List.getElem?_toArray, List.getElem?_cons_succ, List.getElem?_cons_zero]); rfl) (by kernel_rfl) (by kernel_rfl) (by kernel_rfl) (by exact fun _ _ _ h => h) (Or.inl ⟨by rfl, ?_⟩) (by assumption) ?_
            rotate_left 1
            · (intro w hSw; (try dsimp only at hSw); go_simp) <;> with_reducible rfl
            (try simp only [Act.put, List.setIfInBounds_toArray, List.set_cons_zero, List.set_cons_succ])
            refine wpAnyH_take (i := 8) (v := ?_) (by (simp only [List.getElem?_toArray, List.getElem?_cons_succ, List.getElem?_cons_zero]); rfl) (by kernel_rfl) (by kernel_rfl) (by kernel_rfl) (by exact fun _ _ _ h => h) (Or.inl ⟨by rfl, ?_⟩) (by assumption) ?_
            rotate_left 1
            · (intro w hSw; (try dsimp only at hSw); go_simp) <;> with_reducible rfl
            (try simp only [Act.put, List.setIfInBounds_toArray, List.set_cons_zero, List.set_cons_succ])
            refine wpAnyH_take (i := 9) (v := ?_) (by (simp only [List.getElem?_toArray, List.getElem?_cons_succ, List.getElem?_cons_zero]); rfl) (by kernel_rfl) (by kernel_rfl) (by kernel_rfl) (by exact fun _ _ _ h => h) (Or.inl ⟨by rfl, ?_⟩) (by assumption) ?_
            rotate_left 1
            · (intro w hSw; (try dsimp only at hSw); go_simp) <;> with_reducible rfl
            (try simp only [Act.put, List.setIfInBounds_toArray, List.set_cons_zero, List.set_cons_succ])
            refine wpAnyH_take (i := 10) (v := ?_) (by (simp only [List.getElem?_toArray, List.getElem?_cons_succ, List.getElem?_cons_zero]); rfl) (by kernel_rfl) (by kernel_rfl) (by kernel_rfl) (by exact fun _ _ _ h => h) (Or.inl ⟨by rfl, ?_⟩) (by assumption) ?_
            rotate_left 1
            · (intro w hSw; (try dsimp only at hSw); go_simp) <;> with_reducible rfl
            (try simp only [Act.put, List.setIfInBounds_toArray, List.set_cons_zero, List.set_cons_succ])
            refine wpAnyH_ready (rs := [5]) (by kernel_rfl) (by simp) ?_
            refine AllReadyH.cons (o := _) (by (simp only [List.getElem?_toArray, List.getElem?_cons_succ, List.getElem?_cons_zero]); rfl) (fun K hK => ?_) AllReadyH.nil
            go_simp
            go_at_call 43
            refine (DT.out _).mono ?_
            rintro e u1 ⟨rfl, hb1⟩
            have P1 : KW p px py u1 := (by repeat (first | assumption | with_reducible refine KW.drew ?_ | with_reducible refine KW.call ?_ (by assumption) | with_reducible refine Kt.drew ?_ | with_reducible refine Kt.call ?_ (by assumption) | with_reducible refine IRow.call ?_ (Below.drew (Below.refl _ _)) | with_reducible refine IRow.call ?_ (by assumption)))
            have Q1 : KW (p + 1) bx bz u1 := (by repeat (first | assumption | with_reducible refine KW.drew ?_ | with_reducible refine KW.call ?_ (by assumption) | with_reducible refine Kt.drew ?_ | with_reducible refine Kt.call ?_ (by assumption) | with_reducible refine IRow.call ?_ (Below.drew (Below.refl _ _)) | with_reducible refine IRow.call ?_ (by assumption)))
            have K1 : Kt q A B C u1 := (by repeat (first | assumption | with_reducible refine KW.drew ?_ | with_reducible refine KW.call ?_ (by assumption) | with_reducible refine Kt.drew ?_ | with_reducible refine Kt.call ?_ (by assumption) | with_reducible refine IRow.call ?_ (Below.drew (Below.refl _ _)) | with_reducible refine IRow.call ?_ (by assumption)))
            have U1 : KW (q + 1) 0 0 u1 := (by repeat (first | assumption | with_reducible refine KW.drew ?_ | with_reducible refine KW.call ?_ (by assumption) | with_reducible refine Kt.drew ?_ | with_reducible refine Kt.call ?_ (by assumption) | with_reducible refine IRow.call ?_ (Below.drew (Below.refl _ _)) | with_reducible refine IRow.call ?_ (by assumption)))
            have V1 : KW (q + 1 + 1) 0 0 u1 := (by repeat (first | assumption | with_reducible refine KW.drew ?_ | with_reducible refine KW.call ?_ (by assumption) | with_reducible refine Kt.drew ?_ | with_reducible refine Kt.call ?_ (by assumption) | with_reducible refine IRow.call ?_ (Below.drew (Below.refl _ _)) | with_reducible refine IRow.call ?_ (by assumption)))
            have R1 : IRow g (NL.length * 2) (intAt (cells2 NL)) u1 := (by repeat (first | assumption | with_reducible refine KW.drew ?_ | with_reducible refine KW.call ?_ (by assumption) | with_reducible refine Kt.drew ?_ | with_reducible refine Kt.call ?_ (by assumption) | with_reducible refine IRow.call ?_ (Below.drew (Below.refl _ _)) | with_reducible refine IRow.call ?_ (by assumption)))
            have B1 : Below w.heap.size w u1 := (by repeat (first | assumption | with_reducible refine Below.drew ?_ | with_reducible refine bstep ?_ (by assumption)))
            have X1 : u1.cell? ⟨g, k * 2, none⟩ = some (.int .i64 x) ∧ u1.cell? ⟨g, k * 2 + 1, none⟩ = some (.int .i64 y) := (by rw [← HX1.out, ← HX2.out]; exact ⟨R1.at _ HKB.out.1, R1.at _ HKB.out.2⟩)
            clear hb1
            go_wp2_with fail
            refine hK.out _ _ ?_ (fun hHeld => ?_)
            · (try dsimp only)
              exact ⟨P1.pair, Q1.pair, K1.cells, X1⟩
            clear hK K
            (try simp only [Act.put, List.setIfInBounds_toArray, List.set_cons_zero, List.set_cons_succ])
            refine wpAnyH_take (i := 11) (v := ?_) (by (simp only [List.getElem?_toArray, List.getElem?_cons_succ, List.getElem?_cons_zero]); rfl) (by kernel_rfl) (by kernel_rfl) (by kernel_rfl) (by exact fun _ _ _ h => h) (Or.inl ⟨by rfl, ?_⟩) (by assumption) ?_
            rotate_left 1
            · (intro w hSw; (try dsimp only at hSw); go_simp) <;> with_reducible rfl
            (try simp only [Act.put, List.setIfInBounds_toArray, List.set_cons_zero, List.set_cons_succ])
            refine wpAnyH_take (i := 12) (v := ?_) (by (simp only [List.getElem?_toArray, List.getElem?_cons_succ, List.getElem?_cons_zero]); rfl) (by kernel_rfl) (by kernel_rfl) (by kernel_rfl) (by exact fun _ _ _ h => h) (Or.inl ⟨by rfl, ?_⟩) (by assumption) ?_
            rotate_left 1
            · (intro w hSw; (try dsimp only at hSw); go_simp) <;> with_reducible rfl
            (try simp only [Act.put, List.setIfInBounds_toArray, List.set_cons_zero, List.set_cons_succ])
            refine wpAnyH_take (i := 13) (v := ?_) (by (simp only [List.getElem?_toArray, List.getElem?_cons_succ, List.getElem?_cons_zero]); rfl) (by kernel_rfl) (by kernel_rfl) (by kernel_rfl) (by exact fun _ _ _ h => h) (Or.inl ⟨by rfl, ?_⟩) (by assumption) ?_
            rotate_left 1
            · (intro w hSw; (try dsimp only at hSw); go_simp) <;> with_reducible rfl
            (try simp only [Act.put, List.setIfInBounds_toArray, List.set_cons_zero, List.set_cons_succ])
            refine wpAnyH_take (i := 14) (v := ?_) (by (simp only [List.getElem?_toArray, List.getElem?_cons_succ, List.getElem?_cons_zero]); rfl) (by kernel_rfl) (by kernel_rfl) (by kernel_rfl) (by exact fun _ _ _ h => h) (Or.inl ⟨by rfl, ?_⟩) (by assumption) ?_
            rotate_left 1
            · (intro w hSw; (try dsimp only at hSw); go_simp) <;> with_reducible rfl
            (try simp only [Act.put, List.setIfInBounds_toArray, List.set_cons_zero, List.set_cons_succ])
            refine wpAnyH_take (i := 15) (v := ?_) (by (simp only [List.getElem?_toArray, List.getElem?_cons_succ, List.getElem?_cons_zero]); rfl) (by kernel_rfl) (by kernel_rfl) (by kernel_rfl) (by exact fun _ _ _ h => h) (Or.inl ⟨by rfl, ?_⟩) (by assumption) ?_
            rotate_left 1
            · (intro w hSw; (try dsimp only at hSw); go_simp) <;> with_reducible rfl
            (try simp only [Act.put, List.setIfInBounds_toArray, List.set_cons_zero, List.set_cons_succ])
            refine wpAnyH_take (i := 16) (v := ?_) (by (simp only [List.getElem?_toArray, List.getElem?_cons_succ, List.getElem?_cons_zero]); rfl) (by kernel_rfl) (by kernel_rfl) (by kernel_rfl) (by exact fun _ _ _ h => h) (Or.inl ⟨by rfl, ?_⟩) (by assumption) ?_
            rotate_left 1
            · (intro w hSw; (try dsimp only at hSw); go_simp) <;> with_reducible rfl
            (try simp only [Act.put, List.setIfInBounds_toArray, List.set_cons_zero, List.set_cons_succ])
            refine wpAnyH_take (i := 17) (v := ?_) (by (simp only [List.getElem?_toArray, List.getElem?_cons_succ, List.getElem?_cons_zero]); rfl) (by kernel_rfl) (by kernel_rfl) (by kernel_rfl) (by exact fun _ _ _ h => h) (Or.inl ⟨by rfl, ?_⟩) (by assumption) ?_
            rotate_left 1
            · (intro w hSw; (try dsimp only at hSw); go_simp) <;> with_reducible rfl
            (try simp only [Act.put, List.setIfInBounds_toArray, List.set_cons_zero, List.set_cons_succ])
            refine wpAnyH_ready (rs := [18]) (by kernel_rfl) (by simp) ?_
            refine AllReadyH.cons (o := _) (by (simp only [List.getElem?_toArray, List.getElem?_cons_succ, List.getElem?_cons_zero]); rfl) (fun K hK => ?_) AllReadyH.nil
            go_simp
            go_at_call 44
            refine (HS.out _).mono ?_
            rintro e u2 ⟨rfl, hb2⟩
            have P2 : KW p px py u2 := (by repeat (first | assumption | with_reducible refine KW.drew ?_ | with_reducible refine KW.call ?_ (by assumption) | with_reducible refine Kt.drew ?_ | with_reducible refine Kt.call ?_ (by assumption) | with_reducible refine IRow.call ?_ (Below.drew (Below.refl _ _)) | with_reducible refine IRow.call ?_ (by assumption)))
            have Q2 : KW (p + 1) bx bz u2 := (by repeat (first | assumption | with_reducible refine KW.drew ?_ | with_reducible refine KW.call ?_ (by assumption) | with_reducible refine Kt.drew ?_ | with_reducible refine Kt.call ?_ (by assumption) | with_reducible refine IRow.call ?_ (Below.drew (Below.refl _ _)) | with_reducible refine IRow.call ?_ (by assumption)))
            have K2 : Kt q A B C u2 := (by repeat (first | assumption | with_reducible refine KW.drew ?_ | with_reducible refine KW.call ?_ (by assumption) | with_reducible refine Kt.drew ?_ | with_reducible refine Kt.call ?_ (by assumption) | with_reducible refine IRow.call ?_ (Below.drew (Below.refl _ _)) | with_reducible refine IRow.call ?_ (by assumption)))
            have U2 : KW (q + 1) 0 0 u2 := (by repeat (first | assumption | with_reducible refine KW.drew ?_ | with_reducible refine KW.call ?_ (by assumption) | with_reducible refine Kt.drew ?_ | with_reducible refine Kt.call ?_ (by assumption) | with_reducible refine IRow.call ?_ (Below.drew (Below.refl _ _)) | with_reducible refine IRow.call ?_ (by assumption)))
            have V2 : KW (q + 1 + 1) 0 0 u2 := (by repeat (first | assumption | with_reducible refine KW.drew ?_ | with_reducible refine KW.call ?_ (by assumption) | with_reducible refine Kt.drew ?_ | with_reducible refine Kt.call ?_ (by assumption) | with_reducible refine IRow.call ?_ (Below.drew (Below.refl _ _)) | with_reducible refine IRow.call ?_ (by assumption)))
            have R2 : IRow g (NL.length * 2) (intAt (cells2 NL)) u2 := (by repeat (first | assumption | with_reducible refine KW.drew ?_ | with_reducible refine KW.call ?_ (by assumption) | with_reducible refine Kt.drew ?_ | with_reducible refine Kt.call ?_ (by assumption) | with_reducible refine IRow.call ?_ (Below.drew (Below.refl _ _)) | with_reducible refine IRow.call ?_ (by assumption)))
            have B2 : Below w.heap.size w u2 := (by repeat (first | assumption | with_reducible refine Below.drew ?_ | with_reducible refine bstep ?_ (by assumption)))
            have X2 : u2.cell? ⟨g, k * 2, none⟩ = some (.int .i64 x) ∧ u2.cell? ⟨g, k * 2 + 1, none⟩ = some (.int .i64 y) := (by rw [← HX1.out, ← HX2.out]; exact ⟨R2.at _ HKB.out.1, R2.at _ HKB.out.2⟩)
            clear hb2
            go_wp2_with fail
            refine hK.out _ _ ?_ (fun hHeld => ?_)
            · (try dsimp only)
              exact ⟨P2.pair, Q2.pair, K2.cells, X2⟩
            clear hK K
            (try simp only [Act.put, List.setIfInBounds_toArray, List.set_cons_zero, List.set_cons_succ])
            refine wpAnyH_take (i := 19) (v := ?_) (by (simp only [List.getElem?_toArray, List.getElem?_cons_succ, List.getElem?_cons_zero]); rfl) (by kernel_rfl) (by kernel_rfl) (by kernel_rfl) (by exact fun _ _ _ h => h) (Or.inl ⟨by rfl, ?_⟩) (by assumption) ?_
            rotate_left 1
            · (intro w hSw; (try dsimp only at hSw); go_simp) <;> with_reducible rfl
            (try simp only [Act.put, List.setIfInBounds_toArray, List.set_cons_zero, List.set_cons_succ])
            refine wpAnyH_take (i := 20) (v := ?_) (by (simp only [List.getElem?_toArray, List.getElem?_cons_succ, List.getElem?_cons_zero]); rfl) (by kernel_rfl) (by kernel_rfl) (by kernel_rfl) (by exact fun _ _ _ h => h) (Or.inl ⟨by rfl, ?_⟩) (by assumption) ?_
            rotate_left 1
            · (intro w hSw; (try dsimp only at hSw); go_simp) <;> with_reducible rfl
            (try simp only [Act.put, List.setIfInBounds_toArray, List.set_cons_zero, List.set_cons_succ])
            refine wpAnyH_take (i := 21) (v := ?_) (by (simp only [List.getElem?_toArray, List.getElem?_cons_succ, List.getElem?_cons_zero]); rfl) (by kernel_rfl) (by kernel_rfl) (by kernel_rfl) (by exact fun _ _ _ h => h) (Or.inl ⟨by rfl, ?_⟩) (by assumption) ?_
            rotate_left 1
            · (intro w hSw; (try dsimp only at hSw); go_simp) <;> with_reducible rfl
            (try simp only [Act.put, List.setIfInBounds_toArray, List.set_cons_zero, List.set_cons_succ])
            refine wpAnyH_take (i := 22) (v := ?_) (by (simp only [List.getElem?_toArray, List.getElem?_cons_succ, List.getElem?_cons_zero]); rfl) (by kernel_rfl) (by kernel_rfl) (by kernel_rfl) (by exact fun _ _ _ h => h) (Or.inl ⟨by rfl, ?_⟩) (by assumption) ?_
            rotate_left 1
            · (intro w hSw; (try dsimp only at hSw); go_simp) <;> with_reducible rfl
            (try simp only [Act.put, List.setIfInBounds_toArray, List.set_cons_zero, List.set_cons_succ])
            refine wpAnyH_take (i := 23) (v := ?_) (by (simp only [List.getElem?_toArray, List.getElem?_cons_succ, List.getElem?_cons_zero]); rfl) (by kernel_rfl) (by kernel_rfl) (by kernel_rfl) (by exact fun _ _ _ h => h) (Or.inl ⟨by rfl, ?_⟩) (by assumption) ?_
            rotate_left 1
            · (intro w hSw; (try dsimp only at hSw); go_simp) <;> with_reducible rfl
            (try simp only [Act.put, List.setIfInBounds_toArray, List.set_cons_zero, List.set_cons_succ])
            refine wpAnyH_take (i := 24) (v := undef) (by (simp only [List.getElem?_toArray, List.getElem?_cons_succ, List.getElem?_cons_zero]); rfl) (by kernel_rfl) (by kernel_rfl) (by kernel_rfl) (by exact fun _ _ _ h => h) (Or.inr ⟨by rfl, rfl⟩) (by assumption) ?_
            (try simp only [Act.put, List.setIfInBounds_toArray, List.set_cons_zero, List.set_cons_succ])
            refine wpAnyH_take (i := 25) (v := undef) (by (simp only [List.getElem?_toArray, List.getElem?_cons_succ, List.getElem?_cons_zero]); rfl) (by kernel_rfl) (by kernel_rfl) (by kernel_rfl) (by exact fun _ _ _ h => h) (Or.inr ⟨by rfl, rfl⟩) (by assumption) ?_
            (try simp only [Act.put, List.setIfInBounds_toArray, List.set_cons_zero, List.set_cons_succ])
            refine wpAnyH_take (i := 26) (v := undef) (by (simp only [List.getElem?_toArray, List.getElem?_cons_succ, List.getElem?_cons_zero]); rfl) (by kernel_rfl) (by kernel_rfl) (by kernel_rfl) (by exact fun _ _ _ h => h) (Or.inr ⟨by rfl, rfl⟩) (by assumption) ?_
            (try simp only [Act.put, List.setIfInBounds_toArray, List.set_cons_zero, List.set_cons_succ])
            refine wpAnyH_take (i := 27) (v := undef) (by (simp only [List.getElem?_toArray, List.getElem?_cons_succ, List.getElem?_cons_zero]); rfl) (by kernel_rfl) (by kernel_rfl) (by kernel_rfl) (by exact fun _ _ _ h => h) (Or.inr ⟨by rfl, rfl⟩) (by assumption) ?_
            (try simp only [Act.put, List.setIfInBounds_toArray, List.set_cons_zero, List.set_cons_succ])
            refine wpAnyH_take (i := 28) (v := undef) (by (simp only [List.getElem?_toArray, List.getElem?_cons_succ, List.getElem?_cons_zero]); rfl) (by kernel_rfl) (by kernel_rfl) (by kernel_rfl) (by exact fun _ _ _ h => h) (Or.inr ⟨by rfl, rfl⟩) (by assumption) ?_
            (try simp only [Act.put, List.setIfInBounds_toArray, List.set_cons_zero, List.set_cons_succ])
            refine wpAnyH_take (i := 29) (v := undef) (by (simp only [List.getElem?_toArray, List.getElem?_cons_succ, List.getElem?_cons_zero]); rfl) (by kernel_rfl) (by kernel_rfl) (by kernel_rfl) (by exact fun _ _ _ h => h) (Or.inr ⟨by rfl, rfl⟩) (by assumption) ?_
            (try simp only [Act.put, List.setIfInBounds_toArray, List.set_cons_zero, List.set_cons_succ])
            refine wpAnyH_take (i := 30) (v := undef) (by (simp only [List.getElem?_toArray, List.getElem?_cons_succ, List.getElem?_cons_zero]); rfl) (by kernel_rfl) (by kernel_rfl) (by kernel_rfl) (by exact fun _ _ _ h => h) (Or.inr ⟨by rfl, rfl⟩) (by assumption) ?_
            (try simp only [Act.put, List.setIfInBounds_toArray, List.set_cons_zero, List.set_cons_succ])
            refine wpAnyH_take (i := 31) (v := undef) (by (simp only [List.getElem?_toArray, List.getElem?_cons_succ, List.getElem?_cons_zero]); rfl) (by kernel_rfl) (by kernel_rfl) (by kernel_rfl) (by exact fun _ _ _ h => h) (Or.inr ⟨by rfl, rfl⟩) (by assumption) ?_
            (try simp only [Act.put, List.setIfInBounds_toArray, List.set_cons_zero, List.set_cons_succ])
            refine wpAnyH_take (i := 32) (v := undef) (by (simp only [List.getElem?_toArray, List.getElem?_cons_succ, List.getElem?_cons_zero]); rfl) (by kernel_rfl) (by kernel_rfl) (by kernel_rfl) (by exact fun _ _ _ h => h) (Or.inr ⟨by rfl, rfl⟩) (by assumption) ?_
            (try simp only [Act.put, List.setIfInBounds_toArray, List.set_cons_zero, List.set_cons_succ])
            refine wpAnyH_take (i := 33) (v := undef) (by (simp only [List.getElem?_toArray, List.getElem?_cons_succ, List.getElem?_cons_zero]); rfl) (by kernel_rfl) (by kernel_rfl) (by kernel_rfl) (by exact fun _ _ _ h => h) (Or.inr ⟨by rfl, rfl⟩) (by assumption) ?_
            (try simp only [Act.put, List.setIfInBounds_toArray, List.set_cons_zero, List.set_cons_succ])
            refine wpAnyH_take (i := 34) (v := ?_) (by (simp only [List.getElem?_toArray, List.getElem?_cons_succ, List.getElem?_cons_zero]); rfl) (by kernel_rfl) (by kernel_rfl) (by kernel_rfl) (by exact fun _ _ _ h => h) (Or.inl ⟨by rfl, ?_⟩) (by assumption) ?_
            rotate_left 1
            · (intro w hSw; (try dsimp only at hSw); go_simp) <;> with_reducible rfl
            (try simp only [Act.put, List.setIfInBounds_toArray, List.set_cons_zero, List.set_cons_succ])
            refine wpAnyH_take (i := 35) (v := ?_) (by (simp only [List.getElem?_toArray, List.getElem?_cons_succ, List.getElem?_cons_zero]); rfl) (by kernel_rfl) (by kernel_rfl) (by kernel_rfl) (by exact fun _ _ _ h => h) (Or.inl ⟨by rfl, ?_⟩) (by assumption) ?_
            rotate_left 1
            · (intro w hSw; (try dsimp only at hSw); go_simp) <;> with_reducible rfl
            (try simp only [Act.put, List.setIfInBounds_toArray, List.set_cons_zero, List.set_cons_succ])
            refine wpAnyH_done (by kernel_rfl) ?_ _
            obtain ⟨s0, s1, s2, s3, s4⟩ := id Q2
            obtain ⟨x0, x1⟩ := id X2
            go_wp2
            have hk1 := HK.out
            go_roundw
            case rel => exact ⟨k + 1, by go_num, by omega, by rw [HST.out]; rfl, by rw [HST.out]; exact Q2.store x y, KW.far (by dsimp only; omega) (KW.far (by dsimp only; omega) P2), KtFar (by dsimp only; omega) (KtFar (by dsimp only; omega) K2), KW.far (by dsimp only; omega) (KW.far (by dsimp only; omega) U2), KW.far (by dsimp only; omega) (KW.far (by dsimp only; omega) V2), IRow.far2 (by dsimp only; omega) (IRow.far2 (by dsimp only; omega) R2), Below.setCell (p := ⟨p + 1, 1, none⟩) (Below.setCell (p := ⟨p + 1, 0, none⟩) B2 (by dsimp only; omega) _) (by dsimp only; omega) _⟩
            case measure => first | (simp [intOf]; done) | (simp [intOf]; omega)
          · have hbb : b = (bx, bz) := by rw [hst] at hb; exact hb
            subst hbb
            have HMbb := HMb _ hst
            have NB := Lib.hid (fun W => l04Norm_any f bx bz W hf HMbb.1 HMbb.2)
            have hso : st.isSome = true := by rw [hst]; rfl
            have HSO := Lib.hid hso
            by_cases c4 : nrmI f x y ≤ nrmI f bx bz
            · have HST := Lib.hid (HST0.trans (by rw [hst, step_yes (b := (bx, bz)) hbc (show nrmV f (x, y) ≤ nrmV f (bx, bz) from c4)]))
              have c4b : decide (nrmI f x y ≤ nrmI f bx bz) = true := decide_eq_true c4
              clear HST0 HBC HMb hb c1c hst hbc HMbb
              generalize px * y - py * x = dv at *
              generalize nrmI f x y = nv at *
              generalize nrmI f bx bz = nb at *
              go_wp2_with fail
              refine wp_region_held_drew (S := (fun W => (W.cell? ⟨p, 0, none⟩ = some (.int .i64 px) ∧ W.cell? ⟨p, 1, none⟩ = some (.int .i64 py)) ∧ (W.cell? ⟨p + 1, 0, none⟩ = some (.int .i64 bx) ∧ W.cell? ⟨p + 1, 1, none⟩ = some (.int .i64 bz)) ∧ (W.cell? ⟨q, 0, none⟩ = some (.int .i64 A) ∧ W.cell? ⟨q, 1, none⟩ = some (.int .i64 B) ∧ W.cell? ⟨q, 2, none⟩ = some (.int .i64 C)) ∧ (W.cell? ⟨g, k * 2, none⟩ = some (.int .i64 x) ∧ W.cell? ⟨g, k * 2 + 1, none⟩ = some (.int .i64 y)))) (by kernel_rfl) ?_ (fun hHeld => ?_)
              · exact ⟨P0.pair, Q0.pair, K0.cells, X0⟩
              refine wpAnyH_take (i := 0) (v := ?_) (by (simp only [List.getElem?_toArray, List.getElem?_cons_succ, List.getElem?_cons_zero]); rfl) (by kernel_rfl) (by kernel_rfl) (by kernel_rfl) (by exact fun _ _ _ h => h) (Or.inl ⟨by rfl, ?_⟩) (by assumption) ?_
              rotate_left 1
              · (intro w hSw; (try dsimp only at hSw); go_simp) <;> with_reducible rfl
              (try simp only [Act.put, List.setIfInBounds_toArray, List.set_cons_zero, List.set_cons_succ])
              refine wpAnyH_take (i := 1) (v := ?_) (by (simp only [List.getElem?_toArray, List.getElem?_cons_succ, List.getElem?_cons_zero]); rfl) (by kernel_rfl) (by kernel_rfl) (by kernel_rfl) (by exact fun _ _ _ h => h) (Or.inl ⟨by rfl, ?_⟩) (by assumption) ?_
              rotate_left 1
              · (intro w hSw; (try dsimp only at hSw); go_simp) <;> with_reducible rfl
              (try simp only [Act.put, List.setIfInBounds_toArray, List.set_cons_zero, List.set_cons_succ])
              refine wpAnyH_take (i := 2) (v := ?_) (by (simp only [List.getElem?_toArray, List.getElem?_cons_succ, List.getElem?_cons_zero]); rfl) (by kernel_rfl) (by kernel_rfl) (by kernel_rfl) (by exact fun _ _ _ h => h) (Or.inl ⟨by rfl, ?_⟩) (by assumption) ?_
              rotate_left 1
              · (intro w hSw; (try dsimp only at hSw); go_simp) <;> with_reducible rfl
              (try simp only [Act.put, List.setIfInBounds_toArray, List.set_cons_zero, List.set_cons_succ])
              refine wpAnyH_take (i := 3) (v := ?_) (by (simp only [List.getElem?_toArray, List.getElem?_cons_succ, List.getElem?_cons_zero]); rfl) (by kernel_rfl) (by kernel_rfl) (by kernel_rfl) (by exact fun _ _ _ h => h) (Or.inl ⟨by rfl, ?_⟩) (by assumption) ?_
              rotate_left 1
              · (intro w hSw; (try dsimp only at hSw); go_simp) <;> with_reducible rfl
              (try simp only [Act.put, List.setIfInBounds_toArray, List.set_cons_zero, List.set_cons_succ])
              refine wpAnyH_take (i := 4) (v := ?_) (by (simp only [List.getElem?_toArray, List.getElem?_cons_succ, List.getElem?_cons_zero]); rfl) (by kernel_rfl) (by kernel_rfl) (by kernel_rfl) (by exact fun _ _ _ h => h) (Or.inl ⟨by rfl, ?_⟩) (by assumption) ?_
              rotate_left 1
              · (intro w hSw; (try dsimp only at hSw); go_simp) <;> with_reducible rfl
              (try simp only [Act.put, List.setIfInBounds_toArray, List.set_cons_zero, List.set_cons_succ])
              refine wpAnyH_take (i := 6) (v := ?_) (by (simp only [List.getElem?_toArray, List.getElem?_cons_succ, List.getElem?_cons_zero]); rfl) (by kernel_rfl) (by kernel_rfl) (by kernel_rfl) (by exact fun _ _ _ h => h) (Or.inl ⟨by rfl, ?_⟩) (by assumption) ?_
              rotate_left 1
              · (intro w hSw; (try dsimp only at hSw); go_simp) <;> with_reducible rfl
              (try simp only [Act.put, List.setIfInBounds_toArray, List.set_cons_zero, List.set_cons_succ])
              refine wpAnyH_take (i := 7) (v := ?_) (by (simp only [List.getElem?_toArray, List.getElem?_cons_succ, List.getElem?_cons_zero]); rfl) (by kernel_rfl) (by kernel_rfl) (by kernel_rfl) (by exact fun _ _ _ h => h) (Or.inl ⟨by rfl, ?_⟩) (by assumption) ?_
              rotate_left 1
              · (intro w hSw; (try dsimp only at hSw); go_simp) <;> with_reducible rfl
              (try simp only [Act.put, List.setIfInBounds_toArray, List.set_cons_zero, List.set_cons_succ])
              refine wpAnyH_take (i := 8) (v := ?_) (by (simp only [List.getElem?_toArray, List.getElem?_cons_succ, List.getElem?_cons_zero]); rfl) (by kernel_rfl) (by kernel_rfl) (by kernel_rfl) (by exact fun _ _ _ h => h) (Or.inl ⟨by rfl, ?_⟩) (by assumption) ?_
              rotate_left 1
              · (intro w hSw; (try dsimp only at hSw); go_simp) <;> with_reducible rfl
              (try simp only [Act.put, List.setIfInBounds_toArray, List.set_cons_zero, List.set_cons_succ])
              refine wpAnyH_take (i := 9) (v := ?_) (by (simp only [List.getElem?_toArray, List.getElem?_cons_succ, List.getElem?_cons_zero]); rfl) (by kernel_rfl) (by kernel_rfl) (by kernel_rfl) (by exact fun _ _ _ h => h) (Or.inl ⟨by rfl, ?_⟩) (by assumption) ?_
              rotate_left 1
              · (intro w hSw; (try dsimp only at hSw); go_simp) <;> with_reducible rfl
              (try simp only [Act.put, List.setIfInBounds_toArray, List.set_cons_zero, List.set_cons_succ])
              refine wpAnyH_take (i := 10) (v := ?_) (by (simp only [List.getElem?_toArray, List.getElem?_cons_succ, List.getElem?_cons_zero]); rfl) (by kernel_rfl) (by kernel_rfl) (by kernel_rfl) (by exact fun _ _ _ h => h) (Or.inl ⟨by rfl, ?_⟩) (by assumption) ?_
              rotate_left 1
              · (intro w hSw; (try dsimp only at hSw); go_simp) <;> with_reducible rfl
              (try simp only [Act.put, List.setIfInBounds_toArray, List.set_cons_zero, List.set_cons_succ])
              refine wpAnyH_ready (rs := [5]) (by kernel_rfl) (by simp) ?_
              refine AllReadyH.cons (o := _) (by (simp only [List.getElem?_toArray, List.getElem?_cons_succ, List.getElem?_cons_zero]); rfl) (fun K hK => ?_) AllReadyH.nil
              go_simp
              go_at_call 43
              refine (DT.out _).mono ?_
              rintro e u1 ⟨rfl, hb1⟩
              have P1 : KW p px py u1 := (by repeat (first | assumption | with_reducible refine KW.drew ?_ | with_reducible refine KW.call ?_ (by assumption) | with_reducible refine Kt.drew ?_ | with_reducible refine Kt.call ?_ (by assumption) | with_reducible refine IRow.call ?_ (Below.drew (Below.refl _ _)) | with_reducible refine IRow.call ?_ (by assumption)))
              have Q1 : KW (p + 1) bx bz u1 := (by repeat (first | assumption | with_reducible refine KW.drew ?_ | with_reducible refine KW.call ?_ (by assumption) | with_reducible refine Kt.drew ?_ | with_reducible refine Kt.call ?_ (by assumption) | with_reducible refine IRow.call ?_ (Below.drew (Below.refl _ _)) | with_reducible refine IRow.call ?_ (by assumption)))
              have K1 : Kt q A B C u1 := (by repeat (first | assumption | with_reducible refine KW.drew ?_ | with_reducible refine KW.call ?_ (by assumption) | with_reducible refine Kt.drew ?_ | with_reducible refine Kt.call ?_ (by assumption) | with_reducible refine IRow.call ?_ (Below.drew (Below.refl _ _)) | with_reducible refine IRow.call ?_ (by assumption)))
              have U1 : KW (q + 1) 0 0 u1 := (by repeat (first | assumption | with_reducible refine KW.drew ?_ | with_reducible refine KW.call ?_ (by assumption) | with_reducible refine Kt.drew ?_ | with_reducible refine Kt.call ?_ (by assumption) | with_reducible refine IRow.call ?_ (Below.drew (Below.refl _ _)) | with_reducible refine IRow.call ?_ (by assumption)))
              have V1 : KW (q + 1 + 1) 0 0 u1 := (by repeat (first | assumption | with_reducible refine KW.drew ?_ | with_reducible refine KW.call ?_ (by assumption) | with_reducible refine Kt.drew ?_ | with_reducible refine Kt.call ?_ (by assumption) | with_reducible refine IRow.call ?_ (Below.drew (Below.refl _ _)) | with_reducible refine IRow.call ?_ (by assumption)))
              have R1 : IRow g (NL.length * 2) (intAt (cells2 NL)) u1 := (by repeat (first | assumption | with_reducible refine KW.drew ?_ | with_reducible refine KW.call ?_ (by assumption) | with_reducible refine Kt.drew ?_ | with_reducible refine Kt.call ?_ (by assumption) | with_reducible refine IRow.call ?_ (Below.drew (Below.refl _ _)) | with_reducible refine IRow.call ?_ (by assumption)))
              have B1 : Below w.heap.size w u1 := (by repeat (first | assumption | with_reducible refine Below.drew ?_ | with_reducible refine bstep ?_ (by assumption)))
              have X1 : u1.cell? ⟨g, k * 2, none⟩ = some (.int .i64 x) ∧ u1.cell? ⟨g, k * 2 + 1, none⟩ = some (.int .i64 y) := (by rw [← HX1.out, ← HX2.out]; exact ⟨R1.at _ HKB.out.1, R1.at _ HKB.out.2⟩)
              clear hb1
              go_wp2_with fail
              refine hK.out _ _ ?_ (fun hHeld => ?_)
              · (try dsimp only)
                exact ⟨P1.pair, Q1.pair, K1.cells, X1⟩
              clear hK K
              (try simp only [Act.put, List.setIfInBounds_toArray, List.set_cons_zero, List.set_cons_succ])
              refine wpAnyH_take (i := 11) (v := ?_) (by (simp only [List.getElem?_toArray, List.getElem?_cons_succ, List.getElem?_cons_zero]); rfl) (by kernel_rfl) (by kernel_rfl) (by kernel_rfl) (by exact fun _ _ _ h => h) (Or.inl ⟨by rfl, ?_⟩) (by assumption) ?_
              rotate_left 1
              · (intro w hSw; (try dsimp only at hSw); go_simp) <;> with_reducible rfl
              (try simp only [Act.put, List.setIfInBounds_toArray, List.set_cons_zero, List.set_cons_succ])
              refine wpAnyH_take (i := 12) (v := ?_) (by (simp only [List.getElem?_toArray, List.getElem?_cons_succ, List.getElem?_cons_zero]); rfl) (by kernel_rfl) (by kernel_rfl) (by kernel_rfl) (by exact fun _ _ _ h => h) (Or.inl ⟨by rfl, ?_⟩) (by assumption) ?_
              rotate_left 1
              · (intro w hSw; (try dsimp only at hSw); go_simp) <;> with_reducible rfl
              (try simp only [Act.put, List.setIfInBounds_toArray, List.set_cons_zero, List.set_cons_succ])
              refine wpAnyH_take (i := 13) (v := ?_) (by (simp only [List.getElem?_toArray, List.getElem?_cons_succ, List.getElem?_cons_zero]); rfl) (by kernel_rfl) (by kernel_rfl) (by kernel_rfl) (by exact fun _ _ _ h => h) (Or.inl ⟨by rfl, ?_⟩) (by assumption) ?_
              rotate_left 1
              · (intro w hSw; (try dsimp only at hSw); go_simp) <;> with_reducible rfl
              (try simp only [Act.put, List.setIfInBounds_toArray, List.set_cons_zero, List.set_cons_succ])
              refine wpAnyH_take (i := 14) (v := ?_) (by (simp only [List.getElem?_toArray, List.getElem?_cons_succ, List.getElem?_cons_zero]); rfl) (by kernel_rfl) (by kernel_rfl) (by kernel_rfl) (by exact fun _ _ _ h => h) (Or.inl ⟨by rfl, ?_⟩) (by assumption) ?_
              rotate_left 1
              · (intro w hSw; (try dsimp only at hSw); go_simp) <;> with_reducible rfl
              (try simp only [Act.put, List.setIfInBounds_toArray, List.set_cons_zero, List.set_cons_succ])
              refine wpAnyH_take (i := 15) (v := ?_) (by (simp only [List.getElem?_toArray, List.getElem?_cons_succ, List.getElem?_cons_zero]); rfl) (by kernel_rfl) (by kernel_rfl) (by kernel_rfl) (by exact fun _ _ _ h => h) (Or.inl ⟨by rfl, ?_⟩) (by assumption) ?_
              rotate_left 1
              · (intro w hSw; (try dsimp only at hSw); go_simp) <;> with_reducible rfl
              (try simp only [Act.put, List.setIfInBounds_toArray, List.set_cons_zero, List.set_cons_succ])
              refine wpAnyH_take (i := 16) (v := ?_) (by (simp only [List.getElem?_toArray, List.getElem?_cons_succ, List.getElem?_cons_zero]); rfl) (by kernel_rfl) (by kernel_rfl) (by kernel_rfl) (by exact fun _ _ _ h => h) (Or.inl ⟨by rfl, ?_⟩) (by assumption) ?_
              rotate_left 1
              · (intro w hSw; (try dsimp only at hSw); go_simp) <;> with_reducible rfl
              (try simp only [Act.put, List.setIfInBounds_toArray, List.set_cons_zero, List.set_cons_succ])
              refine wpAnyH_take (i := 17) (v := ?_) (by (simp only [List.getElem?_toArray, List.getElem?_cons_succ, List.getElem?_cons_zero]); rfl) (by kernel_rfl) (by kernel_rfl) (by kernel_rfl) (by exact fun _ _ _ h => h) (Or.inl ⟨by rfl, ?_⟩) (by assumption) ?_
              rotate_left 1
              · (intro w hSw; (try dsimp only at hSw); go_simp) <;> with_reducible rfl
              (try simp only [Act.put, List.setIfInBounds_toArray, List.set_cons_zero, List.set_cons_succ])
              refine wpAnyH_ready (rs := [18]) (by kernel_rfl) (by simp) ?_
              refine AllReadyH.cons (o := _) (by (simp only [List.getElem?_toArray, List.getElem?_cons_succ, List.getElem?_cons_zero]); rfl) (fun K hK => ?_) AllReadyH.nil
              go_simp
              go_at_call 44
              refine (HS.out _).mono ?_
              rintro e u2 ⟨rfl, hb2⟩
              have P2 : KW p px py u2 := (by repeat (first | assumption | with_reducible refine KW.drew ?_ | with_reducible refine KW.call ?_ (by assumption) | with_reducible refine Kt.drew ?_ | with_reducible refine Kt.call ?_ (by assumption) | with_reducible refine IRow.call ?_ (Below.drew (Below.refl _ _)) | with_reducible refine IRow.call ?_ (by assumption)))
              have Q2 : KW (p + 1) bx bz u2 := (by repeat (first | assumption | with_reducible refine KW.drew ?_ | with_reducible refine KW.call ?_ (by assumption) | with_reducible refine Kt.drew ?_ | with_reducible refine Kt.call ?_ (by assumption) | with_reducible refine IRow.call ?_ (Below.drew (Below.refl _ _)) | with_reducible refine IRow.call ?_ (by assumption)))
              have K2 : Kt q A B C u2 := (by repeat (first | assumption | with_reducible refine KW.drew ?_ | with_reducible refine KW.call ?_ (by assumption) | with_reducible refine Kt.drew ?_ | with_reducible refine Kt.call ?_ (by assumption) | with_reducible refine IRow.call ?_ (Below.drew (Below.refl _ _)) | with_reducible refine IRow.call ?_ (by assumption)))
              have U2 : KW (q + 1) 0 0 u2 := (by repeat (first | assumption | with_reducible refine KW.drew ?_ | with_reducible refine KW.call ?_ (by assumption) | with_reducible refine Kt.drew ?_ | with_reducible refine Kt.call ?_ (by assumption) | with_reducible refine IRow.call ?_ (Below.drew (Below.refl _ _)) | with_reducible refine IRow.call ?_ (by assumption)))
              have V2 : KW (q + 1 + 1) 0 0 u2 := (by repeat (first | assumption | with_reducible refine KW.drew ?_ | with_reducible refine KW.call ?_ (by assumption) | with_reducible refine Kt.drew ?_ | with_reducible refine Kt.call ?_ (by assumption) | with_reducible refine IRow.call ?_ (Below.drew (Below.refl _ _)) | with_reducible refine IRow.call ?_ (by assumption)))
              have R2 : IRow g (NL.length * 2) (intAt (cells2 NL)) u2 := (by repeat (first | assumption | with_reducible refine KW.drew ?_ | with_reducible refine KW.call ?_ (by assumption) | with_reducible refine Kt.drew ?_ | with_reducible refine Kt.call ?_ (by assumption) | with_reducible refine IRow.call ?_ (Below.drew (Below.refl _ _)) | with_reducible refine IRow.call ?_ (by assumption)))
              have B2 : Below w.heap.size w u2 := (by repeat (first | assumption | with_reducible refine Below.drew ?_ | with_reducible refine bstep ?_ (by assumption)))
              have X2 : u2.cell? ⟨g, k * 2, none⟩ = some (.int .i64 x) ∧ u2.cell? ⟨g, k * 2 + 1, none⟩ = some (.int .i64 y) := (by rw [← HX1.out, ← HX2.out]; exact ⟨R2.at _ HKB.out.1, R2.at _ HKB.out.2⟩)
              clear hb2
              go_wp2_with fail
              refine hK.out _ _ ?_ (fun hHeld => ?_)
              · (try dsimp only)
                exact ⟨P2.pair, Q2.pair, K2.cells, X2⟩
              clear hK K
              (try simp only [Act.put, List.setIfInBounds_toArray, List.set_cons_zero, List.set_cons_succ])
              refine wpAnyH_take (i := 19) (v := ?_) (by (simp only [List.getElem?_toArray, List.getElem?_cons_succ, List.getElem?_cons_zero]); rfl) (by kernel_rfl) (by kernel_rfl) (by kernel_rfl) (by exact fun _ _ _ h => h) (Or.inl ⟨by rfl, ?_⟩) (by assumption) ?_
              rotate_left 1
              · (intro w hSw; (try dsimp only at hSw); go_simp) <;> with_reducible rfl
              (try simp only [Act.put, List.setIfInBounds_toArray, List.set_cons_zero, List.set_cons_succ])
              refine wpAnyH_take (i := 20) (v := ?_) (by (simp only [List.getElem?_toArray, List.getElem?_cons_succ, List.getElem?_cons_zero]); rfl) (by kernel_rfl) (by kernel_rfl) (by kernel_rfl) (by exact fun _ _ _ h => h) (Or.inl ⟨by rfl, ?_⟩) (by assumption) ?_
              rotate_left 1
              · (intro w hSw; (try dsimp only at hSw); go_simp) <;> with_reducible rfl
              (try simp only [Act.put, List.setIfInBounds_toArray, List.set_cons_zero, List.set_cons_succ])
              refine wpAnyH_take (i := 21) (v := ?_) (by (simp only [List.getElem?_toArray, List.getElem?_cons_succ, List.getElem?_cons_zero]); rfl) (by kernel_rfl) (by kernel_rfl) (by kernel_rfl) (by exact fun _ _ _ h => h) (Or.inl ⟨by rfl, ?_⟩) (by assumption) ?_
              rotate_left 1
              · (intro w hSw; (try dsimp only at hSw); go_simp) <;> with_reducible rfl
              (try simp only [Act.put, List.setIfInBounds_toArray, List.set_cons_zero, List.set_cons_succ])
              refine wpAnyH_take (i := 22) (v := ?_) (by (simp only [List.getElem?_toArray, List.getElem?_cons_succ, List.getElem?_cons_zero]); rfl) (by kernel_rfl) (by kernel_rfl) (by kernel_rfl) (by exact fun _ _ _ h => h) (Or.inl ⟨by rfl, ?_⟩) (by assumption) ?_
              rotate_left 1
              · (intro w hSw; (try dsimp only at hSw); go_simp) <;> with_reducible rfl
              (try simp only [Act.put, List.setIfInBounds_toArray, List.set_cons_zero, List.set_cons_succ])
              refine wpAnyH_take (i := 23) (v := ?_) (by (simp only [List.getElem?_toArray, List.getElem?_cons_succ, List.getElem?_cons_zero]); rfl) (by kernel_rfl) (by kernel_rfl) (by kernel_rfl) (by exact fun _ _ _ h => h) (Or.inl ⟨by rfl, ?_⟩) (by assumption) ?_
              rotate_left 1
              · (intro w hSw; (try dsimp only at hSw); go_simp) <;> with_reducible rfl
              (try simp only [Act.put, List.setIfInBounds_toArray, List.set_cons_zero, List.set_cons_succ])
              refine wpAnyH_take (i := 24) (v := ?_) (by (simp only [List.getElem?_toArray, List.getElem?_cons_succ, List.getElem?_cons_zero]); rfl) (by kernel_rfl) (by kernel_rfl) (by kernel_rfl) (by exact fun _ _ _ h => h) (Or.inl ⟨by rfl, ?_⟩) (by assumption) ?_
              rotate_left 1
              · (intro w hSw; (try dsimp only at hSw); go_simp) <;> with_reducible rfl
              (try simp only [Act.put, List.setIfInBounds_toArray, List.set_cons_zero, List.set_cons_succ])
              refine wpAnyH_take (i := 25) (v := ?_) (by (simp only [List.getElem?_toArray, List.getElem?_cons_succ, List.getElem?_cons_zero]); rfl) (by kernel_rfl) (by kernel_rfl) (by kernel_rfl) (by exact fun _ _ _ h => h) (Or.inl ⟨by rfl, ?_⟩) (by assumption) ?_
              rotate_left 1
              · (intro w hSw; (try dsimp only at hSw); go_simp) <;> with_reducible rfl
              (try simp only [Act.put, List.setIfInBounds_toArray, List.set_cons_zero, List.set_cons_succ])
              refine wpAnyH_take (i := 26) (v := ?_) (by (simp only [List.getElem?_toArray, List.getElem?_cons_succ, List.getElem?_cons_zero]); rfl) (by kernel_rfl) (by kernel_rfl) (by kernel_rfl) (by exact fun _ _ _ h => h) (Or.inl ⟨by rfl, ?_⟩) (by assumption) ?_
              rotate_left 1
              · (intro w hSw; (try dsimp only at hSw); go_simp) <;> with_reducible rfl
              (try simp only [Act.put, List.setIfInBounds_toArray, List.set_cons_zero, List.set_cons_succ])
              refine wpAnyH_take (i := 27) (v := ?_) (by (simp only [List.getElem?_toArray, List.getElem?_cons_succ, List.getElem?_cons_zero]); rfl) (by kernel_rfl) (by kernel_rfl) (by kernel_rfl) (by exact fun _ _ _ h => h) (Or.inl ⟨by rfl, ?_⟩) (by assumption) ?_
              rotate_left 1
              · (intro w hSw; (try dsimp only at hSw); go_simp) <;> with_reducible rfl
              (try simp only [Act.put, List.setIfInBounds_toArray, List.set_cons_zero, List.set_cons_succ])
              refine wpAnyH_take (i := 28) (v := ?_) (by (simp only [List.getElem?_toArray, List.getElem?_cons_succ, List.getElem?_cons_zero]); rfl) (by kernel_rfl) (by kernel_rfl) (by kernel_rfl) (by exact fun _ _ _ h => h) (Or.inl ⟨by rfl, ?_⟩) (by assumption) ?_
              rotate_left 1
              · (intro w hSw; (try dsimp only at hSw); go_simp) <;> with_reducible rfl
              (try simp only [Act.put, List.setIfInBounds_toArray, List.set_cons_zero, List.set_cons_succ])
              refine wpAnyH_take (i := 30) (v := ?_) (by (simp only [List.getElem?_toArray, List.getElem?_cons_succ, List.getElem?_cons_zero]); rfl) (by kernel_rfl) (by kernel_rfl) (by kernel_rfl) (by exact fun _ _ _ h => h) (Or.inl ⟨by rfl, ?_⟩) (by assumption) ?_
              rotate_left 1
              · (intro w hSw; (try dsimp only at hSw); go_simp) <;> with_reducible rfl
              (try simp only [Act.put, List.setIfInBounds_toArray, List.set_cons_zero, List.set_cons_succ])
              refine wpAnyH_take (i := 31) (v := ?_) (by (simp only [List.getElem?_toArray, List.getElem?_cons_succ, List.getElem?_cons_zero]); rfl) (by kernel_rfl) (by kernel_rfl) (by kernel_rfl) (by exact fun _ _ _ h => h) (Or.inl ⟨by rfl, ?_⟩) (by assumption) ?_
              rotate_left 1
              · (intro w hSw; (try dsimp only at hSw); go_simp) <;> with_reducible rfl
              (try simp only [Act.put, List.setIfInBounds_toArray, List.set_cons_zero, List.set_cons_succ])
              refine wpAnyH_ready (rs := [29]) (by kernel_rfl) (by simp) ?_
              refine AllReadyH.cons (o := _) (by (simp only [List.getElem?_toArray, List.getElem?_cons_succ, List.getElem?_cons_zero]); rfl) (fun K hK => ?_) AllReadyH.nil
              go_simp
              go_at_call 45
              refine (NV.out _).mono ?_
              rintro e u3 ⟨rfl, hb3⟩
              have P3 : KW p px py u3 := (by repeat (first | assumption | with_reducible refine KW.drew ?_ | with_reducible refine KW.call ?_ (by assumption) | with_reducible refine Kt.drew ?_ | with_reducible refine Kt.call ?_ (by assumption) | with_reducible refine IRow.call ?_ (Below.drew (Below.refl _ _)) | with_reducible refine IRow.call ?_ (by assumption)))
              have Q3 : KW (p + 1) bx bz u3 := (by repeat (first | assumption | with_reducible refine KW.drew ?_ | with_reducible refine KW.call ?_ (by assumption) | with_reducible refine Kt.drew ?_ | with_reducible refine Kt.call ?_ (by assumption) | with_reducible refine IRow.call ?_ (Below.drew (Below.refl _ _)) | with_reducible refine IRow.call ?_ (by assumption)))
              have K3 : Kt q A B C u3 := (by repeat (first | assumption | with_reducible refine KW.drew ?_ | with_reducible refine KW.call ?_ (by assumption) | with_reducible refine Kt.drew ?_ | with_reducible refine Kt.call ?_ (by assumption) | with_reducible refine IRow.call ?_ (Below.drew (Below.refl _ _)) | with_reducible refine IRow.call ?_ (by assumption)))
              have U3 : KW (q + 1) 0 0 u3 := (by repeat (first | assumption | with_reducible refine KW.drew ?_ | with_reducible refine KW.call ?_ (by assumption) | with_reducible refine Kt.drew ?_ | with_reducible refine Kt.call ?_ (by assumption) | with_reducible refine IRow.call ?_ (Below.drew (Below.refl _ _)) | with_reducible refine IRow.call ?_ (by assumption)))
              have V3 : KW (q + 1 + 1) 0 0 u3 := (by repeat (first | assumption | with_reducible refine KW.drew ?_ | with_reducible refine KW.call ?_ (by assumption) | with_reducible refine Kt.drew ?_ | with_reducible refine Kt.call ?_ (by assumption) | with_reducible refine IRow.call ?_ (Below.drew (Below.refl _ _)) | with_reducible refine IRow.call ?_ (by assumption)))
              have R3 : IRow g (NL.length * 2) (intAt (cells2 NL)) u3 := (by repeat (first | assumption | with_reducible refine KW.drew ?_ | with_reducible refine KW.call ?_ (by assumption) | with_reducible refine Kt.drew ?_ | with_reducible refine Kt.call ?_ (by assumption) | with_reducible refine IRow.call ?_ (Below.drew (Below.refl _ _)) | with_reducible refine IRow.call ?_ (by assumption)))
              have B3 : Below w.heap.size w u3 := (by repeat (first | assumption | with_reducible refine Below.drew ?_ | with_reducible refine bstep ?_ (by assumption)))
              have X3 : u3.cell? ⟨g, k * 2, none⟩ = some (.int .i64 x) ∧ u3.cell? ⟨g, k * 2 + 1, none⟩ = some (.int .i64 y) := (by rw [← HX1.out, ← HX2.out]; exact ⟨R3.at _ HKB.out.1, R3.at _ HKB.out.2⟩)
              clear hb3
              go_wp2_with fail
              refine hK.out _ _ ?_ (fun hHeld => ?_)
              · (try dsimp only)
                exact ⟨P3.pair, Q3.pair, K3.cells, X3⟩
              clear hK K
              (try simp only [Act.put, List.setIfInBounds_toArray, List.set_cons_zero, List.set_cons_succ])
              refine wpAnyH_ready (rs := [32]) (by kernel_rfl) (by simp) ?_
              refine AllReadyH.cons (o := _) (by (simp only [List.getElem?_toArray, List.getElem?_cons_succ, List.getElem?_cons_zero]); rfl) (fun K hK => ?_) AllReadyH.nil
              go_simp
              go_at_call 45
              refine (NB.out _).mono ?_
              rintro e u4 ⟨rfl, hb4⟩
              have P4 : KW p px py u4 := (by repeat (first | assumption | with_reducible refine KW.drew ?_ | with_reducible refine KW.call ?_ (by assumption) | with_reducible refine Kt.drew ?_ | with_reducible refine Kt.call ?_ (by assumption) | with_reducible refine IRow.call ?_ (Below.drew (Below.refl _ _)) | with_reducible refine IRow.call ?_ (by assumption)))
              have Q4 : KW (p + 1) bx bz u4 := (by repeat (first | assumption | with_reducible refine KW.drew ?_ | with_reducible refine KW.call ?_ (by assumption) | with_reducible refine Kt.drew ?_ | with_reducible refine Kt.call ?_ (by assumption) | with_reducible refine IRow.call ?_ (Below.drew (Below.refl _ _)) | with_reducible refine IRow.call ?_ (by assumption)))
              have K4 : Kt q A B C u4 := (by repeat (first | assumption | with_reducible refine KW.drew ?_ | with_reducible refine KW.call ?_ (by assumption) | with_reducible refine Kt.drew ?_ | with_reducible refine Kt.call ?_ (by assumption) | with_reducible refine IRow.call ?_ (Below.drew (Below.refl _ _)) | with_reducible refine IRow.call ?_ (by assumption)))
              have U4 : KW (q + 1) 0 0 u4 := (by repeat (first | assumption | with_reducible refine KW.drew ?_ | with_reducible refine KW.call ?_ (by assumption) | with_reducible refine Kt.drew ?_ | with_reducible refine Kt.call ?_ (by assumption) | with_reducible refine IRow.call ?_ (Below.drew (Below.refl _ _)) | with_reducible refine IRow.call ?_ (by assumption)))
              have V4 : KW (q + 1 + 1) 0 0 u4 := (by repeat (first | assumption | with_reducible refine KW.drew ?_ | with_reducible refine KW.call ?_ (by assumption) | with_reducible refine Kt.drew ?_ | with_reducible refine Kt.call ?_ (by assumption) | with_reducible refine IRow.call ?_ (Below.drew (Below.refl _ _)) | with_reducible refine IRow.call ?_ (by assumption)))
              have R4 : IRow g (NL.length * 2) (intAt (cells2 NL)) u4 := (by repeat (first | assumption | with_reducible refine KW.drew ?_ | with_reducible refine KW.call ?_ (by assumption) | with_reducible refine Kt.drew ?_ | with_reducible refine Kt.call ?_ (by assumption) | with_reducible refine IRow.call ?_ (Below.drew (Below.refl _ _)) | with_reducible refine IRow.call ?_ (by assumption)))
              have B4 : Below w.heap.size w u4 := (by repeat (first | assumption | with_reducible refine Below.drew ?_ | with_reducible refine bstep ?_ (by assumption)))
              have X4 : u4.cell? ⟨g, k * 2, none⟩ = some (.int .i64 x) ∧ u4.cell? ⟨g, k * 2 + 1, none⟩ = some (.int .i64 y) := (by rw [← HX1.out, ← HX2.out]; exact ⟨R4.at _ HKB.out.1, R4.at _ HKB.out.2⟩)
              clear hb4
              go_wp2_with fail
              refine hK.out _ _ ?_ (fun hHeld => ?_)
              · (try dsimp only)
                exact ⟨P4.pair, Q4.pair, K4.cells, X4⟩
              clear hK K
              (try simp only [Act.put, List.setIfInBounds_toArray, List.set_cons_zero, List.set_cons_succ])
              refine wpAnyH_take (i := 33) (v := ?_) (by (simp only [List.getElem?_toArray, List.getElem?_cons_succ, List.getElem?_cons_zero]); rfl) (by kernel_rfl) (by kernel_rfl) (by kernel_rfl) (by exact fun _ _ _ h => h) (Or.inl ⟨by rfl, ?_⟩) (by assumption) ?_
              rotate_left 1
              · (intro w hSw; (try dsimp only at hSw); go_simp) <;> with_reducible rfl
              (try simp only [Act.put, List.setIfInBounds_toArray, List.set_cons_zero, List.set_cons_succ])
              refine wpAnyH_take (i := 34) (v := ?_) (by (simp only [List.getElem?_toArray, List.getElem?_cons_succ, List.getElem?_cons_zero]); rfl) (by kernel_rfl) (by kernel_rfl) (by kernel_rfl) (by exact fun _ _ _ h => h) (Or.inl ⟨by rfl, ?_⟩) (by assumption) ?_
              rotate_left 1
              · (intro w hSw; (try dsimp only at hSw); go_simp) <;> with_reducible rfl
              (try simp only [Act.put, List.setIfInBounds_toArray, List.set_cons_zero, List.set_cons_succ])
              refine wpAnyH_take (i := 35) (v := ?_) (by (simp only [List.getElem?_toArray, List.getElem?_cons_succ, List.getElem?_cons_zero]); rfl) (by kernel_rfl) (by kernel_rfl) (by kernel_rfl) (by exact fun _ _ _ h => h) (Or.inl ⟨by rfl, ?_⟩) (by assumption) ?_
              rotate_left 1
              · (intro w hSw; (try dsimp only at hSw); go_simp) <;> with_reducible rfl
              (try simp only [Act.put, List.setIfInBounds_toArray, List.set_cons_zero, List.set_cons_succ])
              refine wpAnyH_done (by kernel_rfl) ?_ _
              obtain ⟨s0, s1, s2, s3, s4⟩ := id Q4
              obtain ⟨x0, x1⟩ := id X4
              go_wp2
              have hk1 := HK.out
              go_roundw
              case rel => exact ⟨k + 1, by go_num, by omega, by rw [HST.out]; rfl, by rw [HST.out]; exact Q4.store x y, KW.far (by dsimp only; omega) (KW.far (by dsimp only; omega) P4), KtFar (by dsimp only; omega) (KtFar (by dsimp only; omega) K4), KW.far (by dsimp only; omega) (KW.far (by dsimp only; omega) U4), KW.far (by dsimp only; omega) (KW.far (by dsimp only; omega) V4), IRow.far2 (by dsimp only; omega) (IRow.far2 (by dsimp only; omega) R4), Below.setCell (p := ⟨p + 1, 1, none⟩) (Below.setCell (p := ⟨p + 1, 0, none⟩) B4 (by dsimp only; omega) _) (by dsimp only; omega) _⟩
              case measure => first | (simp [intOf]; done) | (simp [intOf]; omega)
            · have HST := Lib.hid (HST0.trans (by rw [hst, step_old (b := (bx, bz)) hbc (show ¬ nrmV f (x, y) ≤ nrmV f (bx, bz) from c4)]))
              have c4b : decide (nrmI f x y ≤ nrmI f bx bz) = false := decide_eq_false c4
              clear HST0 HBC HMb hb c1c hst hbc HMbb
              generalize px * y - py * x = dv at *
              generalize nrmI f x y = nv at *
              generalize nrmI f bx bz = nb at *
              go_wp2_with fail
              refine wp_region_held_drew (S := (fun W => (W.cell? ⟨p, 0, none⟩ = some (.int .i64 px) ∧ W.cell? ⟨p, 1, none⟩ = some (.int .i64 py)) ∧ (W.cell? ⟨p + 1, 0, none⟩ = some (.int .i64 bx) ∧ W.cell? ⟨p + 1, 1, none⟩ = some (.int .i64 bz)) ∧ (W.cell? ⟨q, 0, none⟩ = some (.int .i64 A) ∧ W.cell? ⟨q, 1, none⟩ = some (.int .i64 B) ∧ W.cell? ⟨q, 2, none⟩ = some (.int .i64 C)) ∧ (W.cell? ⟨g, k * 2, none⟩ = some (.int .i64 x) ∧ W.cell? ⟨g, k * 2 + 1, none⟩ = some (.int .i64 y)))) (by kernel_rfl) ?_ (fun hHeld => ?_)
              · exact ⟨P0.pair, Q0.pair, K0.cells, X0⟩
              refine wpAnyH_take (i := 0) (v := ?_) (by (simp only [List.getElem?_toArray, List.getElem?_cons_succ, List.getElem?_cons_zero]); rfl) (by kernel_rfl) (by kernel_rfl) (by kernel_rfl) (by exact fun _ _ _ h => h) (Or.inl ⟨by rfl, ?_⟩) (by assumption) ?_
              rotate_left 1
              · (intro w hSw; (try dsimp only at hSw); go_simp) <;> with_reducible rfl
              (try simp only [Act.put, List.setIfInBounds_toArray, List.set_cons_zero, List.set_cons_succ])
              refine wpAnyH_take (i := 1) (v := ?_) (by (simp only [List.getElem?_toArray, List.getElem?_cons_succ, List.getElem?_cons_zero]); rfl) (by kernel_rfl) (by kernel_rfl) (by kernel_rfl) (by exact fun _ _ _ h => h) (Or.inl ⟨by rfl, ?_⟩) (by assumption) ?_
              rotate_left 1
              · (intro w hSw; (try dsimp only at hSw); go_simp) <;> with_reducible rfl
              (try simp only [Act.put, List.setIfInBounds_toArray, List.set_cons_zero, List.set_cons_succ])
              refine wpAnyH_take (i := 2) (v := ?_) (by (simp only [List.getElem?_toArray, List.getElem?_cons_succ, List.getElem?_cons_zero]); rfl) (by kernel_rfl) (by kernel_rfl) (by kernel_rfl) (by exact fun _ _ _ h => h) (Or.inl ⟨by rfl, ?_⟩) (by assumption) ?_
              rotate_left 1
              · (intro w hSw; (try dsimp only at hSw); go_simp) <;> with_reducible rfl
              (try simp only [Act.put, List.setIfInBounds_toArray, List.set_cons_zero, List.set_cons_succ])
              refine wpAnyH_take (i := 3) (v := ?_) (by (simp only [List.getElem?_toArray, List.getElem?_cons_succ, List.getElem?_cons_zero]); rfl) (by kernel_rfl) (by kernel_rfl) (by kernel_rfl) (by exact fun _ _ _ h => h) (Or.inl ⟨by rfl, ?_⟩) (by assumption) ?_
              rotate_left 1
              · (intro w hSw; (try dsimp only at hSw); go_simp) <;> with_reducible rfl
              (try simp only [Act.put, List.setIfInBounds_toArray, List.set_cons_zero, List.set_cons_succ])
              refine wpAnyH_take (i := 4) (v := ?_) (by (simp only [List.getElem?_toArray, List.getElem?_cons_succ, List.getElem?_cons_zero]); rfl) (by kernel_rfl) (by kernel_rfl) (by kernel_rfl) (by exact fun _ _ _ h => h) (Or.inl ⟨by rfl, ?_⟩) (by assumption) ?_
              rotate_left 1
              · (intro w hSw; (try dsimp only at hSw); go_simp) <;> with_reducible rfl
              (try simp only [Act.put, List.setIfInBounds_toArray, List.set_cons_zero, List.set_cons_succ])
              refine wpAnyH_take (i := 6) (v := ?_) (by (simp only [List.getElem?_toArray, List.getElem?_cons_succ, List.getElem?_cons_zero]); rfl) (by kernel_rfl) (by kernel_rfl) (by kernel_rfl) (by exact fun _ _ _ h => h) (Or.inl ⟨by rfl, ?_⟩) (by assumption) ?_
              rotate_left 1
              · (intro w hSw; (try dsimp only at hSw); go_simp) <;> with_reducible rfl
              (try simp only [Act.put, List.setIfInBounds_toArray, List.set_cons_zero, List.set_cons_succ])
              refine wpAnyH_take (i := 7) (v := ?_) (by (simp only [List.getElem?_toArray, List.getElem?_cons_succ, List.getElem?_cons_zero]); rfl) (by kernel_rfl) (by kernel_rfl) (by kernel_rfl) (by exact fun _ _ _ h => h) (Or.inl ⟨by rfl, ?_⟩) (by assumption) ?_
              rotate_left 1
              · (intro w hSw; (try dsimp only at hSw); go_simp) <;> with_reducible rfl
              (try simp only [Act.put, List.setIfInBounds_toArray, List.set_cons_zero, List.set_cons_succ])
              refine wpAnyH_take (i := 8) (v := ?_) (by (simp only [List.getElem?_toArray, List.getElem?_cons_succ, List.getElem?_cons_zero]); rfl) (by kernel_rfl) (by kernel_rfl) (by kernel_rfl) (by exact fun _ _ _ h => h) (Or.inl ⟨by rfl, ?_⟩) (by assumption) ?_
              rotate_left 1
              · (intro w hSw; (try dsimp only at hSw); go_simp) <;> with_reducible rfl
              (try simp only [Act.put, List.setIfInBounds_toArray, List.set_cons_zero, List.set_cons_succ])
              refine wpAnyH_take (i := 9) (v := ?_) (by (simp only [List.getElem?_toArray, List.getElem?_cons_succ, List.getElem?_cons_zero]); rfl) (by kernel_rfl) (by kernel_rfl) (by kernel_rfl) (by exact fun _ _ _ h => h) (Or.inl ⟨by rfl, ?_⟩) (by assumption) ?_
              rotate_left 1
              · (intro w hSw; (try dsimp only at hSw); go_simp) <;> with_reducible rfl
              (try simp only [Act.put, List.setIfInBounds_toArray, List.set_cons_zero, List.set_cons_succ])
              refine wpAnyH_take (i := 10) (v := ?_) (by (simp only [List.getElem?_toArray, List.getElem?_cons_succ, List.getElem?_cons_zero]); rfl) (by kernel_rfl) (by kernel_rfl) (by kernel_rfl) (by exact fun _ _ _ h => h) (Or.inl ⟨by rfl, ?_⟩) (by assumption) ?_
              rotate_left 1
              · (intro w hSw; (try dsimp only at hSw); go_simp) <;> with_reducible rfl
              (try simp only [Act.put, List.setIfInBounds_toArray, List.set_cons_zero, List.set_cons_succ])
              refine wpAnyH_ready (rs := [5]) (by kernel_rfl) (by simp) ?_
              refine AllReadyH.cons (o := _) (by (simp only [List.getElem?_toArray, List.getElem?_cons_succ, List.getElem?_cons_zero]); rfl) (fun K hK => ?_) AllReadyH.nil
              go_simp
              go_at_call 43
              refine (DT.out _).mono ?_
              rintro e u1 ⟨rfl, hb1⟩
              have P1 : KW p px py u1 := (by repeat (first | assumption | with_reducible refine KW.drew ?_ | with_reducible refine KW.call ?_ (by assumption) | with_reducible refine Kt.drew ?_ | with_reducible refine Kt.call ?_ (by assumption) | with_reducible refine IRow.call ?_ (Below.drew (Below.refl _ _)) | with_reducible refine IRow.call ?_ (by assumption)))
              have Q1 : KW (p + 1) bx bz u1 := (by repeat (first | assumption | with_reducible refine KW.drew ?_ | with_reducible refine KW.call ?_ (by assumption) | with_reducible refine Kt.drew ?_ | with_reducible refine Kt.call ?_ (by assumption) | with_reducible refine IRow.call ?_ (Below.drew (Below.refl _ _)) | with_reducible refine IRow.call ?_ (by assumption)))
              have K1 : Kt q A B C u1 := (by repeat (first | assumption | with_reducible refine KW.drew ?_ | with_reducible refine KW.call ?_ (by assumption) | with_reducible refine Kt.drew ?_ | with_reducible refine Kt.call ?_ (by assumption) | with_reducible refine IRow.call ?_ (Below.drew (Below.refl _ _)) | with_reducible refine IRow.call ?_ (by assumption)))
              have U1 : KW (q + 1) 0 0 u1 := (by repeat (first | assumption | with_reducible refine KW.drew ?_ | with_reducible refine KW.call ?_ (by assumption) | with_reducible refine Kt.drew ?_ | with_reducible refine Kt.call ?_ (by assumption) | with_reducible refine IRow.call ?_ (Below.drew (Below.refl _ _)) | with_reducible refine IRow.call ?_ (by assumption)))
              have V1 : KW (q + 1 + 1) 0 0 u1 := (by repeat (first | assumption | with_reducible refine KW.drew ?_ | with_reducible refine KW.call ?_ (by assumption) | with_reducible refine Kt.drew ?_ | with_reducible refine Kt.call ?_ (by assumption) | with_reducible refine IRow.call ?_ (Below.drew (Below.refl _ _)) | with_reducible refine IRow.call ?_ (by assumption)))
              have R1 : IRow g (NL.length * 2) (intAt (cells2 NL)) u1 := (by repeat (first | assumption | with_reducible refine KW.drew ?_ | with_reducible refine KW.call ?_ (by assumption) | with_reducible refine Kt.drew ?_ | with_reducible refine Kt.call ?_ (by assumption) | with_reducible refine IRow.call ?_ (Below.drew (Below.refl _ _)) | with_reducible refine IRow.call ?_ (by assumption)))
              have B1 : Below w.heap.size w u1 := (by repeat (first | assumption | with_reducible refine Below.drew ?_ | with_reducible refine bstep ?_ (by assumption)))
              have X1 : u1.cell? ⟨g, k * 2, none⟩ = some (.int .i64 x) ∧ u1.cell? ⟨g, k * 2 + 1, none⟩ = some (.int .i64 y) := (by rw [← HX1.out, ← HX2.out]; exact ⟨R1.at _ HKB.out.1, R1.at _ HKB.out.2⟩)
              clear hb1
              go_wp2_with fail
              refine hK.out _ _ ?_ (fun hHeld => ?_)
              · (try dsimp only)
                exact ⟨P1.pair, Q1.pair, K1.cells, X1⟩
              clear hK K
              (try simp only [Act.put, List.setIfInBounds_toArray, List.set_cons_zero, List.set_cons_succ])
              refine wpAnyH_take (i := 11) (v := ?_) (by (simp only [List.getElem?_toArray, List.getElem?_cons_succ, List.getElem?_cons_zero]); rfl) (by kernel_rfl) (by kernel_rfl) (by kernel_rfl) (by exact fun _ _ _ h => h) (Or.inl ⟨by rfl, ?_⟩) (by assumption) ?_
              rotate_left 1
              · (intro w hSw; (try dsimp only at hSw); go_simp) <;> with_reducible rfl
              (try simp only [Act.put, List.setIfInBounds_toArray, List.set_cons_zero, List.set_cons_succ])
              refine wpAnyH_take (i := 12) (v := ?_) (by (simp only [List.getElem?_toArray, List.getElem?_cons_succ, List.getElem?_cons_zero]); rfl) (by kernel_rfl) (by kernel_rfl) (by kernel_rfl) (by exact fun _ _ _ h => h) (Or.inl ⟨by rfl, ?_⟩) (by assumption) ?_
              rotate_left 1
              · (intro w hSw; (try dsimp only at hSw); go_simp) <;> with_reducible rfl
              (try simp only [Act.put, List.setIfInBounds_toArray, List.set_cons_zero, List.set_cons_succ])
              refine wpAnyH_take (i := 13) (v := ?_) (by (simp only [List.getElem?_toArray, List.getElem?_cons_succ, List.getElem?_cons_zero]); rfl) (by kernel_rfl) (by kernel_rfl) (by kernel_rfl) (by exact fun _ _ _ h => h) (Or.inl ⟨by rfl, ?_⟩) (by assumption) ?_
              rotate_left 1
              · (intro w hSw; (try dsimp only at hSw); go_simp) <;> with_reducible rfl
              (try simp only [Act.put, List.setIfInBounds_toArray, List.set_cons_zero, List.set_cons_succ])
              refine wpAnyH_take (i := 14) (v := ?_) (by (simp only [List.getElem?_toArray, List.getElem?_cons_succ, List.getElem?_cons_zero]); rfl) (by kernel_rfl) (by kernel_rfl) (by kernel_rfl) (by exact fun _ _ _ h => h) (Or.inl ⟨by rfl, ?_⟩) (by assumption) ?_
              rotate_left 1
              · (intro w hSw; (try dsimp only at hSw); go_simp) <;> with_reducible rfl
              (try simp only [Act.put, List.setIfInBounds_toArray, List.set_cons_zero, List.set_cons_succ])
              refine wpAnyH_take (i := 15) (v := ?_) (by (simp only [List.getElem?_toArray, List.getElem?_cons_succ, List.getElem?_cons_zero]); rfl) (by kernel_rfl) (by kernel_rfl) (by kernel_rfl) (by exact fun _ _ _ h => h) (Or.inl ⟨by rfl, ?_⟩) (by assumption) ?_
              rotate_left 1
              · (intro w hSw; (try dsimp only at hSw); go_simp) <;> with_reducible rfl
              (try simp only [Act.put, List.setIfInBounds_toArray, List.set_cons_zero, List.set_cons_succ])
              refine wpAnyH_take (i := 16) (v := ?_) (by (simp only [List.getElem?_toArray, List.getElem?_cons_succ, List.getElem?_cons_zero]); rfl) (by kernel_rfl) (by kernel_rfl) (by kernel_rfl) (by exact fun _ _ _ h => h) (Or.inl ⟨by rfl, ?_⟩) (by assumption) ?_
              rotate_left 1
              · (intro w hSw; (try dsimp only at hSw); go_simp) <;> with_reducible rfl
              (try simp only [Act.put, List.setIfInBounds_toArray, List.set_cons_zero, List.set_cons_succ])
              refine wpAnyH_take (i := 17) (v := ?_) (by (simp only [List.getElem?_toArray, List.getElem?_cons_succ, List.getElem?_cons_zero]); rfl) (by kernel_rfl) (by kernel_rfl) (by kernel_rfl) (by exact fun _ _ _ h => h) (Or.inl ⟨by rfl, ?_⟩) (by assumption) ?_
              rotate_left 1
              · (intro w hSw; (try dsimp only at hSw); go_simp) <;> with_reducible rfl
              (try simp only [Act.put, List.setIfInBounds_toArray, List.set_cons_zero, List.set_cons_succ])
              refine wpAnyH_ready (rs := [18]) (by kernel_rfl) (by simp) ?_
              refine AllReadyH.cons (o := _) (by (simp only [List.getElem?_toArray, List.getElem?_cons_succ, List.getElem?_cons_zero]); rfl) (fun K hK => ?_) AllReadyH.nil
              go_simp
              go_at_call 44
              refine (HS.out _).mono ?_
              rintro e u2 ⟨rfl, hb2⟩
              have P2 : KW p px py u2 := (by repeat (first | assumption | with_reducible refine KW.drew ?_ | with_reducible refine KW.call ?_ (by assumption) | with_reducible refine Kt.drew ?_ | with_reducible refine Kt.call ?_ (by assumption) | with_reducible refine IRow.call ?_ (Below.drew (Below.refl _ _)) | with_reducible refine IRow.call ?_ (by assumption)))
              have Q2 : KW (p + 1) bx bz u2 := (by repeat (first | assumption | with_reducible refine KW.drew ?_ | with_reducible refine KW.call ?_ (by assumption) | with_reducible refine Kt.drew ?_ | with_reducible refine Kt.call ?_ (by assumption) | with_reducible refine IRow.call ?_ (Below.drew (Below.refl _ _)) | with_reducible refine IRow.call ?_ (by assumption)))
              have K2 : Kt q A B C u2 := (by repeat (first | assumption | with_reducible refine KW.drew ?_ | with_reducible refine KW.call ?_ (by assumption) | with_reducible refine Kt.drew ?_ | with_reducible refine Kt.call ?_ (by assumption) | with_reducible refine IRow.call ?_ (Below.drew (Below.refl _ _)) | with_reducible refine IRow.call ?_ (by assumption)))
              have U2 : KW (q + 1) 0 0 u2 := (by repeat (first | assumption | with_reducible refine KW.drew ?_ | with_reducible refine KW.call ?_ (by assumption) | with_reducible refine Kt.drew ?_ | with_reducible refine Kt.call ?_ (by assumption) | with_reducible refine IRow.call ?_ (Below.drew (Below.refl _ _)) | with_reducible refine IRow.call ?_ (by assumption)))
              have V2 : KW (q + 1 + 1) 0 0 u2 := (by repeat (first | assumption | with_reducible refine KW.drew ?_ | with_reducible refine KW.call ?_ (by assumption) | with_reducible refine Kt.drew ?_ | with_reducible refine Kt.call ?_ (by assumption) | with_reducible refine IRow.call ?_ (Below.drew (Below.refl _ _)) | with_reducible refine IRow.call ?_ (by assumption)))
              have R2 : IRow g (NL.length * 2) (intAt (cells2 NL)) u2 := (by repeat (first | assumption | with_reducible refine KW.drew ?_ | with_reducible refine KW.call ?_ (by assumption) | with_reducible refine Kt.drew ?_ | with_reducible refine Kt.call ?_ (by assumption) | with_reducible refine IRow.call ?_ (Below.drew (Below.refl _ _)) | with_reducible refine IRow.call ?_ (by assumption)))
              have B2 : Below w.heap.size w u2 := (by repeat (first | assumption | with_reducible refine Below.drew ?_ | with_reducible refine bstep ?_ (by assumption)))
              have X2 : u2.cell? ⟨g, k * 2, none⟩ = some (.int .i64 x) ∧ u2.cell? ⟨g, k * 2 + 1, none⟩ = some (.int .i64 y) := (by rw [← HX1.out, ← HX2.out]; exact ⟨R2.at _ HKB.out.1, R2.at _ HKB.out.2⟩)
              clear hb2
              go_wp2_with fail
              refine hK.out _ _ ?_ (fun hHeld => ?_)
              · (try dsimp only)
                exact ⟨P2.pair, Q2.pair, K2.cells, X2⟩
              clear hK K
              (try simp only [Act.put, List.setIfInBounds_toArray, List.set_cons_zero, List.set_cons_succ])
              refine wpAnyH_take (i := 19) (v := ?_) (by (simp only [List.getElem?_toArray, List.getElem?_cons_succ, List.getElem?_cons_zero]); rfl) (by kernel_rfl) (by kernel_rfl) (by kernel_rfl) (by exact fun _ _ _ h => h) (Or.inl ⟨by rfl, ?_⟩) (by assumption) ?_
              rotate_left 1
              · (intro w hSw; (try dsimp only at hSw); go_simp) <;> with_reducible rfl
              (try simp only [Act.put, List.setIfInBounds_toArray, List.set_cons_zero, List.set_cons_succ])
              refine wpAnyH_take (i := 20) (v := ?_) (by (simp only [List.getElem?_toArray, List.getElem?_cons_succ, List.getElem?_cons_zero]); rfl) (by kernel_rfl) (by kernel_rfl) (by kernel_rfl) (by exact fun _ _ _ h => h) (Or.inl ⟨by rfl, ?_⟩) (by assumption) ?_
              rotate_left 1
              · (intro w hSw; (try dsimp only at hSw); go_simp) <;> with_reducible rfl
              (try simp only [Act.put, List.setIfInBounds_toArray, List.set_cons_zero, List.set_cons_succ])
              refine wpAnyH_take (i := 21) (v := ?_) (by (simp only [List.getElem?_toArray, List.getElem?_cons_succ, List.getElem?_cons_zero]); rfl) (by kernel_rfl) (by kernel_rfl) (by kernel_rfl) (by exact fun _ _ _ h => h) (Or.inl ⟨by rfl, ?_⟩) (by assumption) ?_
              rotate_left 1
              · (intro w hSw; (try dsimp only at hSw); go_simp) <;> with_reducible rfl
              (try simp only [Act.put, List.setIfInBounds_toArray, List.set_cons_zero, List.set_cons_succ])
              refine wpAnyH_take (i := 22) (v := ?_) (by (simp only [List.getElem?_toArray, List.getElem?_cons_succ, List.getElem?_cons_zero]); rfl) (by kernel_rfl) (by kernel_rfl) (by kernel_rfl) (by exact fun _ _ _ h => h) (Or.inl ⟨by rfl, ?_⟩) (by assumption) ?_
              rotate_left 1
              · (intro w hSw; (try dsimp only at hSw); go_simp) <;> with_reducible rfl
              (try simp only [Act.put, List.setIfInBounds_toArray, List.set_cons_zero, List.set_cons_succ])
              refine wpAnyH_take (i := 23) (v := ?_) (by (simp only [List.getElem?_toArray, List.getElem?_cons_succ, List.getElem?_cons_zero]); rfl) (by kernel_rfl) (by kernel_rfl) (by kernel_rfl) (by exact fun _ _ _ h => h) (Or.inl ⟨by rfl, ?_⟩) (by assumption) ?_
              rotate_left 1
              · (intro w hSw; (try dsimp only at hSw); go_simp) <;> with_reducible rfl
              (try simp only [Act.put, List.setIfInBounds_toArray, List.set_cons_zero, List.set_cons_succ])
              refine wpAnyH_take (i := 24) (v := ?_) (by (simp only [List.getElem?_toArray, List.getElem?_cons_succ, List.getElem?_cons_zero]); rfl) (by kernel_rfl) (by kernel_rfl) (by kernel_rfl) (by exact fun _ _ _ h => h) (Or.inl ⟨by rfl, ?_⟩) (by assumption) ?_
              rotate_left 1
              · (intro w hSw; (try dsimp only at hSw); go_simp) <;> with_reducible rfl
              (try simp only [Act.put, List.setIfInBounds_toArray, List.set_cons_zero, List.set_cons_succ])
              refine wpAnyH_take (i := 25) (v := ?_) (by (simp only [List.getElem?_toArray, List.getElem?_cons_succ, List.getElem?_cons_zero]); rfl) (by kernel_rfl) (by kernel_rfl) (by kernel_rfl) (by exact fun _ _ _ h => h) (Or.inl ⟨by rfl, ?_⟩) (by assumption) ?_
              rotate_left 1
              · (intro w hSw; (try dsimp only at hSw); go_simp) <;> with_reducible rfl
              (try simp only [Act.put, List.setIfInBounds_toArray, List.set_cons_zero, List.set_cons_succ])
              refine wpAnyH_take (i := 26) (v := ?_) (by (simp only [List.getElem?_toArray, List.getElem?_cons_succ, List.getElem?_cons_zero]); rfl) (by kernel_rfl) (by kernel_rfl) (by kernel_rfl) (by exact fun _ _ _ h => h) (Or.inl ⟨by rfl, ?_⟩) (by assumption) ?_
              rotate_left 1
              · (intro w hSw; (try dsimp only at hSw); go_simp) <;> with_reducible rfl
              (try simp only [Act.put, List.setIfInBounds_toArray, List.set_cons_zero, List.set_cons_succ])
              refine wpAnyH_take (i := 27) (v := ?_) (by (simp only [List.getElem?_toArray, List.getElem?_cons_succ, List.getElem?_cons_zero]); rfl) (by kernel_rfl) (by kernel_rfl) (by kernel_rfl) (by exact fun _ _ _ h => h) (Or.inl ⟨by rfl, ?_⟩) (by assumption) ?_
              rotate_left 1
              · (intro w hSw; (try dsimp only at hSw); go_simp) <;> with_reducible rfl
              (try simp only [Act.put, List.setIfInBounds_toArray, List.set_cons_zero, List.set_cons_succ])
              refine wpAnyH_take (i := 28) (v := ?_) (by (simp only [List.getElem?_toArray, List.getElem?_cons_succ, List.getElem?_cons_zero]); rfl) (by kernel_rfl) (by kernel_rfl) (by kernel_rfl) (by exact fun _ _ _ h => h) (Or.inl ⟨by rfl, ?_⟩) (by assumption) ?_
              rotate_left 1
              · (intro w hSw; (try dsimp only at hSw); go_simp) <;> with_reducible rfl
              (try simp only [Act.put, List.setIfInBounds_toArray, List.set_cons_zero, List.set_cons_succ])
              refine wpAnyH_take (i := 30) (v := ?_) (by (simp only [List.getElem?_toArray, List.getElem?_cons_succ, List.getElem?_cons_zero]); rfl) (by kernel_rfl) (by kernel_rfl) (by kernel_rfl) (by exact fun _ _ _ h => h) (Or.inl ⟨by rfl, ?_⟩) (by assumption) ?_
              rotate_left 1
              · (intro w hSw; (try dsimp only at hSw); go_simp) <;> with_reducible rfl
              (try simp only [Act.put, List.setIfInBounds_toArray, List.set_cons_zero, List.set_cons_succ])
              refine wpAnyH_take (i := 31) (v := ?_) (by (simp only [List.getElem?_toArray, List.getElem?_cons_succ, List.getElem?_cons_zero]); rfl) (by kernel_rfl) (by kernel_rfl) (by kernel_rfl) (by exact fun _ _ _ h => h) (Or.inl ⟨by rfl, ?_⟩) (by assumption) ?_
              rotate_left 1
              · (intro w hSw; (try dsimp only at hSw); go_simp) <;> with_reducible rfl
              (try simp only [Act.put, List.setIfInBounds_toArray, List.set_cons_zero, List.set_cons_succ])
              refine wpAnyH_ready (rs := [29]) (by kernel_rfl) (by simp) ?_
              refine AllReadyH.cons (o := _) (by (simp only [List.getElem?_toArray, List.getElem?_cons_succ, List.getElem?_cons_zero]); rfl) (fun K hK => ?_) AllReadyH.nil
              go_simp
              go_at_call 45
              refine (NV.out _).mono ?_
              rintro e u3 ⟨rfl, hb3⟩
              have P3 : KW p px py u3 := (by repeat (first | assumption | with_reducible refine KW.drew ?_ | with_reducible refine KW.call ?_ (by assumption) | with_reducible refine Kt.drew ?_ | with_reducible refine Kt.call ?_ (by assumption) | with_reducible refine IRow.call ?_ (Below.drew (Below.refl _ _)) | with_reducible refine IRow.call ?_ (by assumption)))
              have Q3 : KW (p + 1) bx bz u3 := (by repeat (first | assumption | with_reducible refine KW.drew ?_ | with_reducible refine KW.call ?_ (by assumption) | with_reducible refine Kt.drew ?_ | with_reducible refine Kt.call ?_ (by assumption) | with_reducible refine IRow.call ?_ (Below.drew (Below.refl _ _)) | with_reducible refine IRow.call ?_ (by assumption)))
              have K3 : Kt q A B C u3 := (by repeat (first | assumption | with_reducible refine KW.drew ?_ | with_reducible refine KW.call ?_ (by assumption) | with_reducible refine Kt.drew ?_ | with_reducible refine Kt.call ?_ (by assumption) | with_reducible refine IRow.call ?_ (Below.drew (Below.refl _ _)) | with_reducible refine IRow.call ?_ (by assumption)))
              have U3 : KW (q + 1) 0 0 u3 := (by repeat (first | assumption | with_reducible refine KW.drew ?_ | with_reducible refine KW.call ?_ (by assumption) | with_reducible refine Kt.drew ?_ | with_reducible refine Kt.call ?_ (by assumption) | with_reducible refine IRow.call ?_ (Below.drew (Below.refl _ _)) | with_reducible refine IRow.call ?_ (by assumption)))
              have V3 : KW (q + 1 + 1) 0 0 u3 := (by repeat (first | assumption | with_reducible refine KW.drew ?_ | with_reducible refine KW.call ?_ (by assumption) | with_reducible refine Kt.drew ?_ | with_reducible refine Kt.call ?_ (by assumption) | with_reducible refine IRow.call ?_ (Below.drew (Below.refl _ _)) | with_reducible refine IRow.call ?_ (by assumption)))
              have R3 : IRow g (NL.length * 2) (intAt (cells2 NL)) u3 := (by repeat (first | assumption | with_reducible refine KW.drew ?_ | with_reducible refine KW.call ?_ (by assumption) | with_reducible refine Kt.drew ?_ | with_reducible refine Kt.call ?_ (by assumption) | with_reducible refine IRow.call ?_ (Below.drew (Below.refl _ _)) | with_reducible refine IRow.call ?_ (by assumption)))
              have B3 : Below w.heap.size w u3 := (by repeat (first | assumption | with_reducible refine Below.drew ?_ | with_reducible refine bstep ?_ (by assumption)))
              have X3 : u3.cell? ⟨g, k * 2, none⟩ = some (.int .i64 x) ∧ u3.cell? ⟨g, k * 2 + 1, none⟩ = some (.int .i64 y) := (by rw [← HX1.out, ← HX2.out]; exact ⟨R3.at _ HKB.out.1, R3.at _ HKB.out.2⟩)
              clear hb3
              go_wp2_with fail
              refine hK.out _ _ ?_ (fun hHeld => ?_)
              · (try dsimp only)
                exact ⟨P3.pair, Q3.pair, K3.cells, X3⟩
              clear hK K
              (try simp only [Act.put, List.setIfInBounds_toArray, List.set_cons_zero, List.set_cons_succ])
              refine wpAnyH_ready (rs := [32]) (by kernel_rfl) (by simp) ?_
              refine AllReadyH.cons (o := _) (by (simp only [List.getElem?_toArray, List.getElem?_cons_succ, List.getElem?_cons_zero]); rfl) (fun K hK => ?_) AllReadyH.nil
              go_simp
              go_at_call 45
              refine (NB.out _).mono ?_
              rintro e u4 ⟨rfl, hb4⟩
              have P4 : KW p px py u4 := (by repeat (first | assumption | with_reducible refine KW.drew ?_ | with_reducible refine KW.call ?_ (by assumption) | with_reducible refine Kt.drew ?_ | with_reducible refine Kt.call ?_ (by assumption) | with_reducible refine IRow.call ?_ (Below.drew (Below.refl _ _)) | with_reducible refine IRow.call ?_ (by assumption)))
              have Q4 : KW (p + 1) bx bz u4 := (by repeat (first | assumption | with_reducible refine KW.drew ?_ | with_reducible refine KW.call ?_ (by assumption) | with_reducible refine Kt.drew ?_ | with_reducible refine Kt.call ?_ (by assumption) | with_reducible refine IRow.call ?_ (Below.drew (Below.refl _ _)) | with_reducible refine IRow.call ?_ (by assumption)))
              have K4 : Kt q A B C u4 := (by repeat (first | assumption | with_reducible refine KW.drew ?_ | with_reducible refine KW.call ?_ (by assumption) | with_reducible refine Kt.drew ?_ | with_reducible refine Kt.call ?_ (by assumption) | with_reducible refine IRow.call ?_ (Below.drew (Below.refl _ _)) | with_reducible refine IRow.call ?_ (by assumption)))
              have U4 : KW (q + 1) 0 0 u4 := (by repeat (first | assumption | with_reducible refine KW.drew ?_ | with_reducible refine KW.call ?_ (by assumption) | with_reducible refine Kt.drew ?_ | with_reducible refine Kt.call ?_ (by assumption) | with_reducible refine IRow.call ?_ (Below.drew (Below.refl _ _)) | with_reducible refine IRow.call ?_ (by assumption)))
              have V4 : KW (q + 1 + 1) 0 0 u4 := (by repeat (first | assumption | with_reducible refine KW.drew ?_ | with_reducible refine KW.call ?_ (by assumption) | with_reducible refine Kt.drew ?_ | with_reducible refine Kt.call ?_ (by assumption) | with_reducible refine IRow.call ?_ (Below.drew (Below.refl _ _)) | with_reducible refine IRow.call ?_ (by assumption)))
              have R4 : IRow g (NL.length * 2) (intAt (cells2 NL)) u4 := (by repeat (first | assumption | with_reducible refine KW.drew ?_ | with_reducible refine KW.call ?_ (by assumption) | with_reducible refine Kt.drew ?_ | with_reducible refine Kt.call ?_ (by assumption) | with_reducible refine IRow.call ?_ (Below.drew (Below.refl _ _)) | with_reducible refine IRow.call ?_ (by assumption)))
              have B4 : Below w.heap.size w u4 := (by repeat (first | assumption | with_reducible refine Below.drew ?_ | with_reducible refine bstep ?_ (by assumption)))
              have X4 : u4.cell? ⟨g, k * 2, none⟩ = some (.int .i64 x) ∧ u4.cell? ⟨g, k * 2 + 1, none⟩ = some (.int .i64 y) := (by rw [← HX1.out, ← HX2.out]; exact ⟨R4.at _ HKB.out.1, R4.at _ HKB.out.2⟩)
              clear hb4
              go_wp2_with fail
              refine hK.out _ _ ?_ (fun hHeld => ?_)
              · (try dsimp only)
                exact ⟨P4.pair, Q4.pair, K4.cells, X4⟩
              clear hK K
              (try simp only [Act.put, List.setIfInBounds_toArray, List.set_cons_zero, List.set_cons_succ])
              refine wpAnyH_take (i := 33) (v := ?_) (by (simp only [List.getElem?_toArray, List.getElem?_cons_succ, List.getElem?_cons_zero]); rfl) (by kernel_rfl) (by kernel_rfl) (by kernel_rfl) (by exact fun _ _ _ h => h) (Or.inl ⟨by rfl, ?_⟩) (by assumption) ?_
              rotate_left 1
              · (intro w hSw; (try dsimp only at hSw); go_simp) <;> with_reducible rfl
              (try simp only [Act.put, List.setIfInBounds_toArray, List.set_cons_zero, List.set_cons_succ])
              refine wpAnyH_take (i := 34) (v := ?_) (by (simp only [List.getElem?_toArray, List.getElem?_cons_succ, List.getElem?_cons_zero]); rfl) (by kernel_rfl) (by kernel_rfl) (by kernel_rfl) (by exact fun _ _ _ h => h) (Or.inl ⟨by rfl, ?_⟩) (by assumption) ?_
              rotate_left 1
              · (intro w hSw; (try dsimp only at hSw); go_simp) <;> with_reducible rfl
              (try simp only [Act.put, List.setIfInBounds_toArray, List.set_cons_zero, List.set_cons_succ])
              refine wpAnyH_take (i := 35) (v := ?_) (by (simp only [List.getElem?_toArray, List.getElem?_cons_succ, List.getElem?_cons_zero]); rfl) (by kernel_rfl) (by kernel_rfl) (by kernel_rfl) (by exact fun _ _ _ h => h) (Or.inl ⟨by rfl, ?_⟩) (by assumption) ?_
              rotate_left 1
              · (intro w hSw; (try dsimp only at hSw); go_simp) <;> with_reducible rfl
              (try simp only [Act.put, List.setIfInBounds_toArray, List.set_cons_zero, List.set_cons_succ])
              refine wpAnyH_done (by kernel_rfl) ?_ _
              go_wp2
              have hk1 := HK.out
              go_roundw
              case rel => exact ⟨k + 1, by go_num, by omega, by rw [HST.out] <;> first | rfl | rw [HSO.out], by rw [HST.out] <;> first | exact Q4 | (rw [HB.out]; exact Q4), P4, K4, U4, V4, R4, B4⟩
              case measure => first | (simp [intOf]; done) | (simp [intOf]; omega)
      · have c1b : (px * y - py * x == A * C) = false := beq_eq_false_iff_ne.2 c1
        have c1c : decide (px * y - py * x = A * C) = false := decide_eq_false c1
        have HST := Lib.hid (HST0.trans (step_no (by rw [HBC, c1c, Bool.false_and])))
        have HSO : Hid (st.isSome = st.isSome) := Lib.hid rfl
        clear HST0 HBC HS NV HMb hb
        generalize px * y - py * x = dv at *
        go_wp2_with fail
        refine wp_region_held_drew (S := (fun W => (W.cell? ⟨p, 0, none⟩ = some (.int .i64 px) ∧ W.cell? ⟨p, 1, none⟩ = some (.int .i64 py)) ∧ (W.cell? ⟨p + 1, 0, none⟩ = some (.int .i64 bx) ∧ W.cell? ⟨p + 1, 1, none⟩ = some (.int .i64 bz)) ∧ (W.cell? ⟨q, 0, none⟩ = some (.int .i64 A) ∧ W.cell? ⟨q, 1, none⟩ = some (.int .i64 B) ∧ W.cell? ⟨q, 2, none⟩ = some (.int .i64 C)) ∧ (W.cell? ⟨g, k * 2, none⟩ = some (.int .i64 x) ∧ W.cell? ⟨g, k * 2 + 1, none⟩ = some (.int .i64 y)))) (by kernel_rfl) ?_ (fun hHeld => ?_)
        · exact ⟨P0.pair, Q0.pair, K0.cells, X0⟩
        refine wpAnyH_take (i := 0) (v := ?_) (by (simp only [List.getElem?_toArray, List.getElem?_cons_succ, List.getElem?_cons_zero]); rfl) (by kernel_rfl) (by kernel_rfl) (by kernel_rfl) (by exact fun _ _ _ h => h) (Or.inl ⟨by rfl, ?_⟩) (by assumption) ?_
        rotate_left 1
        · (intro w hSw; (try dsimp only at hSw); go_simp) <;> with_reducible rfl
        (try simp only [Act.put, List.setIfInBounds_toArray, List.set_cons_zero, List.set_cons_succ])
        refine wpAnyH_take (i := 1) (v := ?_) (by (simp only [List.getElem?_toArray, List.getElem?_cons_succ, List.getElem?_cons_zero]); rfl) (by kernel_rfl) (by kernel_rfl) (by kernel_rfl) (by exact fun _ _ _ h => h) (Or.inl ⟨by rfl, ?_⟩) (by assumption) ?_
        rotate_left 1
        · (intro w hSw; (try dsimp only at hSw); go_simp) <;> with_reducible rfl
        (try simp only [Act.put, List.setIfInBounds_toArray, List.set_cons_zero, List.set_cons_succ])
        refine wpAnyH_take (i := 2) (v := ?_) (by (simp only [List.getElem?_toArray, List.getElem?_cons_succ, List.getElem?_cons_zero]); rfl) (by kernel_rfl) (by kernel_rfl) (by kernel_rfl) (by exact fun _ _ _ h => h) (Or.inl ⟨by rfl, ?_⟩) (by assumption) ?_
        rotate_left 1
        · (intro w hSw; (try dsimp only at hSw); go_simp) <;> with_reducible rfl
        (try simp only [Act.put, List.setIfInBounds_toArray, List.set_cons_zero, List.set_cons_succ])
        refine wpAnyH_take (i := 3) (v := ?_) (by (simp only [List.getElem?_toArray, List.getElem?_cons_succ, List.getElem?_cons_zero]); rfl) (by kernel_rfl) (by kernel_rfl) (by kernel_rfl) (by exact fun _ _ _ h => h) (Or.inl ⟨by rfl, ?_⟩) (by assumption) ?_
        rotate_left 1
        · (intro w hSw; (try dsimp only at hSw); go_simp) <;> with_reducible rfl
        (try simp only [Act.put, List.setIfInBounds_toArray, List.set_cons_zero, List.set_cons_succ])
        refine wpAnyH_take (i := 4) (v := ?_) (by (simp only [List.getElem?_toArray, List.getElem?_cons_succ, List.getElem?_cons_zero]); rfl) (by kernel_rfl) (by kernel_rfl) (by kernel_rfl) (by exact fun _ _ _ h => h) (Or.inl ⟨by rfl, ?_⟩) (by assumption) ?_
        rotate_left 1
        · (intro w hSw; (try dsimp only at hSw); go_simp) <;> with_reducible rfl
        (try simp only [Act.put, List.setIfInBounds_toArray, List.set_cons_zero, List.set_cons_succ])
        refine wpAnyH_take (i := 6) (v := ?_) (by (simp only [List.getElem?_toArray, List.getElem?_cons_succ, List.getElem?_cons_zero]); rfl) (by kernel_rfl) (by kernel_rfl) (by kernel_rfl) (by exact fun _ _ _ h => h) (Or.inl ⟨by rfl, ?_⟩) (by assumption) ?_
        rotate_left 1
        · (intro w hSw; (try dsimp only at hSw); go_simp) <;> with_reducible rfl
        (try simp only [Act.put, List.setIfInBounds_toArray, List.set_cons_zero, List.set_cons_succ])
        refine wpAnyH_take (i := 7) (v := ?_) (by (simp only [List.getElem?_toArray, List.getElem?_cons_succ, List.getElem?_cons_zero]); rfl) (by kernel_rfl) (by kernel_rfl) (by kernel_rfl) (by exact fun _ _ _ h => h) (Or.inl ⟨by rfl, ?_⟩) (by assumption) ?_
        rotate_left 1
        · (intro w hSw; (try dsimp only at hSw); go_simp) <;> with_reducible rfl
        (try simp only [Act.put, List.setIfInBounds_toArray, List.set_cons_zero, List.set_cons_succ])
        refine wpAnyH_take (i := 8) (v := ?_) (by (simp only [List.getElem?_toArray, List.getElem?_cons_succ, List.getElem?_cons_zero]); rfl) (by kernel_rfl) (by kernel_rfl) (by kernel_rfl) (by exact fun _ _ _ h => h) (Or.inl ⟨by rfl, ?_⟩) (by assumption) ?_
        rotate_left 1
        · (intro w hSw; (try dsimp only at hSw); go_simp) <;> with_reducible rfl
        (try simp only [Act.put, List.setIfInBounds_toArray, List.set_cons_zero, List.set_cons_succ])
        refine wpAnyH_take (i := 9) (v := ?_) (by (simp only [List.getElem?_toArray, List.getElem?_cons_succ, List.getElem?_cons_zero]); rfl) (by kernel_rfl) (by kernel_rfl) (by kernel_rfl) (by exact fun _ _ _ h => h) (Or.inl ⟨by rfl, ?_⟩) (by assumption) ?_
        rotate_left 1
        · (intro w hSw; (try dsimp only at hSw); go_simp) <;> with_reducible rfl
        (try simp only [Act.put, List.setIfInBounds_toArray, List.set_cons_zero, List.set_cons_succ])
        refine wpAnyH_take (i := 10) (v := ?_) (by (simp only [List.getElem?_toArray, List.getElem?_cons_succ, List.getElem?_cons_zero]); rfl) (by kernel_rfl) (by kernel_rfl) (by kernel_rfl) (by exact fun _ _ _ h => h) (Or.inl ⟨by rfl, ?_⟩) (by assumption) ?_
        rotate_left 1
        · (intro w hSw; (try dsimp only at hSw); go_simp) <;> with_reducible rfl
        (try simp only [Act.put, List.setIfInBounds_toArray, List.set_cons_zero, List.set_cons_succ])
        refine wpAnyH_ready (rs := [5]) (by kernel_rfl) (by simp) ?_
        refine AllReadyH.cons (o := _) (by (simp only [List.getElem?_toArray, List.getElem?_cons_succ, List.getElem?_cons_zero]); rfl) (fun K hK => ?_) AllReadyH.nil
        go_simp
        go_at_call 43
        refine (DT.out _).mono ?_
        rintro e u1 ⟨rfl, hb1⟩
        have P1 : KW p px py u1 := (by repeat (first | assumption | with_reducible refine KW.drew ?_ | with_reducible refine KW.call ?_ (by assumption) | with_reducible refine Kt.drew ?_ | with_reducible refine Kt.call ?_ (by assumption) | with_reducible refine IRow.call ?_ (Below.drew (Below.refl _ _)) | with_reducible refine IRow.call ?_ (by assumption)))
        have Q1 : KW (p + 1) bx bz u1 := (by repeat (first | assumption | with_reducible refine KW.drew ?_ | with_reducible refine KW.call ?_ (by assumption) | with_reducible refine Kt.drew ?_ | with_reducible refine Kt.call ?_ (by assumption) | with_reducible refine IRow.call ?_ (Below.drew (Below.refl _ _)) | with_reducible refine IRow.call ?_ (by assumption)))
        have K1 : Kt q A B C u1 := (by repeat (first | assumption | with_reducible refine KW.drew ?_ | with_reducible refine KW.call ?_ (by assumption) | with_reducible refine Kt.drew ?_ | with_reducible refine Kt.call ?_ (by assumption) | with_reducible refine IRow.call ?_ (Below.drew (Below.refl _ _)) | with_reducible refine IRow.call ?_ (by assumption)))
        have U1 : KW (q + 1) 0 0 u1 := (by repeat (first | assumption | with_reducible refine KW.drew ?_ | with_reducible refine KW.call ?_ (by assumption) | with_reducible refine Kt.drew ?_ | with_reducible refine Kt.call ?_ (by assumption) | with_reducible refine IRow.call ?_ (Below.drew (Below.refl _ _)) | with_reducible refine IRow.call ?_ (by assumption)))
        have V1 : KW (q + 1 + 1) 0 0 u1 := (by repeat (first | assumption | with_reducible refine KW.drew ?_ | with_reducible refine KW.call ?_ (by assumption) | with_reducible refine Kt.drew ?_ | with_reducible refine Kt.call ?_ (by assumption) | with_reducible refine IRow.call ?_ (Below.drew (Below.refl _ _)) | with_reducible refine IRow.call ?_ (by assumption)))
        have R1 : IRow g (NL.length * 2) (intAt (cells2 NL)) u1 := (by repeat (first | assumption | with_reducible refine KW.drew ?_ | with_reducible refine KW.call ?_ (by assumption) | with_reducible refine Kt.drew ?_ | with_reducible refine Kt.call ?_ (by assumption) | with_reducible refine IRow.call ?_ (Below.drew (Below.refl _ _)) | with_reducible refine IRow.call ?_ (by assumption)))
        have B1 : Below w.heap.size w u1 := (by repeat (first | assumption | with_reducible refine Below.drew ?_ | with_reducible refine bstep ?_ (by assumption)))
        have X1 : u1.cell? ⟨g, k * 2, none⟩ = some (.int .i64 x) ∧ u1.cell? ⟨g, k * 2 + 1, none⟩ = some (.int .i64 y) := (by rw [← HX1.out, ← HX2.out]; exact ⟨R1.at _ HKB.out.1, R1.at _ HKB.out.2⟩)
        clear hb1
        go_wp2_with fail
        refine hK.out _ _ ?_ (fun hHeld => ?_)
        · (try dsimp only)
          exact ⟨P1.pair, Q1.pair, K1.cells, X1⟩
        clear hK K
        (try simp only [Act.put, List.setIfInBounds_toArray, List.set_cons_zero, List.set_cons_succ])
        refine wpAnyH_take (i := 11) (v := ?_) (by (simp only [List.getElem?_toArray, List.getElem?_cons_succ, List.getElem?_cons_zero]); rfl) (by kernel_rfl) (by kernel_rfl) (by kernel_rfl) (by exact fun _ _ _ h => h) (Or.inl ⟨by rfl, ?_⟩) (by assumption) ?_
        rotate_left 1
        · (intro w hSw; (try dsimp only at hSw); go_simp) <;> with_reducible rfl
        (try simp only [Act.put, List.setIfInBounds_toArray, List.set_cons_zero, List.set_cons_succ])
        refine wpAnyH_take (i := 12) (v := ?_) (by (simp only [List.getElem?_toArray, List.getElem?_cons_succ, List.getElem?_cons_zero]); rfl) (by kernel_rfl) (by kernel_rfl) (by kernel_rfl) (by exact fun _ _ _ h => h) (Or.inl ⟨by rfl, ?_⟩) (by assumption) ?_
        rotate_left 1
        · (intro w hSw; (try dsimp only at hSw); go_simp) <;> with_reducible rfl
        (try simp only [Act.put, List.setIfInBounds_toArray, List.set_cons_zero, List.set_cons_succ])
        refine wpAnyH_take (i := 13) (v := undef) (by (simp only [List.getElem?_toArray, List.getElem?_cons_succ, List.getElem?_cons_zero]); rfl) (by kernel_rfl) (by kernel_rfl) (by kernel_rfl) (by exact fun _ _ _ h => h) (Or.inr ⟨by rfl, rfl⟩) (by assumption) ?_
        (try simp only [Act.put, List.setIfInBounds_toArray, List.set_cons_zero, List.set_cons_succ])
        refine wpAnyH_take (i := 14) (v := undef) (by (simp only [List.getElem?_toArray, List.getElem?_cons_succ, List.getElem?_cons_zero]); rfl) (by kernel_rfl) (by kernel_rfl) (by kernel_rfl) (by exact fun _ _ _ h => h) (Or.inr ⟨by rfl, rfl⟩) (by assumption) ?_
        (try simp only [Act.put, List.setIfInBounds_toArray, List.set_cons_zero, List.set_cons_succ])
        refine wpAnyH_take (i := 15) (v := undef) (by (simp only [List.getElem?_toArray, List.getElem?_cons_succ, List.getElem?_cons_zero]); rfl) (by kernel_rfl) (by kernel_rfl) (by kernel_rfl) (by exact fun _ _ _ h => h) (Or.inr ⟨by rfl, rfl⟩) (by assumption) ?_
        (try simp only [Act.put, List.setIfInBounds_toArray, List.set_cons_zero, List.set_cons_succ])
        refine wpAnyH_take (i := 16) (v := undef) (by (simp only [List.getElem?_toArray, List.getElem?_cons_succ, List.getElem?_cons_zero]); rfl) (by kernel_rfl) (by kernel_rfl) (by kernel_rfl) (by exact fun _ _ _ h => h) (Or.inr ⟨by rfl, rfl⟩) (by assumption) ?_
        (try simp only [Act.put, List.setIfInBounds_toArray, List.set_cons_zero, List.set_cons_succ])
        refine wpAnyH_take (i := 17) (v := undef) (by (simp only [List.getElem?_toArray, List.getElem?_cons_succ, List.getElem?_cons_zero]); rfl) (by kernel_rfl) (by kernel_rfl) (by kernel_rfl) (by exact fun _ _ _ h => h) (Or.inr ⟨by rfl, rfl⟩) (by assumption) ?_
        (try simp only [Act.put, List.setIfInBounds_toArray, List.set_cons_zero, List.set_cons_succ])
        refine wpAnyH_take (i := 18) (v := undef) (by (simp only [List.getElem?_toArray, List.getElem?_cons_succ, List.getElem?_cons_zero]); rfl) (by kernel_rfl) (by kernel_rfl) (by kernel_rfl) (by exact fun _ _ _ h => h) (Or.inr ⟨by rfl, rfl⟩) (by assumption) ?_
        (try simp only [Act.put, List.setIfInBounds_toArray, List.set_cons_zero, List.set_cons_succ])
        refine wpAnyH_take (i := 19) (v := ?_) (by (simp only [List.getElem?_toArray, List.getElem?_cons_succ, List.getElem?_cons_zero]); rfl) (by kernel_rfl) (by kernel_rfl) (by kernel_rfl) (by exact fun _ _ _ h => h) (Or.inl ⟨by rfl, ?_⟩) (by assumption) ?_
        rotate_left 1
        · (intro w hSw; (try dsimp only at hSw); go_simp) <;> with_reducible rfl
        (try simp only [Act.put, List.setIfInBounds_toArray, List.set_cons_zero, List.set_cons_succ])
        refine wpAnyH_take (i := 20) (v := ?_) (by (simp only [List.getElem?_toArray, List.getElem?_cons_succ, List.getElem?_cons_zero]); rfl) (by kernel_rfl) (by kernel_rfl) (by kernel_rfl) (by exact fun _ _ _ h => h) (Or.inl ⟨by rfl, ?_⟩) (by assumption) ?_
        rotate_left 1
        · (intro w hSw; (try dsimp only at hSw); go_simp) <;> with_reducible rfl
        (try simp only [Act.put, List.setIfInBounds_toArray, List.set_cons_zero, List.set_cons_succ])
        refine wpAnyH_take (i := 21) (v := undef) (by (simp only [List.getElem?_toArray, List.getElem?_cons_succ, List.getElem?_cons_zero]); rfl) (by kernel_rfl) (by kernel_rfl) (by kernel_rfl) (by exact fun _ _ _ h => h) (Or.inr ⟨by rfl, rfl⟩) (by assumption) ?_
        (try simp only [Act.put, List.setIfInBounds_toArray, List.set_cons_zero, List.set_cons_succ])
        refine wpAnyH_take (i := 22) (v := undef) (by (simp only [List.getElem?_toArray, List.getElem?_cons_succ, List.getElem?_cons_zero]); rfl) (by kernel_rfl) (by kernel_rfl) (by kernel_rfl) (by exact fun _ _ _ h => h) (Or.inr ⟨by rfl, rfl⟩) (by assumption) ?_
        (try simp only [Act.put, List.setIfInBounds_toArray, List.set_cons_zero, List.set_cons_succ])
        refine wpAnyH_take (i := 23) (v := undef) (by (simp only [List.getElem?_toArray, List.getElem?_cons_succ, List.getElem?_cons_zero]); rfl) (by kernel_rfl) (by kernel_rfl) (by kernel_rfl) (by exact fun _ _ _ h => h) (Or.inr ⟨by rfl, rfl⟩) (by assumption) ?_
        (try simp only [Act.put, List.setIfInBounds_toArray, List.set_cons_zero, List.set_cons_succ])
        refine wpAnyH_take (i := 24) (v := undef) (by (simp only [List.getElem?_toArray, List.getElem?_cons_succ, List.getElem?_cons_zero]); rfl) (by kernel_rfl) (by kernel_rfl) (by kernel_rfl) (by exact fun _ _ _ h => h) (Or.inr ⟨by rfl, rfl⟩) (by assumption) ?_
        (try simp only [Act.put, List.setIfInBounds_toArray, List.set_cons_zero, List.set_cons_succ])
        refine wpAnyH_take (i := 25) (v := undef) (by (simp only [List.getElem?_toArray, List.getElem?_cons_succ, List.getElem?_cons_zero]); rfl) (by kernel_rfl) (by kernel_rfl) (by kernel_rfl) (by exact fun _ _ _ h => h) (Or.inr ⟨by rfl, rfl⟩) (by assumption) ?_
        (try simp only [Act.put, List.setIfInBounds_toArray, List.set_cons_zero, List.set_cons_succ])
        refine wpAnyH_take (i := 26) (v := undef) (by (simp only [List.getElem?_toArray, List.getElem?_cons_succ, List.getElem?_cons_zero]); rfl) (by kernel_rfl) (by kernel_rfl) (by kernel_rfl) (by exact fun _ _ _ h => h) (Or.inr ⟨by rfl, rfl⟩) (by assumption) ?_
        (try simp only [Act.put, List.setIfInBounds_toArray, List.set_cons_zero, List.set_cons_succ])
        refine wpAnyH_take (i := 27) (v := undef) (by (simp only [List.getElem?_toArray, List.getElem?_cons_succ, List.getElem?_cons_zero]); rfl) (by kernel_rfl) (by kernel_rfl) (by kernel_rfl) (by exact fun _ _ _ h => h) (Or.inr ⟨by rfl, rfl⟩) (by assumption) ?_
        (try simp only [Act.put, List.setIfInBounds_toArray, List.set_cons_zero, List.set_cons_succ])
        refine wpAnyH_take (i := 28) (v := undef) (by (simp only [List.getElem?_toArray, List.getElem?_cons_succ, List.getElem?_cons_zero]); rfl) (by kernel_rfl) (by kernel_rfl) (by kernel_rfl) (by exact fun _ _ _ h => h) (Or.inr ⟨by rfl, rfl⟩) (by assumption) ?_
        (try simp only [Act.put, List.setIfInBounds_toArray, List.set_cons_zero, List.set_cons_succ])
        refine wpAnyH_take (i := 29) (v := undef) (by (simp only [List.getElem?_toArray, List.getElem?_cons_succ, List.getElem?_cons_zero]); rfl) (by kernel_rfl) (by kernel_rfl) (by kernel_rfl) (by exact fun _ _ _ h => h) (Or.inr ⟨by rfl, rfl⟩) (by assumption) ?_
        (try simp only [Act.put, List.setIfInBounds_toArray, List.set_cons_zero, List.set_cons_succ])
        refine wpAnyH_take (i := 30) (v := undef) (by (simp only [List.getElem?_toArray, List.getElem?_cons_succ, List.getElem?_cons_zero]); rfl) (by kernel_rfl) (by kernel_rfl) (by kernel_rfl) (by exact fun _ _ _ h => h) (Or.inr ⟨by rfl, rfl⟩) (by assumption) ?_
        (try simp only [Act.put, List.setIfInBounds_toArray, List.set_cons_zero, List.set_cons_succ])
        refine wpAnyH_take (i := 31) (v := undef) (by (simp only [List.getElem?_toArray, List.getElem?_cons_succ, List.getElem?_cons_zero]); rfl) (by kernel_rfl) (by kernel_rfl) (by kernel_rfl) (by exact fun _ _ _ h => h) (Or.inr ⟨by rfl, rfl⟩) (by assumption) ?_
        (try simp only [Act.put, List.setIfInBounds_toArray, List.set_cons_zero, List.set_cons_succ])
        refine wpAnyH_take (i := 32) (v := undef) (by (simp only [List.getElem?_toArray, List.getElem?_cons_succ, List.getElem?_cons_zero]); rfl) (by kernel_rfl) (by kernel_rfl) (by kernel_rfl) (by exact fun _ _ _ h => h) (Or.inr ⟨by rfl, rfl⟩) (by assumption) ?_
        (try simp only [Act.put, List.setIfInBounds_toArray, List.set_cons_zero, List.set_cons_succ])
        refine wpAnyH_take (i := 33) (v := undef) (by (simp only [List.getElem?_toArray, List.getElem?_cons_succ, List.getElem?_cons_zero]); rfl) (by kernel_rfl) (by kernel_rfl) (by kernel_rfl) (by exact fun _ _ _ h => h) (Or.inr ⟨by rfl, rfl⟩) (by assumption) ?_
        (try simp only [Act.put, List.setIfInBounds_toArray, List.set_cons_zero, List.set_cons_succ])
        refine wpAnyH_take (i := 34) (v := undef) (by (simp only [List.getElem?_toArray, List.getElem?_cons_succ, List.getElem?_cons_zero]); rfl) (by kernel_rfl) (by kernel_rfl) (by kernel_rfl) (by exact fun _ _ _ h => h) (Or.inr ⟨by rfl, rfl⟩) (by assumption) ?_
        (try simp only [Act.put, List.setIfInBounds_toArray, List.set_cons_zero, List.set_cons_succ])
        refine wpAnyH_take (i := 35) (v := ?_) (by (simp only [List.getElem?_toArray, List.getElem?_cons_succ, List.getElem?_cons_zero]); rfl) (by kernel_rfl) (by kernel_rfl) (by kernel_rfl) (by exact fun _ _ _ h => h) (Or.inl ⟨by rfl, ?_⟩) (by assumption) ?_
        rotate_left 1
        · (intro w hSw; (try dsimp only at hSw); go_simp) <;> with_reducible rfl
        (try simp only [Act.put, List.setIfInBounds_toArray, List.set_cons_zero, List.set_cons_succ])
        refine wpAnyH_done (by kernel_rfl) ?_ _
        go_wp2
        have hk1 := HK.out
        go_roundw
        case rel => exact ⟨k + 1, by go_num, by omega, by rw [HST.out] <;> first | rfl | rw [HSO.out], by rw [HST.out] <;> first | exact Q1 | (rw [HB.out]; exact Q1), P1, K1, U1, V1, R1, B1⟩
        case measure => first | (simp [intOf]; done) | (simp [intOf]; omega)
    · obtain rfl : k = NL.length := by omega
      rw [List.take_length, ← HE.out] at Q0
      generalize hrV : rbV f A B C (px, py) = V at *
      obtain ⟨vx, vy⟩ := V
      simp only at Q0
      obtain ⟨a0, a1, a2, a3, a4⟩ := id U0
      obtain ⟨b0, b1, b2, b3, b4⟩ := id V0
      obtain ⟨c0, c1, c2, c3, c4⟩ := id P0
      obtain ⟨d0, d1, d2, d3, d4⟩ := id Q0
      have n1 : ¬ (q + 1 = q + 1 + 1) := by omega
      have n2 : ¬ (q + 1 + 1 = q + 1) := by omega
      have n3 : ¬ (p = q + 1) := by omega
      have n4 : ¬ (q + 1 = p) := by omega
      have n5 : ¬ (p = q + 1 + 1) := by omega
      have n6 : ¬ (q + 1 + 1 = p) := by omega
      have n7 : ¬ (p + 1 = q + 1) := by omega
      have n8 : ¬ (q + 1 = p + 1) := by omega
      have n9 : ¬ (p + 1 = q + 1 + 1) := by omega
      have n10 : ¬ (q + 1 + 1 = p + 1) := by omega
      have HRV := Lib.hid hrV
      have BF : Below w.heap.size w ((((wr.drew.setCell ⟨q + 1, 0, none⟩ (.int .i64 px)).setCell ⟨q + 1, 1, none⟩ (.int .i64 py)).setCell ⟨q + 1 + 1, 0, none⟩ (.int .i64 vx)).setCell ⟨q + 1 + 1, 1, none⟩ (.int .i64 vy)) := Below.setCell (p := ⟨q + 1 + 1, 1, none⟩) (Below.setCell (p := ⟨q + 1 + 1, 0, none⟩) (Below.setCell (p := ⟨q + 1, 1, none⟩) (Below.setCell (p := ⟨q + 1, 0, none⟩) (Below.drew B0) (by dsimp only; omega) _) (by dsimp only; omega) _) (by dsimp only; omega) _) (by dsimp only; omega) _
      clear hrV U0 V0 P0 Q0 B0 R0 K0 hk hk1
      go_wp2_with fail
      go_region
      all_goals
        go_wp2
        refine bodyPost_ret (v := .tuple #[.agg #[.int .i64 px, .int .i64 py], .agg #[.int .i64 vx, .int .i64 vy], .int .i64 0]) (by simp [results, Try.results8, go_sem, *]) rfl ?_
        refine ⟨?_, BF⟩
        rw [HRU.out]
        dsimp only
        rw [HRV.out]
end Go.Proofs.Ytapfjmmlogcmkaa
