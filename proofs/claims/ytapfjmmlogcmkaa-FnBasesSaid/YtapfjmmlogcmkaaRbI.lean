/-
  ReducedBasis of the program. Conditions: the frame and the lattice are valid.
-/
import Derived.Test.YtapfjmmlogcmkaaDel
namespace Go.Proofs.Ytapfjmmlogcmkaa
open Go.RowKit
set_option linter.unusedSimpArgs false
set_option linter.unusedVariables false

theorem last_at {L : List (Int × Int)} {m : Nat} (h : L.length = m + 1) (hne : L ≠ []) : intAt (cells2 L) (m * 2) = (L.getLast hne).1 ∧ intAt (cells2 L) (m * 2 + 1) = (L.getLast hne).2 := by
  have hm : m < L.length := by omega
  obtain ⟨a1, a2⟩ := at2 hm
  rw [List.getLast_eq_getElem hne]
  have e : L.length - 1 = m := by omega
  simp only [e]
  exact ⟨a1, a2⟩
def RbOk (f A B C : Int) (w : World) (e : Ending) (w' : World) : Prop :=
  e = .returned (.tuple #[.agg #[.int .i64 ((rbU f A B C).1), .int .i64 ((rbU f A B C).2)], .agg #[.int .i64 ((rbV f A B C (rbU f A B C)).1), .int .i64 ((rbV f A B C (rbU f A B C)).2)], .int .i64 0]) ∧ Below w.heap.size w w'
set_option maxRecDepth 100000 in
set_option maxHeartbeats 8000000 in
theorem implRb_good (f A B C : Int) (w : World) (hf : frB f = true) (hl : latB A B C = true) : Calls Try.prog 7 #[.int .i64 f, .agg #[.int .i64 A, .int .i64 B, .int .i64 C]] w (RbOk f A B C w) := by
  have HLI := Lib.hid (latB_iff.1 hl)
  have Z0 : Kt w.heap.size A B C (((w.alloc (.cells #[.int .i64 A, .int .i64 B, .int .i64 C] 25)).alloc (.cells #[.int .i64 0, .int .i64 0] 29)).alloc (.cells #[.int .i64 0, .int .i64 0] 29)) := Kt.alloc (Kt.alloc (Kt.at _ rfl) _) _
  have U0 : KW (w.heap.size + 1) 0 0 (((w.alloc (.cells #[.int .i64 A, .int .i64 B, .int .i64 C] 25)).alloc (.cells #[.int .i64 0, .int .i64 0] 29)).alloc (.cells #[.int .i64 0, .int .i64 0] 29)) := KW.alloc (KW.at _ (by simp)) _
  have V0 : KW (w.heap.size + 1 + 1) 0 0 (((w.alloc (.cells #[.int .i64 A, .int .i64 B, .int .i64 C] 25)).alloc (.cells #[.int .i64 0, .int .i64 0] 29)).alloc (.cells #[.int .i64 0, .int .i64 0] 29)) := KW.at _ (by simp)
  have B0 : Below w.heap.size w (((w.alloc (.cells #[.int .i64 A, .int .i64 B, .int .i64 C] 25)).alloc (.cells #[.int .i64 0, .int .i64 0] 29)).alloc (.cells #[.int .i64 0, .int .i64 0] 29)) := (((Below.refl _ _).alloc (Nat.le_refl _) _).alloc (by simp) _).alloc (by simp <;> omega) _
  go_enter Try.func7, Try.ntmps7
  go_wp2_with fail
  refine (planeOf_yes _ _ hf).mono ?_
  rintro e w1 ⟨rfl, hb1⟩
  have K1 := Z0.call hb1
  have U1 := U0.call hb1
  have V1 := V0.call hb1
  have B1 := bstep B0 hb1
  clear Z0 U0 V0 B0 hb1
  obtain ⟨k0, k1, k2, k3⟩ := id K1
  go_wp2_with fail
  refine (isValidL_any _ _ _ _).mono ?_
  rintro e w2 ⟨rfl, hb2⟩
  rw [hl]
  have K2 := K1.call hb2
  have U2 := U1.call hb2
  have V2 := V1.call hb2
  have B2 := bstep B1 hb2
  clear K1 U1 V1 B1 hb2 k0 k1 k2 k3
  obtain ⟨k0, k1, k2, k3⟩ := id K2
  go_wp2_with fail
  refine (neighbours_any f A B C _ hf HLI.out).mono ?_
  rintro e w3 ⟨ux, uy, vx, vy, L, g, cap, rfl, hG, h8, hS, hM, hmid, hg, hcap, hR, hb3⟩
  have B3 := bstep B2 hb3
  have K3 := K2.call hb3
  have U3 := U2.call hb3
  have V3 := V2.call hb3
  have HE := Lib.hid (hG.shorts hf HLI.out hS hM)
  have HMem := Lib.hid (rbU_mem hf HLI.out)
  have HUm : Hid (midI (rbU f A B C).1 ∧ midI (rbU f A B C).2) := Lib.hid (hmid _ ((hM _).2 (shortM_nb hf HLI.out hG HMem.out)))
  have HBest := Lib.hid (fun (P : Int × Int → Bool) hP => hG.best_eq hf HLI.out hS hM (P := P) hP)
  have SH : Hid (∀ W, IRow g 16 (intAt (cells2 L)) W → Calls Try.prog 35 #[.iface (planeT f) (.agg #[]), .slice (some ⟨g, 0, none⟩) 8 cap] W (ShOwn f L W)) := Lib.hid (by
    intro W hW
    have := shortest_any f L g cap W hf hmid (by omega) (by rw [h8]; exact hW)
    rw [h8] at this
    exact this)
  have HR := Lib.hid hR
  have HMid := Lib.hid hmid
  have H8 := Lib.hid h8
  have z3 := B3.size
  have zg : w.heap.size + 1 + 1 < g := Nat.lt_of_lt_of_le V2.lt hg
  clear hG h8 hS hM hmid hR hg K2 U2 V2 B2 hb3 k0 k1 k2 k3
  go_wp2_with fail
  refine (SH.out _ HR.out).mono ?_
  rintro e w4 ⟨v, rfl, hown, hb4⟩
  rw [HE.out] at hown
  have R4 := HR.out.call hb4
  have B4 := bstep B3 hb4
  have K4 := K3.call hb4
  have U4 := U3.call hb4
  have V4 := V3.call hb4
  have hne := shortM_ne hf HLI.out
  have hlen : (shortM f A B C).length ≤ 1000000 := Nat.le_trans (List.length_filter_le _ _) (Nat.le_trans (nearP_len f (A * A) 128 (2 * 128 + 1) (2 * 128 + 1)) (by omega))
  obtain ⟨m, hm⟩ : ∃ m, (shortM f A B C).length = m + 1 := ⟨(shortM f A B C).length - 1, by have := List.length_pos_iff.2 hne; omega⟩
  have hlast := last_at hm hne
  rw [← rbU_last hne] at hlast
  have S4 := SRow.of hown (cells2_int _) hlen
  rw [hm] at S4 hlen
  obtain ⟨g1, cap1, rfl, hg1, hg2, RN⟩ := S4.2.2.resolve_left (fun h => by omega)
  have q1 := RN.ko2 (m * 2) (by omega)
  rw [hlast.1, hlast.2] at q1
  generalize hrU : rbU f A B C = U at *
  obtain ⟨px, py⟩ := U
  obtain ⟨q10, q11, q12⟩ := id q1
  simp only at q10 q11 q12 HUm
  have hm2 : ((m + 1 : Nat) : Int) = (m : Int) + 1 := by omega
  have hw1 : IntKind.i64.wrap ((m : Int)) = (m : Int) := IntWalk.i64_in _ (by omega)
  have hw2 : IntKind.i64.wrap ((m : Int) + 1 - 1) = (m : Int) := by rw [show (m : Int) + 1 - 1 = m by omega]; exact hw1
  have hm3 : (0 : Int) ≤ (m : Int) := by omega
  have hm4 : (m : Int) < (m : Int) + 1 := by omega
  clear hown hb4 B3 K3 U3 V3 S4 RN hlast hm hne SH HR HMem
  go_wp2_with fail
  have hgz := R4.1
  have KP : KW w4.heap.size px py (w4.alloc (.cells #[.int .i64 px, .int .i64 py] 29)) := KW.at _ rfl
  have B4' : Below w.heap.size w (w4.alloc (.cells #[.int .i64 px, .int .i64 py] 29)) := B4.alloc B4.size _
  refine (deleteFunc_any w4.heap.size w.heap.size g cap A B C px py L _ HMid.out HUm.out HLI.out H8.out (R4.call ((Below.refl _ _).alloc (Nat.le_refl _) _)) KP (K4.alloc _) (by omega) (by omega) hcap.1 hcap.2).mono ?_
  rintro e w5 ⟨N, hN, rfl, R5, KP5, K5, hb5⟩
  have U5 : KW (w.heap.size + 1) 0 0 w5 := (U4.alloc _).grow hb5 (by omega)
  have V5 : KW (w.heap.size + 1 + 1) 0 0 w5 := (V4.alloc _).grow hb5 (by omega)
  have B5 : Below w.heap.size w w5 := B4'.trans (hb5.mono (by omega))
  have HP : ∀ v ∈ L, (!outP A B C px py v) = true ↔ px * v.2 - py * v.1 = A * C := by
    intro v _
    simp [outP]
  obtain ⟨hne2, hlast2⟩ : ∃ hne : shortL f N ≠ [], (shortL f N).getLast hne = rbV f A B C (px, py) := by
    rw [hN]
    exact HBest.out (fun v => !outP A B C px py v) HP
  have hN8 : N.length ≤ 8 := by rw [hN, ← H8.out]; exact List.length_filter_le _ _
  have hNm : midL N := fun v hv => HMid.out v (by rw [hN] at hv; exact (List.mem_filter.1 hv).1)
  have SH2 := Lib.hid (shortest_any f N g cap w5 hf hNm hN8 R5)
  have HL2 := Lib.hid hlast2
  have hS2 : (shortL f N).length ≤ 8 := Nat.le_trans (shortL_len f N) hN8
  obtain ⟨m2, hm2'⟩ : ∃ m2, (shortL f N).length = m2 + 1 := ⟨(shortL f N).length - 1, by have := List.length_pos_iff.2 hne2; omega⟩
  have hla := last_at hm2' hne2
  rw [hlast2] at hla
  generalize hrV : rbV f A B C (px, py) = V at *
  obtain ⟨vx', vy'⟩ := V
  simp only at hla
  clear HP HBest hlast2 hN hN8 hNm R4 B4 B4' K4 U4 V4 R5 hb5 KP K5 hm2 hw1 hw2 hm3 hm4 q1 q10 q11 q12 HMid H8 HE z3 HL2
  go_wp2_with fail
  refine SH2.out.mono ?_
  rintro e w6 ⟨v, rfl, hown, hb6⟩
  have U6 := U5.call hb6
  have V6 := V5.call hb6
  have P6 := KP5.call hb6
  have B6 := bstep B5 hb6
  have z5 := B5.size
  have S6 := SRow.of hown (cells2_int _) (by omega)
  rw [hm2'] at S6 hS2
  obtain ⟨g2, cap2, rfl, hg3, hg4, RN⟩ := S6.2.2.resolve_left (fun h => by omega)
  have q1 := RN.ko2 (m2 * 2) (by omega)
  rw [hla.1, hla.2] at q1
  obtain ⟨q10, q11, q12⟩ := id q1
  obtain ⟨a0, a1, a2, a3, a4⟩ := id U6
  obtain ⟨b0, b1, b2, b3, b4⟩ := id V6
  obtain ⟨c0, c1, c2, c3, c4⟩ := id P6
  have hm2 : ((m2 + 1 : Nat) : Int) = (m2 : Int) + 1 := by omega
  have hw1 : IntKind.i64.wrap ((m2 : Int)) = (m2 : Int) := IntWalk.i64_in _ (by omega)
  have hw2 : IntKind.i64.wrap ((m2 : Int) + 1 - 1) = (m2 : Int) := by rw [show (m2 : Int) + 1 - 1 = m2 by omega]; exact hw1
  have hm3 : (0 : Int) ≤ (m2 : Int) := by omega
  have hm4 : (m2 : Int) < (m2 : Int) + 1 := by omega
  have n1 : ¬ (w.heap.size + 1 = w.heap.size + 1 + 1) := by omega
  have n2 : ¬ (w.heap.size + 1 + 1 = w.heap.size + 1) := by omega
  have V5z := V5.lt
  clear hown hb6 U5 V5 KP5 B5 S6 RN hla SH2 hne2
  have zV := b0
  have zB := B6.size
  have zc := V5z
  have n3 : ¬ (g2 = w.heap.size + 1) := by omega
  have n4 : ¬ (w.heap.size + 1 = g2) := by omega
  have n5 : ¬ (g2 = w.heap.size + 1 + 1) := by omega
  have n6 : ¬ (w.heap.size + 1 + 1 = g2) := by omega
  have n7 : ¬ (w4.heap.size = w.heap.size + 1) := by omega
  have n8 : ¬ (w.heap.size + 1 = w4.heap.size) := by omega
  have n9 : ¬ (w4.heap.size = w.heap.size + 1 + 1) := by omega
  have n10 : ¬ (w.heap.size + 1 + 1 = w4.heap.size) := by omega
  have HRV := Lib.hid hrV
  have HRU := Lib.hid hrU
  have BF : Below w.heap.size w ((((w6.drew.setCell ⟨w.heap.size + 1, 0, none⟩ (.int .i64 px)).setCell ⟨w.heap.size + 1, 1, none⟩ (.int .i64 py)).setCell ⟨w.heap.size + 1 + 1, 0, none⟩ (.int .i64 vx')).setCell ⟨w.heap.size + 1 + 1, 1, none⟩ (.int .i64 vy')) := Below.setCell (p := ⟨w.heap.size + 1 + 1, 1, none⟩) (Below.setCell (p := ⟨w.heap.size + 1 + 1, 0, none⟩) (Below.setCell (p := ⟨w.heap.size + 1, 1, none⟩) (Below.setCell (p := ⟨w.heap.size + 1, 0, none⟩) (Below.drew B6) (by dsimp only; omega) _) (by dsimp only; omega) _) (by dsimp only; omega) _) (by dsimp only; omega) _
  clear hrV hrU U6 V6 P6 B6
  go_wp2_with fail
  go_region
  all_goals
    go_wp2
    refine bodyPost_ret (v := .tuple #[.agg #[.int .i64 px, .int .i64 py], .agg #[.int .i64 vx', .int .i64 vy'], .int .i64 0]) (by simp [results, Try.results7, go_sem, *]) rfl ?_
    refine ⟨?_, BF⟩
    rw [HRU.out]
    dsimp only
    rw [HRV.out]
end Go.Proofs.Ytapfjmmlogcmkaa
