/-
  The contract of the model's l03Hermite: the lattice of a list of at most four vectors that span the plane. Conditions: valid vectors that lie in one block.
-/
import Derived.Test.YtodkomaeljbhaaaSpan
namespace Go.Proofs.Ytodkomaeljbhaaa
open Go.RowKit
set_option linter.unusedSimpArgs false
set_option linter.unusedVariables false

theorem hm_pos {s : Int × Int × Int} {v : Int × Int} (h : 0 < (spStep s v).2.2) : hmStep s v = ((spStep s v).1 % (spStep s v).2.2, (spStep s v).2) := by simp [hmStep, h]
theorem hm_zero {s : Int × Int × Int} {v : Int × Int} (h : ¬ 0 < (spStep s v).2.2) : hmStep s v = spStep s v := by simp [hmStep, h]
theorem bigI_of {a : Int} {M : Nat} (h : a.natAbs ≤ M) (hM : M ≤ 1100000000000000000) : bigI a := by unfold bigI; omega

set_option maxHeartbeats 4000000 in
theorem scaleBig_any (x y n : Int) (w : World) (h1 : bigI (n * x)) (h2 : bigI (n * y)) :
    Calls Try.prog 40 #[.agg #[.int .i64 x, .int .i64 y], .int .i64 n] w fun e w' => e = .returned (.agg #[.int .i64 (n * x), .int .i64 (n * y)]) ∧ Below w.heap.size w w' := by
  obtain ⟨a1, a2⟩ := h1
  obtain ⟨a3, a4⟩ := h2
  go_enter Try.func40, Try.ntmps40
  go_wp2
  refine bodyPost_ret (v := .agg #[.int .i64 (n * x), .int .i64 (n * y)]) (by simp [results, Try.results40, go_sem]) rfl ⟨rfl, ?_⟩
  repeat (first | exact Below.refl _ _ | refine Below.setCell ?_ (by first | omega | (simp <;> omega)) _ | refine Below.alloc ?_ (by first | omega | (simp <;> omega)) _ | refine bstep ?_ (by assumption) | refine Below.drew ?_)

set_option maxHeartbeats 4000000 in
theorem hermite_any (L : List (Int × Int)) (g cap : Nat) (w : World) (hV : VL g L w) (hL : vecsB L) (hn : L.length ≤ 4) (h0 : 0 < (hmFold L).2.2) :
    Calls Try.prog 70 #[.slice (some ⟨g, 0, none⟩) L.length cap] w fun e w' => e = .returned (.agg #[.int .i64 ((latL L).1), .int .i64 ((latL L).2.1), .int .i64 ((latL L).2.2)]) ∧ Below w.heap.size w w' := by
  have HV := Lib.hid hV
  have HL := Lib.hid hL
  have H0 := Lib.hid h0
  clear hV hL h0
  go_enter Try.func70, Try.ntmps70
  go_wp2_with fail
  go_loopw [4, 5] (fun f i W => ∃ (k : Nat) (s : Int × Int × Int), i = .int .i64 k ∧ f = .int .i64 s.2.2 ∧ k ≤ L.length ∧ Hid (s = (L.take k).foldl hmStep (0, 0, 0)) ∧ Hid (stB (bdL k) s) ∧ KW (w.heap.size + 1) s.1 s.2.1 W ∧ KL w.heap.size 0 0 0 W ∧ Below w.heap.size w W) (fun _ i _ => L.length - (intOf i).toNat)
  case atStart => exact ⟨0, (0, 0, 0), rfl, rfl, Nat.zero_le _, rfl, stB_zero _, KW.at _ (by simp), (KL.at _ rfl).alloc _, Below.alloc (Below.alloc (Below.refl _ _) (Nat.le_refl _) _) (by simp) _⟩
  case round =>
    obtain ⟨k, ⟨sx, sy, f⟩, rfl, rfl, hk, hS, hT, K1, K2, hB⟩ := hrel
    simp only at K1
    by_cases h1 : k < L.length
    · have hk0 : (0 : Int) ≤ (k : Int) := by omega
      have hk1 : (k : Int) < (L.length : Int) := by omega
      have hBs := hB.size
      obtain ⟨c0, c1⟩ := (HV.out.grow hB HV.out.1).2 k h1
      have VB := Lib.hid (HL.out L[k] (List.getElem_mem h1))
      have J0 := Lib.hid (stB_J (bdL_le (by omega)).2 hT.out VB.out.1 VB.out.2)
      have hK : 1001 * bdL k ≤ 1100000000000000000 := by have := (bdL_le (i := k + 1) (by omega)).1; rw [bdL_succ] at this; omega
      have HN := Lib.hid (stB_hm (bdL_le (by omega)).2 hT.out VB.out.1 VB.out.2)
      have HF := Lib.hid (fold_take hmStep L k h1 (0, 0, 0))
      rename World => W1
      have fb : f.natAbs ≤ bdL k ∧ 0 ≤ f := ⟨hT.out.2.2.2, hT.out.2.2.1⟩
      have ne : w.heap.size + 1 < W1.heap.size := K1.lt
      clear hT
      generalize L[k] = v at *
      obtain ⟨x, y⟩ := v
      simp only at c0 c1 VB J0 HN HF
      have hB1 : Below w.heap.size w (W1.alloc (.cells #[.int .i64 x, .int .i64 y] 34)) := hB.alloc hBs _
      go_wp2_with fail
      go_loopw [20] (fun _ W => ∃ px py vx vy : Int, Hid (eu px py vx vy = eu sx sy x y) ∧ Hid (euJ (1001 * bdL k) px py vx vy) ∧ KW (w.heap.size + 1) px py W ∧ KW W1.heap.size vx vy W ∧ KL w.heap.size 0 0 0 W ∧ Below w.heap.size w W) (fun _ W => cellAbs W1.heap.size W)
      case atStart => exact ⟨sx, sy, x, y, rfl, J0.out, K1.alloc _, KW.at _ rfl, K2.alloc _, hB1⟩
      case round =>
        clear c0 c1 K1 K2 hB hB1
        obtain ⟨px, py, vx, vy, hE, hJ, KS, KV, KR, BB⟩ := hrel
        obtain ⟨s0, s1, s2, s3, s4⟩ := id KS
        obtain ⟨v0, v1, v2, v3, v4⟩ := id KV
        have sz := BB.size
        have ne1 : ¬ w.heap.size + 1 = W1.heap.size := by omega
        have ne2 : ¬ W1.heap.size = w.heap.size + 1 := by omega
        by_cases h0 : vy = 0
        · subst h0
          have e0 := Lib.hid ((eu_zero px py vx).symm.trans hE.out)
          obtain ⟨f1, f2⟩ := fb
          obtain ⟨_, _, _, j4, j5⟩ := hJ.out
          have e1 : spStep (sx, sy, f) (x, y) = (px, py, gcdI f vx) := by simp [spStep, ← e0.out]
          have gb := gcdI_bd (a := f) (b := vx) (M := 1001 * bdL k) (by omega) (by omega)
          have gn := gcdI_nn f vx
          by_cases hg : 0 < gcdI f vx
          · have e2 := hm_pos (s := (sx, sy, f)) (v := (x, y)) (by rw [e1]; exact hg)
            rw [e1] at e2
            have E1 := Lib.hid (show (px % gcdI f vx, py, gcdI f vx) = (L.take (k + 1)).foldl hmStep (0, 0, 0) by rw [HF.out, ← hS.out, e2])
            have E2 := Lib.hid (show stB (bdL (k + 1)) (px % gcdI f vx, py, gcdI f vx) by have := HN.out; rw [e2] at this; rw [bdL_succ]; exact this)
            clear e1 e2 HN HF VB J0 hJ hE
            go_wp2_with fail
            refine (divisorBigB_any f vx _ (by omega) (by omega) (by omega) (by omega)).mono ?_
            rintro e w2 ⟨rfl, hb2⟩
            have KS2 := KS.call hb2
            have KV2 := KV.call hb2
            have KR2 := KR.call hb2
            have BB2 := bstep BB hb2
            obtain ⟨t0, t1, t2, t3, t4⟩ := id KS2
            clear hb2 s0 s1 s2 s3 s4 KS KV KR BB
            go_wp2_with fail
            refine (l01Mod_any px (gcdI f vx) _ (by unfold bigI; omega) (by omega) (by unfold bigI; omega)).mono ?_
            rintro e w3 ⟨rfl, hb3⟩
            have KS3 := KS2.call hb3
            obtain ⟨t0, t1, t2, t3, t4⟩ := id KS3
            go_wp2
            go_roundw
            case rel => exact ⟨k + 1, (px % gcdI f vx, py, gcdI f vx), by go_num, rfl, by omega, E1.out, E2.out, KW.store0 KS3 _, KL.put (by show w.heap.size < w.heap.size + 1; omega) (KR2.call hb3), Below.setCell (bstep BB2 hb3) (by show w.heap.size ≤ w.heap.size + 1; omega) _⟩
            case measure => first | (simp [intOf]; done) | (simp [intOf]; omega)
          · have g0 : gcdI f vx = 0 := by omega
            have e2 := hm_zero (s := (sx, sy, f)) (v := (x, y)) (by rw [e1]; exact hg)
            rw [e1, g0] at e2
            have E1 := Lib.hid (show (px, py, (0 : Int)) = (L.take (k + 1)).foldl hmStep (0, 0, 0) by rw [HF.out, ← hS.out, e2])
            have E2 := Lib.hid (show stB (bdL (k + 1)) (px, py, (0 : Int)) by have := HN.out; rw [e2] at this; rw [bdL_succ]; exact this)
            have G0 := Lib.hid g0
            clear e1 e2 HN HF VB J0 hJ hE hg g0
            go_wp2_with fail
            refine (divisorBigB_any f vx _ (by omega) (by omega) (by omega) (by omega)).mono ?_
            rintro e w2 ⟨rfl, hb2⟩
            rw [G0.out]
            have KS2 := KS.call hb2
            have KR2 := KR.call hb2
            have BB2 := bstep BB hb2
            go_wp2
            go_roundw
            case rel => exact ⟨k + 1, (px, py, 0), by go_num, rfl, by omega, E1.out, E2.out, KS2, KR2, BB2⟩
            case measure => first | (simp [intOf]; done) | (simp [intOf]; omega)
        · have hcA := cellAbs_of v2
          have h0' : (vy != 0) = true := by simp [h0]
          obtain ⟨r1, r2, r3, r4, r5, r6, r7⟩ := round_vals hK hJ.out h0
          have hw1 : IntKind.i64.wrap (py.tdiv vy) = py.tdiv vy := IntWalk.i64_in _ (by omega)
          obtain ⟨q1, q2⟩ := euJ_prod hJ.out
          obtain ⟨j1, j2, j3, j4, j5⟩ := hJ.out
          have m1 : -1100000000000000000 ≤ py.tdiv vy * vx ∧ py.tdiv vy * vx ≤ 1100000000000000000 := by omega
          have e7 : py.tdiv vy * vy = py - py.tmod vy := by have := Int.tmod_add_mul_tdiv py vy; have := Int.mul_comm vy (py.tdiv vy); omega
          have e8 := tmod_lt py vy h0
          have m2 : -2000 ≤ py.tdiv vy * vy ∧ py.tdiv vy * vy ≤ 2000 := by omega
          have m3 : -1100000000000000000 ≤ px ∧ px ≤ 1100000000000000000 := by omega
          have m4 : -1000 ≤ py ∧ py ≤ 1000 := by omega
          have E1 := Lib.hid (show eu vx vy (px - py.tdiv vy * vx) (py - py.tdiv vy * vy) = eu sx sy x y by rw [show py - py.tdiv vy * vy = py.tmod vy by omega, ← eu_step px py vx h0]; exact hE.out)
          have E2 := Lib.hid (show euJ (1001 * bdL k) vx vy (px - py.tdiv vy * vx) (py - py.tdiv vy * vy) by rw [show py - py.tdiv vy * vy = py.tmod vy by omega]; exact euJ_next hJ.out h0)
          have E3 := Lib.hid (show (py - py.tdiv vy * vy).natAbs < vy.natAbs by rw [show py - py.tdiv vy * vy = py.tmod vy by omega]; exact e8)
          clear r1 r2 r3 r4 r5 r6 e7 e8 hE hJ HN HF VB J0 j1 j2 j3 j4 j5
          go_wp2
          go_roundw
          case rel => exact ⟨vx, vy, _, _, E1.out, E2.out, (KW.far ne2 (KW.far ne2 (KW.store KS _ _))).alloc _, (KW.store (KW.far ne1 (KW.far ne1 KV)) _ _).alloc _, KL.alloc (KL.put (by show w.heap.size < W1.heap.size; omega) (KL.put (by show w.heap.size < W1.heap.size; omega) (KL.put (by show w.heap.size < w.heap.size + 1; omega) (KL.put (by show w.heap.size < w.heap.size + 1; omega) KR)))) _, Below.alloc (Below.setCell (Below.setCell (Below.setCell (Below.setCell BB (by show w.heap.size ≤ w.heap.size + 1; omega) _) (by show w.heap.size ≤ w.heap.size + 1; omega) _) (by show w.heap.size ≤ W1.heap.size; omega) _) (by show w.heap.size ≤ W1.heap.size; omega) _) (by simp; omega) _⟩
          case measure =>
            rw [hcA]
            exact Nat.lt_of_le_of_lt (Nat.le_of_eq (cellAbs_of ((KW.store (KW.far ne1 (KW.far ne1 KV)) _ _).alloc _).c1)) E3.out
    · obtain rfl : k = L.length := by omega
      have hS' : hmFold L = (sx, sy, f) := by have := hS.out; rw [List.take_length] at this; exact this.symm
      have hf : 0 < f := by have := H0.out; rw [hS'] at this; exact this
      obtain ⟨t1, t2, t3, t4⟩ := hT.out
      have hb4 := (bdL_le hn).1
      simp only at t1 t2 t3 t4
      obtain ⟨a0, a1, a2, a3, a4⟩ := id K1
      obtain ⟨b0, b1, b2, b3, b4, b5, b6⟩ := id K2
      have HSp := Lib.hid hS'
      clear hS' hS hT
      by_cases hs : sy < 0
      · have ea : latL L = (f, (-sx) % f, -sy) := by rw [latL_eq, HSp.out]; simp [nrm, hs]
        have EA := Lib.hid ea
        clear ea
        go_wp2_with fail
        refine (scaleBig_any sx sy (-1) _ (by unfold bigI; omega) (by unfold bigI; omega)).mono ?_
        rintro e w2 ⟨rfl, hb2⟩
        have KS2 := K1.call hb2
        have KR2 := K2.call hb2
        have BB2 := bstep hB hb2
        obtain ⟨a0, a1, a2, a3, a4⟩ := id KS2
        clear hb2 hB K1 K2 b0 b1 b2 b3 b4 b5 b6
        go_wp2_with fail
        refine (l01Mod_any (-sx) f _ (by unfold bigI; omega) (by omega) (by unfold bigI; omega)).mono ?_
        rintro e w3 ⟨rfl, hb3⟩
        have hlt := KS2.lt
        have KS3 : KW (w.heap.size + 1) (-sx) (-sy) w3 := KW.call (KW.store KS2 (-sx) (-sy)) hb3
        have KR3 : KL w.heap.size 0 0 0 w3 := KL.call (KL.put (by show w.heap.size < w.heap.size + 1; omega) (KL.put (by show w.heap.size < w.heap.size + 1; omega) KR2)) hb3
        have BB3 : Below w.heap.size w w3 := bstep (Below.setCell (Below.setCell BB2 (by show w.heap.size ≤ w.heap.size + 1; omega) _) (by show w.heap.size ≤ w.heap.size + 1; omega) _) hb3
        clear hb3 a0 a1 a2 a3 a4 KS2 KR2 BB2
        obtain ⟨a0, a1, a2, a3, a4⟩ := id KS3
        obtain ⟨b0, b1, b2, b3, b4, b5, b6⟩ := id KR3
        go_wp2
        refine bodyPost_ret (v := .agg #[.int .i64 f, .int .i64 ((-sx) % f), .int .i64 (-sy)]) (by simp [results, Try.results70, go_sem, a0, a1, a2, a3, a4, b0, b1, b2, b3, b4, b5, b6]) rfl ⟨ret_val (by rw [EA.out]), ?_⟩
        exact Below.setCell (Below.setCell (Below.setCell (Below.setCell BB3 (by show w.heap.size ≤ w.heap.size + 1; omega) _) (Nat.le_refl _) _) (Nat.le_refl _) _) (Nat.le_refl _) _
      · have ea : latL L = (f, sx % f, sy) := by rw [latL_eq, HSp.out]; simp [nrm, hs]
        have EA := Lib.hid ea
        clear ea
        go_wp2_with fail
        refine (l01Mod_any sx f _ (by unfold bigI; omega) (by omega) (by unfold bigI; omega)).mono ?_
        rintro e w3 ⟨rfl, hb3⟩
        have KS3 := K1.call hb3
        have KR3 := K2.call hb3
        have BB3 := bstep hB hb3
        obtain ⟨a0, a1, a2, a3, a4⟩ := id KS3
        obtain ⟨b0, b1, b2, b3, b4, b5, b6⟩ := id KR3
        clear hb3 K1 K2 hB
        go_wp2
        refine bodyPost_ret (v := .agg #[.int .i64 f, .int .i64 (sx % f), .int .i64 sy]) (by simp [results, Try.results70, go_sem, a0, a1, a2, a3, a4, b0, b1, b2, b3, b4, b5, b6]) rfl ⟨ret_val (by rw [EA.out]), ?_⟩
        exact Below.setCell (Below.setCell (Below.setCell (Below.setCell BB3 (by show w.heap.size ≤ w.heap.size + 1; omega) _) (Nat.le_refl _) _) (Nat.le_refl _) _) (Nat.le_refl _) _

end Go.Proofs.Ytodkomaeljbhaaa
