/-
  The contract of the program's spanOf: the lattice of a list of at most four vectors that span the plane. Conditions: valid vectors that lie in one block.
-/
import Derived.Test.YtodkomaeljbhaaaLat2
import Derived.Test.YtodkomaeljbhaaaGcd2
import Derived.Test.YtodkomaeljbhaaaTail
namespace Go.Proofs.Ytodkomaeljbhaaa
open Go.RowKit
set_option linter.unusedSimpArgs false
set_option linter.unusedVariables false

/- the vectors of a list lie in block g -/
def VL (g : Nat) (L : List (Int × Int)) (W : World) : Prop :=
  g < W.heap.size ∧ ∀ (i : Nat) (hi : i < L.length), W.cell? ⟨g, i * 2, none⟩ = some (.int .i64 L[i].1) ∧ W.cell? ⟨g, i * 2 + 1, none⟩ = some (.int .i64 L[i].2)
theorem VL.grow {g B : Nat} {L : List (Int × Int)} {W w1 : World} (h : VL g L W) (hb : Below B W w1) (hg : g < B) : VL g L w1 :=
  ⟨Nat.lt_of_lt_of_le h.1 hb.size, fun i hi => ⟨by rw [hb.cell hg]; exact (h.2 i hi).1, by rw [hb.cell hg]; exact (h.2 i hi).2⟩⟩
theorem VL.call {g : Nat} {L : List (Int × Int)} {W w1 : World} (h : VL g L W) (hb : Below W.heap.size W w1) : VL g L w1 := h.grow hb h.1
def cellAbs (B : Nat) (W : World) : Nat := match W.cell? ⟨B, 1, none⟩ with | some v => (intOf v).natAbs | none => 0
theorem cellAbs_of {B : Nat} {W : World} {y : Int} (h : W.cell? ⟨B, 1, none⟩ = some (.int .i64 y)) : cellAbs B W = y.natAbs := by simp [cellAbs, h, intOf]
theorem KW.pair {R : Nat} {a b : Int} {W : World} (h : KW R a b W) : W.cell? ⟨R, 0, none⟩ = some (.int .i64 a) ∧ W.cell? ⟨R, 1, none⟩ = some (.int .i64 b) := ⟨h.c0, h.c1⟩

set_option maxHeartbeats 4000000 in
theorem timesBig_any (x y n : Int) (w : World) (h1 : bigI (x * n)) (h2 : bigI (y * n)) :
    Calls Try.prog 37 #[.agg #[.int .i64 x, .int .i64 y], .int .i64 n] w fun e w' => e = .returned (.agg #[.int .i64 (x * n), .int .i64 (y * n)]) ∧ Below w.heap.size w w' := by
  obtain ⟨a1, a2⟩ := h1
  obtain ⟨a3, a4⟩ := h2
  go_enter Try.func37, Try.ntmps37
  go_wp2
  refine bodyPost_ret (v := .agg #[.int .i64 (x * n), .int .i64 (y * n)]) (by simp [results, Try.results37, go_sem]) rfl ⟨rfl, ?_⟩
  repeat (first | exact Below.refl _ _ | refine Below.setCell ?_ (by first | omega | (simp <;> omega)) _ | refine Below.alloc ?_ (by first | omega | (simp <;> omega)) _ | refine bstep ?_ (by assumption) | refine Below.drew ?_)

set_option maxHeartbeats 4000000 in
theorem plusBig_any (x y x' y' : Int) (w : World) (h1 : bigI (x + x')) (h2 : bigI (y + y')) :
    Calls Try.prog 43 #[.agg #[.int .i64 x, .int .i64 y], .agg #[.int .i64 x', .int .i64 y']] w fun e w' => e = .returned (.agg #[.int .i64 (x + x'), .int .i64 (y + y')]) ∧ Below w.heap.size w w' := by
  obtain ⟨a1, a2⟩ := h1
  obtain ⟨a3, a4⟩ := h2
  go_enter Try.func43, Try.ntmps43
  go_wp2
  refine bodyPost_ret (v := .agg #[.int .i64 (x + x'), .int .i64 (y + y')]) (by simp [results, Try.results43, go_sem]) rfl ⟨rfl, ?_⟩
  repeat (first | exact Below.refl _ _ | refine Below.setCell ?_ (by first | omega | (simp <;> omega)) _ | refine Below.alloc ?_ (by first | omega | (simp <;> omega)) _ | refine bstep ?_ (by assumption) | refine Below.drew ?_)

/- one round of Euclid's algorithm in the program's own words -/
theorem round_vals {K : Nat} {px py vx vy : Int} (hK : K ≤ 1100000000000000000) (h : euJ K px py vx vy) (h0 : vy ≠ 0) :
    bigI (vx * -(py.tdiv vy)) ∧ bigI (vy * -(py.tdiv vy)) ∧ bigI (px + vx * -(py.tdiv vy)) ∧ bigI (py + vy * -(py.tdiv vy)) ∧
    px + vx * -(py.tdiv vy) = px - py.tdiv vy * vx ∧ py + vy * -(py.tdiv vy) = py.tmod vy ∧ (-1000 ≤ py.tdiv vy ∧ py.tdiv vy ≤ 1000) := by
  have e1 : px + vx * -(py.tdiv vy) = px - py.tdiv vy * vx := by grind
  have e2 : py + vy * -(py.tdiv vy) = py.tmod vy := by have := Int.tmod_add_mul_tdiv py vy; grind
  have e3 : vx * -(py.tdiv vy) = -(py.tdiv vy * vx) := by grind
  have e4 : vy * -(py.tdiv vy) = py.tmod vy - py := by omega
  obtain ⟨p1, p2⟩ := euJ_prod h
  obtain ⟨n1, n2, n3, n4, n5⟩ := euJ_next h h0
  obtain ⟨j1, j2, j3, j4, j5⟩ := h
  refine ⟨?_, ?_, ?_, ?_, e1, e2, by omega⟩
  · rw [e3]; unfold bigI; omega
  · rw [e4]; unfold bigI; omega
  · rw [e1]; unfold bigI; omega
  · rw [e2]; unfold bigI; omega

set_option maxHeartbeats 4000000 in
theorem spanOf_any (L : List (Int × Int)) (g cap : Nat) (w : World) (hV : VL g L w) (hL : vecsB L) (hn : L.length ≤ 4) (h0 : 0 < (spFold L).2.2) :
    Calls Try.prog 77 #[.slice (some ⟨g, 0, none⟩) L.length cap] w fun e w' => e = .returned (.agg #[.int .i64 ((latL L).1), .int .i64 ((latL L).2.1), .int .i64 ((latL L).2.2)]) ∧ Below w.heap.size w w' := by
  have HV := Lib.hid hV
  have HL := Lib.hid hL
  have H0 := Lib.hid h0
  clear hV hL h0
  go_enter Try.func77, Try.ntmps77
  go_wp2_with fail
  go_loopw [4, 9] (fun f i W => ∃ (k : Nat) (s : Int × Int × Int), i = .int .i64 k ∧ f = .int .i64 s.2.2 ∧ k ≤ L.length ∧ Hid (s = (L.take k).foldl spStep (0, 0, 0)) ∧ Hid (stB (bdL k) s) ∧ KW (w.heap.size + 1) s.1 s.2.1 W ∧ KL w.heap.size 0 0 0 W ∧ Below w.heap.size w W) (fun _ i _ => L.length - (intOf i).toNat)
  case atStart => exact ⟨0, (0, 0, 0), rfl, rfl, Nat.zero_le _, rfl, stB_zero _, KW.at _ (by simp), (KL.at _ rfl).alloc _, Below.alloc (Below.alloc (Below.refl _ _) (Nat.le_refl _) _) (by simp) _⟩
  case round =>
    obtain ⟨k, ⟨sx, sy, f⟩, rfl, rfl, hk, hS, hT, K1, K2, hB⟩ := hrel
    simp only at K1
    by_cases h1 : k < L.length
    · have hk0 : (0 : Int) ≤ (k : Int) := by omega
      have hk1 : (k : Int) < (L.length : Int) := by omega
      have hBs := hB.size
      obtain ⟨c0, c1⟩ := (HV.out.grow hB HV.out.1).2 k h1
      have VB := Lib.hid (HL.out L[k] (List.getElem_mem h1))
      have J0 := Lib.hid (stB_J (bdL_le (by omega)).2 hT.out VB.out.1 VB.out.2)
      have hK : 1001 * bdL k ≤ 1100000000000000000 := by have := (bdL_le (i := k + 1) (by omega)).1; rw [bdL_succ] at this; omega
      have HN := Lib.hid (stB_sp (bdL_le (by omega)).2 hT.out VB.out.1 VB.out.2)
      have HF := Lib.hid (fold_take spStep L k h1 (0, 0, 0))
      rename World => W1
      have fb : f.natAbs ≤ bdL k ∧ 0 ≤ f := ⟨hT.out.2.2.2, hT.out.2.2.1⟩
      have ne : w.heap.size + 1 < W1.heap.size := K1.lt
      clear hT
      generalize L[k] = v at *
      obtain ⟨x, y⟩ := v
      simp only at c0 c1 VB J0 HN HF
      have hB1 : Below w.heap.size w (W1.alloc (.cells #[.int .i64 x, .int .i64 y] 34)) := hB.alloc hBs _
      go_wp2_with fail
      go_loopw [13] (fun _ W => ∃ px py vx vy : Int, Hid (eu px py vx vy = eu sx sy x y) ∧ Hid (euJ (1001 * bdL k) px py vx vy) ∧ KW (w.heap.size + 1) px py W ∧ KW W1.heap.size vx vy W ∧ KL w.heap.size 0 0 0 W ∧ Below w.heap.size w W) (fun _ W => cellAbs W1.heap.size W)
      case atStart => exact ⟨sx, sy, x, y, rfl, J0.out, K1.alloc _, KW.at _ rfl, K2.alloc _, hB1⟩
      case round =>
        clear c0 c1 K1 K2 hB hB1
        obtain ⟨px, py, vx, vy, hE, hJ, KS, KV, KR, BB⟩ := hrel
        obtain ⟨s0, s1, s2, s3, s4⟩ := id KS
        obtain ⟨v0, v1, v2, v3, v4⟩ := id KV
        have sz := BB.size
        have ne1 : ¬ w.heap.size + 1 = W1.heap.size := by omega
        have ne2 : ¬ W1.heap.size = w.heap.size + 1 := by omega
        by_cases h0 : vy = 0
        · subst h0
          have e0 := Lib.hid ((eu_zero px py vx).symm.trans hE.out)
          obtain ⟨f1, f2⟩ := fb
          obtain ⟨_, _, _, j4, j5⟩ := hJ.out
          have e1 : spStep (sx, sy, f) (x, y) = (px, py, gcdI f vx) := by simp [spStep, ← e0.out]
          have E1 := Lib.hid (show (px, py, gcdI f vx) = (L.take (k + 1)).foldl spStep (0, 0, 0) by rw [HF.out, ← hS.out, e1])
          have E2 := Lib.hid (show stB (bdL (k + 1)) (px, py, gcdI f vx) by rw [bdL_succ, ← e1]; exact HN.out)
          clear e1 HN HF VB J0 hJ hE
          go_wp2_with fail
          refine (greatestBig_any f vx _ (by omega) (by omega) (by omega) (by omega)).mono ?_
          rintro e w2 ⟨rfl, hb2⟩
          go_wp2
          go_roundw
          case rel => exact ⟨k + 1, (px, py, gcdI f vx), by go_num, rfl, by omega, E1.out, E2.out, KS.call hb2, KR.call hb2, bstep BB hb2⟩
          case measure => first | (simp [intOf]; done) | (simp [intOf]; omega)
        · have hcA := cellAbs_of v2
          have h0' : (vy != 0) = true := by simp [h0]
          obtain ⟨r1, r2, r3, r4, r5, r6, r7⟩ := round_vals hK hJ.out h0
          have R5 := Lib.hid r5
          have R6 := Lib.hid r6
          have hw1 : IntKind.i64.wrap (py.tdiv vy) = py.tdiv vy := IntWalk.i64_in _ (by omega)
          have E1 := Lib.hid (show eu vx vy (px + vx * -(py.tdiv vy)) (py + vy * -(py.tdiv vy)) = eu sx sy x y by rw [R5.out, R6.out, ← eu_step px py vx h0]; exact hE.out)
          have E2 := Lib.hid (show euJ (1001 * bdL k) vx vy (px + vx * -(py.tdiv vy)) (py + vy * -(py.tdiv vy)) by rw [R5.out, R6.out]; exact euJ_next hJ.out h0)
          have E3 := Lib.hid (show (py + vy * -(py.tdiv vy)).natAbs < vy.natAbs by rw [R6.out]; exact tmod_lt _ _ h0)
          have hw2 : IntKind.i64.wrap (-(py.tdiv vy)) = -(py.tdiv vy) := IntWalk.i64_in _ (by omega)
          have R1 := Lib.hid r1
          have R2 := Lib.hid r2
          have R3 := Lib.hid r3
          have R4 := Lib.hid r4
          clear r1 r2 r3 r4 r5 r6 hJ hE HN HF VB J0 R5 R6
          go_wp2_with fail
          refine wp_region_T 11 (fun W => (W.cell? ⟨w.heap.size + 1, 0, none⟩ = some (.int .i64 px) ∧ W.cell? ⟨w.heap.size + 1, 1, none⟩ = some (.int .i64 py)) ∧ (W.cell? ⟨W1.heap.size, 0, none⟩ = some (.int .i64 vx) ∧ W.cell? ⟨W1.heap.size, 1, none⟩ = some (.int .i64 vy))) (by kernel_rfl) ⟨KS.drew.pair, KV.drew.pair⟩ (fun hHeld inv => ?_)
          refine wpAnyT_take (i := 0) (v := ?_) (by kernel_rfl) (by kernel_rfl) (by decide) (by kernel_rfl) inv rfl (by decide) (by kernel_rfl) (by kernel_rfl) (fun _ _ _ h => h) (Or.inl ⟨by rfl, ?_⟩) (by assumption) (fun inv => ?_)
          rotate_left
          · (intro w hSw; (try dsimp only at hSw); go_simp; try with_reducible rfl)
          simp only [Act.put, List.setIfInBounds_toArray, List.set_cons_zero, List.set_cons_succ]
          refine wpAnyT_take (i := 1) (v := ?_) (by kernel_rfl) (by kernel_rfl) (by decide) (by kernel_rfl) inv rfl (by decide) (by kernel_rfl) (by kernel_rfl) (fun _ _ _ h => h) (Or.inl ⟨by rfl, ?_⟩) (by assumption) (fun inv => ?_)
          rotate_left
          · (intro w hSw; (try dsimp only at hSw); go_simp; try with_reducible rfl)
          simp only [Act.put, List.setIfInBounds_toArray, List.set_cons_zero, List.set_cons_succ]
          refine wpAnyT_take (i := 2) (v := ?_) (by kernel_rfl) (by kernel_rfl) (by decide) (by kernel_rfl) inv rfl (by decide) (by kernel_rfl) (by kernel_rfl) (fun _ _ _ h => h) (Or.inl ⟨by rfl, ?_⟩) (by assumption) (fun inv => ?_)
          rotate_left
          · (intro w hSw; (try dsimp only at hSw); go_simp; try with_reducible rfl)
          simp only [Act.put, List.setIfInBounds_toArray, List.set_cons_zero, List.set_cons_succ]
          refine wpAnyT_take (i := 3) (v := ?_) (by kernel_rfl) (by kernel_rfl) (by decide) (by kernel_rfl) inv rfl (by decide) (by kernel_rfl) (by kernel_rfl) (fun _ _ _ h => h) (Or.inl ⟨by rfl, ?_⟩) (by assumption) (fun inv => ?_)
          rotate_left
          · (intro w hSw; (try dsimp only at hSw); go_simp; try with_reducible rfl)
          simp only [Act.put, List.setIfInBounds_toArray, List.set_cons_zero, List.set_cons_succ]
          refine wpAnyT_take (i := 4) (v := ?_) (by kernel_rfl) (by kernel_rfl) (by decide) (by kernel_rfl) inv rfl (by decide) (by kernel_rfl) (by kernel_rfl) (fun _ _ _ h => h) (Or.inl ⟨by rfl, ?_⟩) (by assumption) (fun inv => ?_)
          rotate_left
          · (intro w hSw; (try dsimp only at hSw); go_simp; try with_reducible rfl)
          simp only [Act.put, List.setIfInBounds_toArray, List.set_cons_zero, List.set_cons_succ]
          refine wpAnyT_take (i := 5) (v := ?_) (by kernel_rfl) (by kernel_rfl) (by decide) (by kernel_rfl) inv rfl (by decide) (by kernel_rfl) (by kernel_rfl) (fun _ _ _ h => h) (Or.inl ⟨by rfl, ?_⟩) (by assumption) (fun inv => ?_)
          rotate_left
          · (intro w hSw; (try dsimp only at hSw); go_simp; try with_reducible rfl)
          simp only [Act.put, List.setIfInBounds_toArray, List.set_cons_zero, List.set_cons_succ]
          refine wpAnyT_take (i := 6) (v := ?_) (by kernel_rfl) (by kernel_rfl) (by decide) (by kernel_rfl) inv rfl (by decide) (by kernel_rfl) (by kernel_rfl) (fun _ _ _ h => h) (Or.inl ⟨by rfl, ?_⟩) (by assumption) (fun inv => ?_)
          rotate_left
          · (intro w hSw; (try dsimp only at hSw); go_simp; try with_reducible rfl)
          simp only [Act.put, List.setIfInBounds_toArray, List.set_cons_zero, List.set_cons_succ]
          refine wpAnyT_take (i := 7) (v := ?_) (by kernel_rfl) (by kernel_rfl) (by decide) (by kernel_rfl) inv rfl (by decide) (by kernel_rfl) (by kernel_rfl) (fun _ _ _ h => h) (Or.inl ⟨by rfl, ?_⟩) (by assumption) (fun inv => ?_)
          rotate_left
          · (intro w hSw; (try dsimp only at hSw); go_simp; try with_reducible rfl)
          simp only [Act.put, List.setIfInBounds_toArray, List.set_cons_zero, List.set_cons_succ]
          refine wpAnyT_take (i := 8) (v := ?_) (by kernel_rfl) (by kernel_rfl) (by decide) (by kernel_rfl) inv rfl (by decide) (by kernel_rfl) (by kernel_rfl) (fun _ _ _ h => h) (Or.inl ⟨by rfl, ?_⟩) (by assumption) (fun inv => ?_)
          rotate_left
          · (intro w hSw; (try dsimp only at hSw); go_simp; try with_reducible rfl)
          simp only [Act.put, List.setIfInBounds_toArray, List.set_cons_zero, List.set_cons_succ]
          refine wpAnyT_one (i := 9) (by kernel_rfl) rfl (fun K hK => ?_)
          go_simp
          (go_at_call 37; refine (timesBig_any vx vy (-(py.tdiv vy)) _ R1.out R2.out).mono ?_; rintro e u1 ⟨rfl, hb1⟩; have KS1 : KW (w.heap.size + 1) px py u1 := (by repeat (first | assumption | with_reducible refine KW.alloc ?_ _ | with_reducible refine KW.drew ?_ | with_reducible refine KW.call ?_ (by assumption))); have KV1 : KW W1.heap.size vx vy u1 := (by repeat (first | assumption | with_reducible refine KW.alloc ?_ _ | with_reducible refine KW.drew ?_ | with_reducible refine KW.call ?_ (by assumption))); have KR1 : KL w.heap.size 0 0 0 u1 := (by repeat (first | assumption | with_reducible refine KL.alloc ?_ _ | with_reducible refine KL.drew ?_ | with_reducible refine KL.call ?_ (by assumption))); have BB1 : Below w.heap.size w u1 := (by repeat (first | assumption | with_reducible refine Below.alloc ?_ (by first | omega | (simp <;> omega)) _ | with_reducible refine Below.drew ?_ | with_reducible refine bstep ?_ (by assumption))); obtain ⟨ks10, ks11, ks12, ks13, ks14⟩ := id KS1; obtain ⟨kv10, kv11, kv12, kv13, kv14⟩ := id KV1)
          refine hK.out _ _ (fun _ => ⟨KS1.pair, KV1.pair⟩) ?_
          clear hK K
          try simp only [Act.put, List.setIfInBounds_toArray, List.set_cons_zero, List.set_cons_succ]
          refine wpAnyT_one (i := 10) (by kernel_rfl) rfl (fun K hK => ?_)
          go_simp
          (go_at_call 43; refine (plusBig_any _ _ _ _ _ (by simpa using R3.out) (by simpa using R4.out)).mono ?_; rintro e u2 ⟨rfl, hb2⟩; have KS2 : KW (w.heap.size + 1) px py u2 := (by repeat (first | assumption | with_reducible refine KW.alloc ?_ _ | with_reducible refine KW.drew ?_ | with_reducible refine KW.call ?_ (by assumption))); have KV2 : KW W1.heap.size vx vy u2 := (by repeat (first | assumption | with_reducible refine KW.alloc ?_ _ | with_reducible refine KW.drew ?_ | with_reducible refine KW.call ?_ (by assumption))); have KR2 : KL w.heap.size 0 0 0 u2 := (by repeat (first | assumption | with_reducible refine KL.alloc ?_ _ | with_reducible refine KL.drew ?_ | with_reducible refine KL.call ?_ (by assumption))); have BB2 : Below w.heap.size w u2 := (by repeat (first | assumption | with_reducible refine Below.alloc ?_ (by first | omega | (simp <;> omega)) _ | with_reducible refine Below.drew ?_ | with_reducible refine bstep ?_ (by assumption))); obtain ⟨ks20, ks21, ks22, ks23, ks24⟩ := id KS2; obtain ⟨kv20, kv21, kv22, kv23, kv24⟩ := id KV2)
          refine hK.out _ _ (fun _ => ⟨KS2.pair, KV2.pair⟩) ?_
          clear hK K
          try simp only [Act.put, List.setIfInBounds_toArray, List.set_cons_zero, List.set_cons_succ]
          refine wpAnyT_seq (k := 11) (by decide) rfl rfl (by kernel_rfl) ?_
          all_goals
            go_wp2
            go_roundw
            case rel => exact ⟨vx, vy, _, _, Lib.hid (by simpa using E1.out), Lib.hid (by simpa using E2.out), KW.far ne2 (KW.far ne2 (KW.store KS2 _ _)), KW.store (KW.far ne1 (KW.far ne1 KV2)) _ _, KL.put (by show w.heap.size < W1.heap.size; omega) (KL.put (by show w.heap.size < W1.heap.size; omega) (KL.put (by show w.heap.size < w.heap.size + 1; omega) (KL.put (by show w.heap.size < w.heap.size + 1; omega) KR2))), Below.setCell (Below.setCell (Below.setCell (Below.setCell BB2 (by show w.heap.size ≤ w.heap.size + 1; omega) _) (by show w.heap.size ≤ w.heap.size + 1; omega) _) (by show w.heap.size ≤ W1.heap.size; omega) _) (by show w.heap.size ≤ W1.heap.size; omega) _⟩
            case measure =>
              rw [hcA]
              exact Nat.lt_of_le_of_lt (Nat.le_of_eq (cellAbs_of (KW.store (KW.far ne1 (KW.far ne1 KV2)) _ _).c1)) (by simpa using E3.out)
    · obtain rfl : k = L.length := by omega
      have hS' : spFold L = (sx, sy, f) := by have := hS.out; rw [List.take_length] at this; exact this.symm
      have hf : 0 < f := by have := H0.out; rw [hS'] at this; exact this
      obtain ⟨t1, t2, t3, t4⟩ := hT.out
      have hb4 := (bdL_le hn).1
      simp only at t1 t2 t3 t4
      obtain ⟨a0, a1, a2, a3, a4⟩ := id K1
      obtain ⟨b0, b1, b2, b3, b4, b5, b6⟩ := id K2
      have HSp := Lib.hid hS'
      clear hS' hS hT
      by_cases hs : sy < 0
      · have ea : latL L = (f, (-sx) % f, -sy) := by unfold latL; rw [HSp.out]; simp [nrm, hs]
        have EA := Lib.hid ea
        clear ea
        go_wp2_with fail
        refine (timesBig_any sx sy (-1) _ (by unfold bigI; omega) (by unfold bigI; omega)).mono ?_
        rintro e w2 ⟨rfl, hb2⟩
        have KS2 := K1.call hb2
        have KR2 : KL w.heap.size 0 0 0 ((w2.setCell ⟨w.heap.size + 1, 0, none⟩ (.int .i64 (-sx))).setCell ⟨w.heap.size + 1, 1, none⟩ (.int .i64 (-sy))) := KL.put (by show w.heap.size < w.heap.size + 1; omega) (KL.put (by show w.heap.size < w.heap.size + 1; omega) (K2.call hb2))
        have KS3 := KW.store KS2 (-sx) (-sy)
        have BB2 : Below w.heap.size w ((w2.setCell ⟨w.heap.size + 1, 0, none⟩ (.int .i64 (-sx))).setCell ⟨w.heap.size + 1, 1, none⟩ (.int .i64 (-sy))) := Below.setCell (Below.setCell (bstep hB hb2) (by show w.heap.size ≤ w.heap.size + 1; omega) _) (by show w.heap.size ≤ w.heap.size + 1; omega) _
        obtain ⟨a0, a1, a2, a3, a4⟩ := id KS2
        clear hb2 hB K1 K2
        go_wp2_with fail
        go_region_held3 (fun W => W.cell? ⟨w.heap.size + 1, 0, none⟩ = some (.int .i64 (-sx)) ∧ W.cell? ⟨w.heap.size + 1, 1, none⟩ = some (.int .i64 (-sy))) ((refine KW.pair ?_; repeat (first | assumption | with_reducible refine KW.alloc ?_ _ | with_reducible refine KW.drew ?_ | with_reducible refine KW.call ?_ (by assumption) | ((with_reducible refine KW.far ?_ ?_); (show w.heap.size ≠ w.heap.size + 1; omega)))))
          (first | (go_at_call 81; refine (remainder_any _ _ _ (by unfold bigI; omega) (by omega) (by unfold bigI; omega)).mono ?_; rintro e u1 ⟨rfl, hb3⟩; have KSu : KW (w.heap.size + 1) (-sx) (-sy) u1 := (by repeat (first | assumption | with_reducible refine KW.alloc ?_ _ | with_reducible refine KW.drew ?_ | with_reducible refine KW.call ?_ (by assumption))); have KR1 : KL w.heap.size 0 0 0 u1 := (by repeat (first | assumption | with_reducible refine KL.alloc ?_ _ | with_reducible refine KL.drew ?_ | with_reducible refine KL.call ?_ (by assumption))); have BB1 : Below w.heap.size w u1 := (by repeat (first | assumption | with_reducible refine Below.alloc ?_ (by first | omega | (simp <;> omega)) _ | with_reducible refine Below.drew ?_ | with_reducible refine bstep ?_ (by assumption))); obtain ⟨kr0, kr1, kr2, kr3, kr4, kr5, kr6⟩ := id KR1))
        all_goals
          go_wp2
          refine bodyPost_ret (v := .agg #[.int .i64 f, .int .i64 ((-sx) % f), .int .i64 (-sy)]) (by simp [results, Try.results77, go_sem, *]) rfl ⟨ret_val (by rw [EA.out]), ?_⟩
          exact Below.setCell (Below.setCell (Below.setCell BB1 (Nat.le_refl _) _) (Nat.le_refl _) _) (Nat.le_refl _) _
      · have ea : latL L = (f, sx % f, sy) := by unfold latL; rw [HSp.out]; simp [nrm, hs]
        have EA := Lib.hid ea
        clear ea
        go_wp2_with fail
        go_region_held3 (fun W => W.cell? ⟨w.heap.size + 1, 0, none⟩ = some (.int .i64 sx) ∧ W.cell? ⟨w.heap.size + 1, 1, none⟩ = some (.int .i64 sy)) ((refine KW.pair ?_; repeat (first | assumption | with_reducible refine KW.alloc ?_ _ | with_reducible refine KW.drew ?_ | with_reducible refine KW.call ?_ (by assumption) | ((with_reducible refine KW.far ?_ ?_); (show w.heap.size ≠ w.heap.size + 1; omega)))))
          (first | (go_at_call 81; refine (remainder_any _ _ _ (by unfold bigI; omega) (by omega) (by unfold bigI; omega)).mono ?_; rintro e u1 ⟨rfl, hb3⟩; have KSu : KW (w.heap.size + 1) (sx) (sy) u1 := (by repeat (first | assumption | with_reducible refine KW.alloc ?_ _ | with_reducible refine KW.drew ?_ | with_reducible refine KW.call ?_ (by assumption))); have KR1 : KL w.heap.size 0 0 0 u1 := (by repeat (first | assumption | with_reducible refine KL.alloc ?_ _ | with_reducible refine KL.drew ?_ | with_reducible refine KL.call ?_ (by assumption))); have BB1 : Below w.heap.size w u1 := (by repeat (first | assumption | with_reducible refine Below.alloc ?_ (by first | omega | (simp <;> omega)) _ | with_reducible refine Below.drew ?_ | with_reducible refine bstep ?_ (by assumption))); obtain ⟨kr0, kr1, kr2, kr3, kr4, kr5, kr6⟩ := id KR1))
        all_goals
          go_wp2
          refine bodyPost_ret (v := .agg #[.int .i64 f, .int .i64 (sx % f), .int .i64 sy]) (by simp [results, Try.results77, go_sem, *]) rfl ⟨ret_val (by rw [EA.out]), ?_⟩
          exact Below.setCell (Below.setCell (Below.setCell BB1 (Nat.le_refl _) _) (Nat.le_refl _) _) (Nat.le_refl _) _

end Go.Proofs.Ytodkomaeljbhaaa
