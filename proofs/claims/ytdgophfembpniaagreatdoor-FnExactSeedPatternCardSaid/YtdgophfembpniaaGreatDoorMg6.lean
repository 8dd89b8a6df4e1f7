/-
  The contract of the model's test of a group. Condition: the list's length is below the model's bound.
-/
import Derived.Test.YtdgophfembpniaaGreatDoorPl6
import Derived.Test.YtdgophfembpniaaGreatDoorMo3
import Derived.Deep.RegionHeld3
import Derived.IntWalk
import Derived.WalkSmall
namespace Go.Proofs.YtdgophfembpniaaGreatDoor
open Go.RowKit
set_option linter.unusedSimpArgs false
set_option linter.unusedVariables false
theorem tkMg6 {md P ops Q S} {i : Nat} {oi : Oper} {v : Value} {fuel : Nat} {listed : Array Bool} {a : Act} {w : World} (hi : ops[i]? = some oi := by (simp only [List.getElem?_toArray, List.getElem?_cons_succ, List.getElem?_cons_zero]); rfl) (hs : Region.noSelect ops = true := by kernel_rfl) (hf : Region.free md ops listed i = true := by kernel_rfl) (hr : (Region.ready md ops listed).contains i = true := by kernel_rfl) (hQ : ∀ c a w, Q (.panic c) (a.put oi.dst v) w → Q (.panic c) a w := by exact fun _ _ _ h => h) (hy : YieldsIf P ops S oi v a) (hS : S w := by assumption) (h : wpAnyH P md ops Q S fuel (listed.setIfInBounds i true) (a.put oi.dst v) w) : wpAnyH P md ops Q S (fuel + 1) listed a w := wpAnyH_take hi hs hf hr hQ hy hS h

attribute [local go_sem ↓] eqM6
set_option maxRecDepth 100000 in
set_option maxHeartbeats 32000000 in
theorem specIsGroup_any {lo hi : Nat} {v : Value} {xs : List M6} {w : World} (f A B C : Int) (h : SRow lo hi 6 v xs.length (fm xs) w) (hn : xs.length ≤ 1048576) :
    Calls Tryz.prog 71 #[.int .i64 f, .agg #[.int .i64 A, .int .i64 B, .int .i64 C], v] w fun e w' => e = .returned (.bool (grpB f A B C xs)) ∧ Below w.heap.size w w' := by
  have L0 : Kt w.heap.size A B C (w.alloc (.cells #[.int .i64 A, .int .i64 B, .int .i64 C] 32)) := Kt.at _ rfl
  have B0 : Below w.heap.size w (w.alloc (.cells #[.int .i64 A, .int .i64 B, .int .i64 C] 32)) := (Below.refl _ _).alloc (Nat.le_refl _) _
  have L0c := L0.cells
  have C0 := Lib.hid (fun W => l04Code_any f A B C W)
  have HNN := Lib.hid hn
  rcases hF : flB f A B C with _ | _
  · have HG := Lib.hid (grp_fl (L := xs) hF)
    rw [show flC f A B C = 1 by simp [flC, hF]] at C0
    clear h hn hF
    go_enter Tryz.func71, Tryz.ntmps71
    go_wp2_with fail
    refine (C0.out _).mono ?_
    rintro e w1 ⟨rfl, hb1⟩
    have B1 := bstep B0 hb1
    clear hb1 B0 L0 L0c
    go_wp2
    go_ret
    exact ⟨ret_bool HG.out.symm, by with_reducible repeat (first | assumption | exact Below.refl _ _ | refine bstep ?_ (by assumption) | refine Below.drew ?_)⟩
  rw [show flC f A B C = 0 by simp [flC, hF]] at C0
  have HF := Lib.hid hF
  have HA := Lib.hid h
  obtain ⟨ao, cap, rfl⟩ : ∃ ao cap, v = .slice ao xs.length cap := by
    rcases h.2.2 with ⟨hz, ao, cap, rfl⟩ | ⟨g, cap, rfl, _⟩
    · exact ⟨ao, cap, by rw [hz]⟩
    · exact ⟨_, cap, rfl⟩
  obtain ⟨hf, hl⟩ := flB_parts hF
  have HFr := Lib.hid hf
  have HL := Lib.hid hl
  clear hF h hf hl
  by_cases hbig : 768 < xs.length
  · have HG : Hid (grpB f A B C xs = false) := Lib.hid (by
      rcases hg : grpB f A B C xs with _ | _
      · rfl
      · have := grp_len hg; omega)
    have hb2 : (768 : Int) < (xs.length : Int) := by omega
    have hn2 : (xs.length : Int) ≤ 1048576 := by omega
    clear hbig
    go_enter Tryz.func71, Tryz.ntmps71
    go_wp2_with fail
    refine (C0.out _).mono ?_
    rintro e w1 ⟨rfl, hb1⟩
    have B1 := bstep B0 hb1
    clear hb1 B0 L0 L0c
    go_wp2
    go_ret
    exact ⟨ret_bool HG.out.symm, by with_reducible repeat (first | assumption | exact Below.refl _ _ | refine bstep ?_ (by assumption) | refine Below.drew ?_)⟩
  have HB := Lib.hid (show xs.length ≤ 768 by omega)
  have hb2 : ¬ ((768 : Int) < (xs.length : Int)) := by omega
  clear hbig hn
  go_enter Tryz.func71, Tryz.ntmps71
  go_wp2_with fail
  refine (C0.out _).mono ?_
  rintro e w1 ⟨rfl, hb1⟩
  have L1 := L0.call hb1
  have B1 := bstep B0 hb1
  clear hb1 B0 L0 L0c
  go_wp2_with fail
  go_loopw [7] (fun s7 W => ∃ k : Nat, s7 = .int .i64 (k : Int) ∧ k ≤ xs.length ∧ Chk f A B C xs k ∧ Kt w.heap.size A B C W ∧ Below w.heap.size w W) (fun s7 _ => xs.length - (intOf s7).toNat)
  case atStart => exact ⟨0, rfl, by omega, Chk.start f A B C xs, L1, B1⟩
  case round =>
    clear L1 B1
    obtain ⟨k, rfl, hk, hC, hL, hB⟩ := hrel
    by_cases hk1 : k < xs.length
    · have hres := HA.out.2.2.resolve_left (fun h => by omega)
      have hhi := HA.out.1
      obtain ⟨g, cap', e9, _, hg, RA⟩ := hres
      simp only [Value.slice.injEq, true_and] at e9
      obtain ⟨rfl, rfl⟩ := e9
      have hgl : g < w.heap.size := by omega
      have hk2 : (k : Int) < (xs.length : Int) := by omega
      have hk3 : (k : Int) ≤ 768 := by have := HB.out; omega
      have q1 := (RA.grow hB hgl).mo k hk1
      have HK := Lib.hid hk1
      by_cases hk0 : k = 0
      · subst hk0
        have G1 := Lib.hid (fun h => chk_ok (f := f) (A := A) (B := B) (C := C) hk1 h)
        have G2 := Lib.hid (fun h => chk_red (f := f) (A := A) (B := B) (C := C) hk1 h)
        have HNX := Lib.hid (fun h1 h2 => hC.next hk1 h1 h2 (fun h => absurd h (by omega)))
        clear hC RA hg hhi
        generalize xs[0] = m at q1 G1 G2 HNX
        clear hk hk1
        obtain ⟨a, b, c, d, x, y⟩ := m
        dsimp only at q1
        have C1 := Lib.hid (fun W => specSuit_any f A B C a b c d x y W)
        rw [suit_ok] at C1
        have L0 := hL
        have X0 := q1
        have B0 := hB
        rcases hs : okM f A B C (a, b, c, d, x, y) with _ | _
        · have HG := Lib.hid (G1.out hs)
          rw [hs] at C1
          clear hs G1 G2 HNX
          go_wp2_with fail
          refine wp_region_held_drew (S := (fun W => (W.cell? ⟨w.heap.size, 0, none⟩ = some (.int .i64 A) ∧ W.cell? ⟨w.heap.size, 1, none⟩ = some (.int .i64 B) ∧ W.cell? ⟨w.heap.size, 2, none⟩ = some (.int .i64 C)) ∧ (W.cell? ⟨g, 0 * 6, none⟩ = some (.int .i64 a) ∧ W.cell? ⟨g, 0 * 6 + 1, none⟩ = some (.int .i64 b) ∧ W.cell? ⟨g, 0 * 6 + 2, none⟩ = some (.int .i64 c) ∧ W.cell? ⟨g, 0 * 6 + 3, none⟩ = some (.int .i64 d) ∧ W.cell? ⟨g, 0 * 6 + 4, none⟩ = some (.int .i64 x) ∧ W.cell? ⟨g, 0 * 6 + 5, none⟩ = some (.int .i64 y)))) (by kernel_rfl) ?_ (fun hHeld => ?_)
          · exact ⟨L0.cells, X0.cells⟩
          refine tkMg6 (i := 0) (v := ?_) (hy := Or.inl ⟨by rfl, ?_⟩) (h := ?_)
          rotate_left 1
          · (intro w hSw; (try dsimp only at hSw); go_simp) <;> with_reducible rfl
          (try simp only [Act.put, List.setIfInBounds_toArray, List.set_cons_zero, List.set_cons_succ])
          refine tkMg6 (i := 1) (v := ?_) (hy := Or.inl ⟨by rfl, ?_⟩) (h := ?_)
          rotate_left 1
          · (intro w hSw; (try dsimp only at hSw); go_simp) <;> with_reducible rfl
          (try simp only [Act.put, List.setIfInBounds_toArray, List.set_cons_zero, List.set_cons_succ])
          refine tkMg6 (i := 2) (v := ?_) (hy := Or.inl ⟨by rfl, ?_⟩) (h := ?_)
          rotate_left 1
          · (intro w hSw; (try dsimp only at hSw); go_simp) <;> with_reducible rfl
          (try simp only [Act.put, List.setIfInBounds_toArray, List.set_cons_zero, List.set_cons_succ])
          refine tkMg6 (i := 3) (v := ?_) (hy := Or.inl ⟨by rfl, ?_⟩) (h := ?_)
          rotate_left 1
          · (intro w hSw; (try dsimp only at hSw); go_simp) <;> with_reducible rfl
          (try simp only [Act.put, List.setIfInBounds_toArray, List.set_cons_zero, List.set_cons_succ])
          refine tkMg6 (i := 4) (v := ?_) (hy := Or.inl ⟨by rfl, ?_⟩) (h := ?_)
          rotate_left 1
          · (intro w hSw; (try dsimp only at hSw); go_simp) <;> with_reducible rfl
          (try simp only [Act.put, List.setIfInBounds_toArray, List.set_cons_zero, List.set_cons_succ])
          refine tkMg6 (i := 5) (v := ?_) (hy := Or.inl ⟨by rfl, ?_⟩) (h := ?_)
          rotate_left 1
          · (intro w hSw; (try dsimp only at hSw); go_simp) <;> with_reducible rfl
          (try simp only [Act.put, List.setIfInBounds_toArray, List.set_cons_zero, List.set_cons_succ])
          refine wpAnyH_ready (rs := [6]) (by kernel_rfl) (by simp) ?_
          refine AllReadyH.cons (o := _) (by (simp only [List.getElem?_toArray, List.getElem?_cons_succ, List.getElem?_cons_zero]); rfl) (fun K hK => ?_) AllReadyH.nil
          go_simp
          go_at_call 105
          refine (C1.out _).mono ?_
          rintro e u1 ⟨rfl, hb1⟩
          have L1 : Kt (w.heap.size) A B C u1 := (by with_reducible repeat (first | assumption | refine Ko6.drew ?_ | refine Ko6.alloc ?_ _ | refine Ko6.call ?_ (by assumption) | refine Kt.drew ?_ | refine Kt.alloc ?_ _ | refine Kt.call ?_ (by assumption)))
          have X1 : Ko6 (g) (0 * 6) a b c d x y u1 := (by with_reducible repeat (first | assumption | refine Ko6.drew ?_ | refine Ko6.alloc ?_ _ | refine Ko6.call ?_ (by assumption) | refine Kt.drew ?_ | refine Kt.alloc ?_ _ | refine Kt.call ?_ (by assumption)))
          have B1 : Below w.heap.size w u1 := (by with_reducible repeat (first | assumption | refine Below.drew ?_ | refine bstep ?_ (by assumption)))
          clear hb1
          go_wp2_with fail
          refine hK.out _ _ ?_ (fun hHeld => ?_)
          · (try dsimp only)
            exact ⟨L1.cells, X1.cells⟩
          clear hK K
          (try simp only [Act.put, List.setIfInBounds_toArray, List.set_cons_zero, List.set_cons_succ])
          refine tkMg6 (i := 7) (v := ?_) (hy := Or.inl ⟨by rfl, ?_⟩) (h := ?_)
          rotate_left 1
          · (intro w hSw; (try dsimp only at hSw); go_simp) <;> with_reducible rfl
          (try simp only [Act.put, List.setIfInBounds_toArray, List.set_cons_zero, List.set_cons_succ])
          refine tkMg6 (i := 8) (v := ?_) (hy := Or.inl ⟨by rfl, ?_⟩) (h := ?_)
          rotate_left 1
          · (intro w hSw; (try dsimp only at hSw); go_simp) <;> with_reducible rfl
          (try simp only [Act.put, List.setIfInBounds_toArray, List.set_cons_zero, List.set_cons_succ])
          refine tkMg6 (i := 9) (v := undef) (hy := Or.inr ⟨by rfl, rfl⟩) (h := ?_)
          (try simp only [Act.put, List.setIfInBounds_toArray, List.set_cons_zero, List.set_cons_succ])
          refine tkMg6 (i := 10) (v := undef) (hy := Or.inr ⟨by rfl, rfl⟩) (h := ?_)
          (try simp only [Act.put, List.setIfInBounds_toArray, List.set_cons_zero, List.set_cons_succ])
          refine tkMg6 (i := 11) (v := undef) (hy := Or.inr ⟨by rfl, rfl⟩) (h := ?_)
          (try simp only [Act.put, List.setIfInBounds_toArray, List.set_cons_zero, List.set_cons_succ])
          refine tkMg6 (i := 12) (v := undef) (hy := Or.inr ⟨by rfl, rfl⟩) (h := ?_)
          (try simp only [Act.put, List.setIfInBounds_toArray, List.set_cons_zero, List.set_cons_succ])
          refine tkMg6 (i := 13) (v := undef) (hy := Or.inr ⟨by rfl, rfl⟩) (h := ?_)
          (try simp only [Act.put, List.setIfInBounds_toArray, List.set_cons_zero, List.set_cons_succ])
          refine tkMg6 (i := 14) (v := undef) (hy := Or.inr ⟨by rfl, rfl⟩) (h := ?_)
          (try simp only [Act.put, List.setIfInBounds_toArray, List.set_cons_zero, List.set_cons_succ])
          refine tkMg6 (i := 15) (v := undef) (hy := Or.inr ⟨by rfl, rfl⟩) (h := ?_)
          (try simp only [Act.put, List.setIfInBounds_toArray, List.set_cons_zero, List.set_cons_succ])
          refine tkMg6 (i := 16) (v := undef) (hy := Or.inr ⟨by rfl, rfl⟩) (h := ?_)
          (try simp only [Act.put, List.setIfInBounds_toArray, List.set_cons_zero, List.set_cons_succ])
          refine tkMg6 (i := 17) (v := undef) (hy := Or.inr ⟨by rfl, rfl⟩) (h := ?_)
          (try simp only [Act.put, List.setIfInBounds_toArray, List.set_cons_zero, List.set_cons_succ])
          refine tkMg6 (i := 18) (v := undef) (hy := Or.inr ⟨by rfl, rfl⟩) (h := ?_)
          (try simp only [Act.put, List.setIfInBounds_toArray, List.set_cons_zero, List.set_cons_succ])
          refine tkMg6 (i := 19) (v := undef) (hy := Or.inr ⟨by rfl, rfl⟩) (h := ?_)
          (try simp only [Act.put, List.setIfInBounds_toArray, List.set_cons_zero, List.set_cons_succ])
          refine tkMg6 (i := 20) (v := ?_) (hy := Or.inl ⟨by rfl, ?_⟩) (h := ?_)
          rotate_left 1
          · (intro w hSw; (try dsimp only at hSw); go_simp) <;> with_reducible rfl
          (try simp only [Act.put, List.setIfInBounds_toArray, List.set_cons_zero, List.set_cons_succ])
          refine tkMg6 (i := 21) (v := ?_) (hy := Or.inl ⟨by rfl, ?_⟩) (h := ?_)
          rotate_left 1
          · (intro w hSw; (try dsimp only at hSw); go_simp) <;> with_reducible rfl
          (try simp only [Act.put, List.setIfInBounds_toArray, List.set_cons_zero, List.set_cons_succ])
          refine tkMg6 (i := 22) (v := undef) (hy := Or.inr ⟨by rfl, rfl⟩) (h := ?_)
          (try simp only [Act.put, List.setIfInBounds_toArray, List.set_cons_zero, List.set_cons_succ])
          refine tkMg6 (i := 23) (v := undef) (hy := Or.inr ⟨by rfl, rfl⟩) (h := ?_)
          (try simp only [Act.put, List.setIfInBounds_toArray, List.set_cons_zero, List.set_cons_succ])
          refine tkMg6 (i := 24) (v := undef) (hy := Or.inr ⟨by rfl, rfl⟩) (h := ?_)
          (try simp only [Act.put, List.setIfInBounds_toArray, List.set_cons_zero, List.set_cons_succ])
          refine tkMg6 (i := 25) (v := undef) (hy := Or.inr ⟨by rfl, rfl⟩) (h := ?_)
          (try simp only [Act.put, List.setIfInBounds_toArray, List.set_cons_zero, List.set_cons_succ])
          refine tkMg6 (i := 26) (v := undef) (hy := Or.inr ⟨by rfl, rfl⟩) (h := ?_)
          (try simp only [Act.put, List.setIfInBounds_toArray, List.set_cons_zero, List.set_cons_succ])
          refine tkMg6 (i := 27) (v := undef) (hy := Or.inr ⟨by rfl, rfl⟩) (h := ?_)
          (try simp only [Act.put, List.setIfInBounds_toArray, List.set_cons_zero, List.set_cons_succ])
          refine tkMg6 (i := 28) (v := undef) (hy := Or.inr ⟨by rfl, rfl⟩) (h := ?_)
          (try simp only [Act.put, List.setIfInBounds_toArray, List.set_cons_zero, List.set_cons_succ])
          refine tkMg6 (i := 29) (v := undef) (hy := Or.inr ⟨by rfl, rfl⟩) (h := ?_)
          (try simp only [Act.put, List.setIfInBounds_toArray, List.set_cons_zero, List.set_cons_succ])
          refine tkMg6 (i := 30) (v := undef) (hy := Or.inr ⟨by rfl, rfl⟩) (h := ?_)
          (try simp only [Act.put, List.setIfInBounds_toArray, List.set_cons_zero, List.set_cons_succ])
          refine tkMg6 (i := 31) (v := undef) (hy := Or.inr ⟨by rfl, rfl⟩) (h := ?_)
          (try simp only [Act.put, List.setIfInBounds_toArray, List.set_cons_zero, List.set_cons_succ])
          refine tkMg6 (i := 32) (v := undef) (hy := Or.inr ⟨by rfl, rfl⟩) (h := ?_)
          (try simp only [Act.put, List.setIfInBounds_toArray, List.set_cons_zero, List.set_cons_succ])
          refine tkMg6 (i := 33) (v := undef) (hy := Or.inr ⟨by rfl, rfl⟩) (h := ?_)
          (try simp only [Act.put, List.setIfInBounds_toArray, List.set_cons_zero, List.set_cons_succ])
          refine tkMg6 (i := 34) (v := undef) (hy := Or.inr ⟨by rfl, rfl⟩) (h := ?_)
          (try simp only [Act.put, List.setIfInBounds_toArray, List.set_cons_zero, List.set_cons_succ])
          refine tkMg6 (i := 35) (v := undef) (hy := Or.inr ⟨by rfl, rfl⟩) (h := ?_)
          (try simp only [Act.put, List.setIfInBounds_toArray, List.set_cons_zero, List.set_cons_succ])
          refine tkMg6 (i := 36) (v := undef) (hy := Or.inr ⟨by rfl, rfl⟩) (h := ?_)
          (try simp only [Act.put, List.setIfInBounds_toArray, List.set_cons_zero, List.set_cons_succ])
          refine tkMg6 (i := 37) (v := ?_) (hy := Or.inl ⟨by rfl, ?_⟩) (h := ?_)
          rotate_left 1
          · (intro w hSw; (try dsimp only at hSw); go_simp) <;> with_reducible rfl
          (try simp only [Act.put, List.setIfInBounds_toArray, List.set_cons_zero, List.set_cons_succ])
          refine wpAnyH_done (by kernel_rfl) ?_ _
          go_wp2
          go_ret
          exact ⟨ret_bool HG.out.symm, by with_reducible repeat (first | assumption | exact Below.refl _ _ | refine bstep ?_ (by assumption) | refine Below.drew ?_)⟩
        · obtain ⟨_, hx, hy⟩ := ok_mid hs
          have C2 := Lib.hid (fun W => l06Reduce_any A B C a b c d x y W HL.out hx hy)
          have HRd : Hid (decide (redM A B C (a, b, c, d, x, y) = (a, b, c, d, x, y)) = eqT6 a b c d (redX A B C x y) (redY C y) a b c d x y) := Lib.hid (eqT6_dec (redM A B C (a, b, c, d, x, y)) (a, b, c, d, x, y)).symm
          rw [hs] at C1
          have HS := Lib.hid hs
          clear hx hy hs
          rcases hr : decide (redM A B C (a, b, c, d, x, y) = (a, b, c, d, x, y)) with _ | _
          · have HG := Lib.hid (G2.out (of_decide_eq_false hr))
            rw [hr] at HRd
            clear G1 G2 HNX hr
            generalize redX A B C x y = p at C2 HRd
            generalize redY C y = q at C2 HRd
            have he := HRd.out.symm
            go_wp2_with fail
            refine wp_region_held_drew (S := (fun W => (W.cell? ⟨w.heap.size, 0, none⟩ = some (.int .i64 A) ∧ W.cell? ⟨w.heap.size, 1, none⟩ = some (.int .i64 B) ∧ W.cell? ⟨w.heap.size, 2, none⟩ = some (.int .i64 C)) ∧ (W.cell? ⟨g, 0 * 6, none⟩ = some (.int .i64 a) ∧ W.cell? ⟨g, 0 * 6 + 1, none⟩ = some (.int .i64 b) ∧ W.cell? ⟨g, 0 * 6 + 2, none⟩ = some (.int .i64 c) ∧ W.cell? ⟨g, 0 * 6 + 3, none⟩ = some (.int .i64 d) ∧ W.cell? ⟨g, 0 * 6 + 4, none⟩ = some (.int .i64 x) ∧ W.cell? ⟨g, 0 * 6 + 5, none⟩ = some (.int .i64 y)))) (by kernel_rfl) ?_ (fun hHeld => ?_)
            · exact ⟨L0.cells, X0.cells⟩
            refine tkMg6 (i := 0) (v := ?_) (hy := Or.inl ⟨by rfl, ?_⟩) (h := ?_)
            rotate_left 1
            · (intro w hSw; (try dsimp only at hSw); go_simp) <;> with_reducible rfl
            (try simp only [Act.put, List.setIfInBounds_toArray, List.set_cons_zero, List.set_cons_succ])
            refine tkMg6 (i := 1) (v := ?_) (hy := Or.inl ⟨by rfl, ?_⟩) (h := ?_)
            rotate_left 1
            · (intro w hSw; (try dsimp only at hSw); go_simp) <;> with_reducible rfl
            (try simp only [Act.put, List.setIfInBounds_toArray, List.set_cons_zero, List.set_cons_succ])
            refine tkMg6 (i := 2) (v := ?_) (hy := Or.inl ⟨by rfl, ?_⟩) (h := ?_)
            rotate_left 1
            · (intro w hSw; (try dsimp only at hSw); go_simp) <;> with_reducible rfl
            (try simp only [Act.put, List.setIfInBounds_toArray, List.set_cons_zero, List.set_cons_succ])
            refine tkMg6 (i := 3) (v := ?_) (hy := Or.inl ⟨by rfl, ?_⟩) (h := ?_)
            rotate_left 1
            · (intro w hSw; (try dsimp only at hSw); go_simp) <;> with_reducible rfl
            (try simp only [Act.put, List.setIfInBounds_toArray, List.set_cons_zero, List.set_cons_succ])
            refine tkMg6 (i := 4) (v := ?_) (hy := Or.inl ⟨by rfl, ?_⟩) (h := ?_)
            rotate_left 1
            · (intro w hSw; (try dsimp only at hSw); go_simp) <;> with_reducible rfl
            (try simp only [Act.put, List.setIfInBounds_toArray, List.set_cons_zero, List.set_cons_succ])
            refine tkMg6 (i := 5) (v := ?_) (hy := Or.inl ⟨by rfl, ?_⟩) (h := ?_)
            rotate_left 1
            · (intro w hSw; (try dsimp only at hSw); go_simp) <;> with_reducible rfl
            (try simp only [Act.put, List.setIfInBounds_toArray, List.set_cons_zero, List.set_cons_succ])
            refine wpAnyH_ready (rs := [6]) (by kernel_rfl) (by simp) ?_
            refine AllReadyH.cons (o := _) (by (simp only [List.getElem?_toArray, List.getElem?_cons_succ, List.getElem?_cons_zero]); rfl) (fun K hK => ?_) AllReadyH.nil
            go_simp
            go_at_call 105
            refine (C1.out _).mono ?_
            rintro e u1 ⟨rfl, hb1⟩
            have L1 : Kt (w.heap.size) A B C u1 := (by with_reducible repeat (first | assumption | refine Ko6.drew ?_ | refine Ko6.alloc ?_ _ | refine Ko6.call ?_ (by assumption) | refine Kt.drew ?_ | refine Kt.alloc ?_ _ | refine Kt.call ?_ (by assumption)))
            have X1 : Ko6 (g) (0 * 6) a b c d x y u1 := (by with_reducible repeat (first | assumption | refine Ko6.drew ?_ | refine Ko6.alloc ?_ _ | refine Ko6.call ?_ (by assumption) | refine Kt.drew ?_ | refine Kt.alloc ?_ _ | refine Kt.call ?_ (by assumption)))
            have B1 : Below w.heap.size w u1 := (by with_reducible repeat (first | assumption | refine Below.drew ?_ | refine bstep ?_ (by assumption)))
            clear hb1
            go_wp2_with fail
            refine hK.out _ _ ?_ (fun hHeld => ?_)
            · (try dsimp only)
              exact ⟨L1.cells, X1.cells⟩
            clear hK K
            (try simp only [Act.put, List.setIfInBounds_toArray, List.set_cons_zero, List.set_cons_succ])
            refine tkMg6 (i := 7) (v := ?_) (hy := Or.inl ⟨by rfl, ?_⟩) (h := ?_)
            rotate_left 1
            · (intro w hSw; (try dsimp only at hSw); go_simp) <;> with_reducible rfl
            (try simp only [Act.put, List.setIfInBounds_toArray, List.set_cons_zero, List.set_cons_succ])
            refine tkMg6 (i := 8) (v := ?_) (hy := Or.inl ⟨by rfl, ?_⟩) (h := ?_)
            rotate_left 1
            · (intro w hSw; (try dsimp only at hSw); go_simp) <;> with_reducible rfl
            (try simp only [Act.put, List.setIfInBounds_toArray, List.set_cons_zero, List.set_cons_succ])
            refine tkMg6 (i := 9) (v := ?_) (hy := Or.inl ⟨by rfl, ?_⟩) (h := ?_)
            rotate_left 1
            · (intro w hSw; (try dsimp only at hSw); go_simp) <;> with_reducible rfl
            (try simp only [Act.put, List.setIfInBounds_toArray, List.set_cons_zero, List.set_cons_succ])
            refine tkMg6 (i := 10) (v := ?_) (hy := Or.inl ⟨by rfl, ?_⟩) (h := ?_)
            rotate_left 1
            · (intro w hSw; (try dsimp only at hSw); go_simp) <;> with_reducible rfl
            (try simp only [Act.put, List.setIfInBounds_toArray, List.set_cons_zero, List.set_cons_succ])
            refine tkMg6 (i := 11) (v := ?_) (hy := Or.inl ⟨by rfl, ?_⟩) (h := ?_)
            rotate_left 1
            · (intro w hSw; (try dsimp only at hSw); go_simp) <;> with_reducible rfl
            (try simp only [Act.put, List.setIfInBounds_toArray, List.set_cons_zero, List.set_cons_succ])
            refine tkMg6 (i := 12) (v := ?_) (hy := Or.inl ⟨by rfl, ?_⟩) (h := ?_)
            rotate_left 1
            · (intro w hSw; (try dsimp only at hSw); go_simp) <;> with_reducible rfl
            (try simp only [Act.put, List.setIfInBounds_toArray, List.set_cons_zero, List.set_cons_succ])
            refine tkMg6 (i := 13) (v := ?_) (hy := Or.inl ⟨by rfl, ?_⟩) (h := ?_)
            rotate_left 1
            · (intro w hSw; (try dsimp only at hSw); go_simp) <;> with_reducible rfl
            (try simp only [Act.put, List.setIfInBounds_toArray, List.set_cons_zero, List.set_cons_succ])
            refine tkMg6 (i := 15) (v := ?_) (hy := Or.inl ⟨by rfl, ?_⟩) (h := ?_)
            rotate_left 1
            · (intro w hSw; (try dsimp only at hSw); go_simp) <;> with_reducible rfl
            (try simp only [Act.put, List.setIfInBounds_toArray, List.set_cons_zero, List.set_cons_succ])
            refine tkMg6 (i := 16) (v := ?_) (hy := Or.inl ⟨by rfl, ?_⟩) (h := ?_)
            rotate_left 1
            · (intro w hSw; (try dsimp only at hSw); go_simp) <;> with_reducible rfl
            (try simp only [Act.put, List.setIfInBounds_toArray, List.set_cons_zero, List.set_cons_succ])
            refine tkMg6 (i := 17) (v := ?_) (hy := Or.inl ⟨by rfl, ?_⟩) (h := ?_)
            rotate_left 1
            · (intro w hSw; (try dsimp only at hSw); go_simp) <;> with_reducible rfl
            (try simp only [Act.put, List.setIfInBounds_toArray, List.set_cons_zero, List.set_cons_succ])
            refine tkMg6 (i := 18) (v := ?_) (hy := Or.inl ⟨by rfl, ?_⟩) (h := ?_)
            rotate_left 1
            · (intro w hSw; (try dsimp only at hSw); go_simp) <;> with_reducible rfl
            (try simp only [Act.put, List.setIfInBounds_toArray, List.set_cons_zero, List.set_cons_succ])
            refine wpAnyH_ready (rs := [14]) (by kernel_rfl) (by simp) ?_
            refine AllReadyH.cons (o := _) (by (simp only [List.getElem?_toArray, List.getElem?_cons_succ, List.getElem?_cons_zero]); rfl) (fun K hK => ?_) AllReadyH.nil
            go_simp
            go_at_call 102
            refine (C2.out _).mono ?_
            rintro e u2 ⟨rfl, hb2⟩
            have L2 : Kt (w.heap.size) A B C u2 := (by with_reducible repeat (first | assumption | refine Ko6.drew ?_ | refine Ko6.alloc ?_ _ | refine Ko6.call ?_ (by assumption) | refine Kt.drew ?_ | refine Kt.alloc ?_ _ | refine Kt.call ?_ (by assumption)))
            have X2 : Ko6 (g) (0 * 6) a b c d x y u2 := (by with_reducible repeat (first | assumption | refine Ko6.drew ?_ | refine Ko6.alloc ?_ _ | refine Ko6.call ?_ (by assumption) | refine Kt.drew ?_ | refine Kt.alloc ?_ _ | refine Kt.call ?_ (by assumption)))
            have B2 : Below w.heap.size w u2 := (by with_reducible repeat (first | assumption | refine Below.drew ?_ | refine bstep ?_ (by assumption)))
            clear hb2
            go_wp2_with fail
            refine hK.out _ _ ?_ (fun hHeld => ?_)
            · (try dsimp only)
              exact ⟨L2.cells, X2.cells⟩
            clear hK K
            (try simp only [Act.put, List.setIfInBounds_toArray, List.set_cons_zero, List.set_cons_succ])
            refine tkMg6 (i := 19) (v := ?_) (hy := Or.inl ⟨by rfl, ?_⟩) (h := ?_)
            rotate_left 1
            · (intro w hSw; (try dsimp only at hSw); go_simp) <;> with_reducible rfl
            (try simp only [Act.put, List.setIfInBounds_toArray, List.set_cons_zero, List.set_cons_succ])
            refine tkMg6 (i := 20) (v := ?_) (hy := Or.inl ⟨by rfl, ?_⟩) (h := ?_)
            rotate_left 1
            · (intro w hSw; (try dsimp only at hSw); go_simp) <;> with_reducible rfl
            (try simp only [Act.put, List.setIfInBounds_toArray, List.set_cons_zero, List.set_cons_succ])
            refine tkMg6 (i := 21) (v := ?_) (hy := Or.inl ⟨by rfl, ?_⟩) (h := ?_)
            rotate_left 1
            · (intro w hSw; (try dsimp only at hSw); go_simp) <;> with_reducible rfl
            (try simp only [Act.put, List.setIfInBounds_toArray, List.set_cons_zero, List.set_cons_succ])
            refine tkMg6 (i := 22) (v := undef) (hy := Or.inr ⟨by rfl, rfl⟩) (h := ?_)
            (try simp only [Act.put, List.setIfInBounds_toArray, List.set_cons_zero, List.set_cons_succ])
            refine tkMg6 (i := 23) (v := undef) (hy := Or.inr ⟨by rfl, rfl⟩) (h := ?_)
            (try simp only [Act.put, List.setIfInBounds_toArray, List.set_cons_zero, List.set_cons_succ])
            refine tkMg6 (i := 24) (v := undef) (hy := Or.inr ⟨by rfl, rfl⟩) (h := ?_)
            (try simp only [Act.put, List.setIfInBounds_toArray, List.set_cons_zero, List.set_cons_succ])
            refine tkMg6 (i := 25) (v := undef) (hy := Or.inr ⟨by rfl, rfl⟩) (h := ?_)
            (try simp only [Act.put, List.setIfInBounds_toArray, List.set_cons_zero, List.set_cons_succ])
            refine tkMg6 (i := 26) (v := undef) (hy := Or.inr ⟨by rfl, rfl⟩) (h := ?_)
            (try simp only [Act.put, List.setIfInBounds_toArray, List.set_cons_zero, List.set_cons_succ])
            refine tkMg6 (i := 27) (v := undef) (hy := Or.inr ⟨by rfl, rfl⟩) (h := ?_)
            (try simp only [Act.put, List.setIfInBounds_toArray, List.set_cons_zero, List.set_cons_succ])
            refine tkMg6 (i := 28) (v := undef) (hy := Or.inr ⟨by rfl, rfl⟩) (h := ?_)
            (try simp only [Act.put, List.setIfInBounds_toArray, List.set_cons_zero, List.set_cons_succ])
            refine tkMg6 (i := 29) (v := undef) (hy := Or.inr ⟨by rfl, rfl⟩) (h := ?_)
            (try simp only [Act.put, List.setIfInBounds_toArray, List.set_cons_zero, List.set_cons_succ])
            refine tkMg6 (i := 30) (v := undef) (hy := Or.inr ⟨by rfl, rfl⟩) (h := ?_)
            (try simp only [Act.put, List.setIfInBounds_toArray, List.set_cons_zero, List.set_cons_succ])
            refine tkMg6 (i := 31) (v := undef) (hy := Or.inr ⟨by rfl, rfl⟩) (h := ?_)
            (try simp only [Act.put, List.setIfInBounds_toArray, List.set_cons_zero, List.set_cons_succ])
            refine tkMg6 (i := 32) (v := undef) (hy := Or.inr ⟨by rfl, rfl⟩) (h := ?_)
            (try simp only [Act.put, List.setIfInBounds_toArray, List.set_cons_zero, List.set_cons_succ])
            refine tkMg6 (i := 33) (v := undef) (hy := Or.inr ⟨by rfl, rfl⟩) (h := ?_)
            (try simp only [Act.put, List.setIfInBounds_toArray, List.set_cons_zero, List.set_cons_succ])
            refine tkMg6 (i := 34) (v := undef) (hy := Or.inr ⟨by rfl, rfl⟩) (h := ?_)
            (try simp only [Act.put, List.setIfInBounds_toArray, List.set_cons_zero, List.set_cons_succ])
            refine tkMg6 (i := 35) (v := undef) (hy := Or.inr ⟨by rfl, rfl⟩) (h := ?_)
            (try simp only [Act.put, List.setIfInBounds_toArray, List.set_cons_zero, List.set_cons_succ])
            refine tkMg6 (i := 36) (v := undef) (hy := Or.inr ⟨by rfl, rfl⟩) (h := ?_)
            (try simp only [Act.put, List.setIfInBounds_toArray, List.set_cons_zero, List.set_cons_succ])
            refine tkMg6 (i := 37) (v := ?_) (hy := Or.inl ⟨by rfl, ?_⟩) (h := ?_)
            rotate_left 1
            · (intro w hSw; (try dsimp only at hSw); go_simp) <;> with_reducible rfl
            (try simp only [Act.put, List.setIfInBounds_toArray, List.set_cons_zero, List.set_cons_succ])
            refine wpAnyH_done (by kernel_rfl) ?_ _
            go_wp2
            go_ret
            exact ⟨ret_bool HG.out.symm, by with_reducible repeat (first | assumption | exact Below.refl _ _ | refine bstep ?_ (by assumption) | refine Below.drew ?_)⟩
          · rw [hr] at HRd
            have HNY := Lib.hid (HNX.out HS.out (of_decide_eq_true hr))
            clear G1 G2 HNX hr
            generalize redX A B C x y = p at C2 HRd
            generalize redY C y = q at C2 HRd
            have he := HRd.out.symm
            have HN2 := HNY
            go_wp2_with fail
            refine wp_region_held_drew (S := (fun W => (W.cell? ⟨w.heap.size, 0, none⟩ = some (.int .i64 A) ∧ W.cell? ⟨w.heap.size, 1, none⟩ = some (.int .i64 B) ∧ W.cell? ⟨w.heap.size, 2, none⟩ = some (.int .i64 C)) ∧ (W.cell? ⟨g, 0 * 6, none⟩ = some (.int .i64 a) ∧ W.cell? ⟨g, 0 * 6 + 1, none⟩ = some (.int .i64 b) ∧ W.cell? ⟨g, 0 * 6 + 2, none⟩ = some (.int .i64 c) ∧ W.cell? ⟨g, 0 * 6 + 3, none⟩ = some (.int .i64 d) ∧ W.cell? ⟨g, 0 * 6 + 4, none⟩ = some (.int .i64 x) ∧ W.cell? ⟨g, 0 * 6 + 5, none⟩ = some (.int .i64 y)))) (by kernel_rfl) ?_ (fun hHeld => ?_)
            · exact ⟨L0.cells, X0.cells⟩
            refine tkMg6 (i := 0) (v := ?_) (hy := Or.inl ⟨by rfl, ?_⟩) (h := ?_)
            rotate_left 1
            · (intro w hSw; (try dsimp only at hSw); go_simp) <;> with_reducible rfl
            (try simp only [Act.put, List.setIfInBounds_toArray, List.set_cons_zero, List.set_cons_succ])
            refine tkMg6 (i := 1) (v := ?_) (hy := Or.inl ⟨by rfl, ?_⟩) (h := ?_)
            rotate_left 1
            · (intro w hSw; (try dsimp only at hSw); go_simp) <;> with_reducible rfl
            (try simp only [Act.put, List.setIfInBounds_toArray, List.set_cons_zero, List.set_cons_succ])
            refine tkMg6 (i := 2) (v := ?_) (hy := Or.inl ⟨by rfl, ?_⟩) (h := ?_)
            rotate_left 1
            · (intro w hSw; (try dsimp only at hSw); go_simp) <;> with_reducible rfl
            (try simp only [Act.put, List.setIfInBounds_toArray, List.set_cons_zero, List.set_cons_succ])
            refine tkMg6 (i := 3) (v := ?_) (hy := Or.inl ⟨by rfl, ?_⟩) (h := ?_)
            rotate_left 1
            · (intro w hSw; (try dsimp only at hSw); go_simp) <;> with_reducible rfl
            (try simp only [Act.put, List.setIfInBounds_toArray, List.set_cons_zero, List.set_cons_succ])
            refine tkMg6 (i := 4) (v := ?_) (hy := Or.inl ⟨by rfl, ?_⟩) (h := ?_)
            rotate_left 1
            · (intro w hSw; (try dsimp only at hSw); go_simp) <;> with_reducible rfl
            (try simp only [Act.put, List.setIfInBounds_toArray, List.set_cons_zero, List.set_cons_succ])
            refine tkMg6 (i := 5) (v := ?_) (hy := Or.inl ⟨by rfl, ?_⟩) (h := ?_)
            rotate_left 1
            · (intro w hSw; (try dsimp only at hSw); go_simp) <;> with_reducible rfl
            (try simp only [Act.put, List.setIfInBounds_toArray, List.set_cons_zero, List.set_cons_succ])
            refine wpAnyH_ready (rs := [6]) (by kernel_rfl) (by simp) ?_
            refine AllReadyH.cons (o := _) (by (simp only [List.getElem?_toArray, List.getElem?_cons_succ, List.getElem?_cons_zero]); rfl) (fun K hK => ?_) AllReadyH.nil
            go_simp
            go_at_call 105
            refine (C1.out _).mono ?_
            rintro e u1 ⟨rfl, hb1⟩
            have L1 : Kt (w.heap.size) A B C u1 := (by with_reducible repeat (first | assumption | refine Ko6.drew ?_ | refine Ko6.alloc ?_ _ | refine Ko6.call ?_ (by assumption) | refine Kt.drew ?_ | refine Kt.alloc ?_ _ | refine Kt.call ?_ (by assumption)))
            have X1 : Ko6 (g) (0 * 6) a b c d x y u1 := (by with_reducible repeat (first | assumption | refine Ko6.drew ?_ | refine Ko6.alloc ?_ _ | refine Ko6.call ?_ (by assumption) | refine Kt.drew ?_ | refine Kt.alloc ?_ _ | refine Kt.call ?_ (by assumption)))
            have B1 : Below w.heap.size w u1 := (by with_reducible repeat (first | assumption | refine Below.drew ?_ | refine bstep ?_ (by assumption)))
            clear hb1
            go_wp2_with fail
            refine hK.out _ _ ?_ (fun hHeld => ?_)
            · (try dsimp only)
              exact ⟨L1.cells, X1.cells⟩
            clear hK K
            (try simp only [Act.put, List.setIfInBounds_toArray, List.set_cons_zero, List.set_cons_succ])
            refine tkMg6 (i := 7) (v := ?_) (hy := Or.inl ⟨by rfl, ?_⟩) (h := ?_)
            rotate_left 1
            · (intro w hSw; (try dsimp only at hSw); go_simp) <;> with_reducible rfl
            (try simp only [Act.put, List.setIfInBounds_toArray, List.set_cons_zero, List.set_cons_succ])
            refine tkMg6 (i := 8) (v := ?_) (hy := Or.inl ⟨by rfl, ?_⟩) (h := ?_)
            rotate_left 1
            · (intro w hSw; (try dsimp only at hSw); go_simp) <;> with_reducible rfl
            (try simp only [Act.put, List.setIfInBounds_toArray, List.set_cons_zero, List.set_cons_succ])
            refine tkMg6 (i := 9) (v := ?_) (hy := Or.inl ⟨by rfl, ?_⟩) (h := ?_)
            rotate_left 1
            · (intro w hSw; (try dsimp only at hSw); go_simp) <;> with_reducible rfl
            (try simp only [Act.put, List.setIfInBounds_toArray, List.set_cons_zero, List.set_cons_succ])
            refine tkMg6 (i := 10) (v := ?_) (hy := Or.inl ⟨by rfl, ?_⟩) (h := ?_)
            rotate_left 1
            · (intro w hSw; (try dsimp only at hSw); go_simp) <;> with_reducible rfl
            (try simp only [Act.put, List.setIfInBounds_toArray, List.set_cons_zero, List.set_cons_succ])
            refine tkMg6 (i := 11) (v := ?_) (hy := Or.inl ⟨by rfl, ?_⟩) (h := ?_)
            rotate_left 1
            · (intro w hSw; (try dsimp only at hSw); go_simp) <;> with_reducible rfl
            (try simp only [Act.put, List.setIfInBounds_toArray, List.set_cons_zero, List.set_cons_succ])
            refine tkMg6 (i := 12) (v := ?_) (hy := Or.inl ⟨by rfl, ?_⟩) (h := ?_)
            rotate_left 1
            · (intro w hSw; (try dsimp only at hSw); go_simp) <;> with_reducible rfl
            (try simp only [Act.put, List.setIfInBounds_toArray, List.set_cons_zero, List.set_cons_succ])
            refine tkMg6 (i := 13) (v := ?_) (hy := Or.inl ⟨by rfl, ?_⟩) (h := ?_)
            rotate_left 1
            · (intro w hSw; (try dsimp only at hSw); go_simp) <;> with_reducible rfl
            (try simp only [Act.put, List.setIfInBounds_toArray, List.set_cons_zero, List.set_cons_succ])
            refine tkMg6 (i := 15) (v := ?_) (hy := Or.inl ⟨by rfl, ?_⟩) (h := ?_)
            rotate_left 1
            · (intro w hSw; (try dsimp only at hSw); go_simp) <;> with_reducible rfl
            (try simp only [Act.put, List.setIfInBounds_toArray, List.set_cons_zero, List.set_cons_succ])
            refine tkMg6 (i := 16) (v := ?_) (hy := Or.inl ⟨by rfl, ?_⟩) (h := ?_)
            rotate_left 1
            · (intro w hSw; (try dsimp only at hSw); go_simp) <;> with_reducible rfl
            (try simp only [Act.put, List.setIfInBounds_toArray, List.set_cons_zero, List.set_cons_succ])
            refine tkMg6 (i := 17) (v := ?_) (hy := Or.inl ⟨by rfl, ?_⟩) (h := ?_)
            rotate_left 1
            · (intro w hSw; (try dsimp only at hSw); go_simp) <;> with_reducible rfl
            (try simp only [Act.put, List.setIfInBounds_toArray, List.set_cons_zero, List.set_cons_succ])
            refine tkMg6 (i := 18) (v := ?_) (hy := Or.inl ⟨by rfl, ?_⟩) (h := ?_)
            rotate_left 1
            · (intro w hSw; (try dsimp only at hSw); go_simp) <;> with_reducible rfl
            (try simp only [Act.put, List.setIfInBounds_toArray, List.set_cons_zero, List.set_cons_succ])
            refine wpAnyH_ready (rs := [14]) (by kernel_rfl) (by simp) ?_
            refine AllReadyH.cons (o := _) (by (simp only [List.getElem?_toArray, List.getElem?_cons_succ, List.getElem?_cons_zero]); rfl) (fun K hK => ?_) AllReadyH.nil
            go_simp
            go_at_call 102
            refine (C2.out _).mono ?_
            rintro e u2 ⟨rfl, hb2⟩
            have L2 : Kt (w.heap.size) A B C u2 := (by with_reducible repeat (first | assumption | refine Ko6.drew ?_ | refine Ko6.alloc ?_ _ | refine Ko6.call ?_ (by assumption) | refine Kt.drew ?_ | refine Kt.alloc ?_ _ | refine Kt.call ?_ (by assumption)))
            have X2 : Ko6 (g) (0 * 6) a b c d x y u2 := (by with_reducible repeat (first | assumption | refine Ko6.drew ?_ | refine Ko6.alloc ?_ _ | refine Ko6.call ?_ (by assumption) | refine Kt.drew ?_ | refine Kt.alloc ?_ _ | refine Kt.call ?_ (by assumption)))
            have B2 : Below w.heap.size w u2 := (by with_reducible repeat (first | assumption | refine Below.drew ?_ | refine bstep ?_ (by assumption)))
            clear hb2
            go_wp2_with fail
            refine hK.out _ _ ?_ (fun hHeld => ?_)
            · (try dsimp only)
              exact ⟨L2.cells, X2.cells⟩
            clear hK K
            (try simp only [Act.put, List.setIfInBounds_toArray, List.set_cons_zero, List.set_cons_succ])
            refine tkMg6 (i := 19) (v := ?_) (hy := Or.inl ⟨by rfl, ?_⟩) (h := ?_)
            rotate_left 1
            · (intro w hSw; (try dsimp only at hSw); go_simp) <;> with_reducible rfl
            (try simp only [Act.put, List.setIfInBounds_toArray, List.set_cons_zero, List.set_cons_succ])
            refine tkMg6 (i := 20) (v := ?_) (hy := Or.inl ⟨by rfl, ?_⟩) (h := ?_)
            rotate_left 1
            · (intro w hSw; (try dsimp only at hSw); go_simp) <;> with_reducible rfl
            (try simp only [Act.put, List.setIfInBounds_toArray, List.set_cons_zero, List.set_cons_succ])
            refine tkMg6 (i := 21) (v := ?_) (hy := Or.inl ⟨by rfl, ?_⟩) (h := ?_)
            rotate_left 1
            · (intro w hSw; (try dsimp only at hSw); go_simp) <;> with_reducible rfl
            (try simp only [Act.put, List.setIfInBounds_toArray, List.set_cons_zero, List.set_cons_succ])
            refine tkMg6 (i := 22) (v := ?_) (hy := Or.inl ⟨by rfl, ?_⟩) (h := ?_)
            rotate_left 1
            · (intro w hSw; (try dsimp only at hSw); go_simp) <;> with_reducible rfl
            (try simp only [Act.put, List.setIfInBounds_toArray, List.set_cons_zero, List.set_cons_succ])
            refine tkMg6 (i := 23) (v := ?_) (hy := Or.inl ⟨by rfl, ?_⟩) (h := ?_)
            rotate_left 1
            · (intro w hSw; (try dsimp only at hSw); go_simp) <;> with_reducible rfl
            (try simp only [Act.put, List.setIfInBounds_toArray, List.set_cons_zero, List.set_cons_succ])
            refine tkMg6 (i := 24) (v := ?_) (hy := Or.inl ⟨by rfl, ?_⟩) (h := ?_)
            rotate_left 1
            · (intro w hSw; (try dsimp only at hSw); go_simp) <;> with_reducible rfl
            (try simp only [Act.put, List.setIfInBounds_toArray, List.set_cons_zero, List.set_cons_succ])
            refine tkMg6 (i := 25) (v := undef) (hy := Or.inr ⟨by rfl, rfl⟩) (h := ?_)
            (try simp only [Act.put, List.setIfInBounds_toArray, List.set_cons_zero, List.set_cons_succ])
            refine tkMg6 (i := 26) (v := undef) (hy := Or.inr ⟨by rfl, rfl⟩) (h := ?_)
            (try simp only [Act.put, List.setIfInBounds_toArray, List.set_cons_zero, List.set_cons_succ])
            refine tkMg6 (i := 27) (v := undef) (hy := Or.inr ⟨by rfl, rfl⟩) (h := ?_)
            (try simp only [Act.put, List.setIfInBounds_toArray, List.set_cons_zero, List.set_cons_succ])
            refine tkMg6 (i := 28) (v := undef) (hy := Or.inr ⟨by rfl, rfl⟩) (h := ?_)
            (try simp only [Act.put, List.setIfInBounds_toArray, List.set_cons_zero, List.set_cons_succ])
            refine tkMg6 (i := 29) (v := undef) (hy := Or.inr ⟨by rfl, rfl⟩) (h := ?_)
            (try simp only [Act.put, List.setIfInBounds_toArray, List.set_cons_zero, List.set_cons_succ])
            refine tkMg6 (i := 30) (v := undef) (hy := Or.inr ⟨by rfl, rfl⟩) (h := ?_)
            (try simp only [Act.put, List.setIfInBounds_toArray, List.set_cons_zero, List.set_cons_succ])
            refine tkMg6 (i := 31) (v := undef) (hy := Or.inr ⟨by rfl, rfl⟩) (h := ?_)
            (try simp only [Act.put, List.setIfInBounds_toArray, List.set_cons_zero, List.set_cons_succ])
            refine tkMg6 (i := 32) (v := undef) (hy := Or.inr ⟨by rfl, rfl⟩) (h := ?_)
            (try simp only [Act.put, List.setIfInBounds_toArray, List.set_cons_zero, List.set_cons_succ])
            refine tkMg6 (i := 33) (v := undef) (hy := Or.inr ⟨by rfl, rfl⟩) (h := ?_)
            (try simp only [Act.put, List.setIfInBounds_toArray, List.set_cons_zero, List.set_cons_succ])
            refine tkMg6 (i := 34) (v := undef) (hy := Or.inr ⟨by rfl, rfl⟩) (h := ?_)
            (try simp only [Act.put, List.setIfInBounds_toArray, List.set_cons_zero, List.set_cons_succ])
            refine tkMg6 (i := 35) (v := undef) (hy := Or.inr ⟨by rfl, rfl⟩) (h := ?_)
            (try simp only [Act.put, List.setIfInBounds_toArray, List.set_cons_zero, List.set_cons_succ])
            refine tkMg6 (i := 36) (v := ?_) (hy := Or.inl ⟨by rfl, ?_⟩) (h := ?_)
            rotate_left 1
            · (intro w hSw; (try dsimp only at hSw); go_simp) <;> with_reducible rfl
            (try simp only [Act.put, List.setIfInBounds_toArray, List.set_cons_zero, List.set_cons_succ])
            refine tkMg6 (i := 37) (v := ?_) (hy := Or.inl ⟨by rfl, ?_⟩) (h := ?_)
            rotate_left 1
            · (intro w hSw; (try dsimp only at hSw); go_simp) <;> with_reducible rfl
            (try simp only [Act.put, List.setIfInBounds_toArray, List.set_cons_zero, List.set_cons_succ])
            refine wpAnyH_done (by kernel_rfl) ?_ _
            go_wp2
            go_roundw
            case rel => exact ⟨0 + 1, by go_num, by have := HK.out; omega, HN2.out, by with_reducible repeat (first | assumption | refine Kt.drew ?_ | refine Kt.alloc ?_ _ | refine Kt.call ?_ (by assumption) | refine Ko6.drew ?_ | refine Ko6.alloc ?_ _ | refine Ko6.call ?_ (by assumption)), by with_reducible repeat (first | assumption | exact Below.refl _ _ | refine bstep ?_ (by assumption) | refine Below.drew ?_)⟩
            case measure => (have := HK.out); first | (simp [intOf]; done) | (simp [intOf]; omega)
      · obtain ⟨j, hkj1⟩ : ∃ j, k = j + 1 := ⟨k - 1, by omega⟩
        have hj1 : j < xs.length := by omega
        have q2 := (RA.grow hB hgl).mo j hj1
        have ej : xs[k - 1]'(by omega) = xs[j] := by have e : k - 1 = j := by omega
                                                     simp only [e]
        have G1 := Lib.hid (fun h => chk_ok (f := f) (A := A) (B := B) (C := C) hk1 h)
        have G2 := Lib.hid (fun h => chk_red (f := f) (A := A) (B := B) (C := C) hk1 h)
        have G3 := Lib.hid (fun (h : ltM xs[j] xs[k] = false) => chk_up (f := f) (A := A) (B := B) (C := C) hk1 (by omega) (by rw [ej]; exact h))
        have HNX := Lib.hid (fun h1 h2 (h : ltM xs[j] xs[k] = true) => hC.next hk1 h1 h2 (fun _ => by rw [ej]; exact h))
        have hj2 : (j : Int) < (xs.length : Int) := by omega
        have hj3 : (j : Int) ≤ 768 := by have := HB.out; omega
        have hkj : (k : Int) - 1 = (j : Int) := by omega
        have hwj : IntKind.i64.wrap (j : Int) = (j : Int) := IntWalk.i64_in _ (by omega)
        have hk5 : (0 : Int) < (k : Int) := by omega
        have hk7 : 0 < k := by omega
        have hk6 : decide ((0 : Int) < (k : Int)) = true := decide_eq_true hk5
        clear hC RA hg hhi ej hkj1
        generalize xs[k] = m at q1 G1 G2 G3 HNX
        generalize xs[j] = n at q2 G3 HNX
        clear hk hk1 hj1 hk0
        obtain ⟨a', b', c', d', x', y'⟩ := n
        dsimp only at q2
        obtain ⟨a, b, c, d, x, y⟩ := m
        dsimp only at q1
        have C1 := Lib.hid (fun W => specSuit_any f A B C a b c d x y W)
        rw [suit_ok] at C1
        have L0 := hL
        have X0 := q1
        have B0 := hB
        rcases hs : okM f A B C (a, b, c, d, x, y) with _ | _
        · have HG := Lib.hid (G1.out hs)
          rw [hs] at C1
          clear hs G1 G2 HNX
          go_wp2_with fail
          refine wp_region_held_drew (S := (fun W => (W.cell? ⟨w.heap.size, 0, none⟩ = some (.int .i64 A) ∧ W.cell? ⟨w.heap.size, 1, none⟩ = some (.int .i64 B) ∧ W.cell? ⟨w.heap.size, 2, none⟩ = some (.int .i64 C)) ∧ (W.cell? ⟨g, k * 6, none⟩ = some (.int .i64 a) ∧ W.cell? ⟨g, k * 6 + 1, none⟩ = some (.int .i64 b) ∧ W.cell? ⟨g, k * 6 + 2, none⟩ = some (.int .i64 c) ∧ W.cell? ⟨g, k * 6 + 3, none⟩ = some (.int .i64 d) ∧ W.cell? ⟨g, k * 6 + 4, none⟩ = some (.int .i64 x) ∧ W.cell? ⟨g, k * 6 + 5, none⟩ = some (.int .i64 y)))) (by kernel_rfl) ?_ (fun hHeld => ?_)
          · exact ⟨L0.cells, X0.cells⟩
          refine tkMg6 (i := 0) (v := ?_) (hy := Or.inl ⟨by rfl, ?_⟩) (h := ?_)
          rotate_left 1
          · (intro w hSw; (try dsimp only at hSw); go_simp) <;> with_reducible rfl
          (try simp only [Act.put, List.setIfInBounds_toArray, List.set_cons_zero, List.set_cons_succ])
          refine tkMg6 (i := 1) (v := ?_) (hy := Or.inl ⟨by rfl, ?_⟩) (h := ?_)
          rotate_left 1
          · (intro w hSw; (try dsimp only at hSw); go_simp) <;> with_reducible rfl
          (try simp only [Act.put, List.setIfInBounds_toArray, List.set_cons_zero, List.set_cons_succ])
          refine tkMg6 (i := 2) (v := ?_) (hy := Or.inl ⟨by rfl, ?_⟩) (h := ?_)
          rotate_left 1
          · (intro w hSw; (try dsimp only at hSw); go_simp) <;> with_reducible rfl
          (try simp only [Act.put, List.setIfInBounds_toArray, List.set_cons_zero, List.set_cons_succ])
          refine tkMg6 (i := 3) (v := ?_) (hy := Or.inl ⟨by rfl, ?_⟩) (h := ?_)
          rotate_left 1
          · (intro w hSw; (try dsimp only at hSw); go_simp) <;> with_reducible rfl
          (try simp only [Act.put, List.setIfInBounds_toArray, List.set_cons_zero, List.set_cons_succ])
          refine tkMg6 (i := 4) (v := ?_) (hy := Or.inl ⟨by rfl, ?_⟩) (h := ?_)
          rotate_left 1
          · (intro w hSw; (try dsimp only at hSw); go_simp) <;> with_reducible rfl
          (try simp only [Act.put, List.setIfInBounds_toArray, List.set_cons_zero, List.set_cons_succ])
          refine tkMg6 (i := 5) (v := ?_) (hy := Or.inl ⟨by rfl, ?_⟩) (h := ?_)
          rotate_left 1
          · (intro w hSw; (try dsimp only at hSw); go_simp) <;> with_reducible rfl
          (try simp only [Act.put, List.setIfInBounds_toArray, List.set_cons_zero, List.set_cons_succ])
          refine wpAnyH_ready (rs := [6]) (by kernel_rfl) (by simp) ?_
          refine AllReadyH.cons (o := _) (by (simp only [List.getElem?_toArray, List.getElem?_cons_succ, List.getElem?_cons_zero]); rfl) (fun K hK => ?_) AllReadyH.nil
          go_simp
          go_at_call 105
          refine (C1.out _).mono ?_
          rintro e u1 ⟨rfl, hb1⟩
          have L1 : Kt (w.heap.size) A B C u1 := (by with_reducible repeat (first | assumption | refine Ko6.drew ?_ | refine Ko6.alloc ?_ _ | refine Ko6.call ?_ (by assumption) | refine Kt.drew ?_ | refine Kt.alloc ?_ _ | refine Kt.call ?_ (by assumption)))
          have X1 : Ko6 (g) (k * 6) a b c d x y u1 := (by with_reducible repeat (first | assumption | refine Ko6.drew ?_ | refine Ko6.alloc ?_ _ | refine Ko6.call ?_ (by assumption) | refine Kt.drew ?_ | refine Kt.alloc ?_ _ | refine Kt.call ?_ (by assumption)))
          have B1 : Below w.heap.size w u1 := (by with_reducible repeat (first | assumption | refine Below.drew ?_ | refine bstep ?_ (by assumption)))
          clear hb1
          go_wp2_with fail
          refine hK.out _ _ ?_ (fun hHeld => ?_)
          · (try dsimp only)
            exact ⟨L1.cells, X1.cells⟩
          clear hK K
          (try simp only [Act.put, List.setIfInBounds_toArray, List.set_cons_zero, List.set_cons_succ])
          refine tkMg6 (i := 7) (v := ?_) (hy := Or.inl ⟨by rfl, ?_⟩) (h := ?_)
          rotate_left 1
          · (intro w hSw; (try dsimp only at hSw); go_simp) <;> with_reducible rfl
          (try simp only [Act.put, List.setIfInBounds_toArray, List.set_cons_zero, List.set_cons_succ])
          refine tkMg6 (i := 8) (v := ?_) (hy := Or.inl ⟨by rfl, ?_⟩) (h := ?_)
          rotate_left 1
          · (intro w hSw; (try dsimp only at hSw); go_simp) <;> with_reducible rfl
          (try simp only [Act.put, List.setIfInBounds_toArray, List.set_cons_zero, List.set_cons_succ])
          refine tkMg6 (i := 9) (v := undef) (hy := Or.inr ⟨by rfl, rfl⟩) (h := ?_)
          (try simp only [Act.put, List.setIfInBounds_toArray, List.set_cons_zero, List.set_cons_succ])
          refine tkMg6 (i := 10) (v := undef) (hy := Or.inr ⟨by rfl, rfl⟩) (h := ?_)
          (try simp only [Act.put, List.setIfInBounds_toArray, List.set_cons_zero, List.set_cons_succ])
          refine tkMg6 (i := 11) (v := undef) (hy := Or.inr ⟨by rfl, rfl⟩) (h := ?_)
          (try simp only [Act.put, List.setIfInBounds_toArray, List.set_cons_zero, List.set_cons_succ])
          refine tkMg6 (i := 12) (v := undef) (hy := Or.inr ⟨by rfl, rfl⟩) (h := ?_)
          (try simp only [Act.put, List.setIfInBounds_toArray, List.set_cons_zero, List.set_cons_succ])
          refine tkMg6 (i := 13) (v := undef) (hy := Or.inr ⟨by rfl, rfl⟩) (h := ?_)
          (try simp only [Act.put, List.setIfInBounds_toArray, List.set_cons_zero, List.set_cons_succ])
          refine tkMg6 (i := 14) (v := undef) (hy := Or.inr ⟨by rfl, rfl⟩) (h := ?_)
          (try simp only [Act.put, List.setIfInBounds_toArray, List.set_cons_zero, List.set_cons_succ])
          refine tkMg6 (i := 15) (v := undef) (hy := Or.inr ⟨by rfl, rfl⟩) (h := ?_)
          (try simp only [Act.put, List.setIfInBounds_toArray, List.set_cons_zero, List.set_cons_succ])
          refine tkMg6 (i := 16) (v := undef) (hy := Or.inr ⟨by rfl, rfl⟩) (h := ?_)
          (try simp only [Act.put, List.setIfInBounds_toArray, List.set_cons_zero, List.set_cons_succ])
          refine tkMg6 (i := 17) (v := undef) (hy := Or.inr ⟨by rfl, rfl⟩) (h := ?_)
          (try simp only [Act.put, List.setIfInBounds_toArray, List.set_cons_zero, List.set_cons_succ])
          refine tkMg6 (i := 18) (v := undef) (hy := Or.inr ⟨by rfl, rfl⟩) (h := ?_)
          (try simp only [Act.put, List.setIfInBounds_toArray, List.set_cons_zero, List.set_cons_succ])
          refine tkMg6 (i := 19) (v := undef) (hy := Or.inr ⟨by rfl, rfl⟩) (h := ?_)
          (try simp only [Act.put, List.setIfInBounds_toArray, List.set_cons_zero, List.set_cons_succ])
          refine tkMg6 (i := 20) (v := ?_) (hy := Or.inl ⟨by rfl, ?_⟩) (h := ?_)
          rotate_left 1
          · (intro w hSw; (try dsimp only at hSw); go_simp) <;> with_reducible rfl
          (try simp only [Act.put, List.setIfInBounds_toArray, List.set_cons_zero, List.set_cons_succ])
          refine tkMg6 (i := 21) (v := ?_) (hy := Or.inl ⟨by rfl, ?_⟩) (h := ?_)
          rotate_left 1
          · (intro w hSw; (try dsimp only at hSw); go_simp) <;> with_reducible rfl
          (try simp only [Act.put, List.setIfInBounds_toArray, List.set_cons_zero, List.set_cons_succ])
          refine tkMg6 (i := 22) (v := undef) (hy := Or.inr ⟨by rfl, rfl⟩) (h := ?_)
          (try simp only [Act.put, List.setIfInBounds_toArray, List.set_cons_zero, List.set_cons_succ])
          refine tkMg6 (i := 23) (v := undef) (hy := Or.inr ⟨by rfl, rfl⟩) (h := ?_)
          (try simp only [Act.put, List.setIfInBounds_toArray, List.set_cons_zero, List.set_cons_succ])
          refine tkMg6 (i := 24) (v := undef) (hy := Or.inr ⟨by rfl, rfl⟩) (h := ?_)
          (try simp only [Act.put, List.setIfInBounds_toArray, List.set_cons_zero, List.set_cons_succ])
          refine tkMg6 (i := 25) (v := undef) (hy := Or.inr ⟨by rfl, rfl⟩) (h := ?_)
          (try simp only [Act.put, List.setIfInBounds_toArray, List.set_cons_zero, List.set_cons_succ])
          refine tkMg6 (i := 26) (v := undef) (hy := Or.inr ⟨by rfl, rfl⟩) (h := ?_)
          (try simp only [Act.put, List.setIfInBounds_toArray, List.set_cons_zero, List.set_cons_succ])
          refine tkMg6 (i := 27) (v := undef) (hy := Or.inr ⟨by rfl, rfl⟩) (h := ?_)
          (try simp only [Act.put, List.setIfInBounds_toArray, List.set_cons_zero, List.set_cons_succ])
          refine tkMg6 (i := 28) (v := undef) (hy := Or.inr ⟨by rfl, rfl⟩) (h := ?_)
          (try simp only [Act.put, List.setIfInBounds_toArray, List.set_cons_zero, List.set_cons_succ])
          refine tkMg6 (i := 29) (v := undef) (hy := Or.inr ⟨by rfl, rfl⟩) (h := ?_)
          (try simp only [Act.put, List.setIfInBounds_toArray, List.set_cons_zero, List.set_cons_succ])
          refine tkMg6 (i := 30) (v := undef) (hy := Or.inr ⟨by rfl, rfl⟩) (h := ?_)
          (try simp only [Act.put, List.setIfInBounds_toArray, List.set_cons_zero, List.set_cons_succ])
          refine tkMg6 (i := 31) (v := undef) (hy := Or.inr ⟨by rfl, rfl⟩) (h := ?_)
          (try simp only [Act.put, List.setIfInBounds_toArray, List.set_cons_zero, List.set_cons_succ])
          refine tkMg6 (i := 32) (v := undef) (hy := Or.inr ⟨by rfl, rfl⟩) (h := ?_)
          (try simp only [Act.put, List.setIfInBounds_toArray, List.set_cons_zero, List.set_cons_succ])
          refine tkMg6 (i := 33) (v := undef) (hy := Or.inr ⟨by rfl, rfl⟩) (h := ?_)
          (try simp only [Act.put, List.setIfInBounds_toArray, List.set_cons_zero, List.set_cons_succ])
          refine tkMg6 (i := 34) (v := undef) (hy := Or.inr ⟨by rfl, rfl⟩) (h := ?_)
          (try simp only [Act.put, List.setIfInBounds_toArray, List.set_cons_zero, List.set_cons_succ])
          refine tkMg6 (i := 35) (v := undef) (hy := Or.inr ⟨by rfl, rfl⟩) (h := ?_)
          (try simp only [Act.put, List.setIfInBounds_toArray, List.set_cons_zero, List.set_cons_succ])
          refine tkMg6 (i := 36) (v := undef) (hy := Or.inr ⟨by rfl, rfl⟩) (h := ?_)
          (try simp only [Act.put, List.setIfInBounds_toArray, List.set_cons_zero, List.set_cons_succ])
          refine tkMg6 (i := 37) (v := ?_) (hy := Or.inl ⟨by rfl, ?_⟩) (h := ?_)
          rotate_left 1
          · (intro w hSw; (try dsimp only at hSw); go_simp) <;> with_reducible rfl
          (try simp only [Act.put, List.setIfInBounds_toArray, List.set_cons_zero, List.set_cons_succ])
          refine wpAnyH_done (by kernel_rfl) ?_ _
          go_wp2
          go_ret
          exact ⟨ret_bool HG.out.symm, by with_reducible repeat (first | assumption | exact Below.refl _ _ | refine bstep ?_ (by assumption) | refine Below.drew ?_)⟩
        · obtain ⟨_, hx, hy⟩ := ok_mid hs
          have C2 := Lib.hid (fun W => l06Reduce_any A B C a b c d x y W HL.out hx hy)
          have HRd : Hid (decide (redM A B C (a, b, c, d, x, y) = (a, b, c, d, x, y)) = eqT6 a b c d (redX A B C x y) (redY C y) a b c d x y) := Lib.hid (eqT6_dec (redM A B C (a, b, c, d, x, y)) (a, b, c, d, x, y)).symm
          rw [hs] at C1
          have HS := Lib.hid hs
          clear hx hy hs
          rcases hr : decide (redM A B C (a, b, c, d, x, y) = (a, b, c, d, x, y)) with _ | _
          · have HG := Lib.hid (G2.out (of_decide_eq_false hr))
            rw [hr] at HRd
            clear G1 G2 HNX hr
            generalize redX A B C x y = p at C2 HRd
            generalize redY C y = q at C2 HRd
            have he := HRd.out.symm
            go_wp2_with fail
            refine wp_region_held_drew (S := (fun W => (W.cell? ⟨w.heap.size, 0, none⟩ = some (.int .i64 A) ∧ W.cell? ⟨w.heap.size, 1, none⟩ = some (.int .i64 B) ∧ W.cell? ⟨w.heap.size, 2, none⟩ = some (.int .i64 C)) ∧ (W.cell? ⟨g, k * 6, none⟩ = some (.int .i64 a) ∧ W.cell? ⟨g, k * 6 + 1, none⟩ = some (.int .i64 b) ∧ W.cell? ⟨g, k * 6 + 2, none⟩ = some (.int .i64 c) ∧ W.cell? ⟨g, k * 6 + 3, none⟩ = some (.int .i64 d) ∧ W.cell? ⟨g, k * 6 + 4, none⟩ = some (.int .i64 x) ∧ W.cell? ⟨g, k * 6 + 5, none⟩ = some (.int .i64 y)))) (by kernel_rfl) ?_ (fun hHeld => ?_)
            · exact ⟨L0.cells, X0.cells⟩
            refine tkMg6 (i := 0) (v := ?_) (hy := Or.inl ⟨by rfl, ?_⟩) (h := ?_)
            rotate_left 1
            · (intro w hSw; (try dsimp only at hSw); go_simp) <;> with_reducible rfl
            (try simp only [Act.put, List.setIfInBounds_toArray, List.set_cons_zero, List.set_cons_succ])
            refine tkMg6 (i := 1) (v := ?_) (hy := Or.inl ⟨by rfl, ?_⟩) (h := ?_)
            rotate_left 1
            · (intro w hSw; (try dsimp only at hSw); go_simp) <;> with_reducible rfl
            (try simp only [Act.put, List.setIfInBounds_toArray, List.set_cons_zero, List.set_cons_succ])
            refine tkMg6 (i := 2) (v := ?_) (hy := Or.inl ⟨by rfl, ?_⟩) (h := ?_)
            rotate_left 1
            · (intro w hSw; (try dsimp only at hSw); go_simp) <;> with_reducible rfl
            (try simp only [Act.put, List.setIfInBounds_toArray, List.set_cons_zero, List.set_cons_succ])
            refine tkMg6 (i := 3) (v := ?_) (hy := Or.inl ⟨by rfl, ?_⟩) (h := ?_)
            rotate_left 1
            · (intro w hSw; (try dsimp only at hSw); go_simp) <;> with_reducible rfl
            (try simp only [Act.put, List.setIfInBounds_toArray, List.set_cons_zero, List.set_cons_succ])
            refine tkMg6 (i := 4) (v := ?_) (hy := Or.inl ⟨by rfl, ?_⟩) (h := ?_)
            rotate_left 1
            · (intro w hSw; (try dsimp only at hSw); go_simp) <;> with_reducible rfl
            (try simp only [Act.put, List.setIfInBounds_toArray, List.set_cons_zero, List.set_cons_succ])
            refine tkMg6 (i := 5) (v := ?_) (hy := Or.inl ⟨by rfl, ?_⟩) (h := ?_)
            rotate_left 1
            · (intro w hSw; (try dsimp only at hSw); go_simp) <;> with_reducible rfl
            (try simp only [Act.put, List.setIfInBounds_toArray, List.set_cons_zero, List.set_cons_succ])
            refine wpAnyH_ready (rs := [6]) (by kernel_rfl) (by simp) ?_
            refine AllReadyH.cons (o := _) (by (simp only [List.getElem?_toArray, List.getElem?_cons_succ, List.getElem?_cons_zero]); rfl) (fun K hK => ?_) AllReadyH.nil
            go_simp
            go_at_call 105
            refine (C1.out _).mono ?_
            rintro e u1 ⟨rfl, hb1⟩
            have L1 : Kt (w.heap.size) A B C u1 := (by with_reducible repeat (first | assumption | refine Ko6.drew ?_ | refine Ko6.alloc ?_ _ | refine Ko6.call ?_ (by assumption) | refine Kt.drew ?_ | refine Kt.alloc ?_ _ | refine Kt.call ?_ (by assumption)))
            have X1 : Ko6 (g) (k * 6) a b c d x y u1 := (by with_reducible repeat (first | assumption | refine Ko6.drew ?_ | refine Ko6.alloc ?_ _ | refine Ko6.call ?_ (by assumption) | refine Kt.drew ?_ | refine Kt.alloc ?_ _ | refine Kt.call ?_ (by assumption)))
            have B1 : Below w.heap.size w u1 := (by with_reducible repeat (first | assumption | refine Below.drew ?_ | refine bstep ?_ (by assumption)))
            clear hb1
            go_wp2_with fail
            refine hK.out _ _ ?_ (fun hHeld => ?_)
            · (try dsimp only)
              exact ⟨L1.cells, X1.cells⟩
            clear hK K
            (try simp only [Act.put, List.setIfInBounds_toArray, List.set_cons_zero, List.set_cons_succ])
            refine tkMg6 (i := 7) (v := ?_) (hy := Or.inl ⟨by rfl, ?_⟩) (h := ?_)
            rotate_left 1
            · (intro w hSw; (try dsimp only at hSw); go_simp) <;> with_reducible rfl
            (try simp only [Act.put, List.setIfInBounds_toArray, List.set_cons_zero, List.set_cons_succ])
            refine tkMg6 (i := 8) (v := ?_) (hy := Or.inl ⟨by rfl, ?_⟩) (h := ?_)
            rotate_left 1
            · (intro w hSw; (try dsimp only at hSw); go_simp) <;> with_reducible rfl
            (try simp only [Act.put, List.setIfInBounds_toArray, List.set_cons_zero, List.set_cons_succ])
            refine tkMg6 (i := 9) (v := ?_) (hy := Or.inl ⟨by rfl, ?_⟩) (h := ?_)
            rotate_left 1
            · (intro w hSw; (try dsimp only at hSw); go_simp) <;> with_reducible rfl
            (try simp only [Act.put, List.setIfInBounds_toArray, List.set_cons_zero, List.set_cons_succ])
            refine tkMg6 (i := 10) (v := ?_) (hy := Or.inl ⟨by rfl, ?_⟩) (h := ?_)
            rotate_left 1
            · (intro w hSw; (try dsimp only at hSw); go_simp) <;> with_reducible rfl
            (try simp only [Act.put, List.setIfInBounds_toArray, List.set_cons_zero, List.set_cons_succ])
            refine tkMg6 (i := 11) (v := ?_) (hy := Or.inl ⟨by rfl, ?_⟩) (h := ?_)
            rotate_left 1
            · (intro w hSw; (try dsimp only at hSw); go_simp) <;> with_reducible rfl
            (try simp only [Act.put, List.setIfInBounds_toArray, List.set_cons_zero, List.set_cons_succ])
            refine tkMg6 (i := 12) (v := ?_) (hy := Or.inl ⟨by rfl, ?_⟩) (h := ?_)
            rotate_left 1
            · (intro w hSw; (try dsimp only at hSw); go_simp) <;> with_reducible rfl
            (try simp only [Act.put, List.setIfInBounds_toArray, List.set_cons_zero, List.set_cons_succ])
            refine tkMg6 (i := 13) (v := ?_) (hy := Or.inl ⟨by rfl, ?_⟩) (h := ?_)
            rotate_left 1
            · (intro w hSw; (try dsimp only at hSw); go_simp) <;> with_reducible rfl
            (try simp only [Act.put, List.setIfInBounds_toArray, List.set_cons_zero, List.set_cons_succ])
            refine tkMg6 (i := 15) (v := ?_) (hy := Or.inl ⟨by rfl, ?_⟩) (h := ?_)
            rotate_left 1
            · (intro w hSw; (try dsimp only at hSw); go_simp) <;> with_reducible rfl
            (try simp only [Act.put, List.setIfInBounds_toArray, List.set_cons_zero, List.set_cons_succ])
            refine tkMg6 (i := 16) (v := ?_) (hy := Or.inl ⟨by rfl, ?_⟩) (h := ?_)
            rotate_left 1
            · (intro w hSw; (try dsimp only at hSw); go_simp) <;> with_reducible rfl
            (try simp only [Act.put, List.setIfInBounds_toArray, List.set_cons_zero, List.set_cons_succ])
            refine tkMg6 (i := 17) (v := ?_) (hy := Or.inl ⟨by rfl, ?_⟩) (h := ?_)
            rotate_left 1
            · (intro w hSw; (try dsimp only at hSw); go_simp) <;> with_reducible rfl
            (try simp only [Act.put, List.setIfInBounds_toArray, List.set_cons_zero, List.set_cons_succ])
            refine tkMg6 (i := 18) (v := ?_) (hy := Or.inl ⟨by rfl, ?_⟩) (h := ?_)
            rotate_left 1
            · (intro w hSw; (try dsimp only at hSw); go_simp) <;> with_reducible rfl
            (try simp only [Act.put, List.setIfInBounds_toArray, List.set_cons_zero, List.set_cons_succ])
            refine wpAnyH_ready (rs := [14]) (by kernel_rfl) (by simp) ?_
            refine AllReadyH.cons (o := _) (by (simp only [List.getElem?_toArray, List.getElem?_cons_succ, List.getElem?_cons_zero]); rfl) (fun K hK => ?_) AllReadyH.nil
            go_simp
            go_at_call 102
            refine (C2.out _).mono ?_
            rintro e u2 ⟨rfl, hb2⟩
            have L2 : Kt (w.heap.size) A B C u2 := (by with_reducible repeat (first | assumption | refine Ko6.drew ?_ | refine Ko6.alloc ?_ _ | refine Ko6.call ?_ (by assumption) | refine Kt.drew ?_ | refine Kt.alloc ?_ _ | refine Kt.call ?_ (by assumption)))
            have X2 : Ko6 (g) (k * 6) a b c d x y u2 := (by with_reducible repeat (first | assumption | refine Ko6.drew ?_ | refine Ko6.alloc ?_ _ | refine Ko6.call ?_ (by assumption) | refine Kt.drew ?_ | refine Kt.alloc ?_ _ | refine Kt.call ?_ (by assumption)))
            have B2 : Below w.heap.size w u2 := (by with_reducible repeat (first | assumption | refine Below.drew ?_ | refine bstep ?_ (by assumption)))
            clear hb2
            go_wp2_with fail
            refine hK.out _ _ ?_ (fun hHeld => ?_)
            · (try dsimp only)
              exact ⟨L2.cells, X2.cells⟩
            clear hK K
            (try simp only [Act.put, List.setIfInBounds_toArray, List.set_cons_zero, List.set_cons_succ])
            refine tkMg6 (i := 19) (v := ?_) (hy := Or.inl ⟨by rfl, ?_⟩) (h := ?_)
            rotate_left 1
            · (intro w hSw; (try dsimp only at hSw); go_simp) <;> with_reducible rfl
            (try simp only [Act.put, List.setIfInBounds_toArray, List.set_cons_zero, List.set_cons_succ])
            refine tkMg6 (i := 20) (v := ?_) (hy := Or.inl ⟨by rfl, ?_⟩) (h := ?_)
            rotate_left 1
            · (intro w hSw; (try dsimp only at hSw); go_simp) <;> with_reducible rfl
            (try simp only [Act.put, List.setIfInBounds_toArray, List.set_cons_zero, List.set_cons_succ])
            refine tkMg6 (i := 21) (v := ?_) (hy := Or.inl ⟨by rfl, ?_⟩) (h := ?_)
            rotate_left 1
            · (intro w hSw; (try dsimp only at hSw); go_simp) <;> with_reducible rfl
            (try simp only [Act.put, List.setIfInBounds_toArray, List.set_cons_zero, List.set_cons_succ])
            refine tkMg6 (i := 22) (v := undef) (hy := Or.inr ⟨by rfl, rfl⟩) (h := ?_)
            (try simp only [Act.put, List.setIfInBounds_toArray, List.set_cons_zero, List.set_cons_succ])
            refine tkMg6 (i := 23) (v := undef) (hy := Or.inr ⟨by rfl, rfl⟩) (h := ?_)
            (try simp only [Act.put, List.setIfInBounds_toArray, List.set_cons_zero, List.set_cons_succ])
            refine tkMg6 (i := 24) (v := undef) (hy := Or.inr ⟨by rfl, rfl⟩) (h := ?_)
            (try simp only [Act.put, List.setIfInBounds_toArray, List.set_cons_zero, List.set_cons_succ])
            refine tkMg6 (i := 25) (v := undef) (hy := Or.inr ⟨by rfl, rfl⟩) (h := ?_)
            (try simp only [Act.put, List.setIfInBounds_toArray, List.set_cons_zero, List.set_cons_succ])
            refine tkMg6 (i := 26) (v := undef) (hy := Or.inr ⟨by rfl, rfl⟩) (h := ?_)
            (try simp only [Act.put, List.setIfInBounds_toArray, List.set_cons_zero, List.set_cons_succ])
            refine tkMg6 (i := 27) (v := undef) (hy := Or.inr ⟨by rfl, rfl⟩) (h := ?_)
            (try simp only [Act.put, List.setIfInBounds_toArray, List.set_cons_zero, List.set_cons_succ])
            refine tkMg6 (i := 28) (v := undef) (hy := Or.inr ⟨by rfl, rfl⟩) (h := ?_)
            (try simp only [Act.put, List.setIfInBounds_toArray, List.set_cons_zero, List.set_cons_succ])
            refine tkMg6 (i := 29) (v := undef) (hy := Or.inr ⟨by rfl, rfl⟩) (h := ?_)
            (try simp only [Act.put, List.setIfInBounds_toArray, List.set_cons_zero, List.set_cons_succ])
            refine tkMg6 (i := 30) (v := undef) (hy := Or.inr ⟨by rfl, rfl⟩) (h := ?_)
            (try simp only [Act.put, List.setIfInBounds_toArray, List.set_cons_zero, List.set_cons_succ])
            refine tkMg6 (i := 31) (v := undef) (hy := Or.inr ⟨by rfl, rfl⟩) (h := ?_)
            (try simp only [Act.put, List.setIfInBounds_toArray, List.set_cons_zero, List.set_cons_succ])
            refine tkMg6 (i := 32) (v := undef) (hy := Or.inr ⟨by rfl, rfl⟩) (h := ?_)
            (try simp only [Act.put, List.setIfInBounds_toArray, List.set_cons_zero, List.set_cons_succ])
            refine tkMg6 (i := 33) (v := undef) (hy := Or.inr ⟨by rfl, rfl⟩) (h := ?_)
            (try simp only [Act.put, List.setIfInBounds_toArray, List.set_cons_zero, List.set_cons_succ])
            refine tkMg6 (i := 34) (v := undef) (hy := Or.inr ⟨by rfl, rfl⟩) (h := ?_)
            (try simp only [Act.put, List.setIfInBounds_toArray, List.set_cons_zero, List.set_cons_succ])
            refine tkMg6 (i := 35) (v := undef) (hy := Or.inr ⟨by rfl, rfl⟩) (h := ?_)
            (try simp only [Act.put, List.setIfInBounds_toArray, List.set_cons_zero, List.set_cons_succ])
            refine tkMg6 (i := 36) (v := undef) (hy := Or.inr ⟨by rfl, rfl⟩) (h := ?_)
            (try simp only [Act.put, List.setIfInBounds_toArray, List.set_cons_zero, List.set_cons_succ])
            refine tkMg6 (i := 37) (v := ?_) (hy := Or.inl ⟨by rfl, ?_⟩) (h := ?_)
            rotate_left 1
            · (intro w hSw; (try dsimp only at hSw); go_simp) <;> with_reducible rfl
            (try simp only [Act.put, List.setIfInBounds_toArray, List.set_cons_zero, List.set_cons_succ])
            refine wpAnyH_done (by kernel_rfl) ?_ _
            go_wp2
            go_ret
            exact ⟨ret_bool HG.out.symm, by with_reducible repeat (first | assumption | exact Below.refl _ _ | refine bstep ?_ (by assumption) | refine Below.drew ?_)⟩
          · rw [hr] at HRd
            have HNY := Lib.hid (HNX.out HS.out (of_decide_eq_true hr))
            clear G1 G2 HNX hr
            generalize redX A B C x y = p at C2 HRd
            generalize redY C y = q at C2 HRd
            have he := HRd.out.symm
            have C3 := Lib.hid (fun W => l05Less_any a' b' c' d' x' y' a b c d x y W)
            have Y0 := q2
            rcases ht : ltM (a', b', c', d', x', y') (a, b, c, d, x, y) with _ | _
            · have HG := Lib.hid (G3.out ht)
              rw [ht] at C3
              clear HNY G3 ht
              go_wp2_with fail
              refine wp_region_held_drew (S := (fun W => (W.cell? ⟨w.heap.size, 0, none⟩ = some (.int .i64 A) ∧ W.cell? ⟨w.heap.size, 1, none⟩ = some (.int .i64 B) ∧ W.cell? ⟨w.heap.size, 2, none⟩ = some (.int .i64 C)) ∧ (W.cell? ⟨g, k * 6, none⟩ = some (.int .i64 a) ∧ W.cell? ⟨g, k * 6 + 1, none⟩ = some (.int .i64 b) ∧ W.cell? ⟨g, k * 6 + 2, none⟩ = some (.int .i64 c) ∧ W.cell? ⟨g, k * 6 + 3, none⟩ = some (.int .i64 d) ∧ W.cell? ⟨g, k * 6 + 4, none⟩ = some (.int .i64 x) ∧ W.cell? ⟨g, k * 6 + 5, none⟩ = some (.int .i64 y)) ∧ (W.cell? ⟨g, j * 6, none⟩ = some (.int .i64 a') ∧ W.cell? ⟨g, j * 6 + 1, none⟩ = some (.int .i64 b') ∧ W.cell? ⟨g, j * 6 + 2, none⟩ = some (.int .i64 c') ∧ W.cell? ⟨g, j * 6 + 3, none⟩ = some (.int .i64 d') ∧ W.cell? ⟨g, j * 6 + 4, none⟩ = some (.int .i64 x') ∧ W.cell? ⟨g, j * 6 + 5, none⟩ = some (.int .i64 y')))) (by kernel_rfl) ?_ (fun hHeld => ?_)
              · exact ⟨L0.cells, X0.cells, Y0.cells⟩
              refine tkMg6 (i := 0) (v := ?_) (hy := Or.inl ⟨by rfl, ?_⟩) (h := ?_)
              rotate_left 1
              · (intro w hSw; (try dsimp only at hSw); go_simp) <;> with_reducible rfl
              (try simp only [Act.put, List.setIfInBounds_toArray, List.set_cons_zero, List.set_cons_succ])
              refine tkMg6 (i := 1) (v := ?_) (hy := Or.inl ⟨by rfl, ?_⟩) (h := ?_)
              rotate_left 1
              · (intro w hSw; (try dsimp only at hSw); go_simp) <;> with_reducible rfl
              (try simp only [Act.put, List.setIfInBounds_toArray, List.set_cons_zero, List.set_cons_succ])
              refine tkMg6 (i := 2) (v := ?_) (hy := Or.inl ⟨by rfl, ?_⟩) (h := ?_)
              rotate_left 1
              · (intro w hSw; (try dsimp only at hSw); go_simp) <;> with_reducible rfl
              (try simp only [Act.put, List.setIfInBounds_toArray, List.set_cons_zero, List.set_cons_succ])
              refine tkMg6 (i := 3) (v := ?_) (hy := Or.inl ⟨by rfl, ?_⟩) (h := ?_)
              rotate_left 1
              · (intro w hSw; (try dsimp only at hSw); go_simp) <;> with_reducible rfl
              (try simp only [Act.put, List.setIfInBounds_toArray, List.set_cons_zero, List.set_cons_succ])
              refine tkMg6 (i := 4) (v := ?_) (hy := Or.inl ⟨by rfl, ?_⟩) (h := ?_)
              rotate_left 1
              · (intro w hSw; (try dsimp only at hSw); go_simp) <;> with_reducible rfl
              (try simp only [Act.put, List.setIfInBounds_toArray, List.set_cons_zero, List.set_cons_succ])
              refine tkMg6 (i := 5) (v := ?_) (hy := Or.inl ⟨by rfl, ?_⟩) (h := ?_)
              rotate_left 1
              · (intro w hSw; (try dsimp only at hSw); go_simp) <;> with_reducible rfl
              (try simp only [Act.put, List.setIfInBounds_toArray, List.set_cons_zero, List.set_cons_succ])
              refine wpAnyH_ready (rs := [6]) (by kernel_rfl) (by simp) ?_
              refine AllReadyH.cons (o := _) (by (simp only [List.getElem?_toArray, List.getElem?_cons_succ, List.getElem?_cons_zero]); rfl) (fun K hK => ?_) AllReadyH.nil
              go_simp
              go_at_call 105
              refine (C1.out _).mono ?_
              rintro e u1 ⟨rfl, hb1⟩
              have L1 : Kt (w.heap.size) A B C u1 := (by with_reducible repeat (first | assumption | refine Ko6.drew ?_ | refine Ko6.alloc ?_ _ | refine Ko6.call ?_ (by assumption) | refine Kt.drew ?_ | refine Kt.alloc ?_ _ | refine Kt.call ?_ (by assumption)))
              have X1 : Ko6 (g) (k * 6) a b c d x y u1 := (by with_reducible repeat (first | assumption | refine Ko6.drew ?_ | refine Ko6.alloc ?_ _ | refine Ko6.call ?_ (by assumption) | refine Kt.drew ?_ | refine Kt.alloc ?_ _ | refine Kt.call ?_ (by assumption)))
              have Y1 : Ko6 (g) (j * 6) a' b' c' d' x' y' u1 := (by with_reducible repeat (first | assumption | refine Ko6.drew ?_ | refine Ko6.alloc ?_ _ | refine Ko6.call ?_ (by assumption) | refine Kt.drew ?_ | refine Kt.alloc ?_ _ | refine Kt.call ?_ (by assumption)))
              have B1 : Below w.heap.size w u1 := (by with_reducible repeat (first | assumption | refine Below.drew ?_ | refine bstep ?_ (by assumption)))
              clear hb1
              go_wp2_with fail
              refine hK.out _ _ ?_ (fun hHeld => ?_)
              · (try dsimp only)
                exact ⟨L1.cells, X1.cells, Y1.cells⟩
              clear hK K
              (try simp only [Act.put, List.setIfInBounds_toArray, List.set_cons_zero, List.set_cons_succ])
              refine tkMg6 (i := 7) (v := ?_) (hy := Or.inl ⟨by rfl, ?_⟩) (h := ?_)
              rotate_left 1
              · (intro w hSw; (try dsimp only at hSw); go_simp) <;> with_reducible rfl
              (try simp only [Act.put, List.setIfInBounds_toArray, List.set_cons_zero, List.set_cons_succ])
              refine tkMg6 (i := 8) (v := ?_) (hy := Or.inl ⟨by rfl, ?_⟩) (h := ?_)
              rotate_left 1
              · (intro w hSw; (try dsimp only at hSw); go_simp) <;> with_reducible rfl
              (try simp only [Act.put, List.setIfInBounds_toArray, List.set_cons_zero, List.set_cons_succ])
              refine tkMg6 (i := 9) (v := ?_) (hy := Or.inl ⟨by rfl, ?_⟩) (h := ?_)
              rotate_left 1
              · (intro w hSw; (try dsimp only at hSw); go_simp) <;> with_reducible rfl
              (try simp only [Act.put, List.setIfInBounds_toArray, List.set_cons_zero, List.set_cons_succ])
              refine tkMg6 (i := 10) (v := ?_) (hy := Or.inl ⟨by rfl, ?_⟩) (h := ?_)
              rotate_left 1
              · (intro w hSw; (try dsimp only at hSw); go_simp) <;> with_reducible rfl
              (try simp only [Act.put, List.setIfInBounds_toArray, List.set_cons_zero, List.set_cons_succ])
              refine tkMg6 (i := 11) (v := ?_) (hy := Or.inl ⟨by rfl, ?_⟩) (h := ?_)
              rotate_left 1
              · (intro w hSw; (try dsimp only at hSw); go_simp) <;> with_reducible rfl
              (try simp only [Act.put, List.setIfInBounds_toArray, List.set_cons_zero, List.set_cons_succ])
              refine tkMg6 (i := 12) (v := ?_) (hy := Or.inl ⟨by rfl, ?_⟩) (h := ?_)
              rotate_left 1
              · (intro w hSw; (try dsimp only at hSw); go_simp) <;> with_reducible rfl
              (try simp only [Act.put, List.setIfInBounds_toArray, List.set_cons_zero, List.set_cons_succ])
              refine tkMg6 (i := 13) (v := ?_) (hy := Or.inl ⟨by rfl, ?_⟩) (h := ?_)
              rotate_left 1
              · (intro w hSw; (try dsimp only at hSw); go_simp) <;> with_reducible rfl
              (try simp only [Act.put, List.setIfInBounds_toArray, List.set_cons_zero, List.set_cons_succ])
              refine tkMg6 (i := 15) (v := ?_) (hy := Or.inl ⟨by rfl, ?_⟩) (h := ?_)
              rotate_left 1
              · (intro w hSw; (try dsimp only at hSw); go_simp) <;> with_reducible rfl
              (try simp only [Act.put, List.setIfInBounds_toArray, List.set_cons_zero, List.set_cons_succ])
              refine tkMg6 (i := 16) (v := ?_) (hy := Or.inl ⟨by rfl, ?_⟩) (h := ?_)
              rotate_left 1
              · (intro w hSw; (try dsimp only at hSw); go_simp) <;> with_reducible rfl
              (try simp only [Act.put, List.setIfInBounds_toArray, List.set_cons_zero, List.set_cons_succ])
              refine tkMg6 (i := 17) (v := ?_) (hy := Or.inl ⟨by rfl, ?_⟩) (h := ?_)
              rotate_left 1
              · (intro w hSw; (try dsimp only at hSw); go_simp) <;> with_reducible rfl
              (try simp only [Act.put, List.setIfInBounds_toArray, List.set_cons_zero, List.set_cons_succ])
              refine tkMg6 (i := 18) (v := ?_) (hy := Or.inl ⟨by rfl, ?_⟩) (h := ?_)
              rotate_left 1
              · (intro w hSw; (try dsimp only at hSw); go_simp) <;> with_reducible rfl
              (try simp only [Act.put, List.setIfInBounds_toArray, List.set_cons_zero, List.set_cons_succ])
              refine wpAnyH_ready (rs := [14]) (by kernel_rfl) (by simp) ?_
              refine AllReadyH.cons (o := _) (by (simp only [List.getElem?_toArray, List.getElem?_cons_succ, List.getElem?_cons_zero]); rfl) (fun K hK => ?_) AllReadyH.nil
              go_simp
              go_at_call 102
              refine (C2.out _).mono ?_
              rintro e u2 ⟨rfl, hb2⟩
              have L2 : Kt (w.heap.size) A B C u2 := (by with_reducible repeat (first | assumption | refine Ko6.drew ?_ | refine Ko6.alloc ?_ _ | refine Ko6.call ?_ (by assumption) | refine Kt.drew ?_ | refine Kt.alloc ?_ _ | refine Kt.call ?_ (by assumption)))
              have X2 : Ko6 (g) (k * 6) a b c d x y u2 := (by with_reducible repeat (first | assumption | refine Ko6.drew ?_ | refine Ko6.alloc ?_ _ | refine Ko6.call ?_ (by assumption) | refine Kt.drew ?_ | refine Kt.alloc ?_ _ | refine Kt.call ?_ (by assumption)))
              have Y2 : Ko6 (g) (j * 6) a' b' c' d' x' y' u2 := (by with_reducible repeat (first | assumption | refine Ko6.drew ?_ | refine Ko6.alloc ?_ _ | refine Ko6.call ?_ (by assumption) | refine Kt.drew ?_ | refine Kt.alloc ?_ _ | refine Kt.call ?_ (by assumption)))
              have B2 : Below w.heap.size w u2 := (by with_reducible repeat (first | assumption | refine Below.drew ?_ | refine bstep ?_ (by assumption)))
              clear hb2
              go_wp2_with fail
              refine hK.out _ _ ?_ (fun hHeld => ?_)
              · (try dsimp only)
                exact ⟨L2.cells, X2.cells, Y2.cells⟩
              clear hK K
              (try simp only [Act.put, List.setIfInBounds_toArray, List.set_cons_zero, List.set_cons_succ])
              refine tkMg6 (i := 19) (v := ?_) (hy := Or.inl ⟨by rfl, ?_⟩) (h := ?_)
              rotate_left 1
              · (intro w hSw; (try dsimp only at hSw); go_simp) <;> with_reducible rfl
              (try simp only [Act.put, List.setIfInBounds_toArray, List.set_cons_zero, List.set_cons_succ])
              refine tkMg6 (i := 20) (v := ?_) (hy := Or.inl ⟨by rfl, ?_⟩) (h := ?_)
              rotate_left 1
              · (intro w hSw; (try dsimp only at hSw); go_simp) <;> with_reducible rfl
              (try simp only [Act.put, List.setIfInBounds_toArray, List.set_cons_zero, List.set_cons_succ])
              refine tkMg6 (i := 21) (v := ?_) (hy := Or.inl ⟨by rfl, ?_⟩) (h := ?_)
              rotate_left 1
              · (intro w hSw; (try dsimp only at hSw); go_simp) <;> with_reducible rfl
              (try simp only [Act.put, List.setIfInBounds_toArray, List.set_cons_zero, List.set_cons_succ])
              refine tkMg6 (i := 22) (v := ?_) (hy := Or.inl ⟨by rfl, ?_⟩) (h := ?_)
              rotate_left 1
              · (intro w hSw; (try dsimp only at hSw); go_simp) <;> with_reducible rfl
              (try simp only [Act.put, List.setIfInBounds_toArray, List.set_cons_zero, List.set_cons_succ])
              refine tkMg6 (i := 23) (v := ?_) (hy := Or.inl ⟨by rfl, ?_⟩) (h := ?_)
              rotate_left 1
              · (intro w hSw; (try dsimp only at hSw); go_simp) <;> with_reducible rfl
              (try simp only [Act.put, List.setIfInBounds_toArray, List.set_cons_zero, List.set_cons_succ])
              refine tkMg6 (i := 24) (v := ?_) (hy := Or.inl ⟨by rfl, ?_⟩) (h := ?_)
              rotate_left 1
              · (intro w hSw; (try dsimp only at hSw); go_simp) <;> with_reducible rfl
              (try simp only [Act.put, List.setIfInBounds_toArray, List.set_cons_zero, List.set_cons_succ])
              refine tkMg6 (i := 25) (v := ?_) (hy := Or.inl ⟨by rfl, ?_⟩) (h := ?_)
              rotate_left 1
              · (intro w hSw; (try dsimp only at hSw); go_simp) <;> with_reducible rfl
              (try simp only [Act.put, List.setIfInBounds_toArray, List.set_cons_zero, List.set_cons_succ])
              refine tkMg6 (i := 26) (v := ?_) (hy := Or.inl ⟨by rfl, ?_⟩) (h := ?_)
              rotate_left 1
              · (intro w hSw; (try dsimp only at hSw); go_simp) <;> with_reducible rfl
              (try simp only [Act.put, List.setIfInBounds_toArray, List.set_cons_zero, List.set_cons_succ])
              refine tkMg6 (i := 27) (v := ?_) (hy := Or.inl ⟨by rfl, ?_⟩) (h := ?_)
              rotate_left 1
              · (intro w hSw; (try dsimp only at hSw); go_simp) <;> with_reducible rfl
              (try simp only [Act.put, List.setIfInBounds_toArray, List.set_cons_zero, List.set_cons_succ])
              refine tkMg6 (i := 28) (v := ?_) (hy := Or.inl ⟨by rfl, ?_⟩) (h := ?_)
              rotate_left 1
              · (intro w hSw; (try dsimp only at hSw); go_simp) <;> with_reducible rfl
              (try simp only [Act.put, List.setIfInBounds_toArray, List.set_cons_zero, List.set_cons_succ])
              refine tkMg6 (i := 29) (v := ?_) (hy := Or.inl ⟨by rfl, ?_⟩) (h := ?_)
              rotate_left 1
              · (intro w hSw; (try dsimp only at hSw); go_simp) <;> with_reducible rfl
              (try simp only [Act.put, List.setIfInBounds_toArray, List.set_cons_zero, List.set_cons_succ])
              refine tkMg6 (i := 30) (v := ?_) (hy := Or.inl ⟨by rfl, ?_⟩) (h := ?_)
              rotate_left 1
              · (intro w hSw; (try dsimp only at hSw); go_simp) <;> with_reducible rfl
              (try simp only [Act.put, List.setIfInBounds_toArray, List.set_cons_zero, List.set_cons_succ])
              refine tkMg6 (i := 31) (v := ?_) (hy := Or.inl ⟨by rfl, ?_⟩) (h := ?_)
              rotate_left 1
              · (intro w hSw; (try dsimp only at hSw); go_simp) <;> with_reducible rfl
              (try simp only [Act.put, List.setIfInBounds_toArray, List.set_cons_zero, List.set_cons_succ])
              refine tkMg6 (i := 32) (v := ?_) (hy := Or.inl ⟨by rfl, ?_⟩) (h := ?_)
              rotate_left 1
              · (intro w hSw; (try dsimp only at hSw); go_simp) <;> with_reducible rfl
              (try simp only [Act.put, List.setIfInBounds_toArray, List.set_cons_zero, List.set_cons_succ])
              refine tkMg6 (i := 33) (v := ?_) (hy := Or.inl ⟨by rfl, ?_⟩) (h := ?_)
              rotate_left 1
              · (intro w hSw; (try dsimp only at hSw); go_simp) <;> with_reducible rfl
              (try simp only [Act.put, List.setIfInBounds_toArray, List.set_cons_zero, List.set_cons_succ])
              refine wpAnyH_ready (rs := [34]) (by kernel_rfl) (by simp) ?_
              refine AllReadyH.cons (o := _) (by (simp only [List.getElem?_toArray, List.getElem?_cons_succ, List.getElem?_cons_zero]); rfl) (fun K hK => ?_) AllReadyH.nil
              go_simp
              go_at_call 106
              refine (C3.out _).mono ?_
              rintro e u3 ⟨rfl, hb3⟩
              have L3 : Kt (w.heap.size) A B C u3 := (by with_reducible repeat (first | assumption | refine Ko6.drew ?_ | refine Ko6.alloc ?_ _ | refine Ko6.call ?_ (by assumption) | refine Kt.drew ?_ | refine Kt.alloc ?_ _ | refine Kt.call ?_ (by assumption)))
              have X3 : Ko6 (g) (k * 6) a b c d x y u3 := (by with_reducible repeat (first | assumption | refine Ko6.drew ?_ | refine Ko6.alloc ?_ _ | refine Ko6.call ?_ (by assumption) | refine Kt.drew ?_ | refine Kt.alloc ?_ _ | refine Kt.call ?_ (by assumption)))
              have Y3 : Ko6 (g) (j * 6) a' b' c' d' x' y' u3 := (by with_reducible repeat (first | assumption | refine Ko6.drew ?_ | refine Ko6.alloc ?_ _ | refine Ko6.call ?_ (by assumption) | refine Kt.drew ?_ | refine Kt.alloc ?_ _ | refine Kt.call ?_ (by assumption)))
              have B3 : Below w.heap.size w u3 := (by with_reducible repeat (first | assumption | refine Below.drew ?_ | refine bstep ?_ (by assumption)))
              clear hb3
              go_wp2_with fail
              refine hK.out _ _ ?_ (fun hHeld => ?_)
              · (try dsimp only)
                exact ⟨L3.cells, X3.cells, Y3.cells⟩
              clear hK K
              (try simp only [Act.put, List.setIfInBounds_toArray, List.set_cons_zero, List.set_cons_succ])
              refine tkMg6 (i := 35) (v := ?_) (hy := Or.inl ⟨by rfl, ?_⟩) (h := ?_)
              rotate_left 1
              · (intro w hSw; (try dsimp only at hSw); go_simp) <;> with_reducible rfl
              (try simp only [Act.put, List.setIfInBounds_toArray, List.set_cons_zero, List.set_cons_succ])
              refine tkMg6 (i := 36) (v := ?_) (hy := Or.inl ⟨by rfl, ?_⟩) (h := ?_)
              rotate_left 1
              · (intro w hSw; (try dsimp only at hSw); go_simp) <;> with_reducible rfl
              (try simp only [Act.put, List.setIfInBounds_toArray, List.set_cons_zero, List.set_cons_succ])
              refine tkMg6 (i := 37) (v := ?_) (hy := Or.inl ⟨by rfl, ?_⟩) (h := ?_)
              rotate_left 1
              · (intro w hSw; (try dsimp only at hSw); go_simp) <;> with_reducible rfl
              (try simp only [Act.put, List.setIfInBounds_toArray, List.set_cons_zero, List.set_cons_succ])
              refine wpAnyH_done (by kernel_rfl) ?_ _
              go_wp2
              go_ret
              exact ⟨ret_bool HG.out.symm, by with_reducible repeat (first | assumption | exact Below.refl _ _ | refine bstep ?_ (by assumption) | refine Below.drew ?_)⟩
            · have HN2 := Lib.hid (HNY.out ht)
              rw [ht] at C3
              clear HNY G3 ht
              go_wp2_with fail
              refine wp_region_held_drew (S := (fun W => (W.cell? ⟨w.heap.size, 0, none⟩ = some (.int .i64 A) ∧ W.cell? ⟨w.heap.size, 1, none⟩ = some (.int .i64 B) ∧ W.cell? ⟨w.heap.size, 2, none⟩ = some (.int .i64 C)) ∧ (W.cell? ⟨g, k * 6, none⟩ = some (.int .i64 a) ∧ W.cell? ⟨g, k * 6 + 1, none⟩ = some (.int .i64 b) ∧ W.cell? ⟨g, k * 6 + 2, none⟩ = some (.int .i64 c) ∧ W.cell? ⟨g, k * 6 + 3, none⟩ = some (.int .i64 d) ∧ W.cell? ⟨g, k * 6 + 4, none⟩ = some (.int .i64 x) ∧ W.cell? ⟨g, k * 6 + 5, none⟩ = some (.int .i64 y)) ∧ (W.cell? ⟨g, j * 6, none⟩ = some (.int .i64 a') ∧ W.cell? ⟨g, j * 6 + 1, none⟩ = some (.int .i64 b') ∧ W.cell? ⟨g, j * 6 + 2, none⟩ = some (.int .i64 c') ∧ W.cell? ⟨g, j * 6 + 3, none⟩ = some (.int .i64 d') ∧ W.cell? ⟨g, j * 6 + 4, none⟩ = some (.int .i64 x') ∧ W.cell? ⟨g, j * 6 + 5, none⟩ = some (.int .i64 y')))) (by kernel_rfl) ?_ (fun hHeld => ?_)
              · exact ⟨L0.cells, X0.cells, Y0.cells⟩
              refine tkMg6 (i := 0) (v := ?_) (hy := Or.inl ⟨by rfl, ?_⟩) (h := ?_)
              rotate_left 1
              · (intro w hSw; (try dsimp only at hSw); go_simp) <;> with_reducible rfl
              (try simp only [Act.put, List.setIfInBounds_toArray, List.set_cons_zero, List.set_cons_succ])
              refine tkMg6 (i := 1) (v := ?_) (hy := Or.inl ⟨by rfl, ?_⟩) (h := ?_)
              rotate_left 1
              · (intro w hSw; (try dsimp only at hSw); go_simp) <;> with_reducible rfl
              (try simp only [Act.put, List.setIfInBounds_toArray, List.set_cons_zero, List.set_cons_succ])
              refine tkMg6 (i := 2) (v := ?_) (hy := Or.inl ⟨by rfl, ?_⟩) (h := ?_)
              rotate_left 1
              · (intro w hSw; (try dsimp only at hSw); go_simp) <;> with_reducible rfl
              (try simp only [Act.put, List.setIfInBounds_toArray, List.set_cons_zero, List.set_cons_succ])
              refine tkMg6 (i := 3) (v := ?_) (hy := Or.inl ⟨by rfl, ?_⟩) (h := ?_)
              rotate_left 1
              · (intro w hSw; (try dsimp only at hSw); go_simp) <;> with_reducible rfl
              (try simp only [Act.put, List.setIfInBounds_toArray, List.set_cons_zero, List.set_cons_succ])
              refine tkMg6 (i := 4) (v := ?_) (hy := Or.inl ⟨by rfl, ?_⟩) (h := ?_)
              rotate_left 1
              · (intro w hSw; (try dsimp only at hSw); go_simp) <;> with_reducible rfl
              (try simp only [Act.put, List.setIfInBounds_toArray, List.set_cons_zero, List.set_cons_succ])
              refine tkMg6 (i := 5) (v := ?_) (hy := Or.inl ⟨by rfl, ?_⟩) (h := ?_)
              rotate_left 1
              · (intro w hSw; (try dsimp only at hSw); go_simp) <;> with_reducible rfl
              (try simp only [Act.put, List.setIfInBounds_toArray, List.set_cons_zero, List.set_cons_succ])
              refine wpAnyH_ready (rs := [6]) (by kernel_rfl) (by simp) ?_
              refine AllReadyH.cons (o := _) (by (simp only [List.getElem?_toArray, List.getElem?_cons_succ, List.getElem?_cons_zero]); rfl) (fun K hK => ?_) AllReadyH.nil
              go_simp
              go_at_call 105
              refine (C1.out _).mono ?_
              rintro e u1 ⟨rfl, hb1⟩
              have L1 : Kt (w.heap.size) A B C u1 := (by with_reducible repeat (first | assumption | refine Ko6.drew ?_ | refine Ko6.alloc ?_ _ | refine Ko6.call ?_ (by assumption) | refine Kt.drew ?_ | refine Kt.alloc ?_ _ | refine Kt.call ?_ (by assumption)))
              have X1 : Ko6 (g) (k * 6) a b c d x y u1 := (by with_reducible repeat (first | assumption | refine Ko6.drew ?_ | refine Ko6.alloc ?_ _ | refine Ko6.call ?_ (by assumption) | refine Kt.drew ?_ | refine Kt.alloc ?_ _ | refine Kt.call ?_ (by assumption)))
              have Y1 : Ko6 (g) (j * 6) a' b' c' d' x' y' u1 := (by with_reducible repeat (first | assumption | refine Ko6.drew ?_ | refine Ko6.alloc ?_ _ | refine Ko6.call ?_ (by assumption) | refine Kt.drew ?_ | refine Kt.alloc ?_ _ | refine Kt.call ?_ (by assumption)))
              have B1 : Below w.heap.size w u1 := (by with_reducible repeat (first | assumption | refine Below.drew ?_ | refine bstep ?_ (by assumption)))
              clear hb1
              go_wp2_with fail
              refine hK.out _ _ ?_ (fun hHeld => ?_)
              · (try dsimp only)
                exact ⟨L1.cells, X1.cells, Y1.cells⟩
              clear hK K
              (try simp only [Act.put, List.setIfInBounds_toArray, List.set_cons_zero, List.set_cons_succ])
              refine tkMg6 (i := 7) (v := ?_) (hy := Or.inl ⟨by rfl, ?_⟩) (h := ?_)
              rotate_left 1
              · (intro w hSw; (try dsimp only at hSw); go_simp) <;> with_reducible rfl
              (try simp only [Act.put, List.setIfInBounds_toArray, List.set_cons_zero, List.set_cons_succ])
              refine tkMg6 (i := 8) (v := ?_) (hy := Or.inl ⟨by rfl, ?_⟩) (h := ?_)
              rotate_left 1
              · (intro w hSw; (try dsimp only at hSw); go_simp) <;> with_reducible rfl
              (try simp only [Act.put, List.setIfInBounds_toArray, List.set_cons_zero, List.set_cons_succ])
              refine tkMg6 (i := 9) (v := ?_) (hy := Or.inl ⟨by rfl, ?_⟩) (h := ?_)
              rotate_left 1
              · (intro w hSw; (try dsimp only at hSw); go_simp) <;> with_reducible rfl
              (try simp only [Act.put, List.setIfInBounds_toArray, List.set_cons_zero, List.set_cons_succ])
              refine tkMg6 (i := 10) (v := ?_) (hy := Or.inl ⟨by rfl, ?_⟩) (h := ?_)
              rotate_left 1
              · (intro w hSw; (try dsimp only at hSw); go_simp) <;> with_reducible rfl
              (try simp only [Act.put, List.setIfInBounds_toArray, List.set_cons_zero, List.set_cons_succ])
              refine tkMg6 (i := 11) (v := ?_) (hy := Or.inl ⟨by rfl, ?_⟩) (h := ?_)
              rotate_left 1
              · (intro w hSw; (try dsimp only at hSw); go_simp) <;> with_reducible rfl
              (try simp only [Act.put, List.setIfInBounds_toArray, List.set_cons_zero, List.set_cons_succ])
              refine tkMg6 (i := 12) (v := ?_) (hy := Or.inl ⟨by rfl, ?_⟩) (h := ?_)
              rotate_left 1
              · (intro w hSw; (try dsimp only at hSw); go_simp) <;> with_reducible rfl
              (try simp only [Act.put, List.setIfInBounds_toArray, List.set_cons_zero, List.set_cons_succ])
              refine tkMg6 (i := 13) (v := ?_) (hy := Or.inl ⟨by rfl, ?_⟩) (h := ?_)
              rotate_left 1
              · (intro w hSw; (try dsimp only at hSw); go_simp) <;> with_reducible rfl
              (try simp only [Act.put, List.setIfInBounds_toArray, List.set_cons_zero, List.set_cons_succ])
              refine tkMg6 (i := 15) (v := ?_) (hy := Or.inl ⟨by rfl, ?_⟩) (h := ?_)
              rotate_left 1
              · (intro w hSw; (try dsimp only at hSw); go_simp) <;> with_reducible rfl
              (try simp only [Act.put, List.setIfInBounds_toArray, List.set_cons_zero, List.set_cons_succ])
              refine tkMg6 (i := 16) (v := ?_) (hy := Or.inl ⟨by rfl, ?_⟩) (h := ?_)
              rotate_left 1
              · (intro w hSw; (try dsimp only at hSw); go_simp) <;> with_reducible rfl
              (try simp only [Act.put, List.setIfInBounds_toArray, List.set_cons_zero, List.set_cons_succ])
              refine tkMg6 (i := 17) (v := ?_) (hy := Or.inl ⟨by rfl, ?_⟩) (h := ?_)
              rotate_left 1
              · (intro w hSw; (try dsimp only at hSw); go_simp) <;> with_reducible rfl
              (try simp only [Act.put, List.setIfInBounds_toArray, List.set_cons_zero, List.set_cons_succ])
              refine tkMg6 (i := 18) (v := ?_) (hy := Or.inl ⟨by rfl, ?_⟩) (h := ?_)
              rotate_left 1
              · (intro w hSw; (try dsimp only at hSw); go_simp) <;> with_reducible rfl
              (try simp only [Act.put, List.setIfInBounds_toArray, List.set_cons_zero, List.set_cons_succ])
              refine wpAnyH_ready (rs := [14]) (by kernel_rfl) (by simp) ?_
              refine AllReadyH.cons (o := _) (by (simp only [List.getElem?_toArray, List.getElem?_cons_succ, List.getElem?_cons_zero]); rfl) (fun K hK => ?_) AllReadyH.nil
              go_simp
              go_at_call 102
              refine (C2.out _).mono ?_
              rintro e u2 ⟨rfl, hb2⟩
              have L2 : Kt (w.heap.size) A B C u2 := (by with_reducible repeat (first | assumption | refine Ko6.drew ?_ | refine Ko6.alloc ?_ _ | refine Ko6.call ?_ (by assumption) | refine Kt.drew ?_ | refine Kt.alloc ?_ _ | refine Kt.call ?_ (by assumption)))
              have X2 : Ko6 (g) (k * 6) a b c d x y u2 := (by with_reducible repeat (first | assumption | refine Ko6.drew ?_ | refine Ko6.alloc ?_ _ | refine Ko6.call ?_ (by assumption) | refine Kt.drew ?_ | refine Kt.alloc ?_ _ | refine Kt.call ?_ (by assumption)))
              have Y2 : Ko6 (g) (j * 6) a' b' c' d' x' y' u2 := (by with_reducible repeat (first | assumption | refine Ko6.drew ?_ | refine Ko6.alloc ?_ _ | refine Ko6.call ?_ (by assumption) | refine Kt.drew ?_ | refine Kt.alloc ?_ _ | refine Kt.call ?_ (by assumption)))
              have B2 : Below w.heap.size w u2 := (by with_reducible repeat (first | assumption | refine Below.drew ?_ | refine bstep ?_ (by assumption)))
              clear hb2
              go_wp2_with fail
              refine hK.out _ _ ?_ (fun hHeld => ?_)
              · (try dsimp only)
                exact ⟨L2.cells, X2.cells, Y2.cells⟩
              clear hK K
              (try simp only [Act.put, List.setIfInBounds_toArray, List.set_cons_zero, List.set_cons_succ])
              refine tkMg6 (i := 19) (v := ?_) (hy := Or.inl ⟨by rfl, ?_⟩) (h := ?_)
              rotate_left 1
              · (intro w hSw; (try dsimp only at hSw); go_simp) <;> with_reducible rfl
              (try simp only [Act.put, List.setIfInBounds_toArray, List.set_cons_zero, List.set_cons_succ])
              refine tkMg6 (i := 20) (v := ?_) (hy := Or.inl ⟨by rfl, ?_⟩) (h := ?_)
              rotate_left 1
              · (intro w hSw; (try dsimp only at hSw); go_simp) <;> with_reducible rfl
              (try simp only [Act.put, List.setIfInBounds_toArray, List.set_cons_zero, List.set_cons_succ])
              refine tkMg6 (i := 21) (v := ?_) (hy := Or.inl ⟨by rfl, ?_⟩) (h := ?_)
              rotate_left 1
              · (intro w hSw; (try dsimp only at hSw); go_simp) <;> with_reducible rfl
              (try simp only [Act.put, List.setIfInBounds_toArray, List.set_cons_zero, List.set_cons_succ])
              refine tkMg6 (i := 22) (v := ?_) (hy := Or.inl ⟨by rfl, ?_⟩) (h := ?_)
              rotate_left 1
              · (intro w hSw; (try dsimp only at hSw); go_simp) <;> with_reducible rfl
              (try simp only [Act.put, List.setIfInBounds_toArray, List.set_cons_zero, List.set_cons_succ])
              refine tkMg6 (i := 23) (v := ?_) (hy := Or.inl ⟨by rfl, ?_⟩) (h := ?_)
              rotate_left 1
              · (intro w hSw; (try dsimp only at hSw); go_simp) <;> with_reducible rfl
              (try simp only [Act.put, List.setIfInBounds_toArray, List.set_cons_zero, List.set_cons_succ])
              refine tkMg6 (i := 24) (v := ?_) (hy := Or.inl ⟨by rfl, ?_⟩) (h := ?_)
              rotate_left 1
              · (intro w hSw; (try dsimp only at hSw); go_simp) <;> with_reducible rfl
              (try simp only [Act.put, List.setIfInBounds_toArray, List.set_cons_zero, List.set_cons_succ])
              refine tkMg6 (i := 25) (v := ?_) (hy := Or.inl ⟨by rfl, ?_⟩) (h := ?_)
              rotate_left 1
              · (intro w hSw; (try dsimp only at hSw); go_simp) <;> with_reducible rfl
              (try simp only [Act.put, List.setIfInBounds_toArray, List.set_cons_zero, List.set_cons_succ])
              refine tkMg6 (i := 26) (v := ?_) (hy := Or.inl ⟨by rfl, ?_⟩) (h := ?_)
              rotate_left 1
              · (intro w hSw; (try dsimp only at hSw); go_simp) <;> with_reducible rfl
              (try simp only [Act.put, List.setIfInBounds_toArray, List.set_cons_zero, List.set_cons_succ])
              refine tkMg6 (i := 27) (v := ?_) (hy := Or.inl ⟨by rfl, ?_⟩) (h := ?_)
              rotate_left 1
              · (intro w hSw; (try dsimp only at hSw); go_simp) <;> with_reducible rfl
              (try simp only [Act.put, List.setIfInBounds_toArray, List.set_cons_zero, List.set_cons_succ])
              refine tkMg6 (i := 28) (v := ?_) (hy := Or.inl ⟨by rfl, ?_⟩) (h := ?_)
              rotate_left 1
              · (intro w hSw; (try dsimp only at hSw); go_simp) <;> with_reducible rfl
              (try simp only [Act.put, List.setIfInBounds_toArray, List.set_cons_zero, List.set_cons_succ])
              refine tkMg6 (i := 29) (v := ?_) (hy := Or.inl ⟨by rfl, ?_⟩) (h := ?_)
              rotate_left 1
              · (intro w hSw; (try dsimp only at hSw); go_simp) <;> with_reducible rfl
              (try simp only [Act.put, List.setIfInBounds_toArray, List.set_cons_zero, List.set_cons_succ])
              refine tkMg6 (i := 30) (v := ?_) (hy := Or.inl ⟨by rfl, ?_⟩) (h := ?_)
              rotate_left 1
              · (intro w hSw; (try dsimp only at hSw); go_simp) <;> with_reducible rfl
              (try simp only [Act.put, List.setIfInBounds_toArray, List.set_cons_zero, List.set_cons_succ])
              refine tkMg6 (i := 31) (v := ?_) (hy := Or.inl ⟨by rfl, ?_⟩) (h := ?_)
              rotate_left 1
              · (intro w hSw; (try dsimp only at hSw); go_simp) <;> with_reducible rfl
              (try simp only [Act.put, List.setIfInBounds_toArray, List.set_cons_zero, List.set_cons_succ])
              refine tkMg6 (i := 32) (v := ?_) (hy := Or.inl ⟨by rfl, ?_⟩) (h := ?_)
              rotate_left 1
              · (intro w hSw; (try dsimp only at hSw); go_simp) <;> with_reducible rfl
              (try simp only [Act.put, List.setIfInBounds_toArray, List.set_cons_zero, List.set_cons_succ])
              refine tkMg6 (i := 33) (v := ?_) (hy := Or.inl ⟨by rfl, ?_⟩) (h := ?_)
              rotate_left 1
              · (intro w hSw; (try dsimp only at hSw); go_simp) <;> with_reducible rfl
              (try simp only [Act.put, List.setIfInBounds_toArray, List.set_cons_zero, List.set_cons_succ])
              refine wpAnyH_ready (rs := [34]) (by kernel_rfl) (by simp) ?_
              refine AllReadyH.cons (o := _) (by (simp only [List.getElem?_toArray, List.getElem?_cons_succ, List.getElem?_cons_zero]); rfl) (fun K hK => ?_) AllReadyH.nil
              go_simp
              go_at_call 106
              refine (C3.out _).mono ?_
              rintro e u3 ⟨rfl, hb3⟩
              have L3 : Kt (w.heap.size) A B C u3 := (by with_reducible repeat (first | assumption | refine Ko6.drew ?_ | refine Ko6.alloc ?_ _ | refine Ko6.call ?_ (by assumption) | refine Kt.drew ?_ | refine Kt.alloc ?_ _ | refine Kt.call ?_ (by assumption)))
              have X3 : Ko6 (g) (k * 6) a b c d x y u3 := (by with_reducible repeat (first | assumption | refine Ko6.drew ?_ | refine Ko6.alloc ?_ _ | refine Ko6.call ?_ (by assumption) | refine Kt.drew ?_ | refine Kt.alloc ?_ _ | refine Kt.call ?_ (by assumption)))
              have Y3 : Ko6 (g) (j * 6) a' b' c' d' x' y' u3 := (by with_reducible repeat (first | assumption | refine Ko6.drew ?_ | refine Ko6.alloc ?_ _ | refine Ko6.call ?_ (by assumption) | refine Kt.drew ?_ | refine Kt.alloc ?_ _ | refine Kt.call ?_ (by assumption)))
              have B3 : Below w.heap.size w u3 := (by with_reducible repeat (first | assumption | refine Below.drew ?_ | refine bstep ?_ (by assumption)))
              clear hb3
              go_wp2_with fail
              refine hK.out _ _ ?_ (fun hHeld => ?_)
              · (try dsimp only)
                exact ⟨L3.cells, X3.cells, Y3.cells⟩
              clear hK K
              (try simp only [Act.put, List.setIfInBounds_toArray, List.set_cons_zero, List.set_cons_succ])
              refine tkMg6 (i := 35) (v := ?_) (hy := Or.inl ⟨by rfl, ?_⟩) (h := ?_)
              rotate_left 1
              · (intro w hSw; (try dsimp only at hSw); go_simp) <;> with_reducible rfl
              (try simp only [Act.put, List.setIfInBounds_toArray, List.set_cons_zero, List.set_cons_succ])
              refine tkMg6 (i := 36) (v := ?_) (hy := Or.inl ⟨by rfl, ?_⟩) (h := ?_)
              rotate_left 1
              · (intro w hSw; (try dsimp only at hSw); go_simp) <;> with_reducible rfl
              (try simp only [Act.put, List.setIfInBounds_toArray, List.set_cons_zero, List.set_cons_succ])
              refine tkMg6 (i := 37) (v := ?_) (hy := Or.inl ⟨by rfl, ?_⟩) (h := ?_)
              rotate_left 1
              · (intro w hSw; (try dsimp only at hSw); go_simp) <;> with_reducible rfl
              (try simp only [Act.put, List.setIfInBounds_toArray, List.set_cons_zero, List.set_cons_succ])
              refine wpAnyH_done (by kernel_rfl) ?_ _
              go_wp2
              go_roundw
              case rel => exact ⟨k + 1, by go_num, by have := HK.out; omega, HN2.out, by with_reducible repeat (first | assumption | refine Kt.drew ?_ | refine Kt.alloc ?_ _ | refine Kt.call ?_ (by assumption) | refine Ko6.drew ?_ | refine Ko6.alloc ?_ _ | refine Ko6.call ?_ (by assumption)), by with_reducible repeat (first | assumption | exact Below.refl _ _ | refine bstep ?_ (by assumption) | refine Below.drew ?_)⟩
              case measure => (have := HK.out); first | (simp [intOf]; done) | (simp [intOf]; omega)
    · obtain rfl : k = xs.length := by omega
      have hup : Up xs := by have hu := hC.up; rwa [List.take_length] at hu
      have HUP := Lib.hid hup
      have HCk := Lib.hid hC
      have HGR := Lib.hid (show ∀ m ∈ xs, suiQ f A B C m ∧ redM A B C m = m from fun m hm => by have h9 := hC.ok m (by rw [List.take_length]; exact hm); exact ⟨(okM_iff.1 h9.1).2.1, h9.2⟩)
      clear hC hk hk1 hup
      go_wp2_with fail
      refine (l06Unit_any _).mono ?_
      rintro e w2 ⟨rfl, hb2⟩
      have L2 := hL.call hb2
      have B2 := bstep hB hb2
      have A2 := HA.out.grow B2 HA.out.1
      clear hb2 hL hB
      have CH0 := Lib.hid (l06Has_any 1 0 0 1 0 0 A2 HUP.out HNN.out)
      clear A2
      rcases ho : decide (((1, 0, 0, 1, 0, 0) : M6) ∈ xs) with _ | _
      · have HG := Lib.hid (chk_one (f := f) (A := A) (B := B) (C := C) (L := xs) ho)
        rw [ho] at CH0
        clear ho
        go_wp2_with fail
        refine CH0.out.mono ?_
        rintro e w3 ⟨rfl, hb3⟩
        have B3 := bstep B2 hb3
        clear hb3 B2 L2 CH0
        go_wp2
        go_ret
        exact ⟨ret_bool HG.out.symm, by with_reducible repeat (first | assumption | exact Below.refl _ _ | refine bstep ?_ (by assumption) | refine Below.drew ?_)⟩
      · rw [ho] at CH0
        have HONE := Lib.hid (show decide (oneM ∈ xs) = true from ho)
        clear ho
        go_wp2_with fail
        refine CH0.out.mono ?_
        rintro e w3 ⟨rfl, hb3⟩
        have L3 := L2.call hb3
        have B3 := bstep B2 hb3
        clear hb3 B2 L2 CH0
        go_wp2_with fail
        go_loopw [8] (fun si W => ∃ i : Nat, si = .int .i64 (i : Int) ∧ i ≤ xs.length ∧ Muls A B C xs i 0 ∧ Kt w.heap.size A B C W ∧ Below w.heap.size w W) (fun si _ => xs.length - (intOf si).toNat)
        case atStart => exact ⟨0, rfl, by omega, Muls.start A B C xs, L3, B3⟩
        case round =>
          clear L3 B3
          obtain ⟨i, rfl, hi, hM, hL, hB⟩ := hrel
          by_cases hi1 : i < xs.length
          · have hi2 : (i : Int) < (xs.length : Int) := by omega
            have hi3 : (i : Int) ≤ 768 := by have := HB.out; omega
            have HI := Lib.hid hi1
            clear hi hi1
            go_wp2_with fail
            go_loopw [9] (fun sk W => ∃ k : Nat, sk = .int .i64 (k : Int) ∧ k ≤ xs.length ∧ Muls A B C xs i k ∧ Kt w.heap.size A B C W ∧ Below w.heap.size w W) (fun sk _ => xs.length - (intOf sk).toNat)
            case atStart => exact ⟨0, rfl, by omega, hM, hL, hB⟩
            case round =>
              clear hM hL hB
              obtain ⟨k, rfl, hk, hM, hL, hB⟩ := hrel
              by_cases hk1 : k < xs.length
              · have hk2 : (k : Int) < (xs.length : Int) := by omega
                have hk3 : (k : Int) ≤ 768 := by have := HB.out; omega
                have HK := Lib.hid hk1
                have hi1 := HI.out
                have hres := HA.out.2.2.resolve_left (fun h => by omega)
                have hhi := HA.out.1
                obtain ⟨g, cap', e9, _, hg, RA⟩ := hres
                simp only [Value.slice.injEq, true_and] at e9
                obtain ⟨rfl, rfl⟩ := e9
                have hgl : g < w.heap.size := by omega
                have q1 := (RA.grow hB hgl).mo i hi1
                have q2 := (RA.grow hB hgl).mo k hk1
                have gm := HGR.out _ (List.getElem_mem hi1)
                have gn := HGR.out _ (List.getElem_mem hk1)
                have cf := cmp_facts HFr.out HL.out gm gn
                have HS := Lib.hid (fun h => hM.step hi1 hk1 h)
                have HX := Lib.hid (fun h => chk_mul (f := f) (A := A) (B := B) (C := C) hi1 hk1 h)
                clear hM gm gn RA hg hhi
                generalize xs[i] = m at q1 HS HX cf
                generalize xs[k] = n at q2 HS HX cf
                clear hi1 hk1 hk
                obtain ⟨a, b, c, d, x, y⟩ := m
                obtain ⟨a', b', c', d', x', y'⟩ := n
                dsimp only at q1 q2
                obtain ⟨f1, f2, f3, f4, f5, f6⟩ := cf
                have CA : Hid (∀ W, Calls Tryz.prog 109 #[.agg #[.int .i64 a, .int .i64 b, .int .i64 c, .int .i64 d, .int .i64 x, .int .i64 y], .agg #[.int .i64 a', .int .i64 b', .int .i64 c', .int .i64 d', .int .i64 x', .int .i64 y']] W fun e w' => e = .returned (.agg #[.int .i64 (a * a' + b * c'), .int .i64 (a * b' + b * d'), .int .i64 (c * a' + d * c'), .int .i64 (c * b' + d * d'), .int .i64 (a * x' + b * y' + x), .int .i64 (c * x' + d * y' + y)]) ∧ Below W.heap.size W w') := Lib.hid (fun W => l05Compose_any a b c d x y a' b' c' d' x' y' W f1 f2 f3 f4)
                have CR : Hid (∀ W, Calls Tryz.prog 102 #[.agg #[.int .i64 A, .int .i64 B, .int .i64 C], .agg #[.int .i64 (a * a' + b * c'), .int .i64 (a * b' + b * d'), .int .i64 (c * a' + d * c'), .int .i64 (c * b' + d * d'), .int .i64 (a * x' + b * y' + x), .int .i64 (c * x' + d * y' + y)]] W fun e w' => e = .returned (.agg #[.int .i64 (a * a' + b * c'), .int .i64 (a * b' + b * d'), .int .i64 (c * a' + d * c'), .int .i64 (c * b' + d * d'), .int .i64 (redX A B C (a * x' + b * y' + x) (c * x' + d * y' + y)), .int .i64 (redY C (c * x' + d * y' + y))]) ∧ Below W.heap.size W w') := Lib.hid (fun W => l06Reduce_any A B C _ _ _ _ _ _ W HL.out f5 f6)
                have HNX : Hid (mulM A B C (a, b, c, d, x, y) (a', b', c', d', x', y') = (a * a' + b * c', a * b' + b * d', c * a' + d * c', c * b' + d * d', redX A B C (a * x' + b * y' + x) (c * x' + d * y' + y), redY C (c * x' + d * y' + y))) := Lib.hid rfl
                clear f1 f2 f3 f4 f5 f6
                generalize a * a' + b * c' = e0 at CA CR HNX
                generalize a * b' + b * d' = e1 at CA CR HNX
                generalize c * a' + d * c' = e2 at CA CR HNX
                generalize c * b' + d * d' = e3 at CA CR HNX
                generalize a * x' + b * y' + x = e4 at CA CR HNX
                generalize c * x' + d * y' + y = e5 at CA CR HNX
                generalize redX A B C e4 e5 = p at CR HNX
                generalize redY C e5 = q at CR HNX
                generalize mulM A B C (a, b, c, d, x, y) (a', b', c', d', x', y') = nx at HS HX HNX
                have hnx := HNX.out
                subst hnx
                clear HNX
                have CH : Hid (∀ W, Below w.heap.size w W → Calls Tryz.prog 107 #[.slice (some ⟨g, 0, none⟩) xs.length cap, .agg #[.int .i64 e0, .int .i64 e1, .int .i64 e2, .int .i64 e3, .int .i64 p, .int .i64 q]] W fun e w' => e = .returned (.bool (decide (((e0, e1, e2, e3, p, q) : M6) ∈ xs))) ∧ Below W.heap.size W w') := Lib.hid (fun W hW => l06Has_any e0 e1 e2 e3 p q (HA.out.grow hW HA.out.1) HUP.out HNN.out)
                have q1c := q1.cells
                have q2c := q2.cells
                have hLc := hL.cells
                rcases hd : decide (((e0, e1, e2, e3, p, q) : M6) ∈ xs) with _ | _
                · have HG := Lib.hid (HX.out hd)
                  rw [hd] at CH
                  clear HS HX hd
                  go_wp2_with fail
                  go_region_held3 (fun W => (W.cell? ⟨w.heap.size, 0, none⟩ = some (.int .i64 A) ∧ W.cell? ⟨w.heap.size, 1, none⟩ = some (.int .i64 B) ∧ W.cell? ⟨w.heap.size, 2, none⟩ = some (.int .i64 C)) ∧ (W.cell? ⟨g, i * 6, none⟩ = some (.int .i64 a) ∧ W.cell? ⟨g, i * 6 + 1, none⟩ = some (.int .i64 b) ∧ W.cell? ⟨g, i * 6 + 2, none⟩ = some (.int .i64 c) ∧ W.cell? ⟨g, i * 6 + 3, none⟩ = some (.int .i64 d) ∧ W.cell? ⟨g, i * 6 + 4, none⟩ = some (.int .i64 x) ∧ W.cell? ⟨g, i * 6 + 5, none⟩ = some (.int .i64 y)) ∧ (W.cell? ⟨g, k * 6, none⟩ = some (.int .i64 a') ∧ W.cell? ⟨g, k * 6 + 1, none⟩ = some (.int .i64 b') ∧ W.cell? ⟨g, k * 6 + 2, none⟩ = some (.int .i64 c') ∧ W.cell? ⟨g, k * 6 + 3, none⟩ = some (.int .i64 d') ∧ W.cell? ⟨g, k * 6 + 4, none⟩ = some (.int .i64 x') ∧ W.cell? ⟨g, k * 6 + 5, none⟩ = some (.int .i64 y'))) ((refine ⟨Kt.cells ?_, Ko6.cells ?_, Ko6.cells ?_⟩) <;> with_reducible repeat (first | assumption | refine Kt.drew ?_ | refine Kt.alloc ?_ _ | refine Kt.call ?_ (by assumption) | refine Ko6.drew ?_ | refine Ko6.alloc ?_ _ | refine Ko6.call ?_ (by assumption)))
                    (first
                      | (go_at_call 109; with_reducible refine (CA.out _).mono ?_; rintro e u1 ⟨rfl, hb1⟩; have La1 : Kt w.heap.size A B C u1 := (by with_reducible repeat (first | assumption | refine Kt.drew ?_ | refine Kt.alloc ?_ _ | refine Kt.call ?_ (by assumption) | refine Ko6.drew ?_ | refine Ko6.alloc ?_ _ | refine Ko6.call ?_ (by assumption))); have Ra1 : Ko6 g (i * 6) a b c d x y u1 := (by with_reducible repeat (first | assumption | refine Kt.drew ?_ | refine Kt.alloc ?_ _ | refine Kt.call ?_ (by assumption) | refine Ko6.drew ?_ | refine Ko6.alloc ?_ _ | refine Ko6.call ?_ (by assumption))); have Na1 : Ko6 g (k * 6) a' b' c' d' x' y' u1 := (by with_reducible repeat (first | assumption | refine Kt.drew ?_ | refine Kt.alloc ?_ _ | refine Kt.call ?_ (by assumption) | refine Ko6.drew ?_ | refine Ko6.alloc ?_ _ | refine Ko6.call ?_ (by assumption))); have Ba1 : Below w.heap.size w u1 := (by with_reducible repeat (first | assumption | exact Below.refl _ _ | refine bstep ?_ (by assumption) | refine Below.drew ?_)))
                      | (go_at_call 102; with_reducible refine (CR.out _).mono ?_; rintro e u2 ⟨rfl, hb2⟩; have La2 : Kt w.heap.size A B C u2 := (by with_reducible repeat (first | assumption | refine Kt.drew ?_ | refine Kt.alloc ?_ _ | refine Kt.call ?_ (by assumption) | refine Ko6.drew ?_ | refine Ko6.alloc ?_ _ | refine Ko6.call ?_ (by assumption))); have Ra2 : Ko6 g (i * 6) a b c d x y u2 := (by with_reducible repeat (first | assumption | refine Kt.drew ?_ | refine Kt.alloc ?_ _ | refine Kt.call ?_ (by assumption) | refine Ko6.drew ?_ | refine Ko6.alloc ?_ _ | refine Ko6.call ?_ (by assumption))); have Na2 : Ko6 g (k * 6) a' b' c' d' x' y' u2 := (by with_reducible repeat (first | assumption | refine Kt.drew ?_ | refine Kt.alloc ?_ _ | refine Kt.call ?_ (by assumption) | refine Ko6.drew ?_ | refine Ko6.alloc ?_ _ | refine Ko6.call ?_ (by assumption))); have Ba2 : Below w.heap.size w u2 := (by with_reducible repeat (first | assumption | exact Below.refl _ _ | refine bstep ?_ (by assumption) | refine Below.drew ?_)))
                      | (go_at_call 107; with_reducible refine (CH.out _ (by with_reducible repeat (first | assumption | exact Below.refl _ _ | refine bstep ?_ (by assumption) | refine Below.drew ?_))).mono ?_; rintro e u3 ⟨rfl, hb3⟩; have La3 : Kt w.heap.size A B C u3 := (by with_reducible repeat (first | assumption | refine Kt.drew ?_ | refine Kt.alloc ?_ _ | refine Kt.call ?_ (by assumption) | refine Ko6.drew ?_ | refine Ko6.alloc ?_ _ | refine Ko6.call ?_ (by assumption))); have Ra3 : Ko6 g (i * 6) a b c d x y u3 := (by with_reducible repeat (first | assumption | refine Kt.drew ?_ | refine Kt.alloc ?_ _ | refine Kt.call ?_ (by assumption) | refine Ko6.drew ?_ | refine Ko6.alloc ?_ _ | refine Ko6.call ?_ (by assumption))); have Na3 : Ko6 g (k * 6) a' b' c' d' x' y' u3 := (by with_reducible repeat (first | assumption | refine Kt.drew ?_ | refine Kt.alloc ?_ _ | refine Kt.call ?_ (by assumption) | refine Ko6.drew ?_ | refine Ko6.alloc ?_ _ | refine Ko6.call ?_ (by assumption))); have Ba3 : Below w.heap.size w u3 := (by with_reducible repeat (first | assumption | exact Below.refl _ _ | refine bstep ?_ (by assumption) | refine Below.drew ?_))))
                  all_goals
                    go_wp2
                    go_ret
                    exact ⟨ret_bool HG.out.symm, by with_reducible repeat (first | assumption | exact Below.refl _ _ | refine bstep ?_ (by assumption) | refine Below.drew ?_)⟩
                · have HN2 := Lib.hid (HS.out hd)
                  rw [hd] at CH
                  clear HS HX hd
                  go_wp2_with fail
                  go_region_held3 (fun W => (W.cell? ⟨w.heap.size, 0, none⟩ = some (.int .i64 A) ∧ W.cell? ⟨w.heap.size, 1, none⟩ = some (.int .i64 B) ∧ W.cell? ⟨w.heap.size, 2, none⟩ = some (.int .i64 C)) ∧ (W.cell? ⟨g, i * 6, none⟩ = some (.int .i64 a) ∧ W.cell? ⟨g, i * 6 + 1, none⟩ = some (.int .i64 b) ∧ W.cell? ⟨g, i * 6 + 2, none⟩ = some (.int .i64 c) ∧ W.cell? ⟨g, i * 6 + 3, none⟩ = some (.int .i64 d) ∧ W.cell? ⟨g, i * 6 + 4, none⟩ = some (.int .i64 x) ∧ W.cell? ⟨g, i * 6 + 5, none⟩ = some (.int .i64 y)) ∧ (W.cell? ⟨g, k * 6, none⟩ = some (.int .i64 a') ∧ W.cell? ⟨g, k * 6 + 1, none⟩ = some (.int .i64 b') ∧ W.cell? ⟨g, k * 6 + 2, none⟩ = some (.int .i64 c') ∧ W.cell? ⟨g, k * 6 + 3, none⟩ = some (.int .i64 d') ∧ W.cell? ⟨g, k * 6 + 4, none⟩ = some (.int .i64 x') ∧ W.cell? ⟨g, k * 6 + 5, none⟩ = some (.int .i64 y'))) ((refine ⟨Kt.cells ?_, Ko6.cells ?_, Ko6.cells ?_⟩) <;> with_reducible repeat (first | assumption | refine Kt.drew ?_ | refine Kt.alloc ?_ _ | refine Kt.call ?_ (by assumption) | refine Ko6.drew ?_ | refine Ko6.alloc ?_ _ | refine Ko6.call ?_ (by assumption)))
                    (first
                      | (go_at_call 109; with_reducible refine (CA.out _).mono ?_; rintro e u1 ⟨rfl, hb1⟩; have La1 : Kt w.heap.size A B C u1 := (by with_reducible repeat (first | assumption | refine Kt.drew ?_ | refine Kt.alloc ?_ _ | refine Kt.call ?_ (by assumption) | refine Ko6.drew ?_ | refine Ko6.alloc ?_ _ | refine Ko6.call ?_ (by assumption))); have Ra1 : Ko6 g (i * 6) a b c d x y u1 := (by with_reducible repeat (first | assumption | refine Kt.drew ?_ | refine Kt.alloc ?_ _ | refine Kt.call ?_ (by assumption) | refine Ko6.drew ?_ | refine Ko6.alloc ?_ _ | refine Ko6.call ?_ (by assumption))); have Na1 : Ko6 g (k * 6) a' b' c' d' x' y' u1 := (by with_reducible repeat (first | assumption | refine Kt.drew ?_ | refine Kt.alloc ?_ _ | refine Kt.call ?_ (by assumption) | refine Ko6.drew ?_ | refine Ko6.alloc ?_ _ | refine Ko6.call ?_ (by assumption))); have Ba1 : Below w.heap.size w u1 := (by with_reducible repeat (first | assumption | exact Below.refl _ _ | refine bstep ?_ (by assumption) | refine Below.drew ?_)))
                      | (go_at_call 102; with_reducible refine (CR.out _).mono ?_; rintro e u2 ⟨rfl, hb2⟩; have La2 : Kt w.heap.size A B C u2 := (by with_reducible repeat (first | assumption | refine Kt.drew ?_ | refine Kt.alloc ?_ _ | refine Kt.call ?_ (by assumption) | refine Ko6.drew ?_ | refine Ko6.alloc ?_ _ | refine Ko6.call ?_ (by assumption))); have Ra2 : Ko6 g (i * 6) a b c d x y u2 := (by with_reducible repeat (first | assumption | refine Kt.drew ?_ | refine Kt.alloc ?_ _ | refine Kt.call ?_ (by assumption) | refine Ko6.drew ?_ | refine Ko6.alloc ?_ _ | refine Ko6.call ?_ (by assumption))); have Na2 : Ko6 g (k * 6) a' b' c' d' x' y' u2 := (by with_reducible repeat (first | assumption | refine Kt.drew ?_ | refine Kt.alloc ?_ _ | refine Kt.call ?_ (by assumption) | refine Ko6.drew ?_ | refine Ko6.alloc ?_ _ | refine Ko6.call ?_ (by assumption))); have Ba2 : Below w.heap.size w u2 := (by with_reducible repeat (first | assumption | exact Below.refl _ _ | refine bstep ?_ (by assumption) | refine Below.drew ?_)))
                      | (go_at_call 107; with_reducible refine (CH.out _ (by with_reducible repeat (first | assumption | exact Below.refl _ _ | refine bstep ?_ (by assumption) | refine Below.drew ?_))).mono ?_; rintro e u3 ⟨rfl, hb3⟩; have La3 : Kt w.heap.size A B C u3 := (by with_reducible repeat (first | assumption | refine Kt.drew ?_ | refine Kt.alloc ?_ _ | refine Kt.call ?_ (by assumption) | refine Ko6.drew ?_ | refine Ko6.alloc ?_ _ | refine Ko6.call ?_ (by assumption))); have Ra3 : Ko6 g (i * 6) a b c d x y u3 := (by with_reducible repeat (first | assumption | refine Kt.drew ?_ | refine Kt.alloc ?_ _ | refine Kt.call ?_ (by assumption) | refine Ko6.drew ?_ | refine Ko6.alloc ?_ _ | refine Ko6.call ?_ (by assumption))); have Na3 : Ko6 g (k * 6) a' b' c' d' x' y' u3 := (by with_reducible repeat (first | assumption | refine Kt.drew ?_ | refine Kt.alloc ?_ _ | refine Kt.call ?_ (by assumption) | refine Ko6.drew ?_ | refine Ko6.alloc ?_ _ | refine Ko6.call ?_ (by assumption))); have Ba3 : Below w.heap.size w u3 := (by with_reducible repeat (first | assumption | exact Below.refl _ _ | refine bstep ?_ (by assumption) | refine Below.drew ?_))))
                  all_goals
                    go_wp2
                    go_roundw
                    case rel => exact ⟨k + 1, by go_num, by have := HK.out; omega, HN2.out, by with_reducible repeat (first | assumption | refine Kt.drew ?_ | refine Kt.alloc ?_ _ | refine Kt.call ?_ (by assumption) | refine Ko6.drew ?_ | refine Ko6.alloc ?_ _ | refine Ko6.call ?_ (by assumption)), by with_reducible repeat (first | assumption | exact Below.refl _ _ | refine bstep ?_ (by assumption) | refine Below.drew ?_)⟩
                    case measure => (have := HK.out); first | (simp [intOf]; done) | (simp [intOf]; omega)
              · obtain rfl : k = xs.length := by omega
                have HN2 := Lib.hid hM.next
                have HK := HI
                clear hM hk hk1
                go_wp2
                go_roundw
                case rel => exact ⟨i + 1, by go_num, by have := HI.out; omega, HN2.out, hL, hB⟩
                case measure => (have := HI.out); first | (simp [intOf]; done) | (simp [intOf]; omega)
          · obtain rfl : i = xs.length := by omega
            have HG := Lib.hid (chk_all HF.out HCk.out HONE.out hM)
            clear hM hi hi1
            go_wp2
            go_ret
            exact ⟨ret_bool HG.out.symm, hB⟩
end Go.Proofs.YtdgophfembpniaaGreatDoor
