/-
  Contracts of chapter 2's orders and kinds: the model's loop over six powers, and what the program reads from trace and determinant. Condition: the matrix is valid (for the model's order: its numbers lie from -1000 to 1000).
-/
import Derived.Test.YtpdekopmnchanabGreatDoorMatO
import Derived.Test.YtpdekopmnchanabGreatDoorKeep2
import Derived.Deep.DeepCutAuto
namespace Go.Proofs.YtpdekopmnchanabGreatDoor
open Go.RowKit
set_option linter.unusedSimpArgs false
set_option linter.unusedVariables false

theorem Kg.far {g : Nat} {a b : Int} {W : World} {p : Addr} {u : Value} (hp : p.block ≠ g) (h : Kg g a b W) : Kg g a b (W.setCell p u) := by
  obtain ⟨h0, h1, h2⟩ := h
  have e : (W.setCell p u).heap[g]? = W.heap[g]? := Below.heap_setCell _ _ _ _ (by omega)
  exact ⟨by simpa [World.setCell] using h0, by rw [World.cell?_of_block (w := W) e]; exact h1, by rw [World.cell?_of_block (w := W) e]; exact h2⟩
theorem Kq.far {g : Nat} {a b c d : Int} {W : World} {p : Addr} {u : Value} (hp : p.block ≠ g) (h : Kq g a b c d W) : Kq g a b c d (W.setCell p u) := by
  obtain ⟨h0, h1, h2, h3, h4⟩ := h
  have e : (W.setCell p u).heap[g]? = W.heap[g]? := Below.heap_setCell _ _ _ _ (by omega)
  exact ⟨by simpa [World.setCell] using h0, by rw [World.cell?_of_block (w := W) e]; exact h1, by rw [World.cell?_of_block (w := W) e]; exact h2, by rw [World.cell?_of_block (w := W) e]; exact h3, by rw [World.cell?_of_block (w := W) e]; exact h4⟩

theorem KR.store {R : Nat} {a b c d : Int} {W : World} (h : KR R a b c d W) (a' b' c' d' : Int) :
    KR R a' b' c' d' ((((W.setCell ⟨R, 0, none⟩ (.int .i64 a')).setCell ⟨R, 1, none⟩ (.int .i64 b')).setCell ⟨R, 2, none⟩ (.int .i64 c')).setCell ⟨R, 3, none⟩ (.int .i64 d')) := by
  obtain ⟨h0, h1, h2, h3, h4, h5, h6, h7, h8⟩ := h
  refine ⟨by simpa [World.setCell] using h0, ?_, ?_, ?_, ?_, ?_, ?_, ?_, ?_⟩ <;> simp [go_sem, *]

def OrdRel (w : World) (g : Nat) (a b c d : Int) (i : Value) (W : World) : Prop :=
  ∃ (k : Nat) (p q r s : Int), i = .int .i64 ((k : Int) + 1) ∧ k ≤ 6 ∧ Kq w.heap.size a b c d W ∧ KR g p q r s W ∧ limB p q r s = true ∧ pw a b c d k = (p, q, r, s) ∧ ordI a b c d = ordGo a b c d (k + 1) (6 - k) ∧ Below w.heap.size w W

set_option maxHeartbeats 4000000 in
theorem l02Order_any (a b c d : Int) (w : World) (h : limB a b c d = true) :
    Calls Tryz.prog 78 #[.agg #[.int .i64 a, .int .i64 b, .int .i64 c, .int .i64 d]] w fun e w' => e = .returned (.int .i64 (ordI a b c d)) ∧ Below w.heap.size w w' := by
  go_enter Tryz.func78, Tryz.ntmps78
  go_wp2_with fail
  refine (l02Unit_any _).mono ?_
  rintro e w1 ⟨rfl, hb1⟩
  have M1 : Kq w.heap.size a b c d w1 := Kq.call (Kq.at _ rfl) hb1
  have B1 : Below w.heap.size w w1 := bstep (Below.alloc (Below.refl _ _) (Nat.le_refl _) _) hb1
  clear hb1
  go_wp2_with fail
  go_loopw [4] (fun i W => OrdRel w w1.heap.size a b c d i W) (fun i _ => (7 - intOf i).toNat)
  case atStart =>
    exact ⟨0, 1, 0, 0, 1, rfl, by omega, M1.alloc _, KR.at _ rfl, by decide, rfl, rfl, B1.alloc B1.size _⟩
  case round =>
    have hg : w.heap.size < w1.heap.size := M1.1
    clear M1 B1
    obtain ⟨k, p, q, r, s, rfl, hk, M, R, hp, hpw, hord, hB⟩ := hrel
    have HPW := Lib.hid hpw
    have HO := Lib.hid hord
    clear hpw hord
    by_cases hk6 : k = 6
    · subst hk6
      have ea : ordI a b c d = 0 := by rw [HO.out]; rfl
      have EA := Lib.hid ea
      clear ea
      go_wp2
      go_ret
      exact ⟨ret_int EA.out.symm, hB⟩
    · have hk7 : (k : Int) + 1 ≤ 6 := by omega
      obtain ⟨m0, m1, m2, m3⟩ := M.cells
      obtain ⟨r0, r1, r2, r3, r4, r5, r6, r7, r8⟩ := id R
      go_wp2_with fail
      refine (l02Multiply_any _ _ _ _ _ _ _ _ _ h hp).mono ?_
      rintro e w2 ⟨rfl, hb2⟩
      have HN := Lib.hid (show pw a b c d (k + 1) = (a * p + b * r, a * q + b * s, c * p + d * r, c * q + d * s) by show mulP a b c d (pw a b c d k) = _; rw [HPW.out]; rfl)
      clear HPW m0 m1 m2 m3 r0 r1 r2 r3 r4 r5 r6 r7 r8
      generalize a * p + b * r = p' at *
      generalize a * q + b * s = q' at *
      generalize c * p + d * r = r' at *
      generalize c * q + d * s = s' at *
      have M2 := M.call hb2
      have R2 := R.call hb2
      have B2 := bstep hB hb2
      clear M R hb2 hB
      obtain ⟨r0, r1, r2, r3, r4, r5, r6, r7, r8⟩ := id R2
      have hstep : ordGo a b c d (k + 1) (6 - k) = bif limB p' q' r' s' then (bif unitB p' q' r' s' then ((k + 1 : Nat) : Int) else ordGo a b c d (k + 1 + 1) (6 - (k + 1))) else 0 := by
        rw [show 6 - k = (6 - (k + 1)) + 1 by omega]
        show (bif limP (pw a b c d (k + 1)) then (bif unitP (pw a b c d (k + 1)) then _ else _) else _) = _
        rw [HN.out]
        rfl
      have HS := Lib.hid (HO.out.trans hstep)
      clear hstep HO
      go_wp2_with fail
      refine (l02Small_any _ _ _ _ _).mono ?_
      rintro e w3 ⟨rfl, hb3⟩
      have M3 : Kq w.heap.size a b c d w3 := Kq.call (Kq.put hg (Kq.put hg (Kq.put hg (Kq.put hg M2)))) hb3
      have R3 : KR w1.heap.size p' q' r' s' w3 := KR.call (KR.store R2 p' q' r' s') hb3
      have hs1 : w.heap.size ≤ w1.heap.size := Nat.le_of_lt hg
      have B3 : Below w.heap.size w w3 := bstep (Below.setCell (Below.setCell (Below.setCell (Below.setCell B2 hs1 _) hs1 _) hs1 _) hs1 _) hb3
      clear M2 R2 B2 hb3 r0 r1 r2 r3 r4 r5 r6 r7 r8
      rcases hl : limB p' q' r' s' with _ | _
      · have ea : ordI a b c d = 0 := by rw [HS.out, hl]; rfl
        have EA := Lib.hid ea
        clear ea HS
        go_wp2
        go_ret
        exact ⟨ret_int EA.out.symm, B3⟩
      · by_cases ne : p' = 1
        · subst ne
          by_cases ne : q' = 0
          · subst ne
            by_cases ne : r' = 0
            · subst ne
              by_cases ne : s' = 1
              · subst ne
                have hu : unitB 1 0 0 1 = true := by simp [unitB]
                have ea : ordI a b c d = ((k + 1 : Nat) : Int) := by rw [HS.out, hl, hu]; rfl
                have EA := Lib.hid ea
                clear ea HS hu
                have hQ := R3.kq
                go_wp2_with fail
                go_region_held3 (fun W => W.cell? ⟨w1.heap.size, 0, none⟩ = some (.int .i64 1) ∧ W.cell? ⟨w1.heap.size, 1, none⟩ = some (.int .i64 0) ∧ W.cell? ⟨w1.heap.size, 2, none⟩ = some (.int .i64 0) ∧ W.cell? ⟨w1.heap.size, 3, none⟩ = some (.int .i64 1)) ((refine Kq.cells ?_; repeat (first | assumption | with_reducible refine Kq.drew ?_ | with_reducible refine Kq.call ?_ (by assumption))))
                  (first | (go_at_call 37; refine (l02Unit_any _).mono ?_; rintro e u4 ⟨rfl, hb4⟩; have hQ4 : Kq w1.heap.size 1 0 0 1 u4 := (by repeat (first | assumption | with_reducible refine Kq.drew ?_ | with_reducible refine Kq.call ?_ (by assumption))); have M4 : Kq w.heap.size a b c d u4 := (by repeat (first | assumption | with_reducible refine Kq.drew ?_ | with_reducible refine Kq.call ?_ (by assumption))); have R4 : KR w1.heap.size 1 0 0 1 u4 := (R3.drew.call hb4); have B4 : Below w.heap.size w u4 := bstep B3.drew hb4))
                go_wp2
                go_ret
                exact ⟨ret_int (by rw [EA.out]; omega), B4⟩
              · have nb : (s' == 1) = false := by simpa using ne
                have hu : unitB 1 0 0 s' = false := by simp [unitB, nb]
                have HN2 := Lib.hid (show ordI a b c d = ordGo a b c d (k + 1 + 1) (6 - (k + 1)) by rw [HS.out, hl, hu]; rfl)
                clear HS hu
                have hQ := R3.kq
                go_wp2_with fail
                go_region_held3 (fun W => W.cell? ⟨w1.heap.size, 0, none⟩ = some (.int .i64 1) ∧ W.cell? ⟨w1.heap.size, 1, none⟩ = some (.int .i64 0) ∧ W.cell? ⟨w1.heap.size, 2, none⟩ = some (.int .i64 0) ∧ W.cell? ⟨w1.heap.size, 3, none⟩ = some (.int .i64 s')) ((refine Kq.cells ?_; repeat (first | assumption | with_reducible refine Kq.drew ?_ | with_reducible refine Kq.call ?_ (by assumption))))
                  (first | (go_at_call 37; refine (l02Unit_any _).mono ?_; rintro e u4 ⟨rfl, hb4⟩; have hQ4 : Kq w1.heap.size 1 0 0 s' u4 := (by repeat (first | assumption | with_reducible refine Kq.drew ?_ | with_reducible refine Kq.call ?_ (by assumption))); have M4 : Kq w.heap.size a b c d u4 := (by repeat (first | assumption | with_reducible refine Kq.drew ?_ | with_reducible refine Kq.call ?_ (by assumption))); have R4 : KR w1.heap.size 1 0 0 s' u4 := (R3.drew.call hb4); have B4 : Below w.heap.size w u4 := bstep B3.drew hb4))
                go_wp2
                go_roundw
                case rel => exact ⟨k + 1, 1, 0, 0, s', by go_num, by omega, M4, R4, hl, HN.out, HN2.out, B4⟩
                case measure => simp [intOf]; omega
            · have nb : (r' == 0) = false := by simpa using ne
              have hu : unitB 1 0 r' s' = false := by simp [unitB, nb]
              have HN2 := Lib.hid (show ordI a b c d = ordGo a b c d (k + 1 + 1) (6 - (k + 1)) by rw [HS.out, hl, hu]; rfl)
              clear HS hu
              have hQ := R3.kq
              go_wp2_with fail
              go_region_held3 (fun W => W.cell? ⟨w1.heap.size, 0, none⟩ = some (.int .i64 1) ∧ W.cell? ⟨w1.heap.size, 1, none⟩ = some (.int .i64 0) ∧ W.cell? ⟨w1.heap.size, 2, none⟩ = some (.int .i64 r') ∧ W.cell? ⟨w1.heap.size, 3, none⟩ = some (.int .i64 s')) ((refine Kq.cells ?_; repeat (first | assumption | with_reducible refine Kq.drew ?_ | with_reducible refine Kq.call ?_ (by assumption))))
                (first | (go_at_call 37; refine (l02Unit_any _).mono ?_; rintro e u4 ⟨rfl, hb4⟩; have hQ4 : Kq w1.heap.size 1 0 r' s' u4 := (by repeat (first | assumption | with_reducible refine Kq.drew ?_ | with_reducible refine Kq.call ?_ (by assumption))); have M4 : Kq w.heap.size a b c d u4 := (by repeat (first | assumption | with_reducible refine Kq.drew ?_ | with_reducible refine Kq.call ?_ (by assumption))); have R4 : KR w1.heap.size 1 0 r' s' u4 := (R3.drew.call hb4); have B4 : Below w.heap.size w u4 := bstep B3.drew hb4))
              go_wp2
              go_roundw
              case rel => exact ⟨k + 1, 1, 0, r', s', by go_num, by omega, M4, R4, hl, HN.out, HN2.out, B4⟩
              case measure => simp [intOf]; omega
          · have nb : (q' == 0) = false := by simpa using ne
            have hu : unitB 1 q' r' s' = false := by simp [unitB, nb]
            have HN2 := Lib.hid (show ordI a b c d = ordGo a b c d (k + 1 + 1) (6 - (k + 1)) by rw [HS.out, hl, hu]; rfl)
            clear HS hu
            have hQ := R3.kq
            go_wp2_with fail
            go_region_held3 (fun W => W.cell? ⟨w1.heap.size, 0, none⟩ = some (.int .i64 1) ∧ W.cell? ⟨w1.heap.size, 1, none⟩ = some (.int .i64 q') ∧ W.cell? ⟨w1.heap.size, 2, none⟩ = some (.int .i64 r') ∧ W.cell? ⟨w1.heap.size, 3, none⟩ = some (.int .i64 s')) ((refine Kq.cells ?_; repeat (first | assumption | with_reducible refine Kq.drew ?_ | with_reducible refine Kq.call ?_ (by assumption))))
              (first | (go_at_call 37; refine (l02Unit_any _).mono ?_; rintro e u4 ⟨rfl, hb4⟩; have hQ4 : Kq w1.heap.size 1 q' r' s' u4 := (by repeat (first | assumption | with_reducible refine Kq.drew ?_ | with_reducible refine Kq.call ?_ (by assumption))); have M4 : Kq w.heap.size a b c d u4 := (by repeat (first | assumption | with_reducible refine Kq.drew ?_ | with_reducible refine Kq.call ?_ (by assumption))); have R4 : KR w1.heap.size 1 q' r' s' u4 := (R3.drew.call hb4); have B4 : Below w.heap.size w u4 := bstep B3.drew hb4))
            go_wp2
            go_roundw
            case rel => exact ⟨k + 1, 1, q', r', s', by go_num, by omega, M4, R4, hl, HN.out, HN2.out, B4⟩
            case measure => simp [intOf]; omega
        · have nb : (p' == 1) = false := by simpa using ne
          have hu : unitB p' q' r' s' = false := by simp [unitB, nb]
          have HN2 := Lib.hid (show ordI a b c d = ordGo a b c d (k + 1 + 1) (6 - (k + 1)) by rw [HS.out, hl, hu]; rfl)
          clear HS hu
          have hQ := R3.kq
          go_wp2_with fail
          go_region_held3 (fun W => W.cell? ⟨w1.heap.size, 0, none⟩ = some (.int .i64 p') ∧ W.cell? ⟨w1.heap.size, 1, none⟩ = some (.int .i64 q') ∧ W.cell? ⟨w1.heap.size, 2, none⟩ = some (.int .i64 r') ∧ W.cell? ⟨w1.heap.size, 3, none⟩ = some (.int .i64 s')) ((refine Kq.cells ?_; repeat (first | assumption | with_reducible refine Kq.drew ?_ | with_reducible refine Kq.call ?_ (by assumption))))
            (first | (go_at_call 37; refine (l02Unit_any _).mono ?_; rintro e u4 ⟨rfl, hb4⟩; have hQ4 : Kq w1.heap.size p' q' r' s' u4 := (by repeat (first | assumption | with_reducible refine Kq.drew ?_ | with_reducible refine Kq.call ?_ (by assumption))); have M4 : Kq w.heap.size a b c d u4 := (by repeat (first | assumption | with_reducible refine Kq.drew ?_ | with_reducible refine Kq.call ?_ (by assumption))); have R4 : KR w1.heap.size p' q' r' s' u4 := (R3.drew.call hb4); have B4 : Below w.heap.size w u4 := bstep B3.drew hb4))
          go_wp2
          go_roundw
          case rel => exact ⟨k + 1, p', q', r', s', by go_num, by omega, M4, R4, hl, HN.out, HN2.out, B4⟩
          case measure => simp [intOf]; omega
end Go.Proofs.YtpdekopmnchanabGreatDoor
