/-
  Contracts of chapter 4: LatticeMats and PointMats, in the program and in the model; the walks of their exact laws. No condition.
-/
import Derived.Test.YtkfeajjpbmbmpaaGreatDoorPmJ
import Derived.Test.YtkfeajjpbmbmpaaGreatDoorGi
import Derived.Test.YtkfeajjpbmbmpaaGreatDoorSl4
namespace Go.Proofs.YtkfeajjpbmbmpaaGreatDoor
open Go.RowKit
set_option linter.unusedSimpArgs false
set_option linter.unusedVariables false

def stabP (f A B C : Int) (k : Nat) : List M4 := ((matsL f).take k).filter (stabB A B C)
theorem stabP_succ {f A B C : Int} {k : Nat} (h : k < (matsL f).length) : stabP f A B C (k + 1) = stabP f A B C k ++ (if stabB A B C (matsL f)[k] = true then [(matsL f)[k]] else []) := by
  unfold stabP
  rw [List.take_succ_eq_append_getElem h, List.filter_append]
  congr 1
  rcases hs : stabB A B C (matsL f)[k] with _ | _ <;> simp [hs]
theorem stabP_len (f A B C : Int) (k : Nat) : (stabP f A B C k).length ≤ 81 := by
  unfold stabP
  refine Nat.le_trans (List.length_filter_le _ _) (Nat.le_trans (List.length_take_le' _ _) (matsP_len f 81))
theorem matsL_keep {f : Int} {m : M4} (h : m ∈ matsL f) : keepM f m = true := by
  unfold matsL matsP at h
  exact (List.mem_filter.1 h).2
def StabOwn (f A B C : Int) (w : World) (e : Ending) (w' : World) : Prop :=
  ∃ v : Value, e = .returned v ∧ w'.ownsRow w.heap.size 27 4 v (stabL f A B C).length (cells4 (stabL f A B C)) ∧ Below w.heap.size w w'
set_option maxRecDepth 100000 in
set_option maxHeartbeats 4000000 in
theorem l04Stable_any (f A B C : Int) (w : World) (hf : frB f = true) (hl : latI A B C) :
    Calls Tryz.prog 244 #[.int .i64 f, .agg #[.int .i64 A, .int .i64 B, .int .i64 C]] w (StabOwn f A B C w) := by
  obtain ⟨i0, hi, hz0, hz1, hz2⟩ := info_parts infoMat
  have HI := Lib.hid hl
  clear hl
  go_enter Tryz.func244, Tryz.ntmps244
  go_wp2_with fail
  refine (l04Mats_any _ _ hf).mono ?_
  rintro e w1 ⟨va, rfl, hA, hb1⟩
  have K1 : Kt w.heap.size A B C w1 := Kt.call (Kt.at _ rfl) hb1
  have B1 : Below w.heap.size w w1 := bstep ((Below.refl _ _).alloc (Nat.le_refl _) _) hb1
  have zA := K1.1
  have SA := SRow.of hA (cells4_int _) (Nat.le_trans (matsP_len f 81) (by omega))
  have hML := matsP_len f 81
  have h81 : (matsL f).length ≤ 81 := hML
  clear hb1 hML hA
  have hlit : (w1.alloc (.cells #[] 27)).ownsRow w1.heap.size 27 4 (.slice (some ⟨w1.heap.size, 0, none⟩) 0 0) (stabP f A B C 0).length (cells4 (stabP f A B C 0)) := by
    have h := World.ownsRow_lit (base := w1.heap.size) (e := 27) (size := 4) w1 #[] 0 (Nat.le_refl _) (by unfold maxLen; omega) rfl
    simpa [stabP, cells4] using h
  have SA1 := SA.grow ((Below.refl w1.heap.size w1).alloc (Nat.le_refl _) (.cells #[] 27)) (Nat.le_refl _)
  have K2 := K1.alloc (.cells #[] 27)
  have B2 := B1.alloc B1.size (.cells #[] 27)
  have H81 := Lib.hid h81
  by_cases hz : (matsL f).length = 0
  · obtain ⟨ao, cap, rfl⟩ : ∃ ao cap, va = .slice ao 0 cap := by
      rcases SA.2.2 with ⟨_, h⟩ | ⟨g, cap, h, _⟩
      · exact h
      · exact ⟨_, cap, by rw [h, hz]⟩
    have hnil : stabP f A B C 0 = stabL f A B C := by unfold stabP stabL; rw [List.length_eq_zero_iff.1 hz]; rfl
    rw [hnil] at hlit
    clear SA SA1
    go_wp2_with fail
    go_loopw [6, 7] (fun v i W => i = .int .i64 ((0 : Nat) : Int) ∧ v = .slice (some ⟨w1.heap.size, 0, none⟩) 0 0 ∧ W = w1.alloc (.cells #[] 27)) (fun _ i _ => 0)
    case atStart => exact ⟨rfl, rfl, rfl⟩
    case round =>
      obtain ⟨rfl, rfl, rfl⟩ := hrel
      go_wp2
      go_ret
      exact ⟨_, rfl, ownsRow_lower hlit B1.size, B2⟩
  · obtain ⟨ga, cap, rfl, hga1, hga2, RA⟩ := SA.2.2.resolve_left (fun h => hz h.1)
    have RA1 := RA.grow ((Below.refl w1.heap.size w1).alloc (Nat.le_refl _) (.cells #[] 27)) hga2
    have HRA := Lib.hid hga2
    clear SA SA1 RA hz hga1 hga2 K1 B1
    go_wp2_with fail
    go_loopw [6, 7] (fun v i W => ∃ k : Nat, i = .int .i64 (k : Int) ∧ k ≤ (matsL f).length ∧ IRow ga ((matsL f).length * 4) (intAt (cells4 (matsL f))) W ∧ Kt w.heap.size A B C W ∧ W.ownsRow w1.heap.size 27 4 v (stabP f A B C k).length (cells4 (stabP f A B C k)) ∧ Below w.heap.size w W ∧ w1.heap.size ≤ W.heap.size) (fun _ i _ => (matsL f).length - (intOf i).toNat)
    case atStart => exact ⟨0, rfl, by omega, RA1, K2, hlit, B2, by simp⟩
    case round =>
      clear RA1 K2 hlit B2
      obtain ⟨k, rfl, hk, hR, hK, hown, hB, hz⟩ := hrel
      by_cases hk1 : k < (matsL f).length
      · have hk2 : (k : Int) < ((matsL f).length : Int) := by omega
        have hk3 : (k : Int) ≤ 81 := by have := H81.out; omega
        have q1 := hR.ko4 (k * 4) (by omega)
        have HKM := Lib.hid (matsL_keep (List.getElem_mem hk1))
        have HS := Lib.hid (stabP_succ (A := A) (B := B) (C := C) hk1)
        have hget := cells4_get (matsL f) k hk1
        rw [show intAt (cells4 (matsL f)) (k * 4) = (matsL f)[k].1 by simp [intAt, hget.1], show intAt (cells4 (matsL f)) (k * 4 + 1) = (matsL f)[k].2.1 by simp [intAt, hget.2.1], show intAt (cells4 (matsL f)) (k * 4 + 2) = (matsL f)[k].2.2.1 by simp [intAt, hget.2.2.1], show intAt (cells4 (matsL f)) (k * 4 + 3) = (matsL f)[k].2.2.2 by simp [intAt, hget.2.2.2]] at q1
        clear hget
        generalize (matsL f)[k] = m at q1 HKM HS
        obtain ⟨a, b, c, d⟩ := m
        dsimp only at q1
        have HM := Lib.hid (fun W => l04Image_any f A B C a b c d W hf HI.out HKM.out)
        have HSB := Lib.hid (show stabB A B C (a, b, c, d) = eqT (mapI A B C a b c d).1 (mapI A B C a b c d).2.1 (mapI A B C a b c d).2.2 A B C from rfl)
        generalize (mapI A B C a b c d).1 = t1 at HM HSB
        generalize (mapI A B C a b c d).2.1 = t2 at HM HSB
        generalize (mapI A B C a b c d).2.2 = t3 at HM HSB
        have HK1 := Lib.hid hk1
        have HL := Lib.hid (stabP_len f A B C k)
        obtain ⟨q10, q11, q12, q13, q14⟩ := id q1
        obtain ⟨k0, k1, k2, k3⟩ := id hK
        have ROWQ := Lib.hid q1
        clear hk hk1
        rcases e1 : (t1 == A) with _ | _
        · have hst : stabB A B C (a, b, c, d) = false := by rw [HSB.out]; simp [eqT, *]
          go_wp2_with fail
          go_region_held3 (fun W => (W.cell? ⟨ga, k * 4, none⟩ = some (.int .i64 a) ∧ W.cell? ⟨ga, k * 4 + 1, none⟩ = some (.int .i64 b) ∧ W.cell? ⟨ga, k * 4 + 2, none⟩ = some (.int .i64 c) ∧ W.cell? ⟨ga, k * 4 + 3, none⟩ = some (.int .i64 d)) ∧ (W.cell? ⟨w.heap.size, 0, none⟩ = some (.int .i64 A) ∧ W.cell? ⟨w.heap.size, 1, none⟩ = some (.int .i64 B) ∧ W.cell? ⟨w.heap.size, 2, none⟩ = some (.int .i64 C))) ((refine And.intro (Ko4.cells ?_) (Kt.cells ?_)) <;> repeat (first | assumption | with_reducible refine Ko4.drew ?_ | with_reducible refine Ko4.call ?_ (by assumption) | with_reducible refine Kt.drew ?_ | with_reducible refine Kt.call ?_ (by assumption)))
            (first | (go_at_call 207; refine (HM.out _).mono ?_; rintro e u1 ⟨rfl, hb1⟩; have Q1 : Ko4 ga (k * 4) a b c d u1 := (by repeat (first | assumption | with_reducible refine Ko4.drew ?_ | with_reducible refine Ko4.call ?_ (by assumption))); have K5 : Kt w.heap.size A B C u1 := (by repeat (first | assumption | with_reducible refine Kt.drew ?_ | with_reducible refine Kt.call ?_ (by assumption))); have HBu : Below wr.heap.size wr u1 := (by repeat (first | exact Below.refl _ _ | with_reducible refine Below.drew ?_ | with_reducible refine bstep ?_ (by assumption)))))
          all_goals
            have hR2 := hR.call HBu
            have hown2 : u1.ownsRow w1.heap.size 27 4 u6 (stabP f A B C (k + 1)).length (cells4 (stabP f A B C (k + 1))) := by
              rw [HS.out, hst]; simpa using ownsRow_call hown HBu
            have B2 := bstep hB HBu
            have z2 := Nat.le_trans hz HBu.size
            clear hown hB hR hK hz Q1 HBu hb1 q10 q11 q12 q13 q14 k0 k1 k2 k3 q1 e1
            go_wp2
            have hk1 := HK1.out
            go_roundw
            case rel => exact ⟨k + 1, by go_num, by omega, hR2, K5, hown2, B2, z2⟩
            case measure => first | (simp [intOf]; done) | (simp [intOf]; omega)
        rcases e2 : (t2 == B) with _ | _
        · have hst : stabB A B C (a, b, c, d) = false := by rw [HSB.out]; simp [eqT, *]
          go_wp2_with fail
          go_region_held3 (fun W => (W.cell? ⟨ga, k * 4, none⟩ = some (.int .i64 a) ∧ W.cell? ⟨ga, k * 4 + 1, none⟩ = some (.int .i64 b) ∧ W.cell? ⟨ga, k * 4 + 2, none⟩ = some (.int .i64 c) ∧ W.cell? ⟨ga, k * 4 + 3, none⟩ = some (.int .i64 d)) ∧ (W.cell? ⟨w.heap.size, 0, none⟩ = some (.int .i64 A) ∧ W.cell? ⟨w.heap.size, 1, none⟩ = some (.int .i64 B) ∧ W.cell? ⟨w.heap.size, 2, none⟩ = some (.int .i64 C))) ((refine And.intro (Ko4.cells ?_) (Kt.cells ?_)) <;> repeat (first | assumption | with_reducible refine Ko4.drew ?_ | with_reducible refine Ko4.call ?_ (by assumption) | with_reducible refine Kt.drew ?_ | with_reducible refine Kt.call ?_ (by assumption)))
            (first | (go_at_call 207; refine (HM.out _).mono ?_; rintro e u1 ⟨rfl, hb1⟩; have Q1 : Ko4 ga (k * 4) a b c d u1 := (by repeat (first | assumption | with_reducible refine Ko4.drew ?_ | with_reducible refine Ko4.call ?_ (by assumption))); have K5 : Kt w.heap.size A B C u1 := (by repeat (first | assumption | with_reducible refine Kt.drew ?_ | with_reducible refine Kt.call ?_ (by assumption))); have HBu : Below wr.heap.size wr u1 := (by repeat (first | exact Below.refl _ _ | with_reducible refine Below.drew ?_ | with_reducible refine bstep ?_ (by assumption)))))
          all_goals
            have hR2 := hR.call HBu
            have hown2 : u1.ownsRow w1.heap.size 27 4 u6 (stabP f A B C (k + 1)).length (cells4 (stabP f A B C (k + 1))) := by
              rw [HS.out, hst]; simpa using ownsRow_call hown HBu
            have B2 := bstep hB HBu
            have z2 := Nat.le_trans hz HBu.size
            clear hown hB hR hK hz Q1 HBu hb1 q10 q11 q12 q13 q14 k0 k1 k2 k3 q1 e1
            go_wp2
            have hk1 := HK1.out
            go_roundw
            case rel => exact ⟨k + 1, by go_num, by omega, hR2, K5, hown2, B2, z2⟩
            case measure => first | (simp [intOf]; done) | (simp [intOf]; omega)
        rcases e3 : (t3 == C) with _ | _
        · have hst : stabB A B C (a, b, c, d) = false := by rw [HSB.out]; simp [eqT, *]
          go_wp2_with fail
          go_region_held3 (fun W => (W.cell? ⟨ga, k * 4, none⟩ = some (.int .i64 a) ∧ W.cell? ⟨ga, k * 4 + 1, none⟩ = some (.int .i64 b) ∧ W.cell? ⟨ga, k * 4 + 2, none⟩ = some (.int .i64 c) ∧ W.cell? ⟨ga, k * 4 + 3, none⟩ = some (.int .i64 d)) ∧ (W.cell? ⟨w.heap.size, 0, none⟩ = some (.int .i64 A) ∧ W.cell? ⟨w.heap.size, 1, none⟩ = some (.int .i64 B) ∧ W.cell? ⟨w.heap.size, 2, none⟩ = some (.int .i64 C))) ((refine And.intro (Ko4.cells ?_) (Kt.cells ?_)) <;> repeat (first | assumption | with_reducible refine Ko4.drew ?_ | with_reducible refine Ko4.call ?_ (by assumption) | with_reducible refine Kt.drew ?_ | with_reducible refine Kt.call ?_ (by assumption)))
            (first | (go_at_call 207; refine (HM.out _).mono ?_; rintro e u1 ⟨rfl, hb1⟩; have Q1 : Ko4 ga (k * 4) a b c d u1 := (by repeat (first | assumption | with_reducible refine Ko4.drew ?_ | with_reducible refine Ko4.call ?_ (by assumption))); have K5 : Kt w.heap.size A B C u1 := (by repeat (first | assumption | with_reducible refine Kt.drew ?_ | with_reducible refine Kt.call ?_ (by assumption))); have HBu : Below wr.heap.size wr u1 := (by repeat (first | exact Below.refl _ _ | with_reducible refine Below.drew ?_ | with_reducible refine bstep ?_ (by assumption)))))
          all_goals
            have hR2 := hR.call HBu
            have hown2 : u1.ownsRow w1.heap.size 27 4 u6 (stabP f A B C (k + 1)).length (cells4 (stabP f A B C (k + 1))) := by
              rw [HS.out, hst]; simpa using ownsRow_call hown HBu
            have B2 := bstep hB HBu
            have z2 := Nat.le_trans hz HBu.size
            clear hown hB hR hK hz Q1 HBu hb1 q10 q11 q12 q13 q14 k0 k1 k2 k3 q1 e1
            go_wp2
            have hk1 := HK1.out
            go_roundw
            case rel => exact ⟨k + 1, by go_num, by omega, hR2, K5, hown2, B2, z2⟩
            case measure => first | (simp [intOf]; done) | (simp [intOf]; omega)
        have hst : stabB A B C (a, b, c, d) = true := by rw [HSB.out]; simp only [eqT, e1, e2, e3]; rfl
        go_wp2_with fail
        go_region_held3 (fun W => (W.cell? ⟨ga, k * 4, none⟩ = some (.int .i64 a) ∧ W.cell? ⟨ga, k * 4 + 1, none⟩ = some (.int .i64 b) ∧ W.cell? ⟨ga, k * 4 + 2, none⟩ = some (.int .i64 c) ∧ W.cell? ⟨ga, k * 4 + 3, none⟩ = some (.int .i64 d)) ∧ (W.cell? ⟨w.heap.size, 0, none⟩ = some (.int .i64 A) ∧ W.cell? ⟨w.heap.size, 1, none⟩ = some (.int .i64 B) ∧ W.cell? ⟨w.heap.size, 2, none⟩ = some (.int .i64 C))) ((refine And.intro (Ko4.cells ?_) (Kt.cells ?_)) <;> repeat (first | assumption | with_reducible refine Ko4.drew ?_ | with_reducible refine Ko4.call ?_ (by assumption) | with_reducible refine Kt.drew ?_ | with_reducible refine Kt.call ?_ (by assumption)))
          (first | (go_at_call 207; refine (HM.out _).mono ?_; rintro e u1 ⟨rfl, hb1⟩; have Q1 : Ko4 ga (k * 4) a b c d u1 := (by repeat (first | assumption | with_reducible refine Ko4.drew ?_ | with_reducible refine Ko4.call ?_ (by assumption))); have K5 : Kt w.heap.size A B C u1 := (by repeat (first | assumption | with_reducible refine Kt.drew ?_ | with_reducible refine Kt.call ?_ (by assumption))); have HBu : Below wr.heap.size wr u1 := (by repeat (first | exact Below.refl _ _ | with_reducible refine Below.drew ?_ | with_reducible refine bstep ?_ (by assumption)))))
        all_goals
          have hR2 := hR.call HBu
          have hown1 := ownsRow_call hown HBu
          have B2 := bstep hB HBu
          have z2 := Nat.le_trans hz HBu.size
          clear hown hB hR hK hz HBu hb1 q10 q11 q12 q13 q14 k0 k1 k2 k3 q1 e1 e2 e3
          obtain ⟨q10, q11, q12, q13, q14⟩ := id Q1
          go_wp2_with (at_builtin; refine wpList_append_own _ rfl _ _ 59 rfl w1.heap.size 27 i0 (.agg #[.int .i64 0, .int .i64 0, .int .i64 0, .int .i64 0]) 4 32 Tryz.underlying59 hi hz0 hz1 hz2 rfl (by decide) _ _ _ rfl (hown1.alloc _) ⟨u1.heap.size, 0, none⟩ 1 1 [.int .i64 a, .int .i64 b, .int .i64 c, .int .i64 d] rfl rfl ?c1 ?c2 ?c3 ?c4 ?c5 ?_)
          case c1 => exact new_four _ _ _ _ _ rfl
          case c2 => exact one_four
          case c3 => have h1 := HL.out; unfold maxLen; omega
          case c4 => have h1 := HL.out; omega
          case c5 => simp; omega
          intro v' w2 hown' hgrow _
          have hBx : Below w1.heap.size u1 w2 := Below.grown (Below.alloc (Below.refl _ _) z2 _) hgrow (by simp; omega) (fun q hq => (hown1.lt q hq).1)
          have hown2 : w2.ownsRow w1.heap.size 27 4 v' (stabP f A B C (k + 1)).length (cells4 (stabP f A B C (k + 1))) := by rw [HS.out, if_pos hst]; exact own_next4 (by simpa using hown')
          have hR3 := hR2.grow hBx HRA.out
          have K6 := K5.grow hBx zA
          have B3 : Below w.heap.size w w2 := B2.trans (hBx.mono (by omega))
          have z3 := Nat.le_trans z2 hBx.size
          clear hown1 hR2 K5 B2 z2 hBx hown' hgrow Q1 q10 q11 q12 q13 q14
          go_wp2
          have hk1 := HK1.out
          go_roundw
          case rel => exact ⟨k + 1, by go_num, by omega, hR3, K6, hown2, B3, z3⟩
          case measure => first | (simp [intOf]; done) | (simp [intOf]; omega)
      · obtain rfl : k = (matsL f).length := by omega
        have hfin : stabP f A B C (matsL f).length = stabL f A B C := by unfold stabP stabL; rw [List.take_length]
        rw [hfin] at hown
        clear hk hk1 hR hK
        go_wp2
        go_ret
        exact ⟨_, rfl, ownsRow_lower hown (by omega), hB⟩
/- LatticeMats -/
/- PointMats -/
end Go.Proofs.YtkfeajjpbmbmpaaGreatDoor
