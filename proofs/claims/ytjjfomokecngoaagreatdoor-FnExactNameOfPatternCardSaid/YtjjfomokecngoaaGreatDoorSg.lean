/-
  Several of my texts in one: Sl4, LMj, SyG, SgQ.
-/
import Derived.Test.YtjjfomokecngoaaGreatDoorTu
import Derived.Test.YtjjfomokecngoaaGreatDoorGa
import Derived.Deep.RegionHeld3
import Derived.IntWalk
import Derived.Test.YtjjfomokecngoaaGreatDoorGc
import Derived.Test.YtjjfomokecngoaaGreatDoorPmJ
import Derived.Test.YtjjfomokecngoaaGreatDoorGi
import Derived.Test.YtjjfomokecngoaaGreatDoorSa
import Derived.Test.YtjjfomokecngoaaGreatDoorHg
namespace Go.Proofs.YtjjfomokecngoaaGreatDoor
section
open Go.RowKit
set_option linter.unusedSimpArgs false
set_option linter.unusedVariables false

def Ko4 (g o : Nat) (a b c d : Int) (W : World) : Prop := g < W.heap.size ∧ W.cell? ⟨g, o, none⟩ = some (.int .i64 a) ∧ W.cell? ⟨g, o + 1, none⟩ = some (.int .i64 b) ∧ W.cell? ⟨g, o + 2, none⟩ = some (.int .i64 c) ∧ W.cell? ⟨g, o + 3, none⟩ = some (.int .i64 d)
theorem Ko4.cells {g o : Nat} {a b c d : Int} {W : World} (h : Ko4 g o a b c d W) : W.cell? ⟨g, o, none⟩ = some (.int .i64 a) ∧ W.cell? ⟨g, o + 1, none⟩ = some (.int .i64 b) ∧ W.cell? ⟨g, o + 2, none⟩ = some (.int .i64 c) ∧ W.cell? ⟨g, o + 3, none⟩ = some (.int .i64 d) := h.2
theorem Ko4.call {g o : Nat} {a b c d : Int} {W w1 : World} (h : Ko4 g o a b c d W) (hb : Below W.heap.size W w1) : Ko4 g o a b c d w1 := ⟨Nat.lt_of_lt_of_le h.1 hb.size, by rw [hb.cell (p := ⟨g, o, none⟩) h.1]; exact h.2.1, by rw [hb.cell (p := ⟨g, o + 1, none⟩) h.1]; exact h.2.2.1, by rw [hb.cell (p := ⟨g, o + 2, none⟩) h.1]; exact h.2.2.2.1, by rw [hb.cell (p := ⟨g, o + 3, none⟩) h.1]; exact h.2.2.2.2⟩
theorem Ko4.alloc {g o : Nat} {a b c d : Int} {W : World} (h : Ko4 g o a b c d W) (x : Obj) : Ko4 g o a b c d (W.alloc x) := h.call ((Below.refl _ _).alloc (Nat.le_refl _) _)
theorem Ko4.drew {g o : Nat} {a b c d : Int} {W : World} (h : Ko4 g o a b c d W) : Ko4 g o a b c d W.drew := h.call (Below.refl _ _).drew
theorem IRow.ko4 {g N : Nat} {F : Nat → Int} {W : World} (h : IRow g N F W) (o : Nat) (ho : o + 3 < N) : Ko4 g o (F (o)) (F (o + 1)) (F (o + 2)) (F (o + 3)) W := ⟨h.1, h.at (o) (by omega), h.at (o + 1) (by omega), h.at (o + 2) (by omega), h.at (o + 3) (by omega)⟩
end
end Go.Proofs.YtjjfomokecngoaaGreatDoor

namespace Go.Proofs.YtjjfomokecngoaaGreatDoor
section
open Go.RowKit
set_option linter.unusedSimpArgs false
set_option linter.unusedVariables false

def stabP (f A B C : Int) (k : Nat) : List M4 := ((matsL f).take k).filter (stabB A B C)
theorem stabP_succ {f A B C : Int} {k : Nat} (h : k < (matsL f).length) : stabP f A B C (k + 1) = stabP f A B C k ++ (if stabB A B C (matsL f)[k] = true then [(matsL f)[k]] else []) := by
  unfold stabP
  rw [List.take_succ_eq_append_getElem h, List.filter_append]
  congr 1
  rcases hs : stabB A B C (matsL f)[k] with _ | _ <;> simp [hs]
theorem stabP_len (f A B C : Int) (k : Nat) : (stabP f A B C k).length ≤ 81 := by
  unfold stabP
  refine Nat.le_trans (List.length_filter_le _ _) (Nat.le_trans (List.length_take_le' _ _) (matsP_len f 81))
theorem matsL_keep {f : Int} {m : M4} (h : m ∈ matsL f) : keepM f m = true := by
  unfold matsL matsP at h
  exact (List.mem_filter.1 h).2
def StabOwn (f A B C : Int) (w : World) (e : Ending) (w' : World) : Prop :=
  ∃ v : Value, e = .returned v ∧ w'.ownsRow w.heap.size 59 4 v (stabL f A B C).length (cells4 (stabL f A B C)) ∧ Below w.heap.size w w'
set_option maxRecDepth 100000 in
set_option maxHeartbeats 4000000 in
theorem l04Stable_any (f A B C : Int) (w : World) (hf : frB f = true) (hl : latI A B C) :
    Calls Tryz.prog 194 #[.int .i64 f, .agg #[.int .i64 A, .int .i64 B, .int .i64 C]] w (StabOwn f A B C w) := by
  obtain ⟨i0, hi, hz0, hz1, hz2⟩ := info_parts infoMat
  have HI := Lib.hid hl
  clear hl
  go_enter Tryz.func194, Tryz.ntmps194
  go_wp2_with fail
  refine (l04Mats_any _ _ hf).mono ?_
  rintro e w1 ⟨va, rfl, hA, hb1⟩
  have K1 : Kt w.heap.size A B C w1 := Kt.call (Kt.at _ rfl) hb1
  have B1 : Below w.heap.size w w1 := bstep ((Below.refl _ _).alloc (Nat.le_refl _) _) hb1
  have zA := K1.1
  have SA := SRow.of hA (cells4_int _) (Nat.le_trans (matsP_len f 81) (by omega))
  have hML := matsP_len f 81
  have h81 : (matsL f).length ≤ 81 := hML
  clear hb1 hML hA
  have hlit : (w1.alloc (.cells #[] 59)).ownsRow w1.heap.size 59 4 (.slice (some ⟨w1.heap.size, 0, none⟩) 0 0) (stabP f A B C 0).length (cells4 (stabP f A B C 0)) := by
    have h := World.ownsRow_lit (base := w1.heap.size) (e := 59) (size := 4) w1 #[] 0 (Nat.le_refl _) (by unfold maxLen; omega) rfl
    simpa [stabP, cells4] using h
  have SA1 := SA.grow ((Below.refl w1.heap.size w1).alloc (Nat.le_refl _) (.cells #[] 59)) (Nat.le_refl _)
  have K2 := K1.alloc (.cells #[] 59)
  have B2 := B1.alloc B1.size (.cells #[] 59)
  have H81 := Lib.hid h81
  by_cases hz : (matsL f).length = 0
  · obtain ⟨ao, cap, rfl⟩ : ∃ ao cap, va = .slice ao 0 cap := by
      rcases SA.2.2 with ⟨_, h⟩ | ⟨g, cap, h, _⟩
      · exact h
      · exact ⟨_, cap, by rw [h, hz]⟩
    have hnil : stabP f A B C 0 = stabL f A B C := by unfold stabP stabL; rw [List.length_eq_zero_iff.1 hz]; rfl
    rw [hnil] at hlit
    clear SA SA1
    go_wp2_with fail
    go_loopw [6, 7] (fun v i W => i = .int .i64 ((0 : Nat) : Int) ∧ v = .slice (some ⟨w1.heap.size, 0, none⟩) 0 0 ∧ W = w1.alloc (.cells #[] 59)) (fun _ i _ => 0)
    case atStart => exact ⟨rfl, rfl, rfl⟩
    case round =>
      obtain ⟨rfl, rfl, rfl⟩ := hrel
      go_wp2
      go_ret
      exact ⟨_, rfl, ownsRow_lower hlit B1.size, B2⟩
  · obtain ⟨ga, cap, rfl, hga1, hga2, RA⟩ := SA.2.2.resolve_left (fun h => hz h.1)
    have RA1 := RA.grow ((Below.refl w1.heap.size w1).alloc (Nat.le_refl _) (.cells #[] 59)) hga2
    have HRA := Lib.hid hga2
    clear SA SA1 RA hz hga1 hga2 K1 B1
    go_wp2_with fail
    go_loopw [6, 7] (fun v i W => ∃ k : Nat, i = .int .i64 (k : Int) ∧ k ≤ (matsL f).length ∧ IRow ga ((matsL f).length * 4) (intAt (cells4 (matsL f))) W ∧ Kt w.heap.size A B C W ∧ W.ownsRow w1.heap.size 59 4 v (stabP f A B C k).length (cells4 (stabP f A B C k)) ∧ Below w.heap.size w W ∧ w1.heap.size ≤ W.heap.size) (fun _ i _ => (matsL f).length - (intOf i).toNat)
    case atStart => exact ⟨0, rfl, by omega, RA1, K2, hlit, B2, by simp⟩
    case round =>
      clear RA1 K2 hlit B2
      obtain ⟨k, rfl, hk, hR, hK, hown, hB, hz⟩ := hrel
      by_cases hk1 : k < (matsL f).length
      · have hk2 : (k : Int) < ((matsL f).length : Int) := by omega
        have hk3 : (k : Int) ≤ 81 := by have := H81.out; omega
        have q1 := hR.ko4 (k * 4) (by omega)
        have HKM := Lib.hid (matsL_keep (List.getElem_mem hk1))
        have HS := Lib.hid (stabP_succ (A := A) (B := B) (C := C) hk1)
        have hget := cells4_get (matsL f) k hk1
        rw [show intAt (cells4 (matsL f)) (k * 4) = (matsL f)[k].1 by simp [intAt, hget.1], show intAt (cells4 (matsL f)) (k * 4 + 1) = (matsL f)[k].2.1 by simp [intAt, hget.2.1], show intAt (cells4 (matsL f)) (k * 4 + 2) = (matsL f)[k].2.2.1 by simp [intAt, hget.2.2.1], show intAt (cells4 (matsL f)) (k * 4 + 3) = (matsL f)[k].2.2.2 by simp [intAt, hget.2.2.2]] at q1
        clear hget
        generalize (matsL f)[k] = m at q1 HKM HS
        obtain ⟨a, b, c, d⟩ := m
        dsimp only at q1
        have HM := Lib.hid (fun W => l04Image_any f A B C a b c d W hf HI.out HKM.out)
        have HSB := Lib.hid (show stabB A B C (a, b, c, d) = eqT (mapI A B C a b c d).1 (mapI A B C a b c d).2.1 (mapI A B C a b c d).2.2 A B C from rfl)
        generalize (mapI A B C a b c d).1 = t1 at HM HSB
        generalize (mapI A B C a b c d).2.1 = t2 at HM HSB
        generalize (mapI A B C a b c d).2.2 = t3 at HM HSB
        have HK1 := Lib.hid hk1
        have HL := Lib.hid (stabP_len f A B C k)
        obtain ⟨q10, q11, q12, q13, q14⟩ := id q1
        obtain ⟨k0, k1, k2, k3⟩ := id hK
        have ROWQ := Lib.hid q1
        clear hk hk1
        rcases e1 : (t1 == A) with _ | _
        · have hst : stabB A B C (a, b, c, d) = false := by rw [HSB.out]; simp [eqT, *]
          go_wp2_with fail
          go_region_held3 (fun W => (W.cell? ⟨ga, k * 4, none⟩ = some (.int .i64 a) ∧ W.cell? ⟨ga, k * 4 + 1, none⟩ = some (.int .i64 b) ∧ W.cell? ⟨ga, k * 4 + 2, none⟩ = some (.int .i64 c) ∧ W.cell? ⟨ga, k * 4 + 3, none⟩ = some (.int .i64 d)) ∧ (W.cell? ⟨w.heap.size, 0, none⟩ = some (.int .i64 A) ∧ W.cell? ⟨w.heap.size, 1, none⟩ = some (.int .i64 B) ∧ W.cell? ⟨w.heap.size, 2, none⟩ = some (.int .i64 C))) ((refine And.intro (Ko4.cells ?_) (Kt.cells ?_)) <;> repeat (first | assumption | with_reducible refine Ko4.drew ?_ | with_reducible refine Ko4.call ?_ (by assumption) | with_reducible refine Kt.drew ?_ | with_reducible refine Kt.call ?_ (by assumption)))
            (first | (go_at_call 164; refine (HM.out _).mono ?_; rintro e u1 ⟨rfl, hb1⟩; have Q1 : Ko4 ga (k * 4) a b c d u1 := (by repeat (first | assumption | with_reducible refine Ko4.drew ?_ | with_reducible refine Ko4.call ?_ (by assumption))); have K5 : Kt w.heap.size A B C u1 := (by repeat (first | assumption | with_reducible refine Kt.drew ?_ | with_reducible refine Kt.call ?_ (by assumption))); have HBu : Below wr.heap.size wr u1 := (by repeat (first | exact Below.refl _ _ | with_reducible refine Below.drew ?_ | with_reducible refine bstep ?_ (by assumption)))))
          all_goals
            have hR2 := hR.call HBu
            have hown2 : u1.ownsRow w1.heap.size 59 4 u6 (stabP f A B C (k + 1)).length (cells4 (stabP f A B C (k + 1))) := by
              rw [HS.out, hst]; simpa using ownsRow_call hown HBu
            have B2 := bstep hB HBu
            have z2 := Nat.le_trans hz HBu.size
            clear hown hB hR hK hz Q1 HBu hb1 q10 q11 q12 q13 q14 k0 k1 k2 k3 q1 e1
            go_wp2
            have hk1 := HK1.out
            go_roundw
            case rel => exact ⟨k + 1, by go_num, by omega, hR2, K5, hown2, B2, z2⟩
            case measure => first | (simp [intOf]; done) | (simp [intOf]; omega)
        rcases e2 : (t2 == B) with _ | _
        · have hst : stabB A B C (a, b, c, d) = false := by rw [HSB.out]; simp [eqT, *]
          go_wp2_with fail
          go_region_held3 (fun W => (W.cell? ⟨ga, k * 4, none⟩ = some (.int .i64 a) ∧ W.cell? ⟨ga, k * 4 + 1, none⟩ = some (.int .i64 b) ∧ W.cell? ⟨ga, k * 4 + 2, none⟩ = some (.int .i64 c) ∧ W.cell? ⟨ga, k * 4 + 3, none⟩ = some (.int .i64 d)) ∧ (W.cell? ⟨w.heap.size, 0, none⟩ = some (.int .i64 A) ∧ W.cell? ⟨w.heap.size, 1, none⟩ = some (.int .i64 B) ∧ W.cell? ⟨w.heap.size, 2, none⟩ = some (.int .i64 C))) ((refine And.intro (Ko4.cells ?_) (Kt.cells ?_)) <;> repeat (first | assumption | with_reducible refine Ko4.drew ?_ | with_reducible refine Ko4.call ?_ (by assumption) | with_reducible refine Kt.drew ?_ | with_reducible refine Kt.call ?_ (by assumption)))
            (first | (go_at_call 164; refine (HM.out _).mono ?_; rintro e u1 ⟨rfl, hb1⟩; have Q1 : Ko4 ga (k * 4) a b c d u1 := (by repeat (first | assumption | with_reducible refine Ko4.drew ?_ | with_reducible refine Ko4.call ?_ (by assumption))); have K5 : Kt w.heap.size A B C u1 := (by repeat (first | assumption | with_reducible refine Kt.drew ?_ | with_reducible refine Kt.call ?_ (by assumption))); have HBu : Below wr.heap.size wr u1 := (by repeat (first | exact Below.refl _ _ | with_reducible refine Below.drew ?_ | with_reducible refine bstep ?_ (by assumption)))))
          all_goals
            have hR2 := hR.call HBu
            have hown2 : u1.ownsRow w1.heap.size 59 4 u6 (stabP f A B C (k + 1)).length (cells4 (stabP f A B C (k + 1))) := by
              rw [HS.out, hst]; simpa using ownsRow_call hown HBu
            have B2 := bstep hB HBu
            have z2 := Nat.le_trans hz HBu.size
            clear hown hB hR hK hz Q1 HBu hb1 q10 q11 q12 q13 q14 k0 k1 k2 k3 q1 e1
            go_wp2
            have hk1 := HK1.out
            go_roundw
            case rel => exact ⟨k + 1, by go_num, by omega, hR2, K5, hown2, B2, z2⟩
            case measure => first | (simp [intOf]; done) | (simp [intOf]; omega)
        rcases e3 : (t3 == C) with _ | _
        · have hst : stabB A B C (a, b, c, d) = false := by rw [HSB.out]; simp [eqT, *]
          go_wp2_with fail
          go_region_held3 (fun W => (W.cell? ⟨ga, k * 4, none⟩ = some (.int .i64 a) ∧ W.cell? ⟨ga, k * 4 + 1, none⟩ = some (.int .i64 b) ∧ W.cell? ⟨ga, k * 4 + 2, none⟩ = some (.int .i64 c) ∧ W.cell? ⟨ga, k * 4 + 3, none⟩ = some (.int .i64 d)) ∧ (W.cell? ⟨w.heap.size, 0, none⟩ = some (.int .i64 A) ∧ W.cell? ⟨w.heap.size, 1, none⟩ = some (.int .i64 B) ∧ W.cell? ⟨w.heap.size, 2, none⟩ = some (.int .i64 C))) ((refine And.intro (Ko4.cells ?_) (Kt.cells ?_)) <;> repeat (first | assumption | with_reducible refine Ko4.drew ?_ | with_reducible refine Ko4.call ?_ (by assumption) | with_reducible refine Kt.drew ?_ | with_reducible refine Kt.call ?_ (by assumption)))
            (first | (go_at_call 164; refine (HM.out _).mono ?_; rintro e u1 ⟨rfl, hb1⟩; have Q1 : Ko4 ga (k * 4) a b c d u1 := (by repeat (first | assumption | with_reducible refine Ko4.drew ?_ | with_reducible refine Ko4.call ?_ (by assumption))); have K5 : Kt w.heap.size A B C u1 := (by repeat (first | assumption | with_reducible refine Kt.drew ?_ | with_reducible refine Kt.call ?_ (by assumption))); have HBu : Below wr.heap.size wr u1 := (by repeat (first | exact Below.refl _ _ | with_reducible refine Below.drew ?_ | with_reducible refine bstep ?_ (by assumption)))))
          all_goals
            have hR2 := hR.call HBu
            have hown2 : u1.ownsRow w1.heap.size 59 4 u6 (stabP f A B C (k + 1)).length (cells4 (stabP f A B C (k + 1))) := by
              rw [HS.out, hst]; simpa using ownsRow_call hown HBu
            have B2 := bstep hB HBu
            have z2 := Nat.le_trans hz HBu.size
            clear hown hB hR hK hz Q1 HBu hb1 q10 q11 q12 q13 q14 k0 k1 k2 k3 q1 e1
            go_wp2
            have hk1 := HK1.out
            go_roundw
            case rel => exact ⟨k + 1, by go_num, by omega, hR2, K5, hown2, B2, z2⟩
            case measure => first | (simp [intOf]; done) | (simp [intOf]; omega)
        have hst : stabB A B C (a, b, c, d) = true := by rw [HSB.out]; simp only [eqT, e1, e2, e3]; rfl
        go_wp2_with fail
        go_region_held3 (fun W => (W.cell? ⟨ga, k * 4, none⟩ = some (.int .i64 a) ∧ W.cell? ⟨ga, k * 4 + 1, none⟩ = some (.int .i64 b) ∧ W.cell? ⟨ga, k * 4 + 2, none⟩ = some (.int .i64 c) ∧ W.cell? ⟨ga, k * 4 + 3, none⟩ = some (.int .i64 d)) ∧ (W.cell? ⟨w.heap.size, 0, none⟩ = some (.int .i64 A) ∧ W.cell? ⟨w.heap.size, 1, none⟩ = some (.int .i64 B) ∧ W.cell? ⟨w.heap.size, 2, none⟩ = some (.int .i64 C))) ((refine And.intro (Ko4.cells ?_) (Kt.cells ?_)) <;> repeat (first | assumption | with_reducible refine Ko4.drew ?_ | with_reducible refine Ko4.call ?_ (by assumption) | with_reducible refine Kt.drew ?_ | with_reducible refine Kt.call ?_ (by assumption)))
          (first | (go_at_call 164; refine (HM.out _).mono ?_; rintro e u1 ⟨rfl, hb1⟩; have Q1 : Ko4 ga (k * 4) a b c d u1 := (by repeat (first | assumption | with_reducible refine Ko4.drew ?_ | with_reducible refine Ko4.call ?_ (by assumption))); have K5 : Kt w.heap.size A B C u1 := (by repeat (first | assumption | with_reducible refine Kt.drew ?_ | with_reducible refine Kt.call ?_ (by assumption))); have HBu : Below wr.heap.size wr u1 := (by repeat (first | exact Below.refl _ _ | with_reducible refine Below.drew ?_ | with_reducible refine bstep ?_ (by assumption)))))
        all_goals
          have hR2 := hR.call HBu
          have hown1 := ownsRow_call hown HBu
          have B2 := bstep hB HBu
          have z2 := Nat.le_trans hz HBu.size
          clear hown hB hR hK hz HBu hb1 q10 q11 q12 q13 q14 k0 k1 k2 k3 q1 e1 e2 e3
          obtain ⟨q10, q11, q12, q13, q14⟩ := id Q1
          go_wp2_with (at_builtin; refine wpList_append_own _ rfl _ _ 87 rfl w1.heap.size 59 i0 (.agg #[.int .i64 0, .int .i64 0, .int .i64 0, .int .i64 0]) 4 32 Tryz.underlying87 hi hz0 hz1 hz2 rfl (by decide) _ _ _ rfl (hown1.alloc _) ⟨u1.heap.size, 0, none⟩ 1 1 [.int .i64 a, .int .i64 b, .int .i64 c, .int .i64 d] rfl rfl ?c1 ?c2 ?c3 ?c4 ?c5 ?_)
          case c1 => exact new_four _ _ _ _ _ rfl
          case c2 => exact one_four
          case c3 => have h1 := HL.out; unfold maxLen; omega
          case c4 => have h1 := HL.out; omega
          case c5 => simp; omega
          intro v' w2 hown' hgrow _
          have hBx : Below w1.heap.size u1 w2 := Below.grown (Below.alloc (Below.refl _ _) z2 _) hgrow (by simp; omega) (fun q hq => (hown1.lt q hq).1)
          have hown2 : w2.ownsRow w1.heap.size 59 4 v' (stabP f A B C (k + 1)).length (cells4 (stabP f A B C (k + 1))) := by rw [HS.out, if_pos hst]; exact own_next4 (by simpa using hown')
          have hR3 := hR2.grow hBx HRA.out
          have K6 := K5.grow hBx zA
          have B3 : Below w.heap.size w w2 := B2.trans (hBx.mono (by omega))
          have z3 := Nat.le_trans z2 hBx.size
          clear hown1 hR2 K5 B2 z2 hBx hown' hgrow Q1 q10 q11 q12 q13 q14
          go_wp2
          have hk1 := HK1.out
          go_roundw
          case rel => exact ⟨k + 1, by go_num, by omega, hR3, K6, hown2, B3, z3⟩
          case measure => first | (simp [intOf]; done) | (simp [intOf]; omega)
      · obtain rfl : k = (matsL f).length := by omega
        have hfin : stabP f A B C (matsL f).length = stabL f A B C := by unfold stabP stabL; rw [List.take_length]
        rw [hfin] at hown
        clear hk hk1 hR hK
        go_wp2
        go_ret
        exact ⟨_, rfl, ownsRow_lower hown (by omega), hB⟩
/- LatticeMats -/
/- PointMats -/
end
end Go.Proofs.YtjjfomokecngoaaGreatDoor

namespace Go.Proofs.YtjjfomokecngoaaGreatDoor
section
open Go.RowKit
set_option linter.unusedSimpArgs false
set_option linter.unusedVariables false

theorem infoMoT : (Tryz.prog.info? 69).map (fun i => (i.zero, i.size, i.bytes)) = some (some (.agg #[.int .i64 0, .int .i64 0, .int .i64 0, .int .i64 0, .int .i64 0, .int .i64 0]), 6, 48) := by kernel_rfl
theorem IRow.m4S {g : Nat} {xs : List M4} {W : World} (h : IRow g (xs.length * 4) (intAt (cells4 xs)) W) (i : Nat) (hi : i < xs.length) : Ko4 g (i * 4) xs[i].1 xs[i].2.1 xs[i].2.2.1 xs[i].2.2.2 W := by
  have k := h.ko4 (i * 4) (by omega)
  have hget := cells4_get xs i hi
  rw [show intAt (cells4 xs) (i * 4) = xs[i].1 by simp [intAt, hget.1], show intAt (cells4 xs) (i * 4 + 1) = xs[i].2.1 by simp [intAt, hget.2.1], show intAt (cells4 xs) (i * 4 + 2) = xs[i].2.2.1 by simp [intAt, hget.2.2.1], show intAt (cells4 xs) (i * 4 + 3) = xs[i].2.2.2 by simp [intAt, hget.2.2.2]] at k
  exact k
theorem rowM_take {m : M4} {C : List (Int × Int)} {k : Nat} (hk : k < C.length) : rowM m (C.take (k + 1)) = rowM m (C.take k) ++ [(m.1, m.2.1, m.2.2.1, m.2.2.2, C[k].1, C[k].2)] := by
  unfold rowM
  rw [List.take_succ_eq_append_getElem hk, List.map_append]
  rfl
theorem flat_take {L : List M4} {C : List (Int × Int)} {i : Nat} (hi : i < L.length) : ((L.take (i + 1)).flatMap fun m => rowM m C) = ((L.take i).flatMap fun m => rowM m C) ++ rowM L[i] C := by
  rw [List.take_succ_eq_append_getElem hi, List.flatMap_append]
  simp
theorem stabL_len (f A B C : Int) : (stabL f A B C).length ≤ 81 := Nat.le_trans (List.length_filter_le _ _) (matsP_len f 81)
theorem stab_kee {f A B C : Int} {m : M4} (h : m ∈ stabL f A B C) : keepB f m.1 m.2.1 m.2.2.1 m.2.2.2 = true ∧ stabB A B C m = true := by
  unfold stabL at h
  obtain ⟨h1, h2⟩ := List.mem_filter.1 h
  exact ⟨matsL_keep h1, h2⟩
set_option maxRecDepth 100000 in
set_option maxHeartbeats 16000000 in
theorem l10Group_any {lo hi p q n : Nat} {f B : Int} {v : Value} {F : Nat → Int} {W : World} (h : PatI f p B q n F) (hv : SRow lo hi 1 v n F W) :
    Calls Tryz.prog 131 #[.agg #[.int .i64 f, .int .i64 (p : Int), .int .i64 B, .int .i64 (q : Int), v]] W fun e w' => ∃ v', e = .returned v' ∧ w'.ownsRow W.heap.size 69 6 v' (symL f p B q F).length (cells6 (symL f p B q F)) ∧ Below W.heap.size W w' := by
  obtain ⟨i0, hinf, hz0, hz1, hz2⟩ := info_parts infoMoT
  have R := Lib.hid hv
  have HH := Lib.hid h
  obtain ⟨hp1, hp2, hq1, hq2, hn64, hn1⟩ := h.bd
  have hpq : p * q ≤ 64 := by rw [← h.nn]; exact hn64
  obtain ⟨g, cap, rfl, hg, _, r⟩ := hv.irow hn1
  have hgs := hv.1
  have hgw : g < W.heap.size := by omega
  have hf := h.fr
  have HL := Lib.hid h.lat
  have P0 : Bx W.heap.size [.int .i64 f, .int .i64 (p : Int), .int .i64 B, .int .i64 (q : Int), .slice (some ⟨g, 0, none⟩) n cap] (W.alloc (.cells #[.int .i64 f, .int .i64 (p : Int), .int .i64 B, .int .i64 (q : Int), .slice (some ⟨g, 0, none⟩) n cap] 40)) := Bx.at _ rfl
  have B0 : Below W.heap.size W (W.alloc (.cells #[.int .i64 f, .int .i64 (p : Int), .int .i64 B, .int .i64 (q : Int), .slice (some ⟨g, 0, none⟩) n cap] 40)) := by repeat (first | with_reducible exact Below.refl _ _ | with_reducible assumption | with_reducible refine Below.setCell ?_ (by first | omega | (dsimp only; omega) | (simp <;> omega)) _ | with_reducible refine Below.alloc ?_ (by first | omega | (simp <;> omega)) _ | with_reducible refine bstep ?_ (by with_reducible assumption) | with_reducible refine Below.drew ?_ | with_reducible refine below_drewN ?_ _)
  have HST := Lib.hid (fun X => l04Stable_any f (p : Int) B (q : Int) X hf HL.out)
  have HCE := Lib.hid (fun X => l03Cells_any p q B X hp2 hq2)
  clear hv h
  go_enter Tryz.func131, Tryz.ntmps131
  have p0c0 := P0.c0
  have p0c1 := P0.c1
  have p0c2 := P0.c2
  have p0c3 := P0.c3
  have p0c4 := P0.c4
  have p0l := P0.lt
  go_wp2_with fail
  go_region_held3 (fun W9 => (W9.cell? ⟨W.heap.size, 0, none⟩ = some (.int .i64 f) ∧ W9.cell? ⟨W.heap.size, 1, none⟩ = some (.int .i64 (p : Int)) ∧ W9.cell? ⟨W.heap.size, 2, none⟩ = some (.int .i64 B) ∧ W9.cell? ⟨W.heap.size, 3, none⟩ = some (.int .i64 (q : Int)) ∧ W9.cell? ⟨W.heap.size, 4, none⟩ = some (.slice (some ⟨g, 0, none⟩) n cap))) ((refine Bx.cells5 ?_) <;> (repeat (first | with_reducible assumption | with_reducible refine Bx.drew ?_ | with_reducible refine Bx.alloc ?_ _ | with_reducible refine Bx.call ?_ (by with_reducible assumption))))
    (first
      | (go_at_call 194; (with_reducible refine (HST.out _).mono ?_); rintro e w1 ⟨v1, rfl, o1, hb1⟩; have S1 := Lib.hid (SRow.of o1 (cells4_int _) (Nat.le_trans (stabL_len f (p : Int) B (q : Int)) (by omega))); obtain ⟨ao1, cap1, rfl⟩ := S1.out.slice; clear o1; have P1 : Bx W.heap.size [.int .i64 f, .int .i64 (p : Int), .int .i64 B, .int .i64 (q : Int), .slice (some ⟨g, 0, none⟩) n cap] w1 := (by repeat (first | with_reducible assumption | with_reducible refine Bx.drew ?_ | with_reducible refine Bx.alloc ?_ _ | with_reducible refine Bx.call ?_ (by with_reducible assumption))); have B1 : Below W.heap.size W w1 := (by repeat (first | with_reducible assumption | with_reducible exact Below.refl _ _ | with_reducible refine Below.drew ?_ | with_reducible refine Below.alloc ?_ (by first | omega | (simp <;> omega)) _ | with_reducible refine Below.setCell ?_ (by first | omega | (dsimp only; omega)) _ | with_reducible refine bstep ?_ (by with_reducible assumption))); have p1c0 := P1.c0; have p1c1 := P1.c1; have p1c2 := P1.c2; have p1c3 := P1.c3; have p1c4 := P1.c4; have p1l := P1.lt)
      | (go_at_call 195; (with_reducible refine (HCE.out _).mono ?_); rintro e w2 ⟨v2, rfl, o2, hb2⟩; have S2 := Lib.hid (SRow.of o2 (cells2_int _) (by rw [cellP_len]; omega)); obtain ⟨ao2, cap2, rfl⟩ := S2.out.slice; clear o2; have P2 : Bx W.heap.size [.int .i64 f, .int .i64 (p : Int), .int .i64 B, .int .i64 (q : Int), .slice (some ⟨g, 0, none⟩) n cap] w2 := (by repeat (first | with_reducible assumption | with_reducible refine Bx.drew ?_ | with_reducible refine Bx.alloc ?_ _ | with_reducible refine Bx.call ?_ (by with_reducible assumption))); have B2 : Below W.heap.size W w2 := (by repeat (first | with_reducible assumption | with_reducible exact Below.refl _ _ | with_reducible refine Below.drew ?_ | with_reducible refine Below.alloc ?_ (by first | omega | (simp <;> omega)) _ | with_reducible refine Below.setCell ?_ (by first | omega | (dsimp only; omega)) _ | with_reducible refine bstep ?_ (by with_reducible assumption))); have C12 : Below w1.heap.size w1 w2 := (by repeat (first | with_reducible assumption | with_reducible exact Below.refl _ _ | with_reducible refine Below.drew ?_ | with_reducible refine Below.alloc ?_ (by first | omega | (simp <;> omega)) _ | with_reducible refine Below.setCell ?_ (by first | omega | (dsimp only; omega)) _ | with_reducible refine bstep ?_ (by with_reducible assumption))); have p2c0 := P2.c0; have p2c1 := P2.c1; have p2c2 := P2.c2; have p2c3 := P2.c3; have p2c4 := P2.c4; have p2l := P2.lt))
  all_goals
    have T1 := Lib.hid (SRow.call S1.out C12)
    obtain ⟨M, hM⟩ : ∃ M, M = (stabL f (p : Int) B (q : Int)).length := ⟨_, rfl⟩
    obtain ⟨N, hN⟩ : ∃ N, N = (cellP q p).length := ⟨_, rfl⟩
    have hM81 : M ≤ 81 := by rw [hM]; exact stabL_len f (p : Int) B (q : Int)
    have hN64 : N ≤ 64 := by rw [hN, cellP_len]; exact hpq
    rw [← hM] at T1
    rw [← hN] at S2
    rw [← hM, ← hN]
    have HM := Lib.hid hM
    have HN := Lib.hid hN
    have zW := B2.size
    have lP := P2.lt
    clear S1 C12 P1 B1 hb1 hb2 P0 B0 p0c0 p0c1 p0c2 p0c3 p0c4 p0l p1c0 p1c1 p1c2 p1c3 p1c4 p1l p2c0 p2c1 p2c2 p2c3 p2c4 p2l hM hN
    go_wp2_with fail
    have hlit : (w2.alloc (.cells #[] 69)).ownsRow w2.heap.size 69 6 (.slice (some ⟨w2.heap.size, 0, none⟩) 0 0) ([] : List M6).length (cells6 []) := by
      have h := World.ownsRow_lit (base := w2.heap.size) (e := 69) (size := 6) w2 #[] 0 (Nat.le_refl _) (by unfold maxLen; omega) rfl
      simpa [cells6] using h
    go_loopw [5, 6] (fun s5 s6 X => ∃ i : Nat, s6 = .int .i64 (i : Int) ∧ i ≤ M ∧ X.ownsRow w2.heap.size 69 6 s5 ((((stabL f (p : Int) B (q : Int)).take i).flatMap fun m => rowM m (cellP q p)).filter (kepB p B q F)).length (cells6 ((((stabL f (p : Int) B (q : Int)).take i).flatMap fun m => rowM m (cellP q p)).filter (kepB p B q F))) ∧ Below w2.heap.size w2 X) (fun _ s6 _ => M - (intOf s6).toNat)
    case atStart => exact ⟨0, rfl, by omega, by simpa using hlit, (Below.refl _ _).alloc (Nat.le_refl _) _⟩
    case round =>
      obtain ⟨wo, hwo⟩ : ∃ z, z = wr := ⟨_, rfl⟩
      subst hwo
      clear hlit
      obtain ⟨i, rfl, hi, hown, hB⟩ := hrel
      by_cases hi1 : i < M
      · have hi2 : (i : Int) < (M : Int) := by omega
        have hi3 : (i : Int) ≤ 81 := by omega
        have hiL : i < (stabL f (p : Int) B (q : Int)).length := by rw [← HM.out]; exact hi1
        have HIL := Lib.hid hiL
        obtain ⟨mm, hmm⟩ : ∃ mm, mm = (stabL f (p : Int) B (q : Int))[i] := ⟨_, rfl⟩
        have HMM := Lib.hid hmm
        have hmem : mm ∈ stabL f (p : Int) B (q : Int) := by rw [hmm]; exact List.getElem_mem hiL
        have HKE := Lib.hid (stab_kee hmem)
        have hO0 : wo.ownsRow w2.heap.size 69 6 u5 (((((stabL f (p : Int) B (q : Int)).take i).flatMap fun m => rowM m (cellP q p)) ++ rowM mm ((cellP q p).take 0)).filter (kepB p B q F)).length (cells6 (((((stabL f (p : Int) B (q : Int)).take i).flatMap fun m => rowM m (cellP q p)) ++ rowM mm ((cellP q p).take 0)).filter (kepB p B q F))) := by simpa [rowM] using hown
        clear hown hmem hmm hiL
        go_wp2_with fail
        go_loopw [5, 7] (fun s5 s7 X => ∃ k : Nat, s7 = .int .i64 (k : Int) ∧ k ≤ N ∧ X.ownsRow w2.heap.size 69 6 s5 (((((stabL f (p : Int) B (q : Int)).take i).flatMap fun m => rowM m (cellP q p)) ++ rowM mm ((cellP q p).take k)).filter (kepB p B q F)).length (cells6 (((((stabL f (p : Int) B (q : Int)).take i).flatMap fun m => rowM m (cellP q p)) ++ rowM mm ((cellP q p).take k)).filter (kepB p B q F))) ∧ Below w2.heap.size w2 X) (fun _ s7 _ => N - (intOf s7).toNat)
        case atStart => exact ⟨0, rfl, by omega, hO0, hB⟩
        case round =>
          obtain ⟨wi, hwi⟩ : ∃ z, z = wr := ⟨_, rfl⟩
          subst hwi
          clear hO0 hB
          obtain ⟨k, rfl, hk, hown, hB⟩ := hrel
          by_cases hk1 : k < N
          · have hk2 : (k : Int) < (N : Int) := by omega
            have hk3 : (k : Int) ≤ 64 := by omega
            have hkL : k < (cellP q p).length := by rw [← HN.out]; exact hk1
            have e1 := T1.out.2.2.resolve_left (fun h => by omega)
            obtain ⟨g1, c1, e1, _, hg1, RA⟩ := e1
            simp only [Value.slice.injEq, true_and] at e1
            obtain ⟨rfl, rfl⟩ := e1
            have e2 := S2.out.2.2.resolve_left (fun h => by omega)
            obtain ⟨g2, c2, e2, _, hg2, RB⟩ := e2
            simp only [Value.slice.injEq, true_and] at e2
            obtain ⟨rfl, rfl⟩ := e2
            have hg1' : g1 < w2.heap.size := RA.1
            have hg2' : g2 < w2.heap.size := RB.1
            have q1 : Ko4 g1 (i * 4) mm.1 mm.2.1 mm.2.2.1 mm.2.2.2 wi := by
              have h9 := (IRow.m4S (xs := stabL f (p : Int) B (q : Int)) (by rw [← HM.out]; exact RA) i HIL.out).call hB
              rw [HMM.out]
              exact h9
            have q2 := (IRow.v29 (xs := cellP q p) (by rw [← HN.out]; exact RB) k hkL).call hB
            have hbd := cellP_mem9 (List.getElem_mem hkL)
            have HTK := Lib.hid (rowM_take (m := mm) hkL)
            have HKK := Lib.hid hk1
            obtain ⟨⟨s, t⟩, hst⟩ : ∃ v, v = (cellP q p)[k] := ⟨_, rfl⟩
            rw [← hst] at q2 hbd HTK
            obtain ⟨a, b, c, d⟩ := mm
            dsimp only at q1 q2 hbd
            have q1c := q1.cells
            have q2c := q2.cells
            have q1l := q1.1
            have q2l := q2.1
            have q1n : ¬ g1 = wi.heap.size := by omega
            have q2n : ¬ g2 = wi.heap.size := by omega
            obtain ⟨q10, q11, q12, q13⟩ := q1c
            obtain ⟨q20, q21⟩ := q2c
            go_wp2_with fail
            go_region
            have P3 : Bx W.heap.size [.int .i64 f, .int .i64 (p : Int), .int .i64 B, .int .i64 (q : Int), .slice (some ⟨g, 0, none⟩) n cap] ((wi.alloc (.cells #[.int .i64 a, .int .i64 b, .int .i64 c, .int .i64 d, .int .i64 s, .int .i64 t] 69)).drew) := ((P2.call hB).alloc _).drew
            have M3 : Bx wi.heap.size [.int .i64 a, .int .i64 b, .int .i64 c, .int .i64 d, .int .i64 s, .int .i64 t] ((wi.alloc (.cells #[.int .i64 a, .int .i64 b, .int .i64 c, .int .i64 d, .int .i64 s, .int .i64 t] 69)).drew) := (Bx.at _ rfl).drew
            have B3 : Below w2.heap.size w2 ((wi.alloc (.cells #[.int .i64 a, .int .i64 b, .int .i64 c, .int .i64 d, .int .i64 s, .int .i64 t] 69)).drew) := (hB.alloc hB.size _).drew
            have C3 : Below wi.heap.size wi ((wi.alloc (.cells #[.int .i64 a, .int .i64 b, .int .i64 c, .int .i64 d, .int .i64 s, .int .i64 t] 69)).drew) := ((Below.refl _ _).alloc (Nat.le_refl _) _).drew
            obtain ⟨w3, hw3⟩ : ∃ w3, (wi.alloc (.cells #[.int .i64 a, .int .i64 b, .int .i64 c, .int .i64 d, .int .i64 s, .int .i64 t] 69)).drew = w3 := ⟨_, rfl⟩
            rw [hw3] at P3 M3 B3 C3
            (try rw [hw3])
            clear hw3 q1 q2 q10 q11 q12 q13 q20 q21 q1l q2l q1n q2n
            have O3 := ownsRow_call9 hown C3
            have hlim := motQ_lim (m := (a, b, c, d, s, t)) hf hp2 hq2 ⟨⟨HKE.out.1, HKE.out.2⟩, hbd.1, hbd.2⟩
            obtain ⟨kb, hkb⟩ : ∃ kb, kb = kepB p B q F (a, b, c, d, s, t) := ⟨_, rfl⟩
            have HKP := Lib.hid (show Calls Tryz.prog 196 #[.agg #[.int .i64 f, .int .i64 (p : Int), .int .i64 B, .int .i64 (q : Int), .slice (some ⟨g, 0, none⟩) n cap], .agg #[.int .i64 a, .int .i64 b, .int .i64 c, .int .i64 d, .int .i64 s, .int .i64 t]] w3 (fun e w' => e = .returned (.bool kb) ∧ Below w3.heap.size w3 w') from by rw [hkb]; exact l09Keeps_any HH.out (R.out.call (B2.trans (B3.mono zW))) a b c d s t hlim.1 hlim.2)
            have HLN := Lib.hid (show (((((stabL f (p : Int) B (q : Int)).take i).flatMap fun m => rowM m (cellP q p)) ++ rowM (a, b, c, d) ((cellP q p).take k)).filter (kepB p B q F)).length ≤ 6000 from by
              refine Nat.le_trans (List.length_filter_le _ _) ?_
              rw [List.length_append, len_flat, cellP_len]
              have h1 : ((stabL f (p : Int) B (q : Int)).take i).length ≤ 81 := by rw [List.length_take]; omega
              have h2 := Nat.mul_le_mul h1 hpq
              have h3 : (rowM (a, b, c, d) ((cellP q p).take k)).length ≤ 64 := by simp only [rowM, List.length_map, List.length_take]; omega
              omega)
            have HF := Lib.hid (show ((((stabL f (p : Int) B (q : Int)).take i).flatMap fun m => rowM m (cellP q p)) ++ rowM (a, b, c, d) ((cellP q p).take (k + 1))).filter (kepB p B q F) = ((((stabL f (p : Int) B (q : Int)).take i).flatMap fun m => rowM m (cellP q p)) ++ rowM (a, b, c, d) ((cellP q p).take k)).filter (kepB p B q F) ++ (if kb = true then [(a, b, c, d, s, t)] else []) from by
              rw [HTK.out, ← List.append_assoc, List.filter_append]
              congr 1
              rw [hkb]
              rcases hk9 : kepB p B q F (a, b, c, d, s, t) with _ | _ <;> simp [hk9])
            generalize ((((stabL f (p : Int) B (q : Int)).take i).flatMap fun m => rowM m (cellP q p)) ++ rowM (a, b, c, d) ((cellP q p).take k)).filter (kepB p B q F) = ys at O3 HLN HF hown
            have z3 := B3.size
            clear hkb hlim hbd hst HTK hown C3
            have p3c0 := P3.c0
            have p3c1 := P3.c1
            have p3c2 := P3.c2
            have p3c3 := P3.c3
            have p3c4 := P3.c4
            have p3l := P3.lt
            have m3c0 := M3.c0
            have m3c1 := M3.c1
            have m3c2 := M3.c2
            have m3c3 := M3.c3
            have m3c4 := M3.c4
            have m3c5 := M3.c5
            have m3l := M3.lt
            go_wp2_with fail
            refine HKP.out.mono ?_
            rintro e w4 ⟨rfl, hb4⟩
            have M4 := M3.call hb4
            have O4 := ownsRow_call9 O3 hb4
            have B4 := bstep B3 hb4
            have z4 := hb4.size
            clear HKP P3 M3 O3 B3 hb4 p3c0 p3c1 p3c2 p3c3 p3c4 p3l m3c0 m3c1 m3c2 m3c3 m3c4 m3c5 m3l
            have m4c0 := M4.c0
            have m4c1 := M4.c1
            have m4c2 := M4.c2
            have m4c3 := M4.c3
            have m4c4 := M4.c4
            have m4c5 := M4.c5
            have m4l := M4.lt
            rcases kb with _ | _
            · go_wp2
              go_roundw
              case rel => exact ⟨k + 1, by go_num, by have := HKK.out; omega, by rw [HF.out]; simpa using O4, B4⟩
              case measure => (have := HKK.out); first | (simp [intOf]; done) | (simp [intOf]; omega)
            · go_wp2_with (at_builtin; refine wpList_append_own _ rfl _ _ 30 rfl w2.heap.size 69 i0 (.agg #[.int .i64 0, .int .i64 0, .int .i64 0, .int .i64 0, .int .i64 0, .int .i64 0]) 6 48 Tryz.underlying30 hinf hz0 hz1 hz2 rfl (by decide) _ _ _ rfl (O4.alloc _) ⟨w4.heap.size, 0, none⟩ 1 1 [.int .i64 a, .int .i64 b, .int .i64 c, .int .i64 d, .int .i64 s, .int .i64 t] rfl rfl (new_six _ _ _ _ _ _ _ rfl) one_six (by have := HLN.out; unfold maxLen; omega) (by have := HLN.out; omega) (by (try simp); omega) ?_; intro v9 w9 hown9 hgrow _)
              have O9 := own_next6 hown9
              have B9 : Below w2.heap.size w2 w9 := Below.grown (Below.alloc B4 (by omega) _) hgrow (by simp; omega) (fun r hr => by have := (O4.lt r hr).1; omega)
              clear hown9 hgrow O4 B4 M4 m4c0 m4c1 m4c2 m4c3 m4c4 m4c5 m4l
              go_wp2
              go_roundw
              case rel =>
                refine ⟨k + 1, by go_num, by have := HKK.out; omega, ?_, B9⟩
                rw [HF.out]
                first | rw [if_pos rfl] | rw [if_pos trivial]
                exact O9
              case measure => (have := HKK.out); first | (simp [intOf]; done) | (simp [intOf]; omega)
          · obtain rfl : k = N := by omega
            have HW := Lib.hid (show wi.ownsRow w2.heap.size 69 6 u5 ((((stabL f (p : Int) B (q : Int)).take (i + 1)).flatMap fun m => rowM m (cellP q p)).filter (kepB p B q F)).length (cells6 ((((stabL f (p : Int) B (q : Int)).take (i + 1)).flatMap fun m => rowM m (cellP q p)).filter (kepB p B q F))) from by
              rw [flat_take HIL.out]
              rw [HN.out, List.take_length, HMM.out] at hown
              exact hown)
            clear hown
            go_wp2
            go_roundw
            case rel => exact ⟨i + 1, by go_num, by omega, HW.out, hB⟩
            case measure => first | (simp [intOf]; done) | (simp [intOf]; omega)
      · obtain rfl : i = M := by omega
        rw [HM.out, List.take_length] at hown
        have HW := Lib.hid hown
        have B9 := B2.trans (hB.mono zW)
        clear hown hB
        go_wp2
        go_ret
        exact ⟨_, rfl, ownsRow_lower HW.out zW, B9⟩
end
end Go.Proofs.YtjjfomokecngoaaGreatDoor

namespace Go.Proofs.YtjjfomokecngoaaGreatDoor
section
open Go.RowKit
set_option linter.unusedSimpArgs false
set_option linter.unusedVariables false

def lt4S (m n : M4) : Prop := m.1 < n.1 ∨ m.1 = n.1 ∧ (m.2.1 < n.2.1 ∨ m.2.1 = n.2.1 ∧ (m.2.2.1 < n.2.2.1 ∨ m.2.2.1 = n.2.2.1 ∧ m.2.2.2 < n.2.2.2))
theorem decM_ltS {j k : Nat} (h : j < k) (hk : k < 81) : lt4S (decM j) (decM k) := by
  unfold lt4S decM
  simp only
  omega
theorem mats_upS (f : Int) : (matsL f).Pairwise lt4S := by
  unfold matsL matsP
  refine List.Pairwise.filter _ ?_
  rw [List.pairwise_map]
  exact List.Pairwise.imp_of_mem (fun {a b} _ hb h => decM_ltS h (List.mem_range.1 hb)) List.pairwise_lt_range
def lt2S (u v : Int × Int) : Prop := u.1 < v.1 ∨ u.1 = v.1 ∧ u.2 < v.2
theorem cellR_upS (a j : Nat) : (cellR a j).Pairwise lt2S := by
  unfold cellR
  rw [List.pairwise_map]
  exact List.Pairwise.imp (fun {x y} h => Or.inr ⟨rfl, by dsimp only; exact_mod_cast h⟩) List.pairwise_lt_range
theorem cellP_upS (q : Nat) : ∀ k, (cellP q k).Pairwise lt2S := by
  intro k
  induction k with
  | zero => simp [cellP]
  | succ k ih =>
    rw [cellP_succ, List.pairwise_append]
    refine ⟨ih, cellR_upS k q, fun u hu v hv => Or.inl ?_⟩
    have h1 := (cellP_mem9 hu).1.2
    unfold cellR at hv
    obtain ⟨b, _, rfl⟩ := List.mem_map.1 hv
    exact h1
theorem mot_upS (f : Int) (p : Nat) (B : Int) (q : Nat) : Up (motL f p B q) := by
  unfold motL Up
  rw [List.pairwise_flatMap]
  refine ⟨fun m _ => ?_, ((mats_upS f).filter (stabB (p : Int) B (q : Int))).imp ?_⟩
  · unfold rowM
    rw [List.pairwise_map]
    refine (cellP_upS q p).imp ?_
    intro u v h
    simp only [ltM, decide_eq_true_eq]
    unfold lt2S at h
    exact Or.inr ⟨trivial, Or.inr ⟨trivial, Or.inr ⟨trivial, Or.inr ⟨trivial, h⟩⟩⟩⟩
  · intro m n h x hx y hy
    unfold rowM at hx hy
    obtain ⟨u, _, rfl⟩ := List.mem_map.1 hx
    obtain ⟨v, _, rfl⟩ := List.mem_map.1 hy
    simp only [ltM, decide_eq_true_eq]
    unfold lt4S at h
    omega
theorem mot_memS {f B : Int} {p q : Nat} (hf : frB f = true) (hl : latI (p : Int) B (q : Int)) {m : M6} : m ∈ motL f p B q ↔ suiQ f (p : Int) B (q : Int) m ∧ redM (p : Int) B (q : Int) m = m := by
  obtain ⟨a, b, c, d, x, y⟩ := m
  unfold motL
  rw [List.mem_flatMap]
  constructor
  · rintro ⟨k, hk, hm⟩
    obtain ⟨h1, h2⟩ := stab_kee hk
    unfold rowM at hm
    obtain ⟨v, hv, e⟩ := List.mem_map.1 hm
    simp only [Prod.mk.injEq] at e
    obtain ⟨rfl, rfl, rfl, rfl, rfl, rfl⟩ := e
    have hb := cellP_mem9 hv
    refine ⟨⟨h1, (map_stab hf hl h1).1 h2⟩, ?_⟩
    have hr := red_cell (A := (p : Int)) (B := B) (C := (q : Int)) hb.1.1 hb.1.2 hb.2.1 hb.2.2
    simp only [redM]
    rw [hr.1, hr.2]
  · rintro ⟨⟨h1, h2⟩, h3⟩
    have hb := redM_bd hl (a, b, c, d, x, y)
    rw [h3] at hb
    simp only at hb h1 h2
    refine ⟨(a, b, c, d), ?_, ?_⟩
    · unfold stabL
      exact List.mem_filter.2 ⟨matsL_mem hf h1, (map_stab hf hl h1).2 h2⟩
    · unfold rowM
      exact List.mem_map.2 ⟨(x, y), mem_cellP hb, rfl⟩
theorem kep_iffS {B : Int} {p q : Nat} {F : Nat → Int} {m : M6} : kepB p B q F m = true ↔ ∀ v ∈ cellP q p, F ((mv (p : Int) B (q : Int) m v).1 * (q : Int) + (mv (p : Int) B (q : Int) m v).2).toNat = F (v.1 * (q : Int) + v.2).toNat := by
  unfold kepB
  rw [kepM_snoc]
  refine forall_congr' fun v => forall_congr' fun hv => ?_
  have hb := cellP_mem9 hv
  have hr := red_cell (A := (p : Int)) (B := B) (C := (q : Int)) hb.1.1 hb.1.2 hb.2.1 hb.2.2
  rw [beq_iff_eq]
  unfold numP
  rw [hr.1, hr.2]
  exact Iff.rfl
theorem symL_memS {f B : Int} {p q : Nat} {F : Nat → Int} (hf : frB f = true) (hl : latI (p : Int) B (q : Int)) {m : M6} : m ∈ symL f p B q F ↔ (suiQ f (p : Int) B (q : Int) m ∧ redM (p : Int) B (q : Int) m = m) ∧ kepB p B q F m = true := by
  unfold symL
  rw [List.mem_filter, mot_memS hf hl]
theorem symL_grp {f B : Int} {p q n : Nat} {F : Nat → Int} (h : PatI f p B q n F) : grpB f (p : Int) B (q : Int) (symL f p B q F) = true := by
  have hf := h.fr
  have hl := h.lat
  have hfl : flB f (p : Int) B (q : Int) = true := by simp [flB, hf, latB_iff.2 hl]
  unfold grpB
  simp only [Bool.and_eq_true, decide_eq_true_eq, List.all_eq_true, List.contains_iff_mem, beq_iff_eq]
  refine ⟨hfl, fun m hm => ?_, List.Pairwise.filter _ (mot_upS f p B q), ?_, fun m hm n hn => ?_⟩
  · obtain ⟨⟨h1, h2⟩, _⟩ := (symL_memS hf hl).1 hm
    exact ⟨okM_iff.2 ⟨hfl, h1, red_vec hl h2⟩, h2⟩
  · refine (symL_memS hf hl).2 ⟨⟨oneM_sui f _ _ _, oneM_red hl⟩, kep_iffS.2 fun v hv => ?_⟩
    have hb := cellP_mem9 hv
    rw [mv_one hl (celB_iff.2 hb)]
  · obtain ⟨⟨m1, m2⟩, m3⟩ := (symL_memS hf hl).1 hm
    obtain ⟨⟨n1, n2⟩, n3⟩ := (symL_memS hf hl).1 hn
    refine (symL_memS hf hl).2 ⟨⟨mul_sui m1 n1, mul_red hl m n⟩, kep_iffS.2 fun v hv => ?_⟩
    rw [mv_mul hl m1]
    have hc := celB_iff.1 (mv_cel hl n v)
    rw [kep_iffS.1 m3 _ (mem_cellP hc)]
    exact kep_iffS.1 n3 v hv
end
end Go.Proofs.YtjjfomokecngoaaGreatDoor

