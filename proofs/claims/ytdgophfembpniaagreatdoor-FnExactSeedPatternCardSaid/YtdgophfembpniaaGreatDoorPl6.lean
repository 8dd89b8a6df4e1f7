/-
 Contracts of the model's place of a motion in a strictly increasing list, of the test whether it is there, and of its insertion. Conditions: the list is strictly increasing, its length below the model's bound.
-/
import Derived.Test.YtdgophfembpniaaGreatDoorGh
import Derived.Test.YtdgophfembpniaaGreatDoorGj
import Derived.Test.YtdgophfembpniaaGreatDoorGk
import Derived.Deep.RegionHeld3
import Derived.IntWalk
import Derived.WalkSmall
namespace Go.Proofs.YtdgophfembpniaaGreatDoor
open Go.RowKit
set_option linter.unusedSimpArgs false
set_option linter.unusedVariables false

attribute [local go_sem ↓] eqM6
theorem srow_nil {lo hi : Nat} {v : Value} {L : List M6} {w : World} (h : SRow lo hi 6 v L.length (fm L) w) (hz : L.length = 0) : L = [] ∧ ∃ ao cap, v = .slice ao 0 cap := by
 refine ⟨List.length_eq_zero_iff.1 hz, ?_⟩
 rcases h.2.2 with ⟨_, ao, cap, rfl⟩ | ⟨g, cap, rfl, _⟩
 ·exact ⟨ao, cap, rfl⟩
 ·exact ⟨_, cap, by rw [hz]⟩
theorem mid_lt {l h : Nat} (hh : l < h) : l ≤ (l + h) / 2 ∧ (l + h) / 2 < h := by omega
set_option maxRecDepth 100000 in
set_option maxHeartbeats 8000000 in
theorem l06Place_any {lo hi : Nat} {v : Value} {L : List M6} {w : World} (a b c d x y : Int) (h : SRow lo hi 6 v L.length (fm L) w) (hU : Up L) (hn : L.length ≤ 1048576) :
  Calls Tryz.prog 139 #[v, .agg #[.int .i64 a, .int .i64 b, .int .i64 c, .int .i64 d, .int .i64 x, .int .i64 y]] w fun e w' => e = .returned (.int .i64 (plM L (a, b, c, d, x, y) : Nat)) ∧ Below w.heap.size w w' := by
 have X0 : Km w.heap.size a b c d x y (w.alloc (.cells #[.int .i64 a, .int .i64 b, .int .i64 c, .int .i64 d, .int .i64 x, .int .i64 y] 81)) := Km.at _ rfl
 have B0 : Below w.heap.size w (w.alloc (.cells #[.int .i64 a, .int .i64 b, .int .i64 c, .int .i64 d, .int .i64 x, .int .i64 y] 81)) := (Below.refl _ _).alloc (Nat.le_refl _) _
 by_cases hz : L.length = 0
 ·obtain ⟨rfl, ao, cap, rfl⟩ := srow_nil h hz
  clear h hU hn hz
  have e0 : (plM [] (a, b, c, d, x, y) : Nat) = 0 := rfl
  rw [e0]
  go_enter Tryz.func139, Tryz.ntmps139
  go_wp2_with fail
  go_loopw [5, 6, 7] (fun s5 s6 s7 W => s5 = .int .i64 ((0 : Nat) : Int) ∧ s6 = .int .i64 ((0 : Nat) : Int) ∧ Below w.heap.size w W) (fun _ _ _ _ => 0)
  case atStart => exact ⟨rfl, rfl, B0⟩
  case round =>
   obtain ⟨rfl, rfl, hB⟩ := hrel
   go_wp2
   go_ret
   exact ⟨rfl, hB⟩
 ·have hres := h.2.2.resolve_left (fun h => hz h.1)
  have hhi := h.1
  obtain ⟨g, cap, rfl, _, hg, RA⟩ := hres
  have HRA := Lib.hid (show IRow g (L.length * 6) (fm L) w ∧ g < w.heap.size from ⟨RA, by omega⟩)
  have HP := Lib.hid (show plM L (a, b, c, d, x, y) ≤ L.length ∧ L.length ≤ 1048576 from ⟨plM_le L _, hn⟩)
  have HU := Lib.hid (fun i hi => plM_iff (a, b, c, d, x, y) L hU i hi)
  clear h hU hn hz RA hg hhi
  generalize hp : plM L (a, b, c, d, x, y) = p at HP HU ⊢
  clear hp
  go_enter Tryz.func139, Tryz.ntmps139
  go_wp2_with fail
  go_loopw [5, 6, 7] (fun s5 s6 s7 W => ∃ l h : Nat, s5 = .int .i64 (l : Int) ∧ s6 = .int .i64 (h : Int) ∧ l ≤ p ∧ p ≤ h ∧ h ≤ L.length ∧ Km w.heap.size a b c d x y W ∧ Below w.heap.size w W) (fun s5 s6 _ _ => (intOf s6 - intOf s5).toNat)
  case atStart => exact ⟨0, L.length, rfl, rfl, by omega, HP.out.1, by omega, X0, B0⟩
  case round =>
   clear X0 B0
   obtain ⟨l, h, rfl, rfl, hlp, hph, hhl, hX, hB⟩ := hrel
   by_cases hlh : l < h
   ·obtain ⟨hm1, hm2⟩ := mid_lt hlh
    have hdiv : ((l : Int) + (h : Int)).tdiv 2 = (((l + h) / 2 : Nat) : Int) := by rw [Int.tdiv_eq_ediv_of_nonneg (by omega)]; omega
    have hlh2 : (l : Int) < (h : Int) := by omega
    have hN := HP.out.2
    have hh3 : (h : Int) ≤ 1048576 := by omega
    have hmid : (l + h) / 2 < L.length := by omega
    have q1 := (HRA.out.1.grow hB HRA.out.2).mo ((l + h) / 2) hmid
    have HQ := Lib.hid (HU.out ((l + h) / 2) hmid)
    have HK := Lib.hid (show l ≤ p ∧ p ≤ h ∧ h ≤ L.length ∧ l ≤ (l + h) / 2 ∧ (l + h) / 2 < h from ⟨hlp, hph, hhl, hm1, hm2⟩)
    have hmid2 : (((l + h) / 2 : Nat) : Int) < (L.length : Int) := by omega
    generalize L[(l + h) / 2] = m at q1 HQ
    clear hlp hph hhl hm1 hm2 hmid hlh
    generalize hmi : (l + h) / 2 = mid at *
    have HM := Lib.hid hmi
    clear hmi
    obtain ⟨n0, n1, n2, n3, n4, n5⟩ := m
    dsimp only at q1
    have CL := Lib.hid (fun W => l05Less_any n0 n1 n2 n3 n4 n5 a b c d x y W)
    generalize ltM (n0, n1, n2, n3, n4, n5) (a, b, c, d, x, y) = t at CL HQ
    have q1c := q1.cells
    have hXc := hX.cells
    have hXl := km_lt hX
    have zB := hB.size
    rcases t with _ | _
    ·have HG := Lib.hid (show p ≤ mid by have := HQ.out; simp at this; omega)
     clear HQ
     go_wp2_with fail
     go_region_held3 (fun W => (W.cell? ⟨w.heap.size, 0, none⟩ = some (.int .i64 a) ∧ W.cell? ⟨w.heap.size, 1, none⟩ = some (.int .i64 b) ∧ W.cell? ⟨w.heap.size, 2, none⟩ = some (.int .i64 c) ∧ W.cell? ⟨w.heap.size, 3, none⟩ = some (.int .i64 d) ∧ W.cell? ⟨w.heap.size, 4, none⟩ = some (.int .i64 x) ∧ W.cell? ⟨w.heap.size, 5, none⟩ = some (.int .i64 y)) ∧ (W.cell? ⟨g, mid * 6, none⟩ = some (.int .i64 n0) ∧ W.cell? ⟨g, mid * 6 + 1, none⟩ = some (.int .i64 n1) ∧ W.cell? ⟨g, mid * 6 + 2, none⟩ = some (.int .i64 n2) ∧ W.cell? ⟨g, mid * 6 + 3, none⟩ = some (.int .i64 n3) ∧ W.cell? ⟨g, mid * 6 + 4, none⟩ = some (.int .i64 n4) ∧ W.cell? ⟨g, mid * 6 + 5, none⟩ = some (.int .i64 n5))) ((refine And.intro (Km.cells ?_) (Ko6.cells ?_)) <;> with_reducible repeat (first | assumption | refine Km.drew ?_ | refine Km.alloc ?_ _ | refine Km.call ?_ (by assumption) | refine Ko6.drew ?_ | refine Ko6.alloc ?_ _ | refine Ko6.call ?_ (by assumption) | refine Kt.drew ?_ | refine Kt.alloc ?_ _ | refine Kt.call ?_ (by assumption)))
      (first
       | (go_at_call 106; with_reducible refine (CL.out _).mono ?_; rintro e u1 ⟨rfl, hb1⟩; have X1 : Km w.heap.size a b c d x y u1 := (by with_reducible repeat (first | assumption | refine Km.drew ?_ | refine Km.alloc ?_ _ | refine Km.call ?_ (by assumption) | refine Ko6.drew ?_ | refine Ko6.alloc ?_ _ | refine Ko6.call ?_ (by assumption) | refine Kt.drew ?_ | refine Kt.alloc ?_ _ | refine Kt.call ?_ (by assumption))); have q2 : Ko6 g (mid * 6) n0 n1 n2 n3 n4 n5 u1 := (by with_reducible repeat (first | assumption | refine Km.drew ?_ | refine Km.alloc ?_ _ | refine Km.call ?_ (by assumption) | refine Ko6.drew ?_ | refine Ko6.alloc ?_ _ | refine Ko6.call ?_ (by assumption) | refine Kt.drew ?_ | refine Kt.alloc ?_ _ | refine Kt.call ?_ (by assumption))); have B1 : Below w.heap.size w u1 := (by repeat (first | with_reducible assumption | with_reducible exact Below.refl _ _ | with_reducible refine Below.alloc ?_ (by first | omega | (simp <;> omega)) _ | with_reducible refine bstep ?_ (by with_reducible assumption) | with_reducible refine Below.drew ?_))))
     all_goals
      go_wp2
      go_roundw
      case rel => exact ⟨l, mid, rfl, rfl, HK.out.1, HG.out, by have := HK.out; omega, X1, B1⟩
      case measure => (have := HK.out); first | (simp [intOf]; done) | (simp [intOf]; omega)
    ·have HG := Lib.hid (show mid < p by have := HQ.out; simpa using this)
     clear HQ
     go_wp2_with fail
     go_region_held3 (fun W => (W.cell? ⟨w.heap.size, 0, none⟩ = some (.int .i64 a) ∧ W.cell? ⟨w.heap.size, 1, none⟩ = some (.int .i64 b) ∧ W.cell? ⟨w.heap.size, 2, none⟩ = some (.int .i64 c) ∧ W.cell? ⟨w.heap.size, 3, none⟩ = some (.int .i64 d) ∧ W.cell? ⟨w.heap.size, 4, none⟩ = some (.int .i64 x) ∧ W.cell? ⟨w.heap.size, 5, none⟩ = some (.int .i64 y)) ∧ (W.cell? ⟨g, mid * 6, none⟩ = some (.int .i64 n0) ∧ W.cell? ⟨g, mid * 6 + 1, none⟩ = some (.int .i64 n1) ∧ W.cell? ⟨g, mid * 6 + 2, none⟩ = some (.int .i64 n2) ∧ W.cell? ⟨g, mid * 6 + 3, none⟩ = some (.int .i64 n3) ∧ W.cell? ⟨g, mid * 6 + 4, none⟩ = some (.int .i64 n4) ∧ W.cell? ⟨g, mid * 6 + 5, none⟩ = some (.int .i64 n5))) ((refine And.intro (Km.cells ?_) (Ko6.cells ?_)) <;> with_reducible repeat (first | assumption | refine Km.drew ?_ | refine Km.alloc ?_ _ | refine Km.call ?_ (by assumption) | refine Ko6.drew ?_ | refine Ko6.alloc ?_ _ | refine Ko6.call ?_ (by assumption) | refine Kt.drew ?_ | refine Kt.alloc ?_ _ | refine Kt.call ?_ (by assumption)))
      (first
       | (go_at_call 106; with_reducible refine (CL.out _).mono ?_; rintro e u1 ⟨rfl, hb1⟩; have X1 : Km w.heap.size a b c d x y u1 := (by with_reducible repeat (first | assumption | refine Km.drew ?_ | refine Km.alloc ?_ _ | refine Km.call ?_ (by assumption) | refine Ko6.drew ?_ | refine Ko6.alloc ?_ _ | refine Ko6.call ?_ (by assumption) | refine Kt.drew ?_ | refine Kt.alloc ?_ _ | refine Kt.call ?_ (by assumption))); have q2 : Ko6 g (mid * 6) n0 n1 n2 n3 n4 n5 u1 := (by with_reducible repeat (first | assumption | refine Km.drew ?_ | refine Km.alloc ?_ _ | refine Km.call ?_ (by assumption) | refine Ko6.drew ?_ | refine Ko6.alloc ?_ _ | refine Ko6.call ?_ (by assumption) | refine Kt.drew ?_ | refine Kt.alloc ?_ _ | refine Kt.call ?_ (by assumption))); have B1 : Below w.heap.size w u1 := (by repeat (first | with_reducible assumption | with_reducible exact Below.refl _ _ | with_reducible refine Below.alloc ?_ (by first | omega | (simp <;> omega)) _ | with_reducible refine bstep ?_ (by with_reducible assumption) | with_reducible refine Below.drew ?_))))
     all_goals
      go_wp2
      go_roundw
      case rel => exact ⟨mid + 1, h, by go_num, rfl, by have := HG.out; omega, HK.out.2.1, HK.out.2.2.1, X1, B1⟩
      case measure => (have := HK.out); first | (simp [intOf]; done) | (simp [intOf]; omega)
   ·obtain rfl : l = p := by omega
    go_wp2
    go_ret
    exact ⟨rfl, hB⟩
def KOwV (base : Nat) (T : TypeId) (v : Value) (L : List M6) (w : World) : Prop := w.ownsRow base T 6 v L.length (cells6 L)
theorem KOwV.call {base : Nat} {T : TypeId} {v : Value} {L : List M6} {W w1 : World} (h : KOwV base T v L W) (hb : Below W.heap.size W w1) : KOwV base T v L w1 := ownsRow_call h hb
theorem KOwV.alloc {base : Nat} {T : TypeId} {v : Value} {L : List M6} {W : World} (h : KOwV base T v L W) (z : Obj) : KOwV base T v L (W.alloc z) := h.call ((Below.refl _ _).alloc (Nat.le_refl _) _)
theorem KOwV.drew {base : Nat} {T : TypeId} {v : Value} {L : List M6} {W : World} (h : KOwV base T v L W) : KOwV base T v L W.drew := h.call (Below.refl _ _).drew
theorem KOw.cap_le {g base cap : Nat} {T : TypeId} {L : List M6} {W : World} (h : KOw g base cap T L W) : L.length ≤ cap := by
 rcases h.2 with ⟨h', _⟩ | ⟨g', cap', cur, h', _, hg, hc, _⟩
 ·cases h'
 ·simp only [Value.slice.injEq] at h'
  omega
set_option maxRecDepth 100000 in
set_option maxHeartbeats 8000000 in
theorem l06Has_any {lo hi : Nat} {v : Value} {L : List M6} {w : World} (a b c d x y : Int) (h : SRow lo hi 6 v L.length (fm L) w) (hU : Up L) (hn : L.length ≤ 1048576) :
  Calls Tryz.prog 107 #[v, .agg #[.int .i64 a, .int .i64 b, .int .i64 c, .int .i64 d, .int .i64 x, .int .i64 y]] w fun e w' => e = .returned (.bool (decide ((a, b, c, d, x, y) ∈ L))) ∧ Below w.heap.size w w' := by
 have X0 : Km w.heap.size a b c d x y (w.alloc (.cells #[.int .i64 a, .int .i64 b, .int .i64 c, .int .i64 d, .int .i64 x, .int .i64 y] 81)) := Km.at _ rfl
 have B0 : Below w.heap.size w (w.alloc (.cells #[.int .i64 a, .int .i64 b, .int .i64 c, .int .i64 d, .int .i64 x, .int .i64 y] 81)) := (Below.refl _ _).alloc (Nat.le_refl _) _
 have A0 : SRow lo hi 6 v L.length (fm L) (w.alloc (.cells #[.int .i64 a, .int .i64 b, .int .i64 c, .int .i64 d, .int .i64 x, .int .i64 y] 81)) := h.grow ((Below.refl w.heap.size w).alloc (Nat.le_refl _) _) h.1
 have HS := Lib.hid h
 have HY := Lib.hid (fun hp => has_yes (m := (a, b, c, d, x, y)) hU hp)
 have HO := Lib.hid (fun hp => has_no (m := (a, b, c, d, x, y)) hU hp)
 have HP := Lib.hid (show plM L (a, b, c, d, x, y) ≤ L.length ∧ L.length ≤ 1048576 from ⟨plM_le L _, hn⟩)
 have CP := Lib.hid (l06Place_any a b c d x y A0 hU hn)
 obtain ⟨ao, cap, rfl⟩ : ∃ ao cap, v = .slice ao L.length cap := by
  rcases h.2.2 with ⟨hz, ao, cap, rfl⟩ | ⟨g, cap, rfl, _⟩
  ·exact ⟨ao, cap, by rw [hz]⟩
  ·exact ⟨_, cap, rfl⟩
 clear h hU hn A0
 have X0c := X0.cells
 generalize hp : plM L (a, b, c, d, x, y) = p at HY HO HP CP
 clear hp
 go_enter Tryz.func107, Tryz.ntmps107
 go_wp2_with fail
 refine CP.out.mono ?_
 rintro e w1 ⟨rfl, hb1⟩
 have X1 := X0.call hb1
 have B1 := bstep B0 hb1
 clear hb1 X0 B0 X0c CP
 have X1c := X1.cells
 have X1l := km_lt X1
 by_cases hpl : p < L.length
 ·have hpl2 : (p : Int) < (L.length : Int) := by omega
  have hN := HP.out.2
  have hp3 : (p : Int) ≤ 1048576 := by omega
  have hres := HS.out.2.2.resolve_left (fun h => by omega)
  obtain ⟨g, cap', e9, _, hg, RA⟩ := hres
  simp only [Value.slice.injEq, true_and] at e9
  obtain ⟨rfl, rfl⟩ := e9
  have hhi := HS.out.1
  have q1 := (RA.grow B1 (by omega)).mo p hpl
  have HD := Lib.hid (HY.out hpl)
  have hgl : g < w.heap.size := by omega
  have HG := trivial
  clear RA HY HO hg hhi
  generalize L[p] = m at q1 HD
  obtain ⟨n0, n1, n2, n3, n4, n5⟩ := m
  dsimp only at q1
  have HE := Lib.hid (eqT6_dec (n0, n1, n2, n3, n4, n5) (a, b, c, d, x, y))
  dsimp only at HE
  have q1c := q1.cells
  rcases hd : decide (((n0, n1, n2, n3, n4, n5) : M6) = (a, b, c, d, x, y)) with _ | _
  ·have he : eqT6 n0 n1 n2 n3 n4 n5 a b c d x y = false := HE.out.trans hd
   have HF := Lib.hid (HD.out.symm.trans hd)
   clear HD HE hd
   go_wp2_with fail
   go_quiet (fail)
   go_wp2
   go_ret
   exact ⟨ret_bool HF.out.symm, by repeat (first | with_reducible assumption | with_reducible exact Below.refl _ _ | with_reducible refine Below.alloc ?_ (by first | omega | (simp <;> omega)) _ | with_reducible refine bstep ?_ (by with_reducible assumption) | with_reducible refine Below.drew ?_ | with_reducible refine below_drewN ?_ _)⟩
  ·have he : eqT6 n0 n1 n2 n3 n4 n5 a b c d x y = true := HE.out.trans hd
   have HF := Lib.hid (HD.out.symm.trans hd)
   clear HD HE hd
   go_wp2_with fail
   go_quiet (fail)
   go_wp2
   go_ret
   exact ⟨ret_bool HF.out.symm, by repeat (first | with_reducible assumption | with_reducible exact Below.refl _ _ | with_reducible refine Below.alloc ?_ (by first | omega | (simp <;> omega)) _ | with_reducible refine bstep ?_ (by with_reducible assumption) | with_reducible refine Below.drew ?_ | with_reducible refine below_drewN ?_ _)⟩
 ·have hpl2 : ¬ ((p : Int) < (L.length : Int)) := by omega
  have hpl3 : decide (p < L.length) = false := decide_eq_false hpl
  have HF := Lib.hid (HO.out hpl)
  have hN := HP.out.2
  have hp3 : (p : Int) ≤ 1048576 := by have := HP.out.1; omega
  clear HY HO hpl
  go_wp2_with fail
  go_quiet (fail)
  go_wp2
  go_ret
  exact ⟨ret_bool HF.out.symm, by repeat (first | with_reducible assumption | with_reducible exact Below.refl _ _ | with_reducible refine Below.alloc ?_ (by first | omega | (simp <;> omega)) _ | with_reducible refine bstep ?_ (by with_reducible assumption) | with_reducible refine Below.drew ?_ | with_reducible refine below_drewN ?_ _)⟩
end Go.Proofs.YtdgophfembpniaaGreatDoor
