/-
  Contracts of the model's place of a motion in a strictly increasing list, of the test whether it is there, and of its insertion. Conditions: the list is strictly increasing, its length below the model's bound.
-/
import Derived.Test.YtkfeajjpbmbmpaaGreatDoorGh
import Derived.Test.YtkfeajjpbmbmpaaGreatDoorGj
import Derived.Test.YtkfeajjpbmbmpaaGreatDoorGk
import Derived.Deep.RegionHeld3
import Derived.IntWalk
import Derived.WalkSmall
namespace Go.Proofs.YtkfeajjpbmbmpaaGreatDoor
open Go.RowKit
set_option linter.unusedSimpArgs false
set_option linter.unusedVariables false

attribute [local go_sem ↓] eqM6
theorem srow_nil {lo hi : Nat} {v : Value} {L : List M6} {w : World} (h : SRow lo hi 6 v L.length (fm L) w) (hz : L.length = 0) : L = [] ∧ ∃ ao cap, v = .slice ao 0 cap := by
  refine ⟨List.length_eq_zero_iff.1 hz, ?_⟩
  rcases h.2.2 with ⟨_, ao, cap, rfl⟩ | ⟨g, cap, rfl, _⟩
  · exact ⟨ao, cap, rfl⟩
  · exact ⟨_, cap, by rw [hz]⟩
theorem mid_lt {l h : Nat} (hh : l < h) : l ≤ (l + h) / 2 ∧ (l + h) / 2 < h := by omega
set_option maxRecDepth 100000 in
set_option maxHeartbeats 8000000 in
theorem l06Place_any {lo hi : Nat} {v : Value} {L : List M6} {w : World} (a b c d x y : Int) (h : SRow lo hi 6 v L.length (fm L) w) (hU : Up L) (hn : L.length ≤ 1048576) :
    Calls Tryz.prog 259 #[v, .agg #[.int .i64 a, .int .i64 b, .int .i64 c, .int .i64 d, .int .i64 x, .int .i64 y]] w fun e w' => e = .returned (.int .i64 (plM L (a, b, c, d, x, y) : Nat)) ∧ Below w.heap.size w w' := by
  have X0 : Km w.heap.size a b c d x y (w.alloc (.cells #[.int .i64 a, .int .i64 b, .int .i64 c, .int .i64 d, .int .i64 x, .int .i64 y] 37)) := Km.at _ rfl
  have B0 : Below w.heap.size w (w.alloc (.cells #[.int .i64 a, .int .i64 b, .int .i64 c, .int .i64 d, .int .i64 x, .int .i64 y] 37)) := (Below.refl _ _).alloc (Nat.le_refl _) _
  by_cases hz : L.length = 0
  · obtain ⟨rfl, ao, cap, rfl⟩ := srow_nil h hz
    clear h hU hn hz
    have e0 : (plM [] (a, b, c, d, x, y) : Nat) = 0 := rfl
    rw [e0]
    go_enter Tryz.func259, Tryz.ntmps259
    go_wp2_with fail
    go_loopw [5, 6, 7] (fun s5 s6 s7 W => s5 = .int .i64 ((0 : Nat) : Int) ∧ s6 = .int .i64 ((0 : Nat) : Int) ∧ Below w.heap.size w W) (fun _ _ _ _ => 0)
    case atStart => exact ⟨rfl, rfl, B0⟩
    case round =>
      obtain ⟨rfl, rfl, hB⟩ := hrel
      go_wp2
      go_ret
      exact ⟨rfl, hB⟩
  · have hres := h.2.2.resolve_left (fun h => hz h.1)
    have hhi := h.1
    obtain ⟨g, cap, rfl, _, hg, RA⟩ := hres
    have HRA := Lib.hid (show IRow g (L.length * 6) (fm L) w ∧ g < w.heap.size from ⟨RA, by omega⟩)
    have HP := Lib.hid (show plM L (a, b, c, d, x, y) ≤ L.length ∧ L.length ≤ 1048576 from ⟨plM_le L _, hn⟩)
    have HU := Lib.hid (fun i hi => plM_iff (a, b, c, d, x, y) L hU i hi)
    clear h hU hn hz RA hg hhi
    generalize hp : plM L (a, b, c, d, x, y) = p at HP HU ⊢
    clear hp
    go_enter Tryz.func259, Tryz.ntmps259
    go_wp2_with fail
    go_loopw [5, 6, 7] (fun s5 s6 s7 W => ∃ l h : Nat, s5 = .int .i64 (l : Int) ∧ s6 = .int .i64 (h : Int) ∧ l ≤ p ∧ p ≤ h ∧ h ≤ L.length ∧ Km w.heap.size a b c d x y W ∧ Below w.heap.size w W) (fun s5 s6 _ _ => (intOf s6 - intOf s5).toNat)
    case atStart => exact ⟨0, L.length, rfl, rfl, by omega, HP.out.1, by omega, X0, B0⟩
    case round =>
      clear X0 B0
      obtain ⟨l, h, rfl, rfl, hlp, hph, hhl, hX, hB⟩ := hrel
      by_cases hlh : l < h
      · obtain ⟨hm1, hm2⟩ := mid_lt hlh
        have hdiv : ((l : Int) + (h : Int)).tdiv 2 = (((l + h) / 2 : Nat) : Int) := by rw [Int.tdiv_eq_ediv_of_nonneg (by omega)]; omega
        have hlh2 : (l : Int) < (h : Int) := by omega
        have hN := HP.out.2
        have hh3 : (h : Int) ≤ 1048576 := by omega
        have hmid : (l + h) / 2 < L.length := by omega
        have q1 := (HRA.out.1.grow hB HRA.out.2).mo ((l + h) / 2) hmid
        have HQ := Lib.hid (HU.out ((l + h) / 2) hmid)
        have HK := Lib.hid (show l ≤ p ∧ p ≤ h ∧ h ≤ L.length ∧ l ≤ (l + h) / 2 ∧ (l + h) / 2 < h from ⟨hlp, hph, hhl, hm1, hm2⟩)
        have hmid2 : (((l + h) / 2 : Nat) : Int) < (L.length : Int) := by omega
        generalize L[(l + h) / 2] = m at q1 HQ
        clear hlp hph hhl hm1 hm2 hmid hlh
        generalize hmi : (l + h) / 2 = mid at *
        have HM := Lib.hid hmi
        clear hmi
        obtain ⟨n0, n1, n2, n3, n4, n5⟩ := m
        dsimp only at q1
        have CL := Lib.hid (fun W => l05Less_any n0 n1 n2 n3 n4 n5 a b c d x y W)
        generalize ltM (n0, n1, n2, n3, n4, n5) (a, b, c, d, x, y) = t at CL HQ
        have q1c := q1.cells
        have hXc := hX.cells
        have hXl := km_lt hX
        have zB := hB.size
        rcases t with _ | _
        · have HG := Lib.hid (show p ≤ mid by have := HQ.out; simp at this; omega)
          clear HQ
          go_wp2_with fail
          go_region_held3 (fun W => (W.cell? ⟨w.heap.size, 0, none⟩ = some (.int .i64 a) ∧ W.cell? ⟨w.heap.size, 1, none⟩ = some (.int .i64 b) ∧ W.cell? ⟨w.heap.size, 2, none⟩ = some (.int .i64 c) ∧ W.cell? ⟨w.heap.size, 3, none⟩ = some (.int .i64 d) ∧ W.cell? ⟨w.heap.size, 4, none⟩ = some (.int .i64 x) ∧ W.cell? ⟨w.heap.size, 5, none⟩ = some (.int .i64 y)) ∧ (W.cell? ⟨g, mid * 6, none⟩ = some (.int .i64 n0) ∧ W.cell? ⟨g, mid * 6 + 1, none⟩ = some (.int .i64 n1) ∧ W.cell? ⟨g, mid * 6 + 2, none⟩ = some (.int .i64 n2) ∧ W.cell? ⟨g, mid * 6 + 3, none⟩ = some (.int .i64 n3) ∧ W.cell? ⟨g, mid * 6 + 4, none⟩ = some (.int .i64 n4) ∧ W.cell? ⟨g, mid * 6 + 5, none⟩ = some (.int .i64 n5))) ((refine And.intro (Km.cells ?_) (Ko6.cells ?_)) <;> repeat (first | with_reducible assumption | with_reducible refine Km.drew ?_ | with_reducible refine Km.alloc ?_ _ | with_reducible refine Km.call ?_ (by with_reducible assumption) | with_reducible refine Ko6.drew ?_ | with_reducible refine Ko6.alloc ?_ _ | with_reducible refine Ko6.call ?_ (by with_reducible assumption) | with_reducible refine Kt.drew ?_ | with_reducible refine Kt.alloc ?_ _ | with_reducible refine Kt.call ?_ (by with_reducible assumption)))
            (first
              | (go_at_call 163; with_reducible refine (CL.out _).mono ?_; rintro e u1 ⟨rfl, hb1⟩; have X1 : Km w.heap.size a b c d x y u1 := (by repeat (first | with_reducible assumption | with_reducible refine Km.drew ?_ | with_reducible refine Km.alloc ?_ _ | with_reducible refine Km.call ?_ (by with_reducible assumption) | with_reducible refine Ko6.drew ?_ | with_reducible refine Ko6.alloc ?_ _ | with_reducible refine Ko6.call ?_ (by with_reducible assumption) | with_reducible refine Kt.drew ?_ | with_reducible refine Kt.alloc ?_ _ | with_reducible refine Kt.call ?_ (by with_reducible assumption))); have q2 : Ko6 g (mid * 6) n0 n1 n2 n3 n4 n5 u1 := (by repeat (first | with_reducible assumption | with_reducible refine Km.drew ?_ | with_reducible refine Km.alloc ?_ _ | with_reducible refine Km.call ?_ (by with_reducible assumption) | with_reducible refine Ko6.drew ?_ | with_reducible refine Ko6.alloc ?_ _ | with_reducible refine Ko6.call ?_ (by with_reducible assumption) | with_reducible refine Kt.drew ?_ | with_reducible refine Kt.alloc ?_ _ | with_reducible refine Kt.call ?_ (by with_reducible assumption))); have B1 : Below w.heap.size w u1 := (by repeat (first | with_reducible assumption | with_reducible exact Below.refl _ _ | with_reducible refine Below.alloc ?_ (by first | omega | (simp <;> omega)) _ | with_reducible refine bstep ?_ (by with_reducible assumption) | with_reducible refine Below.drew ?_))))
          all_goals
            go_wp2
            go_roundw
            case rel => exact ⟨l, mid, rfl, rfl, HK.out.1, HG.out, by have := HK.out; omega, X1, B1⟩
            case measure => (have := HK.out); first | (simp [intOf]; done) | (simp [intOf]; omega)
        · have HG := Lib.hid (show mid < p by have := HQ.out; simpa using this)
          clear HQ
          go_wp2_with fail
          go_region_held3 (fun W => (W.cell? ⟨w.heap.size, 0, none⟩ = some (.int .i64 a) ∧ W.cell? ⟨w.heap.size, 1, none⟩ = some (.int .i64 b) ∧ W.cell? ⟨w.heap.size, 2, none⟩ = some (.int .i64 c) ∧ W.cell? ⟨w.heap.size, 3, none⟩ = some (.int .i64 d) ∧ W.cell? ⟨w.heap.size, 4, none⟩ = some (.int .i64 x) ∧ W.cell? ⟨w.heap.size, 5, none⟩ = some (.int .i64 y)) ∧ (W.cell? ⟨g, mid * 6, none⟩ = some (.int .i64 n0) ∧ W.cell? ⟨g, mid * 6 + 1, none⟩ = some (.int .i64 n1) ∧ W.cell? ⟨g, mid * 6 + 2, none⟩ = some (.int .i64 n2) ∧ W.cell? ⟨g, mid * 6 + 3, none⟩ = some (.int .i64 n3) ∧ W.cell? ⟨g, mid * 6 + 4, none⟩ = some (.int .i64 n4) ∧ W.cell? ⟨g, mid * 6 + 5, none⟩ = some (.int .i64 n5))) ((refine And.intro (Km.cells ?_) (Ko6.cells ?_)) <;> repeat (first | with_reducible assumption | with_reducible refine Km.drew ?_ | with_reducible refine Km.alloc ?_ _ | with_reducible refine Km.call ?_ (by with_reducible assumption) | with_reducible refine Ko6.drew ?_ | with_reducible refine Ko6.alloc ?_ _ | with_reducible refine Ko6.call ?_ (by with_reducible assumption) | with_reducible refine Kt.drew ?_ | with_reducible refine Kt.alloc ?_ _ | with_reducible refine Kt.call ?_ (by with_reducible assumption)))
            (first
              | (go_at_call 163; with_reducible refine (CL.out _).mono ?_; rintro e u1 ⟨rfl, hb1⟩; have X1 : Km w.heap.size a b c d x y u1 := (by repeat (first | with_reducible assumption | with_reducible refine Km.drew ?_ | with_reducible refine Km.alloc ?_ _ | with_reducible refine Km.call ?_ (by with_reducible assumption) | with_reducible refine Ko6.drew ?_ | with_reducible refine Ko6.alloc ?_ _ | with_reducible refine Ko6.call ?_ (by with_reducible assumption) | with_reducible refine Kt.drew ?_ | with_reducible refine Kt.alloc ?_ _ | with_reducible refine Kt.call ?_ (by with_reducible assumption))); have q2 : Ko6 g (mid * 6) n0 n1 n2 n3 n4 n5 u1 := (by repeat (first | with_reducible assumption | with_reducible refine Km.drew ?_ | with_reducible refine Km.alloc ?_ _ | with_reducible refine Km.call ?_ (by with_reducible assumption) | with_reducible refine Ko6.drew ?_ | with_reducible refine Ko6.alloc ?_ _ | with_reducible refine Ko6.call ?_ (by with_reducible assumption) | with_reducible refine Kt.drew ?_ | with_reducible refine Kt.alloc ?_ _ | with_reducible refine Kt.call ?_ (by with_reducible assumption))); have B1 : Below w.heap.size w u1 := (by repeat (first | with_reducible assumption | with_reducible exact Below.refl _ _ | with_reducible refine Below.alloc ?_ (by first | omega | (simp <;> omega)) _ | with_reducible refine bstep ?_ (by with_reducible assumption) | with_reducible refine Below.drew ?_))))
          all_goals
            go_wp2
            go_roundw
            case rel => exact ⟨mid + 1, h, by go_num, rfl, by have := HG.out; omega, HK.out.2.1, HK.out.2.2.1, X1, B1⟩
            case measure => (have := HK.out); first | (simp [intOf]; done) | (simp [intOf]; omega)
      · obtain rfl : l = p := by omega
        go_wp2
        go_ret
        exact ⟨rfl, hB⟩
def KOwV (base : Nat) (T : TypeId) (v : Value) (L : List M6) (w : World) : Prop := w.ownsRow base T 6 v L.length (cells6 L)
theorem KOwV.call {base : Nat} {T : TypeId} {v : Value} {L : List M6} {W w1 : World} (h : KOwV base T v L W) (hb : Below W.heap.size W w1) : KOwV base T v L w1 := ownsRow_call h hb
theorem KOwV.alloc {base : Nat} {T : TypeId} {v : Value} {L : List M6} {W : World} (h : KOwV base T v L W) (z : Obj) : KOwV base T v L (W.alloc z) := h.call ((Below.refl _ _).alloc (Nat.le_refl _) _)
theorem KOwV.drew {base : Nat} {T : TypeId} {v : Value} {L : List M6} {W : World} (h : KOwV base T v L W) : KOwV base T v L W.drew := h.call (Below.refl _ _).drew
theorem KOw.cap_le {g base cap : Nat} {T : TypeId} {L : List M6} {W : World} (h : KOw g base cap T L W) : L.length ≤ cap := by
  rcases h.2 with ⟨h', _⟩ | ⟨g', cap', cur, h', _, hg, hc, _⟩
  · cases h'
  · simp only [Value.slice.injEq] at h'
    omega
theorem add_zero6 (g o j : Nat) : (⟨g, o, none⟩ : Addr).add j = ⟨g, o + j, none⟩ := by
  unfold Addr.add
  split
  · rename_i h; subst h; rfl
  · rfl
theorem kow_take {g base cap n : Nat} {T : TypeId} {L : List M6} {W : World} (h : KOw g base cap T L W) : ∀ (j : Nat) (u : Value), (cells6 (L.take n))[j]? = some u → W.cell? ((⟨g, 0, none⟩ : Addr).add j) = some u := by
  intro j u hj
  have h1 := cells6_take L n j u hj
  have hlt : j < (cells6 L).length := (List.getElem?_eq_some_iff.1 h1).1
  rw [add_zero6, Nat.zero_add, World.ownsRow.cellAt h j (by rw [cells6_len] at hlt; exact hlt)]
  exact h1
theorem kow_drop {g base cap n : Nat} {T : TypeId} {L : List M6} {W : World} (h : KOw g base cap T L W) (hn : n ≤ L.length) : ∀ (j : Nat) (u : Value), (cells6 (L.drop n))[j]? = some u → W.cell? ((⟨g, n * 6, none⟩ : Addr).add j) = some u := by
  intro j u hj
  have h1 := cells6_drop L n j u hn hj
  have hlt : n * 6 + j < (cells6 L).length := (List.getElem?_eq_some_iff.1 h1).1
  rw [add_zero6, World.ownsRow.cellAt h (n * 6 + j) (by rw [cells6_len] at hlt; exact hlt)]
  exact h1
theorem lit6 {base : Nat} {T : TypeId} (W : World) (g : Nat) (hg : g = W.heap.size) (hb : base ≤ W.heap.size) : KOwV base T (.slice (some ⟨g, 0, none⟩) 0 0) [] (W.alloc (.cells #[] T)) := by
  subst hg
  have h := World.ownsRow_lit (base := base) (e := T) (size := 6) W #[] 0 hb (by unfold maxLen; omega) rfl
  exact h
theorem app_len (a b : List M6) : (a ++ b).length = a.length + b.length := List.length_append
theorem take6_len {L : List M6} {n : Nat} (h : n ≤ L.length) : (cells6 (L.take n)).length = n * 6 := by rw [cells6_len, List.length_take, Nat.min_eq_left h]
theorem drop6_len {L : List M6} {n : Nat} (h : n ≤ L.length) : (cells6 (L.drop n)).length = (L.length - n) * 6 := by rw [cells6_len, List.length_drop]
theorem km_six {g : Nat} {a b c d x y : Int} {W : World} (h : Km g a b c d x y W) : ∀ (j : Nat) (u : Value), [Value.int .i64 a, .int .i64 b, .int .i64 c, .int .i64 d, .int .i64 x, .int .i64 y][j]? = some u → W.cell? ((⟨g, 0, none⟩ : Addr).add j) = some u := by
  intro j u hj
  obtain ⟨_, h0, h1, h2, h3, h4, h5⟩ := h
  rw [add_zero6, Nat.zero_add]
  match j, hj with
  | 0, e => cases e; exact h0
  | 1, e => cases e; exact h1
  | 2, e => cases e; exact h2
  | 3, e => cases e; exact h3
  | 4, e => cases e; exact h4
  | 5, e => cases e; exact h5
set_option maxRecDepth 100000 in
set_option maxHeartbeats 8000000 in
theorem l06Has_any {lo hi : Nat} {v : Value} {L : List M6} {w : World} (a b c d x y : Int) (h : SRow lo hi 6 v L.length (fm L) w) (hU : Up L) (hn : L.length ≤ 1048576) :
    Calls Tryz.prog 164 #[v, .agg #[.int .i64 a, .int .i64 b, .int .i64 c, .int .i64 d, .int .i64 x, .int .i64 y]] w fun e w' => e = .returned (.bool (decide ((a, b, c, d, x, y) ∈ L))) ∧ Below w.heap.size w w' := by
  have X0 : Km w.heap.size a b c d x y (w.alloc (.cells #[.int .i64 a, .int .i64 b, .int .i64 c, .int .i64 d, .int .i64 x, .int .i64 y] 37)) := Km.at _ rfl
  have B0 : Below w.heap.size w (w.alloc (.cells #[.int .i64 a, .int .i64 b, .int .i64 c, .int .i64 d, .int .i64 x, .int .i64 y] 37)) := (Below.refl _ _).alloc (Nat.le_refl _) _
  have A0 : SRow lo hi 6 v L.length (fm L) (w.alloc (.cells #[.int .i64 a, .int .i64 b, .int .i64 c, .int .i64 d, .int .i64 x, .int .i64 y] 37)) := h.grow ((Below.refl w.heap.size w).alloc (Nat.le_refl _) _) h.1
  have HS := Lib.hid h
  have HY := Lib.hid (fun hp => has_yes (m := (a, b, c, d, x, y)) hU hp)
  have HO := Lib.hid (fun hp => has_no (m := (a, b, c, d, x, y)) hU hp)
  have HP := Lib.hid (show plM L (a, b, c, d, x, y) ≤ L.length ∧ L.length ≤ 1048576 from ⟨plM_le L _, hn⟩)
  have CP := Lib.hid (l06Place_any a b c d x y A0 hU hn)
  obtain ⟨ao, cap, rfl⟩ : ∃ ao cap, v = .slice ao L.length cap := by
    rcases h.2.2 with ⟨hz, ao, cap, rfl⟩ | ⟨g, cap, rfl, _⟩
    · exact ⟨ao, cap, by rw [hz]⟩
    · exact ⟨_, cap, rfl⟩
  clear h hU hn A0
  have X0c := X0.cells
  generalize hp : plM L (a, b, c, d, x, y) = p at HY HO HP CP
  clear hp
  go_enter Tryz.func164, Tryz.ntmps164
  go_wp2_with fail
  refine CP.out.mono ?_
  rintro e w1 ⟨rfl, hb1⟩
  have X1 := X0.call hb1
  have B1 := bstep B0 hb1
  clear hb1 X0 B0 X0c CP
  have X1c := X1.cells
  have X1l := km_lt X1
  by_cases hpl : p < L.length
  · have hpl2 : (p : Int) < (L.length : Int) := by omega
    have hN := HP.out.2
    have hp3 : (p : Int) ≤ 1048576 := by omega
    have hres := HS.out.2.2.resolve_left (fun h => by omega)
    obtain ⟨g, cap', e9, _, hg, RA⟩ := hres
    simp only [Value.slice.injEq, true_and] at e9
    obtain ⟨rfl, rfl⟩ := e9
    have hhi := HS.out.1
    have q1 := (RA.grow B1 (by omega)).mo p hpl
    have HD := Lib.hid (HY.out hpl)
    have hgl : g < w.heap.size := by omega
    have HG := trivial
    clear RA HY HO hg hhi
    generalize L[p] = m at q1 HD
    obtain ⟨n0, n1, n2, n3, n4, n5⟩ := m
    dsimp only at q1
    have HE := Lib.hid (eqT6_dec (n0, n1, n2, n3, n4, n5) (a, b, c, d, x, y))
    dsimp only at HE
    have q1c := q1.cells
    rcases hd : decide (((n0, n1, n2, n3, n4, n5) : M6) = (a, b, c, d, x, y)) with _ | _
    · have he : eqT6 n0 n1 n2 n3 n4 n5 a b c d x y = false := HE.out.trans hd
      have HF := Lib.hid (HD.out.symm.trans hd)
      clear HD HE hd
      go_wp2_with fail
      go_quiet (fail)
      go_wp2
      go_ret
      exact ⟨ret_bool HF.out.symm, by repeat (first | with_reducible assumption | with_reducible exact Below.refl _ _ | with_reducible refine Below.alloc ?_ (by first | omega | (simp <;> omega)) _ | with_reducible refine bstep ?_ (by with_reducible assumption) | with_reducible refine Below.drew ?_ | with_reducible refine below_drewN ?_ _)⟩
    · have he : eqT6 n0 n1 n2 n3 n4 n5 a b c d x y = true := HE.out.trans hd
      have HF := Lib.hid (HD.out.symm.trans hd)
      clear HD HE hd
      go_wp2_with fail
      go_quiet (fail)
      go_wp2
      go_ret
      exact ⟨ret_bool HF.out.symm, by repeat (first | with_reducible assumption | with_reducible exact Below.refl _ _ | with_reducible refine Below.alloc ?_ (by first | omega | (simp <;> omega)) _ | with_reducible refine bstep ?_ (by with_reducible assumption) | with_reducible refine Below.drew ?_ | with_reducible refine below_drewN ?_ _)⟩
  · have hpl2 : ¬ ((p : Int) < (L.length : Int)) := by omega
    have hpl3 : decide (p < L.length) = false := decide_eq_false hpl
    have HF := Lib.hid (HO.out hpl)
    have hN := HP.out.2
    have hp3 : (p : Int) ≤ 1048576 := by have := HP.out.1; omega
    clear HY HO hpl
    go_wp2_with fail
    go_quiet (fail)
    go_wp2
    go_ret
    exact ⟨ret_bool HF.out.symm, by repeat (first | with_reducible assumption | with_reducible exact Below.refl _ _ | with_reducible refine Below.alloc ?_ (by first | omega | (simp <;> omega)) _ | with_reducible refine bstep ?_ (by with_reducible assumption) | with_reducible refine Below.drew ?_ | with_reducible refine below_drewN ?_ _)⟩
set_option maxRecDepth 100000 in
set_option maxHeartbeats 8000000 in
theorem l06Insert_any {base lo hi : Nat} {v : Value} {L : List M6} {w : World} (a b c d x y : Int) (hK : w.ownsRow base 37 6 v L.length (cells6 L)) (hv : ∃ g cap, v = .slice (some ⟨g, 0, none⟩) L.length cap) (h : SRow lo hi 6 v L.length (fm L) w) (hbase : base ≤ w.heap.size) (hU : Up L) (hn : L.length ≤ 100000) :
    Calls Tryz.prog 178 #[v, .agg #[.int .i64 a, .int .i64 b, .int .i64 c, .int .i64 d, .int .i64 x, .int .i64 y]] w fun e w' => ∃ g cap, e = .returned (.slice (some ⟨g, 0, none⟩) (putM L (a, b, c, d, x, y)).length cap) ∧ KOw g base cap 37 (putM L (a, b, c, d, x, y)) w' ∧ (decide ((a, b, c, d, x, y) ∈ L) = false → w.heap.size ≤ g) ∧ Below w.heap.size w w' := by
  obtain ⟨i0, hinf, hz0, hz1, hz2⟩ := info_parts infoMo6
  have hV := Lib.hid hv
  have HUP := Lib.hid hU
  have HOW0 := Lib.hid (show KOwV base 37 v L w from hK)
  have HBS := Lib.hid hbase
  have HN1 := Lib.hid hn
  have HPOS := Lib.hid (show 0 < (putM L (a, b, c, d, x, y)).length from List.length_pos_of_mem (putM_mem.2 (.inl rfl)))
  clear hK hv hbase
  have hn : L.length ≤ 1048576 := by omega
  have X0 : Km w.heap.size a b c d x y (w.alloc (.cells #[.int .i64 a, .int .i64 b, .int .i64 c, .int .i64 d, .int .i64 x, .int .i64 y] 37)) := Km.at _ rfl
  have B0 : Below w.heap.size w (w.alloc (.cells #[.int .i64 a, .int .i64 b, .int .i64 c, .int .i64 d, .int .i64 x, .int .i64 y] 37)) := (Below.refl _ _).alloc (Nat.le_refl _) _
  have A0 : SRow lo hi 6 v L.length (fm L) (w.alloc (.cells #[.int .i64 a, .int .i64 b, .int .i64 c, .int .i64 d, .int .i64 x, .int .i64 y] 37)) := h.grow ((Below.refl w.heap.size w).alloc (Nat.le_refl _) _) h.1
  have HS := Lib.hid h
  have HY := Lib.hid (fun hp => has_yes (m := (a, b, c, d, x, y)) hU hp)
  have HO := Lib.hid (fun hp => has_no (m := (a, b, c, d, x, y)) hU hp)
  have HP := Lib.hid (show plM L (a, b, c, d, x, y) ≤ L.length ∧ L.length ≤ 1048576 from ⟨plM_le L _, hn⟩)
  have CP := Lib.hid (l06Place_any a b c d x y A0 hU hn)
  obtain ⟨ao, cap, rfl⟩ : ∃ ao cap, v = .slice ao L.length cap := by
    rcases h.2.2 with ⟨hz, ao, cap, rfl⟩ | ⟨g, cap, rfl, _⟩
    · exact ⟨ao, cap, by rw [hz]⟩
    · exact ⟨_, cap, rfl⟩
  clear h hU hn A0
  have X0c := X0.cells
  generalize hp : plM L (a, b, c, d, x, y) = p at HY HO HP CP
  have HPE := Lib.hid hp
  clear hp
  go_enter Tryz.func178, Tryz.ntmps178
  go_wp2_with fail
  refine CP.out.mono ?_
  rintro e w1 ⟨rfl, hb1⟩
  have X1 := X0.call hb1
  have B1 := bstep B0 hb1
  clear hb1 X0 B0 X0c CP
  have X1c := X1.cells
  have X1l := km_lt X1
  by_cases hpl : p < L.length
  · have hpl2 : (p : Int) < (L.length : Int) := by omega
    have hN := HP.out.2
    have hp3 : (p : Int) ≤ 1048576 := by omega
    have hres := HS.out.2.2.resolve_left (fun h => by omega)
    obtain ⟨g, cap', e9, _, hg, RA⟩ := hres
    simp only [Value.slice.injEq, true_and] at e9
    obtain ⟨rfl, rfl⟩ := e9
    have hhi := HS.out.1
    have q1 := (RA.grow B1 (by omega)).mo p hpl
    have HD := Lib.hid (HY.out hpl)
    have hgl : g < w.heap.size := by omega
    have HG := trivial
    clear RA HY HO hg hhi
    generalize L[p] = m at q1 HD
    obtain ⟨n0, n1, n2, n3, n4, n5⟩ := m
    dsimp only at q1
    have HE := Lib.hid (eqT6_dec (n0, n1, n2, n3, n4, n5) (a, b, c, d, x, y))
    dsimp only at HE
    have q1c := q1.cells
    rcases hd : decide (((n0, n1, n2, n3, n4, n5) : M6) = (a, b, c, d, x, y)) with _ | _
    · have he : eqT6 n0 n1 n2 n3 n4 n5 a b c d x y = false := HE.out.trans hd
      have HF := Lib.hid (HD.out.symm.trans hd)
      clear HD HE hd
      go_wp2_with fail
      go_quiet (fail)
      go_wp2_with fail
      have XX : Km w.heap.size a b c d x y (w1.drewN nq) := Km.call X1 (below_drewN (Below.refl _ _) _)
      have GG : KOw g base cap 37 L (w1.drewN nq) := KOw.call (KOw.call (show KOw g base cap 37 L w from HOW0.out) B1) (below_drewN (Below.refl _ _) _)
      have BB : Below w.heap.size w (w1.drewN nq) := below_drewN B1 _
      have zB := B1.size
      have zW : (w1.drewN nq).heap.size = w1.heap.size := rfl
      clear X1 X1c q1 q1c B1 HS
      generalize w1.drewN nq = W0 at *
      rw [← zW] at zB X1l
      have hcl := KOw.cap_le GG
      clear zW
      have hpL : p ≤ L.length := by omega
      have hcp : ¬ cap = p := by omega
      have HLEN := Lib.hid (show (L.take p ++ [(a, b, c, d, x, y)]).length = p + 1 by rw [List.length_append, List.length_take, Nat.min_eq_left hpL]; rfl)
      have HL := Lib.hid (put_new HUP.out HF.out)
      rw [HPE.out] at HL
      have Xc := XX.cells
      have hpc : p ≤ cap := by omega
      go_region_held3 (fun W => (W.cell? ⟨w.heap.size, 0, none⟩ = some (.int .i64 a) ∧ W.cell? ⟨w.heap.size, 1, none⟩ = some (.int .i64 b) ∧ W.cell? ⟨w.heap.size, 2, none⟩ = some (.int .i64 c) ∧ W.cell? ⟨w.heap.size, 3, none⟩ = some (.int .i64 d) ∧ W.cell? ⟨w.heap.size, 4, none⟩ = some (.int .i64 x) ∧ W.cell? ⟨w.heap.size, 5, none⟩ = some (.int .i64 y))) ((refine Km.cells ?_) <;> repeat (first | with_reducible assumption | with_reducible refine Km.drew ?_ | with_reducible refine Km.alloc ?_ _ | with_reducible refine Km.call ?_ (by with_reducible assumption) | with_reducible refine KOw.drew ?_ | with_reducible refine KOw.alloc ?_ _ | with_reducible refine KOw.call ?_ (by with_reducible assumption)))
        (first
          | (rw [if_pos (by rfl)]; refine wp_append_own _ _ _ 48 rfl (w.heap.size + 1) 37 i0 (.agg #[.int .i64 0, .int .i64 0, .int .i64 0, .int .i64 0, .int .i64 0, .int .i64 0]) 6 48 Tryz.underlying48 hinf hz0 hz1 hz2 rfl (by decide) _ 0 [] rfl (by first | exact (lit6 W0 W0.heap.size rfl (by omega)) | exact KOwV.drew (lit6 W0 W0.heap.size rfl (by omega)) | exact KOwV.alloc (lit6 W0 W0.heap.size rfl (by omega)) _ | exact KOwV.drew (KOwV.alloc (lit6 W0 W0.heap.size rfl (by omega)) _) | exact KOwV.drew (KOwV.alloc (KOwV.drew (lit6 W0 W0.heap.size rfl (by omega))) _) | exact (lit6 _ (W0.heap.size + 1) (by simp) (by simp; omega)) | exact KOwV.drew (lit6 _ (W0.heap.size + 1) (by simp) (by simp; omega))) ⟨g, 0, none⟩ p _ (cells6 (L.take p)) rfl (take6_len hpL) (kow_take (show KOw g base cap 37 L _ from by repeat (first | with_reducible assumption | with_reducible refine Km.drew ?_ | with_reducible refine Km.alloc ?_ _ | with_reducible refine Km.call ?_ (by with_reducible assumption) | with_reducible refine KOw.drew ?_ | with_reducible refine KOw.alloc ?_ _ | with_reducible refine KOw.call ?_ (by with_reducible assumption)))) (cells6_one _) (by unfold maxLen; omega) (by omega) (by first | omega | (simp <;> omega)) ?_; intro v26 w26 hown26 hgr26 _; have O26 : KOwV (w.heap.size + 1) 37 v26 (L.take p) w26 := (by have h := hown26; unfold KOwV; rw [List.length_take, Nat.min_eq_left hpL]; simpa using h); have G26 : KOw g base cap 37 L w26 := KOw.kept (show KOw g base cap 37 L _ from by repeat (first | with_reducible assumption | with_reducible refine Km.drew ?_ | with_reducible refine Km.alloc ?_ _ | with_reducible refine Km.call ?_ (by with_reducible assumption) | with_reducible refine KOw.drew ?_ | with_reducible refine KOw.alloc ?_ _ | with_reducible refine KOw.call ?_ (by with_reducible assumption))) hgr26 (fun e => by have e2 := Option.some.inj e; first | omega | (simp at e2; done) | (simp at e2; omega)); have X26 : Km w.heap.size a b c d x y w26 := Km.grown (show Km w.heap.size a b c d x y _ from by repeat (first | with_reducible assumption | with_reducible refine Km.drew ?_ | with_reducible refine Km.alloc ?_ _ | with_reducible refine Km.call ?_ (by with_reducible assumption) | with_reducible refine KOw.drew ?_ | with_reducible refine KOw.alloc ?_ _ | with_reducible refine KOw.call ?_ (by with_reducible assumption))) hgr26 (fun e => by have e2 := Option.some.inj e; first | omega | (simp at e2; done) | (simp at e2; omega)); (first | have S26 := Km.grown (Km.at (W0.heap.size + 1) (by simp)) hgr26 (fun e => by have e2 := Option.some.inj e; first | omega | (simp at e2; done) | (simp at e2; omega)) | have S26 := Km.grown (Km.drew (Km.at (W0.heap.size + 1) (by simp))) hgr26 (fun e => by have e2 := Option.some.inj e; first | omega | (simp at e2; done) | (simp at e2; omega)) | have S26 := Km.grown (Km.alloc (Km.at W0.heap.size rfl) _) hgr26 (fun e => by have e2 := Option.some.inj e; first | omega | (simp at e2; done) | (simp at e2; omega)) | have S26 := Km.grown (Km.drew (Km.alloc (Km.at W0.heap.size rfl) _)) hgr26 (fun e => by have e2 := Option.some.inj e; first | omega | (simp at e2; done) | (simp at e2; omega)) | have S26 := Km.grown (Km.alloc (Km.drew (Km.at W0.heap.size rfl)) _) hgr26 (fun e => by have e2 := Option.some.inj e; first | omega | (simp at e2; done) | (simp at e2; omega)) | have S26 := Km.grown (Km.drew (Km.alloc (Km.drew (Km.at W0.heap.size rfl)) _)) hgr26 (fun e => by have e2 := Option.some.inj e; first | omega | (simp at e2; done) | (simp at e2; omega)) | have S26 := trivial); have B26 : Below w.heap.size w w26 := Below.grown (show Below w.heap.size w _ from by repeat (first | with_reducible assumption | with_reducible refine Below.drew ?_ | with_reducible refine Below.alloc ?_ (by first | omega | (simp <;> omega)) _ | with_reducible refine bstep ?_ (by with_reducible assumption))) hgr26 (by first | omega | (simp <;> omega)) (fun r hr => by have e2 := Option.some.inj hr; first | omega | (simp at e2; omega)); have z26 : w.heap.size + 1 ≤ w26.heap.size := km_lt X26)
          | (rw [if_pos (by rfl)]; refine wp_append_own _ _ _ 48 rfl (w.heap.size + 1) 37 i0 (.agg #[.int .i64 0, .int .i64 0, .int .i64 0, .int .i64 0, .int .i64 0, .int .i64 0]) 6 48 Tryz.underlying48 hinf hz0 hz1 hz2 rfl (by decide) _ (L.take p).length (cells6 (L.take p)) rfl (show KOwV (w.heap.size + 1) 37 v26 (L.take p) _ from by repeat (first | with_reducible assumption | with_reducible refine KOwV.drew ?_ | with_reducible refine KOwV.alloc ?_ _)) _ 1 1 [.int .i64 a, .int .i64 b, .int .i64 c, .int .i64 d, .int .i64 x, .int .i64 y] rfl rfl (by first | exact km_six S26 | exact km_six (Km.drew S26) | exact km_six (Km.at _ rfl) | exact km_six (Km.drew (Km.at _ rfl))) one_six (by have hh := take6_len hpL; rw [cells6_len] at hh; unfold maxLen; omega) (by have hh := take6_len hpL; rw [cells6_len] at hh; omega) (by first | omega | (simp <;> omega)) ?_; intro v29 w29 hown29 hgr29 _; have O29 : KOwV (w.heap.size + 1) 37 v29 (L.take p ++ [(a, b, c, d, x, y)]) w29 := own_next6 hown29; have G29 : KOw g base cap 37 L w29 := KOw.kept (show KOw g base cap 37 L _ from by repeat (first | with_reducible assumption | with_reducible refine Km.drew ?_ | with_reducible refine Km.alloc ?_ _ | with_reducible refine Km.call ?_ (by with_reducible assumption) | with_reducible refine KOw.drew ?_ | with_reducible refine KOw.alloc ?_ _ | with_reducible refine KOw.call ?_ (by with_reducible assumption))) hgr29 (fun e => by have := (World.ownsRow.lt O26 _ e.symm).1; omega); have X29 : Km w.heap.size a b c d x y w29 := Km.grown (show Km w.heap.size a b c d x y _ from by repeat (first | with_reducible assumption | with_reducible refine Km.drew ?_ | with_reducible refine Km.alloc ?_ _ | with_reducible refine Km.call ?_ (by with_reducible assumption) | with_reducible refine KOw.drew ?_ | with_reducible refine KOw.alloc ?_ _ | with_reducible refine KOw.call ?_ (by with_reducible assumption))) hgr29 (fun e => by have := (World.ownsRow.lt O26 _ e.symm).1; omega); have B29 : Below w.heap.size w w29 := Below.grown (show Below w.heap.size w _ from by repeat (first | with_reducible assumption | with_reducible refine Below.drew ?_ | with_reducible refine Below.alloc ?_ (by first | omega | (simp <;> omega)) _ | with_reducible refine bstep ?_ (by with_reducible assumption))) hgr29 (by first | omega | (simp <;> omega)) (fun r hr => by have := (World.ownsRow.lt O26 _ hr).1; omega); have z29 : w.heap.size + 1 ≤ w29.heap.size := km_lt X29)
          | (rw [if_pos (by rfl)]; refine wp_append_own _ _ _ 48 rfl (w.heap.size + 1) 37 i0 (.agg #[.int .i64 0, .int .i64 0, .int .i64 0, .int .i64 0, .int .i64 0, .int .i64 0]) 6 48 Tryz.underlying48 hinf hz0 hz1 hz2 rfl (by decide) _ (L.take p ++ [(a, b, c, d, x, y)]).length (cells6 (L.take p ++ [(a, b, c, d, x, y)])) rfl (show KOwV (w.heap.size + 1) 37 v29 (L.take p ++ [(a, b, c, d, x, y)]) _ from by repeat (first | with_reducible assumption | with_reducible refine KOwV.drew ?_ | with_reducible refine KOwV.alloc ?_ _)) _ (L.length - p) _ (cells6 (L.drop p)) rfl (drop6_len hpL) (kow_drop (show KOw g base cap 37 L _ from by repeat (first | with_reducible assumption | with_reducible refine Km.drew ?_ | with_reducible refine Km.alloc ?_ _ | with_reducible refine Km.call ?_ (by with_reducible assumption) | with_reducible refine KOw.drew ?_ | with_reducible refine KOw.alloc ?_ _ | with_reducible refine KOw.call ?_ (by with_reducible assumption))) hpL) (cells6_one _) (by have hh := HLEN.out; unfold maxLen; omega) (by have hh := HLEN.out; omega) (by first | omega | (simp <;> omega)) ?_; intro v33 w33 hown33 hgr33 _; have O33 : KOwV (w.heap.size + 1) 37 v33 (L.take p ++ [(a, b, c, d, x, y)] ++ L.drop p) w33 := (by have h := hown33; unfold KOwV; rw [cells6_app (L.take p ++ [(a, b, c, d, x, y)]) (L.drop p), app_len (L.take p ++ [(a, b, c, d, x, y)]) (L.drop p), List.length_drop]; exact h); have X33 : Km w.heap.size a b c d x y w33 := Km.grown (show Km w.heap.size a b c d x y _ from by repeat (first | with_reducible assumption | with_reducible refine Km.drew ?_ | with_reducible refine Km.alloc ?_ _ | with_reducible refine Km.call ?_ (by with_reducible assumption) | with_reducible refine KOw.drew ?_ | with_reducible refine KOw.alloc ?_ _ | with_reducible refine KOw.call ?_ (by with_reducible assumption))) hgr33 (fun e => by have := (World.ownsRow.lt O29 _ e.symm).1; omega); have B33 : Below w.heap.size w w33 := Below.grown (show Below w.heap.size w _ from by repeat (first | with_reducible assumption | with_reducible refine Below.drew ?_ | with_reducible refine Below.alloc ?_ (by first | omega | (simp <;> omega)) _ | with_reducible refine bstep ?_ (by with_reducible assumption))) hgr33 (by first | omega | (simp <;> omega)) (fun r hr => by have := (World.ownsRow.lt O29 _ hr).1; omega)))
      all_goals
        rw [← HL.out] at O33
        obtain ⟨g9, cap9, rfl, K9⟩ := KOw.of O33 (by have := HPOS.out; omega)
        go_wp2
        go_ret
        exact ⟨g9, cap9, rfl, ownsRow_lower K9 (by have := HBS.out; omega), fun _ => by have := (KOw.lt K9).1; omega, B33⟩
    · have he : eqT6 n0 n1 n2 n3 n4 n5 a b c d x y = true := HE.out.trans hd
      have HF := Lib.hid (HD.out.symm.trans hd)
      clear HD HE hd
      go_wp2_with fail
      go_quiet (fail)
      go_wp2
      go_ret
      have hl : putM L (a, b, c, d, x, y) = L := put_old HUP.out HF.out
      exact ⟨g, cap, by rw [hl]; rfl, by rw [hl]; exact KOw.call HOW0.out (by repeat (first | with_reducible assumption | with_reducible exact Below.refl _ _ | with_reducible refine Below.alloc ?_ (by first | omega | (simp <;> omega)) _ | with_reducible refine bstep ?_ (by with_reducible assumption) | with_reducible refine Below.drew ?_ | with_reducible refine below_drewN ?_ _)), (fun hh => by rw [HF.out] at hh; cases hh), by repeat (first | with_reducible assumption | with_reducible exact Below.refl _ _ | with_reducible refine Below.alloc ?_ (by first | omega | (simp <;> omega)) _ | with_reducible refine bstep ?_ (by with_reducible assumption) | with_reducible refine Below.drew ?_ | with_reducible refine below_drewN ?_ _)⟩
  · have hpl2 : ¬ ((p : Int) < (L.length : Int)) := by omega
    have hpl3 : decide (p < L.length) = false := decide_eq_false hpl
    have HF := Lib.hid (HO.out hpl)
    have hN := HP.out.2
    have hp3 : (p : Int) ≤ 1048576 := by have := HP.out.1; omega
    clear HY HO hpl
    obtain ⟨g, cap', e9⟩ := hV.out
    simp only [Value.slice.injEq, true_and] at e9
    obtain ⟨rfl, rfl⟩ := e9
    have hgl : g < w.heap.size := (KOw.lt (show KOw g base cap 37 L w from HOW0.out)).2
    have hpL : p ≤ L.length := HP.out.1
    by_cases hcp : cap = p
    · have hdn : L.drop p = [] := List.drop_eq_nil_of_le (by omega)
      go_wp2_with fail
      go_quiet (fail)
      go_wp2_with fail
      have XX : Km w.heap.size a b c d x y (w1.drewN nq) := Km.call X1 (below_drewN (Below.refl _ _) _)
      have GG : KOw g base cap 37 L (w1.drewN nq) := KOw.call (KOw.call (show KOw g base cap 37 L w from HOW0.out) B1) (below_drewN (Below.refl _ _) _)
      have BB : Below w.heap.size w (w1.drewN nq) := below_drewN B1 _
      have zB := B1.size
      have zW : (w1.drewN nq).heap.size = w1.heap.size := rfl
      clear X1 X1c  B1 HS
      generalize w1.drewN nq = W0 at *
      rw [← zW] at zB X1l
      have hcl := KOw.cap_le GG
      clear zW

      have HLEN := Lib.hid (show (L.take p ++ [(a, b, c, d, x, y)]).length = p + 1 by rw [List.length_append, List.length_take, Nat.min_eq_left hpL]; rfl)
      have HL := Lib.hid (put_new HUP.out HF.out)
      rw [HPE.out] at HL
      have Xc := XX.cells
      have hpc : p ≤ cap := by omega
      go_region_held3 (fun W => (W.cell? ⟨w.heap.size, 0, none⟩ = some (.int .i64 a) ∧ W.cell? ⟨w.heap.size, 1, none⟩ = some (.int .i64 b) ∧ W.cell? ⟨w.heap.size, 2, none⟩ = some (.int .i64 c) ∧ W.cell? ⟨w.heap.size, 3, none⟩ = some (.int .i64 d) ∧ W.cell? ⟨w.heap.size, 4, none⟩ = some (.int .i64 x) ∧ W.cell? ⟨w.heap.size, 5, none⟩ = some (.int .i64 y))) ((refine Km.cells ?_) <;> repeat (first | with_reducible assumption | with_reducible refine Km.drew ?_ | with_reducible refine Km.alloc ?_ _ | with_reducible refine Km.call ?_ (by with_reducible assumption) | with_reducible refine KOw.drew ?_ | with_reducible refine KOw.alloc ?_ _ | with_reducible refine KOw.call ?_ (by with_reducible assumption)))
        (first
          | (rw [if_pos (by rfl)]; refine wp_append_own _ _ _ 48 rfl (w.heap.size + 1) 37 i0 (.agg #[.int .i64 0, .int .i64 0, .int .i64 0, .int .i64 0, .int .i64 0, .int .i64 0]) 6 48 Tryz.underlying48 hinf hz0 hz1 hz2 rfl (by decide) _ 0 [] rfl (by first | exact (lit6 W0 W0.heap.size rfl (by omega)) | exact KOwV.drew (lit6 W0 W0.heap.size rfl (by omega)) | exact KOwV.alloc (lit6 W0 W0.heap.size rfl (by omega)) _ | exact KOwV.drew (KOwV.alloc (lit6 W0 W0.heap.size rfl (by omega)) _) | exact KOwV.drew (KOwV.alloc (KOwV.drew (lit6 W0 W0.heap.size rfl (by omega))) _) | exact (lit6 _ (W0.heap.size + 1) (by simp) (by simp; omega)) | exact KOwV.drew (lit6 _ (W0.heap.size + 1) (by simp) (by simp; omega))) ⟨g, 0, none⟩ p _ (cells6 (L.take p)) rfl (take6_len hpL) (kow_take (show KOw g base cap 37 L _ from by repeat (first | with_reducible assumption | with_reducible refine Km.drew ?_ | with_reducible refine Km.alloc ?_ _ | with_reducible refine Km.call ?_ (by with_reducible assumption) | with_reducible refine KOw.drew ?_ | with_reducible refine KOw.alloc ?_ _ | with_reducible refine KOw.call ?_ (by with_reducible assumption)))) (cells6_one _) (by unfold maxLen; omega) (by omega) (by first | omega | (simp <;> omega)) ?_; intro v26 w26 hown26 hgr26 _; have O26 : KOwV (w.heap.size + 1) 37 v26 (L.take p) w26 := (by have h := hown26; unfold KOwV; rw [List.length_take, Nat.min_eq_left hpL]; simpa using h); have G26 : KOw g base cap 37 L w26 := KOw.kept (show KOw g base cap 37 L _ from by repeat (first | with_reducible assumption | with_reducible refine Km.drew ?_ | with_reducible refine Km.alloc ?_ _ | with_reducible refine Km.call ?_ (by with_reducible assumption) | with_reducible refine KOw.drew ?_ | with_reducible refine KOw.alloc ?_ _ | with_reducible refine KOw.call ?_ (by with_reducible assumption))) hgr26 (fun e => by have e2 := Option.some.inj e; first | omega | (simp at e2; done) | (simp at e2; omega)); have X26 : Km w.heap.size a b c d x y w26 := Km.grown (show Km w.heap.size a b c d x y _ from by repeat (first | with_reducible assumption | with_reducible refine Km.drew ?_ | with_reducible refine Km.alloc ?_ _ | with_reducible refine Km.call ?_ (by with_reducible assumption) | with_reducible refine KOw.drew ?_ | with_reducible refine KOw.alloc ?_ _ | with_reducible refine KOw.call ?_ (by with_reducible assumption))) hgr26 (fun e => by have e2 := Option.some.inj e; first | omega | (simp at e2; done) | (simp at e2; omega)); (first | have S26 := Km.grown (Km.at (W0.heap.size + 1) (by simp)) hgr26 (fun e => by have e2 := Option.some.inj e; first | omega | (simp at e2; done) | (simp at e2; omega)) | have S26 := Km.grown (Km.drew (Km.at (W0.heap.size + 1) (by simp))) hgr26 (fun e => by have e2 := Option.some.inj e; first | omega | (simp at e2; done) | (simp at e2; omega)) | have S26 := Km.grown (Km.alloc (Km.at W0.heap.size rfl) _) hgr26 (fun e => by have e2 := Option.some.inj e; first | omega | (simp at e2; done) | (simp at e2; omega)) | have S26 := Km.grown (Km.drew (Km.alloc (Km.at W0.heap.size rfl) _)) hgr26 (fun e => by have e2 := Option.some.inj e; first | omega | (simp at e2; done) | (simp at e2; omega)) | have S26 := Km.grown (Km.alloc (Km.drew (Km.at W0.heap.size rfl)) _) hgr26 (fun e => by have e2 := Option.some.inj e; first | omega | (simp at e2; done) | (simp at e2; omega)) | have S26 := Km.grown (Km.drew (Km.alloc (Km.drew (Km.at W0.heap.size rfl)) _)) hgr26 (fun e => by have e2 := Option.some.inj e; first | omega | (simp at e2; done) | (simp at e2; omega)) | have S26 := trivial); have B26 : Below w.heap.size w w26 := Below.grown (show Below w.heap.size w _ from by repeat (first | with_reducible assumption | with_reducible refine Below.drew ?_ | with_reducible refine Below.alloc ?_ (by first | omega | (simp <;> omega)) _ | with_reducible refine bstep ?_ (by with_reducible assumption))) hgr26 (by first | omega | (simp <;> omega)) (fun r hr => by have e2 := Option.some.inj hr; first | omega | (simp at e2; omega)); have z26 : w.heap.size + 1 ≤ w26.heap.size := km_lt X26)
          | (rw [if_pos (by rfl)]; refine wp_append_own _ _ _ 48 rfl (w.heap.size + 1) 37 i0 (.agg #[.int .i64 0, .int .i64 0, .int .i64 0, .int .i64 0, .int .i64 0, .int .i64 0]) 6 48 Tryz.underlying48 hinf hz0 hz1 hz2 rfl (by decide) _ (L.take p).length (cells6 (L.take p)) rfl (show KOwV (w.heap.size + 1) 37 v26 (L.take p) _ from by repeat (first | with_reducible assumption | with_reducible refine KOwV.drew ?_ | with_reducible refine KOwV.alloc ?_ _)) _ 1 1 [.int .i64 a, .int .i64 b, .int .i64 c, .int .i64 d, .int .i64 x, .int .i64 y] rfl rfl (by first | exact km_six S26 | exact km_six (Km.drew S26) | exact km_six (Km.at _ rfl) | exact km_six (Km.drew (Km.at _ rfl))) one_six (by have hh := take6_len hpL; rw [cells6_len] at hh; unfold maxLen; omega) (by have hh := take6_len hpL; rw [cells6_len] at hh; omega) (by first | omega | (simp <;> omega)) ?_; intro v29 w29 hown29 hgr29 _; have O29 : KOwV (w.heap.size + 1) 37 v29 (L.take p ++ [(a, b, c, d, x, y)]) w29 := own_next6 hown29; have G29 : KOw g base cap 37 L w29 := KOw.kept (show KOw g base cap 37 L _ from by repeat (first | with_reducible assumption | with_reducible refine Km.drew ?_ | with_reducible refine Km.alloc ?_ _ | with_reducible refine Km.call ?_ (by with_reducible assumption) | with_reducible refine KOw.drew ?_ | with_reducible refine KOw.alloc ?_ _ | with_reducible refine KOw.call ?_ (by with_reducible assumption))) hgr29 (fun e => by have := (World.ownsRow.lt O26 _ e.symm).1; omega); have X29 : Km w.heap.size a b c d x y w29 := Km.grown (show Km w.heap.size a b c d x y _ from by repeat (first | with_reducible assumption | with_reducible refine Km.drew ?_ | with_reducible refine Km.alloc ?_ _ | with_reducible refine Km.call ?_ (by with_reducible assumption) | with_reducible refine KOw.drew ?_ | with_reducible refine KOw.alloc ?_ _ | with_reducible refine KOw.call ?_ (by with_reducible assumption))) hgr29 (fun e => by have := (World.ownsRow.lt O26 _ e.symm).1; omega); have B29 : Below w.heap.size w w29 := Below.grown (show Below w.heap.size w _ from by repeat (first | with_reducible assumption | with_reducible refine Below.drew ?_ | with_reducible refine Below.alloc ?_ (by first | omega | (simp <;> omega)) _ | with_reducible refine bstep ?_ (by with_reducible assumption))) hgr29 (by first | omega | (simp <;> omega)) (fun r hr => by have := (World.ownsRow.lt O26 _ hr).1; omega); have z29 : w.heap.size + 1 ≤ w29.heap.size := km_lt X29)
          | (rw [if_pos (by rfl)]; refine wp_append_own _ _ _ 48 rfl (w.heap.size + 1) 37 i0 (.agg #[.int .i64 0, .int .i64 0, .int .i64 0, .int .i64 0, .int .i64 0, .int .i64 0]) 6 48 Tryz.underlying48 hinf hz0 hz1 hz2 rfl (by decide) _ (L.take p ++ [(a, b, c, d, x, y)]).length (cells6 (L.take p ++ [(a, b, c, d, x, y)])) rfl (show KOwV (w.heap.size + 1) 37 v29 (L.take p ++ [(a, b, c, d, x, y)]) _ from by repeat (first | with_reducible assumption | with_reducible refine KOwV.drew ?_ | with_reducible refine KOwV.alloc ?_ _)) _ (L.length - p) _ (cells6 (L.drop p)) rfl (drop6_len hpL) (by rw [hdn]; intro j u hj; simp [cells6] at hj) (cells6_one _) (by have hh := HLEN.out; unfold maxLen; omega) (by have hh := HLEN.out; omega) (by first | omega | (simp <;> omega)) ?_; intro v33 w33 hown33 hgr33 _; have O33 : KOwV (w.heap.size + 1) 37 v33 (L.take p ++ [(a, b, c, d, x, y)] ++ L.drop p) w33 := (by have h := hown33; unfold KOwV; rw [cells6_app (L.take p ++ [(a, b, c, d, x, y)]) (L.drop p), app_len (L.take p ++ [(a, b, c, d, x, y)]) (L.drop p), List.length_drop]; exact h); have X33 : Km w.heap.size a b c d x y w33 := Km.grown (show Km w.heap.size a b c d x y _ from by repeat (first | with_reducible assumption | with_reducible refine Km.drew ?_ | with_reducible refine Km.alloc ?_ _ | with_reducible refine Km.call ?_ (by with_reducible assumption) | with_reducible refine KOw.drew ?_ | with_reducible refine KOw.alloc ?_ _ | with_reducible refine KOw.call ?_ (by with_reducible assumption))) hgr33 (fun e => by have := (World.ownsRow.lt O29 _ e.symm).1; omega); have B33 : Below w.heap.size w w33 := Below.grown (show Below w.heap.size w _ from by repeat (first | with_reducible assumption | with_reducible refine Below.drew ?_ | with_reducible refine Below.alloc ?_ (by first | omega | (simp <;> omega)) _ | with_reducible refine bstep ?_ (by with_reducible assumption))) hgr33 (by first | omega | (simp <;> omega)) (fun r hr => by have := (World.ownsRow.lt O29 _ hr).1; omega)))
      all_goals
        rw [← HL.out] at O33
        obtain ⟨g9, cap9, rfl, K9⟩ := KOw.of O33 (by have := HPOS.out; omega)
        go_wp2
        go_ret
        exact ⟨g9, cap9, rfl, ownsRow_lower K9 (by have := HBS.out; omega), fun _ => by have := (KOw.lt K9).1; omega, B33⟩
    · skip
      go_wp2_with fail
      go_quiet (fail)
      go_wp2_with fail
      have XX : Km w.heap.size a b c d x y (w1.drewN nq) := Km.call X1 (below_drewN (Below.refl _ _) _)
      have GG : KOw g base cap 37 L (w1.drewN nq) := KOw.call (KOw.call (show KOw g base cap 37 L w from HOW0.out) B1) (below_drewN (Below.refl _ _) _)
      have BB : Below w.heap.size w (w1.drewN nq) := below_drewN B1 _
      have zB := B1.size
      have zW : (w1.drewN nq).heap.size = w1.heap.size := rfl
      clear X1 X1c  B1 HS
      generalize w1.drewN nq = W0 at *
      rw [← zW] at zB X1l
      have hcl := KOw.cap_le GG
      clear zW

      have HLEN := Lib.hid (show (L.take p ++ [(a, b, c, d, x, y)]).length = p + 1 by rw [List.length_append, List.length_take, Nat.min_eq_left hpL]; rfl)
      have HL := Lib.hid (put_new HUP.out HF.out)
      rw [HPE.out] at HL
      have Xc := XX.cells
      have hpc : p ≤ cap := by omega
      go_region_held3 (fun W => (W.cell? ⟨w.heap.size, 0, none⟩ = some (.int .i64 a) ∧ W.cell? ⟨w.heap.size, 1, none⟩ = some (.int .i64 b) ∧ W.cell? ⟨w.heap.size, 2, none⟩ = some (.int .i64 c) ∧ W.cell? ⟨w.heap.size, 3, none⟩ = some (.int .i64 d) ∧ W.cell? ⟨w.heap.size, 4, none⟩ = some (.int .i64 x) ∧ W.cell? ⟨w.heap.size, 5, none⟩ = some (.int .i64 y))) ((refine Km.cells ?_) <;> repeat (first | with_reducible assumption | with_reducible refine Km.drew ?_ | with_reducible refine Km.alloc ?_ _ | with_reducible refine Km.call ?_ (by with_reducible assumption) | with_reducible refine KOw.drew ?_ | with_reducible refine KOw.alloc ?_ _ | with_reducible refine KOw.call ?_ (by with_reducible assumption)))
        (first
          | (rw [if_pos (by rfl)]; refine wp_append_own _ _ _ 48 rfl (w.heap.size + 1) 37 i0 (.agg #[.int .i64 0, .int .i64 0, .int .i64 0, .int .i64 0, .int .i64 0, .int .i64 0]) 6 48 Tryz.underlying48 hinf hz0 hz1 hz2 rfl (by decide) _ 0 [] rfl (by first | exact (lit6 W0 W0.heap.size rfl (by omega)) | exact KOwV.drew (lit6 W0 W0.heap.size rfl (by omega)) | exact KOwV.alloc (lit6 W0 W0.heap.size rfl (by omega)) _ | exact KOwV.drew (KOwV.alloc (lit6 W0 W0.heap.size rfl (by omega)) _) | exact KOwV.drew (KOwV.alloc (KOwV.drew (lit6 W0 W0.heap.size rfl (by omega))) _) | exact (lit6 _ (W0.heap.size + 1) (by simp) (by simp; omega)) | exact KOwV.drew (lit6 _ (W0.heap.size + 1) (by simp) (by simp; omega))) ⟨g, 0, none⟩ p _ (cells6 (L.take p)) rfl (take6_len hpL) (kow_take (show KOw g base cap 37 L _ from by repeat (first | with_reducible assumption | with_reducible refine Km.drew ?_ | with_reducible refine Km.alloc ?_ _ | with_reducible refine Km.call ?_ (by with_reducible assumption) | with_reducible refine KOw.drew ?_ | with_reducible refine KOw.alloc ?_ _ | with_reducible refine KOw.call ?_ (by with_reducible assumption)))) (cells6_one _) (by unfold maxLen; omega) (by omega) (by first | omega | (simp <;> omega)) ?_; intro v26 w26 hown26 hgr26 _; have O26 : KOwV (w.heap.size + 1) 37 v26 (L.take p) w26 := (by have h := hown26; unfold KOwV; rw [List.length_take, Nat.min_eq_left hpL]; simpa using h); have G26 : KOw g base cap 37 L w26 := KOw.kept (show KOw g base cap 37 L _ from by repeat (first | with_reducible assumption | with_reducible refine Km.drew ?_ | with_reducible refine Km.alloc ?_ _ | with_reducible refine Km.call ?_ (by with_reducible assumption) | with_reducible refine KOw.drew ?_ | with_reducible refine KOw.alloc ?_ _ | with_reducible refine KOw.call ?_ (by with_reducible assumption))) hgr26 (fun e => by have e2 := Option.some.inj e; first | omega | (simp at e2; done) | (simp at e2; omega)); have X26 : Km w.heap.size a b c d x y w26 := Km.grown (show Km w.heap.size a b c d x y _ from by repeat (first | with_reducible assumption | with_reducible refine Km.drew ?_ | with_reducible refine Km.alloc ?_ _ | with_reducible refine Km.call ?_ (by with_reducible assumption) | with_reducible refine KOw.drew ?_ | with_reducible refine KOw.alloc ?_ _ | with_reducible refine KOw.call ?_ (by with_reducible assumption))) hgr26 (fun e => by have e2 := Option.some.inj e; first | omega | (simp at e2; done) | (simp at e2; omega)); (first | have S26 := Km.grown (Km.at (W0.heap.size + 1) (by simp)) hgr26 (fun e => by have e2 := Option.some.inj e; first | omega | (simp at e2; done) | (simp at e2; omega)) | have S26 := Km.grown (Km.drew (Km.at (W0.heap.size + 1) (by simp))) hgr26 (fun e => by have e2 := Option.some.inj e; first | omega | (simp at e2; done) | (simp at e2; omega)) | have S26 := Km.grown (Km.alloc (Km.at W0.heap.size rfl) _) hgr26 (fun e => by have e2 := Option.some.inj e; first | omega | (simp at e2; done) | (simp at e2; omega)) | have S26 := Km.grown (Km.drew (Km.alloc (Km.at W0.heap.size rfl) _)) hgr26 (fun e => by have e2 := Option.some.inj e; first | omega | (simp at e2; done) | (simp at e2; omega)) | have S26 := Km.grown (Km.alloc (Km.drew (Km.at W0.heap.size rfl)) _) hgr26 (fun e => by have e2 := Option.some.inj e; first | omega | (simp at e2; done) | (simp at e2; omega)) | have S26 := Km.grown (Km.drew (Km.alloc (Km.drew (Km.at W0.heap.size rfl)) _)) hgr26 (fun e => by have e2 := Option.some.inj e; first | omega | (simp at e2; done) | (simp at e2; omega)) | have S26 := trivial); have B26 : Below w.heap.size w w26 := Below.grown (show Below w.heap.size w _ from by repeat (first | with_reducible assumption | with_reducible refine Below.drew ?_ | with_reducible refine Below.alloc ?_ (by first | omega | (simp <;> omega)) _ | with_reducible refine bstep ?_ (by with_reducible assumption))) hgr26 (by first | omega | (simp <;> omega)) (fun r hr => by have e2 := Option.some.inj hr; first | omega | (simp at e2; omega)); have z26 : w.heap.size + 1 ≤ w26.heap.size := km_lt X26)
          | (rw [if_pos (by rfl)]; refine wp_append_own _ _ _ 48 rfl (w.heap.size + 1) 37 i0 (.agg #[.int .i64 0, .int .i64 0, .int .i64 0, .int .i64 0, .int .i64 0, .int .i64 0]) 6 48 Tryz.underlying48 hinf hz0 hz1 hz2 rfl (by decide) _ (L.take p).length (cells6 (L.take p)) rfl (show KOwV (w.heap.size + 1) 37 v26 (L.take p) _ from by repeat (first | with_reducible assumption | with_reducible refine KOwV.drew ?_ | with_reducible refine KOwV.alloc ?_ _)) _ 1 1 [.int .i64 a, .int .i64 b, .int .i64 c, .int .i64 d, .int .i64 x, .int .i64 y] rfl rfl (by first | exact km_six S26 | exact km_six (Km.drew S26) | exact km_six (Km.at _ rfl) | exact km_six (Km.drew (Km.at _ rfl))) one_six (by have hh := take6_len hpL; rw [cells6_len] at hh; unfold maxLen; omega) (by have hh := take6_len hpL; rw [cells6_len] at hh; omega) (by first | omega | (simp <;> omega)) ?_; intro v29 w29 hown29 hgr29 _; have O29 : KOwV (w.heap.size + 1) 37 v29 (L.take p ++ [(a, b, c, d, x, y)]) w29 := own_next6 hown29; have G29 : KOw g base cap 37 L w29 := KOw.kept (show KOw g base cap 37 L _ from by repeat (first | with_reducible assumption | with_reducible refine Km.drew ?_ | with_reducible refine Km.alloc ?_ _ | with_reducible refine Km.call ?_ (by with_reducible assumption) | with_reducible refine KOw.drew ?_ | with_reducible refine KOw.alloc ?_ _ | with_reducible refine KOw.call ?_ (by with_reducible assumption))) hgr29 (fun e => by have := (World.ownsRow.lt O26 _ e.symm).1; omega); have X29 : Km w.heap.size a b c d x y w29 := Km.grown (show Km w.heap.size a b c d x y _ from by repeat (first | with_reducible assumption | with_reducible refine Km.drew ?_ | with_reducible refine Km.alloc ?_ _ | with_reducible refine Km.call ?_ (by with_reducible assumption) | with_reducible refine KOw.drew ?_ | with_reducible refine KOw.alloc ?_ _ | with_reducible refine KOw.call ?_ (by with_reducible assumption))) hgr29 (fun e => by have := (World.ownsRow.lt O26 _ e.symm).1; omega); have B29 : Below w.heap.size w w29 := Below.grown (show Below w.heap.size w _ from by repeat (first | with_reducible assumption | with_reducible refine Below.drew ?_ | with_reducible refine Below.alloc ?_ (by first | omega | (simp <;> omega)) _ | with_reducible refine bstep ?_ (by with_reducible assumption))) hgr29 (by first | omega | (simp <;> omega)) (fun r hr => by have := (World.ownsRow.lt O26 _ hr).1; omega); have z29 : w.heap.size + 1 ≤ w29.heap.size := km_lt X29)
          | (rw [if_pos (by rfl)]; refine wp_append_own _ _ _ 48 rfl (w.heap.size + 1) 37 i0 (.agg #[.int .i64 0, .int .i64 0, .int .i64 0, .int .i64 0, .int .i64 0, .int .i64 0]) 6 48 Tryz.underlying48 hinf hz0 hz1 hz2 rfl (by decide) _ (L.take p ++ [(a, b, c, d, x, y)]).length (cells6 (L.take p ++ [(a, b, c, d, x, y)])) rfl (show KOwV (w.heap.size + 1) 37 v29 (L.take p ++ [(a, b, c, d, x, y)]) _ from by repeat (first | with_reducible assumption | with_reducible refine KOwV.drew ?_ | with_reducible refine KOwV.alloc ?_ _)) _ (L.length - p) _ (cells6 (L.drop p)) rfl (drop6_len hpL) (kow_drop (show KOw g base cap 37 L _ from by repeat (first | with_reducible assumption | with_reducible refine Km.drew ?_ | with_reducible refine Km.alloc ?_ _ | with_reducible refine Km.call ?_ (by with_reducible assumption) | with_reducible refine KOw.drew ?_ | with_reducible refine KOw.alloc ?_ _ | with_reducible refine KOw.call ?_ (by with_reducible assumption))) hpL) (cells6_one _) (by have hh := HLEN.out; unfold maxLen; omega) (by have hh := HLEN.out; omega) (by first | omega | (simp <;> omega)) ?_; intro v33 w33 hown33 hgr33 _; have O33 : KOwV (w.heap.size + 1) 37 v33 (L.take p ++ [(a, b, c, d, x, y)] ++ L.drop p) w33 := (by have h := hown33; unfold KOwV; rw [cells6_app (L.take p ++ [(a, b, c, d, x, y)]) (L.drop p), app_len (L.take p ++ [(a, b, c, d, x, y)]) (L.drop p), List.length_drop]; exact h); have X33 : Km w.heap.size a b c d x y w33 := Km.grown (show Km w.heap.size a b c d x y _ from by repeat (first | with_reducible assumption | with_reducible refine Km.drew ?_ | with_reducible refine Km.alloc ?_ _ | with_reducible refine Km.call ?_ (by with_reducible assumption) | with_reducible refine KOw.drew ?_ | with_reducible refine KOw.alloc ?_ _ | with_reducible refine KOw.call ?_ (by with_reducible assumption))) hgr33 (fun e => by have := (World.ownsRow.lt O29 _ e.symm).1; omega); have B33 : Below w.heap.size w w33 := Below.grown (show Below w.heap.size w _ from by repeat (first | with_reducible assumption | with_reducible refine Below.drew ?_ | with_reducible refine Below.alloc ?_ (by first | omega | (simp <;> omega)) _ | with_reducible refine bstep ?_ (by with_reducible assumption))) hgr33 (by first | omega | (simp <;> omega)) (fun r hr => by have := (World.ownsRow.lt O29 _ hr).1; omega)))
      all_goals
        rw [← HL.out] at O33
        obtain ⟨g9, cap9, rfl, K9⟩ := KOw.of O33 (by have := HPOS.out; omega)
        go_wp2
        go_ret
        exact ⟨g9, cap9, rfl, ownsRow_lower K9 (by have := HBS.out; omega), fun _ => by have := (KOw.lt K9).1; omega, B33⟩
end Go.Proofs.YtkfeajjpbmbmpaaGreatDoor
