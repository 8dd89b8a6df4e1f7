/-
  Several of my texts in one: Sl2, SlS, Ot7.
-/
import Derived.Test.YtkfdaepnjdnnmaaDoorGa
import Derived.Deep.RegionHeld3
import Derived.IntWalk
import Derived.Test.YtkfdaepnjdnnmaaDoorOa
import Derived.LoopTactic
import Derived.Test.YtkfdaepnjdnnmaaDoorOb
namespace Go.Proofs.YtkfdaepnjdnnmaaDoor
section
open Go.RowKit
set_option linter.unusedSimpArgs false
set_option linter.unusedVariables false

set_option maxHeartbeats 4000000 in
theorem eqVecS_any {lo hi lo' hi' n : Nat} {v v' : Value} {F : Nat → Int} {w : World} (h1 : SRow lo hi 2 v n F w) (h2 : SRow lo' hi' 2 v' n F w) :
    Calls Tryd.prog 61 #[v, v'] w fun e w' => e = .returned (.bool true) ∧ Below w.heap.size w w' := by
  obtain ⟨_, hm, h1⟩ := h1
  obtain ⟨_, _, h2⟩ := h2
  by_cases hn : n = 0
  · subst hn
    obtain ⟨ao, cap, rfl⟩ : ∃ ao cap, v = .slice ao 0 cap := by
      rcases h1 with ⟨_, ao, cap, rfl⟩ | ⟨g, cap, rfl, _⟩
      · exact ⟨ao, cap, rfl⟩
      · exact ⟨_, cap, rfl⟩
    obtain ⟨ao', cap', rfl⟩ : ∃ ao cap, v' = .slice ao 0 cap := by
      rcases h2 with ⟨_, ao, cap, rfl⟩ | ⟨g, cap, rfl, _⟩
      · exact ⟨ao, cap, rfl⟩
      · exact ⟨_, cap, rfl⟩
    clear h1 h2
    go_enter Tryd.func61, Tryd.ntmps61
    go_wp2_with fail
    go_loopw [5] (fun i W => i = .int .i64 ((0 : Nat) : Int) ∧ W = w) (fun _ _ => 0)
    case atStart => exact ⟨rfl, rfl⟩
    case round =>
      obtain ⟨rfl, rfl⟩ := hrel
      go_wp2
      go_ret
      exact ⟨rfl, Below.refl _ _⟩
  · obtain ⟨g, cap, rfl, _, _, r1⟩ := h1.resolve_left (fun h => hn h.1)
    obtain ⟨g', cap', rfl, _, _, r2⟩ := h2.resolve_left (fun h => hn h.1)
    clear h1 h2
    have HM := Lib.hid hm
    clear hm hn
    have R1 := Lib.hid r1
    have R2 := Lib.hid r2
    clear r1 r2
    go_enter Tryd.func61, Tryd.ntmps61
    go_wp2_with fail
    go_loopw [5] (fun i W => ∃ k : Nat, i = .int .i64 (k : Int) ∧ k ≤ n ∧ Below w.heap.size w W) (fun i _ => n - (intOf i).toNat)
    case atStart => exact ⟨0, rfl, by omega, Below.refl _ _⟩
    case round =>
      obtain ⟨k, rfl, hk, hB⟩ := hrel
      by_cases hk1 : k < n
      · have hk2 : (k : Int) < (n : Int) := by omega
        have r1 := R1.out.grow hB R1.out.1
        have r2 := R2.out.grow hB R2.out.1
        have q1 := r1.ko2 (k * 2) (by omega)
        have q2 := r2.ko2 (k * 2) (by omega)
        have hmx := HM.out
        generalize F (k * 2) = x at *
        generalize F (k * 2 + 1) = y at *
        clear r1 r2
        have he : eqB x y x y = true := by simp [eqB]
        have s1 := q1.cells
        have s2 := q2.cells
        go_wp2_with fail
        go_region_held3 (fun W => (W.cell? ⟨g, k * 2, none⟩ = some (.int .i64 x) ∧ W.cell? ⟨g, k * 2 + 1, none⟩ = some (.int .i64 y)) ∧ (W.cell? ⟨g', k * 2, none⟩ = some (.int .i64 x) ∧ W.cell? ⟨g', k * 2 + 1, none⟩ = some (.int .i64 y))) ((refine And.intro (Ko2.cells ?_) (Ko2.cells ?_)) <;> repeat (first | assumption | with_reducible refine Ko2.drew ?_ | with_reducible refine Ko2.call ?_ (by assumption)))
          (first | (go_at_call 23; refine (eqVec_any _ _ _ _ _ ).mono ?_; rintro e u1 ⟨rfl, hb1⟩; have q1u : Ko2 g (k * 2) x y u1 := (by repeat (first | assumption | with_reducible refine Ko2.drew ?_ | with_reducible refine Ko2.call ?_ (by assumption))); have q2u : Ko2 g' (k * 2) x y u1 := (by repeat (first | assumption | with_reducible refine Ko2.drew ?_ | with_reducible refine Ko2.call ?_ (by assumption))); have B1 : Below w.heap.size w u1 := (by repeat (first | assumption | with_reducible refine Below.drew ?_ | with_reducible refine bstep ?_ (by assumption)))))
        all_goals
          clear s1 s2
          go_wp2
          go_roundw
          case rel => exact ⟨k + 1, by go_num, by omega, B1⟩
          case measure => first | (simp [intOf]; done) | (simp [intOf]; omega)
      · obtain rfl : k = n := by omega
        go_wp2
        go_ret
        exact ⟨rfl, hB⟩

end
end Go.Proofs.YtkfdaepnjdnnmaaDoor

namespace Go.Proofs.YtkfdaepnjdnnmaaDoor
section
open Go.RowKit
set_option linter.unusedSimpArgs false
set_option linter.unusedVariables false

def markK (k0 : Nat) (t : Nat) : Int := (k0 : Int) + (t : Int)
/- the marks of the rows before -/
def sumL (len : Nat → Nat) : Nat → Nat
  | 0 => 0
  | k + 1 => sumL len k + len k
theorem sumL_le {len : Nat → Nat} {n : Nat} (h : ∀ k, k < n → len k ≤ 768) : ∀ k, k ≤ n → sumL len k ≤ k * 768
  | 0, _ => by simp [sumL]
  | k + 1, hk => by
    have h1 := sumL_le h k (by omega)
    have h2 := h k (by omega)
    simp only [sumL]
    omega
def markS (len : Nat → Nat) (k t : Nat) : Int := markK (sumL len k * 2 + 1) t
/- a row of rows -/
def RowsAt (g lo hi n : Nat) (len gs caps : Nat → Nat) (F : Nat → Nat → Int) (W : World) : Prop :=
  g < W.heap.size ∧ ∀ k, k < n → W.cell? ⟨g, k, none⟩ = some (.slice (some ⟨gs k, 0, none⟩) (len k) (caps k)) ∧ 0 < len k ∧ len k ≤ 768 ∧ lo ≤ gs k ∧ gs k < hi ∧ gs k ≠ g ∧ IRow (gs k) (len k * 2) (F k) W
theorem RowsAt.grow {g lo hi n B : Nat} {len gs caps : Nat → Nat} {F : Nat → Nat → Int} {W w1 : World} (h : RowsAt g lo hi n len gs caps F W) (hb : Below B W w1) (hg : g < B) (hh : hi ≤ B) : RowsAt g lo hi n len gs caps F w1 :=
  ⟨Nat.lt_of_lt_of_le h.1 hb.size, fun k hk => by
    obtain ⟨h1, h2, h3, h4, h5, h6, h7⟩ := h.2 k hk
    exact ⟨(hb.cell (p := ⟨g, k, none⟩) hg).trans h1, h2, h3, h4, h5, h6, h7.grow hb (by omega)⟩⟩
def VRow (lo hi : Nat) (v : Value) (n : Nat) (len : Nat → Nat) (F : Nat → Nat → Int) (W : World) : Prop :=
  hi ≤ W.heap.size ∧ n ≤ 64 ∧ ((n = 0 ∧ ∃ ao cap, v = .slice ao 0 cap) ∨ ∃ g cap gs caps, v = .slice (some ⟨g, 0, none⟩) n cap ∧ lo ≤ g ∧ g < hi ∧ RowsAt g lo hi n len gs caps F W)
def VRowD (lo hi : Nat) (v : Value) (n : Nat) (len : Nat → Nat) (F : Nat → Nat → Int) (W : World) : Prop :=
  hi ≤ W.heap.size ∧ n ≤ 64 ∧ ((n = 0 ∧ ∃ ao cap, v = .slice ao 0 cap) ∨ ∃ g cap gs caps, v = .slice (some ⟨g, 0, none⟩) n cap ∧ lo ≤ g ∧ g < hi ∧ RowsAt g lo hi n len gs caps F W ∧ ∀ i j, i < j → j < n → gs i ≠ gs j)
theorem VRowD.row {lo hi n : Nat} {v : Value} {len : Nat → Nat} {F : Nat → Nat → Int} {W : World} (h : VRowD lo hi v n len F W) : VRow lo hi v n len F W := by
  obtain ⟨h1, h2, h3⟩ := h
  refine ⟨h1, h2, ?_⟩
  rcases h3 with h3 | ⟨g, cap, gs, caps, e, k1, k2, k3, _⟩
  · exact .inl h3
  · exact .inr ⟨g, cap, gs, caps, e, k1, k2, k3⟩
theorem VRow.grow {lo hi n B : Nat} {v : Value} {len : Nat → Nat} {F : Nat → Nat → Int} {W w1 : World} (h : VRow lo hi v n len F W) (hb : Below B W w1) (hB : hi ≤ B) : VRow lo hi v n len F w1 := by
  obtain ⟨h1, h2, h3⟩ := h
  refine ⟨Nat.le_trans h1 hb.size, h2, ?_⟩
  rcases h3 with h3 | ⟨g, cap, gs, caps, e, k1, k2, k3⟩
  · exact .inl h3
  · exact .inr ⟨g, cap, gs, caps, e, k1, k2, k3.grow hb (by omega) hB⟩
theorem VRow.call {lo hi n : Nat} {v : Value} {len : Nat → Nat} {F : Nat → Nat → Int} {W w1 : World} (h : VRow lo hi v n len F W) (hb : Below W.heap.size W w1) : VRow lo hi v n len F w1 := h.grow hb h.1
theorem VRowD.grow {lo hi n B : Nat} {v : Value} {len : Nat → Nat} {F : Nat → Nat → Int} {W w1 : World} (h : VRowD lo hi v n len F W) (hb : Below B W w1) (hB : hi ≤ B) : VRowD lo hi v n len F w1 := by
  obtain ⟨h1, h2, h3⟩ := h
  refine ⟨Nat.le_trans h1 hb.size, h2, ?_⟩
  rcases h3 with h3 | ⟨g, cap, gs, caps, e, k1, k2, k3, k4⟩
  · exact .inl h3
  · exact .inr ⟨g, cap, gs, caps, e, k1, k2, k3.grow hb (by omega) hB, k4⟩
theorem VRowD.call {lo hi n : Nat} {v : Value} {len : Nat → Nat} {F : Nat → Nat → Int} {W w1 : World} (h : VRowD lo hi v n len F W) (hb : Below W.heap.size W w1) : VRowD lo hi v n len F w1 := h.grow hb h.1
theorem IRow.srow7 {g n cap : Nat} {F : Nat → Int} {W : World} (h : IRow g (n * 2) F W) (hn : n ≤ 2000000) : SRow g (g + 1) 2 (.slice (some ⟨g, 0, none⟩) n cap) n F W :=
  ⟨h.1, hn, .inr ⟨g, cap, rfl, Nat.le_refl _, Nat.lt_succ_self _, h⟩⟩
theorem IRow.two7 {r g N : Nat} {F : Nat → Int} {W w1 : World} (h : IRow g N F W) (hT : Two r r W w1) (h1 : g ≠ r) : IRow g N F w1 :=
  ⟨Nat.lt_of_lt_of_le h.1 hT.size, fun t ht => ⟨(hT.cell (r := ⟨g, t, none⟩) h.1 h1 h1).trans (h.at t ht), (hT.frozen (r := ⟨g, t, none⟩) h.1 h1 h1).trans (h.free t ht)⟩⟩
set_option maxHeartbeats 4000000 in
theorem markVecK_any {g n cap : Nat} {F : Nat → Int} {w : World} (k0 : Nat) (hk0 : k0 ≤ 1000000) (r1 : IRow g (n * 2) F w) (hm : n ≤ 2000000) :
    Calls Tryd.prog 62 #[.slice (some ⟨g, 0, none⟩) n cap, .int .i64 (k0 : Int)] w fun e w' => e = .returned (.int .i64 ((k0 : Int) + (n : Int) * 2)) ∧ IRow g (n * 2) (markK k0) w' ∧ Two g g w w' := by
    have hkz : (k0 : Int) ≤ 1000000 := by omega
    clear hk0
    have HM := Lib.hid hm
    clear hm
    have R1 := Lib.hid r1
    clear r1
    go_enter Tryd.func62, Tryd.ntmps62
    go_wp2_with fail
    go_loopw [1, 5] (fun q i W => ∃ k : Nat, q = .int .i64 ((k0 : Int) + (k : Int) * 2) ∧ i = .int .i64 (k : Int) ∧ k ≤ n ∧ IRow g (n * 2) (fun t => if t < k * 2 then markK k0 t else F t) W ∧ Two g g w W) (fun _ i _ => n - (intOf i).toNat)
    case atStart => exact ⟨0, by simp, rfl, by omega, R1.out.ext (fun t _ => by simp), Two.refl _ _ _⟩
    case round =>
      obtain ⟨k, rfl, rfl, hk, r1, hB⟩ := hrel
      by_cases hk1 : k < n
      · have hk2 : (k : Int) < (n : Int) := by omega
        have hmx := HM.out
        have hkx : (k : Int) ≤ 2000000 := by omega
        have c0 := r1.at (k * 2) (by omega)
        have f0 := r1.free (k * 2) (by omega)
        have c1 := r1.at (k * 2 + 1) (by omega)
        have f1 := r1.free (k * 2 + 1) (by omega)
        generalize (fun t => if t < k * 2 then markK k0 t else F t) (k * 2) = x at c0
        generalize (fun t => if t < k * 2 then markK k0 t else F t) (k * 2 + 1) = y at c1
        have RR := Lib.hid r1
        clear r1
        go_wp2
        go_roundw
        case rel =>
          refine ⟨k + 1, by go_num, by go_num, by omega, ((RR.out.put (k * 2) (by omega) _).put (k * 2 + 1) (by omega) _).ext ?_, ((hB.put (.inl rfl) _).put (.inl rfl) _)⟩
          intro t ht
          simp only [markK]
          repeat' split
          all_goals first | omega | rfl
        case measure => first | (simp [intOf]; done) | (simp [intOf]; omega)
      · obtain rfl : k = n := by omega
        go_wp2
        go_ret
        exact ⟨rfl, r1.ext (fun t ht => by simp [ht]), hB⟩

set_option maxHeartbeats 4000000 in
theorem heldVecK_any {g n cap : Nat} {w : World} (k0 : Nat) (hk0 : k0 ≤ 1000000) (r1 : IRow g (n * 2) (markK k0) w) (hm : n ≤ 2000000) :
    Calls Tryd.prog 63 #[.slice (some ⟨g, 0, none⟩) n cap, .int .i64 (k0 : Int)] w fun e w' => e = .returned (.int .i64 ((k0 : Int) + (n : Int) * 2)) ∧ Below w.heap.size w w' := by
    have hkz : (k0 : Int) ≤ 1000000 := by omega
    clear hk0
    have HM := Lib.hid hm
    clear hm
    have R1 := Lib.hid r1
    clear r1
    go_enter Tryd.func63, Tryd.ntmps63
    go_wp2_with fail
    go_loopw [1, 5] (fun q i W => ∃ k : Nat, q = .int .i64 ((k0 : Int) + (k : Int) * 2) ∧ i = .int .i64 (k : Int) ∧ k ≤ n ∧ Below w.heap.size w W) (fun _ i _ => n - (intOf i).toNat)
    case atStart => exact ⟨0, by simp, rfl, by omega, Below.refl _ _⟩
    case round =>
      obtain ⟨k, rfl, rfl, hk, hB⟩ := hrel
      by_cases hk1 : k < n
      · have hk2 : (k : Int) < (n : Int) := by omega
        have hmx := HM.out
        have hkx : (k : Int) ≤ 2000000 := by omega
        have r1 := R1.out.grow hB R1.out.1
        have c0 : wr.cell? ⟨g, k * 2, none⟩ = some (.int .i64 ((k0 : Int) + (k : Int) * 2)) := by rw [r1.at (k * 2) (by omega), show markK k0 (k * 2) = (k0 : Int) + (k : Int) * 2 by unfold markK; omega]
        have c1 : wr.cell? ⟨g, k * 2 + 1, none⟩ = some (.int .i64 ((k0 : Int) + (k : Int) * 2 + 1)) := by rw [r1.at (k * 2 + 1) (by omega), show markK k0 (k * 2 + 1) = (k0 : Int) + (k : Int) * 2 + 1 by unfold markK; omega]
        clear r1
        go_wp2
        go_roundw
        case rel => exact ⟨k + 1, by go_num, by go_num, by omega, hB⟩
        case measure => first | (simp [intOf]; done) | (simp [intOf]; omega)
      · obtain rfl : k = n := by omega
        go_wp2
        go_ret
        exact ⟨rfl, hB⟩

def K8 (g k : Nat) (v : Value) (W : World) : Prop := g < W.heap.size ∧ W.cell? ⟨g, k, none⟩ = some v
theorem K8.cells {g k : Nat} {v : Value} {W : World} (h : K8 g k v W) : W.cell? ⟨g, k, none⟩ = some v := h.2
theorem K8.call {g k : Nat} {v : Value} {W w1 : World} (h : K8 g k v W) (hb : Below W.heap.size W w1) : K8 g k v w1 := ⟨Nat.lt_of_lt_of_le h.1 hb.size, (hb.cell (p := ⟨g, k, none⟩) h.1).trans h.2⟩
theorem K8.drew {g k : Nat} {v : Value} {W : World} (h : K8 g k v W) : K8 g k v W.drew := h.call (Below.refl _ _).drew
set_option maxHeartbeats 4000000 in
theorem eqVecSS_any {lo hi lo' hi' n : Nat} {v v' : Value} {len : Nat → Nat} {F : Nat → Nat → Int} {w : World} (h1 : VRow lo hi v n len F w) (h2 : VRow lo' hi' v' n len F w) :
    Calls Tryd.prog 31 #[v, v'] w fun e w' => e = .returned (.bool true) ∧ Below w.heap.size w w' := by
  obtain ⟨hs1, hm, h1⟩ := h1
  obtain ⟨hs2, _, h2⟩ := h2
  by_cases hn : n = 0
  · subst hn
    obtain ⟨ao, cap, rfl⟩ : ∃ ao cap, v = .slice ao 0 cap := by
      rcases h1 with ⟨_, ao, cap, rfl⟩ | ⟨g, cap, _, _, rfl, _⟩
      · exact ⟨ao, cap, rfl⟩
      · exact ⟨_, cap, rfl⟩
    obtain ⟨ao', cap', rfl⟩ : ∃ ao cap, v' = .slice ao 0 cap := by
      rcases h2 with ⟨_, ao, cap, rfl⟩ | ⟨g, cap, _, _, rfl, _⟩
      · exact ⟨ao, cap, rfl⟩
      · exact ⟨_, cap, rfl⟩
    clear h1 h2
    go_enter Tryd.func31, Tryd.ntmps31
    go_wp2_with fail
    go_loopw [5] (fun i W => i = .int .i64 ((0 : Nat) : Int) ∧ W = w) (fun _ _ => 0)
    case atStart => exact ⟨rfl, rfl⟩
    case round =>
      obtain ⟨rfl, rfl⟩ := hrel
      go_wp2
      go_ret
      exact ⟨rfl, Below.refl _ _⟩
  · obtain ⟨g, cap, gs, caps, rfl, _, hg1, r1⟩ := h1.resolve_left (fun h => hn h.1)
    obtain ⟨g', cap', gs', caps', rfl, _, hg2, r2⟩ := h2.resolve_left (fun h => hn h.1)
    clear h1 h2
    have HM := Lib.hid hm
    have HS := Lib.hid (And.intro hs1 hs2)
    clear hm hn hs1 hs2 hg1 hg2
    have R1 := Lib.hid r1
    have R2 := Lib.hid r2
    clear r1 r2
    go_enter Tryd.func31, Tryd.ntmps31
    go_wp2_with fail
    go_loopw [5] (fun i W => ∃ k : Nat, i = .int .i64 (k : Int) ∧ k ≤ n ∧ Below w.heap.size w W) (fun i _ => n - (intOf i).toNat)
    case atStart => exact ⟨0, rfl, by omega, Below.refl _ _⟩
    case round =>
      obtain ⟨k, rfl, hk, hB⟩ := hrel
      by_cases hk1 : k < n
      · have hk2 : (k : Int) < (n : Int) := by omega
        have r1 := R1.out.grow hB R1.out.1 HS.out.1
        have r2 := R2.out.grow hB R2.out.1 HS.out.2
        obtain ⟨c1, _, l1, _, _, _, i1⟩ := r1.2 k hk1
        obtain ⟨c2, _, _, _, _, _, i2⟩ := r2.2 k hk1
        have hmx := HM.out
        have s1 : K8 g k _ wr := ⟨r1.1, c1⟩
        have s2 : K8 g' k _ wr := ⟨r2.1, c2⟩
        have gl1 := r1.1
        have gl2 := r2.1
        have HK := Lib.hid hk1
        have CE : Hid (∀ W, Below wr.heap.size wr W → Calls Tryd.prog 61 #[.slice (some ⟨gs k, 0, none⟩) (len k) (caps k), .slice (some ⟨gs' k, 0, none⟩) (len k) (caps' k)] W fun e w' => e = .returned (.bool true) ∧ Below W.heap.size W w') := Lib.hid (fun W hW => eqVecS_any ((i1.grow hW i1.1).srow7 (by omega)) ((i2.grow hW i2.1).srow7 (by omega)))
        clear i1 i2 r1 r2 hk1 hk
        generalize gs k = a1 at *
        generalize gs' k = a2 at *
        generalize caps k = p1 at *
        generalize caps' k = p2 at *
        generalize len k = m at *
        go_wp2_with fail
        go_region_held3 (fun W => W.cell? ⟨g, k, none⟩ = some (.slice (some ⟨a1, 0, none⟩) m p1) ∧ W.cell? ⟨g', k, none⟩ = some (.slice (some ⟨a2, 0, none⟩) m p2)) ((refine And.intro (K8.cells ?_) (K8.cells ?_)) <;> exact (by repeat (first | with_reducible assumption | with_reducible refine K8.drew ?_ | with_reducible refine K8.call ?_ (by with_reducible assumption))))
          (first | (go_at_call 61; with_reducible refine (CE.out _ (by repeat (first | with_reducible exact Below.refl _ _ | with_reducible refine Below.drew ?_))).mono ?_; rintro e u1 ⟨rfl, hb1⟩; have t1 : K8 g k (.slice (some ⟨a1, 0, none⟩) m p1) u1 := (by repeat (first | with_reducible assumption | with_reducible refine K8.drew ?_ | with_reducible refine K8.call ?_ (by with_reducible assumption))); have t2 : K8 g' k (.slice (some ⟨a2, 0, none⟩) m p2) u1 := (by repeat (first | with_reducible assumption | with_reducible refine K8.drew ?_ | with_reducible refine K8.call ?_ (by with_reducible assumption))); have B1 : Below w.heap.size w u1 := (by repeat (first | with_reducible assumption | with_reducible refine Below.drew ?_ | with_reducible refine bstep ?_ (by with_reducible assumption)))))
        all_goals
          clear c1 c2 s1 s2 t1 t2 hB
          go_wp2
          go_roundw
          case rel => exact ⟨k + 1, by go_num, by have := HK.out; omega, B1⟩
          case measure => have := HK.out; first | (simp [intOf]; done) | (simp [intOf]; omega)
      · obtain rfl : k = n := by omega
        go_wp2
        go_ret
        exact ⟨rfl, hB⟩

set_option maxHeartbeats 4000000 in
theorem markVecSS_any {lo hi n : Nat} {v : Value} {len : Nat → Nat} {F : Nat → Nat → Int} {w : World} (h : VRowD lo hi v n len F w) :
    Calls Tryd.prog 32 #[v, .int .i64 1] w fun e w' => e = .returned (.int .i64 ((sumL len n * 2 + 1 : Nat) : Int)) ∧ VRow lo hi v n len (markS len) w' ∧ Below lo w w' := by
  obtain ⟨hs, hm, h1⟩ := h
  by_cases hn : n = 0
  · subst hn
    obtain ⟨ao, cap, rfl⟩ : ∃ ao cap, v = .slice ao 0 cap := by
      rcases h1 with ⟨_, ao, cap, rfl⟩ | ⟨g, cap, _, _, rfl, _⟩
      · exact ⟨ao, cap, rfl⟩
      · exact ⟨_, cap, rfl⟩
    clear h1
    go_enter Tryd.func32, Tryd.ntmps32
    go_wp2_with fail
    go_loopw [1, 5] (fun q i W => q = .int .i64 1 ∧ i = .int .i64 ((0 : Nat) : Int) ∧ W = w) (fun _ _ _ => 0)
    case atStart => exact ⟨rfl, rfl, rfl⟩
    case round =>
      obtain ⟨rfl, rfl, rfl⟩ := hrel
      go_wp2
      go_ret
      exact ⟨rfl, ⟨hs, hm, .inl ⟨rfl, ao, cap, rfl⟩⟩, Below.refl _ _⟩
  · obtain ⟨g, cap, gs, caps, rfl, hlo, hhi, r1, hD⟩ := h1.resolve_left (fun h => hn h.1)
    clear h1
    have HM := Lib.hid hm
    have HS := Lib.hid (show hi ≤ w.heap.size ∧ lo ≤ g ∧ g < hi from ⟨hs, hlo, hhi⟩)
    have HSL := Lib.hid (sumL_le (len := len) (n := n) (fun k hk => (r1.2 k hk).2.2.1))
    have HD := Lib.hid hD
    clear hm hn hs hlo hhi hD
    have R1 := Lib.hid r1
    clear r1
    go_enter Tryd.func32, Tryd.ntmps32
    go_wp2_with fail
    go_loopw [1, 5] (fun q i W => ∃ k : Nat, q = .int .i64 ((sumL len k * 2 + 1 : Nat) : Int) ∧ i = .int .i64 (k : Int) ∧ k ≤ n ∧ RowsAt g lo hi n len gs caps (fun j => if j < k then markS len j else F j) W ∧ Below lo w W) (fun _ i _ => n - (intOf i).toNat)
    case atStart => exact ⟨0, rfl, rfl, by omega, by simpa using R1.out, Below.refl _ _⟩
    case round =>
      obtain ⟨k, rfl, rfl, hk, hR, hB⟩ := hrel
      by_cases hk1 : k < n
      · have hk2 : (k : Int) < (n : Int) := by omega
        have hmx := HM.out
        have hsl : sumL len k ≤ 64 * 768 := Nat.le_trans (HSL.out k hk) (Nat.mul_le_mul_right _ (by omega))
        have HK := Lib.hid hk1
        have HNX := Lib.hid (show sumL len (k + 1) = sumL len k + len k from rfl)
        obtain ⟨c1, hp1, l1, hl1, hh1, hn1, i1⟩ := hR.2 k hk1
        have gl1 := hR.1
        have HR := Lib.hid hR
        dsimp only at i1
        rw [if_neg (by omega)] at i1
        clear hR hk
        generalize hs9 : sumL len k = s at *
        have HSK := Lib.hid hs9
        clear hs9
        have hsz : (s : Int) ≤ 49152 := by omega
        go_wp2_with fail
        refine (markVecK_any (s * 2 + 1) (by omega) i1 (by omega)).mono ?_
        rintro e w2 ⟨rfl, i2, T2⟩
        have hls := T2.size
        have HR2 := Lib.hid (show RowsAt g lo hi n len gs caps (fun j => if j < k + 1 then markS len j else F j) w2 from ⟨Nat.lt_of_lt_of_le gl1 hls, fun j hj => by
          obtain ⟨d1, d2, d3, d4, d5, d6, d7⟩ := HR.out.2 j hj
          dsimp only at d7
          refine ⟨(T2.cell (r := ⟨g, j, none⟩) gl1 (fun e => hn1 e.symm) (fun e => hn1 e.symm)).trans d1, d2, d3, d4, d5, d6, ?_⟩
          dsimp only
          by_cases e : j = k
          · subst e
            rw [if_pos (by omega)]
            exact i2.ext (fun t _ => by unfold markS; rw [HSK.out])
          · have hne : gs j ≠ gs k := by
              rcases Nat.lt_or_gt_of_ne e with e | e
              · exact HD.out j k e HK.out
              · exact fun e2 => HD.out k j e hj e2.symm
            have d8 := d7.two7 T2 hne
            by_cases e2 : j < k
            · rw [if_pos e2] at d8
              rw [if_pos (by omega)]
              exact d8
            · rw [if_neg e2] at d8
              rw [if_neg (by omega)]
              exact d8⟩)
        have hB2 : Below lo w w2 := T2.below hB (by have := HS.out; omega) hl1 hl1
        clear i1 i2 T2 c1 HR
        go_wp2
        go_roundw
        case rel => exact ⟨k + 1, by rw [HNX.out]; simp only [Value.int.injEq, true_and]; omega, by go_num, by have := HK.out; omega, HR2.out, hB2⟩
        case measure => have := HK.out; first | (simp [intOf]; done) | (simp [intOf]; omega)
      · obtain rfl : k = n := by omega
        go_wp2
        go_ret
        exact ⟨rfl, ⟨Nat.le_trans HS.out.1 hB.size, HM.out, .inr ⟨g, cap, gs, caps, rfl, HS.out.2.1, HS.out.2.2, hR.1, fun j hj => by have := hR.2 j hj; dsimp only at this; rwa [if_pos hj] at this⟩⟩, hB⟩

set_option maxHeartbeats 4000000 in
theorem heldVecSS_any {lo hi n : Nat} {v : Value} {len : Nat → Nat} {w : World} (h : VRow lo hi v n len (markS len) w) :
    Calls Tryd.prog 33 #[v, .int .i64 1] w fun e w' => e = .returned (.int .i64 ((sumL len n * 2 + 1 : Nat) : Int)) ∧ Below w.heap.size w w' := by
  obtain ⟨hs, hm, h1⟩ := h
  by_cases hn : n = 0
  · subst hn
    obtain ⟨ao, cap, rfl⟩ : ∃ ao cap, v = .slice ao 0 cap := by
      rcases h1 with ⟨_, ao, cap, rfl⟩ | ⟨g, cap, _, _, rfl, _⟩
      · exact ⟨ao, cap, rfl⟩
      · exact ⟨_, cap, rfl⟩
    clear h1
    go_enter Tryd.func33, Tryd.ntmps33
    go_wp2_with fail
    go_loopw [1, 5] (fun q i W => q = .int .i64 1 ∧ i = .int .i64 ((0 : Nat) : Int) ∧ W = w) (fun _ _ _ => 0)
    case atStart => exact ⟨rfl, rfl, rfl⟩
    case round =>
      obtain ⟨rfl, rfl, rfl⟩ := hrel
      go_wp2
      go_ret
      exact ⟨rfl, Below.refl _ _⟩
  · obtain ⟨g, cap, gs, caps, rfl, hlo, hhi, r1⟩ := h1.resolve_left (fun h => hn h.1)
    clear h1
    have HM := Lib.hid hm
    have HS := Lib.hid (show hi ≤ w.heap.size ∧ lo ≤ g ∧ g < hi from ⟨hs, hlo, hhi⟩)
    have HSL := Lib.hid (sumL_le (len := len) (n := n) (fun k hk => (r1.2 k hk).2.2.1))
    clear hm hn hs hlo hhi
    have R1 := Lib.hid r1
    clear r1
    go_enter Tryd.func33, Tryd.ntmps33
    go_wp2_with fail
    go_loopw [1, 5] (fun q i W => ∃ k : Nat, q = .int .i64 ((sumL len k * 2 + 1 : Nat) : Int) ∧ i = .int .i64 (k : Int) ∧ k ≤ n ∧ Below w.heap.size w W) (fun _ i _ => n - (intOf i).toNat)
    case atStart => exact ⟨0, rfl, rfl, by omega, Below.refl _ _⟩
    case round =>
      obtain ⟨k, rfl, rfl, hk, hB⟩ := hrel
      by_cases hk1 : k < n
      · have hk2 : (k : Int) < (n : Int) := by omega
        have hmx := HM.out
        have hsl : sumL len k ≤ 64 * 768 := Nat.le_trans (HSL.out k hk) (Nat.mul_le_mul_right _ (by omega))
        have HK := Lib.hid hk1
        have HNX := Lib.hid (show sumL len (k + 1) = sumL len k + len k from rfl)
        have r1 := R1.out.grow hB R1.out.1 HS.out.1
        obtain ⟨c1, hp1, l1, _, _, _, i1⟩ := r1.2 k hk1
        have gl1 := r1.1
        unfold markS at i1
        clear r1 hk
        generalize hs9 : sumL len k = s at *
        have HSK := Lib.hid hs9
        clear hs9
        have hsz : (s : Int) ≤ 49152 := by omega
        go_wp2_with fail
        refine (heldVecK_any (s * 2 + 1) (by omega) i1 (by omega)).mono ?_
        rintro e w2 ⟨rfl, hb2⟩
        have hB2 := bstep hB hb2
        clear i1 c1 hb2
        go_wp2
        go_roundw
        case rel => exact ⟨k + 1, by rw [HNX.out]; simp only [Value.int.injEq, true_and]; omega, by go_num, by have := HK.out; omega, hB2⟩
        case measure => have := HK.out; first | (simp [intOf]; done) | (simp [intOf]; omega)
      · obtain rfl : k = n := by omega
        go_wp2
        go_ret
        exact ⟨rfl, hB⟩
end
end Go.Proofs.YtkfdaepnjdnnmaaDoor

namespace Go.Proofs.YtkfdaepnjdnnmaaDoor
section
open Go.RowKit
set_option linter.unusedSimpArgs false
set_option linter.unusedVariables false

/- the answer of both sides: how many orbits, how long, which cells -/
def osL (A B C : Int) (G : List M6) (k : Nat) : List V2 := orbL A B C G ((orbF A.toNat C.toNat B G).getD k (0, 0))
def osLen (A B C : Int) (G : List M6) (k : Nat) : Nat := (osL A B C G k).length
def osF (A B C : Int) (G : List M6) (k : Nat) : Nat → Int := intAt (cells2 (osL A B C G k))
theorem osL_at {p q : Nat} {B : Int} {G : List M6} {k : Nat} (hk : k < (orbF p q B G).length) : osL (p : Int) B (q : Int) G k = orbL (p : Int) B (q : Int) G (orbF p q B G)[k] := by
  unfold osL
  rw [List.getD_eq_getElem?_getD]
  show orbL (p : Int) B (q : Int) G ((orbF p q B G)[k]?.getD (0, 0)) = _
  rw [List.getElem?_eq_getElem hk]
  rfl
theorem orbF_64 {f : Int} {p q : Nat} {B : Int} {G : List M6} (hG : grpB f (p : Int) B (q : Int) G = true) : (orbF p q B G).length ≤ 64 := by
  have hpq : p * q ≤ 64 := by have := latI_prod (grp_good hG).1; exact_mod_cast this
  have h1 := fstL_len (p : Int) B (q : Int) G (cellP q p)
  have h2 : (cellP q p).length ≤ 64 := by rw [cellP_len]; exact hpq
  have h3 : (orbF p q B G).length = (fstL (p : Int) B (q : Int) G (cellP q p)).length := rfl
  omega
theorem VRow.nil (lo : Nat) (len : Nat → Nat) (F : Nat → Nat → Int) (W : World) : VRow lo W.heap.size (.slice none 0 0) 0 len F W := ⟨Nat.le_refl _, by omega, .inl ⟨rfl, none, 0, rfl⟩⟩
theorem VRowD.nil (lo : Nat) (len : Nat → Nat) (F : Nat → Nat → Int) (W : World) : VRowD lo W.heap.size (.slice none 0 0) 0 len F W := ⟨Nat.le_refl _, by omega, .inl ⟨rfl, none, 0, rfl⟩⟩
theorem vrow_of {f : Int} {p q : Nat} {B : Int} {G : List M6} {g cap lo : Nat} {vs : List Value} {W : World} (hG : grpB f (p : Int) B (q : Int) G = true) (hK : KOs g lo cap 87 vs W) (hV : OrbV (p : Int) B (q : Int) G lo (orbF p q B G) vs W) :
    VRow lo W.heap.size (.slice (some ⟨g, 0, none⟩) vs.length cap) (orbF p q B G).length (osLen (p : Int) B (q : Int) G) (osF (p : Int) B (q : Int) G) W := by
  obtain ⟨h1, h2⟩ := hV
  have hex : ∀ k, ∃ r : Nat × Nat, ∀ (h : k < (orbF p q B G).length), vs[k]? = some (.slice (some ⟨r.1, 0, none⟩) (orbL (p : Int) B (q : Int) G (orbF p q B G)[k]).length r.2) ∧ KO2 r.1 lo r.2 49 (orbL (p : Int) B (q : Int) G (orbF p q B G)[k]) W := fun k => by
    by_cases h : k < (orbF p q B G).length
    · obtain ⟨a, b, e1, e2⟩ := h2 k h
      exact ⟨(a, b), fun _ => ⟨e1, e2⟩⟩
    · exact ⟨(0, 0), fun h' => absurd h' h⟩
  obtain ⟨r, hr⟩ := Classical.skolem.1 hex
  refine ⟨Nat.le_refl _, orbF_64 hG, .inr ⟨g, cap, fun k => (r k).1, fun k => (r k).2, by rw [h1], hK.lt.1, hK.lt.2, hK.lt.2, fun k hk => ?_⟩⟩
  obtain ⟨e1, e2⟩ := hr k hk
  have hl : osL (p : Int) B (q : Int) G k = orbL (p : Int) B (q : Int) G (orbF p q B G)[k] := osL_at hk
  have h768 : (orbL (p : Int) B (q : Int) G (orbF p q B G)[k]).length ≤ 768 := Nat.le_trans (orbL_len _ _ _ _ _) (grp_len hG)
  have hpos := orbL_pos hG (orbF_cel hG hk)
  unfold osLen osF
  rw [hl]
  refine ⟨?_, hpos, h768, e2.lt.1, e2.lt.2, own_ne7 e2 hK (by decide), ?_⟩
  · exact ((show W.ownsRow lo 87 1 (.slice (some ⟨g, 0, none⟩) vs.length cap) vs.length vs from hK).cellAt k (by omega)).trans e1
  · have hs := SRow.of (show W.ownsRow lo 49 2 (.slice (some ⟨(r k).1, 0, none⟩) (orbL (p : Int) B (q : Int) G (orbF p q B G)[k]).length (r k).2) (orbL (p : Int) B (q : Int) G (orbF p q B G)[k]).length (cells2 (orbL (p : Int) B (q : Int) G (orbF p q B G)[k])) from e2) (cells2_int _) (by omega)
    obtain ⟨g', cap', e, _, _, q9⟩ := hs.2.2.resolve_left (fun h => by omega)
    simp only [Value.slice.injEq, Option.some.injEq, Addr.mk.injEq, and_true, true_and] at e
    obtain ⟨e3, _⟩ := e
    rw [← e3] at q9
    exact q9
theorem VRow.lower {lo lo' hi n : Nat} {v : Value} {len : Nat → Nat} {F : Nat → Nat → Int} {W : World} (h : VRow lo hi v n len F W) (hl : lo' ≤ lo) : VRow lo' hi v n len F W := by
  obtain ⟨h1, h2, h3⟩ := h
  refine ⟨h1, h2, ?_⟩
  rcases h3 with h3 | ⟨g, cap, gs, caps, e, k1, k2, k3⟩
  · exact .inl h3
  · exact .inr ⟨g, cap, gs, caps, e, Nat.le_trans hl k1, k2, k3.1, fun k hk => by
      obtain ⟨a1, a2, a3, a4, a5⟩ := k3.2 k hk
      exact ⟨a1, a2, a3, Nat.le_trans hl a4, a5⟩⟩
end
end Go.Proofs.YtkfdaepnjdnnmaaDoor

