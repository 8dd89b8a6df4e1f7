/-
 Several of my texts in one: Mat2, Mat3, Mat4, CmpQ, Mat5q, Ord.
-/
import Derived.Test.YtjjfomokecngoaaGreatDoorGc
import Derived.Deep.DeepCutAuto
import Derived.IntWalk
import Derived.Test.YtjjfomokecngoaaGreatDoorGa
import Derived.LoopTactic
import Derived.Deep.RegionHeld3
import Derived.RegionTactic
namespace Go.Proofs.YtjjfomokecngoaaGreatDoor
section
open Go.RowKit
set_option linter.unusedSimpArgs false
set_option linter.unusedVariables false

theorem pkGd0 {P : Prop} (h : P := by repeat (first | exact Below.refl _ _ | refine Below.setCell ?_ (by first | omega | (simp <;> omega)) _ | refine Below.alloc ?_ (by first | omega | (simp <;> omega)) _ | refine bstep ?_ (by assumption) | refine Below.drew ?_)) : P := h
theorem pkGd2 {P : Prop} (h : P := by repeat (first | assumption | with_reducible refine Kg.drew ?_ | ((with_reducible refine Kg.far ?_ ?_); (dsimp only; omega)))) : P := h
theorem pkGd3 {P : Prop} (h : P := by repeat (first | assumption | with_reducible refine Kq.drew ?_ | with_reducible refine Kq.call ?_ (by assumption))) : P := h
theorem pkGd4 {P : Prop} (h : P := by repeat (first | exact Below.refl _ _ | refine Below.alloc ?_ (by first | omega | (simp <;> omega)) _)) : P := h
/- between the two images and the product -/
end
end Go.Proofs.YtjjfomokecngoaaGreatDoor

namespace Go.Proofs.YtjjfomokecngoaaGreatDoor
section
open Go.RowKit
set_option linter.unusedSimpArgs false
set_option linter.unusedVariables false

end
end Go.Proofs.YtjjfomokecngoaaGreatDoor

namespace Go.Proofs.YtjjfomokecngoaaGreatDoor
section
open Go.RowKit
set_option linter.unusedSimpArgs false
set_option linter.unusedVariables false

theorem Kg.far {g : Nat} {a b : Int} {W : World} {p : Addr} {u : Value} (hp : p.block ≠ g) (h : Kg g a b W) : Kg g a b (W.setCell p u) := by
 obtain ⟨h0, h1, h2⟩ := h
 have e : (W.setCell p u).heap[g]? = W.heap[g]? := Below.heap_setCell _ _ _ _ (by omega)
 exact ⟨by simpa [World.setCell] using h0, by rw [World.cell?_of_block (w := W) e]; exact h1, by rw [World.cell?_of_block (w := W) e]; exact h2⟩
theorem Kq.far {g : Nat} {a b c d : Int} {W : World} {p : Addr} {u : Value} (hp : p.block ≠ g) (h : Kq g a b c d W) : Kq g a b c d (W.setCell p u) := by
 obtain ⟨h0, h1, h2, h3, h4⟩ := h
 have e : (W.setCell p u).heap[g]? = W.heap[g]? := Below.heap_setCell _ _ _ _ (by omega)
 exact ⟨by simpa [World.setCell] using h0, by rw [World.cell?_of_block (w := W) e]; exact h1, by rw [World.cell?_of_block (w := W) e]; exact h2, by rw [World.cell?_of_block (w := W) e]; exact h3, by rw [World.cell?_of_block (w := W) e]; exact h4⟩

theorem KR.store {R : Nat} {a b c d : Int} {W : World} (h : KR R a b c d W) (a' b' c' d' : Int) :
  KR R a' b' c' d' ((((W.setCell ⟨R, 0, none⟩ (.int .i64 a')).setCell ⟨R, 1, none⟩ (.int .i64 b')).setCell ⟨R, 2, none⟩ (.int .i64 c')).setCell ⟨R, 3, none⟩ (.int .i64 d')) := by
 obtain ⟨h0, h1, h2, h3, h4, h5, h6, h7, h8⟩ := h
 refine ⟨by simpa [World.setCell] using h0, ?_, ?_, ?_, ?_, ?_, ?_, ?_, ?_⟩ <;> simp [go_sem, *]

def OrdRel (w : World) (g : Nat) (a b c d : Int) (i : Value) (W : World) : Prop :=
 ∃ (k : Nat) (p q r s : Int), i = .int .i64 ((k : Int) + 1) ∧ k ≤ 6 ∧ Kq w.heap.size a b c d W ∧ KR g p q r s W ∧ limB p q r s = true ∧ pw a b c d k = (p, q, r, s) ∧ ordI a b c d = ordGo a b c d (k + 1) (6 - k) ∧ Below w.heap.size w W

set_option maxHeartbeats 4000000 in
theorem l02Order_any (a b c d : Int) (w : World) (h : limB a b c d = true) :
  Calls Tryz.prog 117 #[.agg #[.int .i64 a, .int .i64 b, .int .i64 c, .int .i64 d]] w fun e w' => e = .returned (.int .i64 (ordI a b c d)) ∧ Below w.heap.size w w' := by
 go_enter Tryz.func117, Tryz.ntmps117
 go_wp2_with fail
 refine (l02Unit_any _).mono ?_
 rintro e w1 ⟨rfl, hb1⟩
 have M1 : Kq w.heap.size a b c d w1 := Kq.call (Kq.at _ rfl) hb1
 have B1 : Below w.heap.size w w1 := bstep (Below.alloc (Below.refl _ _) (Nat.le_refl _) _) hb1
 clear hb1
 go_wp2_with fail
 go_loopw [4] (fun i W => OrdRel w w1.heap.size a b c d i W) (fun i _ => (7 - intOf i).toNat)
 case atStart =>
  exact ⟨0, 1, 0, 0, 1, rfl, by omega, M1.alloc _, KR.at _ rfl, by decide, rfl, rfl, B1.alloc B1.size _⟩
 case round =>
  have hg : w.heap.size < w1.heap.size := M1.1
  clear M1 B1
  obtain ⟨k, p, q, r, s, rfl, hk, M, R, hp, hpw, hord, hB⟩ := hrel
  have HPW := Lib.hid hpw
  have HO := Lib.hid hord
  clear hpw hord
  by_cases hk6 : k = 6
  ·subst hk6
   have ea : ordI a b c d = 0 := by rw [HO.out]; rfl
   have EA := Lib.hid ea
   clear ea
   go_wp2
   go_ret
   exact ⟨ret_int EA.out.symm, hB⟩
  ·have hk7 : (k : Int) + 1 ≤ 6 := by omega
   obtain ⟨m0, m1, m2, m3⟩ := M.cells
   obtain ⟨r0, r1, r2, r3, r4, r5, r6, r7, r8⟩ := id R
   go_wp2_with fail
   refine (l02Multiply_any _ _ _ _ _ _ _ _ _ h hp).mono ?_
   rintro e w2 ⟨rfl, hb2⟩
   have HN := Lib.hid (show pw a b c d (k + 1) = (a * p + b * r, a * q + b * s, c * p + d * r, c * q + d * s) by show mulP a b c d (pw a b c d k) = _; rw [HPW.out]; rfl)
   clear HPW m0 m1 m2 m3 r0 r1 r2 r3 r4 r5 r6 r7 r8
   generalize a * p + b * r = p' at *
   generalize a * q + b * s = q' at *
   generalize c * p + d * r = r' at *
   generalize c * q + d * s = s' at *
   have M2 := M.call hb2
   have R2 := R.call hb2
   have B2 := bstep hB hb2
   clear M R hb2 hB
   obtain ⟨r0, r1, r2, r3, r4, r5, r6, r7, r8⟩ := id R2
   have hstep : ordGo a b c d (k + 1) (6 - k) = bif limB p' q' r' s' then (bif unitB p' q' r' s' then ((k + 1 : Nat) : Int) else ordGo a b c d (k + 1 + 1) (6 - (k + 1))) else 0 := by
    rw [show 6 - k = (6 - (k + 1)) + 1 by omega]
    show (bif limP (pw a b c d (k + 1)) then (bif unitP (pw a b c d (k + 1)) then _ else _) else _) = _
    rw [HN.out]
    rfl
   have HS := Lib.hid (HO.out.trans hstep)
   clear hstep HO
   go_wp2_with fail
   refine (l02Small_any _ _ _ _ _).mono ?_
   rintro e w3 ⟨rfl, hb3⟩
   have M3 : Kq w.heap.size a b c d w3 := Kq.call (Kq.put hg (Kq.put hg (Kq.put hg (Kq.put hg M2)))) hb3
   have R3 : KR w1.heap.size p' q' r' s' w3 := KR.call (KR.store R2 p' q' r' s') hb3
   have hs1 : w.heap.size ≤ w1.heap.size := Nat.le_of_lt hg
   have B3 : Below w.heap.size w w3 := bstep (Below.setCell (Below.setCell (Below.setCell (Below.setCell B2 hs1 _) hs1 _) hs1 _) hs1 _) hb3
   clear M2 R2 B2 hb3 r0 r1 r2 r3 r4 r5 r6 r7 r8
   rcases hl : limB p' q' r' s' with _ | _
   ·have ea : ordI a b c d = 0 := by rw [HS.out, hl]; rfl
    have EA := Lib.hid ea
    clear ea HS
    go_wp2
    go_ret
    exact ⟨ret_int EA.out.symm, B3⟩
   ·by_cases ne : p' = 1
    ·subst ne
     by_cases ne : q' = 0
     ·subst ne
      by_cases ne : r' = 0
      ·subst ne
       by_cases ne : s' = 1
       ·subst ne
        have hu : unitB 1 0 0 1 = true := by simp [unitB]
        have ea : ordI a b c d = ((k + 1 : Nat) : Int) := by rw [HS.out, hl, hu]; rfl
        have EA := Lib.hid ea
        clear ea HS hu
        have hQ := R3.kq
        go_wp2_with fail
        go_region_held3 (fun W => W.cell? ⟨w1.heap.size, 0, none⟩ = some (.int .i64 1) ∧ W.cell? ⟨w1.heap.size, 1, none⟩ = some (.int .i64 0) ∧ W.cell? ⟨w1.heap.size, 2, none⟩ = some (.int .i64 0) ∧ W.cell? ⟨w1.heap.size, 3, none⟩ = some (.int .i64 1)) ((refine Kq.cells ?_; exact pkGd3))
         (first | (go_at_call 144; refine (l02Unit_any _).mono ?_; rintro e u4 ⟨rfl, hb4⟩; have hQ4 : Kq w1.heap.size 1 0 0 1 u4 := (by exact pkGd3); have M4 : Kq w.heap.size a b c d u4 := (by exact pkGd3); have R4 : KR w1.heap.size 1 0 0 1 u4 := (R3.drew.call hb4); have B4 : Below w.heap.size w u4 := bstep B3.drew hb4))
        go_wp2
        go_ret
        exact ⟨ret_int (by rw [EA.out]; omega), B4⟩
       ·have nb : (s' == 1) = false := by simpa using ne
        have hu : unitB 1 0 0 s' = false := by simp [unitB, nb]
        have HN2 := Lib.hid (show ordI a b c d = ordGo a b c d (k + 1 + 1) (6 - (k + 1)) by rw [HS.out, hl, hu]; rfl)
        clear HS hu
        have hQ := R3.kq
        go_wp2_with fail
        go_region_held3 (fun W => W.cell? ⟨w1.heap.size, 0, none⟩ = some (.int .i64 1) ∧ W.cell? ⟨w1.heap.size, 1, none⟩ = some (.int .i64 0) ∧ W.cell? ⟨w1.heap.size, 2, none⟩ = some (.int .i64 0) ∧ W.cell? ⟨w1.heap.size, 3, none⟩ = some (.int .i64 s')) ((refine Kq.cells ?_; exact pkGd3))
         (first | (go_at_call 144; refine (l02Unit_any _).mono ?_; rintro e u4 ⟨rfl, hb4⟩; have hQ4 : Kq w1.heap.size 1 0 0 s' u4 := (by exact pkGd3); have M4 : Kq w.heap.size a b c d u4 := (by exact pkGd3); have R4 : KR w1.heap.size 1 0 0 s' u4 := (R3.drew.call hb4); have B4 : Below w.heap.size w u4 := bstep B3.drew hb4))
        go_wp2
        go_roundw
        case rel => exact ⟨k + 1, 1, 0, 0, s', by go_num, by omega, M4, R4, hl, HN.out, HN2.out, B4⟩
        case measure => simp [intOf]; omega
      ·have nb : (r' == 0) = false := by simpa using ne
       have hu : unitB 1 0 r' s' = false := by simp [unitB, nb]
       have HN2 := Lib.hid (show ordI a b c d = ordGo a b c d (k + 1 + 1) (6 - (k + 1)) by rw [HS.out, hl, hu]; rfl)
       clear HS hu
       have hQ := R3.kq
       go_wp2_with fail
       go_region_held3 (fun W => W.cell? ⟨w1.heap.size, 0, none⟩ = some (.int .i64 1) ∧ W.cell? ⟨w1.heap.size, 1, none⟩ = some (.int .i64 0) ∧ W.cell? ⟨w1.heap.size, 2, none⟩ = some (.int .i64 r') ∧ W.cell? ⟨w1.heap.size, 3, none⟩ = some (.int .i64 s')) ((refine Kq.cells ?_; exact pkGd3))
        (first | (go_at_call 144; refine (l02Unit_any _).mono ?_; rintro e u4 ⟨rfl, hb4⟩; have hQ4 : Kq w1.heap.size 1 0 r' s' u4 := (by exact pkGd3); have M4 : Kq w.heap.size a b c d u4 := (by exact pkGd3); have R4 : KR w1.heap.size 1 0 r' s' u4 := (R3.drew.call hb4); have B4 : Below w.heap.size w u4 := bstep B3.drew hb4))
       go_wp2
       go_roundw
       case rel => exact ⟨k + 1, 1, 0, r', s', by go_num, by omega, M4, R4, hl, HN.out, HN2.out, B4⟩
       case measure => simp [intOf]; omega
     ·have nb : (q' == 0) = false := by simpa using ne
      have hu : unitB 1 q' r' s' = false := by simp [unitB, nb]
      have HN2 := Lib.hid (show ordI a b c d = ordGo a b c d (k + 1 + 1) (6 - (k + 1)) by rw [HS.out, hl, hu]; rfl)
      clear HS hu
      have hQ := R3.kq
      go_wp2_with fail
      go_region_held3 (fun W => W.cell? ⟨w1.heap.size, 0, none⟩ = some (.int .i64 1) ∧ W.cell? ⟨w1.heap.size, 1, none⟩ = some (.int .i64 q') ∧ W.cell? ⟨w1.heap.size, 2, none⟩ = some (.int .i64 r') ∧ W.cell? ⟨w1.heap.size, 3, none⟩ = some (.int .i64 s')) ((refine Kq.cells ?_; exact pkGd3))
       (first | (go_at_call 144; refine (l02Unit_any _).mono ?_; rintro e u4 ⟨rfl, hb4⟩; have hQ4 : Kq w1.heap.size 1 q' r' s' u4 := (by exact pkGd3); have M4 : Kq w.heap.size a b c d u4 := (by exact pkGd3); have R4 : KR w1.heap.size 1 q' r' s' u4 := (R3.drew.call hb4); have B4 : Below w.heap.size w u4 := bstep B3.drew hb4))
      go_wp2
      go_roundw
      case rel => exact ⟨k + 1, 1, q', r', s', by go_num, by omega, M4, R4, hl, HN.out, HN2.out, B4⟩
      case measure => simp [intOf]; omega
    ·have nb : (p' == 1) = false := by simpa using ne
     have hu : unitB p' q' r' s' = false := by simp [unitB, nb]
     have HN2 := Lib.hid (show ordI a b c d = ordGo a b c d (k + 1 + 1) (6 - (k + 1)) by rw [HS.out, hl, hu]; rfl)
     clear HS hu
     have hQ := R3.kq
     go_wp2_with fail
     go_region_held3 (fun W => W.cell? ⟨w1.heap.size, 0, none⟩ = some (.int .i64 p') ∧ W.cell? ⟨w1.heap.size, 1, none⟩ = some (.int .i64 q') ∧ W.cell? ⟨w1.heap.size, 2, none⟩ = some (.int .i64 r') ∧ W.cell? ⟨w1.heap.size, 3, none⟩ = some (.int .i64 s')) ((refine Kq.cells ?_; exact pkGd3))
      (first | (go_at_call 144; refine (l02Unit_any _).mono ?_; rintro e u4 ⟨rfl, hb4⟩; have hQ4 : Kq w1.heap.size p' q' r' s' u4 := (by exact pkGd3); have M4 : Kq w.heap.size a b c d u4 := (by exact pkGd3); have R4 : KR w1.heap.size p' q' r' s' u4 := (R3.drew.call hb4); have B4 : Below w.heap.size w u4 := bstep B3.drew hb4))
     go_wp2
     go_roundw
     case rel => exact ⟨k + 1, p', q', r', s', by go_num, by omega, M4, R4, hl, HN.out, HN2.out, B4⟩
     case measure => simp [intOf]; omega
end
end Go.Proofs.YtjjfomokecngoaaGreatDoor

namespace Go.Proofs.YtjjfomokecngoaaGreatDoor
section
open Go.RowKit
set_option linter.unusedSimpArgs false

def cmpIq (x y : Int) : Int := if x < y then -1 else if y < x then 1 else 0
def orIq (p q : Int) : Int := if p = 0 then q else p
def cmpWq (x y x' y' : Int) : Int := orIq (cmpIq x x') (cmpIq y y')

set_option maxHeartbeats 400000 in
theorem compareq_any (x y : Int) (w : World) :
  Calls Tryz.prog 264 #[.int .i64 x, .int .i64 y] w fun e w' => e = .returned (.int .i64 (cmpIq x y)) ∧ w = w' := by
 by_cases h : x < y
 ·have EA := Lib.hid (show cmpIq x y = -1 by simp [cmpIq, h])
  go_enter Tryz.func264, Tryz.ntmps264
  go_wp2
  go_ret
  exact ⟨ret_int EA.out.symm, rfl⟩
 by_cases h' : y < x
 ·have EA := Lib.hid (show cmpIq x y = 1 by simp [cmpIq, h, h'])
  go_enter Tryz.func264, Tryz.ntmps264
  go_wp2
  go_ret
  exact ⟨ret_int EA.out.symm, rfl⟩
 ·have EA := Lib.hid (show cmpIq x y = 0 by simp [cmpIq, h, h'])
  go_enter Tryz.func264, Tryz.ntmps264
  go_wp2
  go_ret
  exact ⟨ret_int EA.out.symm, rfl⟩

set_option maxHeartbeats 400000 in
theorem or2q_any (p q : Int) (b : Nat) (w : World) (h0 : w.cell? ⟨b, 0, none⟩ = some (.int .i64 p)) (h1 : w.cell? ⟨b, 1, none⟩ = some (.int .i64 q)) :
  Calls Tryz.prog 255 #[.slice (some ⟨b, 0, none⟩) 2 2] w fun e w' => e = .returned (.int .i64 (orIq p q)) ∧ w = w' := by
 go_enter Tryz.func255, Tryz.ntmps255
 go_wp2_with fail
 go_loop [8] (fun i => ∃ k : Nat, k ≤ 2 ∧ i = .int .i64 k ∧ Hid ((0 < k → p = 0) ∧ (1 < k → q = 0))) (fun i => 2 - (intOf i).toNat)
 case atStart => exact ⟨0, by omega, rfl, by constructor <;> (intro h; omega)⟩
 case round =>
  obtain ⟨k, hk, rfl, hz⟩ := hrel
  obtain rfl | rfl | rfl : k = 0 ∨ k = 1 ∨ k = 2 := by omega
  ·by_cases hp : p = 0
   ·have hp1 : (p != 0) = false := by simp [hp]
    have HP := Lib.hid hp
    clear hp
    go_wp2
    go_round
    case rel => exact ⟨1, by omega, rfl, ⟨fun _ => HP.out, fun h => by omega⟩⟩
    case measure => simp [intOf]
   ·have hp1 : (p != 0) = true := by simp [hp]
    have HP := Lib.hid (show orIq p q = p by simp [orIq, hp])
    clear hp
    go_wp2
    go_ret
    exact ⟨ret_int HP.out.symm, rfl⟩
  ·have HP := Lib.hid (show orIq p q = q by simp [orIq, hz.1 (by omega)])
   by_cases hq : q = 0
   ·have hq1 : (q != 0) = false := by simp [hq]
    have HQ := Lib.hid hq
    clear hq
    go_wp2
    go_round
    case rel => exact ⟨2, by omega, rfl, ⟨fun _ => hz.1 (by omega), fun _ => HQ.out⟩⟩
    case measure => simp [intOf]
   ·have hq1 : (q != 0) = true := by simp [hq]
    clear hq
    go_wp2
    go_ret
    exact ⟨ret_int HP.out.symm, rfl⟩
  ·have HP := Lib.hid (show orIq p q = 0 by simp [orIq, hz.1 (by omega), hz.2 (by omega)])
   go_wp2
   go_ret
   exact ⟨ret_int HP.out.symm, rfl⟩

set_option maxHeartbeats 800000 in
theorem vcompareq_any (x y x' y' : Int) (w : World) :
  Calls Tryz.prog 226 #[.agg #[.int .i64 x, .int .i64 y], .agg #[.int .i64 x', .int .i64 y']] w fun e w' => e = .returned (.int .i64 (cmpWq x y x' y')) ∧ Below w.heap.size w w' := by
 have K0 := K4.made w x y x' y' 63
 go_enter Tryz.func226, Tryz.ntmps226
 go_wp2_with fail
 go_region_held3 (fun W => W.cell? ⟨w.heap.size, 0, none⟩ = some (.int .i64 x) ∧ W.cell? ⟨w.heap.size, 1, none⟩ = some (.int .i64 y) ∧ W.cell? ⟨w.heap.size + 1, 0, none⟩ = some (.int .i64 x') ∧ W.cell? ⟨w.heap.size + 1, 1, none⟩ = some (.int .i64 y')) ((refine K4.cells ?_; repeat (first | assumption | with_reducible refine K4.alloc ?_ _ | with_reducible refine K4.drew ?_)))
  (first
   | (go_at_call 264; refine (compareq_any _ _ _).mono ?_; rintro e w1 ⟨rfl, rfl⟩)
   | (go_at_call 255; refine (or2q_any (cmpIq x x') (cmpIq y y') _ _ ?_ ?_).mono ?_; (simp [go_sem]); (simp [go_sem]); rintro e w1 ⟨rfl, rfl⟩))
 go_wp2
 go_ret
 refine ⟨ret_int rfl, ?_⟩
 repeat (first | exact Below.refl _ _ | refine Below.alloc ?_ (by first | omega | (simp <;> omega)) _ | refine Below.drew ?_)

def lessB (x y x' y' : Int) : Bool := decide (x < x' ∨ x = x' ∧ y < y')

set_option maxHeartbeats 800000 in
theorem lessq_any (x y x' y' : Int) (w : World) :
  Calls Tryz.prog 227 #[.agg #[.int .i64 x, .int .i64 y], .agg #[.int .i64 x', .int .i64 y']] w fun e w' => e = .returned (.bool (lessB x y x' y')) ∧ Below w.heap.size w w' := by
 by_cases h1 : x < x'
 ·have EA := Lib.hid (show lessB x y x' y' = true by simp [lessB, h1])
  go_enter Tryz.func227, Tryz.ntmps227
  go_wp2
  go_ret
  refine ⟨ret_bool EA.out.symm, ?_⟩
  exact pkGd4
 by_cases h2 : x = x'
 ·have h2b : (x == x') = true := by simp [h2]
  by_cases h3 : y < y'
  ·have EA := Lib.hid (show lessB x y x' y' = true by simp [lessB, h1, h2, h3])
   clear h2
   go_enter Tryz.func227, Tryz.ntmps227
   go_wp2
   go_ret
   refine ⟨ret_bool EA.out.symm, ?_⟩
   exact pkGd4
  ·have EA := Lib.hid (show lessB x y x' y' = false by simp [lessB, h1, h3])
   clear h2
   go_enter Tryz.func227, Tryz.ntmps227
   go_wp2
   go_ret
   refine ⟨ret_bool EA.out.symm, ?_⟩
   exact pkGd4
 ·have h2b : (x == x') = false := by simp [h2]
  have EA := Lib.hid (show lessB x y x' y' = false by simp [lessB, h1, h2])
  clear h2
  go_enter Tryz.func227, Tryz.ntmps227
  go_wp2
  go_ret
  refine ⟨ret_bool EA.out.symm, ?_⟩
  exact pkGd4
end
end Go.Proofs.YtjjfomokecngoaaGreatDoor

namespace Go.Proofs.YtjjfomokecngoaaGreatDoor
section
open Go.RowKit
set_option linter.unusedSimpArgs false
set_option linter.unusedVariables false

def axB (a b c d : Int) : Int × Int := bif a + 1 == 0 && c == 0 then (b, d + 1) else (a + 1, c)
def axR (x y : Int) : Int × Int := bif lessB x y 0 0 then (-(x.tdiv (gcdI x y)), -(y.tdiv (gcdI x y))) else (x.tdiv (gcdI x y), y.tdiv (gcdI x y))
def axP (a b c d : Int) : Int × Int := axR (axB a b c d).1 (axB a b c d).2
def axVal (a b c d : Int) : Value := .agg #[.int .i64 ((axP a b c d).1), .int .i64 ((axP a b c d).2)]
theorem gcdI_pos {x y : Int} (h : ¬ (x = 0 ∧ y = 0)) : 1 ≤ gcdI x y := by
 have h3 : gcdI x y = ((Nat.gcd x.natAbs y.natAbs : Nat) : Int) := rfl
 have : 0 < Nat.gcd x.natAbs y.natAbs := by
  rcases Nat.eq_zero_or_pos (Nat.gcd x.natAbs y.natAbs) with e | e
  ·have := Nat.gcd_eq_zero_iff.1 e
   omega
  ·exact e
 omega
theorem gcdI_bdq {x y : Int} (h : ¬ (x = 0 ∧ y = 0)) (hx : -1001 ≤ x) (hx' : x ≤ 1001) (hy : -1001 ≤ y) (hy' : y ≤ 1001) : gcdI x y ≤ 1001 := by
 have h3 : gcdI x y = ((Nat.gcd x.natAbs y.natAbs : Nat) : Int) := rfl
 by_cases h0 : x = 0
 ·subst h0
  have h2 : Nat.gcd (Int.natAbs 0) y.natAbs = y.natAbs := by simp
  omega
 ·have h2 : Nat.gcd x.natAbs y.natAbs ≤ x.natAbs := Nat.gcd_le_left _ (by omega)
  omega
theorem tdivBq (x d : Int) (hx : -1001 ≤ x) (hx' : x ≤ 1001) : -1001 ≤ x.tdiv d ∧ x.tdiv d ≤ 1001 := by
 have h : (x.tdiv d).natAbs ≤ x.natAbs := by rw [Int.natAbs_tdiv]; exact Nat.div_le_self _ _
 omega
theorem tdiv_signq {x g : Int} (hg : 1 ≤ g) (hd : g ∣ x) : (x.tdiv g < 0 ↔ x < 0) ∧ (x.tdiv g = 0 ↔ x = 0) := by
 obtain ⟨k, rfl⟩ := hd
 rw [Int.mul_tdiv_cancel_left _ (by omega)]
 constructor
 ·constructor
  ·intro h
   exact Int.mul_neg_of_pos_of_neg (by omega) h
  ·intro h
   rcases Int.lt_or_le k 0 with h1 | h1
   ·exact h1
   ·have := Int.mul_nonneg (show 0 ≤ g by omega) h1
    omega
 ·constructor
  ·intro h; rw [h]; simp
  ·intro h
   rcases Int.mul_eq_zero.1 h with h | h
   ·omega
   ·exact h
theorem less_divq {x y : Int} (h : ¬ (x = 0 ∧ y = 0)) : lessB (x.tdiv (gcdI x y)) (y.tdiv (gcdI x y)) 0 0 = lessB x y 0 0 := by
 have hg := gcdI_pos h
 obtain ⟨a1, a2⟩ := tdiv_signq hg (show gcdI x y ∣ x from Int.gcd_dvd_left ..)
 obtain ⟨b1, b2⟩ := tdiv_signq hg (show gcdI x y ∣ y from Int.gcd_dvd_right ..)
 unfold lessB
 rw [Bool.eq_iff_iff]
 simp [a1, a2, b1]
theorem cmp_negq {x y : Int} (h : lessB x y 0 0 = true) : cmpWq x y 0 0 < 0 := by
 simp [lessB] at h
 unfold cmpWq orIq cmpIq
 rcases h with h | ⟨h, h'⟩
 ·simp [h]
 ·subst h; simp [h']
theorem cmp_nnegq {x y : Int} (h : lessB x y 0 0 = false) : ¬ cmpWq x y 0 0 < 0 := by
 simp [lessB] at h
 unfold cmpWq orIq cmpIq
 split <;> (try split) <;> (try split) <;> (try split) <;> omega
theorem wrap0q : IntKind.i64.wrap 0 = 0 := IntWalk.i64_in _ (by omega)
theorem refl_facts {a b c d : Int} (h : reflB a b c d = true) : a * d - b * c = -1 ∧ a + d = 0 := by simpa [reflB] using h

set_option maxHeartbeats 1000000 in
theorem isReflection_any (a b c d : Int) (w : World) (h : limB a b c d = true) :
  Calls Tryz.prog 110 #[.agg #[.int .i64 a, .int .i64 b, .int .i64 c, .int .i64 d]] w fun e w' => e = .returned (.bool (reflB a b c d)) ∧ Below w.heap.size w w' := by
 rcases h1 : a * d - b * c == -1 with _ | _
 ·have ea : reflB a b c d = false := by simp [reflB, h1]
  have EA := Lib.hid ea
  clear ea
  go_enter Tryz.func110, Tryz.ntmps110
  go_wp2_with fail
  refine (det_any _ _ _ _ _ h).mono ?_
  rintro e w1 ⟨rfl, hb1⟩
  obtain ⟨hc1, hf1⟩ := bcell hb1
  have hz1a : w.heap.size < w1.heap.size := by have := hb1.size; (try simp at this); omega
  go_wp2
  go_ret
  refine ⟨ret_bool EA.out.symm, ?_⟩
  exact pkGd0
 rcases h2 : a + d == 0 with _ | _
 ·have ea : reflB a b c d = false := by simp [reflB, h2]
  have EA := Lib.hid ea
  clear ea
  go_enter Tryz.func110, Tryz.ntmps110
  go_wp2_with fail
  refine (det_any _ _ _ _ _ h).mono ?_
  rintro e w1 ⟨rfl, hb1⟩
  obtain ⟨hc1, hf1⟩ := bcell hb1
  have hz1a : w.heap.size < w1.heap.size := by have := hb1.size; (try simp at this); omega
  go_wp2_with fail
  refine (trace_any _ _ _ _ _ h).mono ?_
  rintro e w2 ⟨rfl, hb2⟩
  obtain ⟨hc2, hf2⟩ := bcell hb2
  have hz2a : w.heap.size < w2.heap.size := by have := hb2.size; (try simp at this); omega
  go_wp2
  go_ret
  refine ⟨ret_bool EA.out.symm, ?_⟩
  exact pkGd0
 ·have ea : reflB a b c d = true := by simp [reflB, h1, h2]
  have EA := Lib.hid ea
  clear ea
  go_enter Tryz.func110, Tryz.ntmps110
  go_wp2_with fail
  refine (det_any _ _ _ _ _ h).mono ?_
  rintro e w1 ⟨rfl, hb1⟩
  obtain ⟨hc1, hf1⟩ := bcell hb1
  have hz1a : w.heap.size < w1.heap.size := by have := hb1.size; (try simp at this); omega
  go_wp2_with fail
  refine (trace_any _ _ _ _ _ h).mono ?_
  rintro e w2 ⟨rfl, hb2⟩
  obtain ⟨hc2, hf2⟩ := bcell hb2
  have hz2a : w.heap.size < w2.heap.size := by have := hb2.size; (try simp at this); omega
  go_wp2
  go_ret
  refine ⟨ret_bool EA.out.symm, ?_⟩
  exact pkGd0

theorem divisor2_any (a b : Int) (w : World) (ha : -1000000 ≤ a) (ha' : a ≤ 1000000) (hb : -1000000 ≤ b) (hb' : b ≤ 1000000) :
  Calls Tryz.prog 167 #[.int .i64 a, .int .i64 b] w fun e w' => e = .returned (.int .i64 (gcdI a b)) ∧ Below w.heap.size w w' :=
 (divisor_any _ a b w (Nat.lt_succ_self _) ha ha' hb hb').mono fun _ _ ⟨he, hw⟩ => ⟨he, hw ▸ Below.refl _ _⟩

set_option maxHeartbeats 1000000 in
theorem l01Neg_any (x y : Int) (w : World) (hx : -1001 ≤ x) (hx' : x ≤ 1001) (hy : -1001 ≤ y) (hy' : y ≤ 1001) :
  Calls Tryz.prog 156 #[.agg #[.int .i64 x, .int .i64 y], .int .i64 (-1)] w fun e w' => e = .returned (.agg #[.int .i64 (-x), .int .i64 (-y)]) ∧ Below w.heap.size w w' := by
 go_enter Tryz.func156, Tryz.ntmps156
 go_wp2
 refine bodyPost_ret (v := .agg #[.int .i64 (-x), .int .i64 (-y)]) (by simp [results, Tryz.results156, go_sem]) rfl ⟨rfl, ?_⟩
 exact pkGd0

set_option maxHeartbeats 4000000 in
theorem axis_any (a b c d : Int) (w : World) (h : matB a b c d = true) (hr : reflB a b c d = true) :
  Calls Tryz.prog 153 #[.agg #[.int .i64 a, .int .i64 b, .int .i64 c, .int .i64 d]] w fun e w' => e = .returned (axVal a b c d) ∧ Below w.heap.size w w' := by
 obtain ⟨hD, hT⟩ := refl_facts hr
 obtain ⟨⟨ha, hb⟩, hc, hd⟩ := limB_bd (matB_lim h)
 obtain ⟨ha, ha'⟩ := ha
 obtain ⟨hb, hb'⟩ := hb
 obtain ⟨hc, hc'⟩ := hc
 obtain ⟨hd, hd'⟩ := hd
 clear h hr
 by_cases h1 : a = -1
 ·subst h1
  by_cases h2 : c = 0
  ·subst h2
   obtain rfl : d = 1 := by omega
   have hax : axB (-1) b 0 1 = (b, 2) := rfl
   have hxy : ¬ (b = 0 ∧ (2 : Int) = 0) := by omega
   have hg1 := gcdI_pos hxy
   have hg2 := gcdI_bdq hxy (by omega) (by omega) (by omega) (by omega)
   obtain ⟨t1, t2⟩ := tdivBq (b) (gcdI (b) (2)) (by omega) (by omega)
   obtain ⟨t3, t4⟩ := tdivBq (2) (gcdI (b) (2)) (by omega) (by omega)
   obtain ⟨t5, t6⟩ := tdivBq (b) (-gcdI (b) (2)) (by omega) (by omega)
   obtain ⟨t7, t8⟩ := tdivBq (2) (-gcdI (b) (2)) (by omega) (by omega)
   clear hD hT
   rcases hl : lessB b 2 0 0 with _ | _
   ·have hc0 := cmp_nnegq hl
    have ea : axVal (-1) b 0 1 = .agg #[.int .i64 ((b).tdiv (gcdI (b) ((2 : Int)))), .int .i64 (((2 : Int)).tdiv (gcdI (b) ((2 : Int))))] := by simp [axVal, axP, axR, hax, hl]
    have EA := Lib.hid ea
    clear ea
    go_enter Tryz.func153, Tryz.ntmps153
    clear hl hax
    go_wp2_with fail
    refine (greatest_any _ _ _ (by omega) (by omega) (by omega) (by omega)).mono ?_
    rintro e w1 ⟨rfl, hb1⟩
    obtain ⟨hc1, hf1⟩ := bcell hb1
    obtain ⟨hz1a, hz1b, hz1c⟩ : w.heap.size < w1.heap.size ∧ w.heap.size + 1 < w1.heap.size ∧ w.heap.size + 1 + 1 < w1.heap.size := by have := hb1.size; (try simp at this); omega
    go_wp2_with fail
    refine (vcompareq_any _ _ _ _ _).mono ?_
    rintro e w2 ⟨rfl, hb2⟩
    obtain ⟨hc2, hf2⟩ := bcell hb2
    obtain ⟨hz2a, hz2b, hz2c⟩ : w.heap.size < w2.heap.size ∧ w.heap.size + 1 < w2.heap.size ∧ w.heap.size + 1 + 1 < w2.heap.size := by have := hb2.size; (try simp at this); omega
    go_wp2_with fail
    have K1 : Kg (w.heap.size + 1 + 1) (b) ((2 : Int)) w2 := ⟨hz2c, by simp [go_sem, hc1, hz1a, hz1b, hz1c, hc2, hz2a, hz2b, hz2c], by simp [go_sem, hc1, hz1a, hz1b, hz1c, hc2, hz2a, hz2b, hz2c]⟩
    have hw1 : IntKind.i64.wrap ((b).tdiv (gcdI (b) ((2 : Int)))) = (b).tdiv (gcdI (b) ((2 : Int))) := IntWalk.i64_in _ (by omega)
    have hw2 : IntKind.i64.wrap (((2 : Int)).tdiv (gcdI (b) ((2 : Int)))) = ((2 : Int)).tdiv (gcdI (b) ((2 : Int))) := IntWalk.i64_in _ (by omega)
    have hz0 : ¬ gcdI (b) ((2 : Int)) = 0 := by omega
    go_region_held3 (fun W => W.cell? ⟨w.heap.size + 1 + 1, 0, none⟩ = some (.int .i64 (b)) ∧ W.cell? ⟨w.heap.size + 1 + 1, 1, none⟩ = some (.int .i64 ((2 : Int)))) ((refine Kg.cells ?_; exact pkGd2)) (fail)
    go_wp2
    refine bodyPost_ret (v := .agg #[.int .i64 ((b).tdiv (gcdI (b) ((2 : Int)))), .int .i64 (((2 : Int)).tdiv (gcdI (b) ((2 : Int))))]) (by simp [results, Tryz.results153, go_sem, Int.tdiv_neg, wrap0q, hw1, hw2, hc1, hz1a, hz1b, hz1c, hc2, hz2a, hz2b, hz2c]) rfl ⟨ret_val EA.out.symm, ?_⟩
    exact pkGd0
   ·have hc0 := cmp_negq hl
    have ea : axVal (-1) b 0 1 = .agg #[.int .i64 (-((b).tdiv (gcdI (b) ((2 : Int))))), .int .i64 (-(((2 : Int)).tdiv (gcdI (b) ((2 : Int)))))] := by simp [axVal, axP, axR, hax, hl, Int.tdiv_neg]
    have EA := Lib.hid ea
    clear ea
    go_enter Tryz.func153, Tryz.ntmps153
    clear hl hax
    go_wp2_with fail
    refine (greatest_any _ _ _ (by omega) (by omega) (by omega) (by omega)).mono ?_
    rintro e w1 ⟨rfl, hb1⟩
    obtain ⟨hc1, hf1⟩ := bcell hb1
    obtain ⟨hz1a, hz1b, hz1c⟩ : w.heap.size < w1.heap.size ∧ w.heap.size + 1 < w1.heap.size ∧ w.heap.size + 1 + 1 < w1.heap.size := by have := hb1.size; (try simp at this); omega
    go_wp2_with fail
    refine (vcompareq_any _ _ _ _ _).mono ?_
    rintro e w2 ⟨rfl, hb2⟩
    obtain ⟨hc2, hf2⟩ := bcell hb2
    obtain ⟨hz2a, hz2b, hz2c⟩ : w.heap.size < w2.heap.size ∧ w.heap.size + 1 < w2.heap.size ∧ w.heap.size + 1 + 1 < w2.heap.size := by have := hb2.size; (try simp at this); omega
    go_wp2_with fail
    have K1 : Kg (w.heap.size + 1 + 1) (b) ((2 : Int)) w2 := ⟨hz2c, by simp [go_sem, hc1, hz1a, hz1b, hz1c, hc2, hz2a, hz2b, hz2c], by simp [go_sem, hc1, hz1a, hz1b, hz1c, hc2, hz2a, hz2b, hz2c]⟩
    have hw1 : IntKind.i64.wrap ((b).tdiv (-gcdI (b) ((2 : Int)))) = (b).tdiv (-gcdI (b) ((2 : Int))) := IntWalk.i64_in _ (by omega)
    have hw2 : IntKind.i64.wrap (((2 : Int)).tdiv (-gcdI (b) ((2 : Int)))) = ((2 : Int)).tdiv (-gcdI (b) ((2 : Int))) := IntWalk.i64_in _ (by omega)
    have hz0 : ¬ -gcdI (b) ((2 : Int)) = 0 := by omega
    go_region_held3 (fun W => W.cell? ⟨w.heap.size + 1 + 1, 0, none⟩ = some (.int .i64 (b)) ∧ W.cell? ⟨w.heap.size + 1 + 1, 1, none⟩ = some (.int .i64 ((2 : Int)))) ((refine Kg.cells ?_; exact pkGd2)) (fail)
    have hv1 : IntKind.i64.wrap (-((b).tdiv (gcdI (b) ((2 : Int))))) = -((b).tdiv (gcdI (b) ((2 : Int)))) := IntWalk.i64_in _ (by omega)
    have hv2 : IntKind.i64.wrap (-(((2 : Int)).tdiv (gcdI (b) ((2 : Int))))) = -(((2 : Int)).tdiv (gcdI (b) ((2 : Int)))) := IntWalk.i64_in _ (by omega)
    go_wp2
    refine bodyPost_ret (v := .agg #[.int .i64 (-((b).tdiv (gcdI (b) ((2 : Int))))), .int .i64 (-(((2 : Int)).tdiv (gcdI (b) ((2 : Int)))))]) (by simp [results, Tryz.results153, go_sem, Int.tdiv_neg, wrap0q, hw1, hw2, hv1, hv2, hc1, hz1a, hz1b, hz1c, hc2, hz2a, hz2b, hz2c]) rfl ⟨ret_val EA.out.symm, ?_⟩
    exact pkGd0
  ·obtain rfl : d = 1 := by omega
   have nb : (c == 0) = false := by simpa using h2
   have hax : axB (-1) b c 1 = (0, c) := by simp [axB, nb]
   have hxy : ¬ ((0 : Int) = 0 ∧ c = 0) := by omega
   have hg1 := gcdI_pos hxy
   have hg2 := gcdI_bdq hxy (by omega) (by omega) (by omega) (by omega)
   obtain ⟨t1, t2⟩ := tdivBq (0) (gcdI (0) (c)) (by omega) (by omega)
   obtain ⟨t3, t4⟩ := tdivBq (c) (gcdI (0) (c)) (by omega) (by omega)
   obtain ⟨t5, t6⟩ := tdivBq (0) (-gcdI (0) (c)) (by omega) (by omega)
   obtain ⟨t7, t8⟩ := tdivBq (c) (-gcdI (0) (c)) (by omega) (by omega)
   clear hD hT
   rcases hl : lessB 0 c 0 0 with _ | _
   ·have hc0 := cmp_nnegq hl
    have ea : axVal (-1) b c 1 = .agg #[.int .i64 (((0 : Int)).tdiv (gcdI ((0 : Int)) (c))), .int .i64 ((c).tdiv (gcdI ((0 : Int)) (c)))] := by simp [axVal, axP, axR, hax, hl]
    have EA := Lib.hid ea
    clear ea
    go_enter Tryz.func153, Tryz.ntmps153
    clear hl hax
    go_wp2_with fail
    refine (greatest_any _ _ _ (by omega) (by omega) (by omega) (by omega)).mono ?_
    rintro e w1 ⟨rfl, hb1⟩
    obtain ⟨hc1, hf1⟩ := bcell hb1
    obtain ⟨hz1a, hz1b, hz1c⟩ : w.heap.size < w1.heap.size ∧ w.heap.size + 1 < w1.heap.size ∧ w.heap.size + 1 + 1 < w1.heap.size := by have := hb1.size; (try simp at this); omega
    go_wp2_with fail
    refine (vcompareq_any _ _ _ _ _).mono ?_
    rintro e w2 ⟨rfl, hb2⟩
    obtain ⟨hc2, hf2⟩ := bcell hb2
    obtain ⟨hz2a, hz2b, hz2c⟩ : w.heap.size < w2.heap.size ∧ w.heap.size + 1 < w2.heap.size ∧ w.heap.size + 1 + 1 < w2.heap.size := by have := hb2.size; (try simp at this); omega
    go_wp2_with fail
    have K1 : Kg (w.heap.size + 1 + 1) ((0 : Int)) (c) w2 := ⟨hz2c, by simp [go_sem, hc1, hz1a, hz1b, hz1c, hc2, hz2a, hz2b, hz2c], by simp [go_sem, hc1, hz1a, hz1b, hz1c, hc2, hz2a, hz2b, hz2c]⟩
    have hw1 : IntKind.i64.wrap (((0 : Int)).tdiv (gcdI ((0 : Int)) (c))) = ((0 : Int)).tdiv (gcdI ((0 : Int)) (c)) := IntWalk.i64_in _ (by omega)
    have hw2 : IntKind.i64.wrap ((c).tdiv (gcdI ((0 : Int)) (c))) = (c).tdiv (gcdI ((0 : Int)) (c)) := IntWalk.i64_in _ (by omega)
    have hz0 : ¬ gcdI ((0 : Int)) (c) = 0 := by omega
    go_region_held3 (fun W => W.cell? ⟨w.heap.size + 1 + 1, 0, none⟩ = some (.int .i64 ((0 : Int))) ∧ W.cell? ⟨w.heap.size + 1 + 1, 1, none⟩ = some (.int .i64 (c))) ((refine Kg.cells ?_; exact pkGd2)) (fail)
    go_wp2
    refine bodyPost_ret (v := .agg #[.int .i64 (((0 : Int)).tdiv (gcdI ((0 : Int)) (c))), .int .i64 ((c).tdiv (gcdI ((0 : Int)) (c)))]) (by simp [results, Tryz.results153, go_sem, Int.tdiv_neg, wrap0q, hw1, hw2, hc1, hz1a, hz1b, hz1c, hc2, hz2a, hz2b, hz2c]) rfl ⟨ret_val EA.out.symm, ?_⟩
    exact pkGd0
   ·have hc0 := cmp_negq hl
    have ea : axVal (-1) b c 1 = .agg #[.int .i64 (-(((0 : Int)).tdiv (gcdI ((0 : Int)) (c)))), .int .i64 (-((c).tdiv (gcdI ((0 : Int)) (c))))] := by simp [axVal, axP, axR, hax, hl, Int.tdiv_neg]
    have EA := Lib.hid ea
    clear ea
    go_enter Tryz.func153, Tryz.ntmps153
    clear hl hax
    go_wp2_with fail
    refine (greatest_any _ _ _ (by omega) (by omega) (by omega) (by omega)).mono ?_
    rintro e w1 ⟨rfl, hb1⟩
    obtain ⟨hc1, hf1⟩ := bcell hb1
    obtain ⟨hz1a, hz1b, hz1c⟩ : w.heap.size < w1.heap.size ∧ w.heap.size + 1 < w1.heap.size ∧ w.heap.size + 1 + 1 < w1.heap.size := by have := hb1.size; (try simp at this); omega
    go_wp2_with fail
    refine (vcompareq_any _ _ _ _ _).mono ?_
    rintro e w2 ⟨rfl, hb2⟩
    obtain ⟨hc2, hf2⟩ := bcell hb2
    obtain ⟨hz2a, hz2b, hz2c⟩ : w.heap.size < w2.heap.size ∧ w.heap.size + 1 < w2.heap.size ∧ w.heap.size + 1 + 1 < w2.heap.size := by have := hb2.size; (try simp at this); omega
    go_wp2_with fail
    have K1 : Kg (w.heap.size + 1 + 1) ((0 : Int)) (c) w2 := ⟨hz2c, by simp [go_sem, hc1, hz1a, hz1b, hz1c, hc2, hz2a, hz2b, hz2c], by simp [go_sem, hc1, hz1a, hz1b, hz1c, hc2, hz2a, hz2b, hz2c]⟩
    have hw1 : IntKind.i64.wrap (((0 : Int)).tdiv (-gcdI ((0 : Int)) (c))) = ((0 : Int)).tdiv (-gcdI ((0 : Int)) (c)) := IntWalk.i64_in _ (by omega)
    have hw2 : IntKind.i64.wrap ((c).tdiv (-gcdI ((0 : Int)) (c))) = (c).tdiv (-gcdI ((0 : Int)) (c)) := IntWalk.i64_in _ (by omega)
    have hz0 : ¬ -gcdI ((0 : Int)) (c) = 0 := by omega
    go_region_held3 (fun W => W.cell? ⟨w.heap.size + 1 + 1, 0, none⟩ = some (.int .i64 ((0 : Int))) ∧ W.cell? ⟨w.heap.size + 1 + 1, 1, none⟩ = some (.int .i64 (c))) ((refine Kg.cells ?_; exact pkGd2)) (fail)
    have hv1 : IntKind.i64.wrap (-(((0 : Int)).tdiv (gcdI ((0 : Int)) (c)))) = -(((0 : Int)).tdiv (gcdI ((0 : Int)) (c))) := IntWalk.i64_in _ (by omega)
    have hv2 : IntKind.i64.wrap (-((c).tdiv (gcdI ((0 : Int)) (c)))) = -((c).tdiv (gcdI ((0 : Int)) (c))) := IntWalk.i64_in _ (by omega)
    go_wp2
    refine bodyPost_ret (v := .agg #[.int .i64 (-(((0 : Int)).tdiv (gcdI ((0 : Int)) (c)))), .int .i64 (-((c).tdiv (gcdI ((0 : Int)) (c))))]) (by simp [results, Tryz.results153, go_sem, Int.tdiv_neg, wrap0q, hw1, hw2, hv1, hv2, hc1, hz1a, hz1b, hz1c, hc2, hz2a, hz2b, hz2c]) rfl ⟨ret_val EA.out.symm, ?_⟩
    exact pkGd0
 ·have h1' : ¬ a + 1 = 0 := by omega
  have nb : (a + 1 == 0) = false := by simpa using h1'
  have hax : axB a b c d = (a + 1, c) := by simp [axB, nb]
  have hxy : ¬ (a + 1 = 0 ∧ c = 0) := by omega
  have hg1 := gcdI_pos hxy
  have hg2 := gcdI_bdq hxy (by omega) (by omega) (by omega) (by omega)
  obtain ⟨t1, t2⟩ := tdivBq (a + 1) (gcdI (a + 1) (c)) (by omega) (by omega)
  obtain ⟨t3, t4⟩ := tdivBq (c) (gcdI (a + 1) (c)) (by omega) (by omega)
  obtain ⟨t5, t6⟩ := tdivBq (a + 1) (-gcdI (a + 1) (c)) (by omega) (by omega)
  obtain ⟨t7, t8⟩ := tdivBq (c) (-gcdI (a + 1) (c)) (by omega) (by omega)
  clear hD hT
  rcases hl : lessB (a + 1) c 0 0 with _ | _
  ·have hc0 := cmp_nnegq hl
   have ea : axVal a b c d = .agg #[.int .i64 ((a + 1).tdiv (gcdI (a + 1) (c))), .int .i64 ((c).tdiv (gcdI (a + 1) (c)))] := by simp [axVal, axP, axR, hax, hl]
   have EA := Lib.hid ea
   clear ea
   go_enter Tryz.func153, Tryz.ntmps153
   clear hl hax
   go_wp2_with fail
   refine (greatest_any _ _ _ (by omega) (by omega) (by omega) (by omega)).mono ?_
   rintro e w1 ⟨rfl, hb1⟩
   obtain ⟨hc1, hf1⟩ := bcell hb1
   obtain ⟨hz1a, hz1b, hz1c⟩ : w.heap.size < w1.heap.size ∧ w.heap.size + 1 < w1.heap.size ∧ w.heap.size + 1 + 1 < w1.heap.size := by have := hb1.size; (try simp at this); omega
   go_wp2_with fail
   refine (vcompareq_any _ _ _ _ _).mono ?_
   rintro e w2 ⟨rfl, hb2⟩
   obtain ⟨hc2, hf2⟩ := bcell hb2
   obtain ⟨hz2a, hz2b, hz2c⟩ : w.heap.size < w2.heap.size ∧ w.heap.size + 1 < w2.heap.size ∧ w.heap.size + 1 + 1 < w2.heap.size := by have := hb2.size; (try simp at this); omega
   go_wp2_with fail
   have K1 : Kg (w.heap.size + 1 + 1) (a + 1) (c) w2 := ⟨hz2c, by simp [go_sem, hc1, hz1a, hz1b, hz1c, hc2, hz2a, hz2b, hz2c], by simp [go_sem, hc1, hz1a, hz1b, hz1c, hc2, hz2a, hz2b, hz2c]⟩
   have hw1 : IntKind.i64.wrap ((a + 1).tdiv (gcdI (a + 1) (c))) = (a + 1).tdiv (gcdI (a + 1) (c)) := IntWalk.i64_in _ (by omega)
   have hw2 : IntKind.i64.wrap ((c).tdiv (gcdI (a + 1) (c))) = (c).tdiv (gcdI (a + 1) (c)) := IntWalk.i64_in _ (by omega)
   have hz0 : ¬ gcdI (a + 1) (c) = 0 := by omega
   go_region_held3 (fun W => W.cell? ⟨w.heap.size + 1 + 1, 0, none⟩ = some (.int .i64 (a + 1)) ∧ W.cell? ⟨w.heap.size + 1 + 1, 1, none⟩ = some (.int .i64 (c))) ((refine Kg.cells ?_; exact pkGd2)) (fail)
   go_wp2
   refine bodyPost_ret (v := .agg #[.int .i64 ((a + 1).tdiv (gcdI (a + 1) (c))), .int .i64 ((c).tdiv (gcdI (a + 1) (c)))]) (by simp [results, Tryz.results153, go_sem, Int.tdiv_neg, wrap0q, hw1, hw2, hc1, hz1a, hz1b, hz1c, hc2, hz2a, hz2b, hz2c]) rfl ⟨ret_val EA.out.symm, ?_⟩
   exact pkGd0
  ·have hc0 := cmp_negq hl
   have ea : axVal a b c d = .agg #[.int .i64 (-((a + 1).tdiv (gcdI (a + 1) (c)))), .int .i64 (-((c).tdiv (gcdI (a + 1) (c))))] := by simp [axVal, axP, axR, hax, hl, Int.tdiv_neg]
   have EA := Lib.hid ea
   clear ea
   go_enter Tryz.func153, Tryz.ntmps153
   clear hl hax
   go_wp2_with fail
   refine (greatest_any _ _ _ (by omega) (by omega) (by omega) (by omega)).mono ?_
   rintro e w1 ⟨rfl, hb1⟩
   obtain ⟨hc1, hf1⟩ := bcell hb1
   obtain ⟨hz1a, hz1b, hz1c⟩ : w.heap.size < w1.heap.size ∧ w.heap.size + 1 < w1.heap.size ∧ w.heap.size + 1 + 1 < w1.heap.size := by have := hb1.size; (try simp at this); omega
   go_wp2_with fail
   refine (vcompareq_any _ _ _ _ _).mono ?_
   rintro e w2 ⟨rfl, hb2⟩
   obtain ⟨hc2, hf2⟩ := bcell hb2
   obtain ⟨hz2a, hz2b, hz2c⟩ : w.heap.size < w2.heap.size ∧ w.heap.size + 1 < w2.heap.size ∧ w.heap.size + 1 + 1 < w2.heap.size := by have := hb2.size; (try simp at this); omega
   go_wp2_with fail
   have K1 : Kg (w.heap.size + 1 + 1) (a + 1) (c) w2 := ⟨hz2c, by simp [go_sem, hc1, hz1a, hz1b, hz1c, hc2, hz2a, hz2b, hz2c], by simp [go_sem, hc1, hz1a, hz1b, hz1c, hc2, hz2a, hz2b, hz2c]⟩
   have hw1 : IntKind.i64.wrap ((a + 1).tdiv (-gcdI (a + 1) (c))) = (a + 1).tdiv (-gcdI (a + 1) (c)) := IntWalk.i64_in _ (by omega)
   have hw2 : IntKind.i64.wrap ((c).tdiv (-gcdI (a + 1) (c))) = (c).tdiv (-gcdI (a + 1) (c)) := IntWalk.i64_in _ (by omega)
   have hz0 : ¬ -gcdI (a + 1) (c) = 0 := by omega
   go_region_held3 (fun W => W.cell? ⟨w.heap.size + 1 + 1, 0, none⟩ = some (.int .i64 (a + 1)) ∧ W.cell? ⟨w.heap.size + 1 + 1, 1, none⟩ = some (.int .i64 (c))) ((refine Kg.cells ?_; exact pkGd2)) (fail)
   have hv1 : IntKind.i64.wrap (-((a + 1).tdiv (gcdI (a + 1) (c)))) = -((a + 1).tdiv (gcdI (a + 1) (c))) := IntWalk.i64_in _ (by omega)
   have hv2 : IntKind.i64.wrap (-((c).tdiv (gcdI (a + 1) (c)))) = -((c).tdiv (gcdI (a + 1) (c))) := IntWalk.i64_in _ (by omega)
   go_wp2
   refine bodyPost_ret (v := .agg #[.int .i64 (-((a + 1).tdiv (gcdI (a + 1) (c)))), .int .i64 (-((c).tdiv (gcdI (a + 1) (c))))]) (by simp [results, Tryz.results153, go_sem, Int.tdiv_neg, wrap0q, hw1, hw2, hv1, hv2, hc1, hz1a, hz1b, hz1c, hc2, hz2a, hz2b, hz2c]) rfl ⟨ret_val EA.out.symm, ?_⟩
   exact pkGd0

set_option maxHeartbeats 4000000 in
theorem l02Axis_any (a b c d : Int) (w : World) (h : matB a b c d = true) (hr : reflB a b c d = true) :
  Calls Tryz.prog 155 #[.agg #[.int .i64 a, .int .i64 b, .int .i64 c, .int .i64 d]] w fun e w' => e = .returned (axVal a b c d) ∧ Below w.heap.size w w' := by
 obtain ⟨hD, hT⟩ := refl_facts hr
 obtain ⟨⟨ha, hb⟩, hc, hd⟩ := limB_bd (matB_lim h)
 obtain ⟨ha, ha'⟩ := ha
 obtain ⟨hb, hb'⟩ := hb
 obtain ⟨hc, hc'⟩ := hc
 obtain ⟨hd, hd'⟩ := hd
 clear h hr
 by_cases h1 : a = -1
 ·subst h1
  by_cases h2 : c = 0
  ·subst h2
   obtain rfl : d = 1 := by omega
   have hax : axB (-1) b 0 1 = (b, 2) := rfl
   have hxy : ¬ (b = 0 ∧ (2 : Int) = 0) := by omega
   have hg1 := gcdI_pos hxy
   have hg2 := gcdI_bdq hxy (by omega) (by omega) (by omega) (by omega)
   obtain ⟨t1, t2⟩ := tdivBq (b) (gcdI (b) (2)) (by omega) (by omega)
   obtain ⟨t3, t4⟩ := tdivBq (2) (gcdI (b) (2)) (by omega) (by omega)
   obtain ⟨t5, t6⟩ := tdivBq (b) (-gcdI (b) (2)) (by omega) (by omega)
   obtain ⟨t7, t8⟩ := tdivBq (2) (-gcdI (b) (2)) (by omega) (by omega)
   clear hD hT
   rcases hl : lessB b 2 0 0 with _ | _
   ·have ea : axVal (-1) b 0 1 = .agg #[.int .i64 ((b).tdiv (gcdI (b) ((2 : Int)))), .int .i64 (((2 : Int)).tdiv (gcdI (b) ((2 : Int))))] := by simp [axVal, axP, axR, hax, hl]
    have hl2 := (less_divq hxy).trans hl
    have EA := Lib.hid ea
    clear ea
    go_enter Tryz.func155, Tryz.ntmps155
    clear hl hax
    go_wp2_with fail
    refine (divisor2_any _ _ _ (by omega) (by omega) (by omega) (by omega)).mono ?_
    rintro e w1 ⟨rfl, hb1⟩
    obtain ⟨hc1, hf1⟩ := bcell hb1
    obtain ⟨hz1a, hz1b, hz1c⟩ : w.heap.size < w1.heap.size ∧ w.heap.size + 1 < w1.heap.size ∧ w.heap.size + 1 + 1 < w1.heap.size := by have := hb1.size; (try simp at this); omega
    go_wp2_with fail
    have K1 : Kg (w.heap.size + 1 + 1) (b) ((2 : Int)) w1 := ⟨hz1c, by simp [go_sem, hc1, hz1a, hz1b, hz1c], by simp [go_sem, hc1, hz1a, hz1b, hz1c]⟩
    have hw1 : IntKind.i64.wrap ((b).tdiv (gcdI (b) ((2 : Int)))) = (b).tdiv (gcdI (b) ((2 : Int))) := IntWalk.i64_in _ (by omega)
    have hw2 : IntKind.i64.wrap (((2 : Int)).tdiv (gcdI (b) ((2 : Int)))) = ((2 : Int)).tdiv (gcdI (b) ((2 : Int))) := IntWalk.i64_in _ (by omega)
    have hz0 : ¬ gcdI (b) ((2 : Int)) = 0 := by omega
    obtain ⟨_, k0, k1⟩ := K1
    go_region
    go_wp2_with fail
    refine (lessq_any _ _ _ _ _).mono ?_
    rintro e w2 ⟨rfl, hb2⟩
    obtain ⟨hc2, hf2⟩ := bcell hb2
    obtain ⟨hz2a, hz2b, hz2c⟩ : w.heap.size < w2.heap.size ∧ w.heap.size + 1 < w2.heap.size ∧ w.heap.size + 1 + 1 < w2.heap.size := by have := hb2.size; (try simp at this); omega
    go_wp2
    refine bodyPost_ret (v := .agg #[.int .i64 ((b).tdiv (gcdI (b) ((2 : Int)))), .int .i64 (((2 : Int)).tdiv (gcdI (b) ((2 : Int))))]) (by simp [results, Tryz.results155, go_sem, hc1, hz1a, hz1b, hz1c, hc2, hz2a, hz2b, hz2c]) rfl ⟨ret_val EA.out.symm, ?_⟩
    exact pkGd0
   ·have ea : axVal (-1) b 0 1 = .agg #[.int .i64 (-((b).tdiv (gcdI (b) ((2 : Int))))), .int .i64 (-(((2 : Int)).tdiv (gcdI (b) ((2 : Int)))))] := by simp [axVal, axP, axR, hax, hl]
    have hl2 := (less_divq hxy).trans hl
    have EA := Lib.hid ea
    clear ea
    go_enter Tryz.func155, Tryz.ntmps155
    clear hl hax
    go_wp2_with fail
    refine (divisor2_any _ _ _ (by omega) (by omega) (by omega) (by omega)).mono ?_
    rintro e w1 ⟨rfl, hb1⟩
    obtain ⟨hc1, hf1⟩ := bcell hb1
    obtain ⟨hz1a, hz1b, hz1c⟩ : w.heap.size < w1.heap.size ∧ w.heap.size + 1 < w1.heap.size ∧ w.heap.size + 1 + 1 < w1.heap.size := by have := hb1.size; (try simp at this); omega
    go_wp2_with fail
    have K1 : Kg (w.heap.size + 1 + 1) (b) ((2 : Int)) w1 := ⟨hz1c, by simp [go_sem, hc1, hz1a, hz1b, hz1c], by simp [go_sem, hc1, hz1a, hz1b, hz1c]⟩
    have hw1 : IntKind.i64.wrap ((b).tdiv (gcdI (b) ((2 : Int)))) = (b).tdiv (gcdI (b) ((2 : Int))) := IntWalk.i64_in _ (by omega)
    have hw2 : IntKind.i64.wrap (((2 : Int)).tdiv (gcdI (b) ((2 : Int)))) = ((2 : Int)).tdiv (gcdI (b) ((2 : Int))) := IntWalk.i64_in _ (by omega)
    have hz0 : ¬ gcdI (b) ((2 : Int)) = 0 := by omega
    obtain ⟨_, k0, k1⟩ := K1
    go_region
    go_wp2_with fail
    refine (lessq_any _ _ _ _ _).mono ?_
    rintro e w2 ⟨rfl, hb2⟩
    obtain ⟨hc2, hf2⟩ := bcell hb2
    obtain ⟨hz2a, hz2b, hz2c⟩ : w.heap.size < w2.heap.size ∧ w.heap.size + 1 < w2.heap.size ∧ w.heap.size + 1 + 1 < w2.heap.size := by have := hb2.size; (try simp at this); omega
    have q0 : w2.cell? ⟨w.heap.size + 1 + 1, 0, none⟩ = some (.int .i64 ((b).tdiv (gcdI (b) ((2 : Int))))) := by simp [go_sem, hc1, hz1a, hz1b, hz1c, hc2, hz2a, hz2b, hz2c, hf1, hf2, k0, k1, hw1, hw2]
    have q1 : w2.cell? ⟨w.heap.size + 1 + 1, 1, none⟩ = some (.int .i64 (((2 : Int)).tdiv (gcdI (b) ((2 : Int))))) := by simp [go_sem, hc1, hz1a, hz1b, hz1c, hc2, hz2a, hz2b, hz2c, hf1, hf2, k0, k1, hw1, hw2]
    have q2 : w2.cell? ⟨w.heap.size + 1, 0, none⟩ = some (.int .i64 0) := by simp [go_sem, hc1, hz1a, hz1b, hz1c, hc2, hz2a, hz2b, hz2c, hf1, hf2, k0, k1, hw1, hw2]
    have q3 : w2.cell? ⟨w.heap.size + 1, 1, none⟩ = some (.int .i64 0) := by simp [go_sem, hc1, hz1a, hz1b, hz1c, hc2, hz2a, hz2b, hz2c, hf1, hf2, k0, k1, hw1, hw2]
    have r0 : w2.frozen? ⟨w.heap.size + 1 + 1, 0, none⟩ = false := by simp [go_sem, hc1, hz1a, hz1b, hz1c, hc2, hz2a, hz2b, hz2c, hf1, hf2, k0, k1, hw1, hw2]
    have r1 : w2.frozen? ⟨w.heap.size + 1 + 1, 1, none⟩ = false := by simp [go_sem, hc1, hz1a, hz1b, hz1c, hc2, hz2a, hz2b, hz2c, hf1, hf2, k0, k1, hw1, hw2]
    have r2 : w2.frozen? ⟨w.heap.size + 1, 0, none⟩ = false := by simp [go_sem, hc1, hz1a, hz1b, hz1c, hc2, hz2a, hz2b, hz2c, hf1, hf2, k0, k1, hw1, hw2]
    have r3 : w2.frozen? ⟨w.heap.size + 1, 1, none⟩ = false := by simp [go_sem, hc1, hz1a, hz1b, hz1c, hc2, hz2a, hz2b, hz2c, hf1, hf2, k0, k1, hw1, hw2]
    go_wp2_with fail
    refine (l01Neg_any _ _ _ (by omega) (by omega) (by omega) (by omega)).mono ?_
    rintro e w3 ⟨rfl, hb3⟩
    obtain ⟨hc3, hf3⟩ := bcell hb3
    obtain ⟨hz3a, hz3b, hz3c⟩ : w.heap.size < w3.heap.size ∧ w.heap.size + 1 < w3.heap.size ∧ w.heap.size + 1 + 1 < w3.heap.size := by have := hb3.size; (try simp at this); omega
    have s0 := (hc3 _ 0 hz2c).trans q0
    have s1 := (hc3 _ 1 hz2c).trans q1
    have s2 := (hc3 _ 0 hz2b).trans q2
    have s3 := (hc3 _ 1 hz2b).trans q3
    have v0 := (hf3 _ 0 hz2c).trans r0
    have v1 := (hf3 _ 1 hz2c).trans r1
    have v2 := (hf3 _ 0 hz2b).trans r2
    have v3 := (hf3 _ 1 hz2b).trans r3
    clear hc3 hf3 q0 q1 q2 q3 r0 r1 r2 r3 hc1 hf1 hc2 hf2
    go_wp2
    refine bodyPost_ret (v := .agg #[.int .i64 (-((b).tdiv (gcdI (b) ((2 : Int))))), .int .i64 (-(((2 : Int)).tdiv (gcdI (b) ((2 : Int)))))]) (by simp [results, Tryz.results155, go_sem, s0, s1, s2, s3]) rfl ⟨ret_val EA.out.symm, ?_⟩
    exact pkGd0
  ·obtain rfl : d = 1 := by omega
   have nb : (c == 0) = false := by simpa using h2
   have hax : axB (-1) b c 1 = (0, c) := by simp [axB, nb]
   have hxy : ¬ ((0 : Int) = 0 ∧ c = 0) := by omega
   have hg1 := gcdI_pos hxy
   have hg2 := gcdI_bdq hxy (by omega) (by omega) (by omega) (by omega)
   obtain ⟨t1, t2⟩ := tdivBq (0) (gcdI (0) (c)) (by omega) (by omega)
   obtain ⟨t3, t4⟩ := tdivBq (c) (gcdI (0) (c)) (by omega) (by omega)
   obtain ⟨t5, t6⟩ := tdivBq (0) (-gcdI (0) (c)) (by omega) (by omega)
   obtain ⟨t7, t8⟩ := tdivBq (c) (-gcdI (0) (c)) (by omega) (by omega)
   clear hD hT
   rcases hl : lessB 0 c 0 0 with _ | _
   ·have ea : axVal (-1) b c 1 = .agg #[.int .i64 (((0 : Int)).tdiv (gcdI ((0 : Int)) (c))), .int .i64 ((c).tdiv (gcdI ((0 : Int)) (c)))] := by simp [axVal, axP, axR, hax, hl]
    have hl2 := (less_divq hxy).trans hl
    have EA := Lib.hid ea
    clear ea
    go_enter Tryz.func155, Tryz.ntmps155
    clear hl hax
    go_wp2_with fail
    refine (divisor2_any _ _ _ (by omega) (by omega) (by omega) (by omega)).mono ?_
    rintro e w1 ⟨rfl, hb1⟩
    obtain ⟨hc1, hf1⟩ := bcell hb1
    obtain ⟨hz1a, hz1b, hz1c⟩ : w.heap.size < w1.heap.size ∧ w.heap.size + 1 < w1.heap.size ∧ w.heap.size + 1 + 1 < w1.heap.size := by have := hb1.size; (try simp at this); omega
    go_wp2_with fail
    have K1 : Kg (w.heap.size + 1 + 1) ((0 : Int)) (c) w1 := ⟨hz1c, by simp [go_sem, hc1, hz1a, hz1b, hz1c], by simp [go_sem, hc1, hz1a, hz1b, hz1c]⟩
    have hw1 : IntKind.i64.wrap (((0 : Int)).tdiv (gcdI ((0 : Int)) (c))) = ((0 : Int)).tdiv (gcdI ((0 : Int)) (c)) := IntWalk.i64_in _ (by omega)
    have hw2 : IntKind.i64.wrap ((c).tdiv (gcdI ((0 : Int)) (c))) = (c).tdiv (gcdI ((0 : Int)) (c)) := IntWalk.i64_in _ (by omega)
    have hz0 : ¬ gcdI ((0 : Int)) (c) = 0 := by omega
    obtain ⟨_, k0, k1⟩ := K1
    go_region
    have hl3 := hl2
    rw [Int.zero_tdiv] at hl3
    go_wp2_with fail
    refine (lessq_any _ _ _ _ _).mono ?_
    rintro e w2 ⟨rfl, hb2⟩
    obtain ⟨hc2, hf2⟩ := bcell hb2
    obtain ⟨hz2a, hz2b, hz2c⟩ : w.heap.size < w2.heap.size ∧ w.heap.size + 1 < w2.heap.size ∧ w.heap.size + 1 + 1 < w2.heap.size := by have := hb2.size; (try simp at this); omega
    go_wp2
    refine bodyPost_ret (v := .agg #[.int .i64 (((0 : Int)).tdiv (gcdI ((0 : Int)) (c))), .int .i64 ((c).tdiv (gcdI ((0 : Int)) (c)))]) (by simp [results, Tryz.results155, go_sem, hc1, hz1a, hz1b, hz1c, hc2, hz2a, hz2b, hz2c]) rfl ⟨ret_val EA.out.symm, ?_⟩
    exact pkGd0
   ·have ea : axVal (-1) b c 1 = .agg #[.int .i64 (-(((0 : Int)).tdiv (gcdI ((0 : Int)) (c)))), .int .i64 (-((c).tdiv (gcdI ((0 : Int)) (c))))] := by simp [axVal, axP, axR, hax, hl]
    have hl2 := (less_divq hxy).trans hl
    have EA := Lib.hid ea
    clear ea
    go_enter Tryz.func155, Tryz.ntmps155
    clear hl hax
    go_wp2_with fail
    refine (divisor2_any _ _ _ (by omega) (by omega) (by omega) (by omega)).mono ?_
    rintro e w1 ⟨rfl, hb1⟩
    obtain ⟨hc1, hf1⟩ := bcell hb1
    obtain ⟨hz1a, hz1b, hz1c⟩ : w.heap.size < w1.heap.size ∧ w.heap.size + 1 < w1.heap.size ∧ w.heap.size + 1 + 1 < w1.heap.size := by have := hb1.size; (try simp at this); omega
    go_wp2_with fail
    have K1 : Kg (w.heap.size + 1 + 1) ((0 : Int)) (c) w1 := ⟨hz1c, by simp [go_sem, hc1, hz1a, hz1b, hz1c], by simp [go_sem, hc1, hz1a, hz1b, hz1c]⟩
    have hw1 : IntKind.i64.wrap (((0 : Int)).tdiv (gcdI ((0 : Int)) (c))) = ((0 : Int)).tdiv (gcdI ((0 : Int)) (c)) := IntWalk.i64_in _ (by omega)
    have hw2 : IntKind.i64.wrap ((c).tdiv (gcdI ((0 : Int)) (c))) = (c).tdiv (gcdI ((0 : Int)) (c)) := IntWalk.i64_in _ (by omega)
    have hz0 : ¬ gcdI ((0 : Int)) (c) = 0 := by omega
    obtain ⟨_, k0, k1⟩ := K1
    go_region
    have hl3 := hl2
    rw [Int.zero_tdiv] at hl3
    go_wp2_with fail
    refine (lessq_any _ _ _ _ _).mono ?_
    rintro e w2 ⟨rfl, hb2⟩
    obtain ⟨hc2, hf2⟩ := bcell hb2
    obtain ⟨hz2a, hz2b, hz2c⟩ : w.heap.size < w2.heap.size ∧ w.heap.size + 1 < w2.heap.size ∧ w.heap.size + 1 + 1 < w2.heap.size := by have := hb2.size; (try simp at this); omega
    have q0 : w2.cell? ⟨w.heap.size + 1 + 1, 0, none⟩ = some (.int .i64 (((0 : Int)).tdiv (gcdI ((0 : Int)) (c)))) := by simp [go_sem, hc1, hz1a, hz1b, hz1c, hc2, hz2a, hz2b, hz2c, hf1, hf2, k0, k1, hw1, hw2]
    have q1 : w2.cell? ⟨w.heap.size + 1 + 1, 1, none⟩ = some (.int .i64 ((c).tdiv (gcdI ((0 : Int)) (c)))) := by simp [go_sem, hc1, hz1a, hz1b, hz1c, hc2, hz2a, hz2b, hz2c, hf1, hf2, k0, k1, hw1, hw2]
    have q2 : w2.cell? ⟨w.heap.size + 1, 0, none⟩ = some (.int .i64 0) := by simp [go_sem, hc1, hz1a, hz1b, hz1c, hc2, hz2a, hz2b, hz2c, hf1, hf2, k0, k1, hw1, hw2]
    have q3 : w2.cell? ⟨w.heap.size + 1, 1, none⟩ = some (.int .i64 0) := by simp [go_sem, hc1, hz1a, hz1b, hz1c, hc2, hz2a, hz2b, hz2c, hf1, hf2, k0, k1, hw1, hw2]
    have r0 : w2.frozen? ⟨w.heap.size + 1 + 1, 0, none⟩ = false := by simp [go_sem, hc1, hz1a, hz1b, hz1c, hc2, hz2a, hz2b, hz2c, hf1, hf2, k0, k1, hw1, hw2]
    have r1 : w2.frozen? ⟨w.heap.size + 1 + 1, 1, none⟩ = false := by simp [go_sem, hc1, hz1a, hz1b, hz1c, hc2, hz2a, hz2b, hz2c, hf1, hf2, k0, k1, hw1, hw2]
    have r2 : w2.frozen? ⟨w.heap.size + 1, 0, none⟩ = false := by simp [go_sem, hc1, hz1a, hz1b, hz1c, hc2, hz2a, hz2b, hz2c, hf1, hf2, k0, k1, hw1, hw2]
    have r3 : w2.frozen? ⟨w.heap.size + 1, 1, none⟩ = false := by simp [go_sem, hc1, hz1a, hz1b, hz1c, hc2, hz2a, hz2b, hz2c, hf1, hf2, k0, k1, hw1, hw2]
    go_wp2_with fail
    refine (l01Neg_any _ _ _ (by omega) (by omega) (by omega) (by omega)).mono ?_
    rintro e w3 ⟨rfl, hb3⟩
    obtain ⟨hc3, hf3⟩ := bcell hb3
    obtain ⟨hz3a, hz3b, hz3c⟩ : w.heap.size < w3.heap.size ∧ w.heap.size + 1 < w3.heap.size ∧ w.heap.size + 1 + 1 < w3.heap.size := by have := hb3.size; (try simp at this); omega
    have s0 := (hc3 _ 0 hz2c).trans q0
    have s1 := (hc3 _ 1 hz2c).trans q1
    have s2 := (hc3 _ 0 hz2b).trans q2
    have s3 := (hc3 _ 1 hz2b).trans q3
    have v0 := (hf3 _ 0 hz2c).trans r0
    have v1 := (hf3 _ 1 hz2c).trans r1
    have v2 := (hf3 _ 0 hz2b).trans r2
    have v3 := (hf3 _ 1 hz2b).trans r3
    clear hc3 hf3 q0 q1 q2 q3 r0 r1 r2 r3 hc1 hf1 hc2 hf2
    go_wp2
    refine bodyPost_ret (v := .agg #[.int .i64 (-(((0 : Int)).tdiv (gcdI ((0 : Int)) (c)))), .int .i64 (-((c).tdiv (gcdI ((0 : Int)) (c))))]) (by simp [results, Tryz.results155, go_sem, s0, s1, s2, s3]) rfl ⟨ret_val EA.out.symm, ?_⟩
    exact pkGd0
 ·have h1' : ¬ a + 1 = 0 := by omega
  have nb : (a + 1 == 0) = false := by simpa using h1'
  have hax : axB a b c d = (a + 1, c) := by simp [axB, nb]
  have hxy : ¬ (a + 1 = 0 ∧ c = 0) := by omega
  have hg1 := gcdI_pos hxy
  have hg2 := gcdI_bdq hxy (by omega) (by omega) (by omega) (by omega)
  obtain ⟨t1, t2⟩ := tdivBq (a + 1) (gcdI (a + 1) (c)) (by omega) (by omega)
  obtain ⟨t3, t4⟩ := tdivBq (c) (gcdI (a + 1) (c)) (by omega) (by omega)
  obtain ⟨t5, t6⟩ := tdivBq (a + 1) (-gcdI (a + 1) (c)) (by omega) (by omega)
  obtain ⟨t7, t8⟩ := tdivBq (c) (-gcdI (a + 1) (c)) (by omega) (by omega)
  clear hD hT
  rcases hl : lessB (a + 1) c 0 0 with _ | _
  ·have ea : axVal a b c d = .agg #[.int .i64 ((a + 1).tdiv (gcdI (a + 1) (c))), .int .i64 ((c).tdiv (gcdI (a + 1) (c)))] := by simp [axVal, axP, axR, hax, hl]
   have hl2 := (less_divq hxy).trans hl
   have EA := Lib.hid ea
   clear ea
   go_enter Tryz.func155, Tryz.ntmps155
   clear hl hax
   go_wp2_with fail
   refine (divisor2_any _ _ _ (by omega) (by omega) (by omega) (by omega)).mono ?_
   rintro e w1 ⟨rfl, hb1⟩
   obtain ⟨hc1, hf1⟩ := bcell hb1
   obtain ⟨hz1a, hz1b, hz1c⟩ : w.heap.size < w1.heap.size ∧ w.heap.size + 1 < w1.heap.size ∧ w.heap.size + 1 + 1 < w1.heap.size := by have := hb1.size; (try simp at this); omega
   go_wp2_with fail
   have K1 : Kg (w.heap.size + 1 + 1) (a + 1) (c) w1 := ⟨hz1c, by simp [go_sem, hc1, hz1a, hz1b, hz1c], by simp [go_sem, hc1, hz1a, hz1b, hz1c]⟩
   have hw1 : IntKind.i64.wrap ((a + 1).tdiv (gcdI (a + 1) (c))) = (a + 1).tdiv (gcdI (a + 1) (c)) := IntWalk.i64_in _ (by omega)
   have hw2 : IntKind.i64.wrap ((c).tdiv (gcdI (a + 1) (c))) = (c).tdiv (gcdI (a + 1) (c)) := IntWalk.i64_in _ (by omega)
   have hz0 : ¬ gcdI (a + 1) (c) = 0 := by omega
   obtain ⟨_, k0, k1⟩ := K1
   go_region
   go_wp2_with fail
   refine (lessq_any _ _ _ _ _).mono ?_
   rintro e w2 ⟨rfl, hb2⟩
   obtain ⟨hc2, hf2⟩ := bcell hb2
   obtain ⟨hz2a, hz2b, hz2c⟩ : w.heap.size < w2.heap.size ∧ w.heap.size + 1 < w2.heap.size ∧ w.heap.size + 1 + 1 < w2.heap.size := by have := hb2.size; (try simp at this); omega
   go_wp2
   refine bodyPost_ret (v := .agg #[.int .i64 ((a + 1).tdiv (gcdI (a + 1) (c))), .int .i64 ((c).tdiv (gcdI (a + 1) (c)))]) (by simp [results, Tryz.results155, go_sem, hc1, hz1a, hz1b, hz1c, hc2, hz2a, hz2b, hz2c]) rfl ⟨ret_val EA.out.symm, ?_⟩
   exact pkGd0
  ·have ea : axVal a b c d = .agg #[.int .i64 (-((a + 1).tdiv (gcdI (a + 1) (c)))), .int .i64 (-((c).tdiv (gcdI (a + 1) (c))))] := by simp [axVal, axP, axR, hax, hl]
   have hl2 := (less_divq hxy).trans hl
   have EA := Lib.hid ea
   clear ea
   go_enter Tryz.func155, Tryz.ntmps155
   clear hl hax
   go_wp2_with fail
   refine (divisor2_any _ _ _ (by omega) (by omega) (by omega) (by omega)).mono ?_
   rintro e w1 ⟨rfl, hb1⟩
   obtain ⟨hc1, hf1⟩ := bcell hb1
   obtain ⟨hz1a, hz1b, hz1c⟩ : w.heap.size < w1.heap.size ∧ w.heap.size + 1 < w1.heap.size ∧ w.heap.size + 1 + 1 < w1.heap.size := by have := hb1.size; (try simp at this); omega
   go_wp2_with fail
   have K1 : Kg (w.heap.size + 1 + 1) (a + 1) (c) w1 := ⟨hz1c, by simp [go_sem, hc1, hz1a, hz1b, hz1c], by simp [go_sem, hc1, hz1a, hz1b, hz1c]⟩
   have hw1 : IntKind.i64.wrap ((a + 1).tdiv (gcdI (a + 1) (c))) = (a + 1).tdiv (gcdI (a + 1) (c)) := IntWalk.i64_in _ (by omega)
   have hw2 : IntKind.i64.wrap ((c).tdiv (gcdI (a + 1) (c))) = (c).tdiv (gcdI (a + 1) (c)) := IntWalk.i64_in _ (by omega)
   have hz0 : ¬ gcdI (a + 1) (c) = 0 := by omega
   obtain ⟨_, k0, k1⟩ := K1
   go_region
   go_wp2_with fail
   refine (lessq_any _ _ _ _ _).mono ?_
   rintro e w2 ⟨rfl, hb2⟩
   obtain ⟨hc2, hf2⟩ := bcell hb2
   obtain ⟨hz2a, hz2b, hz2c⟩ : w.heap.size < w2.heap.size ∧ w.heap.size + 1 < w2.heap.size ∧ w.heap.size + 1 + 1 < w2.heap.size := by have := hb2.size; (try simp at this); omega
   have q0 : w2.cell? ⟨w.heap.size + 1 + 1, 0, none⟩ = some (.int .i64 ((a + 1).tdiv (gcdI (a + 1) (c)))) := by simp [go_sem, hc1, hz1a, hz1b, hz1c, hc2, hz2a, hz2b, hz2c, hf1, hf2, k0, k1, hw1, hw2]
   have q1 : w2.cell? ⟨w.heap.size + 1 + 1, 1, none⟩ = some (.int .i64 ((c).tdiv (gcdI (a + 1) (c)))) := by simp [go_sem, hc1, hz1a, hz1b, hz1c, hc2, hz2a, hz2b, hz2c, hf1, hf2, k0, k1, hw1, hw2]
   have q2 : w2.cell? ⟨w.heap.size + 1, 0, none⟩ = some (.int .i64 0) := by simp [go_sem, hc1, hz1a, hz1b, hz1c, hc2, hz2a, hz2b, hz2c, hf1, hf2, k0, k1, hw1, hw2]
   have q3 : w2.cell? ⟨w.heap.size + 1, 1, none⟩ = some (.int .i64 0) := by simp [go_sem, hc1, hz1a, hz1b, hz1c, hc2, hz2a, hz2b, hz2c, hf1, hf2, k0, k1, hw1, hw2]
   have r0 : w2.frozen? ⟨w.heap.size + 1 + 1, 0, none⟩ = false := by simp [go_sem, hc1, hz1a, hz1b, hz1c, hc2, hz2a, hz2b, hz2c, hf1, hf2, k0, k1, hw1, hw2]
   have r1 : w2.frozen? ⟨w.heap.size + 1 + 1, 1, none⟩ = false := by simp [go_sem, hc1, hz1a, hz1b, hz1c, hc2, hz2a, hz2b, hz2c, hf1, hf2, k0, k1, hw1, hw2]
   have r2 : w2.frozen? ⟨w.heap.size + 1, 0, none⟩ = false := by simp [go_sem, hc1, hz1a, hz1b, hz1c, hc2, hz2a, hz2b, hz2c, hf1, hf2, k0, k1, hw1, hw2]
   have r3 : w2.frozen? ⟨w.heap.size + 1, 1, none⟩ = false := by simp [go_sem, hc1, hz1a, hz1b, hz1c, hc2, hz2a, hz2b, hz2c, hf1, hf2, k0, k1, hw1, hw2]
   go_wp2_with fail
   refine (l01Neg_any _ _ _ (by omega) (by omega) (by omega) (by omega)).mono ?_
   rintro e w3 ⟨rfl, hb3⟩
   obtain ⟨hc3, hf3⟩ := bcell hb3
   obtain ⟨hz3a, hz3b, hz3c⟩ : w.heap.size < w3.heap.size ∧ w.heap.size + 1 < w3.heap.size ∧ w.heap.size + 1 + 1 < w3.heap.size := by have := hb3.size; (try simp at this); omega
   have s0 := (hc3 _ 0 hz2c).trans q0
   have s1 := (hc3 _ 1 hz2c).trans q1
   have s2 := (hc3 _ 0 hz2b).trans q2
   have s3 := (hc3 _ 1 hz2b).trans q3
   have v0 := (hf3 _ 0 hz2c).trans r0
   have v1 := (hf3 _ 1 hz2c).trans r1
   have v2 := (hf3 _ 0 hz2b).trans r2
   have v3 := (hf3 _ 1 hz2b).trans r3
   clear hc3 hf3 q0 q1 q2 q3 r0 r1 r2 r3 hc1 hf1 hc2 hf2
   go_wp2
   refine bodyPost_ret (v := .agg #[.int .i64 (-((a + 1).tdiv (gcdI (a + 1) (c)))), .int .i64 (-((c).tdiv (gcdI (a + 1) (c))))]) (by simp [results, Tryz.results155, go_sem, s0, s1, s2, s3]) rfl ⟨ret_val EA.out.symm, ?_⟩
   exact pkGd0
end
end Go.Proofs.YtjjfomokecngoaaGreatDoor

namespace Go.Proofs.YtjjfomokecngoaaGreatDoor
section
open Go.RowKit
set_option linter.unusedSimpArgs false
set_option linter.unusedVariables false

/- the program's variable unitMatrix holds the unit -/
def UnitOK (W : World) : Prop := Kq 0 1 0 0 1 W
theorem UnitOK.call {W w1 : World} (h : UnitOK W) (hb : Below W.heap.size W w1) : UnitOK w1 := Kq.call h hb
theorem UnitOK.alloc {W : World} (h : UnitOK W) (o : Obj) : UnitOK (W.alloc o) := Kq.alloc h o
theorem UnitOK.drew {W : World} (h : UnitOK W) : UnitOK W.drew := Kq.drew h

set_option maxHeartbeats 1000000 in
theorem timesU_any (w : World) :
  Calls Tryz.prog 176 #[.agg #[.int .i64 1, .int .i64 0, .int .i64 0, .int .i64 1], .int .i64 (-1)] w fun e w' => e = .returned (.agg #[.int .i64 (-1), .int .i64 0, .int .i64 0, .int .i64 (-1)]) ∧ Below w.heap.size w w' :=
 (timesM_any 1 0 0 1 (-1) w (by decide) (by decide)).mono fun _ _ h => by simpa using h

theorem eqArr (a b c d a' b' c' d' : Int) (w : World) : (Op.equalIn 10000 133 (.agg #[.int .i64 a, .int .i64 b, .int .i64 c, .int .i64 d]) (.agg #[.int .i64 a', .int .i64 b', .int .i64 c', .int .i64 d'])).run Tryz.prog w = .ok (eqM a b c d a' b' c' d') w := by
 have u3 := Tryz.underlying2
 have a3 := Tryz.isAgg2
 have z3 := Tryz.sizeOf2
 rw [show (10000 : Nat) = 9999 + 1 from rfl, Op.equalIn]
 simp only [Sem.run_bind, run_underlying Tryz.underlying133, Result.andThen_ok]
 simp only [Std.Legacy.Range.forIn_eq_forIn_range', Std.Legacy.Range.size, Nat.sub_zero, Nat.add_sub_cancel, Nat.div_one, List.range'_succ, List.range'_zero, List.forIn_cons, List.forIn_nil]
 go_simp
 unfold eqM
 by_cases h1 : a = a' <;> by_cases h2 : b = b' <;> by_cases h3 : c = c' <;> by_cases h4 : d = d' <;> simp [h1, h2, h3, h4]
attribute [local go_sem ↓] eqArr

theorem ordT_eqs {a b c d : Int} : unitB a b c d = eqM a b c d 1 0 0 1 := rfl
set_option maxHeartbeats 4000000 in
theorem order_any (a b c d : Int) (w : World) (h : matB a b c d = true) (hU : UnitOK w) :
  Calls Tryz.prog 111 #[.agg #[.int .i64 a, .int .i64 b, .int .i64 c, .int .i64 d]] w fun e w' => e = .returned (.int .i64 (ordT a b c d)) ∧ Below w.heap.size w w' := by
 have lu := matB_lim h
 rcases h1 : eqM a b c d 1 0 0 1 with _ | _
 case true =>
  have ea : ordT a b c d = 1 := by simp [ordT, ordT_eqs, h1]
  have EA := Lib.hid ea
  clear ea
  have U0 : Kq 0 1 0 0 1 (w.alloc (.cells #[.int .i64 a, .int .i64 b, .int .i64 c, .int .i64 d] 133)) := Kq.alloc hU _
  have M0 : Kq w.heap.size a b c d (w.alloc (.cells #[.int .i64 a, .int .i64 b, .int .i64 c, .int .i64 d] 133)) := Kq.at _ rfl
  obtain ⟨u0, u1, u2, u3, u4⟩ := id hU
  have un : ¬ 0 = w.heap.size := by omega
  go_enter Tryz.func111, Tryz.ntmps111
  go_wp2_with fail
  go_wp2
  go_ret
  refine ⟨ret_int EA.out.symm, ?_⟩
  repeat (first | exact B1 | exact Below.refl _ _ | refine Below.setCell ?_ (by first | omega | (simp <;> omega)) _ | refine Below.alloc ?_ (by first | omega | (simp <;> omega)) _ | refine bstep ?_ (by assumption) | refine Below.drew ?_)
 rcases h2 : eqM a b c d (-1) 0 0 (-1) with _ | _
 case true =>
  have ea : ordT a b c d = 2 := by
   have h3 : (a == -1 && b == 0 && c == 0 && d == -1) = true := h2
   simp [ordT, ordT_eqs, h1, h3]
  have EA := Lib.hid ea
  clear ea
  have U0 : Kq 0 1 0 0 1 (w.alloc (.cells #[.int .i64 a, .int .i64 b, .int .i64 c, .int .i64 d] 133)) := Kq.alloc hU _
  have M0 : Kq w.heap.size a b c d (w.alloc (.cells #[.int .i64 a, .int .i64 b, .int .i64 c, .int .i64 d] 133)) := Kq.at _ rfl
  obtain ⟨u0, u1, u2, u3, u4⟩ := id hU
  have un : ¬ 0 = w.heap.size := by omega
  go_enter Tryz.func111, Tryz.ntmps111
  go_wp2_with fail
  go_region_held3 (fun W => (W.cell? ⟨w.heap.size, 0, none⟩ = some (.int .i64 a) ∧ W.cell? ⟨w.heap.size, 1, none⟩ = some (.int .i64 b) ∧ W.cell? ⟨w.heap.size, 2, none⟩ = some (.int .i64 c) ∧ W.cell? ⟨w.heap.size, 3, none⟩ = some (.int .i64 d)) ∧ W.cell? ⟨0, 0, none⟩ = some (.int .i64 1) ∧ W.cell? ⟨0, 1, none⟩ = some (.int .i64 0) ∧ W.cell? ⟨0, 2, none⟩ = some (.int .i64 0) ∧ W.cell? ⟨0, 3, none⟩ = some (.int .i64 1)) ((refine Kq.two ?_ ?_ <;> exact pkGd3))
   (first | (go_at_call 176; refine (timesU_any _).mono ?_; rintro e w1 ⟨rfl, hb1⟩; have M1 : Kq w.heap.size a b c d w1 := (by exact pkGd3); have B1 : Below w.heap.size w w1 := bstep (Below.drew (Below.alloc (Below.refl _ _) (Nat.le_refl _) _)) hb1))
  obtain ⟨m0, m1, m2, m3⟩ := M1.cells
  have M1l := M1.1
  go_wp2
  go_ret
  refine ⟨ret_int EA.out.symm, ?_⟩
  repeat (first | exact B1 | exact Below.refl _ _ | refine Below.setCell ?_ (by first | omega | (simp <;> omega)) _ | refine Below.alloc ?_ (by first | omega | (simp <;> omega)) _ | refine bstep ?_ (by assumption) | refine Below.drew ?_)
 have h3 : (a == -1 && b == 0 && c == 0 && d == -1) = false := h2
 rcases h4 : reflB a b c d with _ | _
 case true =>
  have ea : ordT a b c d = 2 := by
   have h5 : (a * d - b * c == -1 && a + d == 0) = true := h4
   simp [ordT, ordT_eqs, h1, h5]
  have EA := Lib.hid ea
  clear ea h3
  have U0 : Kq 0 1 0 0 1 (w.alloc (.cells #[.int .i64 a, .int .i64 b, .int .i64 c, .int .i64 d] 133)) := Kq.alloc hU _
  have M0 : Kq w.heap.size a b c d (w.alloc (.cells #[.int .i64 a, .int .i64 b, .int .i64 c, .int .i64 d] 133)) := Kq.at _ rfl
  obtain ⟨u0, u1, u2, u3, u4⟩ := id hU
  have un : ¬ 0 = w.heap.size := by omega
  go_enter Tryz.func111, Tryz.ntmps111
  go_wp2_with fail
  go_region_held3 (fun W => (W.cell? ⟨w.heap.size, 0, none⟩ = some (.int .i64 a) ∧ W.cell? ⟨w.heap.size, 1, none⟩ = some (.int .i64 b) ∧ W.cell? ⟨w.heap.size, 2, none⟩ = some (.int .i64 c) ∧ W.cell? ⟨w.heap.size, 3, none⟩ = some (.int .i64 d)) ∧ W.cell? ⟨0, 0, none⟩ = some (.int .i64 1) ∧ W.cell? ⟨0, 1, none⟩ = some (.int .i64 0) ∧ W.cell? ⟨0, 2, none⟩ = some (.int .i64 0) ∧ W.cell? ⟨0, 3, none⟩ = some (.int .i64 1)) ((refine Kq.two ?_ ?_ <;> exact pkGd3))
   (first | (go_at_call 176; refine (timesU_any _).mono ?_; rintro e w1 ⟨rfl, hb1⟩; have M1 : Kq w.heap.size a b c d w1 := (by exact pkGd3); have B1 : Below w.heap.size w w1 := bstep (Below.drew (Below.alloc (Below.refl _ _) (Nat.le_refl _) _)) hb1))
  obtain ⟨m0, m1, m2, m3⟩ := M1.cells
  have M1l := M1.1
  go_wp2_with fail
  refine (isReflection_any _ _ _ _ _ lu).mono ?_
  rintro e w2 ⟨rfl, hb2⟩
  have M2 := Kq.call M1 hb2
  obtain ⟨n2a, n2b, n2c, n2d⟩ := M2.cells
  go_wp2
  go_ret
  refine ⟨ret_int EA.out.symm, ?_⟩
  repeat (first | exact B1 | exact Below.refl _ _ | refine Below.setCell ?_ (by first | omega | (simp <;> omega)) _ | refine Below.alloc ?_ (by first | omega | (simp <;> omega)) _ | refine bstep ?_ (by assumption) | refine Below.drew ?_)
 have h5 : (a * d - b * c == -1 && a + d == 0) = false := h4
 rcases h6 : a * d - b * c == -1 with _ | _
 case true =>
  have ea : ordT a b c d = 0 := by unfold ordT; rw [ordT_eqs, h1, h3, h5]; simp [h6]
  have EA := Lib.hid ea
  clear ea h3 h5
  have U0 : Kq 0 1 0 0 1 (w.alloc (.cells #[.int .i64 a, .int .i64 b, .int .i64 c, .int .i64 d] 133)) := Kq.alloc hU _
  have M0 : Kq w.heap.size a b c d (w.alloc (.cells #[.int .i64 a, .int .i64 b, .int .i64 c, .int .i64 d] 133)) := Kq.at _ rfl
  obtain ⟨u0, u1, u2, u3, u4⟩ := id hU
  have un : ¬ 0 = w.heap.size := by omega
  go_enter Tryz.func111, Tryz.ntmps111
  go_wp2_with fail
  go_region_held3 (fun W => (W.cell? ⟨w.heap.size, 0, none⟩ = some (.int .i64 a) ∧ W.cell? ⟨w.heap.size, 1, none⟩ = some (.int .i64 b) ∧ W.cell? ⟨w.heap.size, 2, none⟩ = some (.int .i64 c) ∧ W.cell? ⟨w.heap.size, 3, none⟩ = some (.int .i64 d)) ∧ W.cell? ⟨0, 0, none⟩ = some (.int .i64 1) ∧ W.cell? ⟨0, 1, none⟩ = some (.int .i64 0) ∧ W.cell? ⟨0, 2, none⟩ = some (.int .i64 0) ∧ W.cell? ⟨0, 3, none⟩ = some (.int .i64 1)) ((refine Kq.two ?_ ?_ <;> exact pkGd3))
   (first | (go_at_call 176; refine (timesU_any _).mono ?_; rintro e w1 ⟨rfl, hb1⟩; have M1 : Kq w.heap.size a b c d w1 := (by exact pkGd3); have B1 : Below w.heap.size w w1 := bstep (Below.drew (Below.alloc (Below.refl _ _) (Nat.le_refl _) _)) hb1))
  obtain ⟨m0, m1, m2, m3⟩ := M1.cells
  have M1l := M1.1
  go_wp2_with fail
  refine (isReflection_any _ _ _ _ _ lu).mono ?_
  rintro e w2 ⟨rfl, hb2⟩
  have M2 := Kq.call M1 hb2
  obtain ⟨n2a, n2b, n2c, n2d⟩ := M2.cells
  go_wp2_with fail
  refine (det_any _ _ _ _ _ lu).mono ?_
  rintro e w3 ⟨rfl, hb3⟩
  have M3 := Kq.call M2 hb3
  obtain ⟨n3a, n3b, n3c, n3d⟩ := M3.cells
  go_wp2
  go_ret
  refine ⟨ret_int EA.out.symm, ?_⟩
  repeat (first | exact B1 | exact Below.refl _ _ | refine Below.setCell ?_ (by first | omega | (simp <;> omega)) _ | refine Below.alloc ?_ (by first | omega | (simp <;> omega)) _ | refine bstep ?_ (by assumption) | refine Below.drew ?_)
 rcases t0 : a + d == -1 with _ | _
 case true =>
  have ea : ordT a b c d = 3 := by unfold ordT; rw [ordT_eqs, h1, h3, h5]; simp only [h6, t0]; rfl
  have EA := Lib.hid ea
  clear ea h3 h5
  have U0 : Kq 0 1 0 0 1 (w.alloc (.cells #[.int .i64 a, .int .i64 b, .int .i64 c, .int .i64 d] 133)) := Kq.alloc hU _
  have M0 : Kq w.heap.size a b c d (w.alloc (.cells #[.int .i64 a, .int .i64 b, .int .i64 c, .int .i64 d] 133)) := Kq.at _ rfl
  obtain ⟨u0, u1, u2, u3, u4⟩ := id hU
  have un : ¬ 0 = w.heap.size := by omega
  go_enter Tryz.func111, Tryz.ntmps111
  go_wp2_with fail
  go_region_held3 (fun W => (W.cell? ⟨w.heap.size, 0, none⟩ = some (.int .i64 a) ∧ W.cell? ⟨w.heap.size, 1, none⟩ = some (.int .i64 b) ∧ W.cell? ⟨w.heap.size, 2, none⟩ = some (.int .i64 c) ∧ W.cell? ⟨w.heap.size, 3, none⟩ = some (.int .i64 d)) ∧ W.cell? ⟨0, 0, none⟩ = some (.int .i64 1) ∧ W.cell? ⟨0, 1, none⟩ = some (.int .i64 0) ∧ W.cell? ⟨0, 2, none⟩ = some (.int .i64 0) ∧ W.cell? ⟨0, 3, none⟩ = some (.int .i64 1)) ((refine Kq.two ?_ ?_ <;> exact pkGd3))
   (first | (go_at_call 176; refine (timesU_any _).mono ?_; rintro e w1 ⟨rfl, hb1⟩; have M1 : Kq w.heap.size a b c d w1 := (by exact pkGd3); have B1 : Below w.heap.size w w1 := bstep (Below.drew (Below.alloc (Below.refl _ _) (Nat.le_refl _) _)) hb1))
  obtain ⟨m0, m1, m2, m3⟩ := M1.cells
  have M1l := M1.1
  go_wp2_with fail
  refine (isReflection_any _ _ _ _ _ lu).mono ?_
  rintro e w2 ⟨rfl, hb2⟩
  have M2 := Kq.call M1 hb2
  obtain ⟨n2a, n2b, n2c, n2d⟩ := M2.cells
  go_wp2_with fail
  refine (det_any _ _ _ _ _ lu).mono ?_
  rintro e w3 ⟨rfl, hb3⟩
  have M3 := Kq.call M2 hb3
  obtain ⟨n3a, n3b, n3c, n3d⟩ := M3.cells
  go_wp2_with fail
  refine (trace_any _ _ _ _ _ lu).mono ?_
  rintro e w4 ⟨rfl, hb4⟩
  have M4 := Kq.call M3 hb4
  obtain ⟨n4a, n4b, n4c, n4d⟩ := M4.cells
  go_wp2
  go_ret
  refine ⟨ret_int EA.out.symm, ?_⟩
  repeat (first | exact B1 | exact Below.refl _ _ | refine Below.setCell ?_ (by first | omega | (simp <;> omega)) _ | refine Below.alloc ?_ (by first | omega | (simp <;> omega)) _ | refine bstep ?_ (by assumption) | refine Below.drew ?_)
 rcases t1 : a + d == 0 with _ | _
 case true =>
  have ea : ordT a b c d = 4 := by unfold ordT; rw [ordT_eqs, h1, h3, h5]; simp only [h6, t0, t1]; rfl
  have EA := Lib.hid ea
  clear ea h3 h5
  have U0 : Kq 0 1 0 0 1 (w.alloc (.cells #[.int .i64 a, .int .i64 b, .int .i64 c, .int .i64 d] 133)) := Kq.alloc hU _
  have M0 : Kq w.heap.size a b c d (w.alloc (.cells #[.int .i64 a, .int .i64 b, .int .i64 c, .int .i64 d] 133)) := Kq.at _ rfl
  obtain ⟨u0, u1, u2, u3, u4⟩ := id hU
  have un : ¬ 0 = w.heap.size := by omega
  go_enter Tryz.func111, Tryz.ntmps111
  go_wp2_with fail
  go_region_held3 (fun W => (W.cell? ⟨w.heap.size, 0, none⟩ = some (.int .i64 a) ∧ W.cell? ⟨w.heap.size, 1, none⟩ = some (.int .i64 b) ∧ W.cell? ⟨w.heap.size, 2, none⟩ = some (.int .i64 c) ∧ W.cell? ⟨w.heap.size, 3, none⟩ = some (.int .i64 d)) ∧ W.cell? ⟨0, 0, none⟩ = some (.int .i64 1) ∧ W.cell? ⟨0, 1, none⟩ = some (.int .i64 0) ∧ W.cell? ⟨0, 2, none⟩ = some (.int .i64 0) ∧ W.cell? ⟨0, 3, none⟩ = some (.int .i64 1)) ((refine Kq.two ?_ ?_ <;> exact pkGd3))
   (first | (go_at_call 176; refine (timesU_any _).mono ?_; rintro e w1 ⟨rfl, hb1⟩; have M1 : Kq w.heap.size a b c d w1 := (by exact pkGd3); have B1 : Below w.heap.size w w1 := bstep (Below.drew (Below.alloc (Below.refl _ _) (Nat.le_refl _) _)) hb1))
  obtain ⟨m0, m1, m2, m3⟩ := M1.cells
  have M1l := M1.1
  go_wp2_with fail
  refine (isReflection_any _ _ _ _ _ lu).mono ?_
  rintro e w2 ⟨rfl, hb2⟩
  have M2 := Kq.call M1 hb2
  obtain ⟨n2a, n2b, n2c, n2d⟩ := M2.cells
  go_wp2_with fail
  refine (det_any _ _ _ _ _ lu).mono ?_
  rintro e w3 ⟨rfl, hb3⟩
  have M3 := Kq.call M2 hb3
  obtain ⟨n3a, n3b, n3c, n3d⟩ := M3.cells
  go_wp2_with fail
  refine (trace_any _ _ _ _ _ lu).mono ?_
  rintro e w4 ⟨rfl, hb4⟩
  have M4 := Kq.call M3 hb4
  obtain ⟨n4a, n4b, n4c, n4d⟩ := M4.cells
  go_wp2
  go_ret
  refine ⟨ret_int EA.out.symm, ?_⟩
  repeat (first | exact B1 | exact Below.refl _ _ | refine Below.setCell ?_ (by first | omega | (simp <;> omega)) _ | refine Below.alloc ?_ (by first | omega | (simp <;> omega)) _ | refine bstep ?_ (by assumption) | refine Below.drew ?_)
 rcases t2 : a + d == 1 with _ | _
 case true =>
  have ea : ordT a b c d = 6 := by unfold ordT; rw [ordT_eqs, h1, h3, h5]; simp only [h6, t0, t1, t2]; rfl
  have EA := Lib.hid ea
  clear ea h3 h5
  have U0 : Kq 0 1 0 0 1 (w.alloc (.cells #[.int .i64 a, .int .i64 b, .int .i64 c, .int .i64 d] 133)) := Kq.alloc hU _
  have M0 : Kq w.heap.size a b c d (w.alloc (.cells #[.int .i64 a, .int .i64 b, .int .i64 c, .int .i64 d] 133)) := Kq.at _ rfl
  obtain ⟨u0, u1, u2, u3, u4⟩ := id hU
  have un : ¬ 0 = w.heap.size := by omega
  go_enter Tryz.func111, Tryz.ntmps111
  go_wp2_with fail
  go_region_held3 (fun W => (W.cell? ⟨w.heap.size, 0, none⟩ = some (.int .i64 a) ∧ W.cell? ⟨w.heap.size, 1, none⟩ = some (.int .i64 b) ∧ W.cell? ⟨w.heap.size, 2, none⟩ = some (.int .i64 c) ∧ W.cell? ⟨w.heap.size, 3, none⟩ = some (.int .i64 d)) ∧ W.cell? ⟨0, 0, none⟩ = some (.int .i64 1) ∧ W.cell? ⟨0, 1, none⟩ = some (.int .i64 0) ∧ W.cell? ⟨0, 2, none⟩ = some (.int .i64 0) ∧ W.cell? ⟨0, 3, none⟩ = some (.int .i64 1)) ((refine Kq.two ?_ ?_ <;> exact pkGd3))
   (first | (go_at_call 176; refine (timesU_any _).mono ?_; rintro e w1 ⟨rfl, hb1⟩; have M1 : Kq w.heap.size a b c d w1 := (by exact pkGd3); have B1 : Below w.heap.size w w1 := bstep (Below.drew (Below.alloc (Below.refl _ _) (Nat.le_refl _) _)) hb1))
  obtain ⟨m0, m1, m2, m3⟩ := M1.cells
  have M1l := M1.1
  go_wp2_with fail
  refine (isReflection_any _ _ _ _ _ lu).mono ?_
  rintro e w2 ⟨rfl, hb2⟩
  have M2 := Kq.call M1 hb2
  obtain ⟨n2a, n2b, n2c, n2d⟩ := M2.cells
  go_wp2_with fail
  refine (det_any _ _ _ _ _ lu).mono ?_
  rintro e w3 ⟨rfl, hb3⟩
  have M3 := Kq.call M2 hb3
  obtain ⟨n3a, n3b, n3c, n3d⟩ := M3.cells
  go_wp2_with fail
  refine (trace_any _ _ _ _ _ lu).mono ?_
  rintro e w4 ⟨rfl, hb4⟩
  have M4 := Kq.call M3 hb4
  obtain ⟨n4a, n4b, n4c, n4d⟩ := M4.cells
  go_wp2
  go_ret
  refine ⟨ret_int EA.out.symm, ?_⟩
  repeat (first | exact B1 | exact Below.refl _ _ | refine Below.setCell ?_ (by first | omega | (simp <;> omega)) _ | refine Below.alloc ?_ (by first | omega | (simp <;> omega)) _ | refine bstep ?_ (by assumption) | refine Below.drew ?_)
 have ea : ordT a b c d = 0 := by unfold ordT; rw [ordT_eqs, h1, h3, h5]; simp only [h6, t0, t1, t2]; rfl
 have EA := Lib.hid ea
 clear ea h3 h5
 have U0 : Kq 0 1 0 0 1 (w.alloc (.cells #[.int .i64 a, .int .i64 b, .int .i64 c, .int .i64 d] 133)) := Kq.alloc hU _
 have M0 : Kq w.heap.size a b c d (w.alloc (.cells #[.int .i64 a, .int .i64 b, .int .i64 c, .int .i64 d] 133)) := Kq.at _ rfl
 obtain ⟨u0, u1, u2, u3, u4⟩ := id hU
 have un : ¬ 0 = w.heap.size := by omega
 go_enter Tryz.func111, Tryz.ntmps111
 go_wp2_with fail
 go_region_held3 (fun W => (W.cell? ⟨w.heap.size, 0, none⟩ = some (.int .i64 a) ∧ W.cell? ⟨w.heap.size, 1, none⟩ = some (.int .i64 b) ∧ W.cell? ⟨w.heap.size, 2, none⟩ = some (.int .i64 c) ∧ W.cell? ⟨w.heap.size, 3, none⟩ = some (.int .i64 d)) ∧ W.cell? ⟨0, 0, none⟩ = some (.int .i64 1) ∧ W.cell? ⟨0, 1, none⟩ = some (.int .i64 0) ∧ W.cell? ⟨0, 2, none⟩ = some (.int .i64 0) ∧ W.cell? ⟨0, 3, none⟩ = some (.int .i64 1)) ((refine Kq.two ?_ ?_ <;> exact pkGd3))
  (first | (go_at_call 176; refine (timesU_any _).mono ?_; rintro e w1 ⟨rfl, hb1⟩; have M1 : Kq w.heap.size a b c d w1 := (by exact pkGd3); have B1 : Below w.heap.size w w1 := bstep (Below.drew (Below.alloc (Below.refl _ _) (Nat.le_refl _) _)) hb1))
 obtain ⟨m0, m1, m2, m3⟩ := M1.cells
 have M1l := M1.1
 go_wp2_with fail
 refine (isReflection_any _ _ _ _ _ lu).mono ?_
 rintro e w2 ⟨rfl, hb2⟩
 have M2 := Kq.call M1 hb2
 obtain ⟨n2a, n2b, n2c, n2d⟩ := M2.cells
 go_wp2_with fail
 refine (det_any _ _ _ _ _ lu).mono ?_
 rintro e w3 ⟨rfl, hb3⟩
 have M3 := Kq.call M2 hb3
 obtain ⟨n3a, n3b, n3c, n3d⟩ := M3.cells
 go_wp2_with fail
 refine (trace_any _ _ _ _ _ lu).mono ?_
 rintro e w4 ⟨rfl, hb4⟩
 have M4 := Kq.call M3 hb4
 obtain ⟨n4a, n4b, n4c, n4d⟩ := M4.cells
 go_wp2
 go_ret
 refine ⟨ret_int EA.out.symm, ?_⟩
 repeat (first | exact B1 | exact Below.refl _ _ | refine Below.setCell ?_ (by first | omega | (simp <;> omega)) _ | refine Below.alloc ?_ (by first | omega | (simp <;> omega)) _ | refine bstep ?_ (by assumption) | refine Below.drew ?_)
end
end Go.Proofs.YtjjfomokecngoaaGreatDoor

