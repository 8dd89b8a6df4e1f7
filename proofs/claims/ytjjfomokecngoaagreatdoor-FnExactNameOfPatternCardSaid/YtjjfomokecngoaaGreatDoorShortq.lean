/-
 The program's shortest: of a row of vectors those with the least norm. Conditions: the frame is valid, the row has at most eight vectors with bounded numbers.
-/
import Derived.Test.YtjjfomokecngoaaGreatDoorGe
import Derived.Test.YtjjfomokecngoaaGreatDoorGg
import Derived.Deep.RegionHeld3
namespace Go.Proofs.YtjjfomokecngoaaGreatDoor
open Go.RowKit
set_option linter.unusedSimpArgs false
set_option linter.unusedVariables false

theorem pkShortq0 {P : Prop} (h : P := by repeat (first | assumption | with_reducible refine Kg.drew ?_ | with_reducible refine Kg.call ?_ (by assumption) | with_reducible refine Ko2.drew ?_ | with_reducible refine Ko2.call ?_ (by assumption))) : P := h
theorem pkShortq1 {P : Prop} (h : P := by repeat (first | assumption | with_reducible refine Ko2.alloc ?_ _ | with_reducible refine Ko2.drew ?_ | with_reducible refine Ko2.call ?_ (by assumption))) : P := h
theorem pkShortq2 {P : Prop} (h : P := by repeat (first | assumption | with_reducible refine Kg.alloc ?_ _ | with_reducible refine Kg.drew ?_ | with_reducible refine Kg.call ?_ (by assumption))) : P := h
theorem pkShortq3 {P : Prop} (h : P := by repeat (first | exact Below.refl _ _ | with_reducible refine Below.drew ?_ | with_reducible refine bstep ?_ (by assumption))) : P := h
theorem cells2_get : ∀ (xs : List (Int × Int)) (i : Nat) (h : i < xs.length), (cells2 xs)[i * 2]? = some (.int .i64 xs[i].1) ∧ (cells2 xs)[i * 2 + 1]? = some (.int .i64 xs[i].2)
 | [], i, h => by simp at h
 | t :: xs, 0, _ => by simp [cells2]
 | t :: xs, i + 1, h => by
  have ih := cells2_get xs i (by simpa using h)
  have e : ∀ k, (cells2 (t :: xs))[k + 2]? = (cells2 xs)[k]? := fun k => by simp [cells2]
  rw [show (i + 1) * 2 = i * 2 + 2 by omega, show i * 2 + 2 + 1 = (i * 2 + 1) + 2 by omega, e, e]
  simpa using ih
theorem at2 {xs : List (Int × Int)} {i : Nat} (h : i < xs.length) : intAt (cells2 xs) (i * 2) = xs[i].1 ∧ intAt (cells2 xs) (i * 2 + 1) = xs[i].2 := by
 obtain ⟨h1, h2⟩ := cells2_get xs i h
 exact ⟨by simp [intAt, h1], by simp [intAt, h2]⟩
def shPs (f : Int) (L : List (Int × Int)) (k : Nat) : List (Int × Int) := shortL f (L.take k)
theorem shP_succ {f : Int} {L : List (Int × Int)} {k : Nat} (h : k < L.length) : shPs f L (k + 1) = shStep f (shPs f L k) L[k] := by
 unfold shPs
 rw [List.take_succ_eq_append_getElem h, shortL_snoc]
theorem shPs_len (f : Int) (L : List (Int × Int)) (k : Nat) : (shPs f L k).length ≤ L.length := by
 unfold shPs
 refine Nat.le_trans (shortL_len _ _) ?_
 rw [List.length_take]; omega
theorem shP_mem {f : Int} {L : List (Int × Int)} {k : Nat} {v : Int × Int} (h : v ∈ shPs f L k) : v ∈ L := by
 unfold shPs at h
 exact List.mem_of_mem_take (shortL_mem.1 h).1
theorem st_nil {f : Int} {v : Int × Int} : shStep f [] v = [] ++ [v] := rfl
theorem st_more {f : Int} {h v : Int × Int} {T : List (Int × Int)} (c : nrmI f h.1 h.2 < nrmI f v.1 v.2) : shStep f (h :: T) v = h :: T := by
 simp only [shStep]; rw [if_pos (show nrmV f h < nrmV f v from c)]
theorem st_less {f : Int} {h v : Int × Int} {T : List (Int × Int)} (c : nrmI f v.1 v.2 < nrmI f h.1 h.2) : shStep f (h :: T) v = [] ++ [v] := by
 have c' : nrmV f v < nrmV f h := c
 simp only [shStep]; rw [if_neg (by omega), if_pos c']; rfl
theorem st_same {f : Int} {h v : Int × Int} {T : List (Int × Int)} (c1 : ¬ nrmI f h.1 h.2 < nrmI f v.1 v.2) (c2 : ¬ nrmI f v.1 v.2 < nrmI f h.1 h.2) : shStep f (h :: T) v = (h :: T) ++ [v] := by
 simp only [shStep]; rw [if_neg (show ¬ nrmV f h < nrmV f v from c1), if_neg (show ¬ nrmV f v < nrmV f h from c2)]
def midL (L : List (Int × Int)) : Prop := ∀ v ∈ L, midI v.1 ∧ midI v.2
def ShOwn (f : Int) (L : List (Int × Int)) (w : World) (e : Ending) (w' : World) : Prop :=
 ∃ v : Value, e = .returned v ∧ w'.ownsRow w.heap.size 63 2 v (shortL f L).length (cells2 (shortL f L)) ∧ Below w.heap.size w w'
set_option maxRecDepth 100000 in
set_option maxHeartbeats 8000000 in
theorem shortest_any (f : Int) (L : List (Int × Int)) (g cap : Nat) (w : World) (hf : frB f = true) (hm : midL L) (h8 : L.length ≤ 8) (hR : IRow g (L.length * 2) (intAt (cells2 L)) w) :
  Calls Tryz.prog 204 #[.iface (planeT f) (.agg #[]), .slice (some ⟨g, 0, none⟩) L.length cap] w (ShOwn f L w) := by
 have hme := meth_f hf
 have he := ent_f hf
 have hah := ahead_f hf
 obtain ⟨i0, hi, hz0, hz1, hz2⟩ := info_parts infoVec
 have HM := Lib.hid hm
 have H8 := Lib.hid h8
 have HRR := Lib.hid hR
 clear hm h8 hR
 go_enter Tryz.func204, Tryz.ntmps204
 go_wp2_with fail
 go_loopw [5, 10] (fun v i W => ∃ k : Nat, i = .int .i64 (k : Int) ∧ k ≤ L.length ∧ W.ownsRow w.heap.size 63 2 v (shPs f L k).length (cells2 (shPs f L k)) ∧ Below w.heap.size w W) (fun _ i _ => L.length - (intOf i).toNat)
 case atStart => exact ⟨0, rfl, by omega, World.ownsRow_nil _ _ _ _, Below.refl _ _⟩
 case round =>
  obtain ⟨k, rfl, hk, hown, hB⟩ := hrel
  by_cases hk1 : k < L.length
  ·have hk2 : (k : Int) < (L.length : Int) := by omega
   have hk3 : (0 : Int) ≤ (k : Int) := by omega
   have h8 := H8.out
   have hk4 : (k : Int) ≤ 8 := by omega
   have hz := hB.size
   have q1 := (HRR.out.grow hB HRR.out.1).ko2 (k * 2) (by omega)
   rw [(at2 hk1).1, (at2 hk1).2] at q1
   have HS := Lib.hid (shP_succ (f := f) hk1)
   have HMv := Lib.hid (HM.out L[k] (List.getElem_mem hk1))
   have HLn := Lib.hid (Nat.le_trans (shPs_len f L k) h8)
   have HK := Lib.hid hk1
   have HMF := Lib.hid (fun v (h : v ∈ shPs f L k) => HM.out v (shP_mem h))
   generalize L[k] = p at q1 HS HMv
   generalize shPs f L k = F at hown HS HLn HMF
   obtain ⟨x, y⟩ := p
   simp only at q1
   obtain ⟨q10, q11, q12⟩ := id q1
   have V1 : Kg wr.heap.size x y (wr.alloc (.cells #[.int .i64 x, .int .i64 y] 63)) := Kg.at2 _ rfl
   have B1 : Below w.heap.size w (wr.alloc (.cells #[.int .i64 x, .int .i64 y] 63)) := hB.alloc hz _
   have O1 := hown.alloc (.cells #[.int .i64 x, .int .i64 y] 63)
   clear hk hk1 h8 hown hB q1
   rcases F with _ | ⟨⟨hx, hy⟩, T⟩
   ·skip
    obtain ⟨ao, capn, hu5⟩ : ∃ ao cap, u5 = .slice ao 0 cap := by
     rcases O1.2 with ⟨h, _⟩ | ⟨gg, cc, cur, h, _⟩
     ·exact ⟨_, _, h⟩
     ·exact ⟨_, _, by rw [h]; rfl⟩
    subst hu5
    obtain ⟨v0, v1, v2⟩ := id V1
    go_wp2_with fail
    go_quiet (fail)
    obtain ⟨Wq, hWq⟩ : ∃ Wq, (wr.alloc (.cells #[.int .i64 x, .int .i64 y] 63)).drewN nq = Wq := ⟨_, rfl⟩
    rw [hWq]
    have Bq : Below (wr.alloc (.cells #[.int .i64 x, .int .i64 y] 63)).heap.size (wr.alloc (.cells #[.int .i64 x, .int .i64 y] 63)) Wq := by rw [← hWq]; exact below_drewN (Below.refl _ _) _
    have Vq := V1.call Bq
    have Oq := ownsRow_call O1 Bq
    have BBq := bstep B1 Bq
    clear V1 O1 B1 Bq hWq v0 v1 v2
    go_wp2_with fail
    go_quiet (fail)
    obtain ⟨Wp, hWp⟩ : ∃ Wp, Wq.drewN nq = Wp := ⟨_, rfl⟩
    rw [hWp]
    have Bp : Below Wq.heap.size Wq Wp := by rw [← hWp]; exact below_drewN (Below.refl _ _) _
    have Vp := Vq.call Bp
    have Op := ownsRow_call Oq Bp
    have BBp := bstep BBq Bp
    clear Vq Oq BBq Bp hWp
    obtain ⟨v0, v1, v2⟩ := id Vp
    go_wp2_with (at_builtin; refine wpList_append_own _ rfl _ _ 83 rfl w.heap.size 63 i0 (.agg #[.int .i64 0, .int .i64 0]) 2 16 Tryz.underlying83 hi hz0 hz1 hz2 rfl (by decide) _ _ _ rfl (Op.alloc _) ⟨Wp.heap.size, 0, none⟩ 1 1 [.int .i64 x, .int .i64 y] rfl rfl ?c1 ?c2 ?c3 ?c4 ?c5 ?_)
    case c1 => exact new_two _ _ _ rfl
    case c2 => exact one_two
    case c3 => have := HLn.out; unfold maxLen; (try simp only [List.length_nil, List.length_cons] at *); omega
    case c4 => have := HLn.out; (try simp only [List.length_nil, List.length_cons] at *); omega
    case c5 => have := BBp.size; first | omega | (simp; omega) | (simp at *; omega)
    intro v' w9 hown' hgrow _
    have B9 : Below w.heap.size w w9 := Below.grown (Below.alloc BBp BBp.size _) hgrow (by have := BBp.size; first | omega | (simp; omega) | (simp at *; omega)) (fun q hq => by have := (Op.lt q hq).1; omega)
    have hown9 : w9.ownsRow w.heap.size 63 2 v' (shPs f L (k + 1)).length (cells2 (shPs f L (k + 1))) := by rw [HS.out, st_nil]; exact own_next2 (by simpa using hown')
    clear hgrow hown'
    go_wp2
    have hk1 := HK.out
    go_roundw
    case rel => exact ⟨k + 1, by go_num, by omega, hown9, B9⟩
    case measure => first | (simp [intOf]; done) | (simp [intOf]; omega)
   ·obtain ⟨gf, capf, hu5, hgf⟩ : ∃ gf cap, u5 = .slice (some ⟨gf, 0, none⟩) (T.length + 1) cap ∧ gf < (wr.alloc (.cells #[.int .i64 x, .int .i64 y] 63)).heap.size := by
     rcases O1.2 with ⟨h, h0⟩ | ⟨gg, cc, cur, h, _, hgb, _⟩
     ·simp at h0
     ·exact ⟨gg, cc, by rw [h]; simp, (Array.getElem?_eq_some_iff.1 hgb).1⟩
    subst hu5
    have Q1 : Ko2 gf 0 hx hy (wr.alloc (.cells #[.int .i64 x, .int .i64 y] 63)) := by
     refine ⟨hgf, ?_, ?_⟩
     ·rw [O1.cellAt 0 (by first | omega | (simp [cells2]; done) | (simp [cells2]; omega))]; simp [cells2]
     ·rw [O1.cellAt (0 + 1) (by first | omega | (simp [cells2]; done) | (simp [cells2]; omega))]; simp [cells2]
    have HMh := HMF.out (hx, hy) (by simp)
    have NV := Lib.hid (fun W => norm_any f x y W hf HMv.out.1 HMv.out.2)
    have NH := Lib.hid (fun W => norm_any f hx hy W hf HMh.1 HMh.2)
    have HX := Lib.hid (show ∀ a b, nrmI f x y = a → nrmI f hx hy = b → (b < a → shStep f ((hx, hy) :: T) (x, y) = (hx, hy) :: T) ∧ (a < b → shStep f ((hx, hy) :: T) (x, y) = [] ++ [(x, y)]) ∧ (¬ b < a → ¬ a < b → shStep f ((hx, hy) :: T) (x, y) = ((hx, hy) :: T) ++ [(x, y)]) from
     fun a b ha hb => ⟨fun c => st_more (by show nrmI f hx hy < nrmI f x y; omega), fun c => st_less (by show nrmI f x y < nrmI f hx hy; omega), fun c1 c2 => st_same (by show ¬ nrmI f hx hy < nrmI f x y; omega) (by show ¬ nrmI f x y < nrmI f hx hy; omega)⟩)
    have ht0 : (0 : Int) < (((T.length + 1 : Nat)) : Int) := by omega
    have ht1 : decide ((0 : Int) < (((T.length + 1 : Nat)) : Int)) = true := decide_eq_true ht0
    have HX2 := Lib.hid (HX.out _ _ rfl rfl)
    clear HX HMF HMh
    generalize nrmI f x y = nv at NV HX2
    generalize nrmI f hx hy = nh at NH HX2
    obtain ⟨v0, v1, v2⟩ := id V1
    obtain ⟨q0, q1, q2⟩ := id Q1
    by_cases c1 : nh < nv
    ·have d1 : decide (nh < nv) = true := decide_eq_true c1
     have C1 := Lib.hid c1
     go_wp2_with fail
     go_region_held3 (fun W => (W.cell? ⟨wr.heap.size, 0, none⟩ = some (.int .i64 x) ∧ W.cell? ⟨wr.heap.size, 1, none⟩ = some (.int .i64 y)) ∧ (W.cell? ⟨gf, 0, none⟩ = some (.int .i64 hx) ∧ W.cell? ⟨gf, 0 + 1, none⟩ = some (.int .i64 hy))) (((refine And.intro (Kg.cells ?_) (Ko2.cells ?_)) <;> exact pkShortq0))
      (first
       | (with_reducible refine (NV.out _).mono ?_; rintro e u3 ⟨rfl, hb3⟩; have V3 : Kg wr.heap.size x y u3 := (by exact pkShortq2); have Q3 : Ko2 gf 0 hx hy u3 := (by exact pkShortq1); have HB3 : Below (wr.alloc (.cells #[.int .i64 x, .int .i64 y] 63)).heap.size (wr.alloc (.cells #[.int .i64 x, .int .i64 y] 63)) u3 := (by exact pkShortq3))
       | (with_reducible refine (NH.out _).mono ?_; rintro e u4 ⟨rfl, hb4⟩; have V4 : Kg wr.heap.size x y u4 := (by exact pkShortq2); have Q4 : Ko2 gf 0 hx hy u4 := (by exact pkShortq1); have HB4 : Below (wr.alloc (.cells #[.int .i64 x, .int .i64 y] 63)).heap.size (wr.alloc (.cells #[.int .i64 x, .int .i64 y] 63)) u4 := (by exact pkShortq3)))
     all_goals
      have B5 := bstep B1 HB4
      have O5 := ownsRow_call O1 HB4
      clear V1 Q1 B1 O1 V3 Q3 HB3 V4 Q4 HB4 hb3 hb4 v0 v1 v2 q0 q1 q2
      have hown9 : u4.ownsRow w.heap.size 63 2 (.slice (some ⟨gf, 0, none⟩) (T.length + 1) capf) (shPs f L (k + 1)).length (cells2 (shPs f L (k + 1))) := by rw [HS.out, HX2.out.1 C1.out]; exact O5
      go_wp2
      have hk1 := HK.out
      go_roundw
      case rel => exact ⟨k + 1, by go_num, by omega, hown9, B5⟩
      case measure => first | (simp [intOf]; done) | (simp [intOf]; omega)
    ·have d1 : decide (nh < nv) = false := decide_eq_false c1
     have C1 := Lib.hid c1
     go_wp2_with fail
     go_region_held3 (fun W => (W.cell? ⟨wr.heap.size, 0, none⟩ = some (.int .i64 x) ∧ W.cell? ⟨wr.heap.size, 1, none⟩ = some (.int .i64 y)) ∧ (W.cell? ⟨gf, 0, none⟩ = some (.int .i64 hx) ∧ W.cell? ⟨gf, 0 + 1, none⟩ = some (.int .i64 hy))) (((refine And.intro (Kg.cells ?_) (Ko2.cells ?_)) <;> exact pkShortq0))
      (first
       | (with_reducible refine (NV.out _).mono ?_; rintro e u3 ⟨rfl, hb3⟩; have V3 : Kg wr.heap.size x y u3 := (by exact pkShortq2); have Q3 : Ko2 gf 0 hx hy u3 := (by exact pkShortq1); have HB3 : Below (wr.alloc (.cells #[.int .i64 x, .int .i64 y] 63)).heap.size (wr.alloc (.cells #[.int .i64 x, .int .i64 y] 63)) u3 := (by exact pkShortq3))
       | (with_reducible refine (NH.out _).mono ?_; rintro e u4 ⟨rfl, hb4⟩; have V4 : Kg wr.heap.size x y u4 := (by exact pkShortq2); have Q4 : Ko2 gf 0 hx hy u4 := (by exact pkShortq1); have HB4 : Below (wr.alloc (.cells #[.int .i64 x, .int .i64 y] 63)).heap.size (wr.alloc (.cells #[.int .i64 x, .int .i64 y] 63)) u4 := (by exact pkShortq3)))
     all_goals
      have B5 := bstep B1 HB4
      have O5 := ownsRow_call O1 HB4
      clear V1 Q1 B1 O1 V3 Q3 HB3 HB4 hb3 hb4 v0 v1 v2 q0 q1 q2 d1
      obtain ⟨v0, v1, v2⟩ := id V4
      obtain ⟨q0, q1, q2⟩ := id Q4
      by_cases c2 : nv < nh
      ·have d2 : decide (nv < nh) = true := decide_eq_true c2
       have C2 := Lib.hid c2
       go_wp2_with fail
       go_region_held3 (fun W => (W.cell? ⟨wr.heap.size, 0, none⟩ = some (.int .i64 x) ∧ W.cell? ⟨wr.heap.size, 1, none⟩ = some (.int .i64 y)) ∧ (W.cell? ⟨gf, 0, none⟩ = some (.int .i64 hx) ∧ W.cell? ⟨gf, 0 + 1, none⟩ = some (.int .i64 hy))) (((refine And.intro (Kg.cells ?_) (Ko2.cells ?_)) <;> exact pkShortq0))
        (first
         | (with_reducible refine (NV.out _).mono ?_; rintro e u5 ⟨rfl, hb5⟩; have V5 : Kg wr.heap.size x y u5 := (by exact pkShortq2); have Q5 : Ko2 gf 0 hx hy u5 := (by exact pkShortq1); have HB5 : Below u4.heap.size u4 u5 := (by exact pkShortq3))
         | (with_reducible refine (NH.out _).mono ?_; rintro e u6 ⟨rfl, hb6⟩; have V6 : Kg wr.heap.size x y u6 := (by exact pkShortq2); have Q6 : Ko2 gf 0 hx hy u6 := (by exact pkShortq1); have HB6 : Below u4.heap.size u4 u6 := (by exact pkShortq3)))
       all_goals
        have B7 := bstep B5 HB6
        clear V4 Q4 B5 O5 V5 Q5 HB5 HB6 hb5 hb6 v0 v1 v2 q0 q1 q2
        obtain ⟨v0, v1, v2⟩ := id V6
        have O7 : u6.ownsRow w.heap.size 63 2 (.slice none 0 0) ([] : List (Int × Int)).length (cells2 []) := World.ownsRow_nil _ _ _ _
        go_wp2_with (at_builtin; refine wpList_append_own _ rfl _ _ 83 rfl w.heap.size 63 i0 (.agg #[.int .i64 0, .int .i64 0]) 2 16 Tryz.underlying83 hi hz0 hz1 hz2 rfl (by decide) _ _ _ rfl (O7.alloc _) ⟨u6.heap.size, 0, none⟩ 1 1 [.int .i64 x, .int .i64 y] rfl rfl ?c1 ?c2 ?c3 ?c4 ?c5 ?_)
        case c1 => exact new_two _ _ _ rfl
        case c2 => exact one_two
        case c3 => have := HLn.out; unfold maxLen; (try simp only [List.length_nil, List.length_cons] at *); omega
        case c4 => have := HLn.out; (try simp only [List.length_nil, List.length_cons] at *); omega
        case c5 => have := B7.size; first | omega | (simp; omega) | (simp at *; omega)
        intro v' w9 hown' hgrow _
        have B9 : Below w.heap.size w w9 := Below.grown (Below.alloc B7 B7.size _) hgrow (by have := B7.size; first | omega | (simp; omega) | (simp at *; omega)) (fun q hq => by have := (O7.lt q hq).1; omega)
        have hown9 : w9.ownsRow w.heap.size 63 2 v' (shPs f L (k + 1)).length (cells2 (shPs f L (k + 1))) := by rw [HS.out, HX2.out.2.1 C2.out]; exact own_next2 (by simpa using hown')
        clear hgrow hown'
        go_wp2
        have hk1 := HK.out
        go_roundw
        case rel => exact ⟨k + 1, by go_num, by omega, hown9, B9⟩
        case measure => first | (simp [intOf]; done) | (simp [intOf]; omega)
      ·have d2 : decide (nv < nh) = false := decide_eq_false c2
       have C2 := Lib.hid c2
       go_wp2_with fail
       go_region_held3 (fun W => (W.cell? ⟨wr.heap.size, 0, none⟩ = some (.int .i64 x) ∧ W.cell? ⟨wr.heap.size, 1, none⟩ = some (.int .i64 y)) ∧ (W.cell? ⟨gf, 0, none⟩ = some (.int .i64 hx) ∧ W.cell? ⟨gf, 0 + 1, none⟩ = some (.int .i64 hy))) (((refine And.intro (Kg.cells ?_) (Ko2.cells ?_)) <;> exact pkShortq0))
        (first
         | (with_reducible refine (NV.out _).mono ?_; rintro e u5 ⟨rfl, hb5⟩; have V5 : Kg wr.heap.size x y u5 := (by exact pkShortq2); have Q5 : Ko2 gf 0 hx hy u5 := (by exact pkShortq1); have HB5 : Below u4.heap.size u4 u5 := (by exact pkShortq3))
         | (with_reducible refine (NH.out _).mono ?_; rintro e u6 ⟨rfl, hb6⟩; have V6 : Kg wr.heap.size x y u6 := (by exact pkShortq2); have Q6 : Ko2 gf 0 hx hy u6 := (by exact pkShortq1); have HB6 : Below u4.heap.size u4 u6 := (by exact pkShortq3)))
       all_goals
        have B7 := bstep B5 HB6
        have O7 := ownsRow_call O5 HB6
        clear V4 Q4 B5 O5 V5 Q5 HB5 HB6 hb5 hb6 v0 v1 v2 q0 q1 q2
        obtain ⟨v0, v1, v2⟩ := id V6
        go_wp2_with (at_builtin; refine wpList_append_own _ rfl _ _ 83 rfl w.heap.size 63 i0 (.agg #[.int .i64 0, .int .i64 0]) 2 16 Tryz.underlying83 hi hz0 hz1 hz2 rfl (by decide) _ _ _ rfl (O7.alloc _) ⟨u6.heap.size, 0, none⟩ 1 1 [.int .i64 x, .int .i64 y] rfl rfl ?c1 ?c2 ?c3 ?c4 ?c5 ?_)
        case c1 => exact new_two _ _ _ rfl
        case c2 => exact one_two
        case c3 => have := HLn.out; unfold maxLen; (try simp only [List.length_nil, List.length_cons] at *); omega
        case c4 => have := HLn.out; (try simp only [List.length_nil, List.length_cons] at *); omega
        case c5 => have := B7.size; first | omega | (simp; omega) | (simp at *; omega)
        intro v' w9 hown' hgrow _
        have B9 : Below w.heap.size w w9 := Below.grown (Below.alloc B7 B7.size _) hgrow (by have := B7.size; first | omega | (simp; omega) | (simp at *; omega)) (fun q hq => by have := (O7.lt q hq).1; omega)
        have hown9 : w9.ownsRow w.heap.size 63 2 v' (shPs f L (k + 1)).length (cells2 (shPs f L (k + 1))) := by rw [HS.out, HX2.out.2.2 C1.out C2.out]; exact own_next2 (by simpa using hown')
        clear hgrow hown'
        go_wp2
        have hk1 := HK.out
        go_roundw
        case rel => exact ⟨k + 1, by go_num, by omega, hown9, B9⟩
        case measure => first | (simp [intOf]; done) | (simp [intOf]; omega)
  ·obtain rfl : k = L.length := by omega
   have hfin : shPs f L L.length = shortL f L := by unfold shPs; rw [List.take_length]
   rw [hfin] at hown
   clear hk hk1
   go_wp2
   go_ret
   exact ⟨_, rfl, hown, hB⟩
end Go.Proofs.YtjjfomokecngoaaGreatDoor
