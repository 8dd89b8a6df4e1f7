/-
  Several of my texts in one: CelI, CelS, FrNear, FrM.
-/
import Derived.RangeFuncNested
import Derived.RangeFuncBound
import Derived.RangeFuncCalls
import Derived.RangeFuncLeaves
import Derived.RangeFuncBox
import Derived.Shelf.Abstract
import Derived.Shelf.RegionOpen
import Derived.WalkKit
import Derived.OwnWalkIn
import Derived.TacticsInMore
import Derived.LoopNIn
import Derived.LoopIn
import Derived.Maps.AppendAt
import Derived.Test.YtkfeajjpbmbmpaaGreatDoorGa
import Derived.Test.YtkfeajjpbmbmpaaGreatDoorGb
import Derived.OwnWalk
import Derived.LoopTactic
import Derived.Test.YtkfeajjpbmbmpaaGreatDoorGe
import Derived.Test.YtkfeajjpbmbmpaaGreatDoorGc
namespace Go.Proofs.YtkfeajjpbmbmpaaGreatDoor
section
open Go.RowKit Go.Shelf
attribute [local go_sem] Oper.semAt_some
set_option linter.unusedSimpArgs false
set_option linter.unusedVariables false

/- a list of vectors as cells -/
def cells2 (xs : List (Int × Int)) : List Value := xs.flatMap (fun t => [.int .i64 t.1, .int .i64 t.2])
theorem cells2_snoc (xs : List (Int × Int)) (t : Int × Int) : cells2 (xs ++ [t]) = cells2 xs ++ [.int .i64 t.1, .int .i64 t.2] := by simp [cells2]
theorem cells2_int (xs : List (Int × Int)) : ∀ u ∈ cells2 xs, ∃ z, u = .int .i64 z := by
  intro u hu
  simp only [cells2, List.mem_flatMap, List.mem_cons, List.not_mem_nil, or_false] at hu
  obtain ⟨t, _, h | h⟩ := hu <;> exact ⟨_, h⟩
theorem infoVec : (Tryz.prog.info? 31).map (fun i => (i.zero, i.size, i.bytes)) = some (some (.agg #[.int .i64 0, .int .i64 0]), 2, 16) := by kernel_rfl
theorem one_two {a b : Int} : ∀ u ∈ [Value.int .i64 a, .int .i64 b], u.oneCell' = true := by
  intro u hu
  simp only [List.mem_cons, List.not_mem_nil, or_false] at hu
  rcases hu with rfl | rfl <;> rfl
theorem new_two {W : World} {g : Nat} (T : TypeId) (a b : Value) (hg : g = W.heap.size) : ∀ (j : Nat) (u : Value), [a, b][j]? = some u → (W.alloc (.cells #[a, b] T)).cell? ((⟨g, 0, none⟩ : Addr).add j) = some u := by
  subst hg
  intro j u hj
  match j, hj with
  | 0, hj => simp at hj; subst hj; simp [Addr.add, go_sem]
  | 1, hj => simp at hj; subst hj; simp [Addr.add, go_sem]
  | j + 2, hj => simp at hj

/- the method cells: the receiver is boxed, the function value captures the box -/
end
end Go.Proofs.YtkfeajjpbmbmpaaGreatDoor

namespace Go.Proofs.YtkfeajjpbmbmpaaGreatDoor
section
open Go.RowKit
set_option linter.unusedSimpArgs false
set_option linter.unusedVariables false

theorem own_next2 {w1 : World} {base : Nat} {e : TypeId} {v : Value} {xs : List (Int × Int)} {a b : Int} (h : w1.ownsRow base e 2 v (xs.length + 1) (cells2 xs ++ [.int .i64 a, .int .i64 b])) : w1.ownsRow base e 2 v (xs ++ [(a, b)]).length (cells2 (xs ++ [(a, b)])) := by
  rw [cells2_snoc]; simpa using h
end
end Go.Proofs.YtkfeajjpbmbmpaaGreatDoor

namespace Go.Proofs.YtkfeajjpbmbmpaaGreatDoor
section
open Go.RowKit
set_option linter.unusedSimpArgs false
set_option linter.unusedVariables false

theorem ownsRow_grow {B : Nat} {W w1 : World} {base : Nat} {e : TypeId} {size : Nat} {v : Value} {n : Nat} {xs : List Value} (h : W.ownsRow base e size v n xs) (hb : Below B W w1) (hB : W.heap.size ≤ B) : w1.ownsRow base e size v n xs := by
  obtain ⟨h1, h2⟩ := h
  refine ⟨h1, ?_⟩
  rcases h2 with h2 | ⟨g, cap, cur, rfl, hg, hgg, rest⟩
  · exact .inl h2
  · refine .inr ⟨g, cap, cur, rfl, hg, ?_, rest⟩
    rw [hb.block g (Nat.lt_of_lt_of_le (Array.getElem?_eq_some_iff.1 hgg).1 hB)]; exact hgg
theorem ownsRow_call {W w1 : World} {base : Nat} {e : TypeId} {size : Nat} {v : Value} {n : Nat} {xs : List Value} (h : W.ownsRow base e size v n xs) (hb : Below W.heap.size W w1) : w1.ownsRow base e size v n xs := ownsRow_grow h hb (Nat.le_refl _)
/- how far the program looks -/
end
end Go.Proofs.YtkfeajjpbmbmpaaGreatDoor

namespace Go.Proofs.YtkfeajjpbmbmpaaGreatDoor
section
open Go.RowKit
set_option linter.unusedSimpArgs false
set_option linter.unusedVariables false

def cells4 (xs : List M4) : List Value := xs.flatMap (fun t => [.int .i64 t.1, .int .i64 t.2.1, .int .i64 t.2.2.1, .int .i64 t.2.2.2])
theorem cells4_snoc (xs : List M4) (t : M4) : cells4 (xs ++ [t]) = cells4 xs ++ [.int .i64 t.1, .int .i64 t.2.1, .int .i64 t.2.2.1, .int .i64 t.2.2.2] := by simp [cells4]
theorem cells4_int (xs : List M4) : ∀ u ∈ cells4 xs, ∃ z, u = .int .i64 z := by
  intro u hu
  simp only [cells4, List.mem_flatMap, List.mem_cons, List.not_mem_nil, or_false] at hu
  obtain ⟨t, _, h | h | h | h⟩ := hu <;> exact ⟨_, h⟩
theorem cells4_get : ∀ (xs : List M4) (i : Nat) (h : i < xs.length), (cells4 xs)[i * 4]? = some (.int .i64 xs[i].1) ∧ (cells4 xs)[i * 4 + 1]? = some (.int .i64 xs[i].2.1) ∧ (cells4 xs)[i * 4 + 2]? = some (.int .i64 xs[i].2.2.1) ∧ (cells4 xs)[i * 4 + 3]? = some (.int .i64 xs[i].2.2.2)
  | [], i, h => by simp at h
  | t :: xs, 0, _ => by simp [cells4]
  | t :: xs, i + 1, h => by
    have ih := cells4_get xs i (by simpa using h)
    have e : ∀ k, (cells4 (t :: xs))[k + 4]? = (cells4 xs)[k]? := fun k => by simp [cells4]
    rw [show (i + 1) * 4 = i * 4 + 4 by omega, show i * 4 + 4 + 1 = (i * 4 + 1) + 4 by omega, show i * 4 + 4 + 2 = (i * 4 + 2) + 4 by omega, show i * 4 + 4 + 3 = (i * 4 + 3) + 4 by omega, e, e, e, e]
    simpa using ih
theorem infoMat : (Tryz.prog.info? 27).map (fun i => (i.zero, i.size, i.bytes)) = some (some (.agg #[.int .i64 0, .int .i64 0, .int .i64 0, .int .i64 0]), 4, 32) := by kernel_rfl
theorem one_four {a b c d : Int} : ∀ u ∈ [Value.int .i64 a, .int .i64 b, .int .i64 c, .int .i64 d], u.oneCell' = true := by
  intro u hu
  simp only [List.mem_cons, List.not_mem_nil, or_false] at hu
  rcases hu with rfl | rfl | rfl | rfl <;> rfl
theorem new_four {W : World} {g : Nat} (T : TypeId) (a b c d : Value) (hg : g = W.heap.size) : ∀ (j : Nat) (u : Value), [a, b, c, d][j]? = some u → (W.alloc (.cells #[a, b, c, d] T)).cell? ((⟨g, 0, none⟩ : Addr).add j) = some u := by
  subst hg
  intro j u hj
  match j, hj with
  | 0, hj => simp at hj; subst hj; simp [Addr.add, go_sem]
  | 1, hj => simp at hj; subst hj; simp [Addr.add, go_sem]
  | 2, hj => simp at hj; subst hj; simp [Addr.add, go_sem]
  | 3, hj => simp at hj; subst hj; simp [Addr.add, go_sem]
  | j + 4, hj => simp at hj
theorem own_next4 {w1 : World} {base : Nat} {e : TypeId} {v : Value} {xs : List M4} {a b c d : Int} (h : w1.ownsRow base e 4 v (xs.length + 1) (cells4 xs ++ [.int .i64 a, .int .i64 b, .int .i64 c, .int .i64 d])) : w1.ownsRow base e 4 v (xs ++ [(a, b, c, d)]).length (cells4 (xs ++ [(a, b, c, d)])) := by
  rw [cells4_snoc]; simpa using h
def decM (k : Nat) : M4 := ((k : Int) / 27 - 1, (k : Int) / 9 % 3 - 1, (k : Int) / 3 % 3 - 1, (k : Int) % 3 - 1)
def keepM (f : Int) (m : M4) : Bool := keepB f m.1 m.2.1 m.2.2.1 m.2.2.2
def matsP (f : Int) (k : Nat) : List M4 := ((List.range k).map decM).filter (keepM f)
def matsL (f : Int) : List M4 := matsP f 81
theorem matsP_succ (f : Int) (k : Nat) : matsP f (k + 1) = matsP f k ++ (if keepM f (decM k) = true then [decM k] else []) := by
  unfold matsP
  rw [List.range_succ, List.map_append, List.filter_append]
  congr 1
  rcases h : keepM f (decM k) with _ | _ <;> simp [h]
theorem matsP_yes {f : Int} {k : Nat} {a b c d : Int} (hd : decM k = (a, b, c, d)) (h : keepB f a b c d = true) : matsP f (k + 1) = matsP f k ++ [(a, b, c, d)] := by
  rw [matsP_succ, hd, if_pos (show keepM f (a, b, c, d) = true from h)]
theorem matsP_no {f : Int} {k : Nat} {a b c d : Int} (hd : decM k = (a, b, c, d)) (h : keepB f a b c d = false) : matsP f (k + 1) = matsP f k := by
  rw [matsP_succ, hd, if_neg (by rw [show keepM f (a, b, c, d) = false from h]; simp), List.append_nil]
theorem matsP_len (f : Int) (k : Nat) : (matsP f k).length ≤ k := by
  unfold matsP
  refine Nat.le_trans (List.length_filter_le _ _) ?_
  simp
theorem decM_lim {k : Nat} (h : k < 81) : limB (decM k).1 (decM k).2.1 (decM k).2.2.1 (decM k).2.2.2 = true := by
  unfold decM
  dsimp only
  simp only [limB, vecB, Bool.and_eq_true, decide_eq_true_eq]
  omega
def MatsOwn (f : Int) (w : World) (e : Ending) (w' : World) : Prop :=
  ∃ v : Value, e = .returned v ∧ w'.ownsRow w.heap.size 27 4 v (matsL f).length (cells4 (matsL f)) ∧ Below w.heap.size w w'
set_option maxRecDepth 100000 in
set_option maxHeartbeats 4000000 in
theorem l04Mats_any (f : Int) (w : World) (hf : frB f = true) :
    Calls Tryz.prog 301 #[.int .i64 f] w (MatsOwn f w) := by
  obtain ⟨i0, hi, hz0, hz1, hz2⟩ := info_parts infoMat
  go_enter Tryz.func301, Tryz.ntmps301
  go_wp2_with fail
  go_loopw [3, 4] (fun v i W => ∃ k : Nat, i = .int .i64 (k : Int) ∧ k ≤ 81 ∧ W.ownsRow w.heap.size 27 4 v (matsP f k).length (cells4 (matsP f k)) ∧ Below w.heap.size w W) (fun _ i _ => (81 - intOf i).toNat)
  case atStart => exact ⟨0, rfl, by omega, by have h := World.ownsRow_lit (base := w.heap.size) (e := 27) (size := 4) w #[] 0 (Nat.le_refl _) (by unfold maxLen; omega) rfl; simpa [matsP, cells4] using h, (Below.refl _ _).alloc (Nat.le_refl _) _⟩
  case round =>
    obtain ⟨k, rfl, hk, hown, hB⟩ := hrel
    have hz := hB.size
    by_cases hk1 : k < 81
    · have hk2 : (k : Int) < 81 := by omega
      have hk3 : 0 ≤ (k : Int) := by omega
      have HL := Lib.hid (matsP_len f k)
      have HD := Lib.hid (show decM k = ((k : Int) / 27 - 1, (k : Int) / 9 % 3 - 1, (k : Int) / 3 % 3 - 1, (k : Int) % 3 - 1) from rfl)
      have HM := Lib.hid (decM_lim hk1)
      have HK := Lib.hid hk1
      clear hk hk1
      go_wp2_with fail
      have hb1 : -1 ≤ (k : Int) / 27 - 1 ∧ (k : Int) / 27 - 1 ≤ 1 := by omega
      have hb2 : -1 ≤ (k : Int) / 9 % 3 - 1 ∧ (k : Int) / 9 % 3 - 1 ≤ 1 := by omega
      have hb3 : -1 ≤ (k : Int) / 3 % 3 - 1 ∧ (k : Int) / 3 % 3 - 1 ≤ 1 := by omega
      have hb4 : -1 ≤ (k : Int) % 3 - 1 ∧ (k : Int) % 3 - 1 ≤ 1 := by omega
      have hlim := HM.out
      rw [HD.out] at hlim
      clear HM
      dsimp only at hlim
      generalize (k : Int) / 27 - 1 = a at *
      generalize (k : Int) / 9 % 3 - 1 = b at *
      generalize (k : Int) / 3 % 3 - 1 = c at *
      generalize (k : Int) % 3 - 1 = d at *
      have V1 : Kq wr.heap.size a b c d (wr.alloc (.cells #[.int .i64 a, .int .i64 b, .int .i64 c, .int .i64 d] 27)) := Kq.at _ rfl
      have B1 : Below w.heap.size w (wr.alloc (.cells #[.int .i64 a, .int .i64 b, .int .i64 c, .int .i64 d] 27)) := hB.alloc hz _
      have O1 : (wr.alloc (.cells #[.int .i64 a, .int .i64 b, .int .i64 c, .int .i64 d] 27)).ownsRow w.heap.size 27 4 u3 (matsP f k).length (cells4 (matsP f k)) := hown.alloc _
      clear hown hB
      refine (l04Keeps_any _ _ _ _ _ _ hf hlim).mono ?_
      rintro e w1 ⟨rfl, hb⟩
      have V2 := V1.call hb
      have B2 := bstep B1 hb
      have O2 := ownsRow_call O1 hb
      clear V1 B1 O1 hb hlim
      obtain ⟨v0, v1, v2, v3, v4⟩ := id V2
      rcases hN : keepB f a b c d with _ | _
      · have hown2 : w1.ownsRow w.heap.size 27 4 u3 (matsP f (k + 1)).length (cells4 (matsP f (k + 1))) := by rw [matsP_no HD.out hN]; exact O2
        clear O2 V2 v0 v1 v2 v3 v4
        go_wp2
        have hk1 := HK.out
        go_roundw
        case rel => exact ⟨k + 1, by go_num, by omega, hown2, B2⟩
        case measure => first | (simp [intOf]; done) | (simp [intOf]; omega)
      · go_wp2_with (at_builtin; refine wpList_append_own _ rfl _ _ 59 rfl w.heap.size 27 i0 (.agg #[.int .i64 0, .int .i64 0, .int .i64 0, .int .i64 0]) 4 32 Tryz.underlying59 hi hz0 hz1 hz2 rfl (by decide) _ _ _ rfl (O2.alloc _) ⟨w1.heap.size, 0, none⟩ 1 1 [.int .i64 a, .int .i64 b, .int .i64 c, .int .i64 d] rfl rfl ?c1 ?c2 ?c3 ?c4 ?c5 ?_)
        case c1 => exact new_four _ _ _ _ _ rfl
        case c2 => exact one_four
        case c3 => have h1 := HL.out; have h2 := HK.out; unfold maxLen; omega
        case c4 => have h1 := HL.out; have h2 := HK.out; omega
        case c5 => have := B2.size; simp; omega
        intro v' w2 hown' hgrow _
        have B3 : Below w.heap.size w w2 := Below.grown (Below.alloc B2 B2.size _) hgrow (by have := B2.size; simp; omega) (fun q hq => by have := (O2.lt q hq).1; omega)
        have hown2 : w2.ownsRow w.heap.size 27 4 v' (matsP f (k + 1)).length (cells4 (matsP f (k + 1))) := by rw [matsP_yes HD.out hN]; exact own_next4 (by simpa using hown')
        clear O2 B2 V2 hgrow hown' v0 v1 v2 v3 v4
        go_wp2
        have hk1 := HK.out
        go_roundw
        case rel => exact ⟨k + 1, by go_num, by omega, hown2, B3⟩
        case measure => first | (simp [intOf]; done) | (simp [intOf]; omega)
    · obtain rfl : k = 81 := by omega
      clear hk hk1
      go_wp2
      go_ret
      exact ⟨_, rfl, hown, hB⟩
end
end Go.Proofs.YtkfeajjpbmbmpaaGreatDoor

