/-
  Several of my texts in one: CelI, CelS, FrNear, FrM.
-/
import Derived.RangeFuncNested
import Derived.RangeFuncBound
import Derived.RangeFuncCalls
import Derived.RangeFuncLeaves
import Derived.RangeFuncBox
import Derived.Shelf.Abstract
import Derived.Shelf.RegionOpen
import Derived.WalkKit
import Derived.OwnWalkIn
import Derived.TacticsInMore
import Derived.LoopNIn
import Derived.LoopIn
import Derived.Maps.AppendAt
import Derived.Test.YtkfdaepnjdnnmaaDoorGa
import Derived.Test.YtkfdaepnjdnnmaaDoorGb
import Derived.OwnWalk
import Derived.LoopTactic
import Derived.Test.YtkfdaepnjdnnmaaDoorGe
import Derived.Test.YtkfdaepnjdnnmaaDoorGc
namespace Go.Proofs.YtkfdaepnjdnnmaaDoor
section
open Go.RowKit Go.Shelf
attribute [local go_sem] Oper.semAt_some
set_option linter.unusedSimpArgs false
set_option linter.unusedVariables false

/- a list of vectors as cells -/
def cells2 (xs : List (Int × Int)) : List Value := xs.flatMap (fun t => [.int .i64 t.1, .int .i64 t.2])
theorem cells2_len (xs : List (Int × Int)) : (cells2 xs).length = xs.length * 2 := by
  induction xs with
  | nil => rfl
  | cons t xs ih => simp only [cells2, List.flatMap_cons, List.length_append, List.length_cons, List.length_nil] at *; omega
theorem cells2_snoc (xs : List (Int × Int)) (t : Int × Int) : cells2 (xs ++ [t]) = cells2 xs ++ [.int .i64 t.1, .int .i64 t.2] := by simp [cells2]
theorem cells2_int (xs : List (Int × Int)) : ∀ u ∈ cells2 xs, ∃ z, u = .int .i64 z := by
  intro u hu
  simp only [cells2, List.mem_flatMap, List.mem_cons, List.not_mem_nil, or_false] at hu
  obtain ⟨t, _, h | h⟩ := hu <;> exact ⟨_, h⟩
def cellR (a j : Nat) : List (Int × Int) := (List.range j).map (fun b : Nat => ((a : Int), (b : Int)))
def cellP (q k : Nat) : List (Int × Int) := (List.range k).flatMap (fun a => cellR a q)
theorem cellP_succ (q k : Nat) : cellP q (k + 1) = cellP q k ++ cellR k q := by unfold cellP; rw [List.range_succ, List.flatMap_append]; simp
theorem cellR_succ (a j : Nat) : cellR a (j + 1) = cellR a j ++ [((a : Int), (j : Int))] := by unfold cellR; rw [List.range_succ, List.map_append]; rfl
theorem cellR_len (a j : Nat) : (cellR a j).length = j := by simp [cellR]
theorem cellP_len (q : Nat) : ∀ k, (cellP q k).length = k * q
  | 0 => by simp [cellP]
  | k + 1 => by rw [cellP_succ, List.length_append, cellP_len q k, cellR_len, Nat.succ_mul]
theorem infoVec : (Tryd.prog.info? 49).map (fun i => (i.zero, i.size, i.bytes)) = some (some (.agg #[.int .i64 0, .int .i64 0]), 2, 16) := by kernel_rfl
theorem one_two {a b : Int} : ∀ u ∈ [Value.int .i64 a, .int .i64 b], u.oneCell' = true := by
  intro u hu
  simp only [List.mem_cons, List.not_mem_nil, or_false] at hu
  rcases hu with rfl | rfl <;> rfl
theorem new_two {W : World} {g : Nat} (T : TypeId) (a b : Value) (hg : g = W.heap.size) : ∀ (j : Nat) (u : Value), [a, b][j]? = some u → (W.alloc (.cells #[a, b] T)).cell? ((⟨g, 0, none⟩ : Addr).add j) = some u := by
  subst hg
  intro j u hj
  match j, hj with
  | 0, hj => simp at hj; subst hj; simp [Addr.add, go_sem]
  | 1, hj => simp at hj; subst hj; simp [Addr.add, go_sem]
  | j + 2, hj => simp at hj

theorem latI_prod {A B C : Int} (h : latI A B C) : A * C ≤ 64 := by
  exact h.2.2.2.2
end
end Go.Proofs.YtkfdaepnjdnnmaaDoor

namespace Go.Proofs.YtkfdaepnjdnnmaaDoor
section
open Go.RowKit
set_option linter.unusedSimpArgs false
set_option linter.unusedVariables false

theorem own_next2 {w1 : World} {base : Nat} {e : TypeId} {v : Value} {xs : List (Int × Int)} {a b : Int} (h : w1.ownsRow base e 2 v (xs.length + 1) (cells2 xs ++ [.int .i64 a, .int .i64 b])) : w1.ownsRow base e 2 v (xs ++ [(a, b)]).length (cells2 (xs ++ [(a, b)])) := by
  rw [cells2_snoc]; simpa using h
def CelOwn (p q : Nat) (w : World) (e : Ending) (w' : World) : Prop :=
  ∃ v : Value, e = .returned v ∧ w'.ownsRow w.heap.size 49 2 v (cellP q p).length (cells2 (cellP q p)) ∧ Below w.heap.size w w'
set_option maxHeartbeats 4000000 in
theorem l03Cells_any (p q : Nat) (B : Int) (w : World) (hp : p ≤ 64) (hq : q ≤ 64) :
    Calls Tryd.prog 52 #[.agg #[.int .i64 ((p : Int)), .int .i64 B, .int .i64 ((q : Int))]] w (CelOwn p q w) := by
  obtain ⟨i0, hi, hz0, hz1, hz2⟩ := info_parts infoVec
  have HP := Lib.hid hp
  have HQ := Lib.hid hq
  clear hp hq
  go_enter Tryd.func52, Tryd.ntmps52
  go_wp2_with fail
  have hlit : ((w.alloc (.cells #[.int .i64 (p : Int), .int .i64 B, .int .i64 (q : Int)] 31)).alloc (.cells #[] 49)).ownsRow (w.heap.size + 1) 49 2 (.slice (some ⟨w.heap.size + 1, 0, none⟩) 0 0) (cellP q 0).length (cells2 (cellP q 0)) := by
    have h := World.ownsRow_lit (base := w.heap.size + 1) (e := 49) (size := 2) (w.alloc (.cells #[.int .i64 (p : Int), .int .i64 B, .int .i64 (q : Int)] 31)) #[] 0 (by simp) (by unfold maxLen; omega) rfl
    simpa [cellP, cells2] using h
  go_loopw [3, 4] (fun v i W => ∃ (a : Nat), i = .int .i64 (a : Int) ∧ a ≤ p ∧ W.ownsRow (w.heap.size + 1) 49 2 v (cellP q a).length (cells2 (cellP q a)) ∧ Kt w.heap.size (p : Int) B (q : Int) W ∧ Below w.heap.size w W) (fun _ i _ => p - (intOf i).toNat)
  case atStart => exact ⟨0, rfl, by omega, hlit, (Kt.at _ rfl).alloc _, ((Below.refl _ _).alloc (Nat.le_refl _) _).alloc (by simp) _⟩
  case round =>
    obtain ⟨a, rfl, ha1, hown, hK, hB⟩ := hrel
    obtain ⟨k0, k1, k2, k3⟩ := id hK
    by_cases ha3 : a < p
    · have ha4 : (a : Int) < (p : Int) := by omega
      have ha5 : (a : Int) ≤ 64 := by have := HP.out; omega
      have HA := Lib.hid ha3
      clear ha1 ha3
      go_wp2_with fail
      clear k0 k1 k2 k3
      go_loopw [3, 5] (fun v i W => ∃ (j : Nat), i = .int .i64 (j : Int) ∧ j ≤ q ∧ W.ownsRow (w.heap.size + 1) 49 2 v (cellP q a ++ cellR a j).length (cells2 (cellP q a ++ cellR a j)) ∧ Kt w.heap.size (p : Int) B (q : Int) W ∧ Below w.heap.size w W) (fun _ i _ => q - (intOf i).toNat)
      case atStart => exact ⟨0, rfl, by omega, by simpa [cellR] using hown, hK, hB⟩
      case round =>
        obtain ⟨j, rfl, hj, hown, hK, hB⟩ := hrel
        obtain ⟨k0, k1, k2, k3⟩ := id hK
        have hp := HP.out
        have hq := HQ.out
        by_cases hj1 : j < q
        · have hj2 : (j : Int) < (q : Int) := by omega
          have hj5 : (j : Int) ≤ 64 := by omega
          have hlen2 : (cellP q a ++ cellR a j).length ≤ 64 * 64 + 64 := by
            rw [List.length_append, cellP_len, cellR_len]
            have := Nat.mul_le_mul (show a ≤ 64 by omega) hq
            omega
          clear hp hq
          go_wp2_with (at_builtin; refine wpList_append_own _ rfl _ _ 87 rfl (w.heap.size + 1) 49 i0 (.agg #[.int .i64 0, .int .i64 0]) 2 16 Tryd.underlying87 hi hz0 hz1 hz2 rfl (by decide) _ _ _ rfl (hown.alloc _) ⟨wr.heap.size, 0, none⟩ 1 1 [.int .i64 (a : Int), .int .i64 (j : Int)] rfl rfl ?c1 ?c2 ?c3 ?c4 ?c5 ?_)
          case c1 => exact new_two _ _ _ rfl
          case c2 => exact one_two
          case c3 => unfold maxLen; omega
          case c4 => omega
          case c5 => have := hB.size; simp; omega
          intro v' w2 hown' hgrow _
          have hB1 : Below (w.heap.size + 1) wr w2 := Below.grown (Below.alloc (Below.refl _ _) (by omega) _) hgrow (by simp; omega) (fun k hk => (hown.lt k hk).1)
          have B2 : Below w.heap.size w w2 := hB.trans (hB1.mono (by omega))
          have K2 : Kt w.heap.size (p : Int) B (q : Int) w2 := hK.grow hB1 (by omega)
          have hown2 : w2.ownsRow (w.heap.size + 1) 49 2 v' (cellP q a ++ cellR a (j + 1)).length (cells2 (cellP q a ++ cellR a (j + 1))) := by rw [cellR_succ, ← List.append_assoc]; exact own_next2 (by simpa using hown')
          clear hown hB hgrow hown' hlen2 hK k0 k1 k2 k3
          go_wp2
          go_roundw
          case rel => exact ⟨j + 1, by go_num, by omega, hown2, K2, B2⟩
          case measure => first | (simp [intOf]; done) | (simp [intOf]; omega)
        · obtain rfl : j = q := by omega
          clear hj hj1 hp hq
          have hown2 : wr.ownsRow (w.heap.size + 1) 49 2 u3 (cellP j (a + 1)).length (cells2 (cellP j (a + 1))) := by rw [cellP_succ]; exact hown
          have B2 := hB
          have K2 := hK
          clear hown hB hK
          go_wp2
          have ha3 := HA.out
          go_roundw
          case rel => exact ⟨a + 1, by go_num, by omega, hown2, K2, B2⟩
          case measure => first | (simp [intOf]; done) | (simp [intOf]; omega)
    · obtain rfl : a = p := by omega
      clear ha1 ha3
      go_wp2
      go_ret
      exact ⟨_, rfl, ownsRow_lower hown (by omega), hB⟩
end
end Go.Proofs.YtkfdaepnjdnnmaaDoor

namespace Go.Proofs.YtkfdaepnjdnnmaaDoor
section
open Go.RowKit
set_option linter.unusedSimpArgs false
set_option linter.unusedVariables false

theorem ownsRow_grow {B : Nat} {W w1 : World} {base : Nat} {e : TypeId} {size : Nat} {v : Value} {n : Nat} {xs : List Value} (h : W.ownsRow base e size v n xs) (hb : Below B W w1) (hB : W.heap.size ≤ B) : w1.ownsRow base e size v n xs := by
  obtain ⟨h1, h2⟩ := h
  refine ⟨h1, ?_⟩
  rcases h2 with h2 | ⟨g, cap, cur, rfl, hg, hgg, rest⟩
  · exact .inl h2
  · refine .inr ⟨g, cap, cur, rfl, hg, ?_, rest⟩
    rw [hb.block g (Nat.lt_of_lt_of_le (Array.getElem?_eq_some_iff.1 hgg).1 hB)]; exact hgg
theorem ownsRow_call {W w1 : World} {base : Nat} {e : TypeId} {size : Nat} {v : Value} {n : Nat} {xs : List Value} (h : W.ownsRow base e size v n xs) (hb : Below W.heap.size W w1) : w1.ownsRow base e size v n xs := ownsRow_grow h hb (Nat.le_refl _)
/- how far the program looks -/
end
end Go.Proofs.YtkfdaepnjdnnmaaDoor

namespace Go.Proofs.YtkfdaepnjdnnmaaDoor
section
open Go.RowKit
set_option linter.unusedSimpArgs false
set_option linter.unusedVariables false

def cells4 (xs : List M4) : List Value := xs.flatMap (fun t => [.int .i64 t.1, .int .i64 t.2.1, .int .i64 t.2.2.1, .int .i64 t.2.2.2])
theorem cells4_snoc (xs : List M4) (t : M4) : cells4 (xs ++ [t]) = cells4 xs ++ [.int .i64 t.1, .int .i64 t.2.1, .int .i64 t.2.2.1, .int .i64 t.2.2.2] := by simp [cells4]
theorem cells4_int (xs : List M4) : ∀ u ∈ cells4 xs, ∃ z, u = .int .i64 z := by
  intro u hu
  simp only [cells4, List.mem_flatMap, List.mem_cons, List.not_mem_nil, or_false] at hu
  obtain ⟨t, _, h | h | h | h⟩ := hu <;> exact ⟨_, h⟩
theorem cells4_get : ∀ (xs : List M4) (i : Nat) (h : i < xs.length), (cells4 xs)[i * 4]? = some (.int .i64 xs[i].1) ∧ (cells4 xs)[i * 4 + 1]? = some (.int .i64 xs[i].2.1) ∧ (cells4 xs)[i * 4 + 2]? = some (.int .i64 xs[i].2.2.1) ∧ (cells4 xs)[i * 4 + 3]? = some (.int .i64 xs[i].2.2.2)
  | [], i, h => by simp at h
  | t :: xs, 0, _ => by simp [cells4]
  | t :: xs, i + 1, h => by
    have ih := cells4_get xs i (by simpa using h)
    have e : ∀ k, (cells4 (t :: xs))[k + 4]? = (cells4 xs)[k]? := fun k => by simp [cells4]
    rw [show (i + 1) * 4 = i * 4 + 4 by omega, show i * 4 + 4 + 1 = (i * 4 + 1) + 4 by omega, show i * 4 + 4 + 2 = (i * 4 + 2) + 4 by omega, show i * 4 + 4 + 3 = (i * 4 + 3) + 4 by omega, e, e, e, e]
    simpa using ih
theorem infoMat : (Tryd.prog.info? 48).map (fun i => (i.zero, i.size, i.bytes)) = some (some (.agg #[.int .i64 0, .int .i64 0, .int .i64 0, .int .i64 0]), 4, 32) := by kernel_rfl
theorem one_four {a b c d : Int} : ∀ u ∈ [Value.int .i64 a, .int .i64 b, .int .i64 c, .int .i64 d], u.oneCell' = true := by
  intro u hu
  simp only [List.mem_cons, List.not_mem_nil, or_false] at hu
  rcases hu with rfl | rfl | rfl | rfl <;> rfl
theorem new_four {W : World} {g : Nat} (T : TypeId) (a b c d : Value) (hg : g = W.heap.size) : ∀ (j : Nat) (u : Value), [a, b, c, d][j]? = some u → (W.alloc (.cells #[a, b, c, d] T)).cell? ((⟨g, 0, none⟩ : Addr).add j) = some u := by
  subst hg
  intro j u hj
  match j, hj with
  | 0, hj => simp at hj; subst hj; simp [Addr.add, go_sem]
  | 1, hj => simp at hj; subst hj; simp [Addr.add, go_sem]
  | 2, hj => simp at hj; subst hj; simp [Addr.add, go_sem]
  | 3, hj => simp at hj; subst hj; simp [Addr.add, go_sem]
  | j + 4, hj => simp at hj
theorem own_next4 {w1 : World} {base : Nat} {e : TypeId} {v : Value} {xs : List M4} {a b c d : Int} (h : w1.ownsRow base e 4 v (xs.length + 1) (cells4 xs ++ [.int .i64 a, .int .i64 b, .int .i64 c, .int .i64 d])) : w1.ownsRow base e 4 v (xs ++ [(a, b, c, d)]).length (cells4 (xs ++ [(a, b, c, d)])) := by
  rw [cells4_snoc]; simpa using h
def decM (k : Nat) : M4 := ((k : Int) / 27 - 1, (k : Int) / 9 % 3 - 1, (k : Int) / 3 % 3 - 1, (k : Int) % 3 - 1)
def keepM (f : Int) (m : M4) : Bool := keepB f m.1 m.2.1 m.2.2.1 m.2.2.2
def matsP (f : Int) (k : Nat) : List M4 := ((List.range k).map decM).filter (keepM f)
def matsL (f : Int) : List M4 := matsP f 81
theorem matsP_succ (f : Int) (k : Nat) : matsP f (k + 1) = matsP f k ++ (if keepM f (decM k) = true then [decM k] else []) := by
  unfold matsP
  rw [List.range_succ, List.map_append, List.filter_append]
  congr 1
  rcases h : keepM f (decM k) with _ | _ <;> simp [h]
theorem matsP_yes {f : Int} {k : Nat} {a b c d : Int} (hd : decM k = (a, b, c, d)) (h : keepB f a b c d = true) : matsP f (k + 1) = matsP f k ++ [(a, b, c, d)] := by
  rw [matsP_succ, hd, if_pos (show keepM f (a, b, c, d) = true from h)]
theorem matsP_no {f : Int} {k : Nat} {a b c d : Int} (hd : decM k = (a, b, c, d)) (h : keepB f a b c d = false) : matsP f (k + 1) = matsP f k := by
  rw [matsP_succ, hd, if_neg (by rw [show keepM f (a, b, c, d) = false from h]; simp), List.append_nil]
theorem matsP_len (f : Int) (k : Nat) : (matsP f k).length ≤ k := by
  unfold matsP
  refine Nat.le_trans (List.length_filter_le _ _) ?_
  simp
theorem decM_lim {k : Nat} (h : k < 81) : limB (decM k).1 (decM k).2.1 (decM k).2.2.1 (decM k).2.2.2 = true := by
  unfold decM
  dsimp only
  simp only [limB, vecB, Bool.and_eq_true, decide_eq_true_eq]
  omega
def MatsOwn (f : Int) (w : World) (e : Ending) (w' : World) : Prop :=
  ∃ v : Value, e = .returned v ∧ w'.ownsRow w.heap.size 48 4 v (matsL f).length (cells4 (matsL f)) ∧ Below w.heap.size w w'
set_option maxRecDepth 100000 in
set_option maxHeartbeats 4000000 in
theorem l04Mats_any (f : Int) (w : World) (hf : frB f = true) :
    Calls Tryd.prog 99 #[.int .i64 f] w (MatsOwn f w) := by
  obtain ⟨i0, hi, hz0, hz1, hz2⟩ := info_parts infoMat
  go_enter Tryd.func99, Tryd.ntmps99
  go_wp2_with fail
  go_loopw [3, 4] (fun v i W => ∃ k : Nat, i = .int .i64 (k : Int) ∧ k ≤ 81 ∧ W.ownsRow w.heap.size 48 4 v (matsP f k).length (cells4 (matsP f k)) ∧ Below w.heap.size w W) (fun _ i _ => (81 - intOf i).toNat)
  case atStart => exact ⟨0, rfl, by omega, by have h := World.ownsRow_lit (base := w.heap.size) (e := 48) (size := 4) w #[] 0 (Nat.le_refl _) (by unfold maxLen; omega) rfl; simpa [matsP, cells4] using h, (Below.refl _ _).alloc (Nat.le_refl _) _⟩
  case round =>
    obtain ⟨k, rfl, hk, hown, hB⟩ := hrel
    have hz := hB.size
    by_cases hk1 : k < 81
    · have hk2 : (k : Int) < 81 := by omega
      have hk3 : 0 ≤ (k : Int) := by omega
      have HL := Lib.hid (matsP_len f k)
      have HD := Lib.hid (show decM k = ((k : Int) / 27 - 1, (k : Int) / 9 % 3 - 1, (k : Int) / 3 % 3 - 1, (k : Int) % 3 - 1) from rfl)
      have HM := Lib.hid (decM_lim hk1)
      have HK := Lib.hid hk1
      clear hk hk1
      go_wp2_with fail
      have hb1 : -1 ≤ (k : Int) / 27 - 1 ∧ (k : Int) / 27 - 1 ≤ 1 := by omega
      have hb2 : -1 ≤ (k : Int) / 9 % 3 - 1 ∧ (k : Int) / 9 % 3 - 1 ≤ 1 := by omega
      have hb3 : -1 ≤ (k : Int) / 3 % 3 - 1 ∧ (k : Int) / 3 % 3 - 1 ≤ 1 := by omega
      have hb4 : -1 ≤ (k : Int) % 3 - 1 ∧ (k : Int) % 3 - 1 ≤ 1 := by omega
      have hlim := HM.out
      rw [HD.out] at hlim
      clear HM
      dsimp only at hlim
      generalize (k : Int) / 27 - 1 = a at *
      generalize (k : Int) / 9 % 3 - 1 = b at *
      generalize (k : Int) / 3 % 3 - 1 = c at *
      generalize (k : Int) % 3 - 1 = d at *
      have V1 : Kq wr.heap.size a b c d (wr.alloc (.cells #[.int .i64 a, .int .i64 b, .int .i64 c, .int .i64 d] 48)) := Kq.at _ rfl
      have B1 : Below w.heap.size w (wr.alloc (.cells #[.int .i64 a, .int .i64 b, .int .i64 c, .int .i64 d] 48)) := hB.alloc hz _
      have O1 : (wr.alloc (.cells #[.int .i64 a, .int .i64 b, .int .i64 c, .int .i64 d] 48)).ownsRow w.heap.size 48 4 u3 (matsP f k).length (cells4 (matsP f k)) := hown.alloc _
      clear hown hB
      refine (l04Keeps_any _ _ _ _ _ _ hf hlim).mono ?_
      rintro e w1 ⟨rfl, hb⟩
      have V2 := V1.call hb
      have B2 := bstep B1 hb
      have O2 := ownsRow_call O1 hb
      clear V1 B1 O1 hb hlim
      obtain ⟨v0, v1, v2, v3, v4⟩ := id V2
      rcases hN : keepB f a b c d with _ | _
      · have hown2 : w1.ownsRow w.heap.size 48 4 u3 (matsP f (k + 1)).length (cells4 (matsP f (k + 1))) := by rw [matsP_no HD.out hN]; exact O2
        clear O2 V2 v0 v1 v2 v3 v4
        go_wp2
        have hk1 := HK.out
        go_roundw
        case rel => exact ⟨k + 1, by go_num, by omega, hown2, B2⟩
        case measure => first | (simp [intOf]; done) | (simp [intOf]; omega)
      · go_wp2_with (at_builtin; refine wpList_append_own _ rfl _ _ 101 rfl w.heap.size 48 i0 (.agg #[.int .i64 0, .int .i64 0, .int .i64 0, .int .i64 0]) 4 32 Tryd.underlying101 hi hz0 hz1 hz2 rfl (by decide) _ _ _ rfl (O2.alloc _) ⟨w1.heap.size, 0, none⟩ 1 1 [.int .i64 a, .int .i64 b, .int .i64 c, .int .i64 d] rfl rfl ?c1 ?c2 ?c3 ?c4 ?c5 ?_)
        case c1 => exact new_four _ _ _ _ _ rfl
        case c2 => exact one_four
        case c3 => have h1 := HL.out; have h2 := HK.out; unfold maxLen; omega
        case c4 => have h1 := HL.out; have h2 := HK.out; omega
        case c5 => have := B2.size; simp; omega
        intro v' w2 hown' hgrow _
        have B3 : Below w.heap.size w w2 := Below.grown (Below.alloc B2 B2.size _) hgrow (by have := B2.size; simp; omega) (fun q hq => by have := (O2.lt q hq).1; omega)
        have hown2 : w2.ownsRow w.heap.size 48 4 v' (matsP f (k + 1)).length (cells4 (matsP f (k + 1))) := by rw [matsP_yes HD.out hN]; exact own_next4 (by simpa using hown')
        clear O2 B2 V2 hgrow hown' v0 v1 v2 v3 v4
        go_wp2
        have hk1 := HK.out
        go_roundw
        case rel => exact ⟨k + 1, by go_num, by omega, hown2, B3⟩
        case measure => first | (simp [intOf]; done) | (simp [intOf]; omega)
    · obtain rfl : k = 81 := by omega
      clear hk hk1
      go_wp2
      go_ret
      exact ⟨_, rfl, hown, hB⟩
end
end Go.Proofs.YtkfdaepnjdnnmaaDoor

