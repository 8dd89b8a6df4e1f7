/-
  What further texts of this claim ask of the elder ones. Conditions: those stated at each.
-/
import Derived.Test.YtjjfomokecngoaaGreatDoorGa
import Derived.Test.YtjjfomokecngoaaGreatDoorGc
import Derived.Test.YtjjfomokecngoaaGreatDoorGb
import Derived.Test.YtjjfomokecngoaaGreatDoorGe
import Derived.Test.YtjjfomokecngoaaGreatDoorGg
import Derived.Test.YtjjfomokecngoaaGreatDoorGf
import Derived.Test.YtjjfomokecngoaaGreatDoorGi
import Derived.Test.YtjjfomokecngoaaGreatDoorPmJ
import Derived.Test.YtjjfomokecngoaaGreatDoorBx
import Derived.Test.YtjjfomokecngoaaGreatDoorGv
import Derived.Test.YtjjfomokecngoaaGreatDoorPb
import Derived.Test.YtjjfomokecngoaaGreatDoorPa
import Derived.Test.YtjjfomokecngoaaGreatDoorPc
import Derived.Test.YtjjfomokecngoaaGreatDoorGd
import Derived.Test.YtjjfomokecngoaaGreatDoorHg
import Derived.Test.YtjjfomokecngoaaGreatDoorPtJ
import Derived.Test.YtjjfomokecngoaaGreatDoorPtB
import Derived.Test.YtjjfomokecngoaaGreatDoorVb
import Derived.Test.YtjjfomokecngoaaGreatDoorSyM
import Derived.Test.YtjjfomokecngoaaGreatDoorSa
import Derived.Test.YtjjfomokecngoaaGreatDoorGh
import Derived.Test.YtjjfomokecngoaaGreatDoorFaF
import Derived.LoopTactic
import Derived.Deep.RegionHeld3
import Derived.Maps.AppendAt
import Derived.IntWalk
import Derived.Deep.DeepCutAuto
import Derived.RangeFuncNested
import Derived.RangeFuncBound
import Derived.RangeFuncCalls
import Derived.RangeFuncLeaves
import Derived.RangeFuncBox
import Derived.Shelf.Abstract
import Derived.Shelf.RegionOpen
import Derived.WalkKit
import Derived.OwnWalkIn
import Derived.TacticsInMore
import Derived.LoopNIn
import Derived.LoopIn
import Derived.OwnWalk
namespace Go.Proofs.YtjjfomokecngoaaGreatDoor
open Go.RowKit
set_option linter.unusedSimpArgs false
open Go.RowKit
set_option linter.unusedSimpArgs false
set_option linter.unusedVariables false
open Go.RowKit
open Go.RowKit
set_option linter.unusedSimpArgs false
set_option linter.unusedVariables false
open Go.RowKit
open Go.RowKit
set_option linter.unusedSimpArgs false
set_option linter.unusedVariables false
theorem cells6_snoc (xs : List M6) (t : M6) : cells6 (xs ++ [t]) = cells6 xs ++ [.int .i64 t.1, .int .i64 t.2.1, .int .i64 t.2.2.1, .int .i64 t.2.2.2.1, .int .i64 t.2.2.2.2.1, .int .i64 t.2.2.2.2.2] := by simp [cells6]
theorem own_next6 {w1 : World} {base : Nat} {e : TypeId} {v : Value} {xs : List M6} {a b c d x y : Int} (h : w1.ownsRow base e 6 v (xs.length + 1) (cells6 xs ++ [.int .i64 a, .int .i64 b, .int .i64 c, .int .i64 d, .int .i64 x, .int .i64 y])) : w1.ownsRow base e 6 v (xs ++ [(a, b, c, d, x, y)]).length (cells6 (xs ++ [(a, b, c, d, x, y)])) := by
  rw [List.length_append, cells6_snoc]; exact h
open Go.RowKit
set_option linter.unusedSimpArgs false
set_option linter.unusedVariables false
end Go.Proofs.YtjjfomokecngoaaGreatDoor
namespace Go.Proofs.YtjjfomokecngoaaGreatDoor
open Go.RowKit
set_option linter.unusedSimpArgs false
set_option linter.unusedVariables false
set_option maxHeartbeats 1000000 in
theorem specIsFrame_any (f : Int) (w : World) :
    Calls Tryz.prog 190 #[.int .i64 f] w fun e w' => e = .returned (.bool (frB f)) ∧ w = w' := by
  by_cases h0 : f = 0
  · subst h0
    go_enter Tryz.func190, Tryz.ntmps190
    go_wp2
    go_ret
    exact ⟨rfl, rfl⟩
  · have g0 : (f == 0) = false := by simpa using h0
    by_cases h1 : f = 1
    · subst h1
      go_enter Tryz.func190, Tryz.ntmps190
      go_wp2
      go_ret
      exact ⟨rfl, rfl⟩
    · have g1 : (f == 1) = false := by simpa using h1
      have h := frB_not.2 ⟨h0, h1⟩
      go_enter Tryz.func190, Tryz.ntmps190
      go_wp2
      go_ret
      exact ⟨ret_bool (by rw [h]), rfl⟩
open Go.RowKit
set_option linter.unusedSimpArgs false
set_option linter.unusedVariables false
open Go.RowKit
set_option linter.unusedSimpArgs false
set_option linter.unusedVariables false
set_option maxHeartbeats 4000000 in
theorem l01AddM_any (x y x' y' : Int) (w : World) (hx : midI (x + x')) (hy : midI (y + y')) :
    Calls Tryz.prog 178 #[.agg #[.int .i64 x, .int .i64 y], .agg #[.int .i64 x', .int .i64 y']] w fun e w' => e = .returned (.agg #[.int .i64 (x + x'), .int .i64 (y + y')]) ∧ Below w.heap.size w w' := by
  unfold midI at hx hy
  obtain ⟨_, _⟩ := hx
  obtain ⟨_, _⟩ := hy
  go_enter Tryz.func178, Tryz.ntmps178
  go_wp2
  refine bodyPost_ret (v := .agg #[.int .i64 (x + x'), .int .i64 (y + y')]) (by simp [results, Tryz.results178, go_sem]) rfl ⟨rfl, ?_⟩
  repeat (first | exact Below.refl _ _ | refine Below.setCell ?_ (by simp) _ | refine Below.alloc ?_ (by simp; try omega) _)
theorem keepB_1 {f a b c d : Int} (h : (nrmI f a c == 1) = false) : keepB f a b c d = false := by simp [keepB, h]
theorem keepB_2 {f a b c d : Int} (h : (nrmI f b d == 1) = false) : keepB f a b c d = false := by simp [keepB, h]
theorem keepB_3 {f a b c d : Int} (h : (nrmI f (a + b) (c + d) == 2 + f) = false) : keepB f a b c d = false := by simp only [keepB, h, Bool.and_false]
def MidKeep (w : World) (a b c d : Int) (s5 s6 : Value) (wx : World) : Prop :=
  ∃ g h : Nat, s5 = .pointer (some ⟨g, 0, none⟩) ∧ s6 = .pointer (some ⟨h, 0, none⟩) ∧ Kg g a c wx ∧ Kg h b d wx ∧ Below w.heap.size w wx
set_option maxHeartbeats 4000000 in
theorem l04Keeps_any (f a b c d : Int) (w : World) (hf : frB f = true) (h : limB a b c d = true) :
    Calls Tryz.prog 230 #[.int .i64 f, .agg #[.int .i64 a, .int .i64 b, .int .i64 c, .int .i64 d]] w fun e w' => e = .returned (.bool (keepB f a b c d)) ∧ Below w.heap.size w w' := by
  obtain ⟨⟨ma, mb, mc, md⟩, mab, mcd⟩ := lim_mid h
  have MA := Lib.hid ma
  have MB := Lib.hid mb
  have MC := Lib.hid mc
  have MD := Lib.hid md
  have MAB := Lib.hid mab
  have MCD := Lib.hid mcd
  have hf01 : 0 ≤ f ∧ f ≤ 1 := by rcases frB_iff.1 hf with rfl | rfl <;> omega
  obtain ⟨f0, f1⟩ := hf01
  clear ma mb mc md mab mcd h
  go_enter Tryz.func230, Tryz.ntmps230
  go_upto_region 1 with fail
  go_cut [5, 6] (fun s5 s6 wx => MidKeep w a b c d s5 s6 wx)
  case first =>
    go_region_held3 (fun W => W.cell? ⟨w.heap.size, 0, none⟩ = some (.int .i64 a) ∧ W.cell? ⟨w.heap.size, 1, none⟩ = some (.int .i64 b) ∧ W.cell? ⟨w.heap.size, 2, none⟩ = some (.int .i64 c) ∧ W.cell? ⟨w.heap.size, 3, none⟩ = some (.int .i64 d)) (simp [go_sem]) (fail)
    all_goals
      go_wp2_with fail
      go_meet
      refine ⟨_, _, rfl, rfl, ⟨by simp, by simp [go_sem], by simp [go_sem]⟩, ⟨by simp, by simp [go_sem], by simp [go_sem]⟩, ?_⟩
      repeat (first | exact Below.refl _ _ | refine Below.setCell ?_ (by first | omega | (simp <;> omega)) _ | refine Below.alloc ?_ (by first | omega | (simp <;> omega)) _ | refine bstep ?_ (by assumption) | refine Below.drew ?_)
  case rest =>
    obtain ⟨g, h, rfl, rfl, KA, KB, B0⟩ := hcut
    rcases h0 : (nrmI f a c == 1) with _ | _
    · have E := Lib.hid (keepB_1 (b := b) (d := d) h0)
      obtain ⟨i0, i1, i2⟩ := id KA
      go_wp2_with fail
      refine (l04Norm_any _ _ _ _ hf MA.out MC.out).mono ?_
      rintro e w1 ⟨rfl, hb1⟩
      have B1 := bstep B0 hb1
      go_wp2
      go_ret
      exact ⟨ret_bool E.out.symm, B1⟩
    rcases h1 : (nrmI f b d == 1) with _ | _
    · have E := Lib.hid (keepB_2 (a := a) (c := c) h1)
      obtain ⟨i0, i1, i2⟩ := id KA
      go_wp2_with fail
      refine (l04Norm_any _ _ _ _ hf MA.out MC.out).mono ?_
      rintro e w1 ⟨rfl, hb1⟩
      have B1 := bstep B0 hb1
      have K2 := KB.call hb1
      obtain ⟨k0, k1, k2⟩ := id K2
      clear hb1
      go_wp2_with fail
      refine (l04Norm_any _ _ _ _ hf MB.out MD.out).mono ?_
      rintro e w2 ⟨rfl, hb2⟩
      go_wp2
      go_ret
      exact ⟨ret_bool E.out.symm, bstep B1 hb2⟩
    have HN : ∀ q : Bool, (nrmI f (a + b) (c + d) == 2 + f) = q → keepB f a b c d = q := by
      intro q hq
      cases q
      · exact keepB_3 hq
      · exact keepB_4 h0 h1 hq
    have E := Lib.hid (HN _ rfl)
    have H2 := Lib.hid (show (nrmI f (a + b) (c + d) == 2 + f) = keepB f a b c d from (HN _ rfl).symm)
    clear HN
    obtain ⟨i0, i1, i2⟩ := id KA
    go_wp2_with fail
    refine (l04Norm_any _ _ _ _ hf MA.out MC.out).mono ?_
    rintro e w1 ⟨rfl, hb1⟩
    have B1 := bstep B0 hb1
    have K1 := KA.call hb1
    have K2 := KB.call hb1
    clear hb1 i0 i1 i2 KA KB B0
    obtain ⟨i0, i1, i2⟩ := id K1
    obtain ⟨k0, k1, k2⟩ := id K2
    go_wp2_with fail
    refine (l04Norm_any _ _ _ _ hf MB.out MD.out).mono ?_
    rintro e w2 ⟨rfl, hb2⟩
    have K3 := K1.call hb2
    have K4 := K2.call hb2
    have B2 := bstep B1 hb2
    clear hb2 i0 i1 i2 k0 k1 k2 K1 K2 B1
    obtain ⟨i0, i1, i2⟩ := id K3
    obtain ⟨k0, k1, k2⟩ := id K4
    go_wp2_with fail
    refine (l01AddM_any _ _ _ _ _ MAB.out MCD.out).mono ?_
    rintro e w3 ⟨rfl, hb3⟩
    have B3 := bstep B2 hb3
    clear hb3
    go_wp2_with fail
    refine (l04Norm_any _ _ _ _ hf MAB.out MCD.out).mono ?_
    rintro e w4 ⟨rfl, hb4⟩
    have B4 := bstep B3 hb4
    clear hb4
    go_wp2
    all_goals
      go_ret
      exact ⟨ret_bool (by first | exact H2.out | (rw [E.out]; simp_all) | simp_all), B4⟩
open Go.RowKit
set_option linter.unusedVariables false
set_option linter.unusedSimpArgs false
end Go.Proofs.YtjjfomokecngoaaGreatDoor
namespace Go.Proofs.YtjjfomokecngoaaGreatDoor
open Go.RowKit Go.Shelf
attribute [local go_sem] Oper.semAt_some
set_option linter.unusedSimpArgs false
set_option linter.unusedVariables false
open Go.RowKit
set_option linter.unusedSimpArgs false
set_option linter.unusedVariables false
def CelOwn (p q : Nat) (w : World) (e : Ending) (w' : World) : Prop :=
  ∃ v : Value, e = .returned v ∧ w'.ownsRow w.heap.size 63 2 v (cellP q p).length (cells2 (cellP q p)) ∧ Below w.heap.size w w'
set_option maxHeartbeats 4000000 in
theorem l03Cells_any (p q : Nat) (B : Int) (w : World) (hp : p ≤ 64) (hq : q ≤ 64) :
    Calls Tryz.prog 195 #[.agg #[.int .i64 ((p : Int)), .int .i64 B, .int .i64 ((q : Int))]] w (CelOwn p q w) := by
  obtain ⟨i0, hi, hz0, hz1, hz2⟩ := info_parts infoVec
  have HP := Lib.hid hp
  have HQ := Lib.hid hq
  clear hp hq
  go_enter Tryz.func195, Tryz.ntmps195
  go_wp2_with fail
  have hlit : ((w.alloc (.cells #[.int .i64 (p : Int), .int .i64 B, .int .i64 (q : Int)] 28)).alloc (.cells #[] 63)).ownsRow (w.heap.size + 1) 63 2 (.slice (some ⟨w.heap.size + 1, 0, none⟩) 0 0) (cellP q 0).length (cells2 (cellP q 0)) := by
    have h := World.ownsRow_lit (base := w.heap.size + 1) (e := 63) (size := 2) (w.alloc (.cells #[.int .i64 (p : Int), .int .i64 B, .int .i64 (q : Int)] 28)) #[] 0 (by simp) (by unfold maxLen; omega) rfl
    simpa [cellP, cells2] using h
  go_loopw [3, 4] (fun v i W => ∃ (a : Nat), i = .int .i64 (a : Int) ∧ a ≤ p ∧ W.ownsRow (w.heap.size + 1) 63 2 v (cellP q a).length (cells2 (cellP q a)) ∧ Kt w.heap.size (p : Int) B (q : Int) W ∧ Below w.heap.size w W) (fun _ i _ => p - (intOf i).toNat)
  case atStart => exact ⟨0, rfl, by omega, hlit, (Kt.at _ rfl).alloc _, ((Below.refl _ _).alloc (Nat.le_refl _) _).alloc (by simp) _⟩
  case round =>
    obtain ⟨a, rfl, ha1, hown, hK, hB⟩ := hrel
    obtain ⟨k0, k1, k2, k3⟩ := id hK
    by_cases ha3 : a < p
    · have ha4 : (a : Int) < (p : Int) := by omega
      have ha5 : (a : Int) ≤ 64 := by have := HP.out; omega
      have HA := Lib.hid ha3
      clear ha1 ha3
      go_wp2_with fail
      clear k0 k1 k2 k3
      go_loopw [3, 5] (fun v i W => ∃ (j : Nat), i = .int .i64 (j : Int) ∧ j ≤ q ∧ W.ownsRow (w.heap.size + 1) 63 2 v (cellP q a ++ cellR a j).length (cells2 (cellP q a ++ cellR a j)) ∧ Kt w.heap.size (p : Int) B (q : Int) W ∧ Below w.heap.size w W) (fun _ i _ => q - (intOf i).toNat)
      case atStart => exact ⟨0, rfl, by omega, by simpa [cellR] using hown, hK, hB⟩
      case round =>
        obtain ⟨j, rfl, hj, hown, hK, hB⟩ := hrel
        obtain ⟨k0, k1, k2, k3⟩ := id hK
        have hp := HP.out
        have hq := HQ.out
        by_cases hj1 : j < q
        · have hj2 : (j : Int) < (q : Int) := by omega
          have hj5 : (j : Int) ≤ 64 := by omega
          have hlen2 : (cellP q a ++ cellR a j).length ≤ 64 * 64 + 64 := by
            rw [List.length_append, cellP_len, cellR_len]
            have := Nat.mul_le_mul (show a ≤ 64 by omega) hq
            omega
          clear hp hq
          go_wp2_with (at_builtin; refine wpList_append_own _ rfl _ _ 83 rfl (w.heap.size + 1) 63 i0 (.agg #[.int .i64 0, .int .i64 0]) 2 16 Tryz.underlying83 hi hz0 hz1 hz2 rfl (by decide) _ _ _ rfl (hown.alloc _) ⟨wr.heap.size, 0, none⟩ 1 1 [.int .i64 (a : Int), .int .i64 (j : Int)] rfl rfl ?c1 ?c2 ?c3 ?c4 ?c5 ?_)
          case c1 => exact new_two _ _ _ rfl
          case c2 => exact one_two
          case c3 => unfold maxLen; omega
          case c4 => omega
          case c5 => have := hB.size; simp; omega
          intro v' w2 hown' hgrow _
          have hB1 : Below (w.heap.size + 1) wr w2 := Below.grown (Below.alloc (Below.refl _ _) (by omega) _) hgrow (by simp; omega) (fun k hk => (hown.lt k hk).1)
          have B2 : Below w.heap.size w w2 := hB.trans (hB1.mono (by omega))
          have K2 : Kt w.heap.size (p : Int) B (q : Int) w2 := hK.grow hB1 (by omega)
          have hown2 : w2.ownsRow (w.heap.size + 1) 63 2 v' (cellP q a ++ cellR a (j + 1)).length (cells2 (cellP q a ++ cellR a (j + 1))) := by rw [cellR_succ, ← List.append_assoc]; exact own_next2 (by simpa using hown')
          clear hown hB hgrow hown' hlen2 hK k0 k1 k2 k3
          go_wp2
          go_roundw
          case rel => exact ⟨j + 1, by go_num, by omega, hown2, K2, B2⟩
          case measure => first | (simp [intOf]; done) | (simp [intOf]; omega)
        · obtain rfl : j = q := by omega
          clear hj hj1 hp hq
          have hown2 : wr.ownsRow (w.heap.size + 1) 63 2 u3 (cellP j (a + 1)).length (cells2 (cellP j (a + 1))) := by rw [cellP_succ]; exact hown
          have B2 := hB
          have K2 := hK
          clear hown hB hK
          go_wp2
          have ha3 := HA.out
          go_roundw
          case rel => exact ⟨a + 1, by go_num, by omega, hown2, K2, B2⟩
          case measure => first | (simp [intOf]; done) | (simp [intOf]; omega)
    · obtain rfl : a = p := by omega
      clear ha1 ha3
      go_wp2
      go_ret
      exact ⟨_, rfl, ownsRow_lower hown (by omega), hB⟩
open Go.RowKit
set_option linter.unusedSimpArgs false
set_option linter.unusedVariables false
open Go.RowKit
set_option linter.unusedSimpArgs false
set_option linter.unusedVariables false
def cells4 (xs : List M4) : List Value := xs.flatMap (fun t => [.int .i64 t.1, .int .i64 t.2.1, .int .i64 t.2.2.1, .int .i64 t.2.2.2])
theorem cells4_snoc (xs : List M4) (t : M4) : cells4 (xs ++ [t]) = cells4 xs ++ [.int .i64 t.1, .int .i64 t.2.1, .int .i64 t.2.2.1, .int .i64 t.2.2.2] := by simp [cells4]
theorem cells4_int (xs : List M4) : ∀ u ∈ cells4 xs, ∃ z, u = .int .i64 z := by
  intro u hu
  simp only [cells4, List.mem_flatMap, List.mem_cons, List.not_mem_nil, or_false] at hu
  obtain ⟨t, _, h | h | h | h⟩ := hu <;> exact ⟨_, h⟩
theorem cells4_get : ∀ (xs : List M4) (i : Nat) (h : i < xs.length), (cells4 xs)[i * 4]? = some (.int .i64 xs[i].1) ∧ (cells4 xs)[i * 4 + 1]? = some (.int .i64 xs[i].2.1) ∧ (cells4 xs)[i * 4 + 2]? = some (.int .i64 xs[i].2.2.1) ∧ (cells4 xs)[i * 4 + 3]? = some (.int .i64 xs[i].2.2.2)
  | [], i, h => by simp at h
  | t :: xs, 0, _ => by simp [cells4]
  | t :: xs, i + 1, h => by
    have ih := cells4_get xs i (by simpa using h)
    have e : ∀ k, (cells4 (t :: xs))[k + 4]? = (cells4 xs)[k]? := fun k => by simp [cells4]
    rw [show (i + 1) * 4 = i * 4 + 4 by omega, show i * 4 + 4 + 1 = (i * 4 + 1) + 4 by omega, show i * 4 + 4 + 2 = (i * 4 + 2) + 4 by omega, show i * 4 + 4 + 3 = (i * 4 + 3) + 4 by omega, e, e, e, e]
    simpa using ih
theorem infoMat : (Tryz.prog.info? 59).map (fun i => (i.zero, i.size, i.bytes)) = some (some (.agg #[.int .i64 0, .int .i64 0, .int .i64 0, .int .i64 0]), 4, 32) := by kernel_rfl
theorem one_four {a b c d : Int} : ∀ u ∈ [Value.int .i64 a, .int .i64 b, .int .i64 c, .int .i64 d], u.oneCell' = true := by
  intro u hu
  simp only [List.mem_cons, List.not_mem_nil, or_false] at hu
  rcases hu with rfl | rfl | rfl | rfl <;> rfl
theorem new_four {W : World} {g : Nat} (T : TypeId) (a b c d : Value) (hg : g = W.heap.size) : ∀ (j : Nat) (u : Value), [a, b, c, d][j]? = some u → (W.alloc (.cells #[a, b, c, d] T)).cell? ((⟨g, 0, none⟩ : Addr).add j) = some u := by
  subst hg
  intro j u hj
  match j, hj with
  | 0, hj => simp at hj; subst hj; simp [Addr.add, go_sem]
  | 1, hj => simp at hj; subst hj; simp [Addr.add, go_sem]
  | 2, hj => simp at hj; subst hj; simp [Addr.add, go_sem]
  | 3, hj => simp at hj; subst hj; simp [Addr.add, go_sem]
  | j + 4, hj => simp at hj
theorem own_next4 {w1 : World} {base : Nat} {e : TypeId} {v : Value} {xs : List M4} {a b c d : Int} (h : w1.ownsRow base e 4 v (xs.length + 1) (cells4 xs ++ [.int .i64 a, .int .i64 b, .int .i64 c, .int .i64 d])) : w1.ownsRow base e 4 v (xs ++ [(a, b, c, d)]).length (cells4 (xs ++ [(a, b, c, d)])) := by
  rw [cells4_snoc]; simpa using h
theorem matsP_yes {f : Int} {k : Nat} {a b c d : Int} (hd : decM k = (a, b, c, d)) (h : keepB f a b c d = true) : matsP f (k + 1) = matsP f k ++ [(a, b, c, d)] := by
  rw [matsP_succ, hd, if_pos (show keepM f (a, b, c, d) = true from h)]
theorem matsP_no {f : Int} {k : Nat} {a b c d : Int} (hd : decM k = (a, b, c, d)) (h : keepB f a b c d = false) : matsP f (k + 1) = matsP f k := by
  rw [matsP_succ, hd, if_neg (by rw [show keepM f (a, b, c, d) = false from h]; simp), List.append_nil]
def MatsOwn (f : Int) (w : World) (e : Ending) (w' : World) : Prop :=
  ∃ v : Value, e = .returned v ∧ w'.ownsRow w.heap.size 59 4 v (matsL f).length (cells4 (matsL f)) ∧ Below w.heap.size w w'
set_option maxRecDepth 100000 in
set_option maxHeartbeats 4000000 in
theorem l04Mats_any (f : Int) (w : World) (hf : frB f = true) :
    Calls Tryz.prog 241 #[.int .i64 f] w (MatsOwn f w) := by
  obtain ⟨i0, hi, hz0, hz1, hz2⟩ := info_parts infoMat
  go_enter Tryz.func241, Tryz.ntmps241
  go_wp2_with fail
  go_loopw [3, 4] (fun v i W => ∃ k : Nat, i = .int .i64 (k : Int) ∧ k ≤ 81 ∧ W.ownsRow w.heap.size 59 4 v (matsP f k).length (cells4 (matsP f k)) ∧ Below w.heap.size w W) (fun _ i _ => (81 - intOf i).toNat)
  case atStart => exact ⟨0, rfl, by omega, by have h := World.ownsRow_lit (base := w.heap.size) (e := 59) (size := 4) w #[] 0 (Nat.le_refl _) (by unfold maxLen; omega) rfl; simpa [matsP, cells4] using h, (Below.refl _ _).alloc (Nat.le_refl _) _⟩
  case round =>
    obtain ⟨k, rfl, hk, hown, hB⟩ := hrel
    have hz := hB.size
    by_cases hk1 : k < 81
    · have hk2 : (k : Int) < 81 := by omega
      have hk3 : 0 ≤ (k : Int) := by omega
      have HL := Lib.hid (matsP_len f k)
      have HD := Lib.hid (show decM k = ((k : Int) / 27 - 1, (k : Int) / 9 % 3 - 1, (k : Int) / 3 % 3 - 1, (k : Int) % 3 - 1) from rfl)
      have HM := Lib.hid (decM_lim hk1)
      have HK := Lib.hid hk1
      clear hk hk1
      go_wp2_with fail
      have hb1 : -1 ≤ (k : Int) / 27 - 1 ∧ (k : Int) / 27 - 1 ≤ 1 := by omega
      have hb2 : -1 ≤ (k : Int) / 9 % 3 - 1 ∧ (k : Int) / 9 % 3 - 1 ≤ 1 := by omega
      have hb3 : -1 ≤ (k : Int) / 3 % 3 - 1 ∧ (k : Int) / 3 % 3 - 1 ≤ 1 := by omega
      have hb4 : -1 ≤ (k : Int) % 3 - 1 ∧ (k : Int) % 3 - 1 ≤ 1 := by omega
      have hlim := HM.out
      rw [HD.out] at hlim
      clear HM
      dsimp only at hlim
      generalize (k : Int) / 27 - 1 = a at *
      generalize (k : Int) / 9 % 3 - 1 = b at *
      generalize (k : Int) / 3 % 3 - 1 = c at *
      generalize (k : Int) % 3 - 1 = d at *
      have V1 : Kq wr.heap.size a b c d (wr.alloc (.cells #[.int .i64 a, .int .i64 b, .int .i64 c, .int .i64 d] 59)) := Kq.at _ rfl
      have B1 : Below w.heap.size w (wr.alloc (.cells #[.int .i64 a, .int .i64 b, .int .i64 c, .int .i64 d] 59)) := hB.alloc hz _
      have O1 : (wr.alloc (.cells #[.int .i64 a, .int .i64 b, .int .i64 c, .int .i64 d] 59)).ownsRow w.heap.size 59 4 u3 (matsP f k).length (cells4 (matsP f k)) := hown.alloc _
      clear hown hB
      refine (l04Keeps_any _ _ _ _ _ _ hf hlim).mono ?_
      rintro e w1 ⟨rfl, hb⟩
      have V2 := V1.call hb
      have B2 := bstep B1 hb
      have O2 := ownsRow_call O1 hb
      clear V1 B1 O1 hb hlim
      obtain ⟨v0, v1, v2, v3, v4⟩ := id V2
      rcases hN : keepB f a b c d with _ | _
      · have hown2 : w1.ownsRow w.heap.size 59 4 u3 (matsP f (k + 1)).length (cells4 (matsP f (k + 1))) := by rw [matsP_no HD.out hN]; exact O2
        clear O2 V2 v0 v1 v2 v3 v4
        go_wp2
        have hk1 := HK.out
        go_roundw
        case rel => exact ⟨k + 1, by go_num, by omega, hown2, B2⟩
        case measure => first | (simp [intOf]; done) | (simp [intOf]; omega)
      · go_wp2_with (at_builtin; refine wpList_append_own _ rfl _ _ 87 rfl w.heap.size 59 i0 (.agg #[.int .i64 0, .int .i64 0, .int .i64 0, .int .i64 0]) 4 32 Tryz.underlying87 hi hz0 hz1 hz2 rfl (by decide) _ _ _ rfl (O2.alloc _) ⟨w1.heap.size, 0, none⟩ 1 1 [.int .i64 a, .int .i64 b, .int .i64 c, .int .i64 d] rfl rfl ?c1 ?c2 ?c3 ?c4 ?c5 ?_)
        case c1 => exact new_four _ _ _ _ _ rfl
        case c2 => exact one_four
        case c3 => have h1 := HL.out; have h2 := HK.out; unfold maxLen; omega
        case c4 => have h1 := HL.out; have h2 := HK.out; omega
        case c5 => have := B2.size; simp; omega
        intro v' w2 hown' hgrow _
        have B3 : Below w.heap.size w w2 := Below.grown (Below.alloc B2 B2.size _) hgrow (by have := B2.size; simp; omega) (fun q hq => by have := (O2.lt q hq).1; omega)
        have hown2 : w2.ownsRow w.heap.size 59 4 v' (matsP f (k + 1)).length (cells4 (matsP f (k + 1))) := by rw [matsP_yes HD.out hN]; exact own_next4 (by simpa using hown')
        clear O2 B2 V2 hgrow hown' v0 v1 v2 v3 v4
        go_wp2
        have hk1 := HK.out
        go_roundw
        case rel => exact ⟨k + 1, by go_num, by omega, hown2, B3⟩
        case measure => first | (simp [intOf]; done) | (simp [intOf]; omega)
    · obtain rfl : k = 81 := by omega
      clear hk hk1
      go_wp2
      go_ret
      exact ⟨_, rfl, hown, hB⟩
end Go.Proofs.YtjjfomokecngoaaGreatDoor
namespace Go.Proofs.YtjjfomokecngoaaGreatDoor
open Go.RowKit
set_option linter.unusedSimpArgs false
set_option linter.unusedVariables false
set_option maxHeartbeats 4000000 in
theorem l03Basis4_any (A B C : Int) (w : World) :
    Calls Tryz.prog 177 #[.agg #[.int .i64 A, .int .i64 B, .int .i64 C]] w fun e w' => ∃ g, e = .returned (.slice (some ⟨g, 0, none⟩) 2 2) ∧ Kq g A 0 B C w' ∧ w.heap.size ≤ g ∧ Below w.heap.size w w' := by
  go_enter Tryz.func177, Tryz.ntmps177
  go_wp2
  go_ret
  refine ⟨_, rfl, Kq.at _ (by simp), by simp, ?_⟩
  repeat (first | exact Below.refl _ _ | refine Below.setCell ?_ (by first | omega | (simp <;> omega)) _ | refine Below.alloc ?_ (by first | omega | (simp <;> omega)) _ | refine bstep ?_ (by assumption) | refine Below.drew ?_)
set_option maxHeartbeats 4000000 in
theorem image_core (A B C a b c d px py qx qy : Int) (w : World)
    (appA : ∀ W, Calls Tryz.prog 232 #[.agg #[.int .i64 a, .int .i64 b, .int .i64 c, .int .i64 d], .agg #[.int .i64 A, .int .i64 0]] W fun e w' => e = .returned (.agg #[.int .i64 px, .int .i64 py]) ∧ Below W.heap.size W w')
    (appB : ∀ W, Calls Tryz.prog 232 #[.agg #[.int .i64 a, .int .i64 b, .int .i64 c, .int .i64 d], .agg #[.int .i64 B, .int .i64 C]] W fun e w' => e = .returned (.agg #[.int .i64 qx, .int .i64 qy]) ∧ Below W.heap.size W w')
    (m1 : 0 < (hmFold [(px, py), (qx, qy)]).2.2) (m2 : vecsB [(px, py), (qx, qy)]) :
    Calls Tryz.prog 164 #[.agg #[.int .i64 a, .int .i64 b, .int .i64 c, .int .i64 d], .agg #[.int .i64 A, .int .i64 B, .int .i64 C]] w fun e w' => e = .returned (.agg #[.int .i64 ((latL [(px, py), (qx, qy)]).1), .int .i64 ((latL [(px, py), (qx, qy)]).2.1), .int .i64 ((latL [(px, py), (qx, qy)]).2.2)]) ∧ Below w.heap.size w w' := by
  have HA := Lib.hid appA
  have HB := Lib.hid appB
  have M1 := Lib.hid m1
  have M2 := Lib.hid m2
  clear appA appB m1 m2
  have KX : Kq w.heap.size a b c d (((w.alloc (.cells #[.int .i64 a, .int .i64 b, .int .i64 c, .int .i64 d] 59)).alloc (.cells #[.int .i64 A, .int .i64 B, .int .i64 C] 28)).alloc (.cells #[.int .i64 0, .int .i64 0, .int .i64 0] 28)) := Kq.alloc (Kq.alloc (Kq.at _ rfl) _) _
  have RX : KL (w.heap.size + 1 + 1) 0 0 0 (((w.alloc (.cells #[.int .i64 a, .int .i64 b, .int .i64 c, .int .i64 d] 59)).alloc (.cells #[.int .i64 A, .int .i64 B, .int .i64 C] 28)).alloc (.cells #[.int .i64 0, .int .i64 0, .int .i64 0] 28)) := KL.at _ (by simp)
  have BX : Below w.heap.size w (((w.alloc (.cells #[.int .i64 a, .int .i64 b, .int .i64 c, .int .i64 d] 59)).alloc (.cells #[.int .i64 A, .int .i64 B, .int .i64 C] 28)).alloc (.cells #[.int .i64 0, .int .i64 0, .int .i64 0] 28)) := by repeat (first | assumption | exact Below.refl _ _ | refine Below.setCell ?_ (by first | omega | (simp <;> omega)) _ | refine Below.alloc ?_ (by first | omega | (simp <;> omega)) _ | refine bstep ?_ (by assumption) | refine Below.drew ?_)
  go_enter Tryz.func164, Tryz.ntmps164
  go_wp2_with fail
  refine (l03Basis4_any _ _ _ _).mono ?_
  rintro e w1 ⟨g, rfl, G0, hg, hb0⟩
  have hg : w.heap.size + 3 ≤ g := by simpa using hg
  have K0 := KX.call hb0
  have R0 := RX.call hb0
  have B0 := bstep BX hb0
  clear hb0 KX RX BX
  have z0 := B0.size
  have y0 := G0.cells
  have y1 := K0.cells
  go_wp2_with fail
  go_region_held3 (fun W => (W.cell? ⟨w.heap.size, 0, none⟩ = some (.int .i64 a) ∧ W.cell? ⟨w.heap.size, 1, none⟩ = some (.int .i64 b) ∧ W.cell? ⟨w.heap.size, 2, none⟩ = some (.int .i64 c) ∧ W.cell? ⟨w.heap.size, 3, none⟩ = some (.int .i64 d)) ∧ (W.cell? ⟨g, 0, none⟩ = some (.int .i64 A) ∧ W.cell? ⟨g, 1, none⟩ = some (.int .i64 0) ∧ W.cell? ⟨g, 2, none⟩ = some (.int .i64 B) ∧ W.cell? ⟨g, 3, none⟩ = some (.int .i64 C))) ((refine ⟨Kq.cells ?_, Kq.cells ?_⟩) <;> (repeat (first | assumption | with_reducible refine Kq.alloc ?_ _ | with_reducible refine Kq.drew ?_ | with_reducible refine Kq.call ?_ (by assumption) | ((with_reducible refine Kq.farM ?_ ?_); (first | omega | (dsimp only; omega))))))
    (first
      | (go_at_call_of 232 (Value.agg #[Value.int IntKind.i64 A, Value.int IntKind.i64 0]); refine (HA.out _).mono ?_; rintro e u1 ⟨rfl, hb1⟩; have K1 : Kq w.heap.size a b c d u1 := (by repeat (first | assumption | with_reducible refine Kq.alloc ?_ _ | with_reducible refine Kq.drew ?_ | with_reducible refine Kq.call ?_ (by assumption))); have G1 : Kq g A 0 B C u1 := (by repeat (first | assumption | with_reducible refine Kq.alloc ?_ _ | with_reducible refine Kq.drew ?_ | with_reducible refine Kq.call ?_ (by assumption))); have R1 : KL (w.heap.size + 1 + 1) 0 0 0 u1 := (by repeat (first | assumption | with_reducible refine KL.alloc ?_ _ | with_reducible refine KL.drew ?_ | with_reducible refine KL.call ?_ (by assumption))); have B1 : Below w.heap.size w u1 := (by repeat (first | assumption | exact Below.refl _ _ | refine Below.setCell ?_ (by first | omega | (simp <;> omega)) _ | refine Below.alloc ?_ (by first | omega | (simp <;> omega)) _ | refine bstep ?_ (by assumption) | refine Below.drew ?_)); have z1 := B1.size)
      | (go_at_call_of 232 (Value.agg #[Value.int IntKind.i64 B, Value.int IntKind.i64 C]); refine (HB.out _).mono ?_; rintro e u2 ⟨rfl, hb2⟩; have K2 : Kq w.heap.size a b c d u2 := (by repeat (first | assumption | with_reducible refine Kq.alloc ?_ _ | with_reducible refine Kq.drew ?_ | with_reducible refine Kq.call ?_ (by assumption))); have G2 : Kq g A 0 B C u2 := (by repeat (first | assumption | with_reducible refine Kq.alloc ?_ _ | with_reducible refine Kq.drew ?_ | with_reducible refine Kq.call ?_ (by assumption))); have R2 : KL (w.heap.size + 1 + 1) 0 0 0 u2 := (by repeat (first | assumption | with_reducible refine KL.alloc ?_ _ | with_reducible refine KL.drew ?_ | with_reducible refine KL.call ?_ (by assumption))); have B2 : Below w.heap.size w u2 := (by repeat (first | assumption | exact Below.refl _ _ | refine Below.setCell ?_ (by first | omega | (simp <;> omega)) _ | refine Below.alloc ?_ (by first | omega | (simp <;> omega)) _ | refine bstep ?_ (by assumption) | refine Below.drew ?_)); have z2 := B2.size)
      | (go_at_call 231; refine (hermite_any [(px, py), (qx, qy)] _ _ _ (VL_two _ _ _ _ _ _) M2.out (by simp) M1.out).mono ?_; rintro e u3 ⟨rfl, hb3⟩; have K3 : Kq w.heap.size a b c d u3 := (by repeat (first | assumption | with_reducible refine Kq.alloc ?_ _ | with_reducible refine Kq.drew ?_ | with_reducible refine Kq.call ?_ (by assumption))); have G3 : Kq g A 0 B C u3 := (by repeat (first | assumption | with_reducible refine Kq.alloc ?_ _ | with_reducible refine Kq.drew ?_ | with_reducible refine Kq.call ?_ (by assumption))); have R3 : KL (w.heap.size + 1 + 1) 0 0 0 u3 := (by repeat (first | assumption | with_reducible refine KL.alloc ?_ _ | with_reducible refine KL.drew ?_ | with_reducible refine KL.call ?_ (by assumption))); have B3 : Below w.heap.size w u3 := (by repeat (first | assumption | exact Below.refl _ _ | refine Below.setCell ?_ (by first | omega | (simp <;> omega)) _ | refine Below.alloc ?_ (by first | omega | (simp <;> omega)) _ | refine bstep ?_ (by assumption) | refine Below.drew ?_)); have z3 := B3.size; obtain ⟨r0, r1, r2, r3, r4, r5, r6⟩ := id R3))
  all_goals
    go_wp2
    refine bodyPost_ret (v := .agg #[.int .i64 ((latL [(px, py), (qx, qy)]).1), .int .i64 ((latL [(px, py), (qx, qy)]).2.1), .int .i64 ((latL [(px, py), (qx, qy)]).2.2)]) (by simp [results, Tryz.results164, go_sem, *]) rfl ⟨rfl, ?_⟩
    repeat (first | assumption | refine Below.setCell ?_ (by first | omega | (simp <;> omega)) _)
theorem l04Image_any (f A B C a b c d : Int) (w : World) (hf : frB f = true) (hl : latI A B C) (h : keepB f a b c d = true) :
    Calls Tryz.prog 164 #[.agg #[.int .i64 a, .int .i64 b, .int .i64 c, .int .i64 d], .agg #[.int .i64 A, .int .i64 B, .int .i64 C]] w fun e w' => e = .returned (.agg #[.int .i64 ((mapI A B C a b c d).1), .int .i64 ((mapI A B C a b c d).2.1), .int .i64 ((mapI A B C a b c d).2.2)]) ∧ Below w.heap.size w w' := by
  obtain ⟨m1, m2, _, _⟩ := mapI_facts hf hl h
  obtain ⟨bA, bC⟩ := latI_bd hl
  obtain ⟨h1, h2, h3, h4, _⟩ := hl
  exact image_core A B C a b c d _ _ _ _ w (fun W => l02Apply_any a b c d A 0 W (keep_lim hf h) (by simp [vecB]; omega)) (fun W => l02Apply_any a b c d B C W (keep_lim hf h) (by simp [vecB]; omega)) (by rw [← hm_two]; exact m1) m2
open Go.RowKit
set_option linter.unusedSimpArgs false
set_option linter.unusedVariables false
end Go.Proofs.YtjjfomokecngoaaGreatDoor
namespace Go.Proofs.YtjjfomokecngoaaGreatDoor
open Go.RowKit
set_option linter.unusedSimpArgs false
set_option linter.unusedVariables false
set_option maxHeartbeats 4000000 in
theorem within64_any {lo hi n : Nat} {v : Value} {F : Nat → Int} {w : World} (h : SRow lo hi 1 v n F w) (hn : n ≤ 64) :
    Calls Tryz.prog 129 #[v, .int .i64 64, .int .i64 0, .int .i64 9] w fun e w' => e = .returned (.bool (colB n F)) ∧ Below w.heap.size w w' := by
  have R := Lib.hid h
  obtain ⟨ao, cap, rfl⟩ := h.slice
  clear h
  have hn2 : (n : Int) ≤ 64 := by omega
  go_enter Tryz.func129, Tryz.ntmps129
  go_wp2_with fail
  go_loopw [9] (fun s W => ∃ k : Nat, s = .int .i64 (k : Int) ∧ k ≤ n ∧ (∀ t, t < k → inB (F t) 0 9 = true) ∧ Below w.heap.size w W) (fun s _ => n - (intOf s).toNat)
  case atStart => exact ⟨0, rfl, by omega, fun t ht => by omega, Below.refl _ _⟩
  case round =>
    obtain ⟨k, rfl, hk, hall, hB⟩ := hrel
    have HA := Lib.hid hall
    clear hall
    by_cases hk1 : k < n
    · have hk2 : (k : Int) < (n : Int) := by omega
      have hkx : (k : Int) ≤ 64 := by omega
      have r := R.out.call hB
      obtain ⟨_, _, hr⟩ := r
      obtain ⟨g, cap', e, _, _, r⟩ := hr.resolve_left (fun h => by omega)
      simp only [Value.slice.injEq] at e
      obtain ⟨rfl, _, rfl⟩ := e
      clear hr
      have c0 := r.at k (by omega)
      clear r
      have HB := Lib.hid hB
      clear hB
      rcases hx : inB (F k) 0 9 with _ | _
      · go_wp2_with fail
        refine (l01In_any _ _ _ _).mono ?_
        rintro e w' ⟨rfl, rfl⟩
        go_wp2
        go_ret
        exact ⟨ret_bool (colB_no hk1 hx).symm, HB.out⟩
      · go_wp2_with fail
        refine (l01In_any _ _ _ _).mono ?_
        rintro e w' ⟨rfl, rfl⟩
        go_wp2
        go_roundw
        case rel => exact ⟨k + 1, by go_num, by omega, fun t ht => by rcases Nat.lt_or_ge t k with h | h; exact HA.out t h; (have : t = k := by omega); rw [this]; exact hx, HB.out⟩
        case measure => first | (simp [intOf]; done) | (simp [intOf]; omega)
    · obtain rfl : k = n := by omega
      go_wp2
      go_ret
      exact ⟨ret_bool (by rw [colB_yes HA.out]), hB⟩
theorem l04CodeP_any (f A B C : Int) (w : World) :
    Calls Tryz.prog 128 #[.int .i64 f, .agg #[.int .i64 A, .int .i64 B, .int .i64 C]] w fun e w' => e = .returned (.int .i64 (bif frB f && latB A B C then 0 else 1)) ∧ Below w.heap.size w w' := by
  rcases h : frB f with _ | _
  · rw [show (bif false && latB A B C then (0 : Int) else 1) = 1 from rfl]
    go_enter Tryz.func128, Tryz.ntmps128
    go_wp2_with fail
    refine (specIsFrame_any _ _).mono ?_
    rintro e w1 ⟨rfl, rfl⟩
    rw [h]
    go_wp2
    go_ret
    exact ⟨rfl, (Below.refl _ _).alloc (Nat.le_refl _) _⟩
  rcases hl : latB A B C with _ | _
  all_goals
    first | rw [show (bif true && true then (0 : Int) else 1) = 0 from rfl] | rw [show (bif true && false then (0 : Int) else 1) = 1 from rfl]
    go_enter Tryz.func128, Tryz.ntmps128
    go_wp2_with fail
    refine (specIsFrame_any _ _).mono ?_
    rintro e w1 ⟨rfl, rfl⟩
    rw [h]
    go_wp2_with fail
    refine (specIsLattice_any _ _ _ _).mono ?_
    rintro e w2 ⟨rfl, hb2⟩
    rw [hl]
    go_wp2
    go_ret
    exact ⟨rfl, bstep ((Below.refl _ _).alloc (Nat.le_refl _) _) hb2⟩
set_option maxHeartbeats 8000000 in
theorem specIsPat_any {lo hi n : Nat} {v : Value} {F : Nat → Int} {w : World} (f A B C : Int) (h : SRow lo hi 1 v n F w) :
    Calls Tryz.prog 61 #[.agg #[.int .i64 f, .int .i64 A, .int .i64 B, .int .i64 C, v]] w fun e w' => e = .returned (.bool (patB f A B C n F)) ∧ Below w.heap.size w w' := by
  have R := Lib.hid h
  have hn := h.2.1
  obtain ⟨ao, cap, rfl⟩ := h.slice
  clear h
  have P0 : Bx w.heap.size [.int .i64 f, .int .i64 A, .int .i64 B, .int .i64 C, (.slice ao n cap)] (w.alloc (.cells #[.int .i64 f, .int .i64 A, .int .i64 B, .int .i64 C, .slice ao n cap] 40)) := Bx.at _ rfl
  have B0 : Below w.heap.size w (w.alloc (.cells #[.int .i64 f, .int .i64 A, .int .i64 B, .int .i64 C, .slice ao n cap] 40)) := (Below.refl _ _).alloc (Nat.le_refl _) _
  rcases h1 : (frB f && latB A B C) with _ | _
  · have e : patB f A B C n F = false := by rw [patB, ← Bool.and_assoc, h1]; rfl
    rw [e]
    clear e
    go_enter Tryz.func61, Tryz.ntmps61
    go_wp2_with fail
    with_reducible refine (l04CodeP_any f A B C _).mono ?_
    rintro e w1 ⟨rfl, hb1⟩
    rw [h1]
    have P1 := P0.call hb1
    have B1 := bstep B0 hb1
    clear P0 B0 hb1
    have p1c0 := P1.c0
    have p1c1 := P1.c1
    have p1c2 := P1.c2
    have p1c3 := P1.c3
    have p1c4 := P1.c4
    have p1l := P1.lt
    go_wp2
    go_ret
    exact ⟨rfl, B1⟩
  have hlat : latB A B C = true := by revert h1; cases latB A B C <;> simp
  have hp := lat_prod hlat
  have hb := latI_bd (latB_iff.1 hlat)
  by_cases h3 : (n : Int) = A * C
  · have e : patB f A B C n F = colB n F := by rw [patB, ← Bool.and_assoc, h1]; simp [h3]
    have h3b : ((n : Int) == A * C) = true := by simp [h3]
    have HN := Lib.hid (show n ≤ 64 by omega)
    rw [e]
    clear e
    go_enter Tryz.func61, Tryz.ntmps61
    go_wp2_with fail
    with_reducible refine (l04CodeP_any f A B C _).mono ?_
    rintro e w1 ⟨rfl, hb1⟩
    rw [h1]
    have P1 := P0.call hb1
    have B1 := bstep B0 hb1
    clear P0 B0 hb1
    have p1c0 := P1.c0
    have p1c1 := P1.c1
    have p1c2 := P1.c2
    have p1c3 := P1.c3
    have p1c4 := P1.c4
    have p1l := P1.lt
    go_wp2_with fail
    with_reducible refine (within64_any (R.out.call B1) HN.out).mono ?_
    rintro e w2 ⟨rfl, hb2⟩
    go_wp2
    go_ret
    exact ⟨rfl, bstep B1 hb2⟩
  · have e : patB f A B C n F = false := by rw [patB, ← Bool.and_assoc, h1]; simp [h3]
    have h3b : ((n : Int) == A * C) = false := by simp [h3]
    rw [e]
    clear e
    go_enter Tryz.func61, Tryz.ntmps61
    go_wp2_with fail
    with_reducible refine (l04CodeP_any f A B C _).mono ?_
    rintro e w1 ⟨rfl, hb1⟩
    rw [h1]
    have P1 := P0.call hb1
    have B1 := bstep B0 hb1
    clear P0 B0 hb1
    have p1c0 := P1.c0
    have p1c1 := P1.c1
    have p1c2 := P1.c2
    have p1c3 := P1.c3
    have p1c4 := P1.c4
    have p1l := P1.lt
    go_wp2
    go_ret
    exact ⟨rfl, B1⟩
open Go.RowKit
set_option linter.unusedSimpArgs false
set_option linter.unusedVariables false
set_option maxHeartbeats 8000000 in
theorem l03NumberP_any (A B C x y X Y : Int) (w : World) (hl : latI A B C) (hx : midI x) (hy : midI y) (eX : redX A B C x y = X) (eY : redY C y = Y) (hm : 0 ≤ X * C ∧ X * C ≤ 4096) (hb : 0 ≤ Y ∧ Y ≤ 64) :
    Calls Tryz.prog 263 #[.agg #[.int .i64 A, .int .i64 B, .int .i64 C], .agg #[.int .i64 x, .int .i64 y]] w fun e w' => e = .returned (.int .i64 (X * C + Y)) ∧ Below w.heap.size w w' := by
  have CR := Lib.hid (fun W => l03Reduce_any A B C x y W hl hx hy)
  rw [show redV A B C x y = .agg #[.int .i64 X, .int .i64 Y] by unfold redV; rw [eX, eY]] at CR
  have L0 : Bx w.heap.size [.int .i64 A, .int .i64 B, .int .i64 C] ((w.alloc (.cells #[.int .i64 A, .int .i64 B, .int .i64 C] 28)).alloc (.cells #[.int .i64 x, .int .i64 y] 63)) := (Bx.at _ rfl).alloc _
  have V0 : BX (w.heap.size + 1) [.int .i64 x, .int .i64 y] ((w.alloc (.cells #[.int .i64 A, .int .i64 B, .int .i64 C] 28)).alloc (.cells #[.int .i64 x, .int .i64 y] 63)) := BX.at _ (by simp)
  have B0 : Below w.heap.size w ((w.alloc (.cells #[.int .i64 A, .int .i64 B, .int .i64 C] 28)).alloc (.cells #[.int .i64 x, .int .i64 y] 63)) := by repeat (first | with_reducible exact Below.refl _ _ | with_reducible assumption | with_reducible refine Below.setCell ?_ (by first | omega | (dsimp only; omega) | (simp <;> omega)) _ | with_reducible refine Below.alloc ?_ (by first | omega | (simp <;> omega)) _ | with_reducible refine bstep ?_ (by with_reducible assumption) | with_reducible refine Below.drew ?_ | with_reducible refine below_drewN ?_ _)
  clear hl hx hy eX eY
  go_enter Tryz.func263, Tryz.ntmps263
  go_wp2_with fail
  with_reducible refine (CR.out _).mono ?_
  rintro e w1 ⟨rfl, hb1⟩
  have L1 := L0.call hb1
  have V1 := V0.call hb1
  have B1 := bstep B0 hb1
  clear hb1 L0 V0 B0 CR
  have l1c0 := L1.c0
  have l1c1 := L1.c1
  have l1c2 := L1.c2
  have l1l := L1.lt
  have v1c0 := V1.c0
  have v1c1 := V1.c1
  have v1f0 := V1.f0
  have v1f1 := V1.f1
  have v1l := V1.lt
  go_wp2
  go_ret
  exact ⟨rfl, by repeat (first | with_reducible exact Below.refl _ _ | with_reducible assumption | with_reducible refine Below.setCell ?_ (by first | omega | (dsimp only; omega) | (simp <;> omega)) _ | with_reducible refine Below.alloc ?_ (by first | omega | (simp <;> omega)) _ | with_reducible refine bstep ?_ (by with_reducible assumption) | with_reducible refine Below.drew ?_ | with_reducible refine below_drewN ?_ _)⟩
set_option maxRecDepth 100000 in
set_option maxHeartbeats 8000000 in
theorem l09At_any {lo hi p q n : Nat} {f B : Int} {v : Value} {F : Nat → Int} {W : World} (h : PatI f p B q n F) (hv : SRow lo hi 1 v n F W) (x y : Int) (hx : midI x) (hy : midI y) :
    Calls Tryz.prog 240 #[.agg #[.int .i64 f, .int .i64 (p : Int), .int .i64 B, .int .i64 (q : Int), v], .agg #[.int .i64 x, .int .i64 y]] W fun e w' => e = .returned (.int .i64 (F (numP (p : Int) B (q : Int) x y))) ∧ Below W.heap.size W w' := by
  obtain ⟨X, Y, k, eX, eY, ek, bX, bY, hk, hkn, hm⟩ := num_parts h x y
  have hbd := h.bd
  rw [ek]
  have HN := Lib.hid (fun W => (show Calls Tryz.prog 263 #[.agg #[.int .i64 ((p : Int)), .int .i64 B, .int .i64 ((q : Int))], .agg #[.int .i64 x, .int .i64 y]] W (fun e w' => e = .returned (.int .i64 (k : Int)) ∧ Below W.heap.size W w') from by rw [hk]; exact l03NumberP_any (p : Int) B (q : Int) x y X Y W h.lat hx hy eX eY hm (by omega)))
  obtain ⟨g, cap, rfl, hg, _, r⟩ := hv.irow (by omega)
  have hgs := hv.1
  have hgw : g < W.heap.size := by omega
  have hkn1 : k < n * 1 := by omega
  have hki : (k : Int) < (n : Int) := by omega
  obtain ⟨b, hb⟩ : ∃ b, b = F k := ⟨_, rfl⟩
  rw [← hb]
  have HF := Lib.hid hb
  have P0 : Bx W.heap.size [.int .i64 f, .int .i64 (p : Int), .int .i64 B, .int .i64 (q : Int), .slice (some ⟨g, 0, none⟩) n cap] ((W.alloc (.cells #[.int .i64 f, .int .i64 (p : Int), .int .i64 B, .int .i64 (q : Int), .slice (some ⟨g, 0, none⟩) n cap] 40)).alloc (.cells #[.int .i64 x, .int .i64 y] 63)) := (Bx.at _ rfl).alloc _
  have V0 : Bx (W.heap.size + 1) [.int .i64 x, .int .i64 y] ((W.alloc (.cells #[.int .i64 f, .int .i64 (p : Int), .int .i64 B, .int .i64 (q : Int), .slice (some ⟨g, 0, none⟩) n cap] 40)).alloc (.cells #[.int .i64 x, .int .i64 y] 63)) := Bx.at _ (by simp)
  have I0 : IRow g (n * 1) F ((W.alloc (.cells #[.int .i64 f, .int .i64 (p : Int), .int .i64 B, .int .i64 (q : Int), .slice (some ⟨g, 0, none⟩) n cap] 40)).alloc (.cells #[.int .i64 x, .int .i64 y] 63)) := (r.allocP _).allocP _
  have hk0 : (0 : Int) ≤ (k : Int) := by omega
  clear r hv h hx hy eX eY ek bX bY hk hm hb hbd
  go_enter Tryz.func240, Tryz.ntmps240
  go_wp2_with fail
  go_region_held3 (fun W9 => (W9.cell? ⟨W.heap.size, 0, none⟩ = some (.int .i64 f) ∧ W9.cell? ⟨W.heap.size, 1, none⟩ = some (.int .i64 (p : Int)) ∧ W9.cell? ⟨W.heap.size, 2, none⟩ = some (.int .i64 B) ∧ W9.cell? ⟨W.heap.size, 3, none⟩ = some (.int .i64 (q : Int)) ∧ W9.cell? ⟨W.heap.size, 4, none⟩ = some (.slice (some ⟨g, 0, none⟩) n cap)) ∧ (W9.cell? ⟨W.heap.size + 1, 0, none⟩ = some (.int .i64 x) ∧ W9.cell? ⟨W.heap.size + 1, 1, none⟩ = some (.int .i64 y)) ∧ W9.cell? ⟨g, k, none⟩ = some (.int .i64 b)) ((refine And.intro (Bx.cells5 ?_) (And.intro (Bx.cells2 ?_) ((IRow.at (N := n * 1) ?_ _ hkn1).trans (by rw [HF.out])))) <;> (repeat (first | with_reducible assumption | with_reducible refine Bx.drew ?_ | with_reducible refine IRow.drewP ?_ | with_reducible refine Bx.alloc ?_ _ | with_reducible refine Bx.call ?_ (by with_reducible assumption) | with_reducible refine IRow.call ?_ (by with_reducible assumption))))
    (first
      | (go_at_call 263; with_reducible refine (HN.out _).mono ?_; rintro e w2 ⟨rfl, hb2⟩))
  all_goals
    go_wp2
    go_ret
    exact ⟨rfl, by repeat (first | with_reducible exact Below.refl _ _ | with_reducible assumption | with_reducible refine Below.setCell ?_ (by first | omega | (dsimp only; omega) | (simp <;> omega)) _ | with_reducible refine Below.alloc ?_ (by first | omega | (simp <;> omega)) _ | with_reducible refine bstep ?_ (by with_reducible assumption) | with_reducible refine Below.drew ?_ | with_reducible refine below_drewN ?_ _)⟩
end Go.Proofs.YtjjfomokecngoaaGreatDoor
namespace Go.Proofs.YtjjfomokecngoaaGreatDoor
open Go.RowKit
set_option linter.unusedSimpArgs false
set_option linter.unusedVariables false
theorem cells2_at9 : ∀ (xs : List V29) (i : Nat) (hi : i < xs.length), (cells2 xs)[i * 2]? = some (.int .i64 xs[i].1) ∧ (cells2 xs)[i * 2 + 1]? = some (.int .i64 xs[i].2)
  | [], i, hi => by simp at hi
  | t :: xs, 0, _ => by simp [cells2]
  | t :: xs, i + 1, hi => by
    have hs := cells2_at9 xs i (by simpa using hi)
    have e : cells2 (t :: xs) = [.int .i64 t.1, .int .i64 t.2] ++ cells2 xs := by simp [cells2]
    rw [e, List.getElem?_append_right (by simp; omega), List.getElem?_append_right (by simp; omega)]
    simp only [List.length_cons, List.length_nil, List.getElem_cons_succ]
    rw [show (i + 1) * 2 - (0 + 1 + 1) = i * 2 by omega, show (i + 1) * 2 + 1 - (0 + 1 + 1) = i * 2 + 1 by omega]
    exact hs
theorem IRow.v29 {g : Nat} {xs : List V29} {W : World} (h : IRow g (xs.length * 2) (intAt (cells2 xs)) W) (i : Nat) (hi : i < xs.length) : Ko2 g (i * 2) xs[i].1 xs[i].2 W := by
  have k := h.ko2 (i * 2) (by omega)
  obtain ⟨e0, e1⟩ := cells2_at9 xs i hi
  have z0 : intAt (cells2 xs) (i * 2) = xs[i].1 := by simp [intAt, e0]
  have z1 : intAt (cells2 xs) (i * 2 + 1) = xs[i].2 := by simp [intAt, e1]
  rwa [z0, z1] at k
theorem VL_own {W : World} {base n g cap : Nat} {T : TypeId} {L : List (Int × Int)} (h : W.ownsRow base T 2 (.slice (some ⟨g, 0, none⟩) n cap) n (cells2 L)) (hn : n = L.length) : VL g L W := by
  refine ⟨(h.lt g rfl).2, fun i hi => ?_⟩
  obtain ⟨h1, h2⟩ := cells2_at9 L i hi
  exact ⟨(h.cellAt (i * 2) (by omega)).trans h1, (h.cellAt (i * 2 + 1) (by omega)).trans h2⟩
theorem kepM_no {A B C : Int} {F : Nat → Int} {a b c d x y : Int} {L : List V29} {v : V29} (hv : v ∈ L) (h : (F (numP A B C (a * v.1 + b * v.2 + x) (c * v.1 + d * v.2 + y)) == F (numP A B C v.1 v.2)) = false) : kepM A B C F a b c d x y L = false := by
  rw [kepM, List.all_eq_false]
  exact ⟨v, hv, by simp only [h]; simp⟩
set_option maxRecDepth 100000 in
set_option maxHeartbeats 16000000 in
theorem l09Keeps_any {lo hi p q n : Nat} {f B : Int} {v : Value} {F : Nat → Int} {W : World} (h : PatI f p B q n F) (hv : SRow lo hi 1 v n F W) (a b c d x y : Int) (hl : limB a b c d = true) (hxy : vecB x y = true) :
    Calls Tryz.prog 196 #[.agg #[.int .i64 f, .int .i64 (p : Int), .int .i64 B, .int .i64 (q : Int), v], .agg #[.int .i64 a, .int .i64 b, .int .i64 c, .int .i64 d, .int .i64 x, .int .i64 y]] W fun e w' => e = .returned (.bool (kepM (p : Int) B (q : Int) F a b c d x y (cellP q p))) ∧ Below W.heap.size W w' := by
  have R := Lib.hid hv
  have HH := Lib.hid h
  obtain ⟨hp1, hp2, hq1, hq2, hn64, hn1⟩ := h.bd
  have hpq : p * q ≤ 64 := by rw [← h.nn]; exact hn64
  have hpq1 : 1 ≤ p * q := by rw [← h.nn]; exact hn1
  obtain ⟨g, cap, rfl, hg, _, r⟩ := hv.irow hn1
  have hgs := hv.1
  have hgw : g < W.heap.size := by omega
  have HLI := Lib.hid (And.intro hl hxy)
  have P0 : Bx W.heap.size [.int .i64 f, .int .i64 (p : Int), .int .i64 B, .int .i64 (q : Int), .slice (some ⟨g, 0, none⟩) n cap] ((W.alloc (.cells #[.int .i64 f, .int .i64 (p : Int), .int .i64 B, .int .i64 (q : Int), .slice (some ⟨g, 0, none⟩) n cap] 40)).alloc (.cells #[.int .i64 a, .int .i64 b, .int .i64 c, .int .i64 d, .int .i64 x, .int .i64 y] 69)) := (Bx.at _ rfl).alloc _
  have M0 : Bx (W.heap.size + 1) [.int .i64 a, .int .i64 b, .int .i64 c, .int .i64 d, .int .i64 x, .int .i64 y] ((W.alloc (.cells #[.int .i64 f, .int .i64 (p : Int), .int .i64 B, .int .i64 (q : Int), .slice (some ⟨g, 0, none⟩) n cap] 40)).alloc (.cells #[.int .i64 a, .int .i64 b, .int .i64 c, .int .i64 d, .int .i64 x, .int .i64 y] 69)) := Bx.at _ (by simp)
  have B0 : Below W.heap.size W ((W.alloc (.cells #[.int .i64 f, .int .i64 (p : Int), .int .i64 B, .int .i64 (q : Int), .slice (some ⟨g, 0, none⟩) n cap] 40)).alloc (.cells #[.int .i64 a, .int .i64 b, .int .i64 c, .int .i64 d, .int .i64 x, .int .i64 y] 69)) := by repeat (first | with_reducible exact Below.refl _ _ | with_reducible assumption | with_reducible refine Below.setCell ?_ (by first | omega | (dsimp only; omega) | (simp <;> omega)) _ | with_reducible refine Below.alloc ?_ (by first | omega | (simp <;> omega)) _ | with_reducible refine bstep ?_ (by with_reducible assumption) | with_reducible refine Below.drew ?_ | with_reducible refine below_drewN ?_ _)
  clear hv h hl hxy
  go_enter Tryz.func196, Tryz.ntmps196
  go_wp2_with fail
  with_reducible refine (l03Cells_any p q B _ hp2 hq2).mono ?_
  rintro e w1 ⟨vc, rfl, hown, hb1⟩
  have P1 := P0.call hb1
  have M1 := M0.call hb1
  have B1 := bstep B0 hb1
  obtain ⟨N, hN⟩ : ∃ N, N = (cellP q p).length := ⟨_, rfl⟩
  have hNpq : N = p * q := by rw [hN, cellP_len]
  have hN64 : N ≤ 64 := by omega
  rw [← hN] at hown
  have HSR := SRow.of hown (cells2_int _) (by omega)
  obtain ⟨gc, capc, rfl, hgc, hgc2, rc⟩ := HSR.irow (by omega)
  rw [hN] at rc
  have hNi : (N : Int) ≤ 64 := by omega
  have HN := Lib.hid hN
  clear hown hb1 P0 M0 B0 hNpq hN HSR hp1 hp2 hq1 hq2 hpq hpq1
  have hl1 := M1.lt
  go_wp2_with fail
  go_loopw [6] (fun s X => ∃ k : Nat, s = .int .i64 (k : Int) ∧ k ≤ N ∧ (∀ v ∈ (cellP q p).take k, (F (numP (p : Int) B (q : Int) (a * v.1 + b * v.2 + x) (c * v.1 + d * v.2 + y)) == F (numP (p : Int) B (q : Int) v.1 v.2)) = true) ∧ Below w1.heap.size w1 X) (fun s _ => N - (intOf s).toNat)
  case atStart => exact ⟨0, rfl, by omega, fun v hv => by simp at hv, Below.refl _ _⟩
  case round =>
    obtain ⟨k, rfl, hk, hall, hB⟩ := hrel
    have HALL := Lib.hid hall
    clear hall
    have hB2 := bstep B1 hB
    by_cases hk1 : k < N
    · have hk2 : (k : Int) < (N : Int) := by omega
      have hkc : k < (cellP q p).length := by rw [← HN.out]; exact hk1
      obtain ⟨⟨x0, x1⟩, hxx⟩ : ∃ v, v = (cellP q p)[k] := ⟨_, rfl⟩
      have KK := (rc.v29 k hkc).call hB
      rw [← hxx] at KK
      dsimp only at KK
      have hmem : ((x0, x1) : V29) ∈ cellP q p := by rw [hxx]; exact List.getElem_mem hkc
      have hbd := cellP_mem9 hmem
      dsimp only at hbd
      have hbd2 : (0 ≤ x0 ∧ x0 ≤ 64) ∧ (0 ≤ x1 ∧ x1 ≤ 64) := by have := HH.out.bd; omega
      have hla := limB_bd HLI.out.1
      have hvb := vecB_bd HLI.out.2
      have m1 := bd9 hla.1.1 hbd2.1
      have m2 := bd9 hla.1.2 hbd2.2
      have m3 := bd9 hla.2.1 hbd2.1
      have m4 := bd9 hla.2.2 hbd2.2
      have HPL := Lib.hid (fun X => l05Apply_any a b c d x y x0 x1 X HLI.out.1 HLI.out.2 (by simp [vecB]; omega))
      have MID := Lib.hid (show midI (a * x0 + b * x1 + x) ∧ midI (c * x0 + d * x1 + y) from ⟨by unfold midI; omega, by unfold midI; omega⟩)
      clear hla hvb m1 m2 m3 m4
      obtain ⟨X1, hX1⟩ : ∃ z, z = a * x0 + b * x1 + x := ⟨_, rfl⟩
      obtain ⟨X2, hX2⟩ : ∃ z, z = c * x0 + d * x1 + y := ⟨_, rfl⟩
      rw [← hX1, ← hX2] at HPL MID
      obtain ⟨b1, hb1⟩ : ∃ b, b = F (numP (p : Int) B (q : Int) X1 X2) := ⟨_, rfl⟩
      obtain ⟨b0, hb0⟩ : ∃ b, b = F (numP (p : Int) B (q : Int) x0 x1) := ⟨_, rfl⟩
      have HA1 := Lib.hid (fun X (hX : Below wr.heap.size wr X) => (show Calls Tryz.prog 240 #[.agg #[.int .i64 f, .int .i64 (p : Int), .int .i64 B, .int .i64 (q : Int), .slice (some ⟨g, 0, none⟩) n cap], .agg #[.int .i64 X1, .int .i64 X2]] X (fun e w' => e = .returned (.int .i64 b1) ∧ Below X.heap.size X w') from by rw [hb1]; exact l09At_any HH.out (R.out.call (bstep hB2 hX)) _ _ MID.out.1 MID.out.2))
      have HA0 := Lib.hid (fun X (hX : Below wr.heap.size wr X) => (show Calls Tryz.prog 240 #[.agg #[.int .i64 f, .int .i64 (p : Int), .int .i64 B, .int .i64 (q : Int), .slice (some ⟨g, 0, none⟩) n cap], .agg #[.int .i64 x0, .int .i64 x1]] X (fun e w' => e = .returned (.int .i64 b0) ∧ Below X.heap.size X w') from by rw [hb0]; exact l09At_any HH.out (R.out.call (bstep hB2 hX)) _ _ (by unfold midI; omega) (by unfold midI; omega)))
      have P0 := (P1.call hB).drew
      have M0 := (M1.call hB).drew
      have K0 := KK.drew
      have D0 : Below wr.heap.size wr wr.drew := (Below.refl _ _).drew
      have HX := Lib.hid (And.intro hxx (And.intro hX1 hX2))
      have HMEM := Lib.hid hmem
      clear hmem hbd hbd2 hxx hX1 hX2 KK
      by_cases hbb : b1 = b0
      · have HEQ := Lib.hid (show (F (numP (p : Int) B (q : Int) X1 X2) == F (numP (p : Int) B (q : Int) x0 x1)) = true from by rw [← hb1, ← hb0, hbb]; simp)
        clear hb1 hb0
        subst hbb
        go_wp2_with fail
        refine wp_region_held_drew (S := (fun W9 => (W9.cell? ⟨W.heap.size, 0, none⟩ = some (.int .i64 f) ∧ W9.cell? ⟨W.heap.size, 1, none⟩ = some (.int .i64 (p : Int)) ∧ W9.cell? ⟨W.heap.size, 2, none⟩ = some (.int .i64 B) ∧ W9.cell? ⟨W.heap.size, 3, none⟩ = some (.int .i64 (q : Int)) ∧ W9.cell? ⟨W.heap.size, 4, none⟩ = some (.slice (some ⟨g, 0, none⟩) n cap)) ∧ (W9.cell? ⟨W.heap.size + 1, 0, none⟩ = some (.int .i64 a) ∧ W9.cell? ⟨W.heap.size + 1, 1, none⟩ = some (.int .i64 b) ∧ W9.cell? ⟨W.heap.size + 1, 2, none⟩ = some (.int .i64 c) ∧ W9.cell? ⟨W.heap.size + 1, 3, none⟩ = some (.int .i64 d) ∧ W9.cell? ⟨W.heap.size + 1, 4, none⟩ = some (.int .i64 x) ∧ W9.cell? ⟨W.heap.size + 1, 5, none⟩ = some (.int .i64 y)) ∧ (W9.cell? ⟨gc, k * 2, none⟩ = some (.int .i64 x0) ∧ W9.cell? ⟨gc, k * 2 + 1, none⟩ = some (.int .i64 x1)))) (by kernel_rfl) ?_ (fun hHeld => ?_)
        · exact ⟨Bx.cells5 P0, Bx.cells6 M0, Ko2.cells K0⟩
        refine wpAnyH_take (i := 0) (v := ?_) (by (simp only [List.getElem?_toArray, List.getElem?_cons_succ, List.getElem?_cons_zero]); rfl) (by kernel_rfl) (by kernel_rfl) (by kernel_rfl) (by exact fun _ _ _ h => h) (Or.inl ⟨by rfl, ?_⟩) (by assumption) ?_
        rotate_left 1
        · (intro w hSw; (try dsimp only at hSw); go_simp) <;> with_reducible rfl
        (try simp only [Act.put, List.setIfInBounds_toArray, List.set_cons_zero, List.set_cons_succ])
        refine wpAnyH_take (i := 1) (v := ?_) (by (simp only [List.getElem?_toArray, List.getElem?_cons_succ, List.getElem?_cons_zero]); rfl) (by kernel_rfl) (by kernel_rfl) (by kernel_rfl) (by exact fun _ _ _ h => h) (Or.inl ⟨by rfl, ?_⟩) (by assumption) ?_
        rotate_left 1
        · (intro w hSw; (try dsimp only at hSw); go_simp) <;> with_reducible rfl
        (try simp only [Act.put, List.setIfInBounds_toArray, List.set_cons_zero, List.set_cons_succ])
        refine wpAnyH_take (i := 2) (v := ?_) (by (simp only [List.getElem?_toArray, List.getElem?_cons_succ, List.getElem?_cons_zero]); rfl) (by kernel_rfl) (by kernel_rfl) (by kernel_rfl) (by exact fun _ _ _ h => h) (Or.inl ⟨by rfl, ?_⟩) (by assumption) ?_
        rotate_left 1
        · (intro w hSw; (try dsimp only at hSw); go_simp) <;> with_reducible rfl
        (try simp only [Act.put, List.setIfInBounds_toArray, List.set_cons_zero, List.set_cons_succ])
        refine wpAnyH_take (i := 3) (v := ?_) (by (simp only [List.getElem?_toArray, List.getElem?_cons_succ, List.getElem?_cons_zero]); rfl) (by kernel_rfl) (by kernel_rfl) (by kernel_rfl) (by exact fun _ _ _ h => h) (Or.inl ⟨by rfl, ?_⟩) (by assumption) ?_
        rotate_left 1
        · (intro w hSw; (try dsimp only at hSw); go_simp) <;> with_reducible rfl
        (try simp only [Act.put, List.setIfInBounds_toArray, List.set_cons_zero, List.set_cons_succ])
        refine wpAnyH_take (i := 4) (v := ?_) (by (simp only [List.getElem?_toArray, List.getElem?_cons_succ, List.getElem?_cons_zero]); rfl) (by kernel_rfl) (by kernel_rfl) (by kernel_rfl) (by exact fun _ _ _ h => h) (Or.inl ⟨by rfl, ?_⟩) (by assumption) ?_
        rotate_left 1
        · (intro w hSw; (try dsimp only at hSw); go_simp) <;> with_reducible rfl
        (try simp only [Act.put, List.setIfInBounds_toArray, List.set_cons_zero, List.set_cons_succ])
        refine wpAnyH_take (i := 5) (v := ?_) (by (simp only [List.getElem?_toArray, List.getElem?_cons_succ, List.getElem?_cons_zero]); rfl) (by kernel_rfl) (by kernel_rfl) (by kernel_rfl) (by exact fun _ _ _ h => h) (Or.inl ⟨by rfl, ?_⟩) (by assumption) ?_
        rotate_left 1
        · (intro w hSw; (try dsimp only at hSw); go_simp) <;> with_reducible rfl
        (try simp only [Act.put, List.setIfInBounds_toArray, List.set_cons_zero, List.set_cons_succ])
        refine wpAnyH_take (i := 8) (v := ?_) (by (simp only [List.getElem?_toArray, List.getElem?_cons_succ, List.getElem?_cons_zero]); rfl) (by kernel_rfl) (by kernel_rfl) (by kernel_rfl) (by exact fun _ _ _ h => h) (Or.inl ⟨by rfl, ?_⟩) (by assumption) ?_
        rotate_left 1
        · (intro w hSw; (try dsimp only at hSw); go_simp) <;> with_reducible rfl
        (try simp only [Act.put, List.setIfInBounds_toArray, List.set_cons_zero, List.set_cons_succ])
        refine wpAnyH_take (i := 9) (v := ?_) (by (simp only [List.getElem?_toArray, List.getElem?_cons_succ, List.getElem?_cons_zero]); rfl) (by kernel_rfl) (by kernel_rfl) (by kernel_rfl) (by exact fun _ _ _ h => h) (Or.inl ⟨by rfl, ?_⟩) (by assumption) ?_
        rotate_left 1
        · (intro w hSw; (try dsimp only at hSw); go_simp) <;> with_reducible rfl
        (try simp only [Act.put, List.setIfInBounds_toArray, List.set_cons_zero, List.set_cons_succ])
        refine wpAnyH_take (i := 10) (v := ?_) (by (simp only [List.getElem?_toArray, List.getElem?_cons_succ, List.getElem?_cons_zero]); rfl) (by kernel_rfl) (by kernel_rfl) (by kernel_rfl) (by exact fun _ _ _ h => h) (Or.inl ⟨by rfl, ?_⟩) (by assumption) ?_
        rotate_left 1
        · (intro w hSw; (try dsimp only at hSw); go_simp) <;> with_reducible rfl
        (try simp only [Act.put, List.setIfInBounds_toArray, List.set_cons_zero, List.set_cons_succ])
        refine wpAnyH_take (i := 11) (v := ?_) (by (simp only [List.getElem?_toArray, List.getElem?_cons_succ, List.getElem?_cons_zero]); rfl) (by kernel_rfl) (by kernel_rfl) (by kernel_rfl) (by exact fun _ _ _ h => h) (Or.inl ⟨by rfl, ?_⟩) (by assumption) ?_
        rotate_left 1
        · (intro w hSw; (try dsimp only at hSw); go_simp) <;> with_reducible rfl
        (try simp only [Act.put, List.setIfInBounds_toArray, List.set_cons_zero, List.set_cons_succ])
        refine wpAnyH_take (i := 12) (v := ?_) (by (simp only [List.getElem?_toArray, List.getElem?_cons_succ, List.getElem?_cons_zero]); rfl) (by kernel_rfl) (by kernel_rfl) (by kernel_rfl) (by exact fun _ _ _ h => h) (Or.inl ⟨by rfl, ?_⟩) (by assumption) ?_
        rotate_left 1
        · (intro w hSw; (try dsimp only at hSw); go_simp) <;> with_reducible rfl
        (try simp only [Act.put, List.setIfInBounds_toArray, List.set_cons_zero, List.set_cons_succ])
        refine wpAnyH_ready (rs := [6]) (by kernel_rfl) (by simp) ?_
        refine AllReadyH.cons (o := _) (by (simp only [List.getElem?_toArray, List.getElem?_cons_succ, List.getElem?_cons_zero]); rfl) (fun K hK => ?_) AllReadyH.nil
        go_simp
        go_at_call 242
        with_reducible refine (HPL.out _).mono ?_
        rintro e u1 ⟨rfl, hb1⟩
        have P1 : Bx W.heap.size [.int .i64 f, .int .i64 (p : Int), .int .i64 B, .int .i64 (q : Int), .slice (some ⟨g, 0, none⟩) n cap] u1 := (by repeat (first | with_reducible assumption | with_reducible refine Bx.drew ?_ | with_reducible refine Ko2.drew ?_ | with_reducible refine Bx.call ?_ (by with_reducible assumption) | with_reducible refine Ko2.call ?_ (by with_reducible assumption)))
        have M1 : Bx (W.heap.size + 1) [.int .i64 a, .int .i64 b, .int .i64 c, .int .i64 d, .int .i64 x, .int .i64 y] u1 := (by repeat (first | with_reducible assumption | with_reducible refine Bx.drew ?_ | with_reducible refine Ko2.drew ?_ | with_reducible refine Bx.call ?_ (by with_reducible assumption) | with_reducible refine Ko2.call ?_ (by with_reducible assumption)))
        have K1 : Ko2 gc (k * 2) x0 x1 u1 := (by repeat (first | with_reducible assumption | with_reducible refine Bx.drew ?_ | with_reducible refine Ko2.drew ?_ | with_reducible refine Bx.call ?_ (by with_reducible assumption) | with_reducible refine Ko2.call ?_ (by with_reducible assumption)))
        have D1 : Below wr.heap.size wr u1 := (by repeat (first | with_reducible assumption | with_reducible refine Below.drew ?_ | with_reducible refine bstep ?_ (by with_reducible assumption)))
        clear hb1
        (try go_wp2_with fail)
        refine hK.out _ _ ?_ (fun hHeld => ?_)
        · (try dsimp only)
          exact ⟨Bx.cells5 P1, Bx.cells6 M1, Ko2.cells K1⟩
        clear hK K
        (try simp only [Act.put, List.setIfInBounds_toArray, List.set_cons_zero, List.set_cons_succ])
        refine wpAnyH_ready (rs := [7]) (by kernel_rfl) (by simp) ?_
        refine AllReadyH.cons (o := _) (by (simp only [List.getElem?_toArray, List.getElem?_cons_succ, List.getElem?_cons_zero]); rfl) (fun K hK => ?_) AllReadyH.nil
        go_simp
        go_at_call 240
        with_reducible refine (HA1.out _ D1).mono ?_
        rintro e u2 ⟨rfl, hb2⟩
        have P2 : Bx W.heap.size [.int .i64 f, .int .i64 (p : Int), .int .i64 B, .int .i64 (q : Int), .slice (some ⟨g, 0, none⟩) n cap] u2 := (by repeat (first | with_reducible assumption | with_reducible refine Bx.drew ?_ | with_reducible refine Ko2.drew ?_ | with_reducible refine Bx.call ?_ (by with_reducible assumption) | with_reducible refine Ko2.call ?_ (by with_reducible assumption)))
        have M2 : Bx (W.heap.size + 1) [.int .i64 a, .int .i64 b, .int .i64 c, .int .i64 d, .int .i64 x, .int .i64 y] u2 := (by repeat (first | with_reducible assumption | with_reducible refine Bx.drew ?_ | with_reducible refine Ko2.drew ?_ | with_reducible refine Bx.call ?_ (by with_reducible assumption) | with_reducible refine Ko2.call ?_ (by with_reducible assumption)))
        have K2 : Ko2 gc (k * 2) x0 x1 u2 := (by repeat (first | with_reducible assumption | with_reducible refine Bx.drew ?_ | with_reducible refine Ko2.drew ?_ | with_reducible refine Bx.call ?_ (by with_reducible assumption) | with_reducible refine Ko2.call ?_ (by with_reducible assumption)))
        have D2 : Below wr.heap.size wr u2 := (by repeat (first | with_reducible assumption | with_reducible refine Below.drew ?_ | with_reducible refine bstep ?_ (by with_reducible assumption)))
        clear hb2
        (try go_wp2_with fail)
        refine hK.out _ _ ?_ (fun hHeld => ?_)
        · (try dsimp only)
          exact ⟨Bx.cells5 P2, Bx.cells6 M2, Ko2.cells K2⟩
        clear hK K
        (try simp only [Act.put, List.setIfInBounds_toArray, List.set_cons_zero, List.set_cons_succ])
        refine wpAnyH_ready (rs := [13]) (by kernel_rfl) (by simp) ?_
        refine AllReadyH.cons (o := _) (by (simp only [List.getElem?_toArray, List.getElem?_cons_succ, List.getElem?_cons_zero]); rfl) (fun K hK => ?_) AllReadyH.nil
        go_simp
        go_at_call 240
        with_reducible refine (HA0.out _ D2).mono ?_
        rintro e u3 ⟨rfl, hb3⟩
        have P3 : Bx W.heap.size [.int .i64 f, .int .i64 (p : Int), .int .i64 B, .int .i64 (q : Int), .slice (some ⟨g, 0, none⟩) n cap] u3 := (by repeat (first | with_reducible assumption | with_reducible refine Bx.drew ?_ | with_reducible refine Ko2.drew ?_ | with_reducible refine Bx.call ?_ (by with_reducible assumption) | with_reducible refine Ko2.call ?_ (by with_reducible assumption)))
        have M3 : Bx (W.heap.size + 1) [.int .i64 a, .int .i64 b, .int .i64 c, .int .i64 d, .int .i64 x, .int .i64 y] u3 := (by repeat (first | with_reducible assumption | with_reducible refine Bx.drew ?_ | with_reducible refine Ko2.drew ?_ | with_reducible refine Bx.call ?_ (by with_reducible assumption) | with_reducible refine Ko2.call ?_ (by with_reducible assumption)))
        have K3 : Ko2 gc (k * 2) x0 x1 u3 := (by repeat (first | with_reducible assumption | with_reducible refine Bx.drew ?_ | with_reducible refine Ko2.drew ?_ | with_reducible refine Bx.call ?_ (by with_reducible assumption) | with_reducible refine Ko2.call ?_ (by with_reducible assumption)))
        have D3 : Below wr.heap.size wr u3 := (by repeat (first | with_reducible assumption | with_reducible refine Below.drew ?_ | with_reducible refine bstep ?_ (by with_reducible assumption)))
        clear hb3
        (try go_wp2_with fail)
        refine hK.out _ _ ?_ (fun hHeld => ?_)
        · (try dsimp only)
          exact ⟨Bx.cells5 P3, Bx.cells6 M3, Ko2.cells K3⟩
        clear hK K
        (try simp only [Act.put, List.setIfInBounds_toArray, List.set_cons_zero, List.set_cons_succ])
        refine wpAnyH_take (i := 14) (v := ?_) (by (simp only [List.getElem?_toArray, List.getElem?_cons_succ, List.getElem?_cons_zero]); rfl) (by kernel_rfl) (by kernel_rfl) (by kernel_rfl) (by exact fun _ _ _ h => h) (Or.inl ⟨by rfl, ?_⟩) (by assumption) ?_
        rotate_left 1
        · (intro w hSw; (try dsimp only at hSw); go_simp) <;> with_reducible rfl
        (try simp only [Act.put, List.setIfInBounds_toArray, List.set_cons_zero, List.set_cons_succ])
        refine wpAnyH_done (by kernel_rfl) ?_ _
        go_wp2
        go_roundw
        case rel =>
          refine ⟨k + 1, by go_num, by omega, fun v hv => ?_, hB.trans (D3.mono hB.size)⟩
          rw [List.take_succ_eq_append_getElem (by rw [← HN.out]; exact hk1), List.mem_append] at hv
          rcases hv with hv | hv
          · exact HALL.out v hv
          · have e9 : v = (x0, x1) := by rw [HX.out.1]; simpa using hv
            subst e9
            dsimp only
            rw [← HX.out.2.1, ← HX.out.2.2]
            exact HEQ.out
        case measure => first | (simp [intOf]; done) | (simp [intOf]; omega)
      · have HNE := Lib.hid (show (F (numP (p : Int) B (q : Int) X1 X2) == F (numP (p : Int) B (q : Int) x0 x1)) = false from by rw [← hb1, ← hb0]; simpa using hbb)
        have hbn : (b1 != b0) = true := by simp [hbb]
        clear hb1 hb0
        go_wp2_with fail
        refine wp_region_held_drew (S := (fun W9 => (W9.cell? ⟨W.heap.size, 0, none⟩ = some (.int .i64 f) ∧ W9.cell? ⟨W.heap.size, 1, none⟩ = some (.int .i64 (p : Int)) ∧ W9.cell? ⟨W.heap.size, 2, none⟩ = some (.int .i64 B) ∧ W9.cell? ⟨W.heap.size, 3, none⟩ = some (.int .i64 (q : Int)) ∧ W9.cell? ⟨W.heap.size, 4, none⟩ = some (.slice (some ⟨g, 0, none⟩) n cap)) ∧ (W9.cell? ⟨W.heap.size + 1, 0, none⟩ = some (.int .i64 a) ∧ W9.cell? ⟨W.heap.size + 1, 1, none⟩ = some (.int .i64 b) ∧ W9.cell? ⟨W.heap.size + 1, 2, none⟩ = some (.int .i64 c) ∧ W9.cell? ⟨W.heap.size + 1, 3, none⟩ = some (.int .i64 d) ∧ W9.cell? ⟨W.heap.size + 1, 4, none⟩ = some (.int .i64 x) ∧ W9.cell? ⟨W.heap.size + 1, 5, none⟩ = some (.int .i64 y)) ∧ (W9.cell? ⟨gc, k * 2, none⟩ = some (.int .i64 x0) ∧ W9.cell? ⟨gc, k * 2 + 1, none⟩ = some (.int .i64 x1)))) (by kernel_rfl) ?_ (fun hHeld => ?_)
        · exact ⟨Bx.cells5 P0, Bx.cells6 M0, Ko2.cells K0⟩
        refine wpAnyH_take (i := 0) (v := ?_) (by (simp only [List.getElem?_toArray, List.getElem?_cons_succ, List.getElem?_cons_zero]); rfl) (by kernel_rfl) (by kernel_rfl) (by kernel_rfl) (by exact fun _ _ _ h => h) (Or.inl ⟨by rfl, ?_⟩) (by assumption) ?_
        rotate_left 1
        · (intro w hSw; (try dsimp only at hSw); go_simp) <;> with_reducible rfl
        (try simp only [Act.put, List.setIfInBounds_toArray, List.set_cons_zero, List.set_cons_succ])
        refine wpAnyH_take (i := 1) (v := ?_) (by (simp only [List.getElem?_toArray, List.getElem?_cons_succ, List.getElem?_cons_zero]); rfl) (by kernel_rfl) (by kernel_rfl) (by kernel_rfl) (by exact fun _ _ _ h => h) (Or.inl ⟨by rfl, ?_⟩) (by assumption) ?_
        rotate_left 1
        · (intro w hSw; (try dsimp only at hSw); go_simp) <;> with_reducible rfl
        (try simp only [Act.put, List.setIfInBounds_toArray, List.set_cons_zero, List.set_cons_succ])
        refine wpAnyH_take (i := 2) (v := ?_) (by (simp only [List.getElem?_toArray, List.getElem?_cons_succ, List.getElem?_cons_zero]); rfl) (by kernel_rfl) (by kernel_rfl) (by kernel_rfl) (by exact fun _ _ _ h => h) (Or.inl ⟨by rfl, ?_⟩) (by assumption) ?_
        rotate_left 1
        · (intro w hSw; (try dsimp only at hSw); go_simp) <;> with_reducible rfl
        (try simp only [Act.put, List.setIfInBounds_toArray, List.set_cons_zero, List.set_cons_succ])
        refine wpAnyH_take (i := 3) (v := ?_) (by (simp only [List.getElem?_toArray, List.getElem?_cons_succ, List.getElem?_cons_zero]); rfl) (by kernel_rfl) (by kernel_rfl) (by kernel_rfl) (by exact fun _ _ _ h => h) (Or.inl ⟨by rfl, ?_⟩) (by assumption) ?_
        rotate_left 1
        · (intro w hSw; (try dsimp only at hSw); go_simp) <;> with_reducible rfl
        (try simp only [Act.put, List.setIfInBounds_toArray, List.set_cons_zero, List.set_cons_succ])
        refine wpAnyH_take (i := 4) (v := ?_) (by (simp only [List.getElem?_toArray, List.getElem?_cons_succ, List.getElem?_cons_zero]); rfl) (by kernel_rfl) (by kernel_rfl) (by kernel_rfl) (by exact fun _ _ _ h => h) (Or.inl ⟨by rfl, ?_⟩) (by assumption) ?_
        rotate_left 1
        · (intro w hSw; (try dsimp only at hSw); go_simp) <;> with_reducible rfl
        (try simp only [Act.put, List.setIfInBounds_toArray, List.set_cons_zero, List.set_cons_succ])
        refine wpAnyH_take (i := 5) (v := ?_) (by (simp only [List.getElem?_toArray, List.getElem?_cons_succ, List.getElem?_cons_zero]); rfl) (by kernel_rfl) (by kernel_rfl) (by kernel_rfl) (by exact fun _ _ _ h => h) (Or.inl ⟨by rfl, ?_⟩) (by assumption) ?_
        rotate_left 1
        · (intro w hSw; (try dsimp only at hSw); go_simp) <;> with_reducible rfl
        (try simp only [Act.put, List.setIfInBounds_toArray, List.set_cons_zero, List.set_cons_succ])
        refine wpAnyH_take (i := 8) (v := ?_) (by (simp only [List.getElem?_toArray, List.getElem?_cons_succ, List.getElem?_cons_zero]); rfl) (by kernel_rfl) (by kernel_rfl) (by kernel_rfl) (by exact fun _ _ _ h => h) (Or.inl ⟨by rfl, ?_⟩) (by assumption) ?_
        rotate_left 1
        · (intro w hSw; (try dsimp only at hSw); go_simp) <;> with_reducible rfl
        (try simp only [Act.put, List.setIfInBounds_toArray, List.set_cons_zero, List.set_cons_succ])
        refine wpAnyH_take (i := 9) (v := ?_) (by (simp only [List.getElem?_toArray, List.getElem?_cons_succ, List.getElem?_cons_zero]); rfl) (by kernel_rfl) (by kernel_rfl) (by kernel_rfl) (by exact fun _ _ _ h => h) (Or.inl ⟨by rfl, ?_⟩) (by assumption) ?_
        rotate_left 1
        · (intro w hSw; (try dsimp only at hSw); go_simp) <;> with_reducible rfl
        (try simp only [Act.put, List.setIfInBounds_toArray, List.set_cons_zero, List.set_cons_succ])
        refine wpAnyH_take (i := 10) (v := ?_) (by (simp only [List.getElem?_toArray, List.getElem?_cons_succ, List.getElem?_cons_zero]); rfl) (by kernel_rfl) (by kernel_rfl) (by kernel_rfl) (by exact fun _ _ _ h => h) (Or.inl ⟨by rfl, ?_⟩) (by assumption) ?_
        rotate_left 1
        · (intro w hSw; (try dsimp only at hSw); go_simp) <;> with_reducible rfl
        (try simp only [Act.put, List.setIfInBounds_toArray, List.set_cons_zero, List.set_cons_succ])
        refine wpAnyH_take (i := 11) (v := ?_) (by (simp only [List.getElem?_toArray, List.getElem?_cons_succ, List.getElem?_cons_zero]); rfl) (by kernel_rfl) (by kernel_rfl) (by kernel_rfl) (by exact fun _ _ _ h => h) (Or.inl ⟨by rfl, ?_⟩) (by assumption) ?_
        rotate_left 1
        · (intro w hSw; (try dsimp only at hSw); go_simp) <;> with_reducible rfl
        (try simp only [Act.put, List.setIfInBounds_toArray, List.set_cons_zero, List.set_cons_succ])
        refine wpAnyH_take (i := 12) (v := ?_) (by (simp only [List.getElem?_toArray, List.getElem?_cons_succ, List.getElem?_cons_zero]); rfl) (by kernel_rfl) (by kernel_rfl) (by kernel_rfl) (by exact fun _ _ _ h => h) (Or.inl ⟨by rfl, ?_⟩) (by assumption) ?_
        rotate_left 1
        · (intro w hSw; (try dsimp only at hSw); go_simp) <;> with_reducible rfl
        (try simp only [Act.put, List.setIfInBounds_toArray, List.set_cons_zero, List.set_cons_succ])
        refine wpAnyH_ready (rs := [6]) (by kernel_rfl) (by simp) ?_
        refine AllReadyH.cons (o := _) (by (simp only [List.getElem?_toArray, List.getElem?_cons_succ, List.getElem?_cons_zero]); rfl) (fun K hK => ?_) AllReadyH.nil
        go_simp
        go_at_call 242
        with_reducible refine (HPL.out _).mono ?_
        rintro e u1 ⟨rfl, hb1⟩
        have P1 : Bx W.heap.size [.int .i64 f, .int .i64 (p : Int), .int .i64 B, .int .i64 (q : Int), .slice (some ⟨g, 0, none⟩) n cap] u1 := (by repeat (first | with_reducible assumption | with_reducible refine Bx.drew ?_ | with_reducible refine Ko2.drew ?_ | with_reducible refine Bx.call ?_ (by with_reducible assumption) | with_reducible refine Ko2.call ?_ (by with_reducible assumption)))
        have M1 : Bx (W.heap.size + 1) [.int .i64 a, .int .i64 b, .int .i64 c, .int .i64 d, .int .i64 x, .int .i64 y] u1 := (by repeat (first | with_reducible assumption | with_reducible refine Bx.drew ?_ | with_reducible refine Ko2.drew ?_ | with_reducible refine Bx.call ?_ (by with_reducible assumption) | with_reducible refine Ko2.call ?_ (by with_reducible assumption)))
        have K1 : Ko2 gc (k * 2) x0 x1 u1 := (by repeat (first | with_reducible assumption | with_reducible refine Bx.drew ?_ | with_reducible refine Ko2.drew ?_ | with_reducible refine Bx.call ?_ (by with_reducible assumption) | with_reducible refine Ko2.call ?_ (by with_reducible assumption)))
        have D1 : Below wr.heap.size wr u1 := (by repeat (first | with_reducible assumption | with_reducible refine Below.drew ?_ | with_reducible refine bstep ?_ (by with_reducible assumption)))
        clear hb1
        (try go_wp2_with fail)
        refine hK.out _ _ ?_ (fun hHeld => ?_)
        · (try dsimp only)
          exact ⟨Bx.cells5 P1, Bx.cells6 M1, Ko2.cells K1⟩
        clear hK K
        (try simp only [Act.put, List.setIfInBounds_toArray, List.set_cons_zero, List.set_cons_succ])
        refine wpAnyH_ready (rs := [7]) (by kernel_rfl) (by simp) ?_
        refine AllReadyH.cons (o := _) (by (simp only [List.getElem?_toArray, List.getElem?_cons_succ, List.getElem?_cons_zero]); rfl) (fun K hK => ?_) AllReadyH.nil
        go_simp
        go_at_call 240
        with_reducible refine (HA1.out _ D1).mono ?_
        rintro e u2 ⟨rfl, hb2⟩
        have P2 : Bx W.heap.size [.int .i64 f, .int .i64 (p : Int), .int .i64 B, .int .i64 (q : Int), .slice (some ⟨g, 0, none⟩) n cap] u2 := (by repeat (first | with_reducible assumption | with_reducible refine Bx.drew ?_ | with_reducible refine Ko2.drew ?_ | with_reducible refine Bx.call ?_ (by with_reducible assumption) | with_reducible refine Ko2.call ?_ (by with_reducible assumption)))
        have M2 : Bx (W.heap.size + 1) [.int .i64 a, .int .i64 b, .int .i64 c, .int .i64 d, .int .i64 x, .int .i64 y] u2 := (by repeat (first | with_reducible assumption | with_reducible refine Bx.drew ?_ | with_reducible refine Ko2.drew ?_ | with_reducible refine Bx.call ?_ (by with_reducible assumption) | with_reducible refine Ko2.call ?_ (by with_reducible assumption)))
        have K2 : Ko2 gc (k * 2) x0 x1 u2 := (by repeat (first | with_reducible assumption | with_reducible refine Bx.drew ?_ | with_reducible refine Ko2.drew ?_ | with_reducible refine Bx.call ?_ (by with_reducible assumption) | with_reducible refine Ko2.call ?_ (by with_reducible assumption)))
        have D2 : Below wr.heap.size wr u2 := (by repeat (first | with_reducible assumption | with_reducible refine Below.drew ?_ | with_reducible refine bstep ?_ (by with_reducible assumption)))
        clear hb2
        (try go_wp2_with fail)
        refine hK.out _ _ ?_ (fun hHeld => ?_)
        · (try dsimp only)
          exact ⟨Bx.cells5 P2, Bx.cells6 M2, Ko2.cells K2⟩
        clear hK K
        (try simp only [Act.put, List.setIfInBounds_toArray, List.set_cons_zero, List.set_cons_succ])
        refine wpAnyH_ready (rs := [13]) (by kernel_rfl) (by simp) ?_
        refine AllReadyH.cons (o := _) (by (simp only [List.getElem?_toArray, List.getElem?_cons_succ, List.getElem?_cons_zero]); rfl) (fun K hK => ?_) AllReadyH.nil
        go_simp
        go_at_call 240
        with_reducible refine (HA0.out _ D2).mono ?_
        rintro e u3 ⟨rfl, hb3⟩
        have P3 : Bx W.heap.size [.int .i64 f, .int .i64 (p : Int), .int .i64 B, .int .i64 (q : Int), .slice (some ⟨g, 0, none⟩) n cap] u3 := (by repeat (first | with_reducible assumption | with_reducible refine Bx.drew ?_ | with_reducible refine Ko2.drew ?_ | with_reducible refine Bx.call ?_ (by with_reducible assumption) | with_reducible refine Ko2.call ?_ (by with_reducible assumption)))
        have M3 : Bx (W.heap.size + 1) [.int .i64 a, .int .i64 b, .int .i64 c, .int .i64 d, .int .i64 x, .int .i64 y] u3 := (by repeat (first | with_reducible assumption | with_reducible refine Bx.drew ?_ | with_reducible refine Ko2.drew ?_ | with_reducible refine Bx.call ?_ (by with_reducible assumption) | with_reducible refine Ko2.call ?_ (by with_reducible assumption)))
        have K3 : Ko2 gc (k * 2) x0 x1 u3 := (by repeat (first | with_reducible assumption | with_reducible refine Bx.drew ?_ | with_reducible refine Ko2.drew ?_ | with_reducible refine Bx.call ?_ (by with_reducible assumption) | with_reducible refine Ko2.call ?_ (by with_reducible assumption)))
        have D3 : Below wr.heap.size wr u3 := (by repeat (first | with_reducible assumption | with_reducible refine Below.drew ?_ | with_reducible refine bstep ?_ (by with_reducible assumption)))
        clear hb3
        (try go_wp2_with fail)
        refine hK.out _ _ ?_ (fun hHeld => ?_)
        · (try dsimp only)
          exact ⟨Bx.cells5 P3, Bx.cells6 M3, Ko2.cells K3⟩
        clear hK K
        (try simp only [Act.put, List.setIfInBounds_toArray, List.set_cons_zero, List.set_cons_succ])
        refine wpAnyH_take (i := 14) (v := ?_) (by (simp only [List.getElem?_toArray, List.getElem?_cons_succ, List.getElem?_cons_zero]); rfl) (by kernel_rfl) (by kernel_rfl) (by kernel_rfl) (by exact fun _ _ _ h => h) (Or.inl ⟨by rfl, ?_⟩) (by assumption) ?_
        rotate_left 1
        · (intro w hSw; (try dsimp only at hSw); go_simp) <;> with_reducible rfl
        (try simp only [Act.put, List.setIfInBounds_toArray, List.set_cons_zero, List.set_cons_succ])
        refine wpAnyH_done (by kernel_rfl) ?_ _
        go_wp2
        go_ret
        exact ⟨ret_bool (kepM_no HMEM.out (by dsimp only; rw [← HX.out.2.1, ← HX.out.2.2]; exact HNE.out)).symm, bstep hB2 D3⟩
    · obtain rfl : k = N := by omega
      go_wp2
      go_ret
      refine ⟨ret_bool ((kepM_snoc _ _ _ _ _ _ _ _ _ _ _).2 fun v hv => HALL.out v (by rw [HN.out, List.take_length]; exact hv)).symm, hB2⟩
theorem infoVec9 : (Tryz.prog.info? 63).map (fun i => (i.zero, i.size, i.bytes)) = some (some (.agg #[.int .i64 0, .int .i64 0]), 2, 16) := by kernel_rfl
theorem l03BasisO_any (A B C : Int) (w : World) :
    Calls Tryz.prog 177 #[.agg #[.int .i64 A, .int .i64 B, .int .i64 C]] w fun e w' => ∃ v, e = .returned v ∧ w'.ownsRow w.heap.size 63 2 v 2 (cells2 (basL A B C)) ∧ Below w.heap.size w w' := by
  go_enter Tryz.func177, Tryz.ntmps177
  go_wp2
  go_ret
  refine ⟨_, rfl, ?_, by repeat (first | with_reducible exact Below.refl _ _ | with_reducible assumption | with_reducible refine Below.setCell ?_ (by first | omega | (dsimp only; omega) | (simp <;> omega)) _ | with_reducible refine Below.alloc ?_ (by first | omega | (simp <;> omega)) _ | with_reducible refine bstep ?_ (by with_reducible assumption) | with_reducible refine Below.drew ?_ | with_reducible refine below_drewN ?_ _)⟩
  have h := World.ownsRow_lit (base := w.heap.size) (e := 63) (size := 2) (w.alloc (.cells #[.int .i64 A, .int .i64 B, .int .i64 C] 28)) #[.int .i64 A, .int .i64 0, .int .i64 B, .int .i64 C] 2 (by simp) (by unfold maxLen; omega) rfl
  simpa [cells2, basL] using h
theorem fl_len (A B C : Int) (F : Nat → Int) (q p k : Nat) : (basL A B C ++ ((cellP q p).take k).filter (kptA A B C F)).length ≤ k + 2 := by
  rw [List.length_append]
  have h1 := List.length_filter_le (kptA A B C F) ((cellP q p).take k)
  have h2 := List.length_take_le k (cellP q p)
  have h3 : (basL A B C).length = 2 := rfl
  omega
theorem fl_vecs {p q : Nat} {B : Int} (hl : latI (p : Int) B (q : Int)) (F : Nat → Int) : vecsB (basL (p : Int) B (q : Int) ++ (cellP q p).filter (kptA (p : Int) B (q : Int) F)) := by
  have hb := latI_bd hl
  have h1 := hl.2.2
  intro v hv
  rcases List.mem_append.1 hv with h | h
  · simp only [basL, List.mem_cons, List.not_mem_nil, or_false] at h
    rcases h with rfl | rfl
    · dsimp only; omega
    · dsimp only; omega
  · have := cellP_mem9 (List.mem_filter.1 h).1
    omega
theorem new_two9 {W : World} {g : Nat} (T : TypeId) (a b : Value) (hg : g = W.heap.size) : ∀ (j : Nat) (u : Value), [a, b][j]? = some u → (W.alloc (.cells #[a, b] T)).cell? ((⟨g, 0, none⟩ : Addr).add j) = some u := by
  subst hg
  intro j u hj
  match j, hj with
  | 0, hj => simp at hj; subst hj; simp [Addr.add, go_sem]
  | 1, hj => simp at hj; subst hj; simp [Addr.add, go_sem]
  | j + 2, hj => simp at hj
set_option maxRecDepth 100000 in
set_option maxHeartbeats 16000000 in
theorem l09Full_any {lo hi p q n : Nat} {f B : Int} {v : Value} {F : Nat → Int} {W : World} (h : PatI f p B q n F) (hv : SRow lo hi 1 v n F W) :
    Calls Tryz.prog 193 #[.agg #[.int .i64 f, .int .i64 (p : Int), .int .i64 B, .int .i64 (q : Int), v]] W fun e w' => e = .returned (.agg #[.int .i64 ((fulI (p : Int) B (q : Int) F).1), .int .i64 ((fulI (p : Int) B (q : Int) F).2.1), .int .i64 ((fulI (p : Int) B (q : Int) F).2.2)]) ∧ Below W.heap.size W w' := by
  obtain ⟨i0, hinf, hz0, hz1, hz2⟩ := info_parts infoVec9
  have R := Lib.hid hv
  have HH := Lib.hid h
  obtain ⟨hp1, hp2, hq1, hq2, hn64, hn1⟩ := h.bd
  have hpq : p * q ≤ 64 := by rw [← h.nn]; exact hn64
  have hpq1 : 1 ≤ p * q := by rw [← h.nn]; exact hn1
  obtain ⟨g, cap, rfl, hg, _, r⟩ := hv.irow hn1
  have hgs := hv.1
  have hgw : g < W.heap.size := by omega
  have HFV := Lib.hid (fl_vecs h.lat F)
  have HFM := Lib.hid (fulM_st h.lat ((cellP q p).filter (kptA (p : Int) B (q : Int) F)))
  have HFP := Lib.hid (fulM_pos h.lat ((cellP q p).filter (kptA (p : Int) B (q : Int) F)))
  have HFI := Lib.hid (fulM_lat h.lat F)
  have P0 : Bx W.heap.size [.int .i64 f, .int .i64 (p : Int), .int .i64 B, .int .i64 (q : Int), .slice (some ⟨g, 0, none⟩) n cap] ((W.alloc (.cells #[.int .i64 f, .int .i64 (p : Int), .int .i64 B, .int .i64 (q : Int), .slice (some ⟨g, 0, none⟩) n cap] 40)).alloc (.cells #[.int .i64 0, .int .i64 0, .int .i64 0] 28)) := (Bx.at _ rfl).alloc _
  have R0 : BX (W.heap.size + 1) [.int .i64 0, .int .i64 0, .int .i64 0] ((W.alloc (.cells #[.int .i64 f, .int .i64 (p : Int), .int .i64 B, .int .i64 (q : Int), .slice (some ⟨g, 0, none⟩) n cap] 40)).alloc (.cells #[.int .i64 0, .int .i64 0, .int .i64 0] 28)) := BX.at _ (by simp)
  have B0 : Below W.heap.size W ((W.alloc (.cells #[.int .i64 f, .int .i64 (p : Int), .int .i64 B, .int .i64 (q : Int), .slice (some ⟨g, 0, none⟩) n cap] 40)).alloc (.cells #[.int .i64 0, .int .i64 0, .int .i64 0] 28)) := by repeat (first | with_reducible exact Below.refl _ _ | with_reducible assumption | with_reducible refine Below.setCell ?_ (by first | omega | (dsimp only; omega) | (simp <;> omega)) _ | with_reducible refine Below.alloc ?_ (by first | omega | (simp <;> omega)) _ | with_reducible refine bstep ?_ (by with_reducible assumption) | with_reducible refine Below.drew ?_ | with_reducible refine below_drewN ?_ _)
  clear hv h
  go_enter Tryz.func193, Tryz.ntmps193
  go_wp2_with fail
  with_reducible refine (l03Cells_any p q B _ hp2 hq2).mono ?_
  rintro e w1 ⟨vc, rfl, hown, hb1⟩
  have P1 := P0.call hb1
  have R1 := R0.call hb1
  have B1 := bstep B0 hb1
  obtain ⟨N, hN⟩ : ∃ N, N = (cellP q p).length := ⟨_, rfl⟩
  have hNpq : N = p * q := by rw [hN, cellP_len]
  have hN64 : N ≤ 64 := by omega
  rw [← hN] at hown
  have HSR := SRow.of hown (cells2_int _) (by omega)
  obtain ⟨gc, capc, rfl, hgc, hgc2, rc⟩ := HSR.irow (by omega)
  rw [hN] at rc
  have hNi : (N : Int) ≤ 64 := by omega
  have HN := Lib.hid hN
  clear hown hb1 P0 R0 B0 hNpq hN HSR hp1 hp2 hq1 hq2 hpq hpq1
  have p1c0 := P1.c0
  have p1c1 := P1.c1
  have p1c2 := P1.c2
  have p1c3 := P1.c3
  have p1c4 := P1.c4
  have p1l := P1.lt
  go_wp2_with fail
  with_reducible refine (l03BasisO_any (p : Int) B (q : Int) _).mono ?_
  rintro e w2 ⟨v4, rfl, hown, hb2⟩
  have hR1l := R1.lt
  have O2 : w2.ownsRow w1.heap.size 63 2 v4 (basL (p : Int) B (q : Int) ++ ((cellP q p).take 0).filter (kptA (p : Int) B (q : Int) F)).length (cells2 (basL (p : Int) B (q : Int) ++ ((cellP q p).take 0).filter (kptA (p : Int) B (q : Int) F))) := by simpa [basL] using hown
  have hb2' := hb2
  clear hown p1c0 p1c1 p1c2 p1c3 p1c4 p1l
  go_wp2_with fail
  go_loopw [4, 5] (fun u s X => ∃ k : Nat, s = .int .i64 (k : Int) ∧ k ≤ N ∧ X.ownsRow w1.heap.size 63 2 u (basL (p : Int) B (q : Int) ++ ((cellP q p).take k).filter (kptA (p : Int) B (q : Int) F)).length (cells2 (basL (p : Int) B (q : Int) ++ ((cellP q p).take k).filter (kptA (p : Int) B (q : Int) F))) ∧ Below w1.heap.size w1 X) (fun _ s _ => N - (intOf s).toNat)
  case atStart => exact ⟨0, rfl, by omega, O2, hb2'⟩
  case round =>
    rename_i u4 _ wr
    obtain ⟨k, rfl, hk, OO, hB⟩ := hrel
    have hB2 := bstep B1 hB
    by_cases hk1 : k < N
    · have hk2 : (k : Int) < (N : Int) := by omega
      have hkc : k < (cellP q p).length := by rw [← HN.out]; exact hk1
      obtain ⟨⟨x0, x1⟩, hxx⟩ : ∃ v, v = (cellP q p)[k] := ⟨_, rfl⟩
      have KK := (rc.v29 k hkc).call hB
      rw [← hxx] at KK
      dsimp only at KK
      have hmem : ((x0, x1) : V29) ∈ cellP q p := by rw [hxx]; exact List.getElem_mem hkc
      have hbd := cellP_mem9 hmem
      dsimp only at hbd
      have HST := Lib.hid (show (cellP q p).take (k + 1) = (cellP q p).take k ++ [(x0, x1)] from by rw [List.take_succ_eq_append_getElem hkc, hxx])
      obtain ⟨kb, hkb⟩ : ∃ kb, kb = kptA (p : Int) B (q : Int) F (x0, x1) := ⟨_, rfl⟩
      have HKP := Lib.hid (fun X (hX : Below wr.heap.size wr X) => (show Calls Tryz.prog 196 #[.agg #[.int .i64 f, .int .i64 (p : Int), .int .i64 B, .int .i64 (q : Int), .slice (some ⟨g, 0, none⟩) n cap], .agg #[.int .i64 1, .int .i64 0, .int .i64 0, .int .i64 1, .int .i64 x0, .int .i64 x1]] X (fun e w' => e = .returned (.bool kb) ∧ Below X.heap.size X w') from by
        have h9 := l09Keeps_any HH.out (R.out.call (bstep hB2 hX)) 1 0 0 1 x0 x1 (by simp [limB, vecB]) (by have := HH.out.bd; simp [vecB]; omega)
        rw [kepM_unit] at h9
        rw [hkb]
        exact h9))
      have HKB := Lib.hid hkb
      have P0 := (P1.call hB).drew
      have K0 := KK.drew
      have D0 : Below wr.heap.size wr wr.drew := (Below.refl _ _).drew
      have hfl := fl_len (p : Int) B (q : Int) F q p k
      have HFL := Lib.hid hfl
      clear hmem hbd hxx KK hkc hkb hfl
      have hws := hB.size
      rcases kb with _ | _
      · go_wp2_with fail
        refine wp_region_held_drew (S := (fun W9 => (W9.cell? ⟨W.heap.size, 0, none⟩ = some (.int .i64 f) ∧ W9.cell? ⟨W.heap.size, 1, none⟩ = some (.int .i64 (p : Int)) ∧ W9.cell? ⟨W.heap.size, 2, none⟩ = some (.int .i64 B) ∧ W9.cell? ⟨W.heap.size, 3, none⟩ = some (.int .i64 (q : Int)) ∧ W9.cell? ⟨W.heap.size, 4, none⟩ = some (.slice (some ⟨g, 0, none⟩) n cap)) ∧ (W9.cell? ⟨gc, k * 2, none⟩ = some (.int .i64 x0) ∧ W9.cell? ⟨gc, k * 2 + 1, none⟩ = some (.int .i64 x1)))) (by kernel_rfl) ?_ (fun hHeld => ?_)
        · exact ⟨Bx.cells5 P0, Ko2.cells K0⟩
        refine wpAnyH_take (i := 0) (v := ?_) (by (simp only [List.getElem?_toArray, List.getElem?_cons_succ, List.getElem?_cons_zero]); rfl) (by kernel_rfl) (by kernel_rfl) (by kernel_rfl) (by exact fun _ _ _ h => h) (Or.inl ⟨by rfl, ?_⟩) (by assumption) ?_
        rotate_left 1
        · (intro w hSw; (try dsimp only at hSw); go_simp) <;> with_reducible rfl
        (try simp only [Act.put, List.setIfInBounds_toArray, List.set_cons_zero, List.set_cons_succ])
        refine wpAnyH_take (i := 2) (v := ?_) (by (simp only [List.getElem?_toArray, List.getElem?_cons_succ, List.getElem?_cons_zero]); rfl) (by kernel_rfl) (by kernel_rfl) (by kernel_rfl) (by exact fun _ _ _ h => h) (Or.inl ⟨by rfl, ?_⟩) (by assumption) ?_
        rotate_left 1
        · (intro w hSw; (try dsimp only at hSw); go_simp) <;> with_reducible rfl
        (try simp only [Act.put, List.setIfInBounds_toArray, List.set_cons_zero, List.set_cons_succ])
        refine wpAnyH_take (i := 3) (v := ?_) (by (simp only [List.getElem?_toArray, List.getElem?_cons_succ, List.getElem?_cons_zero]); rfl) (by kernel_rfl) (by kernel_rfl) (by kernel_rfl) (by exact fun _ _ _ h => h) (Or.inl ⟨by rfl, ?_⟩) (by assumption) ?_
        rotate_left 1
        · (intro w hSw; (try dsimp only at hSw); go_simp) <;> with_reducible rfl
        (try simp only [Act.put, List.setIfInBounds_toArray, List.set_cons_zero, List.set_cons_succ])
        refine wpAnyH_take (i := 4) (v := ?_) (by (simp only [List.getElem?_toArray, List.getElem?_cons_succ, List.getElem?_cons_zero]); rfl) (by kernel_rfl) (by kernel_rfl) (by kernel_rfl) (by exact fun _ _ _ h => h) (Or.inl ⟨by rfl, ?_⟩) (by assumption) ?_
        rotate_left 1
        · (intro w hSw; (try dsimp only at hSw); go_simp) <;> with_reducible rfl
        (try simp only [Act.put, List.setIfInBounds_toArray, List.set_cons_zero, List.set_cons_succ])
        refine wpAnyH_take (i := 5) (v := ?_) (by (simp only [List.getElem?_toArray, List.getElem?_cons_succ, List.getElem?_cons_zero]); rfl) (by kernel_rfl) (by kernel_rfl) (by kernel_rfl) (by exact fun _ _ _ h => h) (Or.inl ⟨by rfl, ?_⟩) (by assumption) ?_
        rotate_left 1
        · (intro w hSw; (try dsimp only at hSw); go_simp) <;> with_reducible rfl
        (try simp only [Act.put, List.setIfInBounds_toArray, List.set_cons_zero, List.set_cons_succ])
        refine wpAnyH_ready (rs := [1]) (by kernel_rfl) (by simp) ?_
        refine AllReadyH.cons (o := _) (by (simp only [List.getElem?_toArray, List.getElem?_cons_succ, List.getElem?_cons_zero]); rfl) (fun K hK => ?_) AllReadyH.nil
        go_simp
        go_at_call 144
        with_reducible refine (l02Unit_any _).mono ?_
        rintro e u1 ⟨rfl, hb1⟩
        have P1 : Bx W.heap.size [.int .i64 f, .int .i64 (p : Int), .int .i64 B, .int .i64 (q : Int), .slice (some ⟨g, 0, none⟩) n cap] u1 := (by repeat (first | with_reducible assumption | with_reducible refine Bx.drew ?_ | with_reducible refine Ko2.drew ?_ | with_reducible refine Bx.call ?_ (by with_reducible assumption) | with_reducible refine Ko2.call ?_ (by with_reducible assumption)))
        have K1 : Ko2 gc (k * 2) x0 x1 u1 := (by repeat (first | with_reducible assumption | with_reducible refine Bx.drew ?_ | with_reducible refine Ko2.drew ?_ | with_reducible refine Bx.call ?_ (by with_reducible assumption) | with_reducible refine Ko2.call ?_ (by with_reducible assumption)))
        have D1 : Below wr.heap.size wr u1 := (by repeat (first | with_reducible assumption | with_reducible refine Below.drew ?_ | with_reducible refine bstep ?_ (by with_reducible assumption)))
        clear hb1
        (try go_wp2_with fail)
        refine hK.out _ _ ?_ (fun hHeld => ?_)
        · (try dsimp only)
          exact ⟨Bx.cells5 P1, Ko2.cells K1⟩
        clear hK K
        (try simp only [Act.put, List.setIfInBounds_toArray, List.set_cons_zero, List.set_cons_succ])
        refine wpAnyH_take (i := 6) (v := ?_) (by (simp only [List.getElem?_toArray, List.getElem?_cons_succ, List.getElem?_cons_zero]); rfl) (by kernel_rfl) (by kernel_rfl) (by kernel_rfl) (by exact fun _ _ _ h => h) (Or.inl ⟨by rfl, ?_⟩) (by assumption) ?_
        rotate_left 1
        · (intro w hSw; (try dsimp only at hSw); go_simp) <;> with_reducible rfl
        (try simp only [Act.put, List.setIfInBounds_toArray, List.set_cons_zero, List.set_cons_succ])
        refine wpAnyH_ready (rs := [7]) (by kernel_rfl) (by simp) ?_
        refine AllReadyH.cons (o := _) (by (simp only [List.getElem?_toArray, List.getElem?_cons_succ, List.getElem?_cons_zero]); rfl) (fun K hK => ?_) AllReadyH.nil
        go_simp
        go_at_call 196
        with_reducible refine (HKP.out _ D1).mono ?_
        rintro e u2 ⟨rfl, hb2⟩
        have P2 : Bx W.heap.size [.int .i64 f, .int .i64 (p : Int), .int .i64 B, .int .i64 (q : Int), .slice (some ⟨g, 0, none⟩) n cap] u2 := (by repeat (first | with_reducible assumption | with_reducible refine Bx.drew ?_ | with_reducible refine Ko2.drew ?_ | with_reducible refine Bx.call ?_ (by with_reducible assumption) | with_reducible refine Ko2.call ?_ (by with_reducible assumption)))
        have K2 : Ko2 gc (k * 2) x0 x1 u2 := (by repeat (first | with_reducible assumption | with_reducible refine Bx.drew ?_ | with_reducible refine Ko2.drew ?_ | with_reducible refine Bx.call ?_ (by with_reducible assumption) | with_reducible refine Ko2.call ?_ (by with_reducible assumption)))
        have D2 : Below wr.heap.size wr u2 := (by repeat (first | with_reducible assumption | with_reducible refine Below.drew ?_ | with_reducible refine bstep ?_ (by with_reducible assumption)))
        clear hb2
        (try go_wp2_with fail)
        refine hK.out _ _ ?_ (fun hHeld => ?_)
        · (try dsimp only)
          exact ⟨Bx.cells5 P2, Ko2.cells K2⟩
        clear hK K
        (try simp only [Act.put, List.setIfInBounds_toArray, List.set_cons_zero, List.set_cons_succ])
        refine wpAnyH_done (by kernel_rfl) ?_ _
        go_wp2
        go_roundw
        case rel =>
          refine ⟨k + 1, by go_num, by omega, ?_, hB.trans (D2.mono hB.size)⟩
          have e9 : (basL (p : Int) B (q : Int) ++ ((cellP q p).take (k + 1)).filter (kptA (p : Int) B (q : Int) F)) = (basL (p : Int) B (q : Int) ++ ((cellP q p).take k).filter (kptA (p : Int) B (q : Int) F)) := by rw [HST.out, List.filter_append]; simp [← HKB.out]
          rw [e9]
          exact ownsRow_call9 OO D2
        case measure => first | (simp [intOf]; done) | (simp [intOf]; omega)
      · go_wp2_with fail
        refine wp_region_held_drew (S := (fun W9 => (W9.cell? ⟨W.heap.size, 0, none⟩ = some (.int .i64 f) ∧ W9.cell? ⟨W.heap.size, 1, none⟩ = some (.int .i64 (p : Int)) ∧ W9.cell? ⟨W.heap.size, 2, none⟩ = some (.int .i64 B) ∧ W9.cell? ⟨W.heap.size, 3, none⟩ = some (.int .i64 (q : Int)) ∧ W9.cell? ⟨W.heap.size, 4, none⟩ = some (.slice (some ⟨g, 0, none⟩) n cap)) ∧ (W9.cell? ⟨gc, k * 2, none⟩ = some (.int .i64 x0) ∧ W9.cell? ⟨gc, k * 2 + 1, none⟩ = some (.int .i64 x1)))) (by kernel_rfl) ?_ (fun hHeld => ?_)
        · exact ⟨Bx.cells5 P0, Ko2.cells K0⟩
        refine wpAnyH_take (i := 0) (v := ?_) (by (simp only [List.getElem?_toArray, List.getElem?_cons_succ, List.getElem?_cons_zero]); rfl) (by kernel_rfl) (by kernel_rfl) (by kernel_rfl) (by exact fun _ _ _ h => h) (Or.inl ⟨by rfl, ?_⟩) (by assumption) ?_
        rotate_left 1
        · (intro w hSw; (try dsimp only at hSw); go_simp) <;> with_reducible rfl
        (try simp only [Act.put, List.setIfInBounds_toArray, List.set_cons_zero, List.set_cons_succ])
        refine wpAnyH_take (i := 2) (v := ?_) (by (simp only [List.getElem?_toArray, List.getElem?_cons_succ, List.getElem?_cons_zero]); rfl) (by kernel_rfl) (by kernel_rfl) (by kernel_rfl) (by exact fun _ _ _ h => h) (Or.inl ⟨by rfl, ?_⟩) (by assumption) ?_
        rotate_left 1
        · (intro w hSw; (try dsimp only at hSw); go_simp) <;> with_reducible rfl
        (try simp only [Act.put, List.setIfInBounds_toArray, List.set_cons_zero, List.set_cons_succ])
        refine wpAnyH_take (i := 3) (v := ?_) (by (simp only [List.getElem?_toArray, List.getElem?_cons_succ, List.getElem?_cons_zero]); rfl) (by kernel_rfl) (by kernel_rfl) (by kernel_rfl) (by exact fun _ _ _ h => h) (Or.inl ⟨by rfl, ?_⟩) (by assumption) ?_
        rotate_left 1
        · (intro w hSw; (try dsimp only at hSw); go_simp) <;> with_reducible rfl
        (try simp only [Act.put, List.setIfInBounds_toArray, List.set_cons_zero, List.set_cons_succ])
        refine wpAnyH_take (i := 4) (v := ?_) (by (simp only [List.getElem?_toArray, List.getElem?_cons_succ, List.getElem?_cons_zero]); rfl) (by kernel_rfl) (by kernel_rfl) (by kernel_rfl) (by exact fun _ _ _ h => h) (Or.inl ⟨by rfl, ?_⟩) (by assumption) ?_
        rotate_left 1
        · (intro w hSw; (try dsimp only at hSw); go_simp) <;> with_reducible rfl
        (try simp only [Act.put, List.setIfInBounds_toArray, List.set_cons_zero, List.set_cons_succ])
        refine wpAnyH_take (i := 5) (v := ?_) (by (simp only [List.getElem?_toArray, List.getElem?_cons_succ, List.getElem?_cons_zero]); rfl) (by kernel_rfl) (by kernel_rfl) (by kernel_rfl) (by exact fun _ _ _ h => h) (Or.inl ⟨by rfl, ?_⟩) (by assumption) ?_
        rotate_left 1
        · (intro w hSw; (try dsimp only at hSw); go_simp) <;> with_reducible rfl
        (try simp only [Act.put, List.setIfInBounds_toArray, List.set_cons_zero, List.set_cons_succ])
        refine wpAnyH_ready (rs := [1]) (by kernel_rfl) (by simp) ?_
        refine AllReadyH.cons (o := _) (by (simp only [List.getElem?_toArray, List.getElem?_cons_succ, List.getElem?_cons_zero]); rfl) (fun K hK => ?_) AllReadyH.nil
        go_simp
        go_at_call 144
        with_reducible refine (l02Unit_any _).mono ?_
        rintro e u1 ⟨rfl, hb1⟩
        have P1 : Bx W.heap.size [.int .i64 f, .int .i64 (p : Int), .int .i64 B, .int .i64 (q : Int), .slice (some ⟨g, 0, none⟩) n cap] u1 := (by repeat (first | with_reducible assumption | with_reducible refine Bx.drew ?_ | with_reducible refine Ko2.drew ?_ | with_reducible refine Bx.call ?_ (by with_reducible assumption) | with_reducible refine Ko2.call ?_ (by with_reducible assumption)))
        have K1 : Ko2 gc (k * 2) x0 x1 u1 := (by repeat (first | with_reducible assumption | with_reducible refine Bx.drew ?_ | with_reducible refine Ko2.drew ?_ | with_reducible refine Bx.call ?_ (by with_reducible assumption) | with_reducible refine Ko2.call ?_ (by with_reducible assumption)))
        have D1 : Below wr.heap.size wr u1 := (by repeat (first | with_reducible assumption | with_reducible refine Below.drew ?_ | with_reducible refine bstep ?_ (by with_reducible assumption)))
        clear hb1
        (try go_wp2_with fail)
        refine hK.out _ _ ?_ (fun hHeld => ?_)
        · (try dsimp only)
          exact ⟨Bx.cells5 P1, Ko2.cells K1⟩
        clear hK K
        (try simp only [Act.put, List.setIfInBounds_toArray, List.set_cons_zero, List.set_cons_succ])
        refine wpAnyH_take (i := 6) (v := ?_) (by (simp only [List.getElem?_toArray, List.getElem?_cons_succ, List.getElem?_cons_zero]); rfl) (by kernel_rfl) (by kernel_rfl) (by kernel_rfl) (by exact fun _ _ _ h => h) (Or.inl ⟨by rfl, ?_⟩) (by assumption) ?_
        rotate_left 1
        · (intro w hSw; (try dsimp only at hSw); go_simp) <;> with_reducible rfl
        (try simp only [Act.put, List.setIfInBounds_toArray, List.set_cons_zero, List.set_cons_succ])
        refine wpAnyH_ready (rs := [7]) (by kernel_rfl) (by simp) ?_
        refine AllReadyH.cons (o := _) (by (simp only [List.getElem?_toArray, List.getElem?_cons_succ, List.getElem?_cons_zero]); rfl) (fun K hK => ?_) AllReadyH.nil
        go_simp
        go_at_call 196
        with_reducible refine (HKP.out _ D1).mono ?_
        rintro e u2 ⟨rfl, hb2⟩
        have P2 : Bx W.heap.size [.int .i64 f, .int .i64 (p : Int), .int .i64 B, .int .i64 (q : Int), .slice (some ⟨g, 0, none⟩) n cap] u2 := (by repeat (first | with_reducible assumption | with_reducible refine Bx.drew ?_ | with_reducible refine Ko2.drew ?_ | with_reducible refine Bx.call ?_ (by with_reducible assumption) | with_reducible refine Ko2.call ?_ (by with_reducible assumption)))
        have K2 : Ko2 gc (k * 2) x0 x1 u2 := (by repeat (first | with_reducible assumption | with_reducible refine Bx.drew ?_ | with_reducible refine Ko2.drew ?_ | with_reducible refine Bx.call ?_ (by with_reducible assumption) | with_reducible refine Ko2.call ?_ (by with_reducible assumption)))
        have D2 : Below wr.heap.size wr u2 := (by repeat (first | with_reducible assumption | with_reducible refine Below.drew ?_ | with_reducible refine bstep ?_ (by with_reducible assumption)))
        clear hb2
        (try go_wp2_with fail)
        refine hK.out _ _ ?_ (fun hHeld => ?_)
        · (try dsimp only)
          exact ⟨Bx.cells5 P2, Ko2.cells K2⟩
        clear hK K
        (try simp only [Act.put, List.setIfInBounds_toArray, List.set_cons_zero, List.set_cons_succ])
        refine wpAnyH_done (by kernel_rfl) ?_ _
        have O9 := ownsRow_call9 OO D2
        have kk0 := K2.2.1
        have kk1 := K2.2.2
        have kkl := K2.1
        have hu9 := D2.size
        go_wp2_with (at_builtin; refine wpList_append_own _ rfl _ _ 83 rfl w1.heap.size 63 i0 (.agg #[.int .i64 0, .int .i64 0]) 2 16 Tryz.underlying83 hinf hz0 hz1 hz2 rfl (by decide) _ _ _ rfl (O9.alloc _) ⟨u2.heap.size, 0, none⟩ 1 1 [.int .i64 x0, .int .i64 x1] rfl rfl ?c1 ?c2 ?c3 ?c4 ?c5 ?_)
        case c1 => exact new_two9 _ _ _ rfl
        case c2 => exact one_two
        case c3 => have := HFL.out; unfold maxLen; omega
        case c4 => have := HFL.out; omega
        case c5 => simp; omega
        intro v' w9 hown' hgrow _
        have hB1 : Below w1.heap.size w1 w9 := Below.grown (Below.alloc (hB.trans (D2.mono hB.size)) (by omega) _) hgrow (by simp; omega) (fun j hj => (O9.lt j hj).1)
        have e9 : (basL (p : Int) B (q : Int) ++ ((cellP q p).take (k + 1)).filter (kptA (p : Int) B (q : Int) F)) = (basL (p : Int) B (q : Int) ++ ((cellP q p).take k).filter (kptA (p : Int) B (q : Int) F)) ++ [(x0, x1)] := by rw [HST.out, List.filter_append, ← List.append_assoc]; simp [← HKB.out]
        have O10 : w9.ownsRow w1.heap.size 63 2 v' (basL (p : Int) B (q : Int) ++ ((cellP q p).take (k + 1)).filter (kptA (p : Int) B (q : Int) F)).length (cells2 (basL (p : Int) B (q : Int) ++ ((cellP q p).take (k + 1)).filter (kptA (p : Int) B (q : Int) F))) := by rw [e9, cells2_snoc, List.length_append, List.length_append]; exact hown'
        go_wp2
        go_roundw
        case rel => exact ⟨k + 1, by go_num, by omega, O10, hB1⟩
        case measure => first | (simp [intOf]; done) | (simp [intOf]; omega)
    · obtain rfl : k = N := by omega
      have R2 := R1.call hB
      have hfl := fl_len (p : Int) B (q : Int) F q p k
      have hwr := hB.size
      have OO2 := OO
      rw [show (cellP q p).take k = cellP q p by rw [HN.out, List.take_length]] at OO2 hfl
      have HS9 := SRow.of OO2 (cells2_int _) (by omega)
      obtain ⟨g9, cap9, rfl, hg9, hg9b, r9⟩ := HS9.irow (by rw [List.length_append]; simp only [basL, List.length_cons, List.length_nil]; omega)
      have HVL := Lib.hid (VL_own OO2 rfl)
      obtain ⟨M9, hM9⟩ : ∃ M9, M9 = basL (p : Int) B (q : Int) ++ (cellP q p).filter (kptA (p : Int) B (q : Int) F) := ⟨_, rfl⟩
      rw [← hM9] at HFV HFM HFP HVL hfl
      have HFI2 := Lib.hid (show latL M9 = fulI (p : Int) B (q : Int) F from by rw [hM9, ← HFI.out]; unfold fulM; simp)
      rw [← hM9]
      clear OO OO2 HS9 r9 hM9
      go_wp2_with fail
      with_reducible refine (hermite9_any M9 g9 cap9 _ HVL.out HFV.out (by omega) HFP.out HFM.out).mono ?_
      rintro e w3 ⟨rfl, hb3⟩
      rw [HFI2.out]
      have R3 := R2.call hb3
      have B3 := bstep hB2 hb3
      clear hb3 R2
      have r3c0 := R3.c0
      have r3c1 := R3.c1
      have r3c2 := R3.c2
      have r3f0 := R3.f0
      have r3f1 := R3.f1
      have r3f2 := R3.f2
      have r3l := R3.lt
      go_wp2
      refine bodyPost_ret (v := .agg #[.int .i64 ((fulI (p : Int) B (q : Int) F).1), .int .i64 ((fulI (p : Int) B (q : Int) F).2.1), .int .i64 ((fulI (p : Int) B (q : Int) F).2.2)]) (by simp [results, Tryz.results193, go_sem, *]) rfl ⟨rfl, ?_⟩
      repeat (first | with_reducible exact Below.refl _ _ | with_reducible assumption | with_reducible refine Below.setCell ?_ (by first | omega | (dsimp only; omega) | (simp <;> omega)) _ | with_reducible refine Below.alloc ?_ (by first | omega | (simp <;> omega)) _ | with_reducible refine bstep ?_ (by with_reducible assumption) | with_reducible refine Below.drew ?_ | with_reducible refine below_drewN ?_ _)
end Go.Proofs.YtjjfomokecngoaaGreatDoor
namespace Go.Proofs.YtjjfomokecngoaaGreatDoor
open Go.RowKit Go.Shelf
attribute [local go_sem] Oper.semAt_some
set_option linter.unusedSimpArgs false
set_option linter.unusedVariables false
open Go.RowKit
set_option linter.unusedSimpArgs false
set_option linter.unusedVariables false
theorem own_shP {W : World} {base n : Nat} {e : TypeId} {size : Nat} {v : Value} {xs : List Value} (h : W.ownsRow base e size v n xs) : ∃ ao cap, v = .slice ao n cap := by
  rcases h.2 with ⟨rfl, h2, _⟩ | ⟨g, cap, cur, rfl, _⟩
  · exact ⟨none, 0, by simp⟩
  · exact ⟨_, cap, rfl⟩
theorem ownsRow_setP {W : World} {base n : Nat} {e : TypeId} {size : Nat} {v : Value} {xs : List Value} {bx o : Nat} (h : W.ownsRow base e size v n xs) (hb : v.ownBlock ≠ some bx) (u : Value) : (W.setCell ⟨bx, o, none⟩ u).ownsRow base e size v n xs := by
  obtain ⟨h1, h2⟩ := h
  refine ⟨h1, h2.imp id ?_⟩
  rintro ⟨g, cap, cur, rfl, hg, hb9, r⟩
  refine ⟨g, cap, cur, rfl, hg, (Below.heap_setCell W _ _ g (fun e => hb (by simp only [Value.ownBlock]; rw [e]))).trans hb9, r⟩
set_option maxRecDepth 100000 in
set_option maxHeartbeats 16000000 in
theorem l09On_any {lo hi p q n p' q' : Nat} {f B B' : Int} {v : Value} {F : Nat → Int} {W : World} (h : PatI f p B q n F) (hl : latI (p' : Int) B' (q' : Int)) (hv : SRow lo hi 1 v n F W) :
    Calls Tryz.prog 192 #[.agg #[.int .i64 f, .int .i64 (p : Int), .int .i64 B, .int .i64 (q : Int), v], .agg #[.int .i64 ((p' : Int)), .int .i64 B', .int .i64 ((q' : Int))]] W (fun e w' => ∃ v' : Value, e = .returned (.agg #[.int .i64 f, .int .i64 (p' : Int), .int .i64 B', .int .i64 (q' : Int), v']) ∧ SRow W.heap.size w'.heap.size 1 v' (p' * q') (onG (p : Int) B (q : Int) F p' q') w' ∧ Below W.heap.size W w') := by
  obtain ⟨i0, hinf, hz0, hz1, hz2⟩ := info_parts infoI64
  have R := Lib.hid hv
  have HH := Lib.hid h
  obtain ⟨hp1, hp2, hq1, hq2, hn64, hn1⟩ := h.bd
  have hpi' : PatI 0 p' B' q' (p' * q') (fun _ => 0) := ⟨rfl, hl, rfl, fun t _ => by omega⟩
  obtain ⟨hp1', hp2', hq1', hq2', hn64', hn1'⟩ := hpi'.bd
  have HL := Lib.hid hl
  obtain ⟨g, cap, rfl, hg, _, r⟩ := hv.irow hn1
  have hgs := hv.1
  have hgw : g < W.heap.size := by omega
  have P0 : Bx W.heap.size [.int .i64 f, .int .i64 (p : Int), .int .i64 B, .int .i64 (q : Int), .slice (some ⟨g, 0, none⟩) n cap] (((W.alloc (.cells #[.int .i64 f, .int .i64 (p : Int), .int .i64 B, .int .i64 (q : Int), .slice (some ⟨g, 0, none⟩) n cap] 40)).alloc (.cells #[.int .i64 (p' : Int), .int .i64 B', .int .i64 (q' : Int)] 28)).alloc (.cells #[.int .i64 0, .int .i64 0, .int .i64 0, .int .i64 0, .slice none 0 0] 40)) := ((Bx.at _ rfl).alloc _).alloc _
  have L0 : Bx (W.heap.size + 1) [.int .i64 (p' : Int), .int .i64 B', .int .i64 (q' : Int)] (((W.alloc (.cells #[.int .i64 f, .int .i64 (p : Int), .int .i64 B, .int .i64 (q : Int), .slice (some ⟨g, 0, none⟩) n cap] 40)).alloc (.cells #[.int .i64 (p' : Int), .int .i64 B', .int .i64 (q' : Int)] 28)).alloc (.cells #[.int .i64 0, .int .i64 0, .int .i64 0, .int .i64 0, .slice none 0 0] 40)) := (Bx.at _ (by simp)).alloc _
  have R0 : BX (W.heap.size + 1 + 1) [.int .i64 0, .int .i64 0, .int .i64 0, .int .i64 0, .slice none 0 0] (((W.alloc (.cells #[.int .i64 f, .int .i64 (p : Int), .int .i64 B, .int .i64 (q : Int), .slice (some ⟨g, 0, none⟩) n cap] 40)).alloc (.cells #[.int .i64 (p' : Int), .int .i64 B', .int .i64 (q' : Int)] 28)).alloc (.cells #[.int .i64 0, .int .i64 0, .int .i64 0, .int .i64 0, .slice none 0 0] 40)) := BX.at _ (by simp)
  have B0 : Below W.heap.size W (((W.alloc (.cells #[.int .i64 f, .int .i64 (p : Int), .int .i64 B, .int .i64 (q : Int), .slice (some ⟨g, 0, none⟩) n cap] 40)).alloc (.cells #[.int .i64 (p' : Int), .int .i64 B', .int .i64 (q' : Int)] 28)).alloc (.cells #[.int .i64 0, .int .i64 0, .int .i64 0, .int .i64 0, .slice none 0 0] 40)) := by repeat (first | with_reducible exact Below.refl _ _ | with_reducible assumption | with_reducible refine Below.setCell ?_ (by first | omega | (dsimp only; omega) | (simp <;> omega)) _ | with_reducible refine Below.alloc ?_ (by first | omega | (simp <;> omega)) _ | with_reducible refine bstep ?_ (by with_reducible assumption) | with_reducible refine Below.drew ?_ | with_reducible refine below_drewN ?_ _)
  clear hv h hl hpi'
  go_enter Tryz.func192, Tryz.ntmps192
  go_wp2_with fail
  with_reducible refine (l03Cells_any p' q' B' _ hp2' hq2').mono ?_
  rintro e w1 ⟨vc, rfl, hown, hb1⟩
  have P1 := P0.call hb1
  have L1 := L0.call hb1
  have R1 := R0.call hb1
  have B1 := bstep B0 hb1
  obtain ⟨N, hN⟩ : ∃ N, N = (cellP q' p').length := ⟨_, rfl⟩
  have hNpq : N = p' * q' := by rw [hN, cellP_len]
  have hN64 : N ≤ 64 := by omega
  rw [← hN] at hown
  have HSR := SRow.of hown (cells2_int _) (by omega)
  obtain ⟨gc, capc, rfl, hgc, hgc2, rc⟩ := HSR.irow (by omega)
  rw [hN] at rc
  have hNi : (N : Int) ≤ 64 := by omega
  have HN := Lib.hid hN
  have HNP := Lib.hid hNpq
  clear hown hb1 P0 L0 R0 B0 hNpq hN HSR
  have p1c0 := P1.c0
  have p1c1 := P1.c1
  have p1c2 := P1.c2
  have p1c3 := P1.c3
  have p1c4 := P1.c4
  have p1l := P1.lt
  have l1c0 := L1.c0
  have l1c1 := L1.c1
  have l1c2 := L1.c2
  have l1l := L1.lt
  have hr1 := R1.lt
  go_wp2_with fail
  obtain ⟨w2, hw2⟩ : ∃ w2, w1 = w2 := ⟨_, rfl⟩
  have O2 : ((w1.alloc (.cells #[] 2)).alloc (.cells #[.int .i64 f, .int .i64 (p' : Int), .int .i64 B', .int .i64 (q' : Int), .slice (some ⟨w1.heap.size, 0, none⟩) 0 0] 40)).ownsRow w1.heap.size 2 1 (.slice (some ⟨w1.heap.size, 0, none⟩) 0 0) 0 [] := (World.ownsRow_lit (base := w1.heap.size) (e := 2) (size := 1) w1 #[] 0 (Nat.le_refl _) (by unfold maxLen; omega) rfl).alloc _
  have D2 : BX (w1.heap.size + 1) [.int .i64 f, .int .i64 (p' : Int), .int .i64 B', .int .i64 (q' : Int), .slice (some ⟨w1.heap.size, 0, none⟩) 0 0] ((w1.alloc (.cells #[] 2)).alloc (.cells #[.int .i64 f, .int .i64 (p' : Int), .int .i64 B', .int .i64 (q' : Int), .slice (some ⟨w1.heap.size, 0, none⟩) 0 0] 40)) := BX.at _ (by simp)
  have hnb2 : (Value.slice (some ⟨w1.heap.size, 0, none⟩) 0 0).ownBlock ≠ some (w1.heap.size + 1) := by intro e9; simp only [Value.ownBlock, Option.some.injEq] at e9; omega
  have B2 : Below w1.heap.size w1 ((w1.alloc (.cells #[] 2)).alloc (.cells #[.int .i64 f, .int .i64 (p' : Int), .int .i64 B', .int .i64 (q' : Int), .slice (some ⟨w1.heap.size, 0, none⟩) 0 0] 40)) := by repeat (first | with_reducible exact Below.refl _ _ | with_reducible assumption | with_reducible refine Below.setCell ?_ (by first | omega | (dsimp only; omega) | (simp <;> omega)) _ | with_reducible refine Below.alloc ?_ (by first | omega | (simp <;> omega)) _ | with_reducible refine bstep ?_ (by with_reducible assumption) | with_reducible refine Below.drew ?_ | with_reducible refine below_drewN ?_ _)
  clear p1c0 p1c1 p1c2 p1c3 p1c4 p1l l1c0 l1c1 l1c2 l1l
  subst hw2
  go_loopw [7] (fun s X => ∃ (k : Nat) (v9 : Value), s = .int .i64 (k : Int) ∧ k ≤ N ∧ BX (w1.heap.size + 1) [.int .i64 f, .int .i64 (p' : Int), .int .i64 B', .int .i64 (q' : Int), v9] X ∧ X.ownsRow w1.heap.size 2 1 v9 (cpyL (p : Int) B (q : Int) F 1 0 0 1 0 0 ((cellP q' p').take k)).length (intsV (cpyL (p : Int) B (q : Int) F 1 0 0 1 0 0 ((cellP q' p').take k))) ∧ v9.ownBlock ≠ some (w1.heap.size + 1) ∧ Below w1.heap.size w1 X) (fun s _ => N - (intOf s).toNat)
  case atStart => exact ⟨0, _, rfl, by omega, D2, by simpa [intsV, cpyL] using O2, hnb2, B2⟩
  case round =>
    clear D2 O2 hnb2 B2
    obtain ⟨k, v9, rfl, hk, D2, OO, hnb, hB⟩ := hrel
    have hB2 := bstep B1 hB
    by_cases hk1 : k < N
    · have hk2 : (k : Int) < (N : Int) := by omega
      have hkc : k < (cellP q' p').length := by rw [← HN.out]; exact hk1
      obtain ⟨⟨x0, x1⟩, hxx⟩ : ∃ v, v = (cellP q' p')[k] := ⟨_, rfl⟩
      have KK := (rc.v29 k hkc).call hB
      rw [← hxx] at KK
      dsimp only at KK
      have hmem : ((x0, x1) : V29) ∈ cellP q' p' := by rw [hxx]; exact List.getElem_mem hkc
      have hbd := cellP_mem9 hmem
      dsimp only at hbd
      obtain ⟨z9, hz9⟩ : ∃ z, z = F (numP (p : Int) B (q : Int) x0 x1) := ⟨_, rfl⟩
      have HAT := Lib.hid (fun X (hX : Below wr.heap.size wr X) => (show Calls Tryz.prog 240 #[.agg #[.int .i64 f, .int .i64 (p : Int), .int .i64 B, .int .i64 (q : Int), .slice (some ⟨g, 0, none⟩) n cap], .agg #[.int .i64 x0, .int .i64 x1]] X (fun e w' => e = .returned (.int .i64 z9) ∧ Below X.heap.size X w') from by rw [hz9]; exact l09At_any HH.out (R.out.call (bstep hB2 hX)) _ _ (by unfold midI; omega) (by unfold midI; omega)))
      have HNX := Lib.hid (show (cpyL (p : Int) B (q : Int) F 1 0 0 1 0 0 ((cellP q' p').take (k + 1))) = (cpyL (p : Int) B (q : Int) F 1 0 0 1 0 0 ((cellP q' p').take k)) ++ [z9] from by
        rw [cpyL_unit, cpyL_unit, List.take_succ_eq_append_getElem hkc, List.map_append, ← hxx, hz9]
        rfl)
      have HLN := Lib.hid (show (cpyL (p : Int) B (q : Int) F 1 0 0 1 0 0 ((cellP q' p').take k)).length ≤ 64 from by rw [cpyL, List.length_map]; have := List.length_take_le k (cellP q' p'); omega)
      have P3 := (P1.call hB).drew
      have K3 := KK.drew
      have D3 := D2.drew
      have E3 : Below wr.heap.size wr wr.drew := (Below.refl _ _).drew
      have O3 := ownsRow_callB OO E3
      have hws := hB.size
      have hgdl := D2.lt
      clear hmem hbd hxx KK hz9 hkc
      obtain ⟨CLN, hCLN⟩ : ∃ z, z = (cpyL (p : Int) B (q : Int) F 1 0 0 1 0 0 ((cellP q' p').take k)) := ⟨_, rfl⟩
      rw [← hCLN] at HNX HLN O3 OO
      clear hCLN
      go_wp2_with fail
      refine wp_region_T 9 (fun W9 => (W9.cell? ⟨W.heap.size, 0, none⟩ = some (.int .i64 f) ∧ W9.cell? ⟨W.heap.size, 1, none⟩ = some (.int .i64 (p : Int)) ∧ W9.cell? ⟨W.heap.size, 2, none⟩ = some (.int .i64 B) ∧ W9.cell? ⟨W.heap.size, 3, none⟩ = some (.int .i64 (q : Int)) ∧ W9.cell? ⟨W.heap.size, 4, none⟩ = some (.slice (some ⟨g, 0, none⟩) n cap)) ∧ (W9.cell? ⟨gc, k * 2, none⟩ = some (.int .i64 x0) ∧ W9.cell? ⟨gc, k * 2 + 1, none⟩ = some (.int .i64 x1)) ∧ W9.cell? ⟨w1.heap.size + 1, 4, none⟩ = some v9) (by kernel_rfl) ⟨P3.cells5, K3.cells, D3.c4⟩ (fun hHeld inv => ?_)
      refine wpAnyT_take (i := 0) (v := ?_) (by kernel_rfl) (by kernel_rfl) (by decide) (by kernel_rfl) inv rfl (by decide) (by kernel_rfl) (by kernel_rfl) (fun _ _ _ h => h) (Or.inl ⟨by rfl, ?_⟩) (by assumption) (fun inv => ?_)
      rotate_left
      · (intro w hSw; (try dsimp only at hSw); go_simp; try with_reducible rfl)
      simp only [Act.put, List.setIfInBounds_toArray, List.set_cons_zero, List.set_cons_succ]
      refine wpAnyT_take (i := 1) (v := ?_) (by kernel_rfl) (by kernel_rfl) (by decide) (by kernel_rfl) inv rfl (by decide) (by kernel_rfl) (by kernel_rfl) (fun _ _ _ h => h) (Or.inl ⟨by rfl, ?_⟩) (by assumption) (fun inv => ?_)
      rotate_left
      · (intro w hSw; (try dsimp only at hSw); go_simp; try with_reducible rfl)
      simp only [Act.put, List.setIfInBounds_toArray, List.set_cons_zero, List.set_cons_succ]
      refine wpAnyT_take (i := 2) (v := ?_) (by kernel_rfl) (by kernel_rfl) (by decide) (by kernel_rfl) inv rfl (by decide) (by kernel_rfl) (by kernel_rfl) (fun _ _ _ h => h) (Or.inl ⟨by rfl, ?_⟩) (by assumption) (fun inv => ?_)
      rotate_left
      · (intro w hSw; (try dsimp only at hSw); go_simp; try with_reducible rfl)
      simp only [Act.put, List.setIfInBounds_toArray, List.set_cons_zero, List.set_cons_succ]
      refine wpAnyT_take (i := 3) (v := ?_) (by kernel_rfl) (by kernel_rfl) (by decide) (by kernel_rfl) inv rfl (by decide) (by kernel_rfl) (by kernel_rfl) (fun _ _ _ h => h) (Or.inl ⟨by rfl, ?_⟩) (by assumption) (fun inv => ?_)
      rotate_left
      · (intro w hSw; (try dsimp only at hSw); go_simp; try with_reducible rfl)
      simp only [Act.put, List.setIfInBounds_toArray, List.set_cons_zero, List.set_cons_succ]
      refine wpAnyT_take (i := 4) (v := ?_) (by kernel_rfl) (by kernel_rfl) (by decide) (by kernel_rfl) inv rfl (by decide) (by kernel_rfl) (by kernel_rfl) (fun _ _ _ h => h) (Or.inl ⟨by rfl, ?_⟩) (by assumption) (fun inv => ?_)
      rotate_left
      · (intro w hSw; (try dsimp only at hSw); go_simp; try with_reducible rfl)
      simp only [Act.put, List.setIfInBounds_toArray, List.set_cons_zero, List.set_cons_succ]
      refine wpAnyT_take (i := 5) (v := ?_) (by kernel_rfl) (by kernel_rfl) (by decide) (by kernel_rfl) inv rfl (by decide) (by kernel_rfl) (by kernel_rfl) (fun _ _ _ h => h) (Or.inl ⟨by rfl, ?_⟩) (by assumption) (fun inv => ?_)
      rotate_left
      · (intro w hSw; (try dsimp only at hSw); go_simp; try with_reducible rfl)
      simp only [Act.put, List.setIfInBounds_toArray, List.set_cons_zero, List.set_cons_succ]
      refine wpAnyT_take (i := 6) (v := ?_) (by kernel_rfl) (by kernel_rfl) (by decide) (by kernel_rfl) inv rfl (by decide) (by kernel_rfl) (by kernel_rfl) (fun _ _ _ h => h) (Or.inl ⟨by rfl, ?_⟩) (by assumption) (fun inv => ?_)
      rotate_left
      · (intro w hSw; (try dsimp only at hSw); go_simp; try with_reducible rfl)
      simp only [Act.put, List.setIfInBounds_toArray, List.set_cons_zero, List.set_cons_succ]
      refine wpAnyT_one (i := 7) (by kernel_rfl) rfl (fun K hK => ?_)
      go_simp
      (go_at_call 240; with_reducible refine (HAT.out _ E3).mono ?_; rintro e w4 ⟨rfl, hb4⟩; have P4 := P3.call hb4; have K4 := K3.call hb4; have D4 := D3.call hb4; have E4 := bstep E3 hb4; have O4 := ownsRow_callB O3 hb4)
      refine hK.out _ _ (fun _ => ⟨P4.cells5, K4.cells, D4.c4⟩) ?_
      clear hK K
      try simp only [Act.put, List.setIfInBounds_toArray, List.set_cons_zero, List.set_cons_succ]
      refine wpAnyT_one (i := 8) (by kernel_rfl) rfl (fun K hK => ?_)
      go_simp
      refine hK.out _ _ (fun _ => ⟨(P4.alloc _).cells5, (K4.alloc _).cells, (D4.alloc _).c4⟩) ?_
      clear hK K
      try simp only [Act.put, List.setIfInBounds_toArray, List.set_cons_zero, List.set_cons_succ]
      refine wpAnyT_seq (k := 9) (by decide) rfl rfl (by kernel_rfl) ?_
      clear hHeld inv
      have he4 := E4.size
      refine wpList_append_own_at _ rfl _ _ 34 rfl w1.heap.size 2 i0 (.int .i64 0) 1 8 Tryz.underlying34 hinf hz0 hz1 hz2 rfl (by decide) _ _ _ rfl (O4.alloc _) ⟨w4.heap.size, 0, none⟩ 1 1 [.int .i64 z9] rfl rfl ?c1 ?c2 ?c3 ?c4 ?c5 ?_
      case c1 => exact new_one9 _ _ rfl
      case c2 => intro u hu; simp only [List.mem_cons, List.not_mem_nil, or_false] at hu; rw [hu]; rfl
      case c3 => have := HLN.out; unfold maxLen; omega
      case c4 => have := HLN.out; omega
      case c5 => simp; omega
      intro v' w5 hown5 hgr5 _ hat
      have D5 := (D4.alloc (.cells #[.int .i64 z9] 2)).grown hgr5 hnb
      have E5 : Below w1.heap.size w1 w5 := Below.grown (Below.alloc (hB.trans (E4.mono hB.size)) (by omega) _) hgr5 (by simp; omega) (fun j hj => (O4.lt j hj).1)
      have O5 : w5.ownsRow w1.heap.size 2 1 v' (cpyL (p : Int) B (q : Int) F 1 0 0 1 0 0 ((cellP q' p').take (k + 1))).length (intsV (cpyL (p : Int) B (q : Int) F 1 0 0 1 0 0 ((cellP q' p').take (k + 1)))) := by rw [HNX.out, intsV_snoc, List.length_append]; exact hown5
      have hnb5 : v'.ownBlock ≠ some (w1.heap.size + 1) := by
        rcases hat with e9 | e9 <;> rw [e9]
        · exact hnb
        · intro e7; have := D4.lt; simp at e7; omega
      have D6 := D5.store 4 (by simp) v'
      have OWN9 := Lib.hid O5
      have HLN2 := HNX.out
      have d5c4 := D5.c4
      have d5f4 := D5.f4
      have d5l := D5.lt
      obtain ⟨ao', cap', rfl⟩ := own_shP O5
      clear hown5 hgr5 hat O5 HLN2
      go_wp2
      go_roundw
      case rel => exact ⟨k + 1, _, by go_num, by omega, D6, ownsRow_setP OWN9.out hnb5 _, hnb5, E5.setCell (by dsimp only; omega) _⟩
      case measure => first | (simp [intOf]; done) | (simp [intOf]; omega)
    · obtain rfl : k = N := by omega
      have hlen : (cpyL (p : Int) B (q : Int) F 1 0 0 1 0 0 (cellP q' p')).length = p' * q' := by rw [cpyL, List.length_map, cellP_len]
      have hkk : (cellP q' p').take k = cellP q' p' := by rw [HN.out]; exact List.take_length
      rw [hkk] at OO
      have h9 := SRow.of OO (intsV_int _) (by rw [hlen]; omega)
      rw [hlen] at h9
      obtain ⟨ao9, cap9, rfl⟩ := own_shP OO
      rw [hlen] at D2
      have R2 := R1.call hB
      have HS9 : Hid (SRow w1.heap.size wr.heap.size 1 (.slice ao9 (p' * q') cap9) (p' * q') (onG (p : Int) B (q : Int) F p' q') wr) := Lib.hid (by rw [hlen] at h9; exact h9)
      have HB9 := Lib.hid hB2
      have hws := hB.size
      have d2c0 := D2.c0
      have d2c1 := D2.c1
      have d2c2 := D2.c2
      have d2c3 := D2.c3
      have d2c4 := D2.c4
      have d2l := D2.lt
      have r2c0 := R2.c0
      have r2c1 := R2.c1
      have r2c2 := R2.c2
      have r2c3 := R2.c3
      have r2c4 := R2.c4
      have r2f0 := R2.f0
      have r2f1 := R2.f1
      have r2f2 := R2.f2
      have r2f3 := R2.f3
      have r2f4 := R2.f4
      have r2l := R2.lt
      clear h9 OO hkk hlen D2 R2 R1 hnb hB hB2
      go_wp2
      refine bodyPost_ret (v := .agg #[.int .i64 f, .int .i64 (p' : Int), .int .i64 B', .int .i64 (q' : Int), .slice ao9 (p' * q') cap9]) (by simp [results, Tryz.results192, go_sem, *]) rfl ⟨_, rfl, ?_, ?_⟩
      · refine SRow.up (hi := wr.heap.size) (SRow.low (lo := w1.heap.size) ?_ (by omega))
        repeat (first | with_reducible exact HS9.out | with_reducible refine SRow.put (by first | omega | (dsimp only; omega)) _ ?_)
      · have hB := HB9.out
        repeat (first | with_reducible exact Below.refl _ _ | with_reducible assumption | with_reducible refine Below.setCell ?_ (by first | omega | (dsimp only; omega) | (simp <;> omega)) _ | with_reducible refine Below.alloc ?_ (by first | omega | (simp <;> omega)) _ | with_reducible refine bstep ?_ (by with_reducible assumption) | with_reducible refine Below.drew ?_ | with_reducible refine below_drewN ?_ _)
open Go.RowKit
set_option linter.unusedSimpArgs false
set_option linter.unusedVariables false
set_option maxRecDepth 100000 in
set_option maxHeartbeats 16000000 in
theorem l09Lean_any {lo hi p q n p' q' : Nat} {f B B' : Int} {v : Value} {F : Nat → Int} {W : World} (h : PatI f p B q n F) (hf : fulI (p : Int) B (q : Int) F = ((p' : Int), B', (q' : Int))) (hl : latI (p' : Int) B' (q' : Int)) (hv : SRow lo hi 1 v n F W) :
    Calls Tryz.prog 130 #[.agg #[.int .i64 f, .int .i64 (p : Int), .int .i64 B, .int .i64 (q : Int), v]] W (fun e w' => ∃ v' : Value, e = .returned (.agg #[.int .i64 f, .int .i64 (p' : Int), .int .i64 B', .int .i64 (q' : Int), v']) ∧ SRow W.heap.size w'.heap.size 1 v' (p' * q') (onG (p : Int) B (q : Int) F p' q') w' ∧ Below W.heap.size W w') := by
  have R := Lib.hid hv
  have HH := Lib.hid h
  have HL := Lib.hid hl
  obtain ⟨hp1, hp2, hq1, hq2, hn64, hn1⟩ := h.bd
  obtain ⟨g, cap, rfl, hg, _, r⟩ := hv.irow hn1
  have hgs := hv.1
  have hgw : g < W.heap.size := by omega
  have HFL := Lib.hid (fun (X : World) (hX : Below W.heap.size W X) => (show Calls Tryz.prog 193 #[.agg #[.int .i64 f, .int .i64 (p : Int), .int .i64 B, .int .i64 (q : Int), .slice (some ⟨g, 0, none⟩) n cap]] X (fun e w' => e = .returned (.agg #[.int .i64 ((p' : Int)), .int .i64 B', .int .i64 ((q' : Int))]) ∧ Below X.heap.size X w') from by
    have h9 := l09Full_any HH.out (R.out.call hX)
    rw [hf] at h9
    exact h9))
  have HSP := Lib.hid (fun (X : World) (hX : Below W.heap.size W X) => l09On_any HH.out HL.out (R.out.call hX))
  have P0 : Bx W.heap.size [.int .i64 f, .int .i64 (p : Int), .int .i64 B, .int .i64 (q : Int), .slice (some ⟨g, 0, none⟩) n cap] ((W.alloc (.cells #[.int .i64 f, .int .i64 (p : Int), .int .i64 B, .int .i64 (q : Int), .slice (some ⟨g, 0, none⟩) n cap] 40)).alloc (.cells #[.int .i64 0, .int .i64 0, .int .i64 0, .int .i64 0, .slice none 0 0] 40)) := (Bx.at _ rfl).alloc _
  have R0 : BX (W.heap.size + 1) [.int .i64 0, .int .i64 0, .int .i64 0, .int .i64 0, .slice none 0 0] ((W.alloc (.cells #[.int .i64 f, .int .i64 (p : Int), .int .i64 B, .int .i64 (q : Int), .slice (some ⟨g, 0, none⟩) n cap] 40)).alloc (.cells #[.int .i64 0, .int .i64 0, .int .i64 0, .int .i64 0, .slice none 0 0] 40)) := BX.at _ (by simp)
  have B0 : Below W.heap.size W ((W.alloc (.cells #[.int .i64 f, .int .i64 (p : Int), .int .i64 B, .int .i64 (q : Int), .slice (some ⟨g, 0, none⟩) n cap] 40)).alloc (.cells #[.int .i64 0, .int .i64 0, .int .i64 0, .int .i64 0, .slice none 0 0] 40)) := by repeat (first | with_reducible exact Below.refl _ _ | with_reducible assumption | with_reducible refine Below.setCell ?_ (by first | omega | (dsimp only; omega) | (simp <;> omega)) _ | with_reducible refine Below.alloc ?_ (by first | omega | (simp <;> omega)) _ | with_reducible refine bstep ?_ (by with_reducible assumption) | with_reducible refine Below.drew ?_ | with_reducible refine below_drewN ?_ _)
  clear hv h hl hf r
  go_enter Tryz.func130, Tryz.ntmps130
  go_wp2_with fail
  go_region_held3 (fun W9 => (W9.cell? ⟨W.heap.size, 0, none⟩ = some (.int .i64 f) ∧ W9.cell? ⟨W.heap.size, 1, none⟩ = some (.int .i64 (p : Int)) ∧ W9.cell? ⟨W.heap.size, 2, none⟩ = some (.int .i64 B) ∧ W9.cell? ⟨W.heap.size, 3, none⟩ = some (.int .i64 (q : Int)) ∧ W9.cell? ⟨W.heap.size, 4, none⟩ = some (.slice (some ⟨g, 0, none⟩) n cap))) ((refine Bx.cells5 ?_) <;> repeat (first | with_reducible assumption | with_reducible refine Bx.drew ?_ | with_reducible refine Bx.alloc ?_ _ | with_reducible refine Bx.call ?_ (by with_reducible assumption) | with_reducible refine BX.drew ?_ | with_reducible refine BX.alloc ?_ _ | with_reducible refine BX.call ?_ (by with_reducible assumption) | with_reducible refine Bx.far (by first | omega | (dsimp only; omega)) ?_))
    (first
      | (go_at_call 193; with_reducible refine (HFL.out _ (by repeat (first | with_reducible assumption | with_reducible exact Below.refl _ _ | with_reducible refine Below.drew ?_ | with_reducible refine Below.alloc ?_ (by first | omega | (simp <;> omega)) _ | with_reducible refine Below.setCell ?_ (by first | omega | (dsimp only; omega)) _ | with_reducible refine bstep ?_ (by with_reducible assumption)))).mono ?_; rintro e w1 ⟨rfl, hb1⟩; have P1 : Bx W.heap.size [.int .i64 f, .int .i64 (p : Int), .int .i64 B, .int .i64 (q : Int), .slice (some ⟨g, 0, none⟩) n cap] w1 := (by repeat (first | with_reducible assumption | with_reducible refine Bx.drew ?_ | with_reducible refine Bx.alloc ?_ _ | with_reducible refine Bx.call ?_ (by with_reducible assumption) | with_reducible refine BX.drew ?_ | with_reducible refine BX.alloc ?_ _ | with_reducible refine BX.call ?_ (by with_reducible assumption) | with_reducible refine Bx.far (by first | omega | (dsimp only; omega)) ?_)); have R1 : BX (W.heap.size + 1) [.int .i64 0, .int .i64 0, .int .i64 0, .int .i64 0, .slice none 0 0] w1 := (by repeat (first | with_reducible assumption | with_reducible refine Bx.drew ?_ | with_reducible refine Bx.alloc ?_ _ | with_reducible refine Bx.call ?_ (by with_reducible assumption) | with_reducible refine BX.drew ?_ | with_reducible refine BX.alloc ?_ _ | with_reducible refine BX.call ?_ (by with_reducible assumption) | with_reducible refine Bx.far (by first | omega | (dsimp only; omega)) ?_)); have B1 : Below W.heap.size W w1 := (by repeat (first | with_reducible assumption | with_reducible exact Below.refl _ _ | with_reducible refine Below.drew ?_ | with_reducible refine Below.alloc ?_ (by first | omega | (simp <;> omega)) _ | with_reducible refine Below.setCell ?_ (by first | omega | (dsimp only; omega)) _ | with_reducible refine bstep ?_ (by with_reducible assumption))); have p1c0 := P1.c0; have p1c1 := P1.c1; have p1c2 := P1.c2; have p1c3 := P1.c3; have p1c4 := P1.c4; have p1l := P1.lt)
      | (go_at_call 192; with_reducible refine (HSP.out _ (by repeat (first | with_reducible assumption | with_reducible exact Below.refl _ _ | with_reducible refine Below.drew ?_ | with_reducible refine Below.alloc ?_ (by first | omega | (simp <;> omega)) _ | with_reducible refine Below.setCell ?_ (by first | omega | (dsimp only; omega)) _ | with_reducible refine bstep ?_ (by with_reducible assumption)))).mono ?_; rintro e w2 ⟨v2, rfl, r2, hb2⟩; have R2 : BX (W.heap.size + 1) [.int .i64 0, .int .i64 0, .int .i64 0, .int .i64 0, .slice none 0 0] w2 := (by repeat (first | with_reducible assumption | with_reducible refine Bx.drew ?_ | with_reducible refine Bx.alloc ?_ _ | with_reducible refine Bx.call ?_ (by with_reducible assumption) | with_reducible refine BX.drew ?_ | with_reducible refine BX.alloc ?_ _ | with_reducible refine BX.call ?_ (by with_reducible assumption) | with_reducible refine Bx.far (by first | omega | (dsimp only; omega)) ?_)); have B2 : Below W.heap.size W w2 := (by repeat (first | with_reducible assumption | with_reducible exact Below.refl _ _ | with_reducible refine Below.drew ?_ | with_reducible refine Below.alloc ?_ (by first | omega | (simp <;> omega)) _ | with_reducible refine Below.setCell ?_ (by first | omega | (dsimp only; omega)) _ | with_reducible refine bstep ?_ (by with_reducible assumption))); obtain ⟨ao2, cap2, rfl⟩ := r2.slice; have B1z := B1.size; have b1l := R1.lt; have HR2 := Lib.hid (r2.low (lo' := W.heap.size + 2) (by first | omega | (simp; omega))); have HB2 := Lib.hid B2; clear r2 B2; have r2c0 := R2.c0; have r2c1 := R2.c1; have r2c2 := R2.c2; have r2c3 := R2.c3; have r2c4 := R2.c4; have r2f0 := R2.f0; have r2f1 := R2.f1; have r2f2 := R2.f2; have r2f3 := R2.f3; have r2f4 := R2.f4; have r2l := R2.lt))
  all_goals
    go_wp2
    refine bodyPost_ret (v := .agg #[.int .i64 f, .int .i64 (p' : Int), .int .i64 B', .int .i64 (q' : Int), .slice ao2 (p' * q') cap2]) (by simp [results, Tryz.results130, go_sem, *]) rfl ⟨_, rfl, ?_, ?_⟩
    · refine SRow.up (hi := w2.heap.size) (SRow.low (lo := W.heap.size + 2) ?_ (by omega))
      repeat (first | with_reducible exact HR2.out | with_reducible refine SRow.put (by first | omega | (dsimp only; omega)) _ ?_)
    · have hB := HB2.out
      repeat (first | with_reducible exact Below.refl _ _ | with_reducible assumption | with_reducible refine Below.setCell ?_ (by first | omega | (dsimp only; omega) | (simp <;> omega)) _ | with_reducible refine Below.alloc ?_ (by first | omega | (simp <;> omega)) _ | with_reducible refine bstep ?_ (by with_reducible assumption) | with_reducible refine Below.drew ?_ | with_reducible refine below_drewN ?_ _)
end Go.Proofs.YtjjfomokecngoaaGreatDoor
