/-
  Contracts of chapter 3's SublatticesOf: the program's function and the model's answer one and the same list, each in memory of its own. No condition.
-/
import Derived.Test.YtlalibefmnenjaaLat1
import Derived.OwnWalk
import Derived.Laws.OwnMore
import Derived.WalkSmall
import Derived.LoopTactic
namespace Go.Proofs.Ytlalibefmnenjaa
open Go.RowKit
set_option linter.unusedSimpArgs false
set_option linter.unusedVariables false

/- a list of lattices as cells -/
def cellsL3 (xs : List (Int × Int × Int)) : List Value := xs.flatMap (fun t => [.int .i64 t.1, .int .i64 t.2.1, .int .i64 t.2.2])
theorem cellsL3_len (xs : List (Int × Int × Int)) : (cellsL3 xs).length = xs.length * 3 := by
  induction xs with
  | nil => rfl
  | cons t xs ih => simp only [cellsL3, List.flatMap_cons, List.length_append, List.length_cons, List.length_nil] at *; omega
theorem cellsL3_snoc (xs : List (Int × Int × Int)) (t : Int × Int × Int) : cellsL3 (xs ++ [t]) = cellsL3 xs ++ [.int .i64 t.1, .int .i64 t.2.1, .int .i64 t.2.2] := by simp [cellsL3]
theorem cellsL3_get : ∀ (xs : List (Int × Int × Int)) (i : Nat) (h : i < xs.length), (cellsL3 xs)[i * 3]? = some (.int .i64 xs[i].1) ∧ (cellsL3 xs)[i * 3 + 1]? = some (.int .i64 xs[i].2.1) ∧ (cellsL3 xs)[i * 3 + 2]? = some (.int .i64 xs[i].2.2)
  | [], i, h => by simp at h
  | t :: xs, 0, _ => by simp [cellsL3]
  | t :: xs, i + 1, h => by
    have ih := cellsL3_get xs i (by simpa using h)
    have e : ∀ k, (cellsL3 (t :: xs))[k + 3]? = (cellsL3 xs)[k]? := fun k => by simp [cellsL3]
    rw [show (i + 1) * 3 = i * 3 + 3 by omega, show i * 3 + 3 + 1 = (i * 3 + 1) + 3 by omega, show i * 3 + 3 + 2 = (i * 3 + 2) + 3 by omega, e, e, e]
    simpa using ih
def subRow (n a j : Nat) : List (Int × Int × Int) := (List.range j).map (fun b : Nat => ((a : Int), (b : Int), ((n / a : Nat) : Int)))
def subP (n k : Nat) : List (Int × Int × Int) := (List.range k).flatMap (fun i => if n % (i + 1) = 0 then subRow n (i + 1) (i + 1) else [])
theorem subP_succ (n k : Nat) : subP n (k + 1) = subP n k ++ (if n % (k + 1) = 0 then subRow n (k + 1) (k + 1) else []) := by
  unfold subP; rw [List.range_succ, List.flatMap_append]; simp
theorem subRow_succ (n a j : Nat) : subRow n a (j + 1) = subRow n a j ++ [((a : Int), (j : Int), ((n / a : Nat) : Int))] := by
  unfold subRow; rw [List.range_succ, List.map_append]; rfl
theorem subRow_len (n a j : Nat) : (subRow n a j).length = j := by simp [subRow]
theorem subP_len (n : Nat) : ∀ k, k ≤ 64 → (subP n k).length ≤ 64 * k
  | 0, _ => by simp [subP]
  | k + 1, h => by
    have := subP_len n k (by omega)
    rw [subP_succ, List.length_append]
    split
    · rw [subRow_len]; omega
    · simp; omega
theorem infoLat : (Try.prog.info? 25).map (fun i => (i.zero, i.size, i.bytes)) = some (some (.agg #[.int .i64 0, .int .i64 0, .int .i64 0]), 3, 24) := by kernel_rfl
theorem own_next3 {w1 : World} {base : Nat} {e : TypeId} {v : Value} {xs : List (Int × Int × Int)} {a b c : Int} (h : w1.ownsRow base e 3 v (xs.length + 1) (cellsL3 xs ++ [.int .i64 a, .int .i64 b, .int .i64 c])) : w1.ownsRow base e 3 v (xs ++ [(a, b, c)]).length (cellsL3 (xs ++ [(a, b, c)])) := by
  rw [cellsL3_snoc]; simpa using h
theorem one_three {a b c : Int} : ∀ u ∈ [Value.int .i64 a, .int .i64 b, .int .i64 c], u.oneCell' = true := by
  intro u hu
  simp only [List.mem_cons, List.not_mem_nil, or_false] at hu
  rcases hu with rfl | rfl | rfl <;> rfl
theorem new_three {W : World} {g : Nat} (T : TypeId) (a b c : Value) (hg : g = W.heap.size) : ∀ (j : Nat) (u : Value), [a, b, c][j]? = some u → (W.alloc (.cells #[a, b, c] T)).cell? ((⟨g, 0, none⟩ : Addr).add j) = some u := by
  subst hg
  intro j u hj
  match j, hj with
  | 0, hj => simp at hj; subst hj; simp [Addr.add, go_sem]
  | 1, hj => simp at hj; subst hj; simp [Addr.add, go_sem]
  | 2, hj => simp at hj; subst hj; simp [Addr.add, go_sem]
  | j + 3, hj => simp at hj
theorem wrap64_nat {n : Nat} (h : n < 9223372036854775808) : wrap64 (n : Int) = (n : Int) := by
  unfold wrap64
  omega
def subN (n : Int) : Bool := inB n 1 64
def SubPost (n : Nat) (w : World) (e : Ending) (w' : World) : Prop :=
  ∃ v : Value, e = .returned (.tuple #[v, .int .i64 0]) ∧ w'.ownsRow w.heap.size 25 3 v (subP n n).length (cellsL3 (subP n n)) ∧ Below w.heap.size w w'

set_option maxHeartbeats 4000000 in
theorem implSub_bad (n : Int) (w : World) (h : subN n = false) :
    Calls Try.prog 34 #[.int .i64 n] w fun e w' => e = .returned (.tuple #[.slice none 0 0, .int .i64 2]) ∧ Below w.heap.size w w' := by
  have hn : n < 1 ∨ 64 < n := by simp [subN, inB] at h; omega
  by_cases h1 : n < 1
  · clear h hn
    go_enter Try.func34, Try.ntmps34
    go_wp2
    go_ret2
    exact ⟨rfl, Below.refl _ _⟩
  · have h2 : 64 < n := by omega
    clear h hn
    go_enter Try.func34, Try.ntmps34
    go_wp2
    go_ret2
    exact ⟨rfl, Below.refl _ _⟩

set_option maxHeartbeats 4000000 in
theorem implSub_good (n : Nat) (w : World) (h : subN n = true) :
    Calls Try.prog 34 #[.int .i64 n] w (SubPost n w) := by
  have hn : 1 ≤ n ∧ n ≤ 64 := by simp [subN, inB] at h; omega
  obtain ⟨hn1, hn2⟩ := hn
  have h' : inB (n : Int) 1 64 = true := h
  have H := Lib.hid h'
  have HN1 := Lib.hid hn1
  have HN2 := Lib.hid hn2
  have g1 : ¬ ((n : Int) < 1) := by omega
  have g2 : ¬ (64 < (n : Int)) := by omega
  clear h h' hn1 hn2
  obtain ⟨i0, hi, hz0, hz1, hz2⟩ := info_parts infoLat
  go_enter Try.func34, Try.ntmps34
  go_wp2_with fail
  go_loopw [4, 5] (fun v i W => ∃ (a : Nat), i = .int .i64 (a : Int) ∧ 1 ≤ a ∧ a ≤ n + 1 ∧ W.ownsRow w.heap.size 25 3 v (subP n (a - 1)).length (cellsL3 (subP n (a - 1))) ∧ Below w.heap.size w W) (fun _ i _ => n + 1 - (intOf i).toNat)
  case atStart => exact ⟨1, rfl, by omega, by omega, World.ownsRow_nil _ _ _ _, Below.refl _ _⟩
  case round =>
    obtain ⟨a, rfl, ha1, ha2, hown, hB⟩ := hrel
    have hn1 := HN1.out
    have hn2 := HN2.out
    have hlen := Lib.hid (subP_len n (a - 1) (by omega))
    by_cases ha3 : a ≤ n
    · have ha4 : (a : Int) ≤ (n : Int) := by omega
      have ha0 : ¬ ((a : Int) = 0) := by omega
      have hr1 : (n : Int).tmod (a : Int) = ((n % a : Nat) : Int) := rfl
      have hr2 : (n : Int).tdiv (a : Int) = ((n / a : Nat) : Int) := rfl
      have hd : n / a ≤ 64 := Nat.le_trans (Nat.div_le_self _ _) hn2
      have hq : wrap64 ((n : Int) / (a : Int)) = ((n / a : Nat) : Int) := by rw [← Int.natCast_ediv]; exact wrap64_nat (by omega)
      have HQ := Lib.hid hq
      clear hq
      by_cases hm : n % a = 0
      · rw [hm] at hr1
        have HM := Lib.hid hm
        have HS := Lib.hid (subP_succ n (a - 1))
        have HA := Lib.hid (show 1 ≤ n ∧ n ≤ 64 ∧ 1 ≤ a ∧ a ≤ n from ⟨hn1, hn2, ha1, ha3⟩)
        clear hm ha1 ha2 ha3 hn1 hn2 hd
        go_wp2_with fail
        go_loopw [4, 23] (fun v i W => ∃ (j : Nat), i = .int .i64 (j : Int) ∧ j ≤ a ∧ W.ownsRow w.heap.size 25 3 v (subP n (a - 1) ++ subRow n a j).length (cellsL3 (subP n (a - 1) ++ subRow n a j)) ∧ Below w.heap.size w W) (fun _ i _ => a - (intOf i).toNat)
        case atStart => exact ⟨0, rfl, by omega, by simpa [subRow] using hown, hB⟩
        case round =>
          obtain ⟨j, rfl, hj, hown, hB⟩ := hrel
          obtain ⟨hn1, hn2, ha1, ha3⟩ := HA.out
          have hlen2 : (subP n (a - 1) ++ subRow n a j).length ≤ 64 * 64 := by have := hlen.out; rw [List.length_append, subRow_len]; omega
          by_cases hj1 : j < a
          · have hj2 : (j : Int) < (a : Int) := by omega
            go_wp2_with (at_builtin; refine wpList_append_own _ rfl _ _ 47 rfl w.heap.size 25 i0 (.agg #[.int .i64 0, .int .i64 0, .int .i64 0]) 3 24 Try.underlying47 hi hz0 hz1 hz2 rfl (by decide) _ _ _ rfl (hown.alloc _) ⟨wr.heap.size, 0, none⟩ 1 1 [.int .i64 (a : Int), .int .i64 (j : Int), .int .i64 ((n / a : Nat) : Int)] rfl rfl ?c1 ?c2 ?c3 ?c4 ?c5 ?_)
            case c1 =>
              rw [HQ.out]
              exact new_three _ _ _ _ rfl
            case c2 => exact one_three
            case c3 => unfold maxLen; omega
            case c4 => omega
            case c5 => have := hB.size; simp; omega
            intro v' w2 hown' hgrow _
            have B2 : Below w.heap.size w w2 := Below.grown (Below.alloc hB hB.size _) hgrow (by have := hB.size; simp; omega) (fun k hk => by have := (hown.lt k hk).1; omega)
            have hown2 : w2.ownsRow w.heap.size 25 3 v' (subP n (a - 1) ++ subRow n a (j + 1)).length (cellsL3 (subP n (a - 1) ++ subRow n a (j + 1))) := by rw [subRow_succ, ← List.append_assoc]; exact own_next3 (by simpa using hown')
            clear hown hB hgrow hown' hlen2
            go_wp2
            go_roundw
            case rel => exact ⟨j + 1, by go_num, by omega, hown2, B2⟩
            case measure => first | (simp [intOf]; done) | (simp [intOf]; omega)
          · obtain rfl : j = a := by omega
            have hown2 : wr.ownsRow w.heap.size 25 3 u4 (subP n (j + 1 - 1)).length (cellsL3 (subP n (j + 1 - 1))) := by
              have h1 := HS.out
              rw [show j - 1 + 1 = j by omega, HM.out, if_pos rfl] at h1
              rw [show j + 1 - 1 = j by omega, h1]
              exact hown
            have B2 := hB
            clear hown hB hlen2
            go_wp2
            go_roundw
            case rel => exact ⟨j + 1, by go_num, by omega, by omega, hown2, B2⟩
            case measure => first | (simp [intOf]; done) | (simp [intOf]; omega)
      · have hr3 : ¬ (((n % a : Nat) : Int) = 0) := by omega
        have hown2 : wr.ownsRow w.heap.size 25 3 u4 (subP n (a + 1 - 1)).length (cellsL3 (subP n (a + 1 - 1))) := by
          have h1 := subP_succ n (a - 1)
          rw [show a - 1 + 1 = a by omega, if_neg hm, List.append_nil] at h1
          rw [show a + 1 - 1 = a by omega, h1]
          exact hown
        have B2 := hB
        have HA := Lib.hid (show 1 ≤ n ∧ n ≤ 64 ∧ 1 ≤ a ∧ a ≤ n from ⟨hn1, hn2, ha1, ha3⟩)
        have hr5 : ((n % a : Nat) : Int) ≤ 64 := by have := Nat.mod_lt n (show a > 0 by omega); omega
        have hr6 : 0 ≤ ((n % a : Nat) : Int) := by omega
        have ha5 : (a : Int) ≤ 64 := by omega
        clear g1 g2
        clear hown hB hm ha1 ha2 ha3 hn1 hn2 hd hlen hr2 HQ
        generalize ((n % a : Nat) : Int) = r at hr1 hr3 hr5 hr6
        have hr7 : (r != 0) = true := by simpa using hr3
        go_wp2
        obtain ⟨hn1, hn2, ha1, ha3⟩ := HA.out
        go_roundw
        case rel => exact ⟨a + 1, by go_num, by omega, by omega, hown2, B2⟩
        case measure => first | (simp [intOf]; done) | (simp [intOf]; omega)
    · obtain rfl : a = n + 1 := by omega
      rw [show n + 1 - 1 = n by omega] at hown
      clear hlen H HN1 HN2 hn1 hn2 ha1 ha2 ha3
      have g3 : ¬ (((n + 1 : Nat) : Int) ≤ (n : Int)) := by omega
      generalize n + 1 = a at *
      go_wp2
      go_ret2
      exact ⟨_, rfl, hown, hB⟩

set_option maxHeartbeats 4000000 in
theorem specSub_bad (n : Int) (w : World) (h : subN n = false) :
    Calls Try.prog 35 #[.int .i64 n] w fun e w' => e = .returned (.tuple #[.slice none 0 0, .int .i64 2]) ∧ Below w.heap.size w w' := by
  have h' : inB n 1 64 = false := h
  clear h
  have H := Lib.hid h'
  clear h'
  go_enter Try.func35, Try.ntmps35
  go_wp2_with fail
  refine (l01In_any _ _ _ _).mono ?_
  rintro e w1 ⟨rfl, rfl⟩
  rw [H.out]
  go_wp2
  go_ret2
  exact ⟨rfl, Below.refl _ _⟩

set_option maxHeartbeats 4000000 in
theorem specSub_good (n : Nat) (w : World) (h : subN n = true) :
    Calls Try.prog 35 #[.int .i64 n] w (SubPost n w) := by
  have hn : 1 ≤ n ∧ n ≤ 64 := by simp [subN, inB] at h; omega
  obtain ⟨hn1, hn2⟩ := hn
  have h' : inB (n : Int) 1 64 = true := h
  have H := Lib.hid h'
  have HN1 := Lib.hid hn1
  have HN2 := Lib.hid hn2
  skip
  skip
  clear h h' hn1 hn2
  obtain ⟨i0, hi, hz0, hz1, hz2⟩ := info_parts infoLat
  go_enter Try.func35, Try.ntmps35
  go_wp2_with fail
  refine (l01In_any _ _ _ _).mono ?_
  rintro e w1 ⟨rfl, rfl⟩
  rw [H.out]
  go_wp2_with fail
  go_loopw [4, 5] (fun v i W => ∃ (a : Nat), i = .int .i64 (a : Int) ∧ 1 ≤ a ∧ a ≤ n + 1 ∧ W.ownsRow w.heap.size 25 3 v (subP n (a - 1)).length (cellsL3 (subP n (a - 1))) ∧ Below w.heap.size w W) (fun _ i _ => n + 1 - (intOf i).toNat)
  case atStart => exact ⟨1, rfl, by omega, by omega, World.ownsRow_lit w #[] 0 (Nat.le_refl _) (by unfold maxLen; omega) rfl, (Below.refl _ _).alloc (Nat.le_refl _) _⟩
  case round =>
    obtain ⟨a, rfl, ha1, ha2, hown, hB⟩ := hrel
    have hn1 := HN1.out
    have hn2 := HN2.out
    have hlen := Lib.hid (subP_len n (a - 1) (by omega))
    by_cases ha3 : a ≤ n
    · have ha4 : (a : Int) ≤ (n : Int) := by omega
      have ha0 : ¬ ((a : Int) = 0) := by omega
      have hr1 : (n : Int).tmod (a : Int) = ((n % a : Nat) : Int) := rfl
      have hr2 : (n : Int).tdiv (a : Int) = ((n / a : Nat) : Int) := rfl
      have hd : n / a ≤ 64 := Nat.le_trans (Nat.div_le_self _ _) hn2
      have hq : wrap64 ((n : Int) / (a : Int)) = ((n / a : Nat) : Int) := by rw [← Int.natCast_ediv]; exact wrap64_nat (by omega)
      have HQ := Lib.hid hq
      clear hq
      by_cases hm : n % a = 0
      · rw [hm] at hr1
        have HM := Lib.hid hm
        have HS := Lib.hid (subP_succ n (a - 1))
        have HA := Lib.hid (show 1 ≤ n ∧ n ≤ 64 ∧ 1 ≤ a ∧ a ≤ n from ⟨hn1, hn2, ha1, ha3⟩)
        clear hm ha1 ha2 ha3 hn1 hn2 hd
        go_wp2_with fail
        go_loopw [4, 6] (fun v i W => ∃ (j : Nat), i = .int .i64 (j : Int) ∧ j ≤ a ∧ W.ownsRow w.heap.size 25 3 v (subP n (a - 1) ++ subRow n a j).length (cellsL3 (subP n (a - 1) ++ subRow n a j)) ∧ Below w.heap.size w W) (fun _ i _ => a - (intOf i).toNat)
        case atStart => exact ⟨0, rfl, by omega, by simpa [subRow] using hown, hB⟩
        case round =>
          obtain ⟨j, rfl, hj, hown, hB⟩ := hrel
          obtain ⟨hn1, hn2, ha1, ha3⟩ := HA.out
          have hlen2 : (subP n (a - 1) ++ subRow n a j).length ≤ 64 * 64 := by have := hlen.out; rw [List.length_append, subRow_len]; omega
          by_cases hj1 : j < a
          · have hj2 : (j : Int) < (a : Int) := by omega
            go_wp2_with (at_builtin; refine wpList_append_own _ rfl _ _ 47 rfl w.heap.size 25 i0 (.agg #[.int .i64 0, .int .i64 0, .int .i64 0]) 3 24 Try.underlying47 hi hz0 hz1 hz2 rfl (by decide) _ _ _ rfl (hown.alloc _) ⟨wr.heap.size, 0, none⟩ 1 1 [.int .i64 (a : Int), .int .i64 (j : Int), .int .i64 ((n / a : Nat) : Int)] rfl rfl ?c1 ?c2 ?c3 ?c4 ?c5 ?_)
            case c1 =>
              rw [HQ.out]
              exact new_three _ _ _ _ rfl
            case c2 => exact one_three
            case c3 => unfold maxLen; omega
            case c4 => omega
            case c5 => have := hB.size; simp; omega
            intro v' w2 hown' hgrow _
            have B2 : Below w.heap.size w w2 := Below.grown (Below.alloc hB hB.size _) hgrow (by have := hB.size; simp; omega) (fun k hk => by have := (hown.lt k hk).1; omega)
            have hown2 : w2.ownsRow w.heap.size 25 3 v' (subP n (a - 1) ++ subRow n a (j + 1)).length (cellsL3 (subP n (a - 1) ++ subRow n a (j + 1))) := by rw [subRow_succ, ← List.append_assoc]; exact own_next3 (by simpa using hown')
            clear hown hB hgrow hown' hlen2
            go_wp2
            go_roundw
            case rel => exact ⟨j + 1, by go_num, by omega, hown2, B2⟩
            case measure => first | (simp [intOf]; done) | (simp [intOf]; omega)
          · obtain rfl : j = a := by omega
            have hown2 : wr.ownsRow w.heap.size 25 3 u4 (subP n (j + 1 - 1)).length (cellsL3 (subP n (j + 1 - 1))) := by
              have h1 := HS.out
              rw [show j - 1 + 1 = j by omega, HM.out, if_pos rfl] at h1
              rw [show j + 1 - 1 = j by omega, h1]
              exact hown
            have B2 := hB
            clear hown hB hlen2
            go_wp2
            go_roundw
            case rel => exact ⟨j + 1, by go_num, by omega, by omega, hown2, B2⟩
            case measure => first | (simp [intOf]; done) | (simp [intOf]; omega)
      · have hr3 : ¬ (((n % a : Nat) : Int) = 0) := by omega
        have hown2 : wr.ownsRow w.heap.size 25 3 u4 (subP n (a + 1 - 1)).length (cellsL3 (subP n (a + 1 - 1))) := by
          have h1 := subP_succ n (a - 1)
          rw [show a - 1 + 1 = a by omega, if_neg hm, List.append_nil] at h1
          rw [show a + 1 - 1 = a by omega, h1]
          exact hown
        have B2 := hB
        have HA := Lib.hid (show 1 ≤ n ∧ n ≤ 64 ∧ 1 ≤ a ∧ a ≤ n from ⟨hn1, hn2, ha1, ha3⟩)
        have hr5 : ((n % a : Nat) : Int) ≤ 64 := by have := Nat.mod_lt n (show a > 0 by omega); omega
        have hr6 : 0 ≤ ((n % a : Nat) : Int) := by omega
        have ha5 : (a : Int) ≤ 64 := by omega
        clear hown hB hm ha1 ha2 ha3 hn1 hn2 hd hlen hr2 HQ
        generalize ((n % a : Nat) : Int) = r at hr1 hr3 hr5 hr6
        have hr7 : (r != 0) = true := by simpa using hr3
        go_wp2_with fail
        go_loopw [4, 6] (fun v i W => i = .int .i64 ((0 : Nat) : Int) ∧ v = u4 ∧ W = wr) (fun _ i _ => 0)
        case atStart => exact ⟨rfl, rfl, rfl⟩
        case round =>
          obtain ⟨rfl, rfl, rfl⟩ := hrel
          go_wp2
          obtain ⟨hn1, hn2, ha1, ha3⟩ := HA.out
          go_roundw
          case rel => exact ⟨a + 1, by go_num, by omega, by omega, hown2, B2⟩
          case measure => first | (simp [intOf]; done) | (simp [intOf]; omega)
    · obtain rfl : a = n + 1 := by omega
      rw [show n + 1 - 1 = n by omega] at hown
      clear hlen H HN1 HN2 hn1 hn2 ha1 ha2 ha3
      have g3 : ¬ (((n + 1 : Nat) : Int) ≤ (n : Int)) := by omega
      generalize n + 1 = a at *
      go_wp2
      go_ret2
      exact ⟨_, rfl, hown, hB⟩

end Go.Proofs.Ytlalibefmnenjaa
