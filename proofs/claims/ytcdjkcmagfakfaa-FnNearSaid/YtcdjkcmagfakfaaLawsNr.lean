/-
  The walk of FnNear: it returns true and writes nothing that was there. Condition: the code's bytes can be read.
-/
import Derived.Test.YtcdjkcmagfakfaaFrNear
import Derived.Test.YtcdjkcmagfakfaaFrP
import Derived.Test.YtcdjkcmagfakfaaSl2
import Derived.Test.YtcdjkcmagfakfaaLike9
import Derived.Test.YtcdjkcmagfakfaaDrawNr
import Derived.Deep.QuietTactic
import Derived.ProofKit
import Derived.OpenShut
namespace Go.Proofs.Ytcdjkcmagfakfaa
open Go.RowKit Go.ChangeShapes Go.WideShapes Go.ChangeAt
set_option linter.unusedSimpArgs false
set_option linter.unusedVariables false

theorem cells2_get9 : ∀ (xs : List (Int × Int)) (i : Nat) (h : i < xs.length), (cells2 xs)[i * 2]? = some (.int .i64 xs[i].1) ∧ (cells2 xs)[i * 2 + 1]? = some (.int .i64 xs[i].2)
  | [], i, h => by simp at h
  | t :: xs, 0, _ => by simp [cells2]
  | t :: xs, i + 1, h => by
    have ih := cells2_get9 xs i (by simpa using h)
    have e : ∀ k, (cells2 (t :: xs))[k + 2]? = (cells2 xs)[k]? := fun k => by simp [cells2]
    rw [show (i + 1) * 2 = i * 2 + 2 by omega, show i * 2 + 2 + 1 = (i * 2 + 1) + 2 by omega, e, e]
    simpa using ih
theorem at29 {xs : List (Int × Int)} {i : Nat} (h : i < xs.length) : intAt (cells2 xs) (i * 2) = xs[i].1 ∧ intAt (cells2 xs) (i * 2 + 1) = xs[i].2 := by
  obtain ⟨h1, h2⟩ := cells2_get9 xs i h
  exact ⟨by simp [intAt, h1], by simp [intAt, h2]⟩
def inList (L : List (Int × Int)) (x y : Int) : Bool := decide ((x, y) ∈ L)
theorem inList_hit {L : List (Int × Int)} {x y : Int} {k : Nat} (hk : k < L.length) (h1 : L[k].1 = x) (h2 : L[k].2 = y) : inList L x y = true := by
  refine decide_eq_true ?_
  have : L[k] = (x, y) := by rw [← h1, ← h2]
  rw [← this]
  exact List.getElem_mem hk
theorem inList_miss {L : List (Int × Int)} {x y : Int} (h : ∀ k (hk : k < L.length), L[k] ≠ (x, y)) : inList L x y = false := by
  refine decide_eq_false ?_
  intro hm
  obtain ⟨k, hk, e⟩ := List.getElem_of_mem hm
  exact h k hk e
set_option maxRecDepth 100000 in
set_option maxHeartbeats 8000000 in
theorem hasVec9_any {lo hi : Nat} {v : Value} {L : List (Int × Int)} {w : World} (x y : Int) (h1 : SRow lo hi 2 v L.length (intAt (cells2 L)) w) :
    Calls Try.prog 33 #[v, .agg #[.int .i64 x, .int .i64 y]] w fun e w' => e = .returned (.bool (inList L x y)) ∧ Below w.heap.size w w' := by
  obtain ⟨_, hm, h1⟩ := h1
  have hm' : (L.length : Int) ≤ 1000000 := by omega
  by_cases hn : L.length = 0
  · obtain ⟨ao, cap, rfl⟩ : ∃ ao cap, v = .slice ao 0 cap := by
      rcases h1 with ⟨_, ao, cap, rfl⟩ | ⟨g, cap, rfl, _⟩
      · exact ⟨ao, cap, rfl⟩
      · exact ⟨_, cap, by rw [hn]⟩
    have HF := Lib.hid (inList_miss (L := L) (x := x) (y := y) (fun k hk => by omega))
    clear h1 hm hm' hn
    go_enter Try.func33, Try.ntmps33
    go_wp2_with fail
    go_loopw [5] (fun i W => i = .int .i64 ((0 : Nat) : Int) ∧ Below w.heap.size w W) (fun _ _ => 0)
    case atStart => exact ⟨rfl, (Below.refl _ _).alloc (Nat.le_refl _) _⟩
    case round =>
      obtain ⟨rfl, hB⟩ := hrel
      go_wp2
      go_ret
      exact ⟨ret_bool HF.out.symm, hB⟩
  · obtain ⟨g, cap, rfl, _, _, r1⟩ := h1.resolve_left (fun h => hn h.1)
    have HR := Lib.hid r1
    have HM := Lib.hid hm
    clear h1 r1 hn hm
    go_enter Try.func33, Try.ntmps33
    go_wp2_with fail
    go_loopw [5] (fun i W => ∃ k : Nat, i = .int .i64 (k : Int) ∧ k ≤ L.length ∧ Hid (∀ j (hj : j < L.length), j < k → L[j] ≠ (x, y)) ∧ Kg w.heap.size x y W ∧ Below w.heap.size w W) (fun i _ => L.length - (intOf i).toNat)
    case atStart => exact ⟨0, rfl, by omega, fun j hj h => by omega, Kg.at2 _ rfl, (Below.refl _ _).alloc (Nat.le_refl _) _⟩
    case round =>
      obtain ⟨k, rfl, hk, hN, hK, hB⟩ := hrel
      by_cases hk1 : k < L.length
      · have hk2 : (k : Int) < (L.length : Int) := by omega
        have hk3 : (0 : Int) ≤ (k : Int) := by omega
        have q1 := (HR.out.grow hB HR.out.1).ko2 (k * 2) (by omega)
        rw [(at29 hk1).1, (at29 hk1).2] at q1
        have HH := Lib.hid (fun (h1 : L[k].1 = x) (h2 : L[k].2 = y) => inList_hit hk1 h1 h2)
        have HQ := Lib.hid (show ∀ (hne : L[k] ≠ (x, y)), ∀ j (hj : j < L.length), j < k + 1 → L[j] ≠ (x, y) from fun hne j hj hjk => by
          by_cases c : j = k
          · subst c; exact hne
          · exact hN.out j hj (by omega))
        have HK := Lib.hid hk1
        generalize hp : L[k] = pq at q1 HH HQ
        obtain ⟨a, b⟩ := pq
        simp only at q1 HH
        obtain ⟨q10, q11, q12⟩ := id q1
        obtain ⟨k0, k1, k2⟩ := id hK
        clear hk hk1 hp q1
        rcases e1 : (a == x) with _ | _
        · have HE := Lib.hid (HQ.out (fun e => by rw [Prod.mk.injEq] at e; simp [e.1] at e1))
          go_wp2_with fail
          go_quiet (fail)
          go_wp2
          have hk1 := HK.out
          go_roundw
          case rel => exact ⟨k + 1, by go_num, by omega, HE.out, hK.call (below_drewN (Below.refl _ _) _), below_drewN hB _⟩
          case measure => first | (simp [intOf]; done) | (simp [intOf]; omega)
        rcases e2 : (b == y) with _ | _
        · have HE := Lib.hid (HQ.out (fun e => by rw [Prod.mk.injEq] at e; simp [e.2] at e2))
          go_wp2_with fail
          go_quiet (fail)
          go_wp2
          have hk1 := HK.out
          go_roundw
          case rel => exact ⟨k + 1, by go_num, by omega, HE.out, hK.call (below_drewN (Below.refl _ _) _), below_drewN hB _⟩
          case measure => first | (simp [intOf]; done) | (simp [intOf]; omega)
        · have HE := Lib.hid (HH.out (by simpa using e1) (by simpa using e2))
          go_wp2_with fail
          go_quiet (fail)
          go_wp2
          go_ret
          exact ⟨ret_bool HE.out.symm, below_drewN hB _⟩
      · obtain rfl : k = L.length := by omega
        have HE := Lib.hid (inList_miss (fun j hj => hN.out j hj hj))
        clear hk hk1
        go_wp2
        go_ret
        exact ⟨ret_bool HE.out.symm, hB⟩
theorem near_iff {f n x y : Int} (hf : frB f = true) (hn : nrB n = true) : inList (nrL f n) x y = decide (nrmI f x y ≤ n) := by
  obtain ⟨n0, n1⟩ := inB_bd hn
  have e : nrL f n = nearL f n 12 := by simp [nrL, hf, hn]
  unfold inList
  rw [e]
  refine decide_eq_decide.2 ?_
  rw [nearL_mem]
  constructor
  · rintro ⟨_, h⟩; exact h
  · intro h; exact ⟨nrm_box (k := 12) hf (by omega) h (by omega), h⟩
theorem nrL_small9 (f n : Int) : (nrL f n).length ≤ 1000000 := by
  unfold nrL
  rcases frB f && nrB n with _ | _
  · simp
  · have := nearP_len f n 12 (2 * 12 + 1) (2 * 12 + 1)
    exact Nat.le_trans this (by omega)
def IsRow (k : IntKind) (w : World) (a : Option Addr) (len cap : Nat) (zs : List Int) : Prop :=
  (a = none ∧ len = 0 ∧ cap = 0 ∧ zs = []) ∨
  ∃ x, a = some x ∧ len ≤ cap ∧ cap ≤ maxLen ∧ zs.length = cap ∧ (∀ i, i < zs.length → w.cell? (x.add i) = some (.int k (zs.getD i 0))) ∧ ∀ n ∈ zs, (Lit.int k n).wf = true

theorem rowBts {w : World} {a0 : Option Addr} {len cap : Nat} {zs : List Int} (h : IsRow .u8 w a0 len cap zs) : Bts a0 len w.heap.size w := by
  rcases h with ⟨_, h, _, _⟩ | ⟨x, rfl, h1, h2, h3, h4, h5⟩
  · exact .inl h
  · by_cases h0 : len = 0
    · exact .inl h0
    · obtain ⟨b, off, rfl, hc⟩ := ints_at h4 (by omega)
      refine .inr ⟨b, off, rfl, World.block_lt_of_cell? _ _ (hc 0 (by omega)), fun i hi => ?_⟩
      have hb := bounds_u8 (h5 (zs.getD i 0) (by
        rw [List.getD_eq_getElem?_getD, List.getElem?_eq_getElem (by omega)]
        exact List.getElem_mem _))
      exact ⟨_, hb.1, hb.2, hc i (by omega)⟩

set_option maxRecDepth 100000 in
set_option maxHeartbeats 16000000 in
theorem walkFnNear (a0 : Option Addr) (len cap : Nat) (zs : List Int) (w : World) (w0 : IsRow .u8 w a0 len cap zs) :
    Calls Try.prog 4 #[.slice a0 len cap] w fun e w' => e = .returned (.bool true) ∧ Below w.heap.size w w' := by
  by_cases hbig : 4096 < len
  · have hb1 : (4096 : Int) < (len : Int) := by omega
    have hb2 : len ≤ 9223372036854775807 := by
      rcases w0 with ⟨_, h, _, _⟩ | ⟨x, rfl, h1, h2, h3, h4, h5⟩
      · omega
      · unfold maxLen at h2; omega
    go_enter Try.func4, Try.ntmps4
    go_wp2
    go_ret
    exact ⟨rfl, Below.refl _ _⟩
  have hB := rowBts w0
  have hl : len ≤ 4096 := by omega
  clear w0
  go_enter Try.func4, Try.ntmps4
  go_wp2_with (go_at_call 15; go_in)
  refine (drawNear_any a0 len cap _ (by omega) (hB.grow (Below.refl _ _) (by first | omega | (simp <;> omega)))).mono ?_
  rintro e w1 ⟨f, n, rfl, hb1⟩
  have B1 : Below w.heap.size w w1 := bstep (Below.refl _ _) hb1
  clear hb1
  have hsm := nrL_small9 f n
  go_wp2_with fail
  refine (implNear_any f n _).mono ?_
  rintro e w2 ⟨v2, rfl, s2, b2⟩
  have B2 := bstep B1 b2
  clear B1 b2
  go_wp2_with fail
  refine (specNear_any f n _).mono ?_
  rintro e w3 ⟨v3, rfl, s3, b3⟩
  have t2 := s2.call b3
  have B3 := bstep B2 b3
  clear s2 B2 b3
  go_wp2_with fail
  refine (likeVecs9_any t2 s3).mono ?_
  rintro e w4 ⟨rfl, b4⟩
  have u2 := t2.call b4
  have B4 := bstep B3 b4
  clear t2 s3 B3 b4 hsm
  rcases hf : frB f with _ | _
  · have hc : nrC f n = 1 := by simp [nrC, hf]
    rw [hc]
    go_wp2
    go_ret
    exact ⟨rfl, B4⟩
  rcases hn : nrB n with _ | _
  · have hc : nrC f n = 2 := by simp [nrC, hf, hn]
    rw [hc]
    go_wp2
    go_ret
    exact ⟨rfl, B4⟩
  have hc : nrC f n = 0 := by simp [nrC, hf, hn]
  have HF := Lib.hid hf
  have HN := Lib.hid hn
  rw [hc]
  clear hc hf hn
  go_wp2_with fail
  refine (roll_any a0 len cap 401 _ (by omega) (hB.grow B4 B4.size)).mono ?_
  rintro e w5 ⟨rfl, D5, b5⟩
  have u5 := u2.call b5
  have B5 := bstep B4 b5
  have P1 := B4.size
  have P2 := u2.1
  clear u2 B4 b5
  generalize w4.heap.size = p at D5 P1 P2
  have D5' := D5
  have P3 := D5.lt
  go_wp2_with fail
  refine (below_any p a0 len cap _ (by repeat (first | exact D5' | refine Dice.call ?_ ((Below.refl _ _).alloc (Nat.le_refl _) _)))).mono ?_
  rintro e w6 ⟨x, rfl, ⟨x0, x1⟩, D6, b6⟩
  have u6 := (u5.grow (by repeat (first | exact Below.refl _ _ | refine Below.alloc ?_ (by first | omega | (simp; omega)) _)) P2).grow b6 P2
  have B6 := (show Below w.heap.size w _ by repeat (first | exact B5 | refine Below.alloc ?_ (by first | omega | (simp; omega)) _)).trans (b6.mono P1)
  clear D5 D5' u5 B5 b6
  go_wp2_with fail
  refine (below_any p a0 len cap _ (by repeat (first | exact D6 | refine Dice.call ?_ ((Below.refl _ _).alloc (Nat.le_refl _) _)))).mono ?_
  rintro e w7 ⟨y, rfl, ⟨y0, y1⟩, D7, b7⟩
  have u7 := u6.grow b7 P2
  have B7 := B6.trans (b7.mono P1)
  clear D6 D7 u6 B6 b7
  have E1 : IntKind.i64.wrap (x - 7) = x - 7 := IntWalk.i64_in _ (by omega)
  have E2 : IntKind.i64.wrap (y - 7) = y - 7 := IntWalk.i64_in _ (by omega)
  have hvB : vecB (x - 7) (y - 7) = true := decide_eq_true (by omega)
  have HI := Lib.hid (near_iff (x := x - 7) (y := y - 7) HF.out HN.out)
  have HT := Lib.hid (show norT f (x - 7) (y - 7) = .tuple #[.int .i64 (nrmI f (x - 7) (y - 7)), .int .i64 0] by unfold norT norR; rw [HF.out, hvB]; rfl)
  go_wp2_with fail
  have HV : Hid (∀ W, SRow w1.heap.size w2.heap.size 2 v2 (nrL f n).length (intAt (cells2 (nrL f n))) W → Calls Try.prog 33 #[v2, .agg #[.int .i64 (x - 7), .int .i64 (y - 7)]] W fun e w' => e = .returned (.bool (decide (nrmI f (x - 7) (y - 7) ≤ n))) ∧ Below W.heap.size W w') := Lib.hid (by
    intro W h
    rw [← HI.out]
    exact hasVec9_any _ _ h)
  refine (implNormOf_any f (x - 7) (y - 7) _).mono ?_
  rintro e w8 ⟨rfl, b8⟩
  have K8 : Kg w7.heap.size (x - 7) (y - 7) w8 := (Kg.at2 _ rfl).call b8
  have u8 := (u7.call ((Below.refl _ _).alloc (Nat.le_refl _) _)).call b8
  have B8 := bstep (B7.alloc B7.size _) b8
  rw [HT.out]
  generalize w7.heap.size = q at K8
  clear u7 B7 b8 HI HT hvB E1 E2 HF HN hB
  generalize x - 7 = x' at *
  generalize y - 7 = y' at *
  generalize nrmI f x' y' = nv at *
  generalize hF : intAt (cells2 (nrL f n)) = F at *
  generalize hN : (nrL f n).length = N at *
  obtain ⟨k0, k1, k2⟩ := id K8
  clear hF hN P1 P2 P3 x0 x1 y0 y1
  by_cases hle : nv ≤ n
  · have hd : decide (nv ≤ n) = true := decide_eq_true hle
    rw [hd] at HV
    go_wp2_with fail
    refine (HV.out _ u8).mono ?_
    rintro e w9 ⟨rfl, b9⟩
    have B9 := bstep B8 b9
    clear b9 B8 u8 K8
    go_wp2
    go_ret
    exact ⟨rfl, B9⟩
  · have hd : decide (nv ≤ n) = false := decide_eq_false hle
    rw [hd] at HV
    go_wp2_with fail
    refine (HV.out _ u8).mono ?_
    rintro e w9 ⟨rfl, b9⟩
    have B9 := bstep B8 b9
    clear b9 B8 u8 K8
    go_wp2
    go_ret
    exact ⟨rfl, B9⟩
end Go.Proofs.Ytcdjkcmagfakfaa
