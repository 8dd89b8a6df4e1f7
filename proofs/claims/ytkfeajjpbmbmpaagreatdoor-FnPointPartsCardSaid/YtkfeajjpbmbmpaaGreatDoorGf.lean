/-
  Several of my texts in one: Gcd2, Tail, Span, Herm, Lat3, Ops, Lat4.
-/
import Derived.Test.YtkfeajjpbmbmpaaGreatDoorGa
import Derived.Test.YtkfeajjpbmbmpaaGreatDoorProg
import Derived.StillTail
import Derived.Deep.RegionHeld3
import Derived.Test.YtkfeajjpbmbmpaaGreatDoorGb
import Derived.Test.YtkfeajjpbmbmpaaGreatDoorGc
namespace Go.Proofs.YtkfeajjpbmbmpaaGreatDoor
section
open Go.RowKit

set_option maxHeartbeats 1000000 in
theorem greatestBig_any (a b : Int) (w : World) (ha : -2000000000000000000 ≤ a) (ha' : a ≤ 2000000000000000000) (hb : -2000000000000000000 ≤ b) (hb' : b ≤ 2000000000000000000) :
    Calls Tryz.prog 275 #[.int .i64 a, .int .i64 b] w fun e w' => e = .returned (.int .i64 (gcdI a b)) ∧ Below w.heap.size w w' := by
  go_enter Tryz.func275, Tryz.ntmps275
  go_wp2_with fail
  go_loopw [0, 1] (fun s t W => ∃ x y : Int, s = .int .i64 x ∧ t = .int .i64 y ∧ -2000000000000000000 ≤ x ∧ x ≤ 2000000000000000000 ∧ -2000000000000000000 ≤ y ∧ y ≤ 2000000000000000000 ∧ Hid (gcdI x y = gcdI a b) ∧ Below w.heap.size w W) (fun _ t _ => (intOf t).natAbs)
  case atStart => exact ⟨a, b, rfl, rfl, ha, ha', hb, hb', rfl, Below.refl _ _⟩
  case round =>
    obtain ⟨x, y, rfl, rfl, hx, hx', hy, hy', hg, hB⟩ := hrel
    by_cases h0 : y = 0
    · subst h0
      have hm := gcdI_zero x
      have HM := Lib.hid hm
      clear hm
      go_wp2
      all_goals
        go_ret
        exact ⟨ret_int (by rw [← hg.out, HM.out]; omega), hB⟩
    · have h1 : (y != 0) = true := by simp [h0]
      have h2 : (y == 0) = false := by simp [h0]
      go_wp2
      go_quiet (fail)
      go_wp2
      have ht := tmod_lt x y h0
      go_roundw
      case rel => exact ⟨y, x.tmod y, rfl, rfl, hy, hy', by omega, by omega, (gcdI_step x y).trans hg.out, below_drewN hB _⟩
      case measure => simpa [intOf] using ht

set_option maxHeartbeats 1000000 in
theorem divisorBig_any : ∀ (n : Nat) (a b : Int) (w : World), b.natAbs < n → -2000000000000000000 ≤ a → a ≤ 2000000000000000000 → -2000000000000000000 ≤ b → b ≤ 2000000000000000000 →
    Calls Tryz.prog 209 #[.int .i64 a, .int .i64 b] w fun e w' => e = .returned (.int .i64 (gcdI a b)) ∧ w = w' := by
  intro n
  induction n with
  | zero => intro a b w h; omega
  | succ n ih =>
    intro a b w h ha ha' hb hb'
    by_cases h0 : b = 0
    · subst h0
      have HM := Lib.hid (gcdI_zero a)
      clear ih
      go_enter Tryz.func209, Tryz.ntmps209
      go_wp2
      all_goals
        go_ret
        exact ⟨ret_int (by rw [HM.out]; omega), rfl⟩
    · have ht := tmod_lt a b h0
      have IH := Lib.hid (ih b (a.tmod b) w (by omega) hb hb' (by omega) (by omega))
      have HS := Lib.hid (gcdI_step a b)
      have h1 : (b == 0) = false := by simp [h0]
      clear ih ht h
      go_enter Tryz.func209, Tryz.ntmps209
      go_wp2_with fail
      refine (IH.out).mono ?_
      rintro e w1 ⟨rfl, rfl⟩
      go_wp2
      go_ret
      exact ⟨ret_int HS.out, rfl⟩

theorem divisorBigB_any (a b : Int) (w : World) (ha : -2000000000000000000 ≤ a) (ha' : a ≤ 2000000000000000000) (hb : -2000000000000000000 ≤ b) (hb' : b ≤ 2000000000000000000) :
    Calls Tryz.prog 209 #[.int .i64 a, .int .i64 b] w fun e w' => e = .returned (.int .i64 (gcdI a b)) ∧ Below w.heap.size w w' :=
  (divisorBig_any _ a b w (Nat.lt_succ_self _) ha ha' hb hb').mono fun _ _ ⟨he, hw⟩ => ⟨he, hw ▸ Below.refl _ _⟩
end
end Go.Proofs.YtkfeajjpbmbmpaaGreatDoor

namespace Go.Proofs.YtkfeajjpbmbmpaaGreatDoor
section
open Go
set_option linter.unusedVariables false

section
variable {P : Program} {ops : Array Oper} {Q : Exit → Act → World → Prop} {md : Region.Mode} {S : World → Prop} {n : Nat}

def wpAnyT (P : Program) (md : Region.Mode) (ops : Array Oper) (Q : Exit → Act → World → Prop) (S : World → Prop) (n : Nat) : Nat → Array Bool → Act → World → Prop
  | 0, listed, a, w => Region.ready md ops listed = [] ∧ Q .normal a w
  | fuel + 1, listed, a, w =>
    (Region.ready md ops listed = [] → Q .normal a w) ∧
    ∀ i ∈ Region.ready md ops listed, wpOp P ops Q i (fun a' w' => (i < n → S w') ∧ wpAnyT P md ops Q S n fuel (listed.setIfInBounds i true) a' w') a w

theorem wpAny_of_T : ∀ (fuel : Nat) (listed : Array Bool) (a : Act) (w : World), wpAnyT P md ops Q S n fuel listed a w → wpAny P md ops Q fuel listed a w
  | 0, _, _, _, h => h
  | fuel + 1, _, _, _, h => ⟨h.1, fun i hi => wpOp_mono (fun a' w' h' => wpAny_of_T fuel _ a' w' h'.2) (h.2 i hi)⟩

theorem wpAnyT_first {i : Nat} {oi : Oper} {v : Value} (hi : ops[i]? = some oi) (hsel : ∀ (j : Nat) (o : Oper) cs b, ops[j]? = some o → o.op ≠ .select cs b)
    (hs : Region.sinkB md ops n = true) (hc : Region.chainB md ops n = true) (hn : n < ops.size) (hin : i < n)
    (hQ : ∀ c a w, Q (.panic c) (a.put oi.dst v) w → Q (.panic c) a w) :
    ∀ (fuel : Nat) (listed : Array Bool) (a : Act) (w : World), HeadInv md ops n listed →
      (∀ j oj, ops[j]? = some oj → j ≠ i → listed.getD j true = false → (∀ e ∈ oj.after, Region.binds md e = true → e.on ≠ i) → oi.apart ops oj = true) →
      i ∈ Region.ready md ops listed → YieldsIf P ops S oi v a → S w →
      wpAnyT P md ops Q S n fuel (listed.setIfInBounds i true) (a.put oi.dst v) w → wpAnyT P md ops Q S n (fuel + 1) listed a w := by
  intro fuel
  induction fuel with
  | zero =>
    intro listed a w inv _ hr hy hS H
    refine ⟨fun h => (by rw [h] at hr; cases hr), fun j hj => ?_⟩
    by_cases hji : j = i
    · subst hji; exact hy.wpOp hi hS ⟨fun _ => hS, H⟩
    · have := ready_mono hj hji
      rw [H.1] at this
      cases this
  | succ fuel ih =>
    intro listed a w inv hfree hr hy hS H
    have hun := (mem_ready.1 hr).1
    refine ⟨fun h => (by rw [h] at hr; cases hr), fun j hj => ?_⟩
    have hjn : j < n := by
      rcases Nat.lt_or_ge j n with h | h
      · exact h
      · exact absurd hj (tail_waits hs hc hn inv _ i rfl hin hun j h)
    by_cases hji : j = i
    · subst hji; exact hy.wpOp hi hS ⟨fun _ => hS, H⟩
    · have h1 := H.2 j (ready_mono hj hji)
      obtain ⟨hjun, oj, hoj, hall⟩ := mem_ready.1 hj
      have hnot : ∀ e ∈ oj.after, Region.binds md e = true → e.on ≠ i := fun e he hb heq => by
        have h1 := hall e he hb
        rw [heq, getD_both hun] at h1
        cases h1
      have h2 := wpOp_putIf hoj (hfree j oj hoj hji hjun hnot) (fun cs b => hsel i oi cs b hi) (fun cs b => hsel j oj cs b hoj) hQ hy h1
      have hfree' : ∀ k ok, ops[k]? = some ok → k ≠ i → (listed.setIfInBounds j true).getD k true = false →
          (∀ e ∈ ok.after, Region.binds md e = true → e.on ≠ i) → oi.apart ops ok = true := fun k ok hk hki hun hno => by
        refine hfree k ok hk hki ?_ hno
        by_cases hjk : j = k
        · subst hjk; exact hjun
        · rw [getD_set_ne true hjk] at hun; exact hun
      refine wpOp_mono (fun a' w' h3 => ⟨fun _ => h3.2.1 hjn, ih (listed.setIfInBounds j true) a' w' (inv.set hj hjn) hfree' (ready_mono hr (Ne.symm hji)) h3.1 (h3.2.1 hjn) ?_⟩) h2
      rw [Array.setIfInBounds_comm _ _ hji]
      exact h3.2.2

theorem at_of_drop {i : Nat} {oi : Oper} {l : List Oper} (h : ops.toList.drop i = oi :: l) : ops[i]? = some oi := by
  have := congrArg (fun l => l[0]?) h
  simpa using this

theorem wpAnyT_take {i : Nat} {oi : Oper} {v : Value} {l : List Oper} {fuel : Nat} {listed : Array Bool} {a : Act} {w : World} (hs : Region.sinkB md ops n = true) (hc : Region.chainB md ops n = true) (hn : n < ops.size)
    (hsel : Region.noSelect ops = true) (inv : HeadInv md ops n listed) (hi' : ops.toList.drop i = oi :: l) (hin : i < n)
    (hf : Region.free md ops listed i = true) (hr : (Region.ready md ops listed).contains i = true)
    (hQ : ∀ c a w, Q (.panic c) (a.put oi.dst v) w → Q (.panic c) a w) (hy : YieldsIf P ops S oi v a) (hS : S w)
    (h : HeadInv md ops n (listed.setIfInBounds i true) → wpAnyT P md ops Q S n fuel (listed.setIfInBounds i true) (a.put oi.dst v) w) : wpAnyT P md ops Q S n (fuel + 1) listed a w :=
  have hi := at_of_drop hi'
  wpAnyT_first hi (Region.noSelect_spec hsel) hs hc hn hin hQ fuel listed a w inv (Region.free_spec hi hf) (by simpa using hr) hy hS (h (inv.set (by simpa using hr) hin))

theorem wpAnyT_one {i : Nat} {o : Oper} {l : List Oper} {fuel : Nat} {listed : Array Bool} {a : Act} {w : World} (hr : Region.ready md ops listed = [i]) (ho : ops.toList.drop i = o :: l)
    (h : ∀ K' : Act → World → Prop, Shut (∀ a w, (i < n → S w) → wpAnyT P md ops Q S n fuel (listed.setIfInBounds i true) a w → K' a w) → if Region.wanted o (yielded ops a.tmps) = true then Oper.wp P o a w K' Q else K' (a.put o.dst undef) w) :
    wpAnyT P md ops Q S n (fuel + 1) listed a w := by
  refine ⟨fun h0 => (by rw [hr] at h0; cases h0), fun j hj => ?_⟩
  rw [hr] at hj
  obtain rfl : j = i := by simpa using hj
  exact wpOp_step (at_of_drop ho) (fun K' hK => h K' (fun a w hS hW => hK a w ⟨hS, hW⟩))

theorem wpAnyT_of_seq : ∀ (l : List Oper) (k : Nat) (listed : Array Bool) (a : Act) (w : World), n ≤ k → (∀ j, l[j]? = ops[k + j]?) →
    Region.seqB md ops l.length k listed = true → wpList P ops Q l a w → wpAnyT P md ops Q S n l.length listed a w
  | [], _, _, _, _, _, _, hB, h => ⟨by simpa [Region.seqB] using hB, h⟩
  | o :: l, k, listed, a, w, hk, hl, hB, h => by
    have h0 : ops[k]? = some o := by simpa using (hl 0).symm
    simp only [List.length_cons, Region.seqB, Bool.and_eq_true, decide_eq_true_eq] at hB
    refine ⟨fun h1 => (by rw [hB.1] at h1; cases h1), fun i hi => ?_⟩
    rw [hB.1] at hi
    have hik : i = k := by simpa using hi
    subst hik
    have hw : wpOp P ops Q i (wpList P ops Q l) a w := by unfold wpOp; simp only [h0]; exact h
    exact wpOp_mono (fun a' w' h' => ⟨fun hlt => absurd hlt (by omega), wpAnyT_of_seq l (i + 1) _ a' w' (by omega) (fun j => by have := hl (j + 1); simpa [Nat.add_assoc, Nat.add_comm 1 j] using this) hB.2 h'⟩) hw

theorem wpAnyT_seq {l : List Oper} {k fuel : Nat} {listed : Array Bool} {a : Act} {w : World} (hk : n ≤ k) (hl : ops.toList.drop k = l) (hf : l.length = fuel)
    (hB : Region.seqB md ops fuel k listed = true) (h : wpList P ops Q l a w) : wpAnyT P md ops Q S n fuel listed a w := by
  subst hf
  exact wpAnyT_of_seq l k listed a w hk (fun j => by rw [← hl]; simp) hB h

theorem headInv_start : HeadInv md ops n (Array.replicate ops.size false) := by
  refine ⟨by simp, fun j oj hj hl => ?_, fun t ht ht' => by simp [ht']⟩
  rw [getD_replicate_false] at hl; cases hl

/-- The beginning. -/
theorem wp_region_T (n : Nat) (S : World → Prop) {id : Nat} {a : Act} {w : World} (hm : P.follows .mixedOrders = true) (hS : S w.drew)
    (h : S w.drew → HeadInv .any ops n (Array.replicate ops.size false) → wpAnyT P .any ops Q S n ops.size (Array.replicate ops.size false) a w.drew) : (Code.region id ops true).wp P Q a w :=
  wp_region_any hm (wpAny_of_T _ _ _ _ (h hS headInv_start))
end
end
end Go.Proofs.YtkfeajjpbmbmpaaGreatDoor

namespace Go.Proofs.YtkfeajjpbmbmpaaGreatDoor
section
open Go.RowKit
set_option linter.unusedSimpArgs false
set_option linter.unusedVariables false

/- the vectors of a list lie in block g -/
def VL (g : Nat) (L : List (Int × Int)) (W : World) : Prop :=
  g < W.heap.size ∧ ∀ (i : Nat) (hi : i < L.length), W.cell? ⟨g, i * 2, none⟩ = some (.int .i64 L[i].1) ∧ W.cell? ⟨g, i * 2 + 1, none⟩ = some (.int .i64 L[i].2)
theorem VL.grow {g B : Nat} {L : List (Int × Int)} {W w1 : World} (h : VL g L W) (hb : Below B W w1) (hg : g < B) : VL g L w1 :=
  ⟨Nat.lt_of_lt_of_le h.1 hb.size, fun i hi => ⟨by rw [hb.cell hg]; exact (h.2 i hi).1, by rw [hb.cell hg]; exact (h.2 i hi).2⟩⟩
theorem VL.call {g : Nat} {L : List (Int × Int)} {W w1 : World} (h : VL g L W) (hb : Below W.heap.size W w1) : VL g L w1 := h.grow hb h.1
def cellAbs (B : Nat) (W : World) : Nat := match W.cell? ⟨B, 1, none⟩ with | some v => (intOf v).natAbs | none => 0
theorem cellAbs_of {B : Nat} {W : World} {y : Int} (h : W.cell? ⟨B, 1, none⟩ = some (.int .i64 y)) : cellAbs B W = y.natAbs := by simp [cellAbs, h, intOf]
theorem KW.pair {R : Nat} {a b : Int} {W : World} (h : KW R a b W) : W.cell? ⟨R, 0, none⟩ = some (.int .i64 a) ∧ W.cell? ⟨R, 1, none⟩ = some (.int .i64 b) := ⟨h.c0, h.c1⟩

set_option maxHeartbeats 4000000 in
theorem timesBig_any (x y n : Int) (w : World) (h1 : bigI (x * n)) (h2 : bigI (y * n)) :
    Calls Tryz.prog 170 #[.agg #[.int .i64 x, .int .i64 y], .int .i64 n] w fun e w' => e = .returned (.agg #[.int .i64 (x * n), .int .i64 (y * n)]) ∧ Below w.heap.size w w' := by
  obtain ⟨a1, a2⟩ := h1
  obtain ⟨a3, a4⟩ := h2
  go_enter Tryz.func170, Tryz.ntmps170
  go_wp2
  refine bodyPost_ret (v := .agg #[.int .i64 (x * n), .int .i64 (y * n)]) (by simp [results, Tryz.results170, go_sem]) rfl ⟨rfl, ?_⟩
  repeat (first | exact Below.refl _ _ | refine Below.setCell ?_ (by first | omega | (simp <;> omega)) _ | refine Below.alloc ?_ (by first | omega | (simp <;> omega)) _ | refine bstep ?_ (by assumption) | refine Below.drew ?_)

set_option maxHeartbeats 4000000 in
theorem plusBig_any (x y x' y' : Int) (w : World) (h1 : bigI (x + x')) (h2 : bigI (y + y')) :
    Calls Tryz.prog 200 #[.agg #[.int .i64 x, .int .i64 y], .agg #[.int .i64 x', .int .i64 y']] w fun e w' => e = .returned (.agg #[.int .i64 (x + x'), .int .i64 (y + y')]) ∧ Below w.heap.size w w' := by
  obtain ⟨a1, a2⟩ := h1
  obtain ⟨a3, a4⟩ := h2
  go_enter Tryz.func200, Tryz.ntmps200
  go_wp2
  refine bodyPost_ret (v := .agg #[.int .i64 (x + x'), .int .i64 (y + y')]) (by simp [results, Tryz.results200, go_sem]) rfl ⟨rfl, ?_⟩
  repeat (first | exact Below.refl _ _ | refine Below.setCell ?_ (by first | omega | (simp <;> omega)) _ | refine Below.alloc ?_ (by first | omega | (simp <;> omega)) _ | refine bstep ?_ (by assumption) | refine Below.drew ?_)

/- one round of Euclid's algorithm in the program's own words -/
theorem round_vals {K : Nat} {px py vx vy : Int} (hK : K ≤ 1100000000000000000) (h : euJ K px py vx vy) (h0 : vy ≠ 0) :
    bigI (vx * -(py.tdiv vy)) ∧ bigI (vy * -(py.tdiv vy)) ∧ bigI (px + vx * -(py.tdiv vy)) ∧ bigI (py + vy * -(py.tdiv vy)) ∧
    px + vx * -(py.tdiv vy) = px - py.tdiv vy * vx ∧ py + vy * -(py.tdiv vy) = py.tmod vy ∧ (-1000 ≤ py.tdiv vy ∧ py.tdiv vy ≤ 1000) := by
  have e1 : px + vx * -(py.tdiv vy) = px - py.tdiv vy * vx := by grind
  have e2 : py + vy * -(py.tdiv vy) = py.tmod vy := by have := Int.tmod_add_mul_tdiv py vy; grind
  have e3 : vx * -(py.tdiv vy) = -(py.tdiv vy * vx) := by grind
  have e4 : vy * -(py.tdiv vy) = py.tmod vy - py := by omega
  obtain ⟨p1, p2⟩ := euJ_prod h
  obtain ⟨n1, n2, n3, n4, n5⟩ := euJ_next h h0
  obtain ⟨j1, j2, j3, j4, j5⟩ := h
  refine ⟨?_, ?_, ?_, ?_, e1, e2, by omega⟩
  · rw [e3]; unfold bigI; omega
  · rw [e4]; unfold bigI; omega
  · rw [e1]; unfold bigI; omega
  · rw [e2]; unfold bigI; omega

set_option maxHeartbeats 4000000 in
theorem spanOf_any (L : List (Int × Int)) (g cap : Nat) (w : World) (hV : VL g L w) (hL : vecsB L) (hn : L.length ≤ 4) (h0 : 0 < (spFold L).2.2) :
    Calls Tryz.prog 254 #[.slice (some ⟨g, 0, none⟩) L.length cap] w fun e w' => e = .returned (.agg #[.int .i64 ((latL L).1), .int .i64 ((latL L).2.1), .int .i64 ((latL L).2.2)]) ∧ Below w.heap.size w w' := by
  have HV := Lib.hid hV
  have HL := Lib.hid hL
  have H0 := Lib.hid h0
  clear hV hL h0
  go_enter Tryz.func254, Tryz.ntmps254
  go_wp2_with fail
  go_loopw [4, 9] (fun f i W => ∃ (k : Nat) (s : Int × Int × Int), i = .int .i64 k ∧ f = .int .i64 s.2.2 ∧ k ≤ L.length ∧ Hid (s = (L.take k).foldl spStep (0, 0, 0)) ∧ Hid (stB (bdL k) s) ∧ KW (w.heap.size + 1) s.1 s.2.1 W ∧ KL w.heap.size 0 0 0 W ∧ Below w.heap.size w W) (fun _ i _ => L.length - (intOf i).toNat)
  case atStart => exact ⟨0, (0, 0, 0), rfl, rfl, Nat.zero_le _, rfl, stB_zero _, KW.at _ (by simp), (KL.at _ rfl).alloc _, Below.alloc (Below.alloc (Below.refl _ _) (Nat.le_refl _) _) (by simp) _⟩
  case round =>
    obtain ⟨k, ⟨sx, sy, f⟩, rfl, rfl, hk, hS, hT, K1, K2, hB⟩ := hrel
    simp only at K1
    by_cases h1 : k < L.length
    · have hk0 : (0 : Int) ≤ (k : Int) := by omega
      have hk1 : (k : Int) < (L.length : Int) := by omega
      have hBs := hB.size
      obtain ⟨c0, c1⟩ := (HV.out.grow hB HV.out.1).2 k h1
      have VB := Lib.hid (HL.out L[k] (List.getElem_mem h1))
      have J0 := Lib.hid (stB_J (bdL_le (by omega)).2 hT.out VB.out.1 VB.out.2)
      have hK : 1001 * bdL k ≤ 1100000000000000000 := by have := (bdL_le (i := k + 1) (by omega)).1; rw [bdL_succ] at this; omega
      have HN := Lib.hid (stB_sp (bdL_le (by omega)).2 hT.out VB.out.1 VB.out.2)
      have HF := Lib.hid (fold_take spStep L k h1 (0, 0, 0))
      rename World => W1
      have fb : f.natAbs ≤ bdL k ∧ 0 ≤ f := ⟨hT.out.2.2.2, hT.out.2.2.1⟩
      have ne : w.heap.size + 1 < W1.heap.size := K1.lt
      clear hT
      generalize L[k] = v at *
      obtain ⟨x, y⟩ := v
      simp only at c0 c1 VB J0 HN HF
      have hB1 : Below w.heap.size w (W1.alloc (.cells #[.int .i64 x, .int .i64 y] 31)) := hB.alloc hBs _
      go_wp2_with fail
      go_loopw [13] (fun _ W => ∃ px py vx vy : Int, Hid (eu px py vx vy = eu sx sy x y) ∧ Hid (euJ (1001 * bdL k) px py vx vy) ∧ KW (w.heap.size + 1) px py W ∧ KW W1.heap.size vx vy W ∧ KL w.heap.size 0 0 0 W ∧ Below w.heap.size w W) (fun _ W => cellAbs W1.heap.size W)
      case atStart => exact ⟨sx, sy, x, y, rfl, J0.out, K1.alloc _, KW.at _ rfl, K2.alloc _, hB1⟩
      case round =>
        clear c0 c1 K1 K2 hB hB1
        obtain ⟨px, py, vx, vy, hE, hJ, KS, KV, KR, BB⟩ := hrel
        obtain ⟨s0, s1, s2, s3, s4⟩ := id KS
        obtain ⟨v0, v1, v2, v3, v4⟩ := id KV
        have sz := BB.size
        have ne1 : ¬ w.heap.size + 1 = W1.heap.size := by omega
        have ne2 : ¬ W1.heap.size = w.heap.size + 1 := by omega
        by_cases h0 : vy = 0
        · subst h0
          have e0 := Lib.hid ((eu_zero px py vx).symm.trans hE.out)
          obtain ⟨f1, f2⟩ := fb
          obtain ⟨_, _, _, j4, j5⟩ := hJ.out
          have e1 : spStep (sx, sy, f) (x, y) = (px, py, gcdI f vx) := by simp [spStep, ← e0.out]
          have E1 := Lib.hid (show (px, py, gcdI f vx) = (L.take (k + 1)).foldl spStep (0, 0, 0) by rw [HF.out, ← hS.out, e1])
          have E2 := Lib.hid (show stB (bdL (k + 1)) (px, py, gcdI f vx) by rw [bdL_succ, ← e1]; exact HN.out)
          clear e1 HN HF VB J0 hJ hE
          go_wp2_with fail
          refine (greatestBig_any f vx _ (by omega) (by omega) (by omega) (by omega)).mono ?_
          rintro e w2 ⟨rfl, hb2⟩
          go_wp2
          go_roundw
          case rel => exact ⟨k + 1, (px, py, gcdI f vx), by go_num, rfl, by omega, E1.out, E2.out, KS.call hb2, KR.call hb2, bstep BB hb2⟩
          case measure => first | (simp [intOf]; done) | (simp [intOf]; omega)
        · have hcA := cellAbs_of v2
          have h0' : (vy != 0) = true := by simp [h0]
          obtain ⟨r1, r2, r3, r4, r5, r6, r7⟩ := round_vals hK hJ.out h0
          have R5 := Lib.hid r5
          have R6 := Lib.hid r6
          have hw1 : IntKind.i64.wrap (py.tdiv vy) = py.tdiv vy := IntWalk.i64_in _ (by omega)
          have E1 := Lib.hid (show eu vx vy (px + vx * -(py.tdiv vy)) (py + vy * -(py.tdiv vy)) = eu sx sy x y by rw [R5.out, R6.out, ← eu_step px py vx h0]; exact hE.out)
          have E2 := Lib.hid (show euJ (1001 * bdL k) vx vy (px + vx * -(py.tdiv vy)) (py + vy * -(py.tdiv vy)) by rw [R5.out, R6.out]; exact euJ_next hJ.out h0)
          have E3 := Lib.hid (show (py + vy * -(py.tdiv vy)).natAbs < vy.natAbs by rw [R6.out]; exact tmod_lt _ _ h0)
          have hw2 : IntKind.i64.wrap (-(py.tdiv vy)) = -(py.tdiv vy) := IntWalk.i64_in _ (by omega)
          have R1 := Lib.hid r1
          have R2 := Lib.hid r2
          have R3 := Lib.hid r3
          have R4 := Lib.hid r4
          clear r1 r2 r3 r4 r5 r6 hJ hE HN HF VB J0 R5 R6
          go_wp2_with fail
          refine wp_region_T 11 (fun W => (W.cell? ⟨w.heap.size + 1, 0, none⟩ = some (.int .i64 px) ∧ W.cell? ⟨w.heap.size + 1, 1, none⟩ = some (.int .i64 py)) ∧ (W.cell? ⟨W1.heap.size, 0, none⟩ = some (.int .i64 vx) ∧ W.cell? ⟨W1.heap.size, 1, none⟩ = some (.int .i64 vy))) (by kernel_rfl) ⟨KS.drew.pair, KV.drew.pair⟩ (fun hHeld inv => ?_)
          refine wpAnyT_take (i := 0) (v := ?_) (by kernel_rfl) (by kernel_rfl) (by decide) (by kernel_rfl) inv rfl (by decide) (by kernel_rfl) (by kernel_rfl) (fun _ _ _ h => h) (Or.inl ⟨by rfl, ?_⟩) (by assumption) (fun inv => ?_)
          rotate_left
          · (intro w hSw; (try dsimp only at hSw); go_simp; try with_reducible rfl)
          simp only [Act.put, List.setIfInBounds_toArray, List.set_cons_zero, List.set_cons_succ]
          refine wpAnyT_take (i := 1) (v := ?_) (by kernel_rfl) (by kernel_rfl) (by decide) (by kernel_rfl) inv rfl (by decide) (by kernel_rfl) (by kernel_rfl) (fun _ _ _ h => h) (Or.inl ⟨by rfl, ?_⟩) (by assumption) (fun inv => ?_)
          rotate_left
          · (intro w hSw; (try dsimp only at hSw); go_simp; try with_reducible rfl)
          simp only [Act.put, List.setIfInBounds_toArray, List.set_cons_zero, List.set_cons_succ]
          refine wpAnyT_take (i := 2) (v := ?_) (by kernel_rfl) (by kernel_rfl) (by decide) (by kernel_rfl) inv rfl (by decide) (by kernel_rfl) (by kernel_rfl) (fun _ _ _ h => h) (Or.inl ⟨by rfl, ?_⟩) (by assumption) (fun inv => ?_)
          rotate_left
          · (intro w hSw; (try dsimp only at hSw); go_simp; try with_reducible rfl)
          simp only [Act.put, List.setIfInBounds_toArray, List.set_cons_zero, List.set_cons_succ]
          refine wpAnyT_take (i := 3) (v := ?_) (by kernel_rfl) (by kernel_rfl) (by decide) (by kernel_rfl) inv rfl (by decide) (by kernel_rfl) (by kernel_rfl) (fun _ _ _ h => h) (Or.inl ⟨by rfl, ?_⟩) (by assumption) (fun inv => ?_)
          rotate_left
          · (intro w hSw; (try dsimp only at hSw); go_simp; try with_reducible rfl)
          simp only [Act.put, List.setIfInBounds_toArray, List.set_cons_zero, List.set_cons_succ]
          refine wpAnyT_take (i := 4) (v := ?_) (by kernel_rfl) (by kernel_rfl) (by decide) (by kernel_rfl) inv rfl (by decide) (by kernel_rfl) (by kernel_rfl) (fun _ _ _ h => h) (Or.inl ⟨by rfl, ?_⟩) (by assumption) (fun inv => ?_)
          rotate_left
          · (intro w hSw; (try dsimp only at hSw); go_simp; try with_reducible rfl)
          simp only [Act.put, List.setIfInBounds_toArray, List.set_cons_zero, List.set_cons_succ]
          refine wpAnyT_take (i := 5) (v := ?_) (by kernel_rfl) (by kernel_rfl) (by decide) (by kernel_rfl) inv rfl (by decide) (by kernel_rfl) (by kernel_rfl) (fun _ _ _ h => h) (Or.inl ⟨by rfl, ?_⟩) (by assumption) (fun inv => ?_)
          rotate_left
          · (intro w hSw; (try dsimp only at hSw); go_simp; try with_reducible rfl)
          simp only [Act.put, List.setIfInBounds_toArray, List.set_cons_zero, List.set_cons_succ]
          refine wpAnyT_take (i := 6) (v := ?_) (by kernel_rfl) (by kernel_rfl) (by decide) (by kernel_rfl) inv rfl (by decide) (by kernel_rfl) (by kernel_rfl) (fun _ _ _ h => h) (Or.inl ⟨by rfl, ?_⟩) (by assumption) (fun inv => ?_)
          rotate_left
          · (intro w hSw; (try dsimp only at hSw); go_simp; try with_reducible rfl)
          simp only [Act.put, List.setIfInBounds_toArray, List.set_cons_zero, List.set_cons_succ]
          refine wpAnyT_take (i := 7) (v := ?_) (by kernel_rfl) (by kernel_rfl) (by decide) (by kernel_rfl) inv rfl (by decide) (by kernel_rfl) (by kernel_rfl) (fun _ _ _ h => h) (Or.inl ⟨by rfl, ?_⟩) (by assumption) (fun inv => ?_)
          rotate_left
          · (intro w hSw; (try dsimp only at hSw); go_simp; try with_reducible rfl)
          simp only [Act.put, List.setIfInBounds_toArray, List.set_cons_zero, List.set_cons_succ]
          refine wpAnyT_take (i := 8) (v := ?_) (by kernel_rfl) (by kernel_rfl) (by decide) (by kernel_rfl) inv rfl (by decide) (by kernel_rfl) (by kernel_rfl) (fun _ _ _ h => h) (Or.inl ⟨by rfl, ?_⟩) (by assumption) (fun inv => ?_)
          rotate_left
          · (intro w hSw; (try dsimp only at hSw); go_simp; try with_reducible rfl)
          simp only [Act.put, List.setIfInBounds_toArray, List.set_cons_zero, List.set_cons_succ]
          refine wpAnyT_one (i := 9) (by kernel_rfl) rfl (fun K hK => ?_)
          go_simp
          (go_at_call 170; refine (timesBig_any vx vy (-(py.tdiv vy)) _ R1.out R2.out).mono ?_; rintro e u1 ⟨rfl, hb1⟩; have KS1 : KW (w.heap.size + 1) px py u1 := (by repeat (first | assumption | with_reducible refine KW.alloc ?_ _ | with_reducible refine KW.drew ?_ | with_reducible refine KW.call ?_ (by assumption))); have KV1 : KW W1.heap.size vx vy u1 := (by repeat (first | assumption | with_reducible refine KW.alloc ?_ _ | with_reducible refine KW.drew ?_ | with_reducible refine KW.call ?_ (by assumption))); have KR1 : KL w.heap.size 0 0 0 u1 := (by repeat (first | assumption | with_reducible refine KL.alloc ?_ _ | with_reducible refine KL.drew ?_ | with_reducible refine KL.call ?_ (by assumption))); have BB1 : Below w.heap.size w u1 := (by repeat (first | assumption | with_reducible refine Below.alloc ?_ (by first | omega | (simp <;> omega)) _ | with_reducible refine Below.drew ?_ | with_reducible refine bstep ?_ (by assumption))); obtain ⟨ks10, ks11, ks12, ks13, ks14⟩ := id KS1; obtain ⟨kv10, kv11, kv12, kv13, kv14⟩ := id KV1)
          refine hK.out _ _ (fun _ => ⟨KS1.pair, KV1.pair⟩) ?_
          clear hK K
          try simp only [Act.put, List.setIfInBounds_toArray, List.set_cons_zero, List.set_cons_succ]
          refine wpAnyT_one (i := 10) (by kernel_rfl) rfl (fun K hK => ?_)
          go_simp
          (go_at_call 200; refine (plusBig_any _ _ _ _ _ (by simpa using R3.out) (by simpa using R4.out)).mono ?_; rintro e u2 ⟨rfl, hb2⟩; have KS2 : KW (w.heap.size + 1) px py u2 := (by repeat (first | assumption | with_reducible refine KW.alloc ?_ _ | with_reducible refine KW.drew ?_ | with_reducible refine KW.call ?_ (by assumption))); have KV2 : KW W1.heap.size vx vy u2 := (by repeat (first | assumption | with_reducible refine KW.alloc ?_ _ | with_reducible refine KW.drew ?_ | with_reducible refine KW.call ?_ (by assumption))); have KR2 : KL w.heap.size 0 0 0 u2 := (by repeat (first | assumption | with_reducible refine KL.alloc ?_ _ | with_reducible refine KL.drew ?_ | with_reducible refine KL.call ?_ (by assumption))); have BB2 : Below w.heap.size w u2 := (by repeat (first | assumption | with_reducible refine Below.alloc ?_ (by first | omega | (simp <;> omega)) _ | with_reducible refine Below.drew ?_ | with_reducible refine bstep ?_ (by assumption))); obtain ⟨ks20, ks21, ks22, ks23, ks24⟩ := id KS2; obtain ⟨kv20, kv21, kv22, kv23, kv24⟩ := id KV2)
          refine hK.out _ _ (fun _ => ⟨KS2.pair, KV2.pair⟩) ?_
          clear hK K
          try simp only [Act.put, List.setIfInBounds_toArray, List.set_cons_zero, List.set_cons_succ]
          refine wpAnyT_seq (k := 11) (by decide) rfl rfl (by kernel_rfl) ?_
          all_goals
            go_wp2
            go_roundw
            case rel => exact ⟨vx, vy, _, _, Lib.hid (by simpa using E1.out), Lib.hid (by simpa using E2.out), KW.far ne2 (KW.far ne2 (KW.store KS2 _ _)), KW.store (KW.far ne1 (KW.far ne1 KV2)) _ _, KL.put (by show w.heap.size < W1.heap.size; omega) (KL.put (by show w.heap.size < W1.heap.size; omega) (KL.put (by show w.heap.size < w.heap.size + 1; omega) (KL.put (by show w.heap.size < w.heap.size + 1; omega) KR2))), Below.setCell (Below.setCell (Below.setCell (Below.setCell BB2 (by show w.heap.size ≤ w.heap.size + 1; omega) _) (by show w.heap.size ≤ w.heap.size + 1; omega) _) (by show w.heap.size ≤ W1.heap.size; omega) _) (by show w.heap.size ≤ W1.heap.size; omega) _⟩
            case measure =>
              rw [hcA]
              exact Nat.lt_of_le_of_lt (Nat.le_of_eq (cellAbs_of (KW.store (KW.far ne1 (KW.far ne1 KV2)) _ _).c1)) (by simpa using E3.out)
    · obtain rfl : k = L.length := by omega
      have hS' : spFold L = (sx, sy, f) := by have := hS.out; rw [List.take_length] at this; exact this.symm
      have hf : 0 < f := by have := H0.out; rw [hS'] at this; exact this
      obtain ⟨t1, t2, t3, t4⟩ := hT.out
      have hb4 := (bdL_le hn).1
      simp only at t1 t2 t3 t4
      obtain ⟨a0, a1, a2, a3, a4⟩ := id K1
      obtain ⟨b0, b1, b2, b3, b4, b5, b6⟩ := id K2
      have HSp := Lib.hid hS'
      clear hS' hS hT
      by_cases hs : sy < 0
      · have ea : latL L = (f, (-sx) % f, -sy) := by unfold latL; rw [HSp.out]; simp [nrm, hs]
        have EA := Lib.hid ea
        clear ea
        go_wp2_with fail
        refine (timesBig_any sx sy (-1) _ (by unfold bigI; omega) (by unfold bigI; omega)).mono ?_
        rintro e w2 ⟨rfl, hb2⟩
        have KS2 := K1.call hb2
        have KR2 : KL w.heap.size 0 0 0 ((w2.setCell ⟨w.heap.size + 1, 0, none⟩ (.int .i64 (-sx))).setCell ⟨w.heap.size + 1, 1, none⟩ (.int .i64 (-sy))) := KL.put (by show w.heap.size < w.heap.size + 1; omega) (KL.put (by show w.heap.size < w.heap.size + 1; omega) (K2.call hb2))
        have KS3 := KW.store KS2 (-sx) (-sy)
        have BB2 : Below w.heap.size w ((w2.setCell ⟨w.heap.size + 1, 0, none⟩ (.int .i64 (-sx))).setCell ⟨w.heap.size + 1, 1, none⟩ (.int .i64 (-sy))) := Below.setCell (Below.setCell (bstep hB hb2) (by show w.heap.size ≤ w.heap.size + 1; omega) _) (by show w.heap.size ≤ w.heap.size + 1; omega) _
        obtain ⟨a0, a1, a2, a3, a4⟩ := id KS2
        clear hb2 hB K1 K2
        go_wp2_with fail
        go_region_held3 (fun W => W.cell? ⟨w.heap.size + 1, 0, none⟩ = some (.int .i64 (-sx)) ∧ W.cell? ⟨w.heap.size + 1, 1, none⟩ = some (.int .i64 (-sy))) ((refine KW.pair ?_; repeat (first | assumption | with_reducible refine KW.alloc ?_ _ | with_reducible refine KW.drew ?_ | with_reducible refine KW.call ?_ (by assumption) | ((with_reducible refine KW.far ?_ ?_); (show w.heap.size ≠ w.heap.size + 1; omega)))))
          (first | (go_at_call 274; refine (remainder_any _ _ _ (by unfold bigI; omega) (by omega) (by unfold bigI; omega)).mono ?_; rintro e u1 ⟨rfl, hb3⟩; have KSu : KW (w.heap.size + 1) (-sx) (-sy) u1 := (by repeat (first | assumption | with_reducible refine KW.alloc ?_ _ | with_reducible refine KW.drew ?_ | with_reducible refine KW.call ?_ (by assumption))); have KR1 : KL w.heap.size 0 0 0 u1 := (by repeat (first | assumption | with_reducible refine KL.alloc ?_ _ | with_reducible refine KL.drew ?_ | with_reducible refine KL.call ?_ (by assumption))); have BB1 : Below w.heap.size w u1 := (by repeat (first | assumption | with_reducible refine Below.alloc ?_ (by first | omega | (simp <;> omega)) _ | with_reducible refine Below.drew ?_ | with_reducible refine bstep ?_ (by assumption))); obtain ⟨kr0, kr1, kr2, kr3, kr4, kr5, kr6⟩ := id KR1))
        all_goals
          go_wp2
          refine bodyPost_ret (v := .agg #[.int .i64 f, .int .i64 ((-sx) % f), .int .i64 (-sy)]) (by simp [results, Tryz.results254, go_sem, *]) rfl ⟨ret_val (by rw [EA.out]), ?_⟩
          exact Below.setCell (Below.setCell (Below.setCell BB1 (Nat.le_refl _) _) (Nat.le_refl _) _) (Nat.le_refl _) _
      · have ea : latL L = (f, sx % f, sy) := by unfold latL; rw [HSp.out]; simp [nrm, hs]
        have EA := Lib.hid ea
        clear ea
        go_wp2_with fail
        go_region_held3 (fun W => W.cell? ⟨w.heap.size + 1, 0, none⟩ = some (.int .i64 sx) ∧ W.cell? ⟨w.heap.size + 1, 1, none⟩ = some (.int .i64 sy)) ((refine KW.pair ?_; repeat (first | assumption | with_reducible refine KW.alloc ?_ _ | with_reducible refine KW.drew ?_ | with_reducible refine KW.call ?_ (by assumption) | ((with_reducible refine KW.far ?_ ?_); (show w.heap.size ≠ w.heap.size + 1; omega)))))
          (first | (go_at_call 274; refine (remainder_any _ _ _ (by unfold bigI; omega) (by omega) (by unfold bigI; omega)).mono ?_; rintro e u1 ⟨rfl, hb3⟩; have KSu : KW (w.heap.size + 1) (sx) (sy) u1 := (by repeat (first | assumption | with_reducible refine KW.alloc ?_ _ | with_reducible refine KW.drew ?_ | with_reducible refine KW.call ?_ (by assumption))); have KR1 : KL w.heap.size 0 0 0 u1 := (by repeat (first | assumption | with_reducible refine KL.alloc ?_ _ | with_reducible refine KL.drew ?_ | with_reducible refine KL.call ?_ (by assumption))); have BB1 : Below w.heap.size w u1 := (by repeat (first | assumption | with_reducible refine Below.alloc ?_ (by first | omega | (simp <;> omega)) _ | with_reducible refine Below.drew ?_ | with_reducible refine bstep ?_ (by assumption))); obtain ⟨kr0, kr1, kr2, kr3, kr4, kr5, kr6⟩ := id KR1))
        all_goals
          go_wp2
          refine bodyPost_ret (v := .agg #[.int .i64 f, .int .i64 (sx % f), .int .i64 sy]) (by simp [results, Tryz.results254, go_sem, *]) rfl ⟨ret_val (by rw [EA.out]), ?_⟩
          exact Below.setCell (Below.setCell (Below.setCell BB1 (Nat.le_refl _) _) (Nat.le_refl _) _) (Nat.le_refl _) _
end
end Go.Proofs.YtkfeajjpbmbmpaaGreatDoor

namespace Go.Proofs.YtkfeajjpbmbmpaaGreatDoor
section
open Go.RowKit
set_option linter.unusedSimpArgs false
set_option linter.unusedVariables false

theorem hm_pos {s : Int × Int × Int} {v : Int × Int} (h : 0 < (spStep s v).2.2) : hmStep s v = ((spStep s v).1 % (spStep s v).2.2, (spStep s v).2) := by simp [hmStep, h]
theorem hm_zero {s : Int × Int × Int} {v : Int × Int} (h : ¬ 0 < (spStep s v).2.2) : hmStep s v = spStep s v := by simp [hmStep, h]
set_option maxHeartbeats 4000000 in
theorem scaleBig_any (x y n : Int) (w : World) (h1 : bigI (n * x)) (h2 : bigI (n * y)) :
    Calls Tryz.prog 176 #[.agg #[.int .i64 x, .int .i64 y], .int .i64 n] w fun e w' => e = .returned (.agg #[.int .i64 (n * x), .int .i64 (n * y)]) ∧ Below w.heap.size w w' := by
  obtain ⟨a1, a2⟩ := h1
  obtain ⟨a3, a4⟩ := h2
  go_enter Tryz.func176, Tryz.ntmps176
  go_wp2
  refine bodyPost_ret (v := .agg #[.int .i64 (n * x), .int .i64 (n * y)]) (by simp [results, Tryz.results176, go_sem]) rfl ⟨rfl, ?_⟩
  repeat (first | exact Below.refl _ _ | refine Below.setCell ?_ (by first | omega | (simp <;> omega)) _ | refine Below.alloc ?_ (by first | omega | (simp <;> omega)) _ | refine bstep ?_ (by assumption) | refine Below.drew ?_)

set_option maxHeartbeats 4000000 in
theorem hermite_any (L : List (Int × Int)) (g cap : Nat) (w : World) (hV : VL g L w) (hL : vecsB L) (hn : L.length ≤ 4) (h0 : 0 < (hmFold L).2.2) :
    Calls Tryz.prog 278 #[.slice (some ⟨g, 0, none⟩) L.length cap] w fun e w' => e = .returned (.agg #[.int .i64 ((latL L).1), .int .i64 ((latL L).2.1), .int .i64 ((latL L).2.2)]) ∧ Below w.heap.size w w' := by
  have HV := Lib.hid hV
  have HL := Lib.hid hL
  have H0 := Lib.hid h0
  clear hV hL h0
  go_enter Tryz.func278, Tryz.ntmps278
  go_wp2_with fail
  go_loopw [4, 5] (fun f i W => ∃ (k : Nat) (s : Int × Int × Int), i = .int .i64 k ∧ f = .int .i64 s.2.2 ∧ k ≤ L.length ∧ Hid (s = (L.take k).foldl hmStep (0, 0, 0)) ∧ Hid (stB (bdL k) s) ∧ KW (w.heap.size + 1) s.1 s.2.1 W ∧ KL w.heap.size 0 0 0 W ∧ Below w.heap.size w W) (fun _ i _ => L.length - (intOf i).toNat)
  case atStart => exact ⟨0, (0, 0, 0), rfl, rfl, Nat.zero_le _, rfl, stB_zero _, KW.at _ (by simp), (KL.at _ rfl).alloc _, Below.alloc (Below.alloc (Below.refl _ _) (Nat.le_refl _) _) (by simp) _⟩
  case round =>
    obtain ⟨k, ⟨sx, sy, f⟩, rfl, rfl, hk, hS, hT, K1, K2, hB⟩ := hrel
    simp only at K1
    by_cases h1 : k < L.length
    · have hk0 : (0 : Int) ≤ (k : Int) := by omega
      have hk1 : (k : Int) < (L.length : Int) := by omega
      have hBs := hB.size
      obtain ⟨c0, c1⟩ := (HV.out.grow hB HV.out.1).2 k h1
      have VB := Lib.hid (HL.out L[k] (List.getElem_mem h1))
      have J0 := Lib.hid (stB_J (bdL_le (by omega)).2 hT.out VB.out.1 VB.out.2)
      have hK : 1001 * bdL k ≤ 1100000000000000000 := by have := (bdL_le (i := k + 1) (by omega)).1; rw [bdL_succ] at this; omega
      have HN := Lib.hid (stB_hm (bdL_le (by omega)).2 hT.out VB.out.1 VB.out.2)
      have HF := Lib.hid (fold_take hmStep L k h1 (0, 0, 0))
      rename World => W1
      have fb : f.natAbs ≤ bdL k ∧ 0 ≤ f := ⟨hT.out.2.2.2, hT.out.2.2.1⟩
      have ne : w.heap.size + 1 < W1.heap.size := K1.lt
      clear hT
      generalize L[k] = v at *
      obtain ⟨x, y⟩ := v
      simp only at c0 c1 VB J0 HN HF
      have hB1 : Below w.heap.size w (W1.alloc (.cells #[.int .i64 x, .int .i64 y] 31)) := hB.alloc hBs _
      go_wp2_with fail
      go_loopw [20] (fun _ W => ∃ px py vx vy : Int, Hid (eu px py vx vy = eu sx sy x y) ∧ Hid (euJ (1001 * bdL k) px py vx vy) ∧ KW (w.heap.size + 1) px py W ∧ KW W1.heap.size vx vy W ∧ KL w.heap.size 0 0 0 W ∧ Below w.heap.size w W) (fun _ W => cellAbs W1.heap.size W)
      case atStart => exact ⟨sx, sy, x, y, rfl, J0.out, K1.alloc _, KW.at _ rfl, K2.alloc _, hB1⟩
      case round =>
        clear c0 c1 K1 K2 hB hB1
        obtain ⟨px, py, vx, vy, hE, hJ, KS, KV, KR, BB⟩ := hrel
        obtain ⟨s0, s1, s2, s3, s4⟩ := id KS
        obtain ⟨v0, v1, v2, v3, v4⟩ := id KV
        have sz := BB.size
        have ne1 : ¬ w.heap.size + 1 = W1.heap.size := by omega
        have ne2 : ¬ W1.heap.size = w.heap.size + 1 := by omega
        by_cases h0 : vy = 0
        · subst h0
          have e0 := Lib.hid ((eu_zero px py vx).symm.trans hE.out)
          obtain ⟨f1, f2⟩ := fb
          obtain ⟨_, _, _, j4, j5⟩ := hJ.out
          have e1 : spStep (sx, sy, f) (x, y) = (px, py, gcdI f vx) := by simp [spStep, ← e0.out]
          have gb := gcdI_bd (a := f) (b := vx) (M := 1001 * bdL k) (by omega) (by omega)
          have gn := gcdI_nn f vx
          by_cases hg : 0 < gcdI f vx
          · have e2 := hm_pos (s := (sx, sy, f)) (v := (x, y)) (by rw [e1]; exact hg)
            rw [e1] at e2
            have E1 := Lib.hid (show (px % gcdI f vx, py, gcdI f vx) = (L.take (k + 1)).foldl hmStep (0, 0, 0) by rw [HF.out, ← hS.out, e2])
            have E2 := Lib.hid (show stB (bdL (k + 1)) (px % gcdI f vx, py, gcdI f vx) by have := HN.out; rw [e2] at this; rw [bdL_succ]; exact this)
            clear e1 e2 HN HF VB J0 hJ hE
            go_wp2_with fail
            refine (divisorBigB_any f vx _ (by omega) (by omega) (by omega) (by omega)).mono ?_
            rintro e w2 ⟨rfl, hb2⟩
            have KS2 := KS.call hb2
            have KV2 := KV.call hb2
            have KR2 := KR.call hb2
            have BB2 := bstep BB hb2
            obtain ⟨t0, t1, t2, t3, t4⟩ := id KS2
            clear hb2 s0 s1 s2 s3 s4 KS KV KR BB
            go_wp2_with fail
            refine (l01Mod_any px (gcdI f vx) _ (by unfold bigI; omega) (by omega) (by unfold bigI; omega)).mono ?_
            rintro e w3 ⟨rfl, hb3⟩
            have KS3 := KS2.call hb3
            obtain ⟨t0, t1, t2, t3, t4⟩ := id KS3
            go_wp2
            go_roundw
            case rel => exact ⟨k + 1, (px % gcdI f vx, py, gcdI f vx), by go_num, rfl, by omega, E1.out, E2.out, KW.store0 KS3 _, KL.put (by show w.heap.size < w.heap.size + 1; omega) (KR2.call hb3), Below.setCell (bstep BB2 hb3) (by show w.heap.size ≤ w.heap.size + 1; omega) _⟩
            case measure => first | (simp [intOf]; done) | (simp [intOf]; omega)
          · have g0 : gcdI f vx = 0 := by omega
            have e2 := hm_zero (s := (sx, sy, f)) (v := (x, y)) (by rw [e1]; exact hg)
            rw [e1, g0] at e2
            have E1 := Lib.hid (show (px, py, (0 : Int)) = (L.take (k + 1)).foldl hmStep (0, 0, 0) by rw [HF.out, ← hS.out, e2])
            have E2 := Lib.hid (show stB (bdL (k + 1)) (px, py, (0 : Int)) by have := HN.out; rw [e2] at this; rw [bdL_succ]; exact this)
            have G0 := Lib.hid g0
            clear e1 e2 HN HF VB J0 hJ hE hg g0
            go_wp2_with fail
            refine (divisorBigB_any f vx _ (by omega) (by omega) (by omega) (by omega)).mono ?_
            rintro e w2 ⟨rfl, hb2⟩
            rw [G0.out]
            have KS2 := KS.call hb2
            have KR2 := KR.call hb2
            have BB2 := bstep BB hb2
            go_wp2
            go_roundw
            case rel => exact ⟨k + 1, (px, py, 0), by go_num, rfl, by omega, E1.out, E2.out, KS2, KR2, BB2⟩
            case measure => first | (simp [intOf]; done) | (simp [intOf]; omega)
        · have hcA := cellAbs_of v2
          have h0' : (vy != 0) = true := by simp [h0]
          obtain ⟨r1, r2, r3, r4, r5, r6, r7⟩ := round_vals hK hJ.out h0
          have hw1 : IntKind.i64.wrap (py.tdiv vy) = py.tdiv vy := IntWalk.i64_in _ (by omega)
          obtain ⟨q1, q2⟩ := euJ_prod hJ.out
          obtain ⟨j1, j2, j3, j4, j5⟩ := hJ.out
          have m1 : -1100000000000000000 ≤ py.tdiv vy * vx ∧ py.tdiv vy * vx ≤ 1100000000000000000 := by omega
          have e7 : py.tdiv vy * vy = py - py.tmod vy := by have := Int.tmod_add_mul_tdiv py vy; have := Int.mul_comm vy (py.tdiv vy); omega
          have e8 := tmod_lt py vy h0
          have m2 : -2000 ≤ py.tdiv vy * vy ∧ py.tdiv vy * vy ≤ 2000 := by omega
          have m3 : -1100000000000000000 ≤ px ∧ px ≤ 1100000000000000000 := by omega
          have m4 : -1000 ≤ py ∧ py ≤ 1000 := by omega
          have E1 := Lib.hid (show eu vx vy (px - py.tdiv vy * vx) (py - py.tdiv vy * vy) = eu sx sy x y by rw [show py - py.tdiv vy * vy = py.tmod vy by omega, ← eu_step px py vx h0]; exact hE.out)
          have E2 := Lib.hid (show euJ (1001 * bdL k) vx vy (px - py.tdiv vy * vx) (py - py.tdiv vy * vy) by rw [show py - py.tdiv vy * vy = py.tmod vy by omega]; exact euJ_next hJ.out h0)
          have E3 := Lib.hid (show (py - py.tdiv vy * vy).natAbs < vy.natAbs by rw [show py - py.tdiv vy * vy = py.tmod vy by omega]; exact e8)
          clear r1 r2 r3 r4 r5 r6 e7 e8 hE hJ HN HF VB J0 j1 j2 j3 j4 j5
          go_wp2
          go_roundw
          case rel => exact ⟨vx, vy, _, _, E1.out, E2.out, (KW.far ne2 (KW.far ne2 (KW.store KS _ _))).alloc _, (KW.store (KW.far ne1 (KW.far ne1 KV)) _ _).alloc _, KL.alloc (KL.put (by show w.heap.size < W1.heap.size; omega) (KL.put (by show w.heap.size < W1.heap.size; omega) (KL.put (by show w.heap.size < w.heap.size + 1; omega) (KL.put (by show w.heap.size < w.heap.size + 1; omega) KR)))) _, Below.alloc (Below.setCell (Below.setCell (Below.setCell (Below.setCell BB (by show w.heap.size ≤ w.heap.size + 1; omega) _) (by show w.heap.size ≤ w.heap.size + 1; omega) _) (by show w.heap.size ≤ W1.heap.size; omega) _) (by show w.heap.size ≤ W1.heap.size; omega) _) (by simp; omega) _⟩
          case measure =>
            rw [hcA]
            exact Nat.lt_of_le_of_lt (Nat.le_of_eq (cellAbs_of ((KW.store (KW.far ne1 (KW.far ne1 KV)) _ _).alloc _).c1)) E3.out
    · obtain rfl : k = L.length := by omega
      have hS' : hmFold L = (sx, sy, f) := by have := hS.out; rw [List.take_length] at this; exact this.symm
      have hf : 0 < f := by have := H0.out; rw [hS'] at this; exact this
      obtain ⟨t1, t2, t3, t4⟩ := hT.out
      have hb4 := (bdL_le hn).1
      simp only at t1 t2 t3 t4
      obtain ⟨a0, a1, a2, a3, a4⟩ := id K1
      obtain ⟨b0, b1, b2, b3, b4, b5, b6⟩ := id K2
      have HSp := Lib.hid hS'
      clear hS' hS hT
      by_cases hs : sy < 0
      · have ea : latL L = (f, (-sx) % f, -sy) := by rw [latL_eq, HSp.out]; simp [nrm, hs]
        have EA := Lib.hid ea
        clear ea
        go_wp2_with fail
        refine (scaleBig_any sx sy (-1) _ (by unfold bigI; omega) (by unfold bigI; omega)).mono ?_
        rintro e w2 ⟨rfl, hb2⟩
        have KS2 := K1.call hb2
        have KR2 := K2.call hb2
        have BB2 := bstep hB hb2
        obtain ⟨a0, a1, a2, a3, a4⟩ := id KS2
        clear hb2 hB K1 K2 b0 b1 b2 b3 b4 b5 b6
        go_wp2_with fail
        refine (l01Mod_any (-sx) f _ (by unfold bigI; omega) (by omega) (by unfold bigI; omega)).mono ?_
        rintro e w3 ⟨rfl, hb3⟩
        have hlt := KS2.lt
        have KS3 : KW (w.heap.size + 1) (-sx) (-sy) w3 := KW.call (KW.store KS2 (-sx) (-sy)) hb3
        have KR3 : KL w.heap.size 0 0 0 w3 := KL.call (KL.put (by show w.heap.size < w.heap.size + 1; omega) (KL.put (by show w.heap.size < w.heap.size + 1; omega) KR2)) hb3
        have BB3 : Below w.heap.size w w3 := bstep (Below.setCell (Below.setCell BB2 (by show w.heap.size ≤ w.heap.size + 1; omega) _) (by show w.heap.size ≤ w.heap.size + 1; omega) _) hb3
        clear hb3 a0 a1 a2 a3 a4 KS2 KR2 BB2
        obtain ⟨a0, a1, a2, a3, a4⟩ := id KS3
        obtain ⟨b0, b1, b2, b3, b4, b5, b6⟩ := id KR3
        go_wp2
        refine bodyPost_ret (v := .agg #[.int .i64 f, .int .i64 ((-sx) % f), .int .i64 (-sy)]) (by simp [results, Tryz.results278, go_sem, a0, a1, a2, a3, a4, b0, b1, b2, b3, b4, b5, b6]) rfl ⟨ret_val (by rw [EA.out]), ?_⟩
        exact Below.setCell (Below.setCell (Below.setCell (Below.setCell BB3 (by show w.heap.size ≤ w.heap.size + 1; omega) _) (Nat.le_refl _) _) (Nat.le_refl _) _) (Nat.le_refl _) _
      · have ea : latL L = (f, sx % f, sy) := by rw [latL_eq, HSp.out]; simp [nrm, hs]
        have EA := Lib.hid ea
        clear ea
        go_wp2_with fail
        refine (l01Mod_any sx f _ (by unfold bigI; omega) (by omega) (by unfold bigI; omega)).mono ?_
        rintro e w3 ⟨rfl, hb3⟩
        have KS3 := K1.call hb3
        have KR3 := K2.call hb3
        have BB3 := bstep hB hb3
        obtain ⟨a0, a1, a2, a3, a4⟩ := id KS3
        obtain ⟨b0, b1, b2, b3, b4, b5, b6⟩ := id KR3
        clear hb3 K1 K2 hB
        go_wp2
        refine bodyPost_ret (v := .agg #[.int .i64 f, .int .i64 (sx % f), .int .i64 sy]) (by simp [results, Tryz.results278, go_sem, a0, a1, a2, a3, a4, b0, b1, b2, b3, b4, b5, b6]) rfl ⟨ret_val (by rw [EA.out]), ?_⟩
        exact Below.setCell (Below.setCell (Below.setCell (Below.setCell BB3 (by show w.heap.size ≤ w.heap.size + 1; omega) _) (Nat.le_refl _) _) (Nat.le_refl _) _) (Nat.le_refl _) _
end
end Go.Proofs.YtkfeajjpbmbmpaaGreatDoor

namespace Go.Proofs.YtkfeajjpbmbmpaaGreatDoor
section
open Go.RowKit
set_option linter.unusedSimpArgs false
set_option linter.unusedVariables false

def eqT (a b c a' b' c' : Int) : Bool := a == a' && (b == b' && c == c')
end
end Go.Proofs.YtkfeajjpbmbmpaaGreatDoor

namespace Go.Proofs.YtkfeajjpbmbmpaaGreatDoor
section
open Go.RowKit
set_option linter.unusedSimpArgs false

end
end Go.Proofs.YtkfeajjpbmbmpaaGreatDoor

namespace Go.Proofs.YtkfeajjpbmbmpaaGreatDoor
section
open Go.RowKit
set_option linter.unusedSimpArgs false
set_option linter.unusedVariables false

theorem hm_two (L : List (Int × Int)) : (spFold L).2 = (hmFold L).2 := (sameS_fold L (0, 0, 0) (0, 0, 0) ⟨rfl, by simp⟩).1
theorem vecsB_two {x y x' y' : Int} (h : vecB x y = true) (h' : vecB x' y' = true) : vecsB [(x, y), (x', y')] := by
  obtain ⟨⟨a1, a2⟩, a3, a4⟩ := vecB_bd h
  obtain ⟨⟨b1, b2⟩, b3, b4⟩ := vecB_bd h'
  intro v hv
  simp at hv
  rcases hv with rfl | rfl <;> (simp only; omega)

theorem VL_two (W : World) (x y x' y' : Int) (T : TypeId) : VL W.heap.size [(x, y), (x', y')] (W.alloc (.cells #[.int .i64 x, .int .i64 y, .int .i64 x', .int .i64 y'] T)) := by
  refine ⟨by simp, fun i hi => ?_⟩
  match i, hi with
  | 0, _ => exact ⟨by simp [go_sem], by simp [go_sem]⟩
  | 1, _ => exact ⟨by simp [go_sem], by simp [go_sem]⟩
end
end Go.Proofs.YtkfeajjpbmbmpaaGreatDoor

