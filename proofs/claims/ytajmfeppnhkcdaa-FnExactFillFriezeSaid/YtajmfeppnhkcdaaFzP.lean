/-
  The motions that keep a frieze and its period, in the program and in the model. Condition: the frieze is valid, and a shift is small.
-/
import Derived.Test.YtajmfeppnhkcdaaFzA
namespace Go.Proofs.Ytajmfeppnhkcdaa
open Go.RowKit
set_option linter.unusedSimpArgs false
set_option linter.unusedVariables false

/- three cells of a block -/
structure K3 (g : Nat) (u0 u1 u2 : Value) (W : World) : Prop where
  lt : g < W.heap.size
  c0 : W.cell? ⟨g, 0, none⟩ = some u0
  c1 : W.cell? ⟨g, 1, none⟩ = some u1
  c2 : W.cell? ⟨g, 2, none⟩ = some u2
theorem K3.cells {g : Nat} {u0 u1 u2 : Value} {W : World} (h : K3 g u0 u1 u2 W) : W.cell? ⟨g, 0, none⟩ = some u0 ∧ W.cell? ⟨g, 1, none⟩ = some u1 ∧ W.cell? ⟨g, 2, none⟩ = some u2 := ⟨h.c0, h.c1, h.c2⟩
theorem K3.grow {g B : Nat} {u0 u1 u2 : Value} {W w1 : World} (h : K3 g u0 u1 u2 W) (hb : Below B W w1) (hg : g < B) : K3 g u0 u1 u2 w1 :=
  ⟨Nat.lt_of_lt_of_le h.lt hb.size, by rw [hb.cell (p := ⟨g, 0, none⟩) hg]; exact h.c0, by rw [hb.cell (p := ⟨g, 1, none⟩) hg]; exact h.c1, by rw [hb.cell (p := ⟨g, 2, none⟩) hg]; exact h.c2⟩
theorem K3.call {g : Nat} {u0 u1 u2 : Value} {W w1 : World} (h : K3 g u0 u1 u2 W) (hb : Below W.heap.size W w1) : K3 g u0 u1 u2 w1 := h.grow hb h.lt
theorem K3.alloc {g : Nat} {u0 u1 u2 : Value} {W : World} (h : K3 g u0 u1 u2 W) (o : Obj) : K3 g u0 u1 u2 (W.alloc o) := h.call ((Below.refl _ _).alloc (Nat.le_refl _) _)
theorem K3.drew {g : Nat} {u0 u1 u2 : Value} {W : World} (h : K3 g u0 u1 u2 W) : K3 g u0 u1 u2 W.drew := h.call (Below.refl _ _).drew
theorem K3.at {w : World} {u0 u1 u2 : Value} {T : TypeId} (R : Nat) (hR : R = w.heap.size) : K3 R u0 u1 u2 (w.alloc (.cells #[u0, u1, u2] T)) := by
  subst hR
  refine ⟨by simp, ?_, ?_, ?_⟩ <;> simp [go_sem]
theorem K3.far {g : Nat} {u0 u1 u2 : Value} {W : World} {q : Addr} {u : Value} (hq : q.block ≠ g) (h : K3 g u0 u1 u2 W) : K3 g u0 u1 u2 (W.setCell q u) := by
  have hh : (W.setCell q u).heap[g]? = W.heap[g]? := Below.heap_setCell _ _ _ _ (by omega)
  exact ⟨by simpa [World.setCell] using h.lt, (World.cell?_of_block (w := W) hh).trans h.c0, (World.cell?_of_block (w := W) hh).trans h.c1, (World.cell?_of_block (w := W) hh).trans h.c2⟩

def imX (tx : Bool) (x : Int) : Int := if tx then -x else x
def imY (h : Int) (ty : Bool) (y : Int) : Int := if ty then h - 1 - y else y
theorem imN_int {h w s c : Nat} (tx ty : Bool) (hw : 0 < w) (hy : c / w < h) :
    ((imN h w tx ty s c : Nat) : Int) = imY (h : Int) ty ((c / w : Nat) : Int) * (w : Int) + ((s : Int) + imX tx ((c % w : Nat) : Int)) % (w : Int) := by
  have hx : c % w < w := Nat.mod_lt _ hw
  unfold imN imX imY
  generalize c / w = q at *
  generalize c % w = x at *
  have e1 : (((if ty then h - 1 - q else q) : Nat) : Int) = if ty then (h : Int) - 1 - (q : Int) else (q : Int) := by
    rcases ty with _ | _ <;> simp <;> omega
  have e2 : (((s + (if tx then w - x else x)) % w : Nat) : Int) = ((s : Int) + (if tx then -(x : Int) else (x : Int))) % (w : Int) := by
    rw [Int.natCast_emod]
    rcases tx with _ | _
    · simp
    · have e : ((s + (w - x) : Nat) : Int) = ((s : Int) + -(x : Int)) + (w : Int) := by omega
      simp only [if_true, e, Int.add_emod_right]
  rw [Int.natCast_add, Int.natCast_mul, e1, e2]
theorem cell_div {h w c : Nat} (hc : c < h * w) : c / w < h ∧ c % w < w ∧ 0 < w := by
  have hw : 0 < w := by rcases Nat.eq_zero_or_pos w with e | e <;> simp_all
  exact ⟨Nat.div_lt_of_lt_mul (by rwa [Nat.mul_comm]), Nat.mod_lt _ hw, hw⟩
theorem imY_bd {h : Nat} (ty : Bool) {y : Int} (hy : 0 ≤ y ∧ y < (h : Int)) : 0 ≤ imY h ty y ∧ imY h ty y < (h : Int) := by
  unfold imY; rcases ty with _ | _ <;> simp <;> omega
/- the cell to which a column and a row are taken -/
theorem cel_im {h w n s c : Nat} {F : Nat → Int} (p : FriI h w n F) (tx ty : Bool) (hc : c < n) : cel w ((s : Int) + imX tx ((c % w : Nat) : Int)) (imY h ty ((c / w : Nat) : Int)) = imN h w tx ty s c := by
  have hc2 := hc
  rw [p.nn] at hc2
  obtain ⟨h1, h2, h3⟩ := cell_div hc2
  have e := imN_int (s := s) tx ty h3 h1
  unfold cel
  omega
theorem cel_self {h w n c : Nat} {F : Nat → Int} (p : FriI h w n F) (hc : c < n) : cel w ((c % w : Nat) : Int) ((c / w : Nat) : Int) = c := by
  have hc2 := hc
  rw [p.nn] at hc2
  obtain ⟨h1, h2, h3⟩ := cell_div hc2
  have e := cell_row w c
  unfold cel
  rw [Int.emod_eq_of_lt (by omega) (by omega)]
  have : ((c / w : Nat) : Int) * (w : Int) + ((c % w : Nat) : Int) = (c : Int) := by exact_mod_cast e
  omega
set_option maxHeartbeats 8000000 in
theorem taken_any {h w s c : Nat} (v : Value) (tx ty : Bool) (W : World) (hh : h ≤ 6) (hw : w ≤ 24) (hs : s ≤ 1000) (hc : c < h * w) :
    Calls Try.prog 71 #[.agg #[.int .i64 (h : Int), .int .i64 (w : Int), v], .agg #[.bool tx, .bool ty, .int .i64 (s : Int)], .int .i64 (c : Int)] W fun e w' => e = .returned (.int .i64 ((imN h w tx ty s c : Nat) : Int)) ∧ Below W.heap.size W w' := by
  obtain ⟨hq, hx, hw0⟩ := cell_div hc
  rw [imN_int tx ty hw0 hq]
  have hc144 : c < 144 := Nat.lt_of_lt_of_le hc (Nat.le_trans (Nat.mul_le_mul hh hw) (by omega))
  have bd1 : (0 : Int) ≤ (c : Int) % (w : Int) ∧ (c : Int) % (w : Int) < (w : Int) := mod_bd (by omega)
  have bd2 : (0 : Int) ≤ (c : Int) / (w : Int) ∧ (c : Int) / (w : Int) < (h : Int) := ⟨Int.ediv_nonneg (by omega) (by omega), by exact_mod_cast hq⟩
  have hw1 : ¬ (w : Int) = 0 := by omega
  rw [Int.natCast_ediv, Int.natCast_emod]
  have HX : Hid (-100000 ≤ (s : Int) + imX tx ((c : Int) % (w : Int)) ∧ (s : Int) + imX tx ((c : Int) % (w : Int)) ≤ 100000) := Lib.hid (by unfold imX; rcases tx with _ | _ <;> simp <;> omega)
  have HY : Hid (0 ≤ imY (h : Int) ty ((c : Int) / (w : Int)) ∧ imY (h : Int) ty ((c : Int) / (w : Int)) ≤ 6) := Lib.hid (by unfold imY; rcases ty with _ | _ <;> simp <;> omega)
  have HW : Hid (1 ≤ (w : Int) ∧ (w : Int) ≤ 24) := Lib.hid (by omega)
  have bs : (s : Int) ≤ 1000 ∧ (h : Int) ≤ 6 ∧ (w : Int) ≤ 24 := by omega
  rcases tx with _ | _ <;> rcases ty with _ | _ <;> simp only [imX, imY, Bool.false_eq_true, if_false, if_true] at HX HY ⊢
  all_goals
    go_enter Try.func71, Try.ntmps71
    go_wp2_with fail
    go_quiet (fail)
    go_wp2_with fail
    with_reducible refine (indexAt_any _ _ _ _ _ _ HX.out HY.out HW.out).mono ?_
    rintro e w1 ⟨rfl, hb1⟩
    go_wp2
    go_ret
    exact ⟨ret_int (by simp), bstep (by repeat (first | with_reducible assumption | with_reducible exact Below.refl _ _ | with_reducible refine Below.drew ?_ | with_reducible refine below_drewN ?_ _ | with_reducible refine Below.alloc ?_ (by first | omega | (simp <;> omega)) _ | with_reducible refine bstep ?_ (by with_reducible assumption))) hb1⟩
set_option maxRecDepth 100000 in
set_option maxHeartbeats 8000000 in
theorem kept_any {lo hi h w n s : Nat} {v : Value} {F : Nat → Int} {W : World} (p : FriI h w n F) (hv : SRow lo hi 1 v n F W) (tx ty : Bool) (hs : s ≤ 1000) :
    Calls Try.prog 76 #[.agg #[.int .i64 (h : Int), .int .i64 (w : Int), v], .agg #[.bool tx, .bool ty, .int .i64 (s : Int)]] W fun e w' => e = .returned (.bool (kpN h w F tx ty s)) ∧ Below W.heap.size W w' := by
  have R := Lib.hid hv
  have P := Lib.hid p
  have h6 := p.h6
  have w24 := p.w24
  have n144 := p.n144
  have HNN := Lib.hid p.nn
  obtain ⟨g, cap, rfl, hg, _, r⟩ := hv.irow p.n1
  have hgs := hv.1
  have hgw : g < W.heap.size := by omega
  clear hv
  have KA0 : K3 W.heap.size (.int .i64 (h : Int)) (.int .i64 (w : Int)) (.slice (some ⟨g, 0, none⟩) n cap) ((W.alloc (.cells #[.int .i64 (h : Int), .int .i64 (w : Int), .slice (some ⟨g, 0, none⟩) n cap] 26)).alloc (.cells #[.bool tx, .bool ty, .int .i64 (s : Int)] 53)) := (K3.at _ rfl).alloc _
  have KB0 : K3 (W.heap.size + 1) (.bool tx) (.bool ty) (.int .i64 (s : Int)) ((W.alloc (.cells #[.int .i64 (h : Int), .int .i64 (w : Int), .slice (some ⟨g, 0, none⟩) n cap] 26)).alloc (.cells #[.bool tx, .bool ty, .int .i64 (s : Int)] 53)) := K3.at _ (by simp)
  have B0 : Below W.heap.size W ((W.alloc (.cells #[.int .i64 (h : Int), .int .i64 (w : Int), .slice (some ⟨g, 0, none⟩) n cap] 26)).alloc (.cells #[.bool tx, .bool ty, .int .i64 (s : Int)] 53)) := ((Below.refl _ _).alloc (Nat.le_refl _) _).alloc (by simp) _
  have n144i : (n : Int) ≤ 144 := by omega
  go_enter Try.func76, Try.ntmps76
  go_wp2_with fail
  go_loopw [10] (fun t X => ∃ k : Nat, t = .int .i64 (k : Int) ∧ k ≤ n ∧ (∀ t, t < k → (F (imN h w tx ty s t) == F t) = true) ∧ K3 W.heap.size (.int .i64 (h : Int)) (.int .i64 (w : Int)) (.slice (some ⟨g, 0, none⟩) n cap) X ∧ K3 (W.heap.size + 1) (.bool tx) (.bool ty) (.int .i64 (s : Int)) X ∧ Below W.heap.size W X) (fun t _ => n - (intOf t).toNat)
  case atStart => exact ⟨0, rfl, by omega, fun t ht => by omega, KA0, KB0, B0⟩
  case round =>
    clear KA0 KB0 B0
    obtain ⟨k, rfl, hk, hall, KA, KB, hB⟩ := hrel
    have HALL := Lib.hid hall
    clear hall
    by_cases hk1 : k < n
    · have hk2 : (k : Int) < (n : Int) := by omega
      have I0 := r.call hB
      have im1 : imN h w tx ty s k < n := by have hk9 := hk1; rw [HNN.out] at hk9 ⊢; exact imN_lt _ _ _ hk9
      have im2 : ((imN h w tx ty s k : Nat) : Int) < (n : Int) := by omega
      have im0 : (0 : Int) ≤ ((imN h w tx ty s k : Nat) : Int) := by omega
      have HT := Lib.hid (fun X => taken_any (h := h) (w := w) (s := s) (c := k) (.slice (some ⟨g, 0, none⟩) n cap) tx ty X h6 w24 hs (by have := HNN.out; omega))
      have HI := Lib.hid im1
      have c0 := I0.at k (by omega)
      have c1 := I0.at (imN h w tx ty s k) (by omega)
      have hIn : imN h w tx ty s k < n * 1 := by omega
      obtain ⟨m, hm⟩ : ∃ m, m = imN h w tx ty s k := ⟨_, rfl⟩
      have HM := Lib.hid hm
      rw [← hm] at c1 im2 im0 hIn
      have HT2 := Lib.hid (fun X => (show Calls Try.prog 71 #[.agg #[.int .i64 (h : Int), .int .i64 (w : Int), .slice (some ⟨g, 0, none⟩) n cap], .agg #[.bool tx, .bool ty, .int .i64 (s : Int)], .int .i64 (k : Int)] X (fun e w' => e = .returned (.int .i64 (m : Int)) ∧ Below X.heap.size X w') by rw [hm]; exact HT.out X))
      clear HT HI hm im1
      obtain ⟨a, ha⟩ : ∃ a, a = F k := ⟨_, rfl⟩
      obtain ⟨b, hb⟩ : ∃ b, b = F m := ⟨_, rfl⟩
      have HAB := Lib.hid (And.intro ha hb)
      rw [← ha] at c0
      rw [← hb] at c1
      clear ha hb
      have hlt := KA.lt
      have hlt2 := KB.lt
      have hgl := I0.1
      have ka0 := KA.c0
      have ka1 := KA.c1
      have ka2 := KA.c2
      have Z0 : Below wr.heap.size wr wr := Below.refl _ _
      have IS : wr.cell? ⟨g, m, none⟩ = some (.int .i64 b) := c1
      go_wp2_with fail
      go_region_held3 (fun W9 => (W9.cell? ⟨W.heap.size, 0, none⟩ = some (.int .i64 (h : Int)) ∧ W9.cell? ⟨W.heap.size, 1, none⟩ = some (.int .i64 (w : Int)) ∧ W9.cell? ⟨W.heap.size, 2, none⟩ = some (.slice (some ⟨g, 0, none⟩) n cap)) ∧ (W9.cell? ⟨W.heap.size + 1, 0, none⟩ = some (.bool tx) ∧ W9.cell? ⟨W.heap.size + 1, 1, none⟩ = some (.bool ty) ∧ W9.cell? ⟨W.heap.size + 1, 2, none⟩ = some (.int .i64 (s : Int))) ∧ W9.cell? ⟨g, m, none⟩ = some (.int .i64 b)) ((refine And.intro (K3.cells ?_) (And.intro (K3.cells ?_) ((IRow.at (N := n * 1) ?_ _ hIn).trans (by rw [HAB.out.2])))) <;> (repeat (first | with_reducible assumption | with_reducible refine K3.drew ?_ | with_reducible refine IRow.drew ?_ | with_reducible refine K3.alloc ?_ _ | with_reducible refine K3.call ?_ (by with_reducible assumption) | with_reducible refine IRow.call ?_ (by with_reducible assumption))))
        ((go_at_call 71; with_reducible refine (HT2.out _).mono ?_; rintro e w2 ⟨rfl, hb2⟩; have c2 : Below wr.heap.size wr w2 := bstep (by repeat (first | with_reducible exact Below.refl _ _ | with_reducible refine Below.drew ?_)) hb2))
      all_goals
        have KA2 := KA.call c2
        have KB2 := KB.call c2
        have B2 := bstep hB c2
        by_cases hab : b = a
        · subst hab
          go_wp2
          go_roundw
          case rel =>
            refine ⟨k + 1, by go_num, by omega, fun t ht => ?_, KA2, KB2, B2⟩
            rcases Nat.lt_or_ge t k with h9 | h9
            · exact HALL.out t h9
            · obtain rfl : t = k := by omega
              rw [← HM.out, ← HAB.out.1, ← HAB.out.2]; simp
          case measure => first | (simp [intOf]; done) | (simp [intOf]; omega)
        · have hab2 : (b != a) = true := by simp [hab]
          go_wp2
          go_ret
          refine ⟨ret_bool (kpN_no (c := k) (by have := HNN.out; omega) ?_).symm, B2⟩
          rw [← HM.out, ← HAB.out.1, ← HAB.out.2]; simp [hab]
    · obtain rfl : k = n := by omega
      go_wp2
      go_ret
      exact ⟨ret_bool (kpN_yes fun c hc => HALL.out c (by have := HNN.out; omega)).symm, hB⟩
set_option maxHeartbeats 4000000 in
theorem image_any {h s : Nat} (b : Int) (v : Value) (tx ty : Bool) (x y : Int) (W : World) (hh : h ≤ 6) (hs : s ≤ 1000) (hx : 0 ≤ x ∧ x ≤ 1000) (hy : 0 ≤ y ∧ y < (h : Int)) :
    Calls Try.prog 42 #[.agg #[.int .i64 (h : Int), .int .i64 b, v], .agg #[.bool tx, .bool ty, .int .i64 (s : Int)], .int .i64 x, .int .i64 y] W fun e w' => e = .returned (.tuple #[.int .i64 ((s : Int) + imX tx x), .int .i64 (imY (h : Int) ty y)]) ∧ Below W.heap.size W w' := by
  have hh2 : (h : Int) ≤ 6 := by omega
  have hs2 : (s : Int) ≤ 1000 := by omega
  rcases tx with _ | _ <;> rcases ty with _ | _ <;> simp only [imX, imY, Bool.false_eq_true, if_false, if_true]
  all_goals
    go_enter Try.func42, Try.ntmps42
    go_wp2
    go_ret2
    exact ⟨rfl, by repeat (first | with_reducible assumption | with_reducible exact Below.refl _ _ | with_reducible refine Below.drew ?_ | with_reducible refine below_drewN ?_ _ | with_reducible refine Below.alloc ?_ (by first | omega | (simp <;> omega)) _ | with_reducible refine bstep ?_ (by with_reducible assumption))⟩
set_option maxRecDepth 100000 in
set_option maxHeartbeats 16000000 in
theorem keeps_any {lo hi h w n s : Nat} {v : Value} {F : Nat → Int} {W : World} (p : FriI h w n F) (hv : SRow lo hi 1 v n F W) (tx ty : Bool) (hs : s ≤ 1000) :
    Calls Try.prog 78 #[.agg #[.int .i64 (h : Int), .int .i64 (w : Int), v], .agg #[.bool tx, .bool ty, .int .i64 (s : Int)]] W fun e w' => e = .returned (.bool (kpN h w F tx ty s)) ∧ Below W.heap.size W w' := by
  have R := Lib.hid hv
  have P := Lib.hid p
  have h6 := p.h6
  have w24 := p.w24
  have w1' := p.w1
  have HNN := Lib.hid p.nn
  obtain ⟨g, cap, rfl, hg, _, r⟩ := hv.irow p.n1
  clear hv r
  have KA0 : K3 W.heap.size (.int .i64 (h : Int)) (.int .i64 (w : Int)) (.slice (some ⟨g, 0, none⟩) n cap) ((W.alloc (.cells #[.int .i64 (h : Int), .int .i64 (w : Int), .slice (some ⟨g, 0, none⟩) n cap] 26)).alloc (.cells #[.bool tx, .bool ty, .int .i64 (s : Int)] 53)) := (K3.at _ rfl).alloc _
  have KB0 : K3 (W.heap.size + 1) (.bool tx) (.bool ty) (.int .i64 (s : Int)) ((W.alloc (.cells #[.int .i64 (h : Int), .int .i64 (w : Int), .slice (some ⟨g, 0, none⟩) n cap] 26)).alloc (.cells #[.bool tx, .bool ty, .int .i64 (s : Int)] 53)) := K3.at _ (by simp)
  have B0 : Below W.heap.size W ((W.alloc (.cells #[.int .i64 (h : Int), .int .i64 (w : Int), .slice (some ⟨g, 0, none⟩) n cap] 26)).alloc (.cells #[.bool tx, .bool ty, .int .i64 (s : Int)] 53)) := ((Below.refl _ _).alloc (Nat.le_refl _) _).alloc (by simp) _
  go_enter Try.func78, Try.ntmps78
  go_wp2_with fail
  go_loopw [5, 6, 7, 8] (fun t _ _ _ X => ∃ y : Nat, t = .int .i64 (y : Int) ∧ y ≤ h ∧ (∀ t, t < y * w → (F (imN h w tx ty s t) == F t) = true) ∧ K3 W.heap.size (.int .i64 (h : Int)) (.int .i64 (w : Int)) (.slice (some ⟨g, 0, none⟩) n cap) X ∧ K3 (W.heap.size + 1) (.bool tx) (.bool ty) (.int .i64 (s : Int)) X ∧ Below W.heap.size W X) (fun t _ _ _ _ => h - (intOf t).toNat)
  case atStart => exact ⟨0, rfl, by omega, fun t ht => by simp at ht, KA0, KB0, B0⟩
  case round =>
    clear KA0 KB0 B0
    obtain ⟨y, rfl, hy, hall, KA, KB, hB⟩ := hrel
    have HALL := Lib.hid hall
    clear hall
    have ka0 := KA.c0
    have kal := KA.lt
    by_cases hy1 : y < h
    · have hy2 : (y : Int) < (h : Int) := by omega
      go_wp2_with fail
      go_loopw [6, 7, 8] (fun t _ _ X => ∃ x : Nat, t = .int .i64 (x : Int) ∧ x ≤ w ∧ (∀ t, t < y * w + x → (F (imN h w tx ty s t) == F t) = true) ∧ K3 W.heap.size (.int .i64 (h : Int)) (.int .i64 (w : Int)) (.slice (some ⟨g, 0, none⟩) n cap) X ∧ K3 (W.heap.size + 1) (.bool tx) (.bool ty) (.int .i64 (s : Int)) X ∧ Below W.heap.size W X) (fun t _ _ _ => w - (intOf t).toNat)
      case atStart => exact ⟨0, rfl, by omega, fun t ht => HALL.out t (by omega), KA, KB, hB⟩
      case round =>
        clear KA KB hB HALL ka0 kal
        obtain ⟨x, rfl, hx, hall, KA, KB, hB⟩ := hrel
        have HALL := Lib.hid hall
        clear hall
        have ka0 := KA.c0
        have ka1 := KA.c1
        have ka2 := KA.c2
        have kb0 := KB.c0
        have kb1 := KB.c1
        have kb2 := KB.c2
        have kal := KA.lt
        have kbl := KB.lt
        by_cases hx1 : x < w
        · have hx2 : (x : Int) < (w : Int) := by omega
          have hc : y * w + x < n := by rw [HNN.out]; exact row_lt hy1 hx1
          have e1 := cel_im P.out (s := s) tx ty hc
          have e2 := cel_self P.out hc
          rw [div_row hx1, mod_row hx1] at e1 e2
          have E1 := Lib.hid e1
          have E2 := Lib.hid e2
          have HC := Lib.hid hc
          clear e1 e2 hc
          go_wp2_with fail
          with_reducible refine (image_any _ _ tx ty (x : Int) (y : Int) _ h6 hs (by omega) (by omega)).mono ?_
          rintro e w2 ⟨rfl, hb2⟩
          have KA2 := KA.call hb2
          have KB2 := KB.call hb2
          have B2 := bstep hB hb2
          have kc0 := KA2.c0
          have kc1 := KA2.c1
          have kc2 := KA2.c2
          have kcl := KA2.lt
          clear hb2 KA KB hB ka0 ka1 ka2 kb0 kb1 kb2 kal kbl
          have HX := Lib.hid (show -100000 ≤ (s : Int) + imX tx (x : Int) ∧ (s : Int) + imX tx (x : Int) ≤ 100000 by unfold imX; rcases tx with _ | _ <;> simp <;> omega)
          have HY := Lib.hid (imY_bd (h := h) ty (y := (y : Int)) (by omega))
          generalize (s : Int) + imX tx (x : Int) = a at *
          generalize imY (h : Int) ty (y : Int) = b at *
          obtain ⟨f1, hf1⟩ : ∃ z, z = F (cel w a b) := ⟨_, rfl⟩
          obtain ⟨f2, hf2⟩ : ∃ z, z = F (cel w (x : Int) (y : Int)) := ⟨_, rfl⟩
          have HF := Lib.hid (And.intro hf1 hf2)
          clear hf1 hf2
          have Z2 : Below w2.heap.size w2 w2 := Below.refl _ _
          have HA1 := Lib.hid (fun X (hb : Below w2.heap.size w2 X) => (show Calls Try.prog 57 #[.agg #[.int .i64 (h : Int), .int .i64 (w : Int), .slice (some ⟨g, 0, none⟩) n cap], .int .i64 a, .int .i64 b] X (fun e w' => e = .returned (.int .i64 f1) ∧ Below X.heap.size X w') by rw [HF.out.1]; exact l08At_any P.out (R.out.call (bstep B2 hb)) a b HX.out HY.out))
          have HA2 := Lib.hid (fun X (hb : Below w2.heap.size w2 X) => (show Calls Try.prog 57 #[.agg #[.int .i64 (h : Int), .int .i64 (w : Int), .slice (some ⟨g, 0, none⟩) n cap], .int .i64 (x : Int), .int .i64 (y : Int)] X (fun e w' => e = .returned (.int .i64 f2) ∧ Below X.heap.size X w') by rw [HF.out.2]; exact l08At_any P.out (R.out.call (bstep B2 hb)) (x : Int) (y : Int) (by omega) (by omega)))
          go_wp2_with fail
          go_region_held3 (fun W9 => (W9.cell? ⟨W.heap.size, 0, none⟩ = some (.int .i64 (h : Int)) ∧ W9.cell? ⟨W.heap.size, 1, none⟩ = some (.int .i64 (w : Int)) ∧ W9.cell? ⟨W.heap.size, 2, none⟩ = some (.slice (some ⟨g, 0, none⟩) n cap))) ((refine K3.cells ?_) <;> (repeat (first | with_reducible assumption | with_reducible refine K3.drew ?_ | with_reducible refine IRow.drew ?_ | with_reducible refine K3.alloc ?_ _ | with_reducible refine K3.call ?_ (by with_reducible assumption) | with_reducible refine IRow.call ?_ (by with_reducible assumption))))
            (first
              | (go_at_call_of 57 (Value.int IntKind.i64 a); with_reducible refine (HA1.out _ (by repeat (first | with_reducible assumption | with_reducible exact Below.refl _ _ | with_reducible refine Below.drew ?_ | with_reducible refine below_drewN ?_ _ | with_reducible refine Below.alloc ?_ (by first | omega | (simp <;> omega)) _ | with_reducible refine bstep ?_ (by with_reducible assumption)))).mono ?_; rintro e w3 ⟨rfl, hb3⟩; have c3 : Below w2.heap.size w2 w3 := bstep (by repeat (first | with_reducible assumption | with_reducible exact Below.refl _ _ | with_reducible refine Below.drew ?_ | with_reducible refine below_drewN ?_ _ | with_reducible refine Below.alloc ?_ (by first | omega | (simp <;> omega)) _ | with_reducible refine bstep ?_ (by with_reducible assumption))) hb3)
              | (go_at_call_of 57 (Value.int IntKind.i64 (x : Int)); with_reducible refine (HA2.out _ (by repeat (first | with_reducible assumption | with_reducible exact Below.refl _ _ | with_reducible refine Below.drew ?_ | with_reducible refine below_drewN ?_ _ | with_reducible refine Below.alloc ?_ (by first | omega | (simp <;> omega)) _ | with_reducible refine bstep ?_ (by with_reducible assumption)))).mono ?_; rintro e w4 ⟨rfl, hb4⟩; have c4 : Below w2.heap.size w2 w4 := bstep (by repeat (first | with_reducible assumption | with_reducible exact Below.refl _ _ | with_reducible refine Below.drew ?_ | with_reducible refine below_drewN ?_ _ | with_reducible refine Below.alloc ?_ (by first | omega | (simp <;> omega)) _ | with_reducible refine bstep ?_ (by with_reducible assumption))) hb4))
          all_goals
            by_cases hf : f1 = f2
            · subst hf
              go_wp2
              go_roundw
              case rel =>
                refine ⟨x + 1, by go_num, by omega, fun t ht => ?_, by repeat (first | with_reducible assumption | with_reducible refine K3.drew ?_ | with_reducible refine IRow.drew ?_ | with_reducible refine K3.alloc ?_ _ | with_reducible refine K3.call ?_ (by with_reducible assumption) | with_reducible refine IRow.call ?_ (by with_reducible assumption)), by repeat (first | with_reducible assumption | with_reducible refine K3.drew ?_ | with_reducible refine IRow.drew ?_ | with_reducible refine K3.alloc ?_ _ | with_reducible refine K3.call ?_ (by with_reducible assumption) | with_reducible refine IRow.call ?_ (by with_reducible assumption)), by repeat (first | with_reducible assumption | with_reducible exact Below.refl _ _ | with_reducible refine Below.drew ?_ | with_reducible refine below_drewN ?_ _ | with_reducible refine Below.alloc ?_ (by first | omega | (simp <;> omega)) _ | with_reducible refine bstep ?_ (by with_reducible assumption))⟩
                rcases Nat.lt_or_ge t (y * w + x) with h9 | h9
                · exact HALL.out t h9
                · obtain rfl : t = y * w + x := by omega
                  rw [← E1.out, HF.out.1.symm.trans (HF.out.2.trans (by rw [E2.out]))]; simp
              case measure => first | (simp [intOf]; done) | (simp [intOf]; omega)
            · have hf2 : (f1 != f2) = true := by simp [hf]
              go_wp2
              go_ret
              refine ⟨ret_bool (kpN_no (c := y * w + x) (by have := HC.out; have := HNN.out; omega) ?_).symm, by repeat (first | with_reducible assumption | with_reducible exact Below.refl _ _ | with_reducible refine Below.drew ?_ | with_reducible refine below_drewN ?_ _ | with_reducible refine Below.alloc ?_ (by first | omega | (simp <;> omega)) _ | with_reducible refine bstep ?_ (by with_reducible assumption))⟩
              rw [← E1.out, ← HF.out.1, show F (y * w + x) = f2 by rw [HF.out.2, E2.out]]; simp [hf]
        · obtain rfl : x = w := by omega
          go_wp2
          go_roundw
          case rel =>
            refine ⟨y + 1, by go_num, by omega, fun t ht => HALL.out t ?_, KA, KB, hB⟩
            have : (y + 1) * x = y * x + x := Nat.succ_mul y x
            omega
          case measure => first | (simp [intOf]; done) | (simp [intOf]; omega)
    · obtain rfl : y = h := by omega
      go_wp2
      go_ret
      exact ⟨ret_bool (kpN_yes fun c hc => HALL.out c hc).symm, hB⟩
set_option maxRecDepth 100000 in
set_option maxHeartbeats 8000000 in
theorem period_any {lo hi h w n : Nat} {v : Value} {F : Nat → Int} {W : World} (p : FriI h w n F) (hv : SRow lo hi 1 v n F W) :
    Calls Try.prog 54 #[.agg #[.int .i64 (h : Int), .int .i64 (w : Int), v]] W fun e w' => e = .returned (.int .i64 ((perN h w F : Nat) : Int)) ∧ Below W.heap.size W w' := by
  have R := Lib.hid hv
  have P := Lib.hid p
  have w1 := p.w1
  have w24 := p.w24
  obtain ⟨g, cap, rfl, hg, _, r⟩ := hv.irow p.n1
  clear hv r
  have KA0 : K3 W.heap.size (.int .i64 (h : Int)) (.int .i64 (w : Int)) (.slice (some ⟨g, 0, none⟩) n cap) (W.alloc (.cells #[.int .i64 (h : Int), .int .i64 (w : Int), .slice (some ⟨g, 0, none⟩) n cap] 26)) := K3.at _ rfl
  have B0 : Below W.heap.size W (W.alloc (.cells #[.int .i64 (h : Int), .int .i64 (w : Int), .slice (some ⟨g, 0, none⟩) n cap] 26)) := (Below.refl _ _).alloc (Nat.le_refl _) _
  go_enter Try.func54, Try.ntmps54
  go_wp2_with fail
  go_loopw [3] (fun t X => ∃ k : Nat, t = .int .i64 (k : Int) ∧ PerAt h w F k ∧ K3 W.heap.size (.int .i64 (h : Int)) (.int .i64 (w : Int)) (.slice (some ⟨g, 0, none⟩) n cap) X ∧ Below W.heap.size W X) (fun t _ => w + 1 - (intOf t).toNat)
  case atStart => exact ⟨1, rfl, PerAt.start F w1, KA0, B0⟩
  case round =>
    clear KA0 B0
    obtain ⟨k, rfl, hp, KA, hB⟩ := hrel
    have HP := Lib.hid hp
    have hk1 := hp.1
    have hk2 := hp.2.1
    have ka0 := KA.c0
    have ka1 := KA.c1
    have ka2 := KA.c2
    have kal := KA.lt
    clear hp
    go_wp2_with fail
    with_reducible refine (kept_any P.out (R.out.call hB) false false (s := k) (by omega)).mono ?_
    rintro e w2 ⟨rfl, hb2⟩
    have KA2 := KA.call hb2
    have B2 := bstep hB hb2
    rcases hkp : kpN h w F false false k with _ | _
    · have hp2 := HP.out.next hkp
      have HP2 := Lib.hid hp2
      have hk3 := hp2.2.1
      clear hp2
      go_wp2
      go_roundw
      case rel => exact ⟨k + 1, by go_num, HP2.out, KA2, B2⟩
      case measure => first | (simp [intOf]; done) | (simp [intOf]; omega)
    · have HE := Lib.hid (HP.out.hit hkp)
      go_wp2
      go_ret
      exact ⟨ret_int (by rw [HE.out]), B2⟩
set_option maxRecDepth 100000 in
set_option maxHeartbeats 8000000 in
theorem l08Period_any {lo hi h w n : Nat} {v : Value} {F : Nat → Int} {W : World} (p : FriI h w n F) (hv : SRow lo hi 1 v n F W) :
    Calls Try.prog 56 #[.agg #[.int .i64 (h : Int), .int .i64 (w : Int), v]] W fun e w' => e = .returned (.int .i64 ((perN h w F : Nat) : Int)) ∧ Below W.heap.size W w' := by
  have R := Lib.hid hv
  have P := Lib.hid p
  have w1 := p.w1
  have w24 := p.w24
  obtain ⟨g, cap, rfl, hg, _, r⟩ := hv.irow p.n1
  clear hv r
  have KA0 : K3 W.heap.size (.int .i64 (h : Int)) (.int .i64 (w : Int)) (.slice (some ⟨g, 0, none⟩) n cap) (W.alloc (.cells #[.int .i64 (h : Int), .int .i64 (w : Int), .slice (some ⟨g, 0, none⟩) n cap] 26)) := K3.at _ rfl
  have B0 : Below W.heap.size W (W.alloc (.cells #[.int .i64 (h : Int), .int .i64 (w : Int), .slice (some ⟨g, 0, none⟩) n cap] 26)) := (Below.refl _ _).alloc (Nat.le_refl _) _
  go_enter Try.func56, Try.ntmps56
  go_wp2_with fail
  go_loopw [3] (fun t X => ∃ k : Nat, t = .int .i64 (k : Int) ∧ PerAt h w F k ∧ K3 W.heap.size (.int .i64 (h : Int)) (.int .i64 (w : Int)) (.slice (some ⟨g, 0, none⟩) n cap) X ∧ Below W.heap.size W X) (fun t _ => w + 1 - (intOf t).toNat)
  case atStart => exact ⟨1, rfl, PerAt.start F w1, KA0, B0⟩
  case round =>
    clear KA0 B0
    obtain ⟨k, rfl, hp, KA, hB⟩ := hrel
    have HP := Lib.hid hp
    have hk1 := hp.1
    have hk2 := hp.2.1
    have ka0 := KA.c0
    have ka1 := KA.c1
    have ka2 := KA.c2
    have kal := KA.lt
    clear hp
    go_wp2_with fail
    with_reducible refine (keeps_any P.out (R.out.call hB) false false (s := k) (by omega)).mono ?_
    rintro e w2 ⟨rfl, hb2⟩
    have KA2 := KA.call hb2
    have B2 := bstep hB hb2
    rcases hkp : kpN h w F false false k with _ | _
    · have hp2 := HP.out.next hkp
      have HP2 := Lib.hid hp2
      have hk3 := hp2.2.1
      clear hp2
      go_wp2
      go_roundw
      case rel => exact ⟨k + 1, by go_num, HP2.out, KA2, B2⟩
      case measure => first | (simp [intOf]; done) | (simp [intOf]; omega)
    · have HE := Lib.hid (HP.out.hit hkp)
      go_wp2
      go_ret
      exact ⟨ret_int (by rw [HE.out]), B2⟩
end Go.Proofs.Ytajmfeppnhkcdaa
