/-
  The contract of the program's meet of two valid lattices. Condition: the numbers of the meet, as plain facts say them.
-/
import Derived.Test.YtlalibefmnenjaaLat5
import Derived.Test.YtlalibefmnenjaaMeetF
import Derived.Deep.DeepCutAuto
namespace Go.Proofs.Ytlalibefmnenjaa
open Go.RowKit
set_option linter.unusedSimpArgs false
set_option linter.unusedVariables false

/- what holds behind each statement: both lattices and the answer's block -/
def MidM (w : World) (A B C A' B' C' : Int) (wx : World) : Prop :=
  Kt w.heap.size A B C wx ∧ Kt (w.heap.size + 1) A' B' C' wx ∧ KL (w.heap.size + 1 + 1) 0 0 0 wx ∧ Below w.heap.size w wx
def cellX (g : Nat) (W : World) : Int := match W.cell? ⟨g, 0, none⟩ with | some v => intOf v | none => 0
theorem cellX_of {g : Nat} {W : World} {x : Int} (h : W.cell? ⟨g, 0, none⟩ = some (.int .i64 x)) : cellX g W = x := by simp [cellX, h, intOf]
theorem has_line {A B C A' B' C' c q i x j : Int} (h : both A B C A' B' C' (q * B + A * i) c) (hx : x = B * q + A * j) : hasB A B C x c = true := by
  obtain ⟨⟨h1, k, hk⟩, _⟩ := h
  rw [hasB_iff]
  exact ⟨h1, k - i + j, by grind⟩
def MidV (w : World) (A B C A' B' C' x y : Int) (s7 : Value) (wx : World) : Prop :=
  ∃ g : Nat, s7 = .pointer (some ⟨g, 0, none⟩) ∧ w.heap.size + 1 + 1 < g ∧ KW g x y wx ∧ MidM w A B C A' B' C' wx

set_option maxHeartbeats 8000000 in
theorem timesX_any (x y n : Int) (w : World) (h1 : bigI (x * n)) (h2 : bigI (y * n)) :
    Calls Try.prog 70 #[.agg #[.int .i64 x, .int .i64 y], .int .i64 n] w fun e w' => e = .returned (.agg #[.int .i64 (x * n), .int .i64 (y * n)]) ∧ w' = ((w.alloc (.cells #[.int .i64 x, .int .i64 y] 27)).alloc (.cells #[.int .i64 (x * n), .int .i64 (y * n)] 27)) := by
  obtain ⟨a1, a2⟩ := h1
  obtain ⟨a3, a4⟩ := h2
  go_enter Try.func70, Try.ntmps70
  go_wp2
  exact bodyPost_ret (v := .agg #[.int .i64 (x * n), .int .i64 (y * n)]) (by simp [results, Try.results70, go_sem]) rfl ⟨rfl, rfl⟩

set_option maxHeartbeats 8000000 in
theorem meet_call (A B C A' B' C' a b c i : Int) (w : World) (h : latI A B C) (h' : latI A' B' C') (MF : MeetF A B C A' B' C' a b c i ((latL (joinL A B C A' B' C')).1) ((latL (joinL A B C A' B' C')).2.2)) :
    Calls Try.prog 75 #[.agg #[.int .i64 A, .int .i64 B, .int .i64 C], .agg #[.int .i64 A', .int .i64 B', .int .i64 C']] w fun e w' => e = .returned (.agg #[.int .i64 a, .int .i64 b, .int .i64 c]) ∧ Below w.heap.size w w' := by
  have ba := latI_bd h
  have bb := latI_bd h'
  have H := Lib.hid h
  have H' := Lib.hid h'
  have HF := Lib.hid MF
  obtain ⟨h1, h2, h3, h4, h5⟩ := id h
  obtain ⟨k1, k2, k3, k4, k5⟩ := id h'
  have hg0 := gcdI_pos_left A' (show 0 < A by omega)
  have hg1 : ¬ gcdI A A' = 0 := by omega
  have td : (A.tdiv (gcdI A A')).natAbs ≤ A.natAbs := by rw [Int.natAbs_tdiv]; exact Nat.div_le_self _ _
  have hw1 : IntKind.i64.wrap (A.tdiv (gcdI A A')) = A.tdiv (gcdI A A') := IntWalk.i64_in _ (by omega)
  have M0 : Kt w.heap.size A B C (((w.alloc (.cells #[.int .i64 A, .int .i64 B, .int .i64 C] 25)).alloc (.cells #[.int .i64 A', .int .i64 B', .int .i64 C'] 25)).alloc (.cells #[.int .i64 0, .int .i64 0, .int .i64 0] 25)) := ((Kt.at _ rfl).alloc _).alloc _
  have N0 : Kt (w.heap.size + 1) A' B' C' (((w.alloc (.cells #[.int .i64 A, .int .i64 B, .int .i64 C] 25)).alloc (.cells #[.int .i64 A', .int .i64 B', .int .i64 C'] 25)).alloc (.cells #[.int .i64 0, .int .i64 0, .int .i64 0] 25)) := (Kt.at _ (by simp)).alloc _
  have R0 : KL (w.heap.size + 1 + 1) 0 0 0 (((w.alloc (.cells #[.int .i64 A, .int .i64 B, .int .i64 C] 25)).alloc (.cells #[.int .i64 A', .int .i64 B', .int .i64 C'] 25)).alloc (.cells #[.int .i64 0, .int .i64 0, .int .i64 0] 25)) := KL.at _ (by simp)
  clear h h'
  go_enter Try.func75, Try.ntmps75
  go_upto_region 1 with fail
  go_cut [5] (fun s5 wx => s5 = .int .i64 a ∧ MidM w A B C A' B' C' wx)
  case first =>
    have e1 := MF.ha
    unfold lcmA at e1
    have a1 := MF.a1
    have a2 := MF.a2
    rw [← e1] at a1 a2
    have E1 := Lib.hid e1
    clear MF e1
    go_region_held3 (fun W => (W.cell? ⟨w.heap.size, 0, none⟩ = some (.int .i64 A) ∧ W.cell? ⟨w.heap.size, 1, none⟩ = some (.int .i64 B) ∧ W.cell? ⟨w.heap.size, 2, none⟩ = some (.int .i64 C)) ∧ (W.cell? ⟨w.heap.size + 1, 0, none⟩ = some (.int .i64 A') ∧ W.cell? ⟨w.heap.size + 1, 1, none⟩ = some (.int .i64 B') ∧ W.cell? ⟨w.heap.size + 1, 2, none⟩ = some (.int .i64 C'))) ((refine ⟨Kt.cells ?_, Kt.cells ?_⟩ <;> repeat (first | assumption | with_reducible refine Kt.drew ?_ | with_reducible refine Kt.alloc ?_ _ | ((with_reducible refine Kt.put ?_ ?_); (first | exact Nat.lt_succ_self _ | omega | (dsimp only; omega))) | with_reducible refine Kt.call ?_ (by assumption))))
      (first
        | (go_at_call 82; refine (greatest_any A A' _ (by omega) (by omega) (by omega) (by omega)).mono ?_; rintro e u1 ⟨rfl, hb1⟩; have PL1 : Kt w.heap.size A B C u1 := (by repeat (first | assumption | with_reducible refine Kt.drew ?_ | with_reducible refine Kt.alloc ?_ _ | ((with_reducible refine Kt.put ?_ ?_); (first | exact Nat.lt_succ_self _ | omega | (dsimp only; omega))) | with_reducible refine Kt.call ?_ (by assumption))); have PM1 : Kt (w.heap.size + 1) A' B' C' u1 := (by repeat (first | assumption | with_reducible refine Kt.drew ?_ | with_reducible refine Kt.alloc ?_ _ | ((with_reducible refine Kt.put ?_ ?_); (first | exact Nat.lt_succ_self _ | omega | (dsimp only; omega))) | with_reducible refine Kt.call ?_ (by assumption))); have PR1 : KL (w.heap.size + 1 + 1) 0 0 0 u1 := (by repeat (first | assumption | with_reducible refine KL.drew ?_ | with_reducible refine KL.alloc ?_ _ | ((with_reducible refine KL.put ?_ ?_); (first | exact Nat.lt_succ_self _ | omega | (dsimp only; omega))) | with_reducible refine KL.call ?_ (by assumption))); have hbb1 := hb1; have PB1 : Below w.heap.size w u1 := (by repeat (first | assumption | exact Below.refl _ _ | with_reducible refine Below.drew ?_ | with_reducible refine Below.alloc ?_ (by first | omega | (simp; done) | (simp; omega)) _ | with_reducible refine bstep ?_ (by assumption))); clear hbb1))
    all_goals
      go_wp2_with fail
      go_meet
      exact ⟨by rw [E1.out, IntWalk.i64_in a (by have := E1.out; omega)], PL1, PM1, PR1, PB1⟩
  case rest =>
    obtain ⟨rfl, ML, MM, MR, MB⟩ := hcut
    go_wp2_with fail
    go_upto_region 2 with fail
    go_cut [6] (fun s6 wx => s6 = .int .i64 c ∧ MidM w A B C A' B' C' wx)
    case first =>
      have a1 := MF.a1
      have a2 := MF.a2
      have j1 := MF.j1
      have j2 := MF.j2
      have p1 := MF.p1
      have p2 := MF.p2
      have e1 := MF.ha
      have e2 := MF.hc
      rw [e1] at e2
      have E2 := Lib.hid e2
      have j0 : ¬ (latL (joinL A B C A' B' C')).1 * (latL (joinL A B C A' B' C')).2.2 = 0 := by omega
      have a0 : ¬ a = 0 := by omega
      have t1 : ((A * C * (A' * C')).tdiv ((latL (joinL A B C A' B' C')).1 * (latL (joinL A B C A' B' C')).2.2)).natAbs ≤ (A * C * (A' * C')).natAbs := by rw [Int.natAbs_tdiv]; exact Nat.div_le_self _ _
      have t2 : (((A * C * (A' * C')).tdiv ((latL (joinL A B C A' B' C')).1 * (latL (joinL A B C A' B' C')).2.2)).tdiv a).natAbs ≤ ((A * C * (A' * C')).tdiv ((latL (joinL A B C A' B' C')).1 * (latL (joinL A B C A' B' C')).2.2)).natAbs := by rw [Int.natAbs_tdiv]; exact Nat.div_le_self _ _
      have hw2 : IntKind.i64.wrap ((A * C * (A' * C')).tdiv ((latL (joinL A B C A' B' C')).1 * (latL (joinL A B C A' B' C')).2.2)) = (A * C * (A' * C')).tdiv ((latL (joinL A B C A' B' C')).1 * (latL (joinL A B C A' B' C')).2.2) := IntWalk.i64_in _ (by omega)
      have hw3 : IntKind.i64.wrap (((A * C * (A' * C')).tdiv ((latL (joinL A B C A' B' C')).1 * (latL (joinL A B C A' B' C')).2.2)).tdiv a) = ((A * C * (A' * C')).tdiv ((latL (joinL A B C A' B' C')).1 * (latL (joinL A B C A' B' C')).2.2)).tdiv a := IntWalk.i64_in _ (by omega)
      have HW0 := Lib.hid (show IntKind.i64.wrap (A * C * (A' * C')) = A * C * (A' * C') from IntWalk.i64_in _ (by omega))
      have x1 : 1 * 1 ≤ A * C := Int.mul_le_mul h1 h2 (by omega) (by omega)
      have x2 : 1 * 1 ≤ A' * C' := Int.mul_le_mul k1 k2 (by omega) (by omega)
      clear MF e1 e2 hw1 td hg1 hg0 M0 N0 R0
      go_region_held3 (fun W => (W.cell? ⟨w.heap.size, 0, none⟩ = some (.int .i64 A) ∧ W.cell? ⟨w.heap.size, 1, none⟩ = some (.int .i64 B) ∧ W.cell? ⟨w.heap.size, 2, none⟩ = some (.int .i64 C)) ∧ (W.cell? ⟨w.heap.size + 1, 0, none⟩ = some (.int .i64 A') ∧ W.cell? ⟨w.heap.size + 1, 1, none⟩ = some (.int .i64 B') ∧ W.cell? ⟨w.heap.size + 1, 2, none⟩ = some (.int .i64 C'))) ((refine ⟨Kt.cells ?_, Kt.cells ?_⟩ <;> repeat (first | assumption | with_reducible refine Kt.drew ?_ | with_reducible refine Kt.alloc ?_ _ | ((with_reducible refine Kt.put ?_ ?_); (first | exact Nat.lt_succ_self _ | omega | (dsimp only; omega))) | with_reducible refine Kt.call ?_ (by assumption))))
        (first
          | (go_at_call_of 78 (Value.agg #[Value.int IntKind.i64 A, Value.int IntKind.i64 B, Value.int IntKind.i64 C]); refine (index_any A B C _ (by omega)).mono ?_; rintro e u1 ⟨rfl, hb1⟩; have PL1 : Kt w.heap.size A B C u1 := (by repeat (first | assumption | with_reducible refine Kt.drew ?_ | with_reducible refine Kt.alloc ?_ _ | ((with_reducible refine Kt.put ?_ ?_); (first | exact Nat.lt_succ_self _ | omega | (dsimp only; omega))) | with_reducible refine Kt.call ?_ (by assumption))); have PM1 : Kt (w.heap.size + 1) A' B' C' u1 := (by repeat (first | assumption | with_reducible refine Kt.drew ?_ | with_reducible refine Kt.alloc ?_ _ | ((with_reducible refine Kt.put ?_ ?_); (first | exact Nat.lt_succ_self _ | omega | (dsimp only; omega))) | with_reducible refine Kt.call ?_ (by assumption))); have PR1 : KL (w.heap.size + 1 + 1) 0 0 0 u1 := (by repeat (first | assumption | with_reducible refine KL.drew ?_ | with_reducible refine KL.alloc ?_ _ | ((with_reducible refine KL.put ?_ ?_); (first | exact Nat.lt_succ_self _ | omega | (dsimp only; omega))) | with_reducible refine KL.call ?_ (by assumption))); have hbb1 := hb1; have PB1 : Below w.heap.size w u1 := (by repeat (first | assumption | exact Below.refl _ _ | with_reducible refine Below.drew ?_ | with_reducible refine Below.alloc ?_ (by first | omega | (simp; done) | (simp; omega)) _ | with_reducible refine bstep ?_ (by assumption))); clear hbb1)
          | (go_at_call_of 78 (Value.agg #[Value.int IntKind.i64 A', Value.int IntKind.i64 B', Value.int IntKind.i64 C']); refine (index_any A' B' C' _ (by omega)).mono ?_; rintro e u2 ⟨rfl, hb2⟩; have PL2 : Kt w.heap.size A B C u2 := (by repeat (first | assumption | with_reducible refine Kt.drew ?_ | with_reducible refine Kt.alloc ?_ _ | ((with_reducible refine Kt.put ?_ ?_); (first | exact Nat.lt_succ_self _ | omega | (dsimp only; omega))) | with_reducible refine Kt.call ?_ (by assumption))); have PM2 : Kt (w.heap.size + 1) A' B' C' u2 := (by repeat (first | assumption | with_reducible refine Kt.drew ?_ | with_reducible refine Kt.alloc ?_ _ | ((with_reducible refine Kt.put ?_ ?_); (first | exact Nat.lt_succ_self _ | omega | (dsimp only; omega))) | with_reducible refine Kt.call ?_ (by assumption))); have PR2 : KL (w.heap.size + 1 + 1) 0 0 0 u2 := (by repeat (first | assumption | with_reducible refine KL.drew ?_ | with_reducible refine KL.alloc ?_ _ | ((with_reducible refine KL.put ?_ ?_); (first | exact Nat.lt_succ_self _ | omega | (dsimp only; omega))) | with_reducible refine KL.call ?_ (by assumption))); have hbb2 := hb2; have PB2 : Below w.heap.size w u2 := (by repeat (first | assumption | exact Below.refl _ _ | with_reducible refine Below.drew ?_ | with_reducible refine Below.alloc ?_ (by first | omega | (simp; done) | (simp; omega)) _ | with_reducible refine bstep ?_ (by assumption))); clear hbb2)
          | (go_at_call 73; refine (join_call A B C A' B' C' _ H.out H'.out).mono ?_; rintro e u3 ⟨rfl, hb3⟩; have PL3 : Kt w.heap.size A B C u3 := (by repeat (first | assumption | with_reducible refine Kt.drew ?_ | with_reducible refine Kt.alloc ?_ _ | ((with_reducible refine Kt.put ?_ ?_); (first | exact Nat.lt_succ_self _ | omega | (dsimp only; omega))) | with_reducible refine Kt.call ?_ (by assumption))); have PM3 : Kt (w.heap.size + 1) A' B' C' u3 := (by repeat (first | assumption | with_reducible refine Kt.drew ?_ | with_reducible refine Kt.alloc ?_ _ | ((with_reducible refine Kt.put ?_ ?_); (first | exact Nat.lt_succ_self _ | omega | (dsimp only; omega))) | with_reducible refine Kt.call ?_ (by assumption))); have PR3 : KL (w.heap.size + 1 + 1) 0 0 0 u3 := (by repeat (first | assumption | with_reducible refine KL.drew ?_ | with_reducible refine KL.alloc ?_ _ | ((with_reducible refine KL.put ?_ ?_); (first | exact Nat.lt_succ_self _ | omega | (dsimp only; omega))) | with_reducible refine KL.call ?_ (by assumption))); have hbb3 := hb3; have PB3 : Below w.heap.size w u3 := (by repeat (first | assumption | exact Below.refl _ _ | with_reducible refine Below.drew ?_ | with_reducible refine Below.alloc ?_ (by first | omega | (simp; done) | (simp; omega)) _ | with_reducible refine bstep ?_ (by assumption))); clear hbb3)
          | (go_at_call 78; refine (index_any _ _ _ _ (by omega)).mono ?_; rintro e u4 ⟨rfl, hb4⟩; have PL4 : Kt w.heap.size A B C u4 := (by repeat (first | assumption | with_reducible refine Kt.drew ?_ | with_reducible refine Kt.alloc ?_ _ | ((with_reducible refine Kt.put ?_ ?_); (first | exact Nat.lt_succ_self _ | omega | (dsimp only; omega))) | with_reducible refine Kt.call ?_ (by assumption))); have PM4 : Kt (w.heap.size + 1) A' B' C' u4 := (by repeat (first | assumption | with_reducible refine Kt.drew ?_ | with_reducible refine Kt.alloc ?_ _ | ((with_reducible refine Kt.put ?_ ?_); (first | exact Nat.lt_succ_self _ | omega | (dsimp only; omega))) | with_reducible refine Kt.call ?_ (by assumption))); have PR4 : KL (w.heap.size + 1 + 1) 0 0 0 u4 := (by repeat (first | assumption | with_reducible refine KL.drew ?_ | with_reducible refine KL.alloc ?_ _ | ((with_reducible refine KL.put ?_ ?_); (first | exact Nat.lt_succ_self _ | omega | (dsimp only; omega))) | with_reducible refine KL.call ?_ (by assumption))); have hbb4 := hb4; have PB4 : Below w.heap.size w u4 := (by repeat (first | assumption | exact Below.refl _ _ | with_reducible refine Below.drew ?_ | with_reducible refine Below.alloc ?_ (by first | omega | (simp; done) | (simp; omega)) _ | with_reducible refine bstep ?_ (by assumption))); clear hbb4))
      all_goals
        go_wp2_with fail
        go_meet
        exact ⟨by rw [HW0.out, hw2, hw3, E2.out], PL4, PM4, PR4, PB4⟩
    case rest =>
      obtain ⟨rfl, ML2, MM2, MR2, MB2⟩ := hcut
      have c1 := MF.c1
      have c2 := MF.c2
      have q1 := MF.q1
      have q2 := MF.q2
      have hw5 : IntKind.i64.wrap (c.tdiv C) = c.tdiv C := IntWalk.i64_in _ (by omega)
      have hC0 : ¬ C = 0 := by omega
      have hX := Int.mul_le_mul (show B ≤ 64 by omega) q2 q1 (by omega)
      have hX0 := Int.mul_nonneg h3 q1
      have hY := MF.hC
      have E5 := Lib.hid hY
      have T1 : bigI (B * c.tdiv C) := by unfold bigI; omega
      have T2 : bigI (C * c.tdiv C) := by unfold bigI; omega
      have T1' := Lib.hid T1
      have T2' := Lib.hid T2
      clear T1 T2 hY
      have ix : ∀ w : World, (Instr.index 99 (.agg #[.int .i64 A, .int .i64 0, .int .i64 B, .int .i64 C]) (.int .i64 1)).run Try.prog w = .ok (.agg #[.int .i64 B, .int .i64 C]) w := fun _ => by kernel_rfl
      go_wp2_with fail
      go_upto_region 3 with fail
      go_cut [7] (fun s7 wx => MidV w A B C A' B' C' (B * c.tdiv C) (C * c.tdiv C) s7 wx)
      case first =>
        clear MF hX hX0 c1 c2 M0 N0 R0 td hg0 hg1 hw1
        have hs := MB2.size
        have hs2 := MR2.lt
        go_region_held3 (fun W => (W.cell? ⟨w.heap.size, 0, none⟩ = some (.int .i64 A) ∧ W.cell? ⟨w.heap.size, 1, none⟩ = some (.int .i64 B) ∧ W.cell? ⟨w.heap.size, 2, none⟩ = some (.int .i64 C)) ∧ (W.cell? ⟨w.heap.size + 1, 0, none⟩ = some (.int .i64 A') ∧ W.cell? ⟨w.heap.size + 1, 1, none⟩ = some (.int .i64 B') ∧ W.cell? ⟨w.heap.size + 1, 2, none⟩ = some (.int .i64 C'))) ((refine ⟨Kt.cells ?_, Kt.cells ?_⟩ <;> repeat (first | assumption | with_reducible refine Kt.drew ?_ | with_reducible refine Kt.alloc ?_ _ | ((with_reducible refine Kt.put ?_ ?_); (first | exact Nat.lt_succ_self _ | omega | (dsimp only; omega))) | with_reducible refine Kt.call ?_ (by assumption))))
          (first
            | (go_at_call 85; refine (basis_any A B C _).mono ?_; rintro e u1 ⟨rfl, rfl⟩)
            | (go_at_call 70; refine (timesX_any B C (c.tdiv C) _ T1'.out T2'.out).mono ?_; rintro e u1 ⟨rfl, rfl⟩))
        all_goals
          go_wp2_with fail
          go_meet
          refine ⟨_, rfl, (by first | omega | (simp; done) | (simp; omega)), ⟨(by first | (simp; done) | (simp; omega)), by simp [go_sem], by simp [go_sem], by simp [go_sem], by simp [go_sem]⟩, ?_, ?_, ?_, ?_⟩
          · repeat (first | assumption | with_reducible refine Kt.drew ?_ | with_reducible refine Kt.alloc ?_ _ | ((with_reducible refine Kt.put ?_ ?_); (first | exact Nat.lt_succ_self _ | omega | (dsimp only; omega))) | with_reducible refine Kt.call ?_ (by assumption))
          · repeat (first | assumption | with_reducible refine Kt.drew ?_ | with_reducible refine Kt.alloc ?_ _ | ((with_reducible refine Kt.put ?_ ?_); (first | exact Nat.lt_succ_self _ | omega | (dsimp only; omega))) | with_reducible refine Kt.call ?_ (by assumption))
          · repeat (first | assumption | with_reducible refine KL.drew ?_ | with_reducible refine KL.alloc ?_ _ | ((with_reducible refine KL.put ?_ ?_); (first | exact Nat.lt_succ_self _ | omega | (dsimp only; omega))) | with_reducible refine KL.call ?_ (by assumption))
          · repeat (first | assumption | exact Below.refl _ _ | with_reducible refine Below.drew ?_ | with_reducible refine Below.alloc ?_ (by first | omega | (simp; done) | (simp; omega)) _ | with_reducible refine bstep ?_ (by assumption))
      case rest =>
        obtain ⟨g, rfl, hg, KV, ML3, MM3, MR3, MB3⟩ := hcut
        rw [E5.out] at KV
        have i1 := MF.i1
        have i2 := MF.i2
        have a1 := MF.a1
        have a2 := MF.a2
        clear hX0 c1 c2 ix T1' T2' hw5 hw1 td hg0 hg1 M0 N0 R0 MF ML MM MR MB ML2 MM2 MR2 MB2
        have hX0 := Int.mul_nonneg h3 q1
        go_wp2_with fail
        go_loopw [42] (fun _ W => ∃ x j : Int, 0 ≤ j ∧ j ≤ i ∧ Hid (x = B * c.tdiv C + A * j) ∧ KW g x c W ∧ MidM w A B C A' B' C' W) (fun _ W => (B * c.tdiv C + A * i - cellX g W).toNat)
        case atStart => exact ⟨B * c.tdiv C, 0, by omega, i1, Lib.hid (by rw [Int.mul_zero, Int.add_zero]), KV, ML3, MM3, MR3, MB3⟩
        case round =>
          clear KV ML3 MM3 MR3 MB3
          obtain ⟨x, j, jj0, jj1, HX, KV, PL, PM, PR, PB⟩ := hrel
          have hj0 := Int.mul_nonneg (show 0 ≤ A by omega) jj0
          have hj1 := Int.mul_le_mul (show A ≤ 64 by omega) (show j ≤ 64 by omega) jj0 (by omega)
          have hxe := HX.out
          have cx1 : 1 ≤ c := HF.out.c1
          have cx2 : c ≤ 4096 := HF.out.c2
          have xb : 0 ≤ x ∧ x ≤ 300000 := by omega
          obtain ⟨v0, v1, v2, v3, v4⟩ := id KV
          obtain ⟨l0, l1, l2, l3⟩ := id PL
          obtain ⟨m0, m1, m2, m3⟩ := id PM
          have hcA := cellX_of KV.c0
          have hs := PB.size
          have ng : ¬ g = w.heap.size := by omega
          clear hxe hX hX0 hj0 hj1
          rcases hh : hasB A' B' C' x c with _ | _
          · have HH := Lib.hid hh
            have HcA := Lib.hid hcA
            clear hcA
            have hne : j ≠ i := by
              rintro rfl
              have e3 := (both_iff.1 HF.out.hi).2
              rw [Int.mul_comm (c.tdiv C) B, ← HX.out, HH.out] at e3
              cases e3
            go_wp2_with fail
            refine (contains_any A' B' C' x c _ H'.out (by unfold midI; omega) (by unfold midI; omega)).mono ?_
            rintro e u1 ⟨rfl, hb1⟩
            rw [HH.out]
            have KV1 := KV.call hb1
            have PL1 := PL.call hb1
            have PM1 := PM.call hb1
            have PR1 := PR.call hb1
            have PB1 := bstep PB hb1
            clear hb1 v0 v1 v2 v3 v4 l0 l1 l2 l3 m0 m1 m2 m3 KV PL PM PR PB hh
            obtain ⟨v0, v1, v2, v3, v4⟩ := id KV1
            obtain ⟨l0, l1, l2, l3⟩ := id PL1
            go_wp2
            go_roundw
            case rel => exact ⟨x + A, j + 1, by omega, by omega, by show x + A = _; rw [HX.out, Int.mul_add, Int.mul_one]; omega, KW.store0 KV1 _, by exact Kt.put (by show _ < g; omega) (by assumption), by exact Kt.put (by show _ < g; omega) (by assumption), KL.put (by show w.heap.size + 1 + 1 < g; omega) PR1, Below.setCell PB1 (by show w.heap.size ≤ g; omega) _⟩
            case measure =>
              have e4 := (KW.store0 KV1 (x + A)).c0
              have e6 : A * j < A * i := by
                have := Int.mul_le_mul_of_nonneg_left (show j + 1 ≤ i by omega) (show 0 ≤ A by omega)
                rw [Int.mul_add, Int.mul_one] at this
                omega
              have e7 := HX.out
              rw [HcA.out, cellX_of e4]
              omega
          · have HH := Lib.hid hh
            have hb : x % a = b := HF.out.uniq (by omega) (by omega) (both_iff.2 ⟨has_line HF.out.hi HX.out, HH.out⟩)
            have HB := Lib.hid hb
            clear hb
            go_wp2_with fail
            refine (contains_any A' B' C' x c _ H'.out (by unfold midI; omega) (by unfold midI; omega)).mono ?_
            rintro e u1 ⟨rfl, hb1⟩
            rw [HH.out]
            have KV1 := KV.call hb1
            have PR1 := PR.call hb1
            have PB1 := bstep PB hb1
            clear hb1 v0 v1 v2 v3 v4 l0 l1 l2 l3 m0 m1 m2 m3 KV PL PM PR PB hh
            obtain ⟨v0, v1, v2, v3, v4⟩ := id KV1
            go_wp2_with fail
            refine (remainder_any x a _ (by unfold bigI; omega) (by omega) (by unfold bigI; omega)).mono ?_
            rintro e u2 ⟨rfl, hb2⟩
            have PR2 := PR1.call hb2
            have PB2 := bstep PB1 hb2
            obtain ⟨b0, b1, b2, b3, b4, b5, b6⟩ := id PR2
            clear hb2 PR1 PB1 v0 v1 v2 v3 v4 KV1
            go_wp2
            refine bodyPost_ret (v := .agg #[.int .i64 a, .int .i64 (x % a), .int .i64 c]) (by simp [results, Try.results75, go_sem, b0, b1, b2, b3, b4, b5, b6]) rfl ⟨ret_val (by rw [HB.out]), ?_⟩
            repeat (first | assumption | refine Below.setCell ?_ (by first | omega | (simp <;> omega)) _)

end Go.Proofs.Ytlalibefmnenjaa
