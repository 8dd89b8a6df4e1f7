/-
  Contracts of the small functions of chapter 2 (program and model): whether a matrix is valid, its determinant, products and images. Conditions: only the bounds that are stated.
-/
import Derived.Test.YtodkomaeljbhaaaChap1
import Derived.LoopTactic
import Derived.Deep.RegionHeld3
namespace Go.Proofs.Ytodkomaeljbhaaa
open Go.RowKit
set_option linter.unusedSimpArgs false
set_option linter.unusedVariables false

def limB (a b c d : Int) : Bool := vecB a b && vecB c d
def matB (a b c d : Int) : Bool := limB a b c d && (a * d - b * c == 1 || a * d - b * c == -1)
theorem limB_bd {a b c d : Int} (h : limB a b c d = true) : ((-1000 ≤ a ∧ a ≤ 1000) ∧ (-1000 ≤ b ∧ b ≤ 1000)) ∧ ((-1000 ≤ c ∧ c ≤ 1000) ∧ (-1000 ≤ d ∧ d ≤ 1000)) := by
  simp [limB] at h
  exact ⟨vecB_bd h.1, vecB_bd h.2⟩
theorem limB_of {a b c d : Int} (ha : inB a (-1000) 1000 = true) (hb : inB b (-1000) 1000 = true) (hc : inB c (-1000) 1000 = true) (hd : inB d (-1000) 1000 = true) : limB a b c d = true := by
  simp [inB] at ha hb hc hd
  simp [limB, vecB]; omega
theorem limB_not {a b c d : Int} (h : inB a (-1000) 1000 = false ∨ inB b (-1000) 1000 = false ∨ inB c (-1000) 1000 = false ∨ inB d (-1000) 1000 = false) : limB a b c d = false := by
  simp [inB] at h
  simp [limB, vecB]; omega
theorem matB_lim {a b c d : Int} (h : matB a b c d = true) : limB a b c d = true := by simp [matB] at h; exact h.1
theorem matB_det {a b c d : Int} (h : matB a b c d = true) : a * d - b * c = 1 ∨ a * d - b * c = -1 := by simp [matB] at h; exact h.2
theorem mulBd {a b : Int} {A B : Int} (ha : -A ≤ a) (ha' : a ≤ A) (hb : -B ≤ b) (hb' : b ≤ B) : -(A * B) ≤ a * b ∧ a * b ≤ A * B := by
  have hA : 0 ≤ A := by omega
  have hB : 0 ≤ B := by omega
  have h1 : a.natAbs ≤ A.natAbs := by omega
  have h2 : b.natAbs ≤ B.natAbs := by omega
  have h3 : (a * b).natAbs ≤ (A * B).natAbs := by
    rw [Int.natAbs_mul, Int.natAbs_mul]; exact Nat.mul_le_mul h1 h2
  have h4 : 0 ≤ A * B := Int.mul_nonneg hA hB
  omega
theorem mul1000 {a b : Int} (ha : -1000 ≤ a ∧ a ≤ 1000) (hb : -1000 ≤ b ∧ b ≤ 1000) : -1000000 ≤ a * b ∧ a * b ≤ 1000000 := by
  have := mulBd ha.1 ha.2 hb.1 hb.2
  omega

/- which numbers of a matrix have been looked at -/
def LimAt (a b c d k : Int) : Prop :=
  k = 0 ∨ (k = 1 ∧ inB a (-1000) 1000 = true) ∨ (k = 2 ∧ inB a (-1000) 1000 = true ∧ inB b (-1000) 1000 = true) ∨
  (k = 3 ∧ inB a (-1000) 1000 = true ∧ inB b (-1000) 1000 = true ∧ inB c (-1000) 1000 = true) ∨
  (k = 4 ∧ limB a b c d = true)

set_option maxHeartbeats 1000000 in
theorem matrixOf_any (a b c d : Int) (w : World) :
    Calls Try.prog 34 #[.agg #[.int .i64 a, .int .i64 b, .int .i64 c, .int .i64 d]] w fun e w' => e = .returned (.agg #[.int .i64 a, .int .i64 b, .int .i64 c, .int .i64 d]) ∧ Below w.heap.size w w' := by
  go_enter Try.func34, Try.ntmps34
  go_wp2
  refine bodyPost_ret (v := .agg #[.int .i64 a, .int .i64 b, .int .i64 c, .int .i64 d]) (by simp [results, Try.results34, go_sem]) rfl ⟨rfl, ?_⟩
  repeat (first | exact Below.refl _ _ | refine Below.setCell ?_ (by first | omega | (simp <;> omega)) _ | refine Below.alloc ?_ (by first | omega | (simp <;> omega)) _ | refine bstep ?_ (by assumption) | refine Below.drew ?_)

set_option maxHeartbeats 1000000 in
theorem toMat_any (a b c d : Int) (w : World) :
    Calls Try.prog 8 #[.agg #[.int .i64 a, .int .i64 b, .int .i64 c, .int .i64 d]] w fun e w' => e = .returned (.agg #[.int .i64 a, .int .i64 b, .int .i64 c, .int .i64 d]) ∧ Below w.heap.size w w' := by
  go_enter Try.func8, Try.ntmps8
  go_wp2
  refine bodyPost_ret (v := .agg #[.int .i64 a, .int .i64 b, .int .i64 c, .int .i64 d]) (by simp [results, Try.results8, go_sem]) rfl ⟨rfl, ?_⟩
  repeat (first | exact Below.refl _ _ | refine Below.setCell ?_ (by first | omega | (simp <;> omega)) _ | refine Below.alloc ?_ (by first | omega | (simp <;> omega)) _ | refine bstep ?_ (by assumption) | refine Below.drew ?_)

set_option maxHeartbeats 1000000 in
theorem isLimited_any (a b c d : Int) (w : World) :
    Calls Try.prog 86 #[.agg #[.int .i64 a, .int .i64 b, .int .i64 c, .int .i64 d]] w fun e w' => e = .returned (.bool (limB a b c d)) ∧ Below w.heap.size w w' := by
  go_enter Try.func86, Try.ntmps86
  go_wp2_with fail
  go_loop [6] (fun i => ∃ k : Int, i = .int .i64 k ∧ LimAt a b c d k) (fun i => (4 - intOf i).toNat)
  case atStart => exact ⟨0, rfl, .inl rfl⟩
  case round =>
    obtain ⟨k, rfl, hk⟩ := hrel
    rcases hk with rfl | ⟨rfl, h0⟩ | ⟨rfl, h0, h1⟩ | ⟨rfl, h0, h1, h2⟩ | ⟨rfl, h0⟩
    · have ix : ∀ w : World, (Instr.index 50 (.agg #[.int .i64 a, .int .i64 b, .int .i64 c, .int .i64 d]) (.int .i64 0)).run Try.prog w = .ok (.int .i64 a) w := fun _ => by kernel_rfl
      rcases hx : inB a (-1000) 1000 with _ | _
      · go_wp2_with (go_at_call 78; refine (isWithin_any _ _ _ (by omega) (by omega)).mono ?_; rintro e w' ⟨rfl, rfl⟩)
        go_ret
        exact ⟨ret_bool (limB_not (.inl hx)).symm, (Below.refl _ _).alloc (Nat.le_refl _) _⟩
      · go_wp2_with (go_at_call 78; refine (isWithin_any _ _ _ (by omega) (by omega)).mono ?_; rintro e w' ⟨rfl, rfl⟩)
        go_round
        case rel => exact ⟨1, rfl, .inr (.inl ⟨rfl, hx⟩)⟩
        case measure => simp [intOf]
    · have ix : ∀ w : World, (Instr.index 50 (.agg #[.int .i64 a, .int .i64 b, .int .i64 c, .int .i64 d]) (.int .i64 1)).run Try.prog w = .ok (.int .i64 b) w := fun _ => by kernel_rfl
      rcases hx : inB b (-1000) 1000 with _ | _
      · go_wp2_with (go_at_call 78; refine (isWithin_any _ _ _ (by omega) (by omega)).mono ?_; rintro e w' ⟨rfl, rfl⟩)
        go_ret
        exact ⟨ret_bool (limB_not (.inr (.inl hx))).symm, (Below.refl _ _).alloc (Nat.le_refl _) _⟩
      · go_wp2_with (go_at_call 78; refine (isWithin_any _ _ _ (by omega) (by omega)).mono ?_; rintro e w' ⟨rfl, rfl⟩)
        go_round
        case rel => exact ⟨2, rfl, .inr (.inr (.inl ⟨rfl, h0, hx⟩))⟩
        case measure => simp [intOf]
    · have ix : ∀ w : World, (Instr.index 50 (.agg #[.int .i64 a, .int .i64 b, .int .i64 c, .int .i64 d]) (.int .i64 2)).run Try.prog w = .ok (.int .i64 c) w := fun _ => by kernel_rfl
      rcases hx : inB c (-1000) 1000 with _ | _
      · go_wp2_with (go_at_call 78; refine (isWithin_any _ _ _ (by omega) (by omega)).mono ?_; rintro e w' ⟨rfl, rfl⟩)
        go_ret
        exact ⟨ret_bool (limB_not (.inr (.inr (.inl hx)))).symm, (Below.refl _ _).alloc (Nat.le_refl _) _⟩
      · go_wp2_with (go_at_call 78; refine (isWithin_any _ _ _ (by omega) (by omega)).mono ?_; rintro e w' ⟨rfl, rfl⟩)
        go_round
        case rel => exact ⟨3, rfl, .inr (.inr (.inr (.inl ⟨rfl, h0, h1, hx⟩)))⟩
        case measure => simp [intOf]
    · have ix : ∀ w : World, (Instr.index 50 (.agg #[.int .i64 a, .int .i64 b, .int .i64 c, .int .i64 d]) (.int .i64 3)).run Try.prog w = .ok (.int .i64 d) w := fun _ => by kernel_rfl
      rcases hx : inB d (-1000) 1000 with _ | _
      · go_wp2_with (go_at_call 78; refine (isWithin_any _ _ _ (by omega) (by omega)).mono ?_; rintro e w' ⟨rfl, rfl⟩)
        go_ret
        exact ⟨ret_bool (limB_not (.inr (.inr (.inr (hx))))).symm, (Below.refl _ _).alloc (Nat.le_refl _) _⟩
      · go_wp2_with (go_at_call 78; refine (isWithin_any _ _ _ (by omega) (by omega)).mono ?_; rintro e w' ⟨rfl, rfl⟩)
        go_round
        case rel => exact ⟨4, rfl, .inr (.inr (.inr (.inr ⟨rfl, limB_of h0 h1 h2 hx⟩)))⟩
        case measure => simp [intOf]
    · have H0 := Lib.hid h0
      clear h0
      go_wp2
      go_ret
      exact ⟨ret_bool H0.out.symm, (Below.refl _ _).alloc (Nat.le_refl _) _⟩

set_option maxHeartbeats 1000000 in
theorem det_any (a b c d : Int) (w : World) (h : limB a b c d = true) :
    Calls Try.prog 59 #[.agg #[.int .i64 a, .int .i64 b, .int .i64 c, .int .i64 d]] w fun e w' => e = .returned (.int .i64 (a * d - b * c)) ∧ Below w.heap.size w w' := by
  obtain ⟨⟨ha, hb⟩, hc, hd⟩ := limB_bd h
  obtain ⟨b1, b2⟩ := mul1000 ha hd
  obtain ⟨b3, b4⟩ := mul1000 hb hc
  clear h
  go_enter Try.func59, Try.ntmps59
  go_wp2
  go_ret
  refine ⟨rfl, ?_⟩
  repeat (first | exact Below.refl _ _ | refine Below.setCell ?_ (by first | omega | (simp <;> omega)) _ | refine Below.alloc ?_ (by first | omega | (simp <;> omega)) _ | refine bstep ?_ (by assumption) | refine Below.drew ?_)

set_option maxHeartbeats 1000000 in
theorem l02Det_any (a b c d : Int) (w : World) (h : limB a b c d = true) :
    Calls Try.prog 24 #[.agg #[.int .i64 a, .int .i64 b, .int .i64 c, .int .i64 d]] w fun e w' => e = .returned (.int .i64 (a * d - b * c)) ∧ Below w.heap.size w w' := by
  obtain ⟨⟨ha, hb⟩, hc, hd⟩ := limB_bd h
  obtain ⟨b1, b2⟩ := mul1000 ha hd
  obtain ⟨b3, b4⟩ := mul1000 hb hc
  clear h
  go_enter Try.func24, Try.ntmps24
  go_wp2
  go_ret
  refine ⟨rfl, ?_⟩
  repeat (first | exact Below.refl _ _ | refine Below.setCell ?_ (by first | omega | (simp <;> omega)) _ | refine Below.alloc ?_ (by first | omega | (simp <;> omega)) _ | refine bstep ?_ (by assumption) | refine Below.drew ?_)

set_option maxHeartbeats 1000000 in
theorem trace_any (a b c d : Int) (w : World) (h : limB a b c d = true) :
    Calls Try.prog 60 #[.agg #[.int .i64 a, .int .i64 b, .int .i64 c, .int .i64 d]] w fun e w' => e = .returned (.int .i64 (a + d)) ∧ Below w.heap.size w w' := by
  obtain ⟨⟨ha, hb⟩, hc, hd⟩ := limB_bd h
  clear h
  go_enter Try.func60, Try.ntmps60
  go_wp2
  go_ret
  refine ⟨rfl, ?_⟩
  repeat (first | exact Below.refl _ _ | refine Below.setCell ?_ (by first | omega | (simp <;> omega)) _ | refine Below.alloc ?_ (by first | omega | (simp <;> omega)) _ | refine bstep ?_ (by assumption) | refine Below.drew ?_)

set_option maxHeartbeats 1000000 in
theorem l02Small_any (a b c d : Int) (w : World) :
    Calls Try.prog 82 #[.agg #[.int .i64 a, .int .i64 b, .int .i64 c, .int .i64 d]] w fun e w' => e = .returned (.bool (limB a b c d)) ∧ Below w.heap.size w w' := by
  rcases h1 : vecB a b with _ | _
  · have ea : limB a b c d = false := by simp [limB, h1]
    have EA := Lib.hid ea
    clear ea
    go_enter Try.func82, Try.ntmps82
    go_wp2_with fail
    refine (specIsVec_any _ _ _).mono ?_
    rintro e w1 ⟨rfl, hb1⟩
    obtain ⟨hc1, hf1⟩ := bcell hb1
    have hz1a : w.heap.size < w1.heap.size := by have := hb1.size; (try simp at this); omega
    go_wp2
    go_ret
    refine ⟨ret_bool EA.out.symm, ?_⟩
    repeat (first | exact Below.refl _ _ | refine Below.setCell ?_ (by first | omega | (simp <;> omega)) _ | refine Below.alloc ?_ (by first | omega | (simp <;> omega)) _ | refine bstep ?_ (by assumption) | refine Below.drew ?_)
  rcases h2 : vecB c d with _ | _
  · have ea : limB a b c d = false := by simp [limB, h2]
    have EA := Lib.hid ea
    clear ea
    go_enter Try.func82, Try.ntmps82
    go_wp2_with fail
    refine (specIsVec_any _ _ _).mono ?_
    rintro e w1 ⟨rfl, hb1⟩
    obtain ⟨hc1, hf1⟩ := bcell hb1
    have hz1a : w.heap.size < w1.heap.size := by have := hb1.size; (try simp at this); omega
    go_wp2_with fail
    refine (specIsVec_any _ _ _).mono ?_
    rintro e w2 ⟨rfl, hb2⟩
    obtain ⟨hc2, hf2⟩ := bcell hb2
    have hz2a : w.heap.size < w2.heap.size := by have := hb2.size; (try simp at this); omega
    go_wp2
    go_ret
    refine ⟨ret_bool EA.out.symm, ?_⟩
    repeat (first | exact Below.refl _ _ | refine Below.setCell ?_ (by first | omega | (simp <;> omega)) _ | refine Below.alloc ?_ (by first | omega | (simp <;> omega)) _ | refine bstep ?_ (by assumption) | refine Below.drew ?_)
  · have ea : limB a b c d = true := by simp [limB, h1, h2]
    have EA := Lib.hid ea
    clear ea
    go_enter Try.func82, Try.ntmps82
    go_wp2_with fail
    refine (specIsVec_any _ _ _).mono ?_
    rintro e w1 ⟨rfl, hb1⟩
    obtain ⟨hc1, hf1⟩ := bcell hb1
    have hz1a : w.heap.size < w1.heap.size := by have := hb1.size; (try simp at this); omega
    go_wp2_with fail
    refine (specIsVec_any _ _ _).mono ?_
    rintro e w2 ⟨rfl, hb2⟩
    obtain ⟨hc2, hf2⟩ := bcell hb2
    have hz2a : w.heap.size < w2.heap.size := by have := hb2.size; (try simp at this); omega
    go_wp2
    go_ret
    refine ⟨ret_bool EA.out.symm, ?_⟩
    repeat (first | exact Below.refl _ _ | refine Below.setCell ?_ (by first | omega | (simp <;> omega)) _ | refine Below.alloc ?_ (by first | omega | (simp <;> omega)) _ | refine bstep ?_ (by assumption) | refine Below.drew ?_)

set_option maxHeartbeats 1000000 in
theorem isValidM_any (a b c d : Int) (w : World) :
    Calls Try.prog 84 #[.agg #[.int .i64 a, .int .i64 b, .int .i64 c, .int .i64 d]] w fun e w' => e = .returned (.bool (matB a b c d)) ∧ Below w.heap.size w w' := by
  rcases hl : limB a b c d with _ | _
  · have ea : matB a b c d = false := by simp [matB, hl]
    have EA := Lib.hid ea
    clear ea
    go_enter Try.func84, Try.ntmps84
    go_wp2_with fail
    refine (isLimited_any _ _ _ _ _).mono ?_
    rintro e w1 ⟨rfl, hb1⟩
    obtain ⟨hc1, hf1⟩ := bcell hb1
    have hz1a : w.heap.size < w1.heap.size := by have := hb1.size; (try simp at this); omega
    go_wp2
    go_ret
    refine ⟨ret_bool EA.out.symm, ?_⟩
    repeat (first | exact Below.refl _ _ | refine Below.setCell ?_ (by first | omega | (simp <;> omega)) _ | refine Below.alloc ?_ (by first | omega | (simp <;> omega)) _ | refine bstep ?_ (by assumption) | refine Below.drew ?_)
  rcases hd : inB (a * d - b * c) (-1) 1 with _ | _
  · have ea : matB a b c d = false := by simp [inB] at hd; simp [matB, hl]; omega
    have EA := Lib.hid ea
    clear ea
    go_enter Try.func84, Try.ntmps84
    go_wp2_with fail
    refine (isLimited_any _ _ _ _ _).mono ?_
    rintro e w1 ⟨rfl, hb1⟩
    obtain ⟨hc1, hf1⟩ := bcell hb1
    have hz1a : w.heap.size < w1.heap.size := by have := hb1.size; (try simp at this); omega
    go_wp2_with fail
    refine (det_any _ _ _ _ _ hl).mono ?_
    rintro e w2 ⟨rfl, hb2⟩
    obtain ⟨hc2, hf2⟩ := bcell hb2
    have hz2a : w.heap.size < w2.heap.size := by have := hb2.size; (try simp at this); omega
    go_wp2_with fail
    refine (isWithin_any _ _ _ (by omega) (by omega)).mono ?_
    rintro e w3 ⟨rfl, rfl⟩
    go_wp2
    go_ret
    refine ⟨ret_bool EA.out.symm, ?_⟩
    repeat (first | exact Below.refl _ _ | refine Below.setCell ?_ (by first | omega | (simp <;> omega)) _ | refine Below.alloc ?_ (by first | omega | (simp <;> omega)) _ | refine bstep ?_ (by assumption) | refine Below.drew ?_)
  rcases hz : a * d - b * c == 0 with _ | _
  · have ea : matB a b c d = true := by simp [inB] at hd; simp at hz; simp [matB, hl]; omega
    have hz' : (a * d - b * c != 0) = true := by simp [bne, hz]
    have EA := Lib.hid ea
    clear ea
    go_enter Try.func84, Try.ntmps84
    go_wp2_with fail
    refine (isLimited_any _ _ _ _ _).mono ?_
    rintro e w1 ⟨rfl, hb1⟩
    obtain ⟨hc1, hf1⟩ := bcell hb1
    have hz1a : w.heap.size < w1.heap.size := by have := hb1.size; (try simp at this); omega
    go_wp2_with fail
    refine (det_any _ _ _ _ _ hl).mono ?_
    rintro e w2 ⟨rfl, hb2⟩
    obtain ⟨hc2, hf2⟩ := bcell hb2
    have hz2a : w.heap.size < w2.heap.size := by have := hb2.size; (try simp at this); omega
    go_wp2_with fail
    refine (isWithin_any _ _ _ (by omega) (by omega)).mono ?_
    rintro e w3 ⟨rfl, rfl⟩
    go_wp2_with fail
    refine (det_any _ _ _ _ _ hl).mono ?_
    rintro e w4 ⟨rfl, hb4⟩
    obtain ⟨hc4, hf4⟩ := bcell hb4
    have hz4a : w.heap.size < w4.heap.size := by have := hb4.size; (try simp at this); omega
    go_wp2
    go_ret
    refine ⟨ret_bool EA.out.symm, ?_⟩
    repeat (first | exact Below.refl _ _ | refine Below.setCell ?_ (by first | omega | (simp <;> omega)) _ | refine Below.alloc ?_ (by first | omega | (simp <;> omega)) _ | refine bstep ?_ (by assumption) | refine Below.drew ?_)
  · have ea : matB a b c d = false := by simp at hz; simp [matB, hz]
    have hz' : (a * d - b * c != 0) = false := by simp [bne, hz]
    have EA := Lib.hid ea
    clear ea
    go_enter Try.func84, Try.ntmps84
    go_wp2_with fail
    refine (isLimited_any _ _ _ _ _).mono ?_
    rintro e w1 ⟨rfl, hb1⟩
    obtain ⟨hc1, hf1⟩ := bcell hb1
    have hz1a : w.heap.size < w1.heap.size := by have := hb1.size; (try simp at this); omega
    go_wp2_with fail
    refine (det_any _ _ _ _ _ hl).mono ?_
    rintro e w2 ⟨rfl, hb2⟩
    obtain ⟨hc2, hf2⟩ := bcell hb2
    have hz2a : w.heap.size < w2.heap.size := by have := hb2.size; (try simp at this); omega
    go_wp2_with fail
    refine (isWithin_any _ _ _ (by omega) (by omega)).mono ?_
    rintro e w3 ⟨rfl, rfl⟩
    go_wp2_with fail
    refine (det_any _ _ _ _ _ hl).mono ?_
    rintro e w4 ⟨rfl, hb4⟩
    obtain ⟨hc4, hf4⟩ := bcell hb4
    have hz4a : w.heap.size < w4.heap.size := by have := hb4.size; (try simp at this); omega
    go_wp2
    go_ret
    refine ⟨ret_bool EA.out.symm, ?_⟩
    repeat (first | exact Below.refl _ _ | refine Below.setCell ?_ (by first | omega | (simp <;> omega)) _ | refine Below.alloc ?_ (by first | omega | (simp <;> omega)) _ | refine bstep ?_ (by assumption) | refine Below.drew ?_)

set_option maxHeartbeats 1000000 in
theorem specIsMat_any (a b c d : Int) (w : World) :
    Calls Try.prog 67 #[.agg #[.int .i64 a, .int .i64 b, .int .i64 c, .int .i64 d]] w fun e w' => e = .returned (.bool (matB a b c d)) ∧ Below w.heap.size w w' := by
  rcases hl : limB a b c d with _ | _
  · have ea : matB a b c d = false := by simp [matB, hl]
    have EA := Lib.hid ea
    clear ea
    go_enter Try.func67, Try.ntmps67
    go_wp2_with fail
    refine (l02Small_any _ _ _ _ _).mono ?_
    rintro e w1 ⟨rfl, hb1⟩
    obtain ⟨hc1, hf1⟩ := bcell hb1
    have hz1a : w.heap.size < w1.heap.size := by have := hb1.size; (try simp at this); omega
    go_wp2
    go_ret
    refine ⟨ret_bool EA.out.symm, ?_⟩
    repeat (first | exact Below.refl _ _ | refine Below.setCell ?_ (by first | omega | (simp <;> omega)) _ | refine Below.alloc ?_ (by first | omega | (simp <;> omega)) _ | refine bstep ?_ (by assumption) | refine Below.drew ?_)
  rcases hd : a * d - b * c == 1 with _ | _
  · rcases hz : a * d - b * c == -1 with _ | _
    · have ea : matB a b c d = false := by simp [matB, hd, hz]
      have EA := Lib.hid ea
      clear ea
      go_enter Try.func67, Try.ntmps67
      go_wp2_with fail
      refine (l02Small_any _ _ _ _ _).mono ?_
      rintro e w1 ⟨rfl, hb1⟩
      obtain ⟨hc1, hf1⟩ := bcell hb1
      have hz1a : w.heap.size < w1.heap.size := by have := hb1.size; (try simp at this); omega
      go_wp2_with fail
      refine (l02Det_any _ _ _ _ _ hl).mono ?_
      rintro e w2 ⟨rfl, hb2⟩
      obtain ⟨hc2, hf2⟩ := bcell hb2
      have hz2a : w.heap.size < w2.heap.size := by have := hb2.size; (try simp at this); omega
      go_wp2_with fail
      refine (l02Det_any _ _ _ _ _ hl).mono ?_
      rintro e w3 ⟨rfl, hb3⟩
      obtain ⟨hc3, hf3⟩ := bcell hb3
      have hz3a : w.heap.size < w3.heap.size := by have := hb3.size; (try simp at this); omega
      go_wp2
      go_ret
      refine ⟨ret_bool EA.out.symm, ?_⟩
      repeat (first | exact Below.refl _ _ | refine Below.setCell ?_ (by first | omega | (simp <;> omega)) _ | refine Below.alloc ?_ (by first | omega | (simp <;> omega)) _ | refine bstep ?_ (by assumption) | refine Below.drew ?_)
    · have ea : matB a b c d = true := by simp [matB, hl, hz]
      have EA := Lib.hid ea
      clear ea
      go_enter Try.func67, Try.ntmps67
      go_wp2_with fail
      refine (l02Small_any _ _ _ _ _).mono ?_
      rintro e w1 ⟨rfl, hb1⟩
      obtain ⟨hc1, hf1⟩ := bcell hb1
      have hz1a : w.heap.size < w1.heap.size := by have := hb1.size; (try simp at this); omega
      go_wp2_with fail
      refine (l02Det_any _ _ _ _ _ hl).mono ?_
      rintro e w2 ⟨rfl, hb2⟩
      obtain ⟨hc2, hf2⟩ := bcell hb2
      have hz2a : w.heap.size < w2.heap.size := by have := hb2.size; (try simp at this); omega
      go_wp2_with fail
      refine (l02Det_any _ _ _ _ _ hl).mono ?_
      rintro e w3 ⟨rfl, hb3⟩
      obtain ⟨hc3, hf3⟩ := bcell hb3
      have hz3a : w.heap.size < w3.heap.size := by have := hb3.size; (try simp at this); omega
      go_wp2
      go_ret
      refine ⟨ret_bool EA.out.symm, ?_⟩
      repeat (first | exact Below.refl _ _ | refine Below.setCell ?_ (by first | omega | (simp <;> omega)) _ | refine Below.alloc ?_ (by first | omega | (simp <;> omega)) _ | refine bstep ?_ (by assumption) | refine Below.drew ?_)
  · have ea : matB a b c d = true := by simp [matB, hl, hd]
    have EA := Lib.hid ea
    clear ea
    go_enter Try.func67, Try.ntmps67
    go_wp2_with fail
    refine (l02Small_any _ _ _ _ _).mono ?_
    rintro e w1 ⟨rfl, hb1⟩
    obtain ⟨hc1, hf1⟩ := bcell hb1
    have hz1a : w.heap.size < w1.heap.size := by have := hb1.size; (try simp at this); omega
    go_wp2_with fail
    refine (l02Det_any _ _ _ _ _ hl).mono ?_
    rintro e w2 ⟨rfl, hb2⟩
    obtain ⟨hc2, hf2⟩ := bcell hb2
    have hz2a : w.heap.size < w2.heap.size := by have := hb2.size; (try simp at this); omega
    go_wp2
    go_ret
    refine ⟨ret_bool EA.out.symm, ?_⟩
    repeat (first | exact Below.refl _ _ | refine Below.setCell ?_ (by first | omega | (simp <;> omega)) _ | refine Below.alloc ?_ (by first | omega | (simp <;> omega)) _ | refine bstep ?_ (by assumption) | refine Below.drew ?_)

set_option maxHeartbeats 1000000 in
theorem implIsMat_any (a b c d : Int) (w : World) :
    Calls Try.prog 75 #[.agg #[.int .i64 a, .int .i64 b, .int .i64 c, .int .i64 d]] w fun e w' => e = .returned (.bool (matB a b c d)) ∧ Below w.heap.size w w' := by
  go_enter Try.func75, Try.ntmps75
  go_wp2_with fail
  refine (matrixOf_any _ _ _ _ _).mono ?_
  rintro e w1 ⟨rfl, hb1⟩
  obtain ⟨hc1, hf1⟩ := bcell hb1
  have hz1a : w.heap.size < w1.heap.size := by have := hb1.size; (try simp at this); omega
  go_wp2_with fail
  refine (isValidM_any _ _ _ _ _).mono ?_
  rintro e w2 ⟨rfl, hb2⟩
  obtain ⟨hc2, hf2⟩ := bcell hb2
  have hz2a : w.heap.size < w2.heap.size := by have := hb2.size; (try simp at this); omega
  go_wp2
  go_ret
  refine ⟨rfl, ?_⟩
  repeat (first | exact Below.refl _ _ | refine Below.setCell ?_ (by first | omega | (simp <;> omega)) _ | refine Below.alloc ?_ (by first | omega | (simp <;> omega)) _ | refine bstep ?_ (by assumption) | refine Below.drew ?_)

def eqM (a b c d a' b' c' d' : Int) : Bool := a == a' && b == b' && c == c' && d == d'
theorem eqM_rfl (a b c d : Int) : eqM a b c d a b c d = true := by simp [eqM]

set_option maxHeartbeats 1000000 in
theorem apply_any (a b c d x y : Int) (w : World) (h : limB a b c d = true) (hv : vecB x y = true) :
    Calls Try.prog 74 #[.agg #[.int .i64 a, .int .i64 b, .int .i64 c, .int .i64 d], .agg #[.int .i64 x, .int .i64 y]] w fun e w' => e = .returned (.agg #[.int .i64 (a * x + b * y), .int .i64 (c * x + d * y)]) ∧ Below w.heap.size w w' := by
  obtain ⟨⟨ha, hb⟩, hc, hd⟩ := limB_bd h
  obtain ⟨hx, hy⟩ := vecB_bd hv
  obtain ⟨b1, b2⟩ := mul1000 ha hx
  obtain ⟨b3, b4⟩ := mul1000 hb hy
  obtain ⟨b5, b6⟩ := mul1000 hc hx
  obtain ⟨b7, b8⟩ := mul1000 hd hy
  clear h hv ha hb hc hd hx hy
  go_enter Try.func74, Try.ntmps74
  go_wp2
  refine bodyPost_ret (v := .agg #[.int .i64 (a * x + b * y), .int .i64 (c * x + d * y)]) (by simp [results, Try.results74, go_sem]) rfl ⟨rfl, ?_⟩
  repeat (first | exact Below.refl _ _ | refine Below.setCell ?_ (by first | omega | (simp <;> omega)) _ | refine Below.alloc ?_ (by first | omega | (simp <;> omega)) _ | refine bstep ?_ (by assumption) | refine Below.drew ?_)

set_option maxHeartbeats 1000000 in
theorem l02Apply_any (a b c d x y : Int) (w : World) (h : limB a b c d = true) (hv : vecB x y = true) :
    Calls Try.prog 71 #[.agg #[.int .i64 a, .int .i64 b, .int .i64 c, .int .i64 d], .agg #[.int .i64 x, .int .i64 y]] w fun e w' => e = .returned (.agg #[.int .i64 (a * x + b * y), .int .i64 (c * x + d * y)]) ∧ Below w.heap.size w w' := by
  obtain ⟨⟨ha, hb⟩, hc, hd⟩ := limB_bd h
  obtain ⟨hx, hy⟩ := vecB_bd hv
  obtain ⟨b1, b2⟩ := mul1000 ha hx
  obtain ⟨b3, b4⟩ := mul1000 hb hy
  obtain ⟨b5, b6⟩ := mul1000 hc hx
  obtain ⟨b7, b8⟩ := mul1000 hd hy
  clear h hv ha hb hc hd hx hy
  go_enter Try.func71, Try.ntmps71
  go_wp2
  refine bodyPost_ret (v := .agg #[.int .i64 (a * x + b * y), .int .i64 (c * x + d * y)]) (by simp [results, Try.results71, go_sem]) rfl ⟨rfl, ?_⟩
  repeat (first | exact Below.refl _ _ | refine Below.setCell ?_ (by first | omega | (simp <;> omega)) _ | refine Below.alloc ?_ (by first | omega | (simp <;> omega)) _ | refine bstep ?_ (by assumption) | refine Below.drew ?_)

end Go.Proofs.Ytodkomaeljbhaaa
