/-
  Several of my texts in one: Chap1, Mat1, Keep2, M4, MatO, MoF, Keep5, MRow, MoE.
-/
import Derived.Test.YtkfeajjpbmbmpaaGreatDoorGa
import Derived.LoopTactic
import Derived.Deep.RegionHeld3
import Derived.Maps.AppendAt
import Derived.IntWalk
namespace Go.Proofs.YtkfeajjpbmbmpaaGreatDoor
section
open Go.RowKit
set_option linter.unusedSimpArgs false

end
end Go.Proofs.YtkfeajjpbmbmpaaGreatDoor

namespace Go.Proofs.YtkfeajjpbmbmpaaGreatDoor
section
open Go.RowKit
set_option linter.unusedSimpArgs false
set_option linter.unusedVariables false

def limB (a b c d : Int) : Bool := vecB a b && vecB c d
def matB (a b c d : Int) : Bool := limB a b c d && (a * d - b * c == 1 || a * d - b * c == -1)
theorem limB_bd {a b c d : Int} (h : limB a b c d = true) : ((-1000 ≤ a ∧ a ≤ 1000) ∧ (-1000 ≤ b ∧ b ≤ 1000)) ∧ ((-1000 ≤ c ∧ c ≤ 1000) ∧ (-1000 ≤ d ∧ d ≤ 1000)) := by
  simp [limB] at h
  exact ⟨vecB_bd h.1, vecB_bd h.2⟩
theorem limB_of {a b c d : Int} (ha : inB a (-1000) 1000 = true) (hb : inB b (-1000) 1000 = true) (hc : inB c (-1000) 1000 = true) (hd : inB d (-1000) 1000 = true) : limB a b c d = true := by
  simp [inB] at ha hb hc hd
  simp [limB, vecB]; omega
theorem limB_not {a b c d : Int} (h : inB a (-1000) 1000 = false ∨ inB b (-1000) 1000 = false ∨ inB c (-1000) 1000 = false ∨ inB d (-1000) 1000 = false) : limB a b c d = false := by
  simp [inB] at h
  simp [limB, vecB]; omega
theorem matB_lim {a b c d : Int} (h : matB a b c d = true) : limB a b c d = true := by simp [matB] at h; exact h.1
theorem matB_det {a b c d : Int} (h : matB a b c d = true) : a * d - b * c = 1 ∨ a * d - b * c = -1 := by simp [matB] at h; exact h.2
theorem mulBd {a b : Int} {A B : Int} (ha : -A ≤ a) (ha' : a ≤ A) (hb : -B ≤ b) (hb' : b ≤ B) : -(A * B) ≤ a * b ∧ a * b ≤ A * B := by
  have hA : 0 ≤ A := by omega
  have hB : 0 ≤ B := by omega
  have h1 : a.natAbs ≤ A.natAbs := by omega
  have h2 : b.natAbs ≤ B.natAbs := by omega
  have h3 : (a * b).natAbs ≤ (A * B).natAbs := by
    rw [Int.natAbs_mul, Int.natAbs_mul]; exact Nat.mul_le_mul h1 h2
  have h4 : 0 ≤ A * B := Int.mul_nonneg hA hB
  omega
theorem mul1000 {a b : Int} (ha : -1000 ≤ a ∧ a ≤ 1000) (hb : -1000 ≤ b ∧ b ≤ 1000) : -1000000 ≤ a * b ∧ a * b ≤ 1000000 := by
  have := mulBd ha.1 ha.2 hb.1 hb.2
  omega

/- which numbers of a matrix have been looked at -/
def LimAt (a b c d k : Int) : Prop :=
  k = 0 ∨ (k = 1 ∧ inB a (-1000) 1000 = true) ∨ (k = 2 ∧ inB a (-1000) 1000 = true ∧ inB b (-1000) 1000 = true) ∨
  (k = 3 ∧ inB a (-1000) 1000 = true ∧ inB b (-1000) 1000 = true ∧ inB c (-1000) 1000 = true) ∨
  (k = 4 ∧ limB a b c d = true)

set_option maxHeartbeats 1000000 in
theorem matrixOf_any (a b c d : Int) (w : World) :
    Calls Tryz.prog 117 #[.agg #[.int .i64 a, .int .i64 b, .int .i64 c, .int .i64 d]] w fun e w' => e = .returned (.agg #[.int .i64 a, .int .i64 b, .int .i64 c, .int .i64 d]) ∧ Below w.heap.size w w' := by
  go_enter Tryz.func117, Tryz.ntmps117
  go_wp2
  refine bodyPost_ret (v := .agg #[.int .i64 a, .int .i64 b, .int .i64 c, .int .i64 d]) (by simp [results, Tryz.results117, go_sem]) rfl ⟨rfl, ?_⟩
  repeat (first | exact Below.refl _ _ | refine Below.setCell ?_ (by first | omega | (simp <;> omega)) _ | refine Below.alloc ?_ (by first | omega | (simp <;> omega)) _ | refine bstep ?_ (by assumption) | refine Below.drew ?_)

set_option maxHeartbeats 1000000 in
theorem mat_any (a b c d : Int) (w : World) :
    Calls Tryz.prog 135 #[.agg #[.int .i64 a, .int .i64 b, .int .i64 c, .int .i64 d]] w fun e w' => e = .returned (.agg #[.int .i64 a, .int .i64 b, .int .i64 c, .int .i64 d]) ∧ Below w.heap.size w w' := by
  go_enter Tryz.func135, Tryz.ntmps135
  go_wp2
  refine bodyPost_ret (v := .agg #[.int .i64 a, .int .i64 b, .int .i64 c, .int .i64 d]) (by simp [results, Tryz.results135, go_sem]) rfl ⟨rfl, ?_⟩
  repeat (first | exact Below.refl _ _ | refine Below.setCell ?_ (by first | omega | (simp <;> omega)) _ | refine Below.alloc ?_ (by first | omega | (simp <;> omega)) _ | refine bstep ?_ (by assumption) | refine Below.drew ?_)

set_option maxHeartbeats 1000000 in
theorem isLimited_any (a b c d : Int) (w : World) :
    Calls Tryz.prog 279 #[.agg #[.int .i64 a, .int .i64 b, .int .i64 c, .int .i64 d]] w fun e w' => e = .returned (.bool (limB a b c d)) ∧ Below w.heap.size w w' := by
  go_enter Tryz.func279, Tryz.ntmps279
  go_wp2_with fail
  go_loop [6] (fun i => ∃ k : Int, i = .int .i64 k ∧ LimAt a b c d k) (fun i => (4 - intOf i).toNat)
  case atStart => exact ⟨0, rfl, .inl rfl⟩
  case round =>
    obtain ⟨k, rfl, hk⟩ := hrel
    rcases hk with rfl | ⟨rfl, h0⟩ | ⟨rfl, h0, h1⟩ | ⟨rfl, h0, h1, h2⟩ | ⟨rfl, h0⟩
    · have ix : ∀ w : World, (Instr.index 111 (.agg #[.int .i64 a, .int .i64 b, .int .i64 c, .int .i64 d]) (.int .i64 0)).run Tryz.prog w = .ok (.int .i64 a) w := fun _ => by kernel_rfl
      rcases hx : inB a (-1000) 1000 with _ | _
      · go_wp2_with (go_at_call 213; refine (isWithin_any _ _ _ (by omega) (by omega)).mono ?_; rintro e w' ⟨rfl, rfl⟩)
        go_ret
        exact ⟨ret_bool (limB_not (.inl hx)).symm, (Below.refl _ _).alloc (Nat.le_refl _) _⟩
      · go_wp2_with (go_at_call 213; refine (isWithin_any _ _ _ (by omega) (by omega)).mono ?_; rintro e w' ⟨rfl, rfl⟩)
        go_round
        case rel => exact ⟨1, rfl, .inr (.inl ⟨rfl, hx⟩)⟩
        case measure => simp [intOf]
    · have ix : ∀ w : World, (Instr.index 111 (.agg #[.int .i64 a, .int .i64 b, .int .i64 c, .int .i64 d]) (.int .i64 1)).run Tryz.prog w = .ok (.int .i64 b) w := fun _ => by kernel_rfl
      rcases hx : inB b (-1000) 1000 with _ | _
      · go_wp2_with (go_at_call 213; refine (isWithin_any _ _ _ (by omega) (by omega)).mono ?_; rintro e w' ⟨rfl, rfl⟩)
        go_ret
        exact ⟨ret_bool (limB_not (.inr (.inl hx))).symm, (Below.refl _ _).alloc (Nat.le_refl _) _⟩
      · go_wp2_with (go_at_call 213; refine (isWithin_any _ _ _ (by omega) (by omega)).mono ?_; rintro e w' ⟨rfl, rfl⟩)
        go_round
        case rel => exact ⟨2, rfl, .inr (.inr (.inl ⟨rfl, h0, hx⟩))⟩
        case measure => simp [intOf]
    · have ix : ∀ w : World, (Instr.index 111 (.agg #[.int .i64 a, .int .i64 b, .int .i64 c, .int .i64 d]) (.int .i64 2)).run Tryz.prog w = .ok (.int .i64 c) w := fun _ => by kernel_rfl
      rcases hx : inB c (-1000) 1000 with _ | _
      · go_wp2_with (go_at_call 213; refine (isWithin_any _ _ _ (by omega) (by omega)).mono ?_; rintro e w' ⟨rfl, rfl⟩)
        go_ret
        exact ⟨ret_bool (limB_not (.inr (.inr (.inl hx)))).symm, (Below.refl _ _).alloc (Nat.le_refl _) _⟩
      · go_wp2_with (go_at_call 213; refine (isWithin_any _ _ _ (by omega) (by omega)).mono ?_; rintro e w' ⟨rfl, rfl⟩)
        go_round
        case rel => exact ⟨3, rfl, .inr (.inr (.inr (.inl ⟨rfl, h0, h1, hx⟩)))⟩
        case measure => simp [intOf]
    · have ix : ∀ w : World, (Instr.index 111 (.agg #[.int .i64 a, .int .i64 b, .int .i64 c, .int .i64 d]) (.int .i64 3)).run Tryz.prog w = .ok (.int .i64 d) w := fun _ => by kernel_rfl
      rcases hx : inB d (-1000) 1000 with _ | _
      · go_wp2_with (go_at_call 213; refine (isWithin_any _ _ _ (by omega) (by omega)).mono ?_; rintro e w' ⟨rfl, rfl⟩)
        go_ret
        exact ⟨ret_bool (limB_not (.inr (.inr (.inr (hx))))).symm, (Below.refl _ _).alloc (Nat.le_refl _) _⟩
      · go_wp2_with (go_at_call 213; refine (isWithin_any _ _ _ (by omega) (by omega)).mono ?_; rintro e w' ⟨rfl, rfl⟩)
        go_round
        case rel => exact ⟨4, rfl, .inr (.inr (.inr (.inr ⟨rfl, limB_of h0 h1 h2 hx⟩)))⟩
        case measure => simp [intOf]
    · have H0 := Lib.hid h0
      clear h0
      go_wp2
      go_ret
      exact ⟨ret_bool H0.out.symm, (Below.refl _ _).alloc (Nat.le_refl _) _⟩

set_option maxHeartbeats 1000000 in
theorem det_any (a b c d : Int) (w : World) (h : limB a b c d = true) :
    Calls Tryz.prog 220 #[.agg #[.int .i64 a, .int .i64 b, .int .i64 c, .int .i64 d]] w fun e w' => e = .returned (.int .i64 (a * d - b * c)) ∧ Below w.heap.size w w' := by
  obtain ⟨⟨ha, hb⟩, hc, hd⟩ := limB_bd h
  obtain ⟨b1, b2⟩ := mul1000 ha hd
  obtain ⟨b3, b4⟩ := mul1000 hb hc
  clear h
  go_enter Tryz.func220, Tryz.ntmps220
  go_wp2
  go_ret
  refine ⟨rfl, ?_⟩
  repeat (first | exact Below.refl _ _ | refine Below.setCell ?_ (by first | omega | (simp <;> omega)) _ | refine Below.alloc ?_ (by first | omega | (simp <;> omega)) _ | refine bstep ?_ (by assumption) | refine Below.drew ?_)

set_option maxHeartbeats 1000000 in
theorem l02Det_any (a b c d : Int) (w : World) (h : limB a b c d = true) :
    Calls Tryz.prog 106 #[.agg #[.int .i64 a, .int .i64 b, .int .i64 c, .int .i64 d]] w fun e w' => e = .returned (.int .i64 (a * d - b * c)) ∧ Below w.heap.size w w' := by
  obtain ⟨⟨ha, hb⟩, hc, hd⟩ := limB_bd h
  obtain ⟨b1, b2⟩ := mul1000 ha hd
  obtain ⟨b3, b4⟩ := mul1000 hb hc
  clear h
  go_enter Tryz.func106, Tryz.ntmps106
  go_wp2
  go_ret
  refine ⟨rfl, ?_⟩
  repeat (first | exact Below.refl _ _ | refine Below.setCell ?_ (by first | omega | (simp <;> omega)) _ | refine Below.alloc ?_ (by first | omega | (simp <;> omega)) _ | refine bstep ?_ (by assumption) | refine Below.drew ?_)

set_option maxHeartbeats 1000000 in
theorem trace_any (a b c d : Int) (w : World) (h : limB a b c d = true) :
    Calls Tryz.prog 127 #[.agg #[.int .i64 a, .int .i64 b, .int .i64 c, .int .i64 d]] w fun e w' => e = .returned (.int .i64 (a + d)) ∧ Below w.heap.size w w' := by
  obtain ⟨⟨ha, hb⟩, hc, hd⟩ := limB_bd h
  clear h
  go_enter Tryz.func127, Tryz.ntmps127
  go_wp2
  go_ret
  refine ⟨rfl, ?_⟩
  repeat (first | exact Below.refl _ _ | refine Below.setCell ?_ (by first | omega | (simp <;> omega)) _ | refine Below.alloc ?_ (by first | omega | (simp <;> omega)) _ | refine bstep ?_ (by assumption) | refine Below.drew ?_)

set_option maxHeartbeats 1000000 in
theorem l02Small_any (a b c d : Int) (w : World) :
    Calls Tryz.prog 227 #[.agg #[.int .i64 a, .int .i64 b, .int .i64 c, .int .i64 d]] w fun e w' => e = .returned (.bool (limB a b c d)) ∧ Below w.heap.size w w' := by
  rcases h1 : vecB a b with _ | _
  · have ea : limB a b c d = false := by simp [limB, h1]
    have EA := Lib.hid ea
    clear ea
    go_enter Tryz.func227, Tryz.ntmps227
    go_wp2_with fail
    refine (specIsVec_any _ _ _).mono ?_
    rintro e w1 ⟨rfl, hb1⟩
    obtain ⟨hc1, hf1⟩ := bcell hb1
    have hz1a : w.heap.size < w1.heap.size := by have := hb1.size; (try simp at this); omega
    go_wp2
    go_ret
    refine ⟨ret_bool EA.out.symm, ?_⟩
    repeat (first | exact Below.refl _ _ | refine Below.setCell ?_ (by first | omega | (simp <;> omega)) _ | refine Below.alloc ?_ (by first | omega | (simp <;> omega)) _ | refine bstep ?_ (by assumption) | refine Below.drew ?_)
  rcases h2 : vecB c d with _ | _
  · have ea : limB a b c d = false := by simp [limB, h2]
    have EA := Lib.hid ea
    clear ea
    go_enter Tryz.func227, Tryz.ntmps227
    go_wp2_with fail
    refine (specIsVec_any _ _ _).mono ?_
    rintro e w1 ⟨rfl, hb1⟩
    obtain ⟨hc1, hf1⟩ := bcell hb1
    have hz1a : w.heap.size < w1.heap.size := by have := hb1.size; (try simp at this); omega
    go_wp2_with fail
    refine (specIsVec_any _ _ _).mono ?_
    rintro e w2 ⟨rfl, hb2⟩
    obtain ⟨hc2, hf2⟩ := bcell hb2
    have hz2a : w.heap.size < w2.heap.size := by have := hb2.size; (try simp at this); omega
    go_wp2
    go_ret
    refine ⟨ret_bool EA.out.symm, ?_⟩
    repeat (first | exact Below.refl _ _ | refine Below.setCell ?_ (by first | omega | (simp <;> omega)) _ | refine Below.alloc ?_ (by first | omega | (simp <;> omega)) _ | refine bstep ?_ (by assumption) | refine Below.drew ?_)
  · have ea : limB a b c d = true := by simp [limB, h1, h2]
    have EA := Lib.hid ea
    clear ea
    go_enter Tryz.func227, Tryz.ntmps227
    go_wp2_with fail
    refine (specIsVec_any _ _ _).mono ?_
    rintro e w1 ⟨rfl, hb1⟩
    obtain ⟨hc1, hf1⟩ := bcell hb1
    have hz1a : w.heap.size < w1.heap.size := by have := hb1.size; (try simp at this); omega
    go_wp2_with fail
    refine (specIsVec_any _ _ _).mono ?_
    rintro e w2 ⟨rfl, hb2⟩
    obtain ⟨hc2, hf2⟩ := bcell hb2
    have hz2a : w.heap.size < w2.heap.size := by have := hb2.size; (try simp at this); omega
    go_wp2
    go_ret
    refine ⟨ret_bool EA.out.symm, ?_⟩
    repeat (first | exact Below.refl _ _ | refine Below.setCell ?_ (by first | omega | (simp <;> omega)) _ | refine Below.alloc ?_ (by first | omega | (simp <;> omega)) _ | refine bstep ?_ (by assumption) | refine Below.drew ?_)

set_option maxHeartbeats 1000000 in
theorem isValidM_any (a b c d : Int) (w : World) :
    Calls Tryz.prog 214 #[.agg #[.int .i64 a, .int .i64 b, .int .i64 c, .int .i64 d]] w fun e w' => e = .returned (.bool (matB a b c d)) ∧ Below w.heap.size w w' := by
  rcases hl : limB a b c d with _ | _
  · have ea : matB a b c d = false := by simp [matB, hl]
    have EA := Lib.hid ea
    clear ea
    go_enter Tryz.func214, Tryz.ntmps214
    go_wp2_with fail
    refine (isLimited_any _ _ _ _ _).mono ?_
    rintro e w1 ⟨rfl, hb1⟩
    obtain ⟨hc1, hf1⟩ := bcell hb1
    have hz1a : w.heap.size < w1.heap.size := by have := hb1.size; (try simp at this); omega
    go_wp2
    go_ret
    refine ⟨ret_bool EA.out.symm, ?_⟩
    repeat (first | exact Below.refl _ _ | refine Below.setCell ?_ (by first | omega | (simp <;> omega)) _ | refine Below.alloc ?_ (by first | omega | (simp <;> omega)) _ | refine bstep ?_ (by assumption) | refine Below.drew ?_)
  rcases hd : inB (a * d - b * c) (-1) 1 with _ | _
  · have ea : matB a b c d = false := by simp [inB] at hd; simp [matB, hl]; omega
    have EA := Lib.hid ea
    clear ea
    go_enter Tryz.func214, Tryz.ntmps214
    go_wp2_with fail
    refine (isLimited_any _ _ _ _ _).mono ?_
    rintro e w1 ⟨rfl, hb1⟩
    obtain ⟨hc1, hf1⟩ := bcell hb1
    have hz1a : w.heap.size < w1.heap.size := by have := hb1.size; (try simp at this); omega
    go_wp2_with fail
    refine (det_any _ _ _ _ _ hl).mono ?_
    rintro e w2 ⟨rfl, hb2⟩
    obtain ⟨hc2, hf2⟩ := bcell hb2
    have hz2a : w.heap.size < w2.heap.size := by have := hb2.size; (try simp at this); omega
    go_wp2_with fail
    refine (isWithin_any _ _ _ (by omega) (by omega)).mono ?_
    rintro e w3 ⟨rfl, rfl⟩
    go_wp2
    go_ret
    refine ⟨ret_bool EA.out.symm, ?_⟩
    repeat (first | exact Below.refl _ _ | refine Below.setCell ?_ (by first | omega | (simp <;> omega)) _ | refine Below.alloc ?_ (by first | omega | (simp <;> omega)) _ | refine bstep ?_ (by assumption) | refine Below.drew ?_)
  rcases hz : a * d - b * c == 0 with _ | _
  · have ea : matB a b c d = true := by simp [inB] at hd; simp at hz; simp [matB, hl]; omega
    have hz' : (a * d - b * c != 0) = true := by simp [bne, hz]
    have EA := Lib.hid ea
    clear ea
    go_enter Tryz.func214, Tryz.ntmps214
    go_wp2_with fail
    refine (isLimited_any _ _ _ _ _).mono ?_
    rintro e w1 ⟨rfl, hb1⟩
    obtain ⟨hc1, hf1⟩ := bcell hb1
    have hz1a : w.heap.size < w1.heap.size := by have := hb1.size; (try simp at this); omega
    go_wp2_with fail
    refine (det_any _ _ _ _ _ hl).mono ?_
    rintro e w2 ⟨rfl, hb2⟩
    obtain ⟨hc2, hf2⟩ := bcell hb2
    have hz2a : w.heap.size < w2.heap.size := by have := hb2.size; (try simp at this); omega
    go_wp2_with fail
    refine (isWithin_any _ _ _ (by omega) (by omega)).mono ?_
    rintro e w3 ⟨rfl, rfl⟩
    go_wp2_with fail
    refine (det_any _ _ _ _ _ hl).mono ?_
    rintro e w4 ⟨rfl, hb4⟩
    obtain ⟨hc4, hf4⟩ := bcell hb4
    have hz4a : w.heap.size < w4.heap.size := by have := hb4.size; (try simp at this); omega
    go_wp2
    go_ret
    refine ⟨ret_bool EA.out.symm, ?_⟩
    repeat (first | exact Below.refl _ _ | refine Below.setCell ?_ (by first | omega | (simp <;> omega)) _ | refine Below.alloc ?_ (by first | omega | (simp <;> omega)) _ | refine bstep ?_ (by assumption) | refine Below.drew ?_)
  · have ea : matB a b c d = false := by simp at hz; simp [matB, hz]
    have hz' : (a * d - b * c != 0) = false := by simp [bne, hz]
    have EA := Lib.hid ea
    clear ea
    go_enter Tryz.func214, Tryz.ntmps214
    go_wp2_with fail
    refine (isLimited_any _ _ _ _ _).mono ?_
    rintro e w1 ⟨rfl, hb1⟩
    obtain ⟨hc1, hf1⟩ := bcell hb1
    have hz1a : w.heap.size < w1.heap.size := by have := hb1.size; (try simp at this); omega
    go_wp2_with fail
    refine (det_any _ _ _ _ _ hl).mono ?_
    rintro e w2 ⟨rfl, hb2⟩
    obtain ⟨hc2, hf2⟩ := bcell hb2
    have hz2a : w.heap.size < w2.heap.size := by have := hb2.size; (try simp at this); omega
    go_wp2_with fail
    refine (isWithin_any _ _ _ (by omega) (by omega)).mono ?_
    rintro e w3 ⟨rfl, rfl⟩
    go_wp2_with fail
    refine (det_any _ _ _ _ _ hl).mono ?_
    rintro e w4 ⟨rfl, hb4⟩
    obtain ⟨hc4, hf4⟩ := bcell hb4
    have hz4a : w.heap.size < w4.heap.size := by have := hb4.size; (try simp at this); omega
    go_wp2
    go_ret
    refine ⟨ret_bool EA.out.symm, ?_⟩
    repeat (first | exact Below.refl _ _ | refine Below.setCell ?_ (by first | omega | (simp <;> omega)) _ | refine Below.alloc ?_ (by first | omega | (simp <;> omega)) _ | refine bstep ?_ (by assumption) | refine Below.drew ?_)

set_option maxHeartbeats 1000000 in
theorem specIsMat_any (a b c d : Int) (w : World) :
    Calls Tryz.prog 276 #[.agg #[.int .i64 a, .int .i64 b, .int .i64 c, .int .i64 d]] w fun e w' => e = .returned (.bool (matB a b c d)) ∧ Below w.heap.size w w' := by
  rcases hl : limB a b c d with _ | _
  · have ea : matB a b c d = false := by simp [matB, hl]
    have EA := Lib.hid ea
    clear ea
    go_enter Tryz.func276, Tryz.ntmps276
    go_wp2_with fail
    refine (l02Small_any _ _ _ _ _).mono ?_
    rintro e w1 ⟨rfl, hb1⟩
    obtain ⟨hc1, hf1⟩ := bcell hb1
    have hz1a : w.heap.size < w1.heap.size := by have := hb1.size; (try simp at this); omega
    go_wp2
    go_ret
    refine ⟨ret_bool EA.out.symm, ?_⟩
    repeat (first | exact Below.refl _ _ | refine Below.setCell ?_ (by first | omega | (simp <;> omega)) _ | refine Below.alloc ?_ (by first | omega | (simp <;> omega)) _ | refine bstep ?_ (by assumption) | refine Below.drew ?_)
  rcases hd : a * d - b * c == 1 with _ | _
  · rcases hz : a * d - b * c == -1 with _ | _
    · have ea : matB a b c d = false := by simp [matB, hd, hz]
      have EA := Lib.hid ea
      clear ea
      go_enter Tryz.func276, Tryz.ntmps276
      go_wp2_with fail
      refine (l02Small_any _ _ _ _ _).mono ?_
      rintro e w1 ⟨rfl, hb1⟩
      obtain ⟨hc1, hf1⟩ := bcell hb1
      have hz1a : w.heap.size < w1.heap.size := by have := hb1.size; (try simp at this); omega
      go_wp2_with fail
      refine (l02Det_any _ _ _ _ _ hl).mono ?_
      rintro e w2 ⟨rfl, hb2⟩
      obtain ⟨hc2, hf2⟩ := bcell hb2
      have hz2a : w.heap.size < w2.heap.size := by have := hb2.size; (try simp at this); omega
      go_wp2_with fail
      refine (l02Det_any _ _ _ _ _ hl).mono ?_
      rintro e w3 ⟨rfl, hb3⟩
      obtain ⟨hc3, hf3⟩ := bcell hb3
      have hz3a : w.heap.size < w3.heap.size := by have := hb3.size; (try simp at this); omega
      go_wp2
      go_ret
      refine ⟨ret_bool EA.out.symm, ?_⟩
      repeat (first | exact Below.refl _ _ | refine Below.setCell ?_ (by first | omega | (simp <;> omega)) _ | refine Below.alloc ?_ (by first | omega | (simp <;> omega)) _ | refine bstep ?_ (by assumption) | refine Below.drew ?_)
    · have ea : matB a b c d = true := by simp [matB, hl, hz]
      have EA := Lib.hid ea
      clear ea
      go_enter Tryz.func276, Tryz.ntmps276
      go_wp2_with fail
      refine (l02Small_any _ _ _ _ _).mono ?_
      rintro e w1 ⟨rfl, hb1⟩
      obtain ⟨hc1, hf1⟩ := bcell hb1
      have hz1a : w.heap.size < w1.heap.size := by have := hb1.size; (try simp at this); omega
      go_wp2_with fail
      refine (l02Det_any _ _ _ _ _ hl).mono ?_
      rintro e w2 ⟨rfl, hb2⟩
      obtain ⟨hc2, hf2⟩ := bcell hb2
      have hz2a : w.heap.size < w2.heap.size := by have := hb2.size; (try simp at this); omega
      go_wp2_with fail
      refine (l02Det_any _ _ _ _ _ hl).mono ?_
      rintro e w3 ⟨rfl, hb3⟩
      obtain ⟨hc3, hf3⟩ := bcell hb3
      have hz3a : w.heap.size < w3.heap.size := by have := hb3.size; (try simp at this); omega
      go_wp2
      go_ret
      refine ⟨ret_bool EA.out.symm, ?_⟩
      repeat (first | exact Below.refl _ _ | refine Below.setCell ?_ (by first | omega | (simp <;> omega)) _ | refine Below.alloc ?_ (by first | omega | (simp <;> omega)) _ | refine bstep ?_ (by assumption) | refine Below.drew ?_)
  · have ea : matB a b c d = true := by simp [matB, hl, hd]
    have EA := Lib.hid ea
    clear ea
    go_enter Tryz.func276, Tryz.ntmps276
    go_wp2_with fail
    refine (l02Small_any _ _ _ _ _).mono ?_
    rintro e w1 ⟨rfl, hb1⟩
    obtain ⟨hc1, hf1⟩ := bcell hb1
    have hz1a : w.heap.size < w1.heap.size := by have := hb1.size; (try simp at this); omega
    go_wp2_with fail
    refine (l02Det_any _ _ _ _ _ hl).mono ?_
    rintro e w2 ⟨rfl, hb2⟩
    obtain ⟨hc2, hf2⟩ := bcell hb2
    have hz2a : w.heap.size < w2.heap.size := by have := hb2.size; (try simp at this); omega
    go_wp2
    go_ret
    refine ⟨ret_bool EA.out.symm, ?_⟩
    repeat (first | exact Below.refl _ _ | refine Below.setCell ?_ (by first | omega | (simp <;> omega)) _ | refine Below.alloc ?_ (by first | omega | (simp <;> omega)) _ | refine bstep ?_ (by assumption) | refine Below.drew ?_)

set_option maxHeartbeats 1000000 in
theorem implIsMat_any (a b c d : Int) (w : World) :
    Calls Tryz.prog 115 #[.agg #[.int .i64 a, .int .i64 b, .int .i64 c, .int .i64 d]] w fun e w' => e = .returned (.bool (matB a b c d)) ∧ Below w.heap.size w w' := by
  go_enter Tryz.func115, Tryz.ntmps115
  go_wp2_with fail
  refine (matrixOf_any _ _ _ _ _).mono ?_
  rintro e w1 ⟨rfl, hb1⟩
  obtain ⟨hc1, hf1⟩ := bcell hb1
  have hz1a : w.heap.size < w1.heap.size := by have := hb1.size; (try simp at this); omega
  go_wp2_with fail
  refine (isValidM_any _ _ _ _ _).mono ?_
  rintro e w2 ⟨rfl, hb2⟩
  obtain ⟨hc2, hf2⟩ := bcell hb2
  have hz2a : w.heap.size < w2.heap.size := by have := hb2.size; (try simp at this); omega
  go_wp2
  go_ret
  refine ⟨rfl, ?_⟩
  repeat (first | exact Below.refl _ _ | refine Below.setCell ?_ (by first | omega | (simp <;> omega)) _ | refine Below.alloc ?_ (by first | omega | (simp <;> omega)) _ | refine bstep ?_ (by assumption) | refine Below.drew ?_)

def eqM (a b c d a' b' c' d' : Int) : Bool := a == a' && b == b' && c == c' && d == d'
set_option maxHeartbeats 1000000 in
theorem apply_any (a b c d x y : Int) (w : World) (h : limB a b c d = true) (hv : vecB x y = true) :
    Calls Tryz.prog 118 #[.agg #[.int .i64 a, .int .i64 b, .int .i64 c, .int .i64 d], .agg #[.int .i64 x, .int .i64 y]] w fun e w' => e = .returned (.agg #[.int .i64 (a * x + b * y), .int .i64 (c * x + d * y)]) ∧ Below w.heap.size w w' := by
  obtain ⟨⟨ha, hb⟩, hc, hd⟩ := limB_bd h
  obtain ⟨hx, hy⟩ := vecB_bd hv
  obtain ⟨b1, b2⟩ := mul1000 ha hx
  obtain ⟨b3, b4⟩ := mul1000 hb hy
  obtain ⟨b5, b6⟩ := mul1000 hc hx
  obtain ⟨b7, b8⟩ := mul1000 hd hy
  clear h hv ha hb hc hd hx hy
  go_enter Tryz.func118, Tryz.ntmps118
  go_wp2
  refine bodyPost_ret (v := .agg #[.int .i64 (a * x + b * y), .int .i64 (c * x + d * y)]) (by simp [results, Tryz.results118, go_sem]) rfl ⟨rfl, ?_⟩
  repeat (first | exact Below.refl _ _ | refine Below.setCell ?_ (by first | omega | (simp <;> omega)) _ | refine Below.alloc ?_ (by first | omega | (simp <;> omega)) _ | refine bstep ?_ (by assumption) | refine Below.drew ?_)

set_option maxHeartbeats 1000000 in
theorem l02Apply_any (a b c d x y : Int) (w : World) (h : limB a b c d = true) (hv : vecB x y = true) :
    Calls Tryz.prog 177 #[.agg #[.int .i64 a, .int .i64 b, .int .i64 c, .int .i64 d], .agg #[.int .i64 x, .int .i64 y]] w fun e w' => e = .returned (.agg #[.int .i64 (a * x + b * y), .int .i64 (c * x + d * y)]) ∧ Below w.heap.size w w' := by
  obtain ⟨⟨ha, hb⟩, hc, hd⟩ := limB_bd h
  obtain ⟨hx, hy⟩ := vecB_bd hv
  obtain ⟨b1, b2⟩ := mul1000 ha hx
  obtain ⟨b3, b4⟩ := mul1000 hb hy
  obtain ⟨b5, b6⟩ := mul1000 hc hx
  obtain ⟨b7, b8⟩ := mul1000 hd hy
  clear h hv ha hb hc hd hx hy
  go_enter Tryz.func177, Tryz.ntmps177
  go_wp2
  refine bodyPost_ret (v := .agg #[.int .i64 (a * x + b * y), .int .i64 (c * x + d * y)]) (by simp [results, Tryz.results177, go_sem]) rfl ⟨rfl, ?_⟩
  repeat (first | exact Below.refl _ _ | refine Below.setCell ?_ (by first | omega | (simp <;> omega)) _ | refine Below.alloc ?_ (by first | omega | (simp <;> omega)) _ | refine bstep ?_ (by assumption) | refine Below.drew ?_)

set_option maxHeartbeats 1000000 in
theorem timesM_any (a b c d n : Int) (w : World) (h : limB a b c d = true) (hn : inB n (-1000) 1000 = true) :
    Calls Tryz.prog 221 #[.agg #[.int .i64 a, .int .i64 b, .int .i64 c, .int .i64 d], .int .i64 n] w fun e w' => e = .returned (.agg #[.int .i64 (a * n), .int .i64 (b * n), .int .i64 (c * n), .int .i64 (d * n)]) ∧ Below w.heap.size w w' := by
  obtain ⟨⟨ha, hb⟩, hc, hd⟩ := limB_bd h
  have hx := inB_bd hn
  obtain ⟨b1, b2⟩ := mul1000 ha hx
  obtain ⟨b3, b4⟩ := mul1000 hb hx
  obtain ⟨b5, b6⟩ := mul1000 hc hx
  obtain ⟨b7, b8⟩ := mul1000 hd hx
  clear h hn ha hb hc hd hx
  go_enter Tryz.func221, Tryz.ntmps221
  go_wp2
  refine bodyPost_ret (v := .agg #[.int .i64 (a * n), .int .i64 (b * n), .int .i64 (c * n), .int .i64 (d * n)]) (by simp [results, Tryz.results221, go_sem]) rfl ⟨rfl, ?_⟩
  repeat (first | exact Below.refl _ _ | refine Below.setCell ?_ (by first | omega | (simp <;> omega)) _ | refine Below.alloc ?_ (by first | omega | (simp <;> omega)) _ | refine bstep ?_ (by assumption) | refine Below.drew ?_)

set_option maxHeartbeats 1000000 in
theorem l02Multiply_any (a b c d a' b' c' d' : Int) (w : World) (h : limB a b c d = true) (h' : limB a' b' c' d' = true) :
    Calls Tryz.prog 226 #[.agg #[.int .i64 a, .int .i64 b, .int .i64 c, .int .i64 d], .agg #[.int .i64 a', .int .i64 b', .int .i64 c', .int .i64 d']] w fun e w' => e = .returned (.agg #[.int .i64 (a * a' + b * c'), .int .i64 (a * b' + b * d'), .int .i64 (c * a' + d * c'), .int .i64 (c * b' + d * d')]) ∧ Below w.heap.size w w' := by
  obtain ⟨⟨ha, hb⟩, hc, hd⟩ := limB_bd h
  obtain ⟨⟨ha', hb'⟩, hc', hd'⟩ := limB_bd h'
  obtain ⟨b1, b2⟩ := mul1000 ha ha'
  obtain ⟨b3, b4⟩ := mul1000 hb hc'
  obtain ⟨b5, b6⟩ := mul1000 ha hb'
  obtain ⟨b7, b8⟩ := mul1000 hb hd'
  obtain ⟨b9, b10⟩ := mul1000 hc ha'
  obtain ⟨b11, b12⟩ := mul1000 hd hc'
  obtain ⟨b13, b14⟩ := mul1000 hc hb'
  obtain ⟨b15, b16⟩ := mul1000 hd hd'
  clear h h' ha hb hc hd ha' hb' hc' hd'
  go_enter Tryz.func226, Tryz.ntmps226
  go_wp2
  refine bodyPost_ret (v := .agg #[.int .i64 (a * a' + b * c'), .int .i64 (a * b' + b * d'), .int .i64 (c * a' + d * c'), .int .i64 (c * b' + d * d')]) (by simp [results, Tryz.results226, go_sem]) rfl ⟨rfl, ?_⟩
  repeat (first | exact Below.refl _ _ | refine Below.setCell ?_ (by first | omega | (simp <;> omega)) _ | refine Below.alloc ?_ (by first | omega | (simp <;> omega)) _ | refine bstep ?_ (by assumption) | refine Below.drew ?_)

set_option maxHeartbeats 1000000 in
theorem l02Unit_any (w : World) :
    Calls Tryz.prog 225 #[] w fun e w' => e = .returned (.agg #[.int .i64 1, .int .i64 0, .int .i64 0, .int .i64 1]) ∧ Below w.heap.size w w' := by
  go_enter Tryz.func225, Tryz.ntmps225
  go_wp2
  refine bodyPost_ret (v := .agg #[.int .i64 1, .int .i64 0, .int .i64 0, .int .i64 1]) (by simp [results, Tryz.results225, go_sem]) rfl ⟨rfl, ?_⟩
  repeat (first | exact Below.refl _ _ | refine Below.setCell ?_ (by first | omega | (simp <;> omega)) _ | refine Below.alloc ?_ (by first | omega | (simp <;> omega)) _ | refine bstep ?_ (by assumption) | refine Below.drew ?_)
end
end Go.Proofs.YtkfeajjpbmbmpaaGreatDoor

namespace Go.Proofs.YtkfeajjpbmbmpaaGreatDoor
section
open Go.RowKit

/- one matrix in one block -/
def Kq (g : Nat) (a b c d : Int) (W : World) : Prop :=
  g < W.heap.size ∧ W.cell? ⟨g, 0, none⟩ = some (.int .i64 a) ∧ W.cell? ⟨g, 1, none⟩ = some (.int .i64 b) ∧ W.cell? ⟨g, 2, none⟩ = some (.int .i64 c) ∧ W.cell? ⟨g, 3, none⟩ = some (.int .i64 d)
theorem Kq.cells {g : Nat} {a b c d : Int} {W : World} (h : Kq g a b c d W) : W.cell? ⟨g, 0, none⟩ = some (.int .i64 a) ∧ W.cell? ⟨g, 1, none⟩ = some (.int .i64 b) ∧ W.cell? ⟨g, 2, none⟩ = some (.int .i64 c) ∧ W.cell? ⟨g, 3, none⟩ = some (.int .i64 d) := h.2
theorem Kq.c0 {g : Nat} {a b c d : Int} {W : World} (h : Kq g a b c d W) : W.cell? ⟨g, 0, none⟩ = some (.int .i64 a) := h.2.1
theorem Kq.c1 {g : Nat} {a b c d : Int} {W : World} (h : Kq g a b c d W) : W.cell? ⟨g, 1, none⟩ = some (.int .i64 b) := h.2.2.1
theorem Kq.c2 {g : Nat} {a b c d : Int} {W : World} (h : Kq g a b c d W) : W.cell? ⟨g, 2, none⟩ = some (.int .i64 c) := h.2.2.2.1
theorem Kq.c3 {g : Nat} {a b c d : Int} {W : World} (h : Kq g a b c d W) : W.cell? ⟨g, 3, none⟩ = some (.int .i64 d) := h.2.2.2.2
theorem Kq.grow {g B : Nat} {a b c d : Int} {W w1 : World} (h : Kq g a b c d W) (hb : Below B W w1) (hg : g < B) : Kq g a b c d w1 := by
  obtain ⟨h0, h1, h2, h3, h4⟩ := h
  have hs := hb.size
  exact ⟨by omega, by rw [hb.cell (by show g < _; omega)]; exact h1, by rw [hb.cell (by show g < _; omega)]; exact h2, by rw [hb.cell (by show g < _; omega)]; exact h3, by rw [hb.cell (by show g < _; omega)]; exact h4⟩
theorem Kq.call {g : Nat} {a b c d : Int} {W w1 : World} (h : Kq g a b c d W) (hb : Below W.heap.size W w1) : Kq g a b c d w1 := h.grow hb h.1
theorem Kq.alloc {g : Nat} {a b c d : Int} {W : World} (h : Kq g a b c d W) (o : Obj) : Kq g a b c d (W.alloc o) := h.call ((Below.refl _ _).alloc (Nat.le_refl _) _)
theorem Kq.drew {g : Nat} {a b c d : Int} {W : World} (h : Kq g a b c d W) : Kq g a b c d W.drew := h.call (Below.refl _ _).drew
theorem Kq.put {g : Nat} {a b c d : Int} {W : World} {p : Addr} {u : Value} (hp : g < p.block) (h : Kq g a b c d W) : Kq g a b c d (W.setCell p u) :=
  h.grow (B := g + 1) ((Below.refl _ _).setCell (by omega) u) (Nat.lt_succ_self _)
theorem Kq.at {w : World} {a b c d : Int} {T : TypeId} (R : Nat) (hR : R = w.heap.size) : Kq R a b c d (w.alloc (.cells #[.int .i64 a, .int .i64 b, .int .i64 c, .int .i64 d] T)) := by
  subst hR
  refine ⟨by simp, ?_, ?_, ?_, ?_⟩ <;> simp [go_sem]
theorem Kg.at2 {w : World} {a b : Int} {T : TypeId} (R : Nat) (hR : R = w.heap.size) : Kg R a b (w.alloc (.cells #[.int .i64 a, .int .i64 b] T)) := by
  subst hR
  refine ⟨by simp, ?_, ?_⟩ <;> simp [go_sem]

/- a matrix's block that may be written -/
structure KR (R : Nat) (a b c d : Int) (W : World) : Prop where
  lt : R < W.heap.size
  c0 : W.cell? ⟨R, 0, none⟩ = some (.int .i64 a)
  c1 : W.cell? ⟨R, 1, none⟩ = some (.int .i64 b)
  c2 : W.cell? ⟨R, 2, none⟩ = some (.int .i64 c)
  c3 : W.cell? ⟨R, 3, none⟩ = some (.int .i64 d)
  f0 : W.frozen? ⟨R, 0, none⟩ = false
  f1 : W.frozen? ⟨R, 1, none⟩ = false
  f2 : W.frozen? ⟨R, 2, none⟩ = false
  f3 : W.frozen? ⟨R, 3, none⟩ = false
theorem KR.kq {R : Nat} {a b c d : Int} {W : World} (h : KR R a b c d W) : Kq R a b c d W := ⟨h.lt, h.c0, h.c1, h.c2, h.c3⟩
theorem KR.at {w : World} {a b c d : Int} {T : TypeId} (R : Nat) (hR : R = w.heap.size) : KR R a b c d (w.alloc (.cells #[.int .i64 a, .int .i64 b, .int .i64 c, .int .i64 d] T)) := by
  subst hR
  refine ⟨by simp, ?_, ?_, ?_, ?_, ?_, ?_, ?_, ?_⟩ <;> simp [go_sem]
theorem KR.grow {R B : Nat} {a b c d : Int} {W w1 : World} (h : KR R a b c d W) (hb : Below B W w1) (hg : R < B) : KR R a b c d w1 :=
  ⟨Nat.lt_of_lt_of_le h.lt hb.size, by rw [hb.cell hg]; exact h.c0, by rw [hb.cell hg]; exact h.c1, by rw [hb.cell hg]; exact h.c2, by rw [hb.cell hg]; exact h.c3, by rw [hb.frozen hg]; exact h.f0, by rw [hb.frozen hg]; exact h.f1, by rw [hb.frozen hg]; exact h.f2, by rw [hb.frozen hg]; exact h.f3⟩
theorem KR.call {R : Nat} {a b c d : Int} {W w1 : World} (h : KR R a b c d W) (hb : Below W.heap.size W w1) : KR R a b c d w1 := h.grow hb h.lt
theorem KR.alloc {R : Nat} {a b c d : Int} {W : World} (h : KR R a b c d W) (o : Obj) : KR R a b c d (W.alloc o) := h.call ((Below.refl _ _).alloc (Nat.le_refl _) _)
theorem KR.drew {R : Nat} {a b c d : Int} {W : World} (h : KR R a b c d W) : KR R a b c d W.drew := h.call (Below.refl _ _).drew
theorem KR.put {R : Nat} {a b c d : Int} {W : World} {p : Addr} {u : Value} (hp : R < p.block) (h : KR R a b c d W) : KR R a b c d (W.setCell p u) :=
  h.grow (B := R + 1) ((Below.refl _ _).setCell (by omega) u) (Nat.lt_succ_self _)

/- a vector's block that may be written -/
structure KV (R : Nat) (a b : Int) (W : World) : Prop where
  lt : R < W.heap.size
  c0 : W.cell? ⟨R, 0, none⟩ = some (.int .i64 a)
  c1 : W.cell? ⟨R, 1, none⟩ = some (.int .i64 b)
  f0 : W.frozen? ⟨R, 0, none⟩ = false
  f1 : W.frozen? ⟨R, 1, none⟩ = false
theorem KV.at {w : World} {a b : Int} {T : TypeId} (R : Nat) (hR : R = w.heap.size) : KV R a b (w.alloc (.cells #[.int .i64 a, .int .i64 b] T)) := by
  subst hR
  refine ⟨by simp, ?_, ?_, ?_, ?_⟩ <;> simp [go_sem]
theorem KV.grow {R B : Nat} {a b : Int} {W w1 : World} (h : KV R a b W) (hb : Below B W w1) (hg : R < B) : KV R a b w1 :=
  ⟨Nat.lt_of_lt_of_le h.lt hb.size, by rw [hb.cell hg]; exact h.c0, by rw [hb.cell hg]; exact h.c1, by rw [hb.frozen hg]; exact h.f0, by rw [hb.frozen hg]; exact h.f1⟩
theorem KV.call {R : Nat} {a b : Int} {W w1 : World} (h : KV R a b W) (hb : Below W.heap.size W w1) : KV R a b w1 := h.grow hb h.lt
theorem KV.alloc {R : Nat} {a b : Int} {W : World} (h : KV R a b W) (o : Obj) : KV R a b (W.alloc o) := h.call ((Below.refl _ _).alloc (Nat.le_refl _) _)
theorem KV.drew {R : Nat} {a b : Int} {W : World} (h : KV R a b W) : KV R a b W.drew := h.call (Below.refl _ _).drew
theorem KV.put {R : Nat} {a b : Int} {W : World} {p : Addr} {u : Value} (hp : R < p.block) (h : KV R a b W) : KV R a b (W.setCell p u) :=
  h.grow (B := R + 1) ((Below.refl _ _).setCell (by omega) u) (Nat.lt_succ_self _)

/- two matrices, a matrix and a vector: all cells at once -/
theorem Kq.two {g g' : Nat} {a b c d a' b' c' d' : Int} {W : World} (h : Kq g a b c d W) (h' : Kq g' a' b' c' d' W) :
    (W.cell? ⟨g, 0, none⟩ = some (.int .i64 a) ∧ W.cell? ⟨g, 1, none⟩ = some (.int .i64 b) ∧ W.cell? ⟨g, 2, none⟩ = some (.int .i64 c) ∧ W.cell? ⟨g, 3, none⟩ = some (.int .i64 d)) ∧
    W.cell? ⟨g', 0, none⟩ = some (.int .i64 a') ∧ W.cell? ⟨g', 1, none⟩ = some (.int .i64 b') ∧ W.cell? ⟨g', 2, none⟩ = some (.int .i64 c') ∧ W.cell? ⟨g', 3, none⟩ = some (.int .i64 d') := ⟨h.2, h'.2⟩
end
end Go.Proofs.YtkfeajjpbmbmpaaGreatDoor

namespace Go.Proofs.YtkfeajjpbmbmpaaGreatDoor
section
abbrev M4 := Int × Int × Int × Int
end
end Go.Proofs.YtkfeajjpbmbmpaaGreatDoor

namespace Go.Proofs.YtkfeajjpbmbmpaaGreatDoor
section

def mulP (a b c d : Int) (p : M4) : M4 := (a * p.1 + b * p.2.2.1, a * p.2.1 + b * p.2.2.2, c * p.1 + d * p.2.2.1, c * p.2.1 + d * p.2.2.2)
def pw (a b c d : Int) : Nat → M4
  | 0 => (1, 0, 0, 1)
  | k + 1 => mulP a b c d (pw a b c d k)
def limP (p : M4) : Bool := limB p.1 p.2.1 p.2.2.1 p.2.2.2
def unitB (a b c d : Int) : Bool := a == 1 && b == 0 && c == 0 && d == 1
def unitP (p : M4) : Bool := unitB p.1 p.2.1 p.2.2.1 p.2.2.2
def ordGo (a b c d : Int) (n : Nat) : Nat → Int
  | 0 => 0
  | f + 1 => bif limP (pw a b c d n) then (bif unitP (pw a b c d n) then (n : Int) else ordGo a b c d (n + 1) f) else 0
def ordI (a b c d : Int) : Int := ordGo a b c d 1 6
/- the order by trace and determinant -/
def ordT (a b c d : Int) : Int :=
  bif unitB a b c d then 1 else
  bif (a == -1 && b == 0 && c == 0 && d == -1) || (a * d - b * c == -1 && a + d == 0) then 2 else
  bif a * d - b * c == -1 then 0 else
  bif a + d == -1 then 3 else bif a + d == 0 then 4 else bif a + d == 1 then 6 else 0

/- p times the matrix and q times the unit -/
def lin (a b c d p q : Int) : M4 := (p * a + q, p * b, p * c, p * d + q)
theorem lin_step (a b c d p q t D : Int) (ht : a + d = t) (hD : a * d - b * c = D) : mulP a b c d (lin a b c d p q) = lin a b c d (p * t + q) (-D * p) := by
  subst ht hD
  simp only [mulP, lin, Prod.mk.injEq]
  refine ⟨?_, ?_, ?_, ?_⟩ <;> grind
theorem pw_zero (a b c d : Int) : pw a b c d 0 = lin a b c d 0 1 := by simp [pw, lin]
theorem lin_unit {a b c d p q : Int} (hp : p ≠ 0) (hm : ¬ (b = 0 ∧ c = 0 ∧ a = d)) : unitP (lin a b c d p q) = false := by
  cases h : unitP (lin a b c d p q) with
  | false => rfl
  | true =>
    simp [unitP, unitB, lin] at h
    obtain ⟨⟨⟨h1, h2⟩, h3⟩, h4⟩ := h
    refine absurd ⟨(Int.mul_eq_zero.1 h2).resolve_left hp, (Int.mul_eq_zero.1 h3).resolve_left hp, ?_⟩ hm
    have : p * (a - d) = 0 := by grind
    rcases Int.mul_eq_zero.1 this with h | h
    · exact absurd h hp
    · omega
theorem not_scalar {a b c d : Int} (hD : a * d - b * c = 1 ∨ a * d - b * c = -1) (h1 : unitB a b c d = false) (h2 : (a == -1 && b == 0 && c == 0 && d == -1) = false) : ¬ (b = 0 ∧ c = 0 ∧ a = d) := by
  rintro ⟨rfl, rfl, rfl⟩
  simp [unitB] at h1 h2 hD
  have hn : a.natAbs * a.natAbs = 1 := by
    rcases hD with e | e
    · rw [← Int.natAbs_mul, e]; rfl
    · have : 0 ≤ a * a := by rw [← Int.natAbs_mul_self (a := a)]; exact Int.natCast_nonneg _
      omega
  have : a.natAbs = 1 := Nat.eq_one_of_mul_eq_one_left hn
  omega

theorem ordGo_none (a b c d : Int) : ∀ (f n : Nat), (∀ k, n ≤ k → k < n + f → unitP (pw a b c d k) = false) → ordGo a b c d n f = 0 := by
  intro f
  induction f with
  | zero => intro n _; rfl
  | succ f ih =>
    intro n h
    have h0 := h n (Nat.le_refl _) (by omega)
    have := ih (n + 1) (fun k h1 h2 => h k (by omega) (by omega))
    simp only [ordGo, h0, this, cond_false]
    cases limP (pw a b c d n) <;> rfl
theorem ordGo_skip {a b c d : Int} {n f : Nat} (hl : limP (pw a b c d n) = true) (hu : unitP (pw a b c d n) = false) : ordGo a b c d n (f + 1) = ordGo a b c d (n + 1) f := by
  simp [ordGo, hl, hu]
theorem ordGo_here {a b c d : Int} {n f : Nat} (hl : limP (pw a b c d n) = true) (hu : unitP (pw a b c d n) = true) : ordGo a b c d n (f + 1) = n := by
  simp [ordGo, hl, hu]

theorem lin_next {a b c d t D : Int} (ht : a + d = t) (hD : a * d - b * c = D) {k : Nat} {p q p' q' : Int} (h : pw a b c d k = lin a b c d p q) (hp : p * t + q = p') (hq : -D * p = q') : pw a b c d (k + 1) = lin a b c d p' q' := by
  subst hp hq
  show mulP a b c d (pw a b c d k) = _
  rw [h]
  exact lin_step a b c d p q t D ht hD
theorem pw_six {a b c d t D : Int} (ht : a + d = t) (hD : a * d - b * c = D) (hDD : D * D = 1) :
    pw a b c d 1 = lin a b c d 1 0 ∧ pw a b c d 2 = lin a b c d t (-D) ∧ pw a b c d 3 = lin a b c d (t * t - D) (-D * t) ∧ pw a b c d 4 = lin a b c d (t * (t * t - 2 * D)) (1 - D * (t * t)) ∧
    pw a b c d 5 = lin a b c d (t * t * (t * t - 3 * D) + 1) (t * (2 - D * (t * t))) ∧ pw a b c d 6 = lin a b c d (t * ((t * t - D) * (t * t - 3 * D))) (-D * (t * t * (t * t - 3 * D) + 1)) := by
  have h1 := lin_next ht hD (pw_zero a b c d) (p' := 1) (q' := 0) (by grind) (by grind)
  have h2 := lin_next ht hD h1 (p' := t) (q' := -D) (by grind) (by grind)
  have h3 := lin_next ht hD h2 (p' := t * t - D) (q' := -D * t) (by grind) (by grind)
  have h4 := lin_next ht hD h3 (p' := t * (t * t - 2 * D)) (q' := 1 - D * (t * t)) (by grind) (by grind)
  have h5 := lin_next ht hD h4 (p' := t * t * (t * t - 3 * D) + 1) (q' := t * (2 - D * (t * t))) (by grind) (by grind)
  have h6 := lin_next ht hD h5 (p' := t * ((t * t - D) * (t * t - 3 * D))) (q' := -D * (t * t * (t * t - 3 * D) + 1)) (by grind) (by grind)
  exact ⟨h1, h2, h3, h4, h5, h6⟩
theorem sq_nonneg (t : Int) : 0 ≤ t * t := by rw [← Int.natAbs_mul_self (a := t)]; exact Int.natCast_nonneg _
theorem sq_four {t : Int} (h : t ≤ -2 ∨ 2 ≤ t) : 4 ≤ t * t := by
  rw [← Int.natAbs_mul_self (a := t)]
  have : 2 ≤ t.natAbs := by omega
  have := Nat.mul_le_mul this this
  omega
theorem ord_inf {a b c d : Int} (hm : ¬ (b = 0 ∧ c = 0 ∧ a = d)) (h : (a * d - b * c = 1 ∧ (a + d ≤ -2 ∨ 2 ≤ a + d)) ∨ (a * d - b * c = -1 ∧ a + d ≠ 0)) : ordI a b c d = 0 := by
  generalize ht : a + d = t at h
  generalize hD : a * d - b * c = D at h
  have hDD : D * D = 1 := by rcases h with ⟨rfl, _⟩ | ⟨rfl, _⟩ <;> rfl
  obtain ⟨h1, h2, h3, h4, h5, h6⟩ := pw_six ht hD hDD
  have t0 : t ≠ 0 := by rcases h with ⟨_, h⟩ | ⟨_, h⟩ <;> omega
  have key : t * t - D ≠ 0 ∧ t * t - 2 * D ≠ 0 ∧ t * t - 3 * D ≠ 0 ∧ t * t * (t * t - 3 * D) + 1 ≠ 0 := by
    rcases h with ⟨rfl, h⟩ | ⟨rfl, h⟩
    · have := sq_four h
      have g := Int.mul_nonneg (sq_nonneg t) (show 0 ≤ t * t - 3 * 1 by omega)
      refine ⟨by omega, by omega, by omega, by omega⟩
    · have := sq_nonneg t
      have g := Int.mul_nonneg (sq_nonneg t) (show 0 ≤ t * t - 3 * -1 by omega)
      refine ⟨by omega, by omega, by omega, by omega⟩
  obtain ⟨k1, k2, k3, k4⟩ := key
  refine ordGo_none a b c d 6 1 fun k a1 a2 => ?_
  obtain rfl | rfl | rfl | rfl | rfl | rfl : k = 1 ∨ k = 2 ∨ k = 3 ∨ k = 4 ∨ k = 5 ∨ k = 6 := by omega
  · rw [h1]; exact lin_unit (by omega) hm
  · rw [h2]; exact lin_unit t0 hm
  · rw [h3]; exact lin_unit k1 hm
  · rw [h4]; exact lin_unit (Int.mul_ne_zero t0 k2) hm
  · rw [h5]; exact lin_unit k4 hm
  · rw [h6]; exact lin_unit (Int.mul_ne_zero t0 (Int.mul_ne_zero k1 k3)) hm

theorem lin_lim {a b c d p q : Int} (h : limB a b c d = true) (hp : p = 1 ∨ p = -1) (h1 : -1000 ≤ p * a + q ∧ p * a + q ≤ 1000) (h2 : -1000 ≤ p * d + q ∧ p * d + q ≤ 1000) : limP (lin a b c d p q) = true := by
  obtain ⟨⟨ha, hb⟩, hc, hd⟩ := limB_bd h
  rcases hp with rfl | rfl <;> simp [limP, lin, limB, vecB] at * <;> omega
theorem lin0_lim {a b c d q : Int} (hq : q = 1 ∨ q = -1) : limP (lin a b c d 0 q) = true := by
  rcases hq with rfl | rfl <;> simp [limP, lin, limB, vecB]
theorem lin0_no {a b c d : Int} : unitP (lin a b c d 0 (-1)) = false := by simp [unitP, unitB, lin]
theorem lin0_yes {a b c d : Int} : unitP (lin a b c d 0 1) = true := by simp [unitP, unitB, lin]

theorem ord_eq {a b c d : Int} (h : matB a b c d = true) : ordI a b c d = ordT a b c d := by
  have hl := matB_lim h
  have hD := matB_det h
  obtain ⟨⟨ha, hb⟩, hc, hd⟩ := limB_bd hl
  unfold ordT
  cases hu : unitB a b c d
  case true =>
    simp [unitB] at hu
    obtain ⟨⟨⟨rfl, rfl⟩, rfl⟩, rfl⟩ := hu
    rfl
  cases hm : (a == -1 && b == 0 && c == 0 && d == -1)
  case true =>
    simp at hm
    obtain ⟨⟨⟨rfl, rfl⟩, rfl⟩, rfl⟩ := hm
    rfl
  have ns := not_scalar hD hu hm
  simp only [cond_false, Bool.false_or]
  rcases hD with e | e
  · have e1 : (a * d - b * c == -1) = false := by rw [e]; rfl
    simp only [e1, Bool.false_and, cond_false]
    by_cases t1 : a + d = -1
    · obtain ⟨h1, h2, h3, _⟩ := pw_six t1 e rfl
      rw [t1]
      show _ = 3
      unfold ordI
      rw [ordGo_skip (by rw [h1]; exact lin_lim hl (by omega) (by omega) (by omega)) (by rw [h1]; exact lin_unit (by omega) ns),
        ordGo_skip (by rw [h2]; exact lin_lim hl (by omega) (by omega) (by omega)) (by rw [h2]; exact lin_unit (by omega) ns),
        ordGo_here (by rw [h3]; exact lin0_lim (by omega)) (by rw [h3]; exact lin0_yes)]
      rfl
    by_cases t2 : a + d = 0
    · obtain ⟨h1, h2, h3, h4, _⟩ := pw_six t2 e rfl
      rw [t2]
      show _ = 4
      unfold ordI
      rw [ordGo_skip (by rw [h1]; exact lin_lim hl (by omega) (by omega) (by omega)) (by rw [h1]; exact lin_unit (by omega) ns),
        ordGo_skip (by rw [h2]; exact lin0_lim (by omega)) (by rw [h2]; exact lin0_no),
        ordGo_skip (by rw [h3]; exact lin_lim hl (by omega) (by omega) (by omega)) (by rw [h3]; exact lin_unit (by omega) ns),
        ordGo_here (by rw [h4]; exact lin0_lim (by omega)) (by rw [h4]; exact lin0_yes)]
      rfl
    by_cases t3 : a + d = 1
    · obtain ⟨h1, h2, h3, h4, h5, h6⟩ := pw_six t3 e rfl
      rw [t3]
      show _ = 6
      unfold ordI
      rw [ordGo_skip (by rw [h1]; exact lin_lim hl (by omega) (by omega) (by omega)) (by rw [h1]; exact lin_unit (by omega) ns),
        ordGo_skip (by rw [h2]; exact lin_lim hl (by omega) (by omega) (by omega)) (by rw [h2]; exact lin_unit (by omega) ns),
        ordGo_skip (by rw [h3]; exact lin0_lim (by omega)) (by rw [h3]; exact lin0_no),
        ordGo_skip (by rw [h4]; exact lin_lim hl (by omega) (by omega) (by omega)) (by rw [h4]; exact lin_unit (by omega) ns),
        ordGo_skip (by rw [h5]; exact lin_lim hl (by omega) (by omega) (by omega)) (by rw [h5]; exact lin_unit (by omega) ns),
        ordGo_here (by rw [h6]; exact lin0_lim (by omega)) (by rw [h6]; exact lin0_yes)]
      rfl
    have f1 : (a + d == -1) = false := by simpa using t1
    have f2 : (a + d == 0) = false := by simpa using t2
    have f3 : (a + d == 1) = false := by simpa using t3
    simp only [f1, f2, f3, cond_false]
    exact ord_inf ns (.inl ⟨e, by omega⟩)
  · have e1 : (a * d - b * c == -1) = true := by rw [e]; rfl
    simp only [e1, Bool.true_and, cond_true]
    by_cases t2 : a + d = 0
    · obtain ⟨h1, h2, _⟩ := pw_six t2 e rfl
      rw [t2]
      show _ = 2
      unfold ordI
      rw [ordGo_skip (by rw [h1]; exact lin_lim hl (by omega) (by omega) (by omega)) (by rw [h1]; exact lin_unit (by omega) ns),
        ordGo_here (by rw [h2]; exact lin0_lim (by omega)) (by rw [h2]; exact lin0_yes)]
      rfl
    have f2 : (a + d == 0) = false := by simpa using t2
    simp only [f2, cond_false]
    exact ord_inf ns (.inr ⟨e, t2⟩)

/- a found order: all powers on the way are small, and the last is the unit -/
/- kinds -/
def reflB (a b c d : Int) : Bool := a * d - b * c == -1 && a + d == 0
end
end Go.Proofs.YtkfeajjpbmbmpaaGreatDoor

namespace Go.Proofs.YtkfeajjpbmbmpaaGreatDoor
section
open Go.RowKit
set_option linter.unusedSimpArgs false
set_option linter.unusedVariables false

/- composition -/
def cmpI (a b c d x y a' b' c' d' x' y' : Int) : Int × Int × Int × Int × Int × Int := (a * a' + b * c', a * b' + b * d', c * a' + d * c', c * b' + d * d', a * x' + b * y' + x, c * x' + d * y' + y)
/- the way back -/
/- kinds and orders -/
/- centres -/
/- the centre is not moved -/
end
end Go.Proofs.YtkfeajjpbmbmpaaGreatDoor

namespace Go.Proofs.YtkfeajjpbmbmpaaGreatDoor
section
open Go.RowKit

def Km (g : Nat) (a b c d x y : Int) (W : World) : Prop := g < W.heap.size ∧ W.cell? ⟨g, 0, none⟩ = some (.int .i64 a) ∧ W.cell? ⟨g, 1, none⟩ = some (.int .i64 b) ∧ W.cell? ⟨g, 2, none⟩ = some (.int .i64 c) ∧ W.cell? ⟨g, 3, none⟩ = some (.int .i64 d) ∧ W.cell? ⟨g, 4, none⟩ = some (.int .i64 x) ∧ W.cell? ⟨g, 5, none⟩ = some (.int .i64 y)
theorem Km.cells {g : Nat} {a b c d x y : Int} {W : World} (h : Km g a b c d x y W) : W.cell? ⟨g, 0, none⟩ = some (.int .i64 a) ∧ W.cell? ⟨g, 1, none⟩ = some (.int .i64 b) ∧ W.cell? ⟨g, 2, none⟩ = some (.int .i64 c) ∧ W.cell? ⟨g, 3, none⟩ = some (.int .i64 d) ∧ W.cell? ⟨g, 4, none⟩ = some (.int .i64 x) ∧ W.cell? ⟨g, 5, none⟩ = some (.int .i64 y) := h.2
theorem Km.c0 {g : Nat} {a b c d x y : Int} {W : World} (h : Km g a b c d x y W) : W.cell? ⟨g, 0, none⟩ = some (.int .i64 a) := h.2.1
theorem Km.c1 {g : Nat} {a b c d x y : Int} {W : World} (h : Km g a b c d x y W) : W.cell? ⟨g, 1, none⟩ = some (.int .i64 b) := h.2.2.1
theorem Km.c2 {g : Nat} {a b c d x y : Int} {W : World} (h : Km g a b c d x y W) : W.cell? ⟨g, 2, none⟩ = some (.int .i64 c) := h.2.2.2.1
theorem Km.c3 {g : Nat} {a b c d x y : Int} {W : World} (h : Km g a b c d x y W) : W.cell? ⟨g, 3, none⟩ = some (.int .i64 d) := h.2.2.2.2.1
theorem Km.c4 {g : Nat} {a b c d x y : Int} {W : World} (h : Km g a b c d x y W) : W.cell? ⟨g, 4, none⟩ = some (.int .i64 x) := h.2.2.2.2.2.1
theorem Km.c5 {g : Nat} {a b c d x y : Int} {W : World} (h : Km g a b c d x y W) : W.cell? ⟨g, 5, none⟩ = some (.int .i64 y) := h.2.2.2.2.2.2
theorem Km.grow {g B : Nat} {a b c d x y : Int} {W w1 : World} (h : Km g a b c d x y W) (hb : Below B W w1) (hg : g < B) : Km g a b c d x y w1 := by
  obtain ⟨h0, h1, h2, h3, h4, h5, h6⟩ := h
  have hs := hb.size
  exact ⟨by omega, by rw [hb.cell (by show g < _; omega)]; exact h1, by rw [hb.cell (by show g < _; omega)]; exact h2, by rw [hb.cell (by show g < _; omega)]; exact h3, by rw [hb.cell (by show g < _; omega)]; exact h4, by rw [hb.cell (by show g < _; omega)]; exact h5, by rw [hb.cell (by show g < _; omega)]; exact h6⟩
theorem Km.call {g : Nat} {a b c d x y : Int} {W w1 : World} (h : Km g a b c d x y W) (hb : Below W.heap.size W w1) : Km g a b c d x y w1 := h.grow hb h.1
theorem Km.alloc {g : Nat} {a b c d x y : Int} {W : World} (h : Km g a b c d x y W) (o : Obj) : Km g a b c d x y (W.alloc o) := h.call ((Below.refl _ _).alloc (Nat.le_refl _) _)
theorem Km.drew {g : Nat} {a b c d x y : Int} {W : World} (h : Km g a b c d x y W) : Km g a b c d x y W.drew := h.call (Below.refl _ _).drew
theorem Km.put {g : Nat} {a b c d x y : Int} {W : World} {p : Addr} {u : Value} (hp : g < p.block) (h : Km g a b c d x y W) : Km g a b c d x y (W.setCell p u) :=
  h.grow (B := g + 1) ((Below.refl _ _).setCell (by omega) u) (Nat.lt_succ_self _)
theorem Km.far {R : Nat} {a b c d x y : Int} {W : World} {q : Addr} {u : Value} (hq : q.block ≠ R) (h : Km R a b c d x y W) : Km R a b c d x y (W.setCell q u) := by
  have hh : (W.setCell q u).heap[R]? = W.heap[R]? := Below.heap_setCell _ _ _ _ (by omega)
  exact ⟨by simpa [World.setCell] using h.1, (World.cell?_of_block (w := W) hh).trans h.c0, (World.cell?_of_block (w := W) hh).trans h.c1, (World.cell?_of_block (w := W) hh).trans h.c2, (World.cell?_of_block (w := W) hh).trans h.c3, (World.cell?_of_block (w := W) hh).trans h.c4, (World.cell?_of_block (w := W) hh).trans h.c5⟩
theorem Km.at {w : World} {a b c d x y : Int} {T : TypeId} (R : Nat) (hR : R = w.heap.size) : Km R a b c d x y (w.alloc (.cells #[.int .i64 a, .int .i64 b, .int .i64 c, .int .i64 d, .int .i64 x, .int .i64 y] T)) := by
  subst hR
  refine ⟨by simp, ?_, ?_, ?_, ?_, ?_, ?_⟩ <;> simp [go_sem]

/- a block of 6 numbers that may be written -/
structure KM (R : Nat) (a b c d x y : Int) (W : World) : Prop where
  lt : R < W.heap.size
  c0 : W.cell? ⟨R, 0, none⟩ = some (.int .i64 a)
  c1 : W.cell? ⟨R, 1, none⟩ = some (.int .i64 b)
  c2 : W.cell? ⟨R, 2, none⟩ = some (.int .i64 c)
  c3 : W.cell? ⟨R, 3, none⟩ = some (.int .i64 d)
  c4 : W.cell? ⟨R, 4, none⟩ = some (.int .i64 x)
  c5 : W.cell? ⟨R, 5, none⟩ = some (.int .i64 y)
  f0 : W.frozen? ⟨R, 0, none⟩ = false
  f1 : W.frozen? ⟨R, 1, none⟩ = false
  f2 : W.frozen? ⟨R, 2, none⟩ = false
  f3 : W.frozen? ⟨R, 3, none⟩ = false
  f4 : W.frozen? ⟨R, 4, none⟩ = false
  f5 : W.frozen? ⟨R, 5, none⟩ = false
theorem KM.km {R : Nat} {a b c d x y : Int} {W : World} (h : KM R a b c d x y W) : Km R a b c d x y W := ⟨h.lt, h.c0, h.c1, h.c2, h.c3, h.c4, h.c5⟩
theorem KM.at {w : World} {a b c d x y : Int} {T : TypeId} (R : Nat) (hR : R = w.heap.size) : KM R a b c d x y (w.alloc (.cells #[.int .i64 a, .int .i64 b, .int .i64 c, .int .i64 d, .int .i64 x, .int .i64 y] T)) := by
  subst hR
  refine ⟨by simp, ?_, ?_, ?_, ?_, ?_, ?_, ?_, ?_, ?_, ?_, ?_, ?_⟩ <;> simp [go_sem]
theorem KM.grow {R B : Nat} {a b c d x y : Int} {W w1 : World} (h : KM R a b c d x y W) (hb : Below B W w1) (hg : R < B) : KM R a b c d x y w1 :=
  ⟨Nat.lt_of_lt_of_le h.lt hb.size, by rw [hb.cell hg]; exact h.c0, by rw [hb.cell hg]; exact h.c1, by rw [hb.cell hg]; exact h.c2, by rw [hb.cell hg]; exact h.c3, by rw [hb.cell hg]; exact h.c4, by rw [hb.cell hg]; exact h.c5, by rw [hb.frozen hg]; exact h.f0, by rw [hb.frozen hg]; exact h.f1, by rw [hb.frozen hg]; exact h.f2, by rw [hb.frozen hg]; exact h.f3, by rw [hb.frozen hg]; exact h.f4, by rw [hb.frozen hg]; exact h.f5⟩
theorem KM.call {R : Nat} {a b c d x y : Int} {W w1 : World} (h : KM R a b c d x y W) (hb : Below W.heap.size W w1) : KM R a b c d x y w1 := h.grow hb h.lt
theorem KM.alloc {R : Nat} {a b c d x y : Int} {W : World} (h : KM R a b c d x y W) (o : Obj) : KM R a b c d x y (W.alloc o) := h.call ((Below.refl _ _).alloc (Nat.le_refl _) _)
theorem KM.drew {R : Nat} {a b c d x y : Int} {W : World} (h : KM R a b c d x y W) : KM R a b c d x y W.drew := h.call (Below.refl _ _).drew
theorem KM.put {R : Nat} {a b c d x y : Int} {W : World} {p : Addr} {u : Value} (hp : R < p.block) (h : KM R a b c d x y W) : KM R a b c d x y (W.setCell p u) :=
  h.grow (B := R + 1) ((Below.refl _ _).setCell (by omega) u) (Nat.lt_succ_self _)
theorem KM.far {R : Nat} {a b c d x y : Int} {W : World} {q : Addr} {u : Value} (hq : q.block ≠ R) (h : KM R a b c d x y W) : KM R a b c d x y (W.setCell q u) := by
  have hh : (W.setCell q u).heap[R]? = W.heap[R]? := Below.heap_setCell _ _ _ _ (by omega)
  exact ⟨by simpa [World.setCell] using h.lt, (World.cell?_of_block (w := W) hh).trans h.c0, (World.cell?_of_block (w := W) hh).trans h.c1, (World.cell?_of_block (w := W) hh).trans h.c2, (World.cell?_of_block (w := W) hh).trans h.c3, (World.cell?_of_block (w := W) hh).trans h.c4, (World.cell?_of_block (w := W) hh).trans h.c5, (World.frozen?_of_block (w := W) hh).trans h.f0, (World.frozen?_of_block (w := W) hh).trans h.f1, (World.frozen?_of_block (w := W) hh).trans h.f2, (World.frozen?_of_block (w := W) hh).trans h.f3, (World.frozen?_of_block (w := W) hh).trans h.f4, (World.frozen?_of_block (w := W) hh).trans h.f5⟩
theorem KM.store {R : Nat} {a b c d x y : Int} {W : World} (h : KM R a b c d x y W) (a' b' c' d' x' y' : Int) : KM R a' b' c' d' x' y' ((((((W.setCell ⟨R, 0, none⟩ (.int .i64 a')).setCell ⟨R, 1, none⟩ (.int .i64 b')).setCell ⟨R, 2, none⟩ (.int .i64 c')).setCell ⟨R, 3, none⟩ (.int .i64 d')).setCell ⟨R, 4, none⟩ (.int .i64 x')).setCell ⟨R, 5, none⟩ (.int .i64 y')) := by
  obtain ⟨h0, h1, h2, h3, h4, h5, h6, h7, h8, h9, h10, h11, h12⟩ := h
  refine ⟨by simpa [World.setCell] using h0, ?_, ?_, ?_, ?_, ?_, ?_, ?_, ?_, ?_, ?_, ?_, ?_⟩ <;> simp [go_sem, *]
theorem KV.cells5 {R : Nat} {a b : Int} {W : World} (h : KV R a b W) : W.cell? ⟨R, 0, none⟩ = some (.int .i64 a) ∧ W.cell? ⟨R, 1, none⟩ = some (.int .i64 b) := ⟨h.c0, h.c1⟩
theorem KR.cells5 {R : Nat} {a b c d : Int} {W : World} (h : KR R a b c d W) : W.cell? ⟨R, 0, none⟩ = some (.int .i64 a) ∧ W.cell? ⟨R, 1, none⟩ = some (.int .i64 b) ∧ W.cell? ⟨R, 2, none⟩ = some (.int .i64 c) ∧ W.cell? ⟨R, 3, none⟩ = some (.int .i64 d) := ⟨h.c0, h.c1, h.c2, h.c3⟩
theorem KM.cells5 {R : Nat} {a b c d x y : Int} {W : World} (h : KM R a b c d x y W) : W.cell? ⟨R, 0, none⟩ = some (.int .i64 a) ∧ W.cell? ⟨R, 1, none⟩ = some (.int .i64 b) ∧ W.cell? ⟨R, 2, none⟩ = some (.int .i64 c) ∧ W.cell? ⟨R, 3, none⟩ = some (.int .i64 d) ∧ W.cell? ⟨R, 4, none⟩ = some (.int .i64 x) ∧ W.cell? ⟨R, 5, none⟩ = some (.int .i64 y) := h.km.2
theorem KV.far5 {R : Nat} {a b : Int} {W : World} {q : Addr} {u : Value} (hq : q.block ≠ R) (h : KV R a b W) : KV R a b (W.setCell q u) := by
  have hh : (W.setCell q u).heap[R]? = W.heap[R]? := Below.heap_setCell _ _ _ _ (by omega)
  exact ⟨by simpa [World.setCell] using h.lt, (World.cell?_of_block (w := W) hh).trans h.c0, (World.cell?_of_block (w := W) hh).trans h.c1, (World.frozen?_of_block (w := W) hh).trans h.f0, (World.frozen?_of_block (w := W) hh).trans h.f1⟩
end
end Go.Proofs.YtkfeajjpbmbmpaaGreatDoor

namespace Go.Proofs.YtkfeajjpbmbmpaaGreatDoor
section
open Go.RowKit
set_option linter.unusedSimpArgs false
set_option linter.unusedVariables false

abbrev M6 := Int × Int × Int × Int × Int × Int
def cells6 (xs : List M6) : List Value := xs.flatMap (fun t => [.int .i64 t.1, .int .i64 t.2.1, .int .i64 t.2.2.1, .int .i64 t.2.2.2.1, .int .i64 t.2.2.2.2.1, .int .i64 t.2.2.2.2.2])
theorem cells6_len (xs : List M6) : (cells6 xs).length = xs.length * 6 := by
  induction xs with
  | nil => rfl
  | cons a t ih => simp only [cells6, List.flatMap_cons, List.length_append, List.length_cons, List.length_nil] at *; omega
theorem cells6_snoc (xs : List M6) (t : M6) : cells6 (xs ++ [t]) = cells6 xs ++ [.int .i64 t.1, .int .i64 t.2.1, .int .i64 t.2.2.1, .int .i64 t.2.2.2.1, .int .i64 t.2.2.2.2.1, .int .i64 t.2.2.2.2.2] := by simp [cells6]
theorem cells6_app (xs ys : List M6) : cells6 (xs ++ ys) = cells6 xs ++ cells6 ys := by simp [cells6]
theorem cells6_int (xs : List M6) : ∀ u ∈ cells6 xs, ∃ z, u = .int .i64 z := by
  intro u hu
  obtain ⟨t, _, ht⟩ := List.mem_flatMap.1 hu
  simp only [List.mem_cons, List.not_mem_nil, or_false] at ht
  rcases ht with rfl | rfl | rfl | rfl | rfl | rfl <;> exact ⟨_, rfl⟩
theorem cells6_get : ∀ (xs : List M6) (i : Nat) (h : i < xs.length), (cells6 xs)[i * 6]? = some (.int .i64 xs[i].1) ∧ (cells6 xs)[i * 6 + 1]? = some (.int .i64 xs[i].2.1) ∧ (cells6 xs)[i * 6 + 2]? = some (.int .i64 xs[i].2.2.1) ∧ (cells6 xs)[i * 6 + 3]? = some (.int .i64 xs[i].2.2.2.1) ∧ (cells6 xs)[i * 6 + 4]? = some (.int .i64 xs[i].2.2.2.2.1) ∧ (cells6 xs)[i * 6 + 5]? = some (.int .i64 xs[i].2.2.2.2.2)
  | [], i, h => absurd h (by simp)
  | t :: xs, 0, _ => by simp [cells6]
  | t :: xs, i + 1, h => by
    have hs := cells6_get xs i (by simpa using h)
    have e : cells6 (t :: xs) = [.int .i64 t.1, .int .i64 t.2.1, .int .i64 t.2.2.1, .int .i64 t.2.2.2.1, .int .i64 t.2.2.2.2.1, .int .i64 t.2.2.2.2.2] ++ cells6 xs := by simp [cells6]
    rw [e]
    have st : ∀ j, ([.int .i64 t.1, .int .i64 t.2.1, .int .i64 t.2.2.1, .int .i64 t.2.2.2.1, .int .i64 t.2.2.2.2.1, .int .i64 t.2.2.2.2.2] ++ cells6 xs)[(i + 1) * 6 + j]? = (cells6 xs)[i * 6 + j]? := by
      intro j
      rw [List.getElem?_append_right (by simp; omega)]
      congr 1
      simp only [List.length_cons, List.length_nil]
      omega
    have s0 := st 0
    simp only [Nat.add_zero] at s0
    simp only [List.getElem_cons_succ]
    exact ⟨s0.trans hs.1, (st 1).trans hs.2.1, (st 2).trans hs.2.2.1, (st 3).trans hs.2.2.2.1, (st 4).trans hs.2.2.2.2.1, (st 5).trans hs.2.2.2.2.2⟩
def fm (xs : List M6) (t : Nat) : Int := intAt (cells6 xs) t
theorem fm_get (xs : List M6) (i : Nat) (h : i < xs.length) : fm xs (i * 6) = xs[i].1 ∧ fm xs (i * 6 + 1) = xs[i].2.1 ∧ fm xs (i * 6 + 2) = xs[i].2.2.1 ∧ fm xs (i * 6 + 3) = xs[i].2.2.2.1 ∧ fm xs (i * 6 + 4) = xs[i].2.2.2.2.1 ∧ fm xs (i * 6 + 5) = xs[i].2.2.2.2.2 := by
  have hg := cells6_get xs i h
  refine ⟨?_, ?_, ?_, ?_, ?_, ?_⟩ <;> simp [fm, intAt, hg]
theorem one_six {a b c d x y : Int} : ∀ u ∈ [Value.int .i64 a, .int .i64 b, .int .i64 c, .int .i64 d, .int .i64 x, .int .i64 y], u.oneCell' = true := by
  intro u hu
  simp only [List.mem_cons, List.not_mem_nil, or_false] at hu
  rcases hu with rfl | rfl | rfl | rfl | rfl | rfl <;> rfl
theorem new_six {W : World} {g : Nat} (T : TypeId) (a b c d x y : Value) (hg : g = W.heap.size) : ∀ (j : Nat) (u : Value), [a, b, c, d, x, y][j]? = some u → (W.alloc (.cells #[a, b, c, d, x, y] T)).cell? ((⟨g, 0, none⟩ : Addr).add j) = some u := by
  intro j u hj
  subst hg
  match j, hj with
  | 0, h => cases h; simp [go_sem]
  | 1, h => cases h; simp [go_sem]
  | 2, h => cases h; simp [go_sem]
  | 3, h => cases h; simp [go_sem]
  | 4, h => cases h; simp [go_sem]
  | 5, h => cases h; simp [go_sem]
  | j + 6, h => simp at h
theorem own_next6 {w1 : World} {base : Nat} {e : TypeId} {v : Value} {xs : List M6} {a b c d x y : Int} (h : w1.ownsRow base e 6 v (xs.length + 1) (cells6 xs ++ [.int .i64 a, .int .i64 b, .int .i64 c, .int .i64 d, .int .i64 x, .int .i64 y])) : w1.ownsRow base e 6 v (xs ++ [(a, b, c, d, x, y)]).length (cells6 (xs ++ [(a, b, c, d, x, y)])) := by
  rw [List.length_append, cells6_snoc]; exact h
theorem own_nil6 (w : World) (base : Nat) (e : TypeId) : w.ownsRow base e 6 (.slice none 0 0) ([] : List M6).length (cells6 []) := World.ownsRow_nil w base e 6
/- one motion of a row -/
def Ko6 (g o : Nat) (a b c d x y : Int) (W : World) : Prop := g < W.heap.size ∧ W.cell? ⟨g, o, none⟩ = some (.int .i64 a) ∧ W.cell? ⟨g, o + 1, none⟩ = some (.int .i64 b) ∧ W.cell? ⟨g, o + 2, none⟩ = some (.int .i64 c) ∧ W.cell? ⟨g, o + 3, none⟩ = some (.int .i64 d) ∧ W.cell? ⟨g, o + 4, none⟩ = some (.int .i64 x) ∧ W.cell? ⟨g, o + 5, none⟩ = some (.int .i64 y)
theorem Ko6.cells {g o : Nat} {a b c d x y : Int} {W : World} (h : Ko6 g o a b c d x y W) : W.cell? ⟨g, o, none⟩ = some (.int .i64 a) ∧ W.cell? ⟨g, o + 1, none⟩ = some (.int .i64 b) ∧ W.cell? ⟨g, o + 2, none⟩ = some (.int .i64 c) ∧ W.cell? ⟨g, o + 3, none⟩ = some (.int .i64 d) ∧ W.cell? ⟨g, o + 4, none⟩ = some (.int .i64 x) ∧ W.cell? ⟨g, o + 5, none⟩ = some (.int .i64 y) := h.2
theorem Ko6.call {g o : Nat} {a b c d x y : Int} {W w1 : World} (h : Ko6 g o a b c d x y W) (hb : Below W.heap.size W w1) : Ko6 g o a b c d x y w1 := by
  obtain ⟨h0, h1, h2, h3, h4, h5, h6⟩ := h
  exact ⟨Nat.lt_of_lt_of_le h0 hb.size, by rw [hb.cell (p := ⟨g, o, none⟩) h0]; exact h1, by rw [hb.cell (p := ⟨g, o + 1, none⟩) h0]; exact h2, by rw [hb.cell (p := ⟨g, o + 2, none⟩) h0]; exact h3, by rw [hb.cell (p := ⟨g, o + 3, none⟩) h0]; exact h4, by rw [hb.cell (p := ⟨g, o + 4, none⟩) h0]; exact h5, by rw [hb.cell (p := ⟨g, o + 5, none⟩) h0]; exact h6⟩
theorem Ko6.alloc {g o : Nat} {a b c d x y : Int} {W : World} (h : Ko6 g o a b c d x y W) (z : Obj) : Ko6 g o a b c d x y (W.alloc z) := h.call ((Below.refl _ _).alloc (Nat.le_refl _) _)
theorem Ko6.drew {g o : Nat} {a b c d x y : Int} {W : World} (h : Ko6 g o a b c d x y W) : Ko6 g o a b c d x y W.drew := h.call (Below.refl _ _).drew
theorem Ko6.put {g o : Nat} {a b c d x y : Int} {W : World} {q : Addr} {u : Value} (hq : q.block ≠ g) (h : Ko6 g o a b c d x y W) : Ko6 g o a b c d x y (W.setCell q u) := by
  have hh : (W.setCell q u).heap[g]? = W.heap[g]? := Below.heap_setCell _ _ _ _ (by omega)
  obtain ⟨h0, h1, h2, h3, h4, h5, h6⟩ := h
  exact ⟨by simpa [World.setCell] using h0, (World.cell?_of_block (w := W) hh).trans h1, (World.cell?_of_block (w := W) hh).trans h2, (World.cell?_of_block (w := W) hh).trans h3, (World.cell?_of_block (w := W) hh).trans h4, (World.cell?_of_block (w := W) hh).trans h5, (World.cell?_of_block (w := W) hh).trans h6⟩
theorem IRow.ko6 {g N : Nat} {F : Nat → Int} {W : World} (h : IRow g N F W) (o : Nat) (ho : o + 5 < N) : Ko6 g o (F (o)) (F (o + 1)) (F (o + 2)) (F (o + 3)) (F (o + 4)) (F (o + 5)) W := ⟨h.1, h.at (o) (by omega), h.at (o + 1) (by omega), h.at (o + 2) (by omega), h.at (o + 3) (by omega), h.at (o + 4) (by omega), h.at (o + 5) (by omega)⟩
theorem IRow.mo {g : Nat} {xs : List M6} {W : World} (h : IRow g (xs.length * 6) (fm xs) W) (i : Nat) (hi : i < xs.length) : Ko6 g (i * 6) xs[i].1 xs[i].2.1 xs[i].2.2.1 xs[i].2.2.2.1 xs[i].2.2.2.2.1 xs[i].2.2.2.2.2 W := by
  have k := h.ko6 (i * 6) (by omega)
  obtain ⟨e0, e1, e2, e3, e4, e5⟩ := fm_get xs i hi
  rwa [e0, e1, e2, e3, e4, e5] at k
theorem SRow.of6 {lo : Nat} {xs : List M6} {e : TypeId} {v : Value} {W : World} (h : W.ownsRow lo e 6 v xs.length (cells6 xs)) (hn : xs.length ≤ 1000000) : SRow lo W.heap.size 6 v xs.length (fm xs) W := SRow.of h (cells6_int xs) hn
end
end Go.Proofs.YtkfeajjpbmbmpaaGreatDoor

namespace Go.Proofs.YtkfeajjpbmbmpaaGreatDoor
section
open Go.RowKit
set_option linter.unusedSimpArgs false
set_option linter.unusedVariables false
end
end Go.Proofs.YtkfeajjpbmbmpaaGreatDoor

