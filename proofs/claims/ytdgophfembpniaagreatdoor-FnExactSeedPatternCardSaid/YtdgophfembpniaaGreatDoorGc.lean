/-
 Several of my texts in one: Chap1, Mat1, Keep2, M4, MatO, MoF, Keep5, MRow, MoE.
-/
import Derived.Test.YtdgophfembpniaaGreatDoorGa
import Derived.LoopTactic
import Derived.Deep.RegionHeld3
import Derived.Maps.AppendAt
import Derived.IntWalk
namespace Go.Proofs.YtdgophfembpniaaGreatDoor
section
open Go.RowKit
set_option linter.unusedSimpArgs false

end
end Go.Proofs.YtdgophfembpniaaGreatDoor

namespace Go.Proofs.YtdgophfembpniaaGreatDoor
section
open Go.RowKit
set_option linter.unusedSimpArgs false
set_option linter.unusedVariables false

def limB (a b c d : Int) : Bool := vecB a b && vecB c d
def matB (a b c d : Int) : Bool := limB a b c d && (a * d - b * c == 1 || a * d - b * c == -1)
theorem limB_bd {a b c d : Int} (h : limB a b c d = true) : ((-1000 ≤ a ∧ a ≤ 1000) ∧ (-1000 ≤ b ∧ b ≤ 1000)) ∧ ((-1000 ≤ c ∧ c ≤ 1000) ∧ (-1000 ≤ d ∧ d ≤ 1000)) := by
 simp [limB] at h
 exact ⟨vecB_bd h.1, vecB_bd h.2⟩
theorem limB_of {a b c d : Int} (ha : inB a (-1000) 1000 = true) (hb : inB b (-1000) 1000 = true) (hc : inB c (-1000) 1000 = true) (hd : inB d (-1000) 1000 = true) : limB a b c d = true := by
 simp [inB] at ha hb hc hd
 simp [limB, vecB]; omega
theorem limB_not {a b c d : Int} (h : inB a (-1000) 1000 = false ∨ inB b (-1000) 1000 = false ∨ inB c (-1000) 1000 = false ∨ inB d (-1000) 1000 = false) : limB a b c d = false := by
 simp [inB] at h
 simp [limB, vecB]; omega
theorem matB_lim {a b c d : Int} (h : matB a b c d = true) : limB a b c d = true := by simp [matB] at h; exact h.1
theorem mulBd {a b : Int} {A B : Int} (ha : -A ≤ a) (ha' : a ≤ A) (hb : -B ≤ b) (hb' : b ≤ B) : -(A * B) ≤ a * b ∧ a * b ≤ A * B := by
 have hA : 0 ≤ A := by omega
 have hB : 0 ≤ B := by omega
 have h1 : a.natAbs ≤ A.natAbs := by omega
 have h2 : b.natAbs ≤ B.natAbs := by omega
 have h3 : (a * b).natAbs ≤ (A * B).natAbs := by
  rw [Int.natAbs_mul, Int.natAbs_mul]; exact Nat.mul_le_mul h1 h2
 have h4 : 0 ≤ A * B := Int.mul_nonneg hA hB
 omega
theorem mul1000 {a b : Int} (ha : -1000 ≤ a ∧ a ≤ 1000) (hb : -1000 ≤ b ∧ b ≤ 1000) : -1000000 ≤ a * b ∧ a * b ≤ 1000000 := by
 have := mulBd ha.1 ha.2 hb.1 hb.2
 omega

/- which numbers of a matrix have been looked at -/
def LimAt (a b c d k : Int) : Prop :=
 k = 0 ∨ (k = 1 ∧ inB a (-1000) 1000 = true) ∨ (k = 2 ∧ inB a (-1000) 1000 = true ∧ inB b (-1000) 1000 = true) ∨
 (k = 3 ∧ inB a (-1000) 1000 = true ∧ inB b (-1000) 1000 = true ∧ inB c (-1000) 1000 = true) ∨
 (k = 4 ∧ limB a b c d = true)

set_option maxHeartbeats 1000000 in
theorem matrixOf_any (a b c d : Int) (w : World) :
  Calls Tryz.prog 146 #[.agg #[.int .i64 a, .int .i64 b, .int .i64 c, .int .i64 d]] w fun e w' => e = .returned (.agg #[.int .i64 a, .int .i64 b, .int .i64 c, .int .i64 d]) ∧ Below w.heap.size w w' := by
 go_enter Tryz.func146, Tryz.ntmps146
 go_wp2
 refine bodyPost_ret (v := .agg #[.int .i64 a, .int .i64 b, .int .i64 c, .int .i64 d]) (by simp [results, Tryz.results146, go_sem]) rfl ⟨rfl, ?_⟩
 repeat (first | exact Below.refl _ _ | refine Below.setCell ?_ (by first | omega | (simp <;> omega)) _ | refine Below.alloc ?_ (by first | omega | (simp <;> omega)) _ | refine bstep ?_ (by assumption) | refine Below.drew ?_)

set_option maxHeartbeats 1000000 in
theorem mat_any (a b c d : Int) (w : World) :
  Calls Tryz.prog 122 #[.agg #[.int .i64 a, .int .i64 b, .int .i64 c, .int .i64 d]] w fun e w' => e = .returned (.agg #[.int .i64 a, .int .i64 b, .int .i64 c, .int .i64 d]) ∧ Below w.heap.size w w' := by
 go_enter Tryz.func122, Tryz.ntmps122
 go_wp2
 refine bodyPost_ret (v := .agg #[.int .i64 a, .int .i64 b, .int .i64 c, .int .i64 d]) (by simp [results, Tryz.results122, go_sem]) rfl ⟨rfl, ?_⟩
 repeat (first | exact Below.refl _ _ | refine Below.setCell ?_ (by first | omega | (simp <;> omega)) _ | refine Below.alloc ?_ (by first | omega | (simp <;> omega)) _ | refine bstep ?_ (by assumption) | refine Below.drew ?_)

set_option maxHeartbeats 1000000 in
theorem toMat_any (a b c d : Int) (w : World) :
  Calls Tryz.prog 79 #[.agg #[.int .i64 a, .int .i64 b, .int .i64 c, .int .i64 d]] w fun e w' => e = .returned (.agg #[.int .i64 a, .int .i64 b, .int .i64 c, .int .i64 d]) ∧ Below w.heap.size w w' := by
 go_enter Tryz.func79, Tryz.ntmps79
 go_wp2
 refine bodyPost_ret (v := .agg #[.int .i64 a, .int .i64 b, .int .i64 c, .int .i64 d]) (by simp [results, Tryz.results79, go_sem]) rfl ⟨rfl, ?_⟩
 repeat (first | exact Below.refl _ _ | refine Below.setCell ?_ (by first | omega | (simp <;> omega)) _ | refine Below.alloc ?_ (by first | omega | (simp <;> omega)) _ | refine bstep ?_ (by assumption) | refine Below.drew ?_)

set_option maxHeartbeats 1000000 in
theorem isLimited_any (a b c d : Int) (w : World) :
  Calls Tryz.prog 194 #[.agg #[.int .i64 a, .int .i64 b, .int .i64 c, .int .i64 d]] w fun e w' => e = .returned (.bool (limB a b c d)) ∧ Below w.heap.size w w' := by
 go_enter Tryz.func194, Tryz.ntmps194
 go_wp2_with fail
 go_loop [6] (fun i => ∃ k : Int, i = .int .i64 k ∧ LimAt a b c d k) (fun i => (4 - intOf i).toNat)
 case atStart => exact ⟨0, rfl, .inl rfl⟩
 case round =>
  obtain ⟨k, rfl, hk⟩ := hrel
  rcases hk with rfl | ⟨rfl, h0⟩ | ⟨rfl, h0, h1⟩ | ⟨rfl, h0, h1, h2⟩ | ⟨rfl, h0⟩
  ·have ix : ∀ w : World, (Instr.index 134 (.agg #[.int .i64 a, .int .i64 b, .int .i64 c, .int .i64 d]) (.int .i64 0)).run Tryz.prog w = .ok (.int .i64 a) w := fun _ => by kernel_rfl
   rcases hx : inB a (-1000) 1000 with _ | _
   ·go_wp2_with (go_at_call 169; refine (isWithin_any _ _ _ (by omega) (by omega)).mono ?_; rintro e w' ⟨rfl, rfl⟩)
    go_ret
    exact ⟨ret_bool (limB_not (.inl hx)).symm, (Below.refl _ _).alloc (Nat.le_refl _) _⟩
   ·go_wp2_with (go_at_call 169; refine (isWithin_any _ _ _ (by omega) (by omega)).mono ?_; rintro e w' ⟨rfl, rfl⟩)
    go_round
    case rel => exact ⟨1, rfl, .inr (.inl ⟨rfl, hx⟩)⟩
    case measure => simp [intOf]
  ·have ix : ∀ w : World, (Instr.index 134 (.agg #[.int .i64 a, .int .i64 b, .int .i64 c, .int .i64 d]) (.int .i64 1)).run Tryz.prog w = .ok (.int .i64 b) w := fun _ => by kernel_rfl
   rcases hx : inB b (-1000) 1000 with _ | _
   ·go_wp2_with (go_at_call 169; refine (isWithin_any _ _ _ (by omega) (by omega)).mono ?_; rintro e w' ⟨rfl, rfl⟩)
    go_ret
    exact ⟨ret_bool (limB_not (.inr (.inl hx))).symm, (Below.refl _ _).alloc (Nat.le_refl _) _⟩
   ·go_wp2_with (go_at_call 169; refine (isWithin_any _ _ _ (by omega) (by omega)).mono ?_; rintro e w' ⟨rfl, rfl⟩)
    go_round
    case rel => exact ⟨2, rfl, .inr (.inr (.inl ⟨rfl, h0, hx⟩))⟩
    case measure => simp [intOf]
  ·have ix : ∀ w : World, (Instr.index 134 (.agg #[.int .i64 a, .int .i64 b, .int .i64 c, .int .i64 d]) (.int .i64 2)).run Tryz.prog w = .ok (.int .i64 c) w := fun _ => by kernel_rfl
   rcases hx : inB c (-1000) 1000 with _ | _
   ·go_wp2_with (go_at_call 169; refine (isWithin_any _ _ _ (by omega) (by omega)).mono ?_; rintro e w' ⟨rfl, rfl⟩)
    go_ret
    exact ⟨ret_bool (limB_not (.inr (.inr (.inl hx)))).symm, (Below.refl _ _).alloc (Nat.le_refl _) _⟩
   ·go_wp2_with (go_at_call 169; refine (isWithin_any _ _ _ (by omega) (by omega)).mono ?_; rintro e w' ⟨rfl, rfl⟩)
    go_round
    case rel => exact ⟨3, rfl, .inr (.inr (.inr (.inl ⟨rfl, h0, h1, hx⟩)))⟩
    case measure => simp [intOf]
  ·have ix : ∀ w : World, (Instr.index 134 (.agg #[.int .i64 a, .int .i64 b, .int .i64 c, .int .i64 d]) (.int .i64 3)).run Tryz.prog w = .ok (.int .i64 d) w := fun _ => by kernel_rfl
   rcases hx : inB d (-1000) 1000 with _ | _
   ·go_wp2_with (go_at_call 169; refine (isWithin_any _ _ _ (by omega) (by omega)).mono ?_; rintro e w' ⟨rfl, rfl⟩)
    go_ret
    exact ⟨ret_bool (limB_not (.inr (.inr (.inr (hx))))).symm, (Below.refl _ _).alloc (Nat.le_refl _) _⟩
   ·go_wp2_with (go_at_call 169; refine (isWithin_any _ _ _ (by omega) (by omega)).mono ?_; rintro e w' ⟨rfl, rfl⟩)
    go_round
    case rel => exact ⟨4, rfl, .inr (.inr (.inr (.inr ⟨rfl, limB_of h0 h1 h2 hx⟩)))⟩
    case measure => simp [intOf]
  ·have H0 := Lib.hid h0
   clear h0
   go_wp2
   go_ret
   exact ⟨ret_bool H0.out.symm, (Below.refl _ _).alloc (Nat.le_refl _) _⟩

set_option maxHeartbeats 1000000 in
theorem det_any (a b c d : Int) (w : World) (h : limB a b c d = true) :
  Calls Tryz.prog 195 #[.agg #[.int .i64 a, .int .i64 b, .int .i64 c, .int .i64 d]] w fun e w' => e = .returned (.int .i64 (a * d - b * c)) ∧ Below w.heap.size w w' := by
 obtain ⟨⟨ha, hb⟩, hc, hd⟩ := limB_bd h
 obtain ⟨b1, b2⟩ := mul1000 ha hd
 obtain ⟨b3, b4⟩ := mul1000 hb hc
 clear h
 go_enter Tryz.func195, Tryz.ntmps195
 go_wp2
 go_ret
 refine ⟨rfl, ?_⟩
 repeat (first | exact Below.refl _ _ | refine Below.setCell ?_ (by first | omega | (simp <;> omega)) _ | refine Below.alloc ?_ (by first | omega | (simp <;> omega)) _ | refine bstep ?_ (by assumption) | refine Below.drew ?_)

set_option maxHeartbeats 1000000 in
theorem l02Det_any (a b c d : Int) (w : World) (h : limB a b c d = true) :
  Calls Tryz.prog 176 #[.agg #[.int .i64 a, .int .i64 b, .int .i64 c, .int .i64 d]] w fun e w' => e = .returned (.int .i64 (a * d - b * c)) ∧ Below w.heap.size w w' := by
 obtain ⟨⟨ha, hb⟩, hc, hd⟩ := limB_bd h
 obtain ⟨b1, b2⟩ := mul1000 ha hd
 obtain ⟨b3, b4⟩ := mul1000 hb hc
 clear h
 go_enter Tryz.func176, Tryz.ntmps176
 go_wp2
 go_ret
 refine ⟨rfl, ?_⟩
 repeat (first | exact Below.refl _ _ | refine Below.setCell ?_ (by first | omega | (simp <;> omega)) _ | refine Below.alloc ?_ (by first | omega | (simp <;> omega)) _ | refine bstep ?_ (by assumption) | refine Below.drew ?_)

set_option maxHeartbeats 1000000 in
theorem l02Small_any (a b c d : Int) (w : World) :
  Calls Tryz.prog 175 #[.agg #[.int .i64 a, .int .i64 b, .int .i64 c, .int .i64 d]] w fun e w' => e = .returned (.bool (limB a b c d)) ∧ Below w.heap.size w w' := by
 rcases h1 : vecB a b with _ | _
 ·have ea : limB a b c d = false := by simp [limB, h1]
  have EA := Lib.hid ea
  clear ea
  go_enter Tryz.func175, Tryz.ntmps175
  go_wp2_with fail
  refine (specIsVec_any _ _ _).mono ?_
  rintro e w1 ⟨rfl, hb1⟩
  obtain ⟨hc1, hf1⟩ := bcell hb1
  have hz1a : w.heap.size < w1.heap.size := by have := hb1.size; (try simp at this); omega
  go_wp2
  go_ret
  refine ⟨ret_bool EA.out.symm, ?_⟩
  repeat (first | exact Below.refl _ _ | refine Below.setCell ?_ (by first | omega | (simp <;> omega)) _ | refine Below.alloc ?_ (by first | omega | (simp <;> omega)) _ | refine bstep ?_ (by assumption) | refine Below.drew ?_)
 rcases h2 : vecB c d with _ | _
 ·have ea : limB a b c d = false := by simp [limB, h2]
  have EA := Lib.hid ea
  clear ea
  go_enter Tryz.func175, Tryz.ntmps175
  go_wp2_with fail
  refine (specIsVec_any _ _ _).mono ?_
  rintro e w1 ⟨rfl, hb1⟩
  obtain ⟨hc1, hf1⟩ := bcell hb1
  have hz1a : w.heap.size < w1.heap.size := by have := hb1.size; (try simp at this); omega
  go_wp2_with fail
  refine (specIsVec_any _ _ _).mono ?_
  rintro e w2 ⟨rfl, hb2⟩
  obtain ⟨hc2, hf2⟩ := bcell hb2
  have hz2a : w.heap.size < w2.heap.size := by have := hb2.size; (try simp at this); omega
  go_wp2
  go_ret
  refine ⟨ret_bool EA.out.symm, ?_⟩
  repeat (first | exact Below.refl _ _ | refine Below.setCell ?_ (by first | omega | (simp <;> omega)) _ | refine Below.alloc ?_ (by first | omega | (simp <;> omega)) _ | refine bstep ?_ (by assumption) | refine Below.drew ?_)
 ·have ea : limB a b c d = true := by simp [limB, h1, h2]
  have EA := Lib.hid ea
  clear ea
  go_enter Tryz.func175, Tryz.ntmps175
  go_wp2_with fail
  refine (specIsVec_any _ _ _).mono ?_
  rintro e w1 ⟨rfl, hb1⟩
  obtain ⟨hc1, hf1⟩ := bcell hb1
  have hz1a : w.heap.size < w1.heap.size := by have := hb1.size; (try simp at this); omega
  go_wp2_with fail
  refine (specIsVec_any _ _ _).mono ?_
  rintro e w2 ⟨rfl, hb2⟩
  obtain ⟨hc2, hf2⟩ := bcell hb2
  have hz2a : w.heap.size < w2.heap.size := by have := hb2.size; (try simp at this); omega
  go_wp2
  go_ret
  refine ⟨ret_bool EA.out.symm, ?_⟩
  repeat (first | exact Below.refl _ _ | refine Below.setCell ?_ (by first | omega | (simp <;> omega)) _ | refine Below.alloc ?_ (by first | omega | (simp <;> omega)) _ | refine bstep ?_ (by assumption) | refine Below.drew ?_)

set_option maxHeartbeats 1000000 in
theorem isValidM_any (a b c d : Int) (w : World) :
  Calls Tryz.prog 180 #[.agg #[.int .i64 a, .int .i64 b, .int .i64 c, .int .i64 d]] w fun e w' => e = .returned (.bool (matB a b c d)) ∧ Below w.heap.size w w' := by
 rcases hl : limB a b c d with _ | _
 ·have ea : matB a b c d = false := by simp [matB, hl]
  have EA := Lib.hid ea
  clear ea
  go_enter Tryz.func180, Tryz.ntmps180
  go_wp2_with fail
  refine (isLimited_any _ _ _ _ _).mono ?_
  rintro e w1 ⟨rfl, hb1⟩
  obtain ⟨hc1, hf1⟩ := bcell hb1
  have hz1a : w.heap.size < w1.heap.size := by have := hb1.size; (try simp at this); omega
  go_wp2
  go_ret
  refine ⟨ret_bool EA.out.symm, ?_⟩
  repeat (first | exact Below.refl _ _ | refine Below.setCell ?_ (by first | omega | (simp <;> omega)) _ | refine Below.alloc ?_ (by first | omega | (simp <;> omega)) _ | refine bstep ?_ (by assumption) | refine Below.drew ?_)
 rcases hd : inB (a * d - b * c) (-1) 1 with _ | _
 ·have ea : matB a b c d = false := by simp [inB] at hd; simp [matB, hl]; omega
  have EA := Lib.hid ea
  clear ea
  go_enter Tryz.func180, Tryz.ntmps180
  go_wp2_with fail
  refine (isLimited_any _ _ _ _ _).mono ?_
  rintro e w1 ⟨rfl, hb1⟩
  obtain ⟨hc1, hf1⟩ := bcell hb1
  have hz1a : w.heap.size < w1.heap.size := by have := hb1.size; (try simp at this); omega
  go_wp2_with fail
  refine (det_any _ _ _ _ _ hl).mono ?_
  rintro e w2 ⟨rfl, hb2⟩
  obtain ⟨hc2, hf2⟩ := bcell hb2
  have hz2a : w.heap.size < w2.heap.size := by have := hb2.size; (try simp at this); omega
  go_wp2_with fail
  refine (isWithin_any _ _ _ (by omega) (by omega)).mono ?_
  rintro e w3 ⟨rfl, rfl⟩
  go_wp2
  go_ret
  refine ⟨ret_bool EA.out.symm, ?_⟩
  repeat (first | exact Below.refl _ _ | refine Below.setCell ?_ (by first | omega | (simp <;> omega)) _ | refine Below.alloc ?_ (by first | omega | (simp <;> omega)) _ | refine bstep ?_ (by assumption) | refine Below.drew ?_)
 rcases hz : a * d - b * c == 0 with _ | _
 ·have ea : matB a b c d = true := by simp [inB] at hd; simp at hz; simp [matB, hl]; omega
  have hz' : (a * d - b * c != 0) = true := by simp [bne, hz]
  have EA := Lib.hid ea
  clear ea
  go_enter Tryz.func180, Tryz.ntmps180
  go_wp2_with fail
  refine (isLimited_any _ _ _ _ _).mono ?_
  rintro e w1 ⟨rfl, hb1⟩
  obtain ⟨hc1, hf1⟩ := bcell hb1
  have hz1a : w.heap.size < w1.heap.size := by have := hb1.size; (try simp at this); omega
  go_wp2_with fail
  refine (det_any _ _ _ _ _ hl).mono ?_
  rintro e w2 ⟨rfl, hb2⟩
  obtain ⟨hc2, hf2⟩ := bcell hb2
  have hz2a : w.heap.size < w2.heap.size := by have := hb2.size; (try simp at this); omega
  go_wp2_with fail
  refine (isWithin_any _ _ _ (by omega) (by omega)).mono ?_
  rintro e w3 ⟨rfl, rfl⟩
  go_wp2_with fail
  refine (det_any _ _ _ _ _ hl).mono ?_
  rintro e w4 ⟨rfl, hb4⟩
  obtain ⟨hc4, hf4⟩ := bcell hb4
  have hz4a : w.heap.size < w4.heap.size := by have := hb4.size; (try simp at this); omega
  go_wp2
  go_ret
  refine ⟨ret_bool EA.out.symm, ?_⟩
  repeat (first | exact Below.refl _ _ | refine Below.setCell ?_ (by first | omega | (simp <;> omega)) _ | refine Below.alloc ?_ (by first | omega | (simp <;> omega)) _ | refine bstep ?_ (by assumption) | refine Below.drew ?_)
 ·have ea : matB a b c d = false := by simp at hz; simp [matB, hz]
  have hz' : (a * d - b * c != 0) = false := by simp [bne, hz]
  have EA := Lib.hid ea
  clear ea
  go_enter Tryz.func180, Tryz.ntmps180
  go_wp2_with fail
  refine (isLimited_any _ _ _ _ _).mono ?_
  rintro e w1 ⟨rfl, hb1⟩
  obtain ⟨hc1, hf1⟩ := bcell hb1
  have hz1a : w.heap.size < w1.heap.size := by have := hb1.size; (try simp at this); omega
  go_wp2_with fail
  refine (det_any _ _ _ _ _ hl).mono ?_
  rintro e w2 ⟨rfl, hb2⟩
  obtain ⟨hc2, hf2⟩ := bcell hb2
  have hz2a : w.heap.size < w2.heap.size := by have := hb2.size; (try simp at this); omega
  go_wp2_with fail
  refine (isWithin_any _ _ _ (by omega) (by omega)).mono ?_
  rintro e w3 ⟨rfl, rfl⟩
  go_wp2_with fail
  refine (det_any _ _ _ _ _ hl).mono ?_
  rintro e w4 ⟨rfl, hb4⟩
  obtain ⟨hc4, hf4⟩ := bcell hb4
  have hz4a : w.heap.size < w4.heap.size := by have := hb4.size; (try simp at this); omega
  go_wp2
  go_ret
  refine ⟨ret_bool EA.out.symm, ?_⟩
  repeat (first | exact Below.refl _ _ | refine Below.setCell ?_ (by first | omega | (simp <;> omega)) _ | refine Below.alloc ?_ (by first | omega | (simp <;> omega)) _ | refine bstep ?_ (by assumption) | refine Below.drew ?_)

set_option maxHeartbeats 1000000 in
theorem specIsMat_any (a b c d : Int) (w : World) :
  Calls Tryz.prog 159 #[.agg #[.int .i64 a, .int .i64 b, .int .i64 c, .int .i64 d]] w fun e w' => e = .returned (.bool (matB a b c d)) ∧ Below w.heap.size w w' := by
 rcases hl : limB a b c d with _ | _
 ·have ea : matB a b c d = false := by simp [matB, hl]
  have EA := Lib.hid ea
  clear ea
  go_enter Tryz.func159, Tryz.ntmps159
  go_wp2_with fail
  refine (l02Small_any _ _ _ _ _).mono ?_
  rintro e w1 ⟨rfl, hb1⟩
  obtain ⟨hc1, hf1⟩ := bcell hb1
  have hz1a : w.heap.size < w1.heap.size := by have := hb1.size; (try simp at this); omega
  go_wp2
  go_ret
  refine ⟨ret_bool EA.out.symm, ?_⟩
  repeat (first | exact Below.refl _ _ | refine Below.setCell ?_ (by first | omega | (simp <;> omega)) _ | refine Below.alloc ?_ (by first | omega | (simp <;> omega)) _ | refine bstep ?_ (by assumption) | refine Below.drew ?_)
 rcases hd : a * d - b * c == 1 with _ | _
 ·rcases hz : a * d - b * c == -1 with _ | _
  ·have ea : matB a b c d = false := by simp [matB, hd, hz]
   have EA := Lib.hid ea
   clear ea
   go_enter Tryz.func159, Tryz.ntmps159
   go_wp2_with fail
   refine (l02Small_any _ _ _ _ _).mono ?_
   rintro e w1 ⟨rfl, hb1⟩
   obtain ⟨hc1, hf1⟩ := bcell hb1
   have hz1a : w.heap.size < w1.heap.size := by have := hb1.size; (try simp at this); omega
   go_wp2_with fail
   refine (l02Det_any _ _ _ _ _ hl).mono ?_
   rintro e w2 ⟨rfl, hb2⟩
   obtain ⟨hc2, hf2⟩ := bcell hb2
   have hz2a : w.heap.size < w2.heap.size := by have := hb2.size; (try simp at this); omega
   go_wp2_with fail
   refine (l02Det_any _ _ _ _ _ hl).mono ?_
   rintro e w3 ⟨rfl, hb3⟩
   obtain ⟨hc3, hf3⟩ := bcell hb3
   have hz3a : w.heap.size < w3.heap.size := by have := hb3.size; (try simp at this); omega
   go_wp2
   go_ret
   refine ⟨ret_bool EA.out.symm, ?_⟩
   repeat (first | exact Below.refl _ _ | refine Below.setCell ?_ (by first | omega | (simp <;> omega)) _ | refine Below.alloc ?_ (by first | omega | (simp <;> omega)) _ | refine bstep ?_ (by assumption) | refine Below.drew ?_)
  ·have ea : matB a b c d = true := by simp [matB, hl, hz]
   have EA := Lib.hid ea
   clear ea
   go_enter Tryz.func159, Tryz.ntmps159
   go_wp2_with fail
   refine (l02Small_any _ _ _ _ _).mono ?_
   rintro e w1 ⟨rfl, hb1⟩
   obtain ⟨hc1, hf1⟩ := bcell hb1
   have hz1a : w.heap.size < w1.heap.size := by have := hb1.size; (try simp at this); omega
   go_wp2_with fail
   refine (l02Det_any _ _ _ _ _ hl).mono ?_
   rintro e w2 ⟨rfl, hb2⟩
   obtain ⟨hc2, hf2⟩ := bcell hb2
   have hz2a : w.heap.size < w2.heap.size := by have := hb2.size; (try simp at this); omega
   go_wp2_with fail
   refine (l02Det_any _ _ _ _ _ hl).mono ?_
   rintro e w3 ⟨rfl, hb3⟩
   obtain ⟨hc3, hf3⟩ := bcell hb3
   have hz3a : w.heap.size < w3.heap.size := by have := hb3.size; (try simp at this); omega
   go_wp2
   go_ret
   refine ⟨ret_bool EA.out.symm, ?_⟩
   repeat (first | exact Below.refl _ _ | refine Below.setCell ?_ (by first | omega | (simp <;> omega)) _ | refine Below.alloc ?_ (by first | omega | (simp <;> omega)) _ | refine bstep ?_ (by assumption) | refine Below.drew ?_)
 ·have ea : matB a b c d = true := by simp [matB, hl, hd]
  have EA := Lib.hid ea
  clear ea
  go_enter Tryz.func159, Tryz.ntmps159
  go_wp2_with fail
  refine (l02Small_any _ _ _ _ _).mono ?_
  rintro e w1 ⟨rfl, hb1⟩
  obtain ⟨hc1, hf1⟩ := bcell hb1
  have hz1a : w.heap.size < w1.heap.size := by have := hb1.size; (try simp at this); omega
  go_wp2_with fail
  refine (l02Det_any _ _ _ _ _ hl).mono ?_
  rintro e w2 ⟨rfl, hb2⟩
  obtain ⟨hc2, hf2⟩ := bcell hb2
  have hz2a : w.heap.size < w2.heap.size := by have := hb2.size; (try simp at this); omega
  go_wp2
  go_ret
  refine ⟨ret_bool EA.out.symm, ?_⟩
  repeat (first | exact Below.refl _ _ | refine Below.setCell ?_ (by first | omega | (simp <;> omega)) _ | refine Below.alloc ?_ (by first | omega | (simp <;> omega)) _ | refine bstep ?_ (by assumption) | refine Below.drew ?_)

set_option maxHeartbeats 1000000 in
theorem implIsMat_any (a b c d : Int) (w : World) :
  Calls Tryz.prog 165 #[.agg #[.int .i64 a, .int .i64 b, .int .i64 c, .int .i64 d]] w fun e w' => e = .returned (.bool (matB a b c d)) ∧ Below w.heap.size w w' := by
 go_enter Tryz.func165, Tryz.ntmps165
 go_wp2_with fail
 refine (matrixOf_any _ _ _ _ _).mono ?_
 rintro e w1 ⟨rfl, hb1⟩
 obtain ⟨hc1, hf1⟩ := bcell hb1
 have hz1a : w.heap.size < w1.heap.size := by have := hb1.size; (try simp at this); omega
 go_wp2_with fail
 refine (isValidM_any _ _ _ _ _).mono ?_
 rintro e w2 ⟨rfl, hb2⟩
 obtain ⟨hc2, hf2⟩ := bcell hb2
 have hz2a : w.heap.size < w2.heap.size := by have := hb2.size; (try simp at this); omega
 go_wp2
 go_ret
 refine ⟨rfl, ?_⟩
 repeat (first | exact Below.refl _ _ | refine Below.setCell ?_ (by first | omega | (simp <;> omega)) _ | refine Below.alloc ?_ (by first | omega | (simp <;> omega)) _ | refine bstep ?_ (by assumption) | refine Below.drew ?_)

def eqM (a b c d a' b' c' d' : Int) : Bool := a == a' && b == b' && c == c' && d == d'
theorem eqM_rfl (a b c d : Int) : eqM a b c d a b c d = true := by simp [eqM]

set_option maxHeartbeats 1000000 in
theorem eqMat_any (a b c d a' b' c' d' : Int) (w : World) :
  Calls Tryz.prog 81 #[.agg #[.int .i64 a, .int .i64 b, .int .i64 c, .int .i64 d], .agg #[.int .i64 a', .int .i64 b', .int .i64 c', .int .i64 d']] w fun e w' => e = .returned (.bool (eqM a b c d a' b' c' d')) ∧ Below w.heap.size w w' := by
 go_enter Tryz.func81, Tryz.ntmps81
 go_wp2
 all_goals
  go_ret
  refine ⟨ret_bool (by simp_all [eqM, bne]), ?_⟩
  repeat (first | exact Below.refl _ _ | refine Below.setCell ?_ (by first | omega | (simp <;> omega)) _ | refine Below.alloc ?_ (by first | omega | (simp <;> omega)) _ | refine bstep ?_ (by assumption) | refine Below.drew ?_)

set_option maxHeartbeats 1000000 in
theorem apply_any (a b c d x y : Int) (w : World) (h : limB a b c d = true) (hv : vecB x y = true) :
  Calls Tryz.prog 156 #[.agg #[.int .i64 a, .int .i64 b, .int .i64 c, .int .i64 d], .agg #[.int .i64 x, .int .i64 y]] w fun e w' => e = .returned (.agg #[.int .i64 (a * x + b * y), .int .i64 (c * x + d * y)]) ∧ Below w.heap.size w w' := by
 obtain ⟨⟨ha, hb⟩, hc, hd⟩ := limB_bd h
 obtain ⟨hx, hy⟩ := vecB_bd hv
 obtain ⟨b1, b2⟩ := mul1000 ha hx
 obtain ⟨b3, b4⟩ := mul1000 hb hy
 obtain ⟨b5, b6⟩ := mul1000 hc hx
 obtain ⟨b7, b8⟩ := mul1000 hd hy
 clear h hv ha hb hc hd hx hy
 go_enter Tryz.func156, Tryz.ntmps156
 go_wp2
 refine bodyPost_ret (v := .agg #[.int .i64 (a * x + b * y), .int .i64 (c * x + d * y)]) (by simp [results, Tryz.results156, go_sem]) rfl ⟨rfl, ?_⟩
 repeat (first | exact Below.refl _ _ | refine Below.setCell ?_ (by first | omega | (simp <;> omega)) _ | refine Below.alloc ?_ (by first | omega | (simp <;> omega)) _ | refine bstep ?_ (by assumption) | refine Below.drew ?_)

set_option maxHeartbeats 1000000 in
theorem l02Apply_any (a b c d x y : Int) (w : World) (h : limB a b c d = true) (hv : vecB x y = true) :
  Calls Tryz.prog 142 #[.agg #[.int .i64 a, .int .i64 b, .int .i64 c, .int .i64 d], .agg #[.int .i64 x, .int .i64 y]] w fun e w' => e = .returned (.agg #[.int .i64 (a * x + b * y), .int .i64 (c * x + d * y)]) ∧ Below w.heap.size w w' := by
 obtain ⟨⟨ha, hb⟩, hc, hd⟩ := limB_bd h
 obtain ⟨hx, hy⟩ := vecB_bd hv
 obtain ⟨b1, b2⟩ := mul1000 ha hx
 obtain ⟨b3, b4⟩ := mul1000 hb hy
 obtain ⟨b5, b6⟩ := mul1000 hc hx
 obtain ⟨b7, b8⟩ := mul1000 hd hy
 clear h hv ha hb hc hd hx hy
 go_enter Tryz.func142, Tryz.ntmps142
 go_wp2
 refine bodyPost_ret (v := .agg #[.int .i64 (a * x + b * y), .int .i64 (c * x + d * y)]) (by simp [results, Tryz.results142, go_sem]) rfl ⟨rfl, ?_⟩
 repeat (first | exact Below.refl _ _ | refine Below.setCell ?_ (by first | omega | (simp <;> omega)) _ | refine Below.alloc ?_ (by first | omega | (simp <;> omega)) _ | refine bstep ?_ (by assumption) | refine Below.drew ?_)

set_option maxHeartbeats 1000000 in
theorem l02Multiply_any (a b c d a' b' c' d' : Int) (w : World) (h : limB a b c d = true) (h' : limB a' b' c' d' = true) :
  Calls Tryz.prog 140 #[.agg #[.int .i64 a, .int .i64 b, .int .i64 c, .int .i64 d], .agg #[.int .i64 a', .int .i64 b', .int .i64 c', .int .i64 d']] w fun e w' => e = .returned (.agg #[.int .i64 (a * a' + b * c'), .int .i64 (a * b' + b * d'), .int .i64 (c * a' + d * c'), .int .i64 (c * b' + d * d')]) ∧ Below w.heap.size w w' := by
 obtain ⟨⟨ha, hb⟩, hc, hd⟩ := limB_bd h
 obtain ⟨⟨ha', hb'⟩, hc', hd'⟩ := limB_bd h'
 obtain ⟨b1, b2⟩ := mul1000 ha ha'
 obtain ⟨b3, b4⟩ := mul1000 hb hc'
 obtain ⟨b5, b6⟩ := mul1000 ha hb'
 obtain ⟨b7, b8⟩ := mul1000 hb hd'
 obtain ⟨b9, b10⟩ := mul1000 hc ha'
 obtain ⟨b11, b12⟩ := mul1000 hd hc'
 obtain ⟨b13, b14⟩ := mul1000 hc hb'
 obtain ⟨b15, b16⟩ := mul1000 hd hd'
 clear h h' ha hb hc hd ha' hb' hc' hd'
 go_enter Tryz.func140, Tryz.ntmps140
 go_wp2
 refine bodyPost_ret (v := .agg #[.int .i64 (a * a' + b * c'), .int .i64 (a * b' + b * d'), .int .i64 (c * a' + d * c'), .int .i64 (c * b' + d * d')]) (by simp [results, Tryz.results140, go_sem]) rfl ⟨rfl, ?_⟩
 repeat (first | exact Below.refl _ _ | refine Below.setCell ?_ (by first | omega | (simp <;> omega)) _ | refine Below.alloc ?_ (by first | omega | (simp <;> omega)) _ | refine bstep ?_ (by assumption) | refine Below.drew ?_)

set_option maxHeartbeats 1000000 in
theorem l02Unit_any (w : World) :
  Calls Tryz.prog 132 #[] w fun e w' => e = .returned (.agg #[.int .i64 1, .int .i64 0, .int .i64 0, .int .i64 1]) ∧ Below w.heap.size w w' := by
 go_enter Tryz.func132, Tryz.ntmps132
 go_wp2
 refine bodyPost_ret (v := .agg #[.int .i64 1, .int .i64 0, .int .i64 0, .int .i64 1]) (by simp [results, Tryz.results132, go_sem]) rfl ⟨rfl, ?_⟩
 repeat (first | exact Below.refl _ _ | refine Below.setCell ?_ (by first | omega | (simp <;> omega)) _ | refine Below.alloc ?_ (by first | omega | (simp <;> omega)) _ | refine bstep ?_ (by assumption) | refine Below.drew ?_)
end
end Go.Proofs.YtdgophfembpniaaGreatDoor

namespace Go.Proofs.YtdgophfembpniaaGreatDoor
section
open Go.RowKit

/- one matrix in one block -/
def Kq (g : Nat) (a b c d : Int) (W : World) : Prop :=
 g < W.heap.size ∧ W.cell? ⟨g, 0, none⟩ = some (.int .i64 a) ∧ W.cell? ⟨g, 1, none⟩ = some (.int .i64 b) ∧ W.cell? ⟨g, 2, none⟩ = some (.int .i64 c) ∧ W.cell? ⟨g, 3, none⟩ = some (.int .i64 d)
theorem Kq.cells {g : Nat} {a b c d : Int} {W : World} (h : Kq g a b c d W) : W.cell? ⟨g, 0, none⟩ = some (.int .i64 a) ∧ W.cell? ⟨g, 1, none⟩ = some (.int .i64 b) ∧ W.cell? ⟨g, 2, none⟩ = some (.int .i64 c) ∧ W.cell? ⟨g, 3, none⟩ = some (.int .i64 d) := h.2
theorem Kq.c0 {g : Nat} {a b c d : Int} {W : World} (h : Kq g a b c d W) : W.cell? ⟨g, 0, none⟩ = some (.int .i64 a) := h.2.1
theorem Kq.c1 {g : Nat} {a b c d : Int} {W : World} (h : Kq g a b c d W) : W.cell? ⟨g, 1, none⟩ = some (.int .i64 b) := h.2.2.1
theorem Kq.c2 {g : Nat} {a b c d : Int} {W : World} (h : Kq g a b c d W) : W.cell? ⟨g, 2, none⟩ = some (.int .i64 c) := h.2.2.2.1
theorem Kq.c3 {g : Nat} {a b c d : Int} {W : World} (h : Kq g a b c d W) : W.cell? ⟨g, 3, none⟩ = some (.int .i64 d) := h.2.2.2.2
theorem Kq.grow {g B : Nat} {a b c d : Int} {W w1 : World} (h : Kq g a b c d W) (hb : Below B W w1) (hg : g < B) : Kq g a b c d w1 := by
 obtain ⟨h0, h1, h2, h3, h4⟩ := h
 have hs := hb.size
 exact ⟨by omega, by rw [hb.cell (by show g < _; omega)]; exact h1, by rw [hb.cell (by show g < _; omega)]; exact h2, by rw [hb.cell (by show g < _; omega)]; exact h3, by rw [hb.cell (by show g < _; omega)]; exact h4⟩
theorem Kq.call {g : Nat} {a b c d : Int} {W w1 : World} (h : Kq g a b c d W) (hb : Below W.heap.size W w1) : Kq g a b c d w1 := h.grow hb h.1
theorem Kq.alloc {g : Nat} {a b c d : Int} {W : World} (h : Kq g a b c d W) (o : Obj) : Kq g a b c d (W.alloc o) := h.call ((Below.refl _ _).alloc (Nat.le_refl _) _)
theorem Kq.drew {g : Nat} {a b c d : Int} {W : World} (h : Kq g a b c d W) : Kq g a b c d W.drew := h.call (Below.refl _ _).drew
theorem Kq.put {g : Nat} {a b c d : Int} {W : World} {p : Addr} {u : Value} (hp : g < p.block) (h : Kq g a b c d W) : Kq g a b c d (W.setCell p u) :=
 h.grow (B := g + 1) ((Below.refl _ _).setCell (by omega) u) (Nat.lt_succ_self _)
theorem Kq.at {w : World} {a b c d : Int} {T : TypeId} (R : Nat) (hR : R = w.heap.size) : Kq R a b c d (w.alloc (.cells #[.int .i64 a, .int .i64 b, .int .i64 c, .int .i64 d] T)) := by
 subst hR
 refine ⟨by simp, ?_, ?_, ?_, ?_⟩ <;> simp [go_sem]
theorem Kg.at2 {w : World} {a b : Int} {T : TypeId} (R : Nat) (hR : R = w.heap.size) : Kg R a b (w.alloc (.cells #[.int .i64 a, .int .i64 b] T)) := by
 subst hR
 refine ⟨by simp, ?_, ?_⟩ <;> simp [go_sem]

/- a matrix's block that may be written -/
structure KR (R : Nat) (a b c d : Int) (W : World) : Prop where
 lt : R < W.heap.size
 c0 : W.cell? ⟨R, 0, none⟩ = some (.int .i64 a)
 c1 : W.cell? ⟨R, 1, none⟩ = some (.int .i64 b)
 c2 : W.cell? ⟨R, 2, none⟩ = some (.int .i64 c)
 c3 : W.cell? ⟨R, 3, none⟩ = some (.int .i64 d)
 f0 : W.frozen? ⟨R, 0, none⟩ = false
 f1 : W.frozen? ⟨R, 1, none⟩ = false
 f2 : W.frozen? ⟨R, 2, none⟩ = false
 f3 : W.frozen? ⟨R, 3, none⟩ = false
theorem KR.at {w : World} {a b c d : Int} {T : TypeId} (R : Nat) (hR : R = w.heap.size) : KR R a b c d (w.alloc (.cells #[.int .i64 a, .int .i64 b, .int .i64 c, .int .i64 d] T)) := by
 subst hR
 refine ⟨by simp, ?_, ?_, ?_, ?_, ?_, ?_, ?_, ?_⟩ <;> simp [go_sem]
theorem KR.grow {R B : Nat} {a b c d : Int} {W w1 : World} (h : KR R a b c d W) (hb : Below B W w1) (hg : R < B) : KR R a b c d w1 :=
 ⟨Nat.lt_of_lt_of_le h.lt hb.size, by rw [hb.cell hg]; exact h.c0, by rw [hb.cell hg]; exact h.c1, by rw [hb.cell hg]; exact h.c2, by rw [hb.cell hg]; exact h.c3, by rw [hb.frozen hg]; exact h.f0, by rw [hb.frozen hg]; exact h.f1, by rw [hb.frozen hg]; exact h.f2, by rw [hb.frozen hg]; exact h.f3⟩
theorem KR.call {R : Nat} {a b c d : Int} {W w1 : World} (h : KR R a b c d W) (hb : Below W.heap.size W w1) : KR R a b c d w1 := h.grow hb h.lt
theorem KR.alloc {R : Nat} {a b c d : Int} {W : World} (h : KR R a b c d W) (o : Obj) : KR R a b c d (W.alloc o) := h.call ((Below.refl _ _).alloc (Nat.le_refl _) _)
theorem KR.drew {R : Nat} {a b c d : Int} {W : World} (h : KR R a b c d W) : KR R a b c d W.drew := h.call (Below.refl _ _).drew
theorem KR.put {R : Nat} {a b c d : Int} {W : World} {p : Addr} {u : Value} (hp : R < p.block) (h : KR R a b c d W) : KR R a b c d (W.setCell p u) :=
 h.grow (B := R + 1) ((Below.refl _ _).setCell (by omega) u) (Nat.lt_succ_self _)

/- a vector's block that may be written -/
structure KV (R : Nat) (a b : Int) (W : World) : Prop where
 lt : R < W.heap.size
 c0 : W.cell? ⟨R, 0, none⟩ = some (.int .i64 a)
 c1 : W.cell? ⟨R, 1, none⟩ = some (.int .i64 b)
 f0 : W.frozen? ⟨R, 0, none⟩ = false
 f1 : W.frozen? ⟨R, 1, none⟩ = false
theorem KV.at {w : World} {a b : Int} {T : TypeId} (R : Nat) (hR : R = w.heap.size) : KV R a b (w.alloc (.cells #[.int .i64 a, .int .i64 b] T)) := by
 subst hR
 refine ⟨by simp, ?_, ?_, ?_, ?_⟩ <;> simp [go_sem]
theorem KV.grow {R B : Nat} {a b : Int} {W w1 : World} (h : KV R a b W) (hb : Below B W w1) (hg : R < B) : KV R a b w1 :=
 ⟨Nat.lt_of_lt_of_le h.lt hb.size, by rw [hb.cell hg]; exact h.c0, by rw [hb.cell hg]; exact h.c1, by rw [hb.frozen hg]; exact h.f0, by rw [hb.frozen hg]; exact h.f1⟩
theorem KV.call {R : Nat} {a b : Int} {W w1 : World} (h : KV R a b W) (hb : Below W.heap.size W w1) : KV R a b w1 := h.grow hb h.lt
theorem KV.alloc {R : Nat} {a b : Int} {W : World} (h : KV R a b W) (o : Obj) : KV R a b (W.alloc o) := h.call ((Below.refl _ _).alloc (Nat.le_refl _) _)
theorem KV.drew {R : Nat} {a b : Int} {W : World} (h : KV R a b W) : KV R a b W.drew := h.call (Below.refl _ _).drew
theorem KV.put {R : Nat} {a b : Int} {W : World} {p : Addr} {u : Value} (hp : R < p.block) (h : KV R a b W) : KV R a b (W.setCell p u) :=
 h.grow (B := R + 1) ((Below.refl _ _).setCell (by omega) u) (Nat.lt_succ_self _)

/- two matrices, a matrix and a vector: all cells at once -/
theorem Kq.two {g g' : Nat} {a b c d a' b' c' d' : Int} {W : World} (h : Kq g a b c d W) (h' : Kq g' a' b' c' d' W) :
  (W.cell? ⟨g, 0, none⟩ = some (.int .i64 a) ∧ W.cell? ⟨g, 1, none⟩ = some (.int .i64 b) ∧ W.cell? ⟨g, 2, none⟩ = some (.int .i64 c) ∧ W.cell? ⟨g, 3, none⟩ = some (.int .i64 d)) ∧
  W.cell? ⟨g', 0, none⟩ = some (.int .i64 a') ∧ W.cell? ⟨g', 1, none⟩ = some (.int .i64 b') ∧ W.cell? ⟨g', 2, none⟩ = some (.int .i64 c') ∧ W.cell? ⟨g', 3, none⟩ = some (.int .i64 d') := ⟨h.2, h'.2⟩
theorem Kq.vec {g g' : Nat} {a b c d x y : Int} {W : World} (h : Kq g a b c d W) (h' : Kg g' x y W) :
  (W.cell? ⟨g, 0, none⟩ = some (.int .i64 a) ∧ W.cell? ⟨g, 1, none⟩ = some (.int .i64 b) ∧ W.cell? ⟨g, 2, none⟩ = some (.int .i64 c) ∧ W.cell? ⟨g, 3, none⟩ = some (.int .i64 d)) ∧
  W.cell? ⟨g', 0, none⟩ = some (.int .i64 x) ∧ W.cell? ⟨g', 1, none⟩ = some (.int .i64 y) := ⟨h.2, h'.2⟩
end
end Go.Proofs.YtdgophfembpniaaGreatDoor

namespace Go.Proofs.YtdgophfembpniaaGreatDoor
section
abbrev M4 := Int × Int × Int × Int
end
end Go.Proofs.YtdgophfembpniaaGreatDoor

namespace Go.Proofs.YtdgophfembpniaaGreatDoor
section

/- the order by trace and determinant -/
/- p times the matrix and q times the unit -/
/- a found order: all powers on the way are small, and the last is the unit -/
/- kinds -/
end
end Go.Proofs.YtdgophfembpniaaGreatDoor

namespace Go.Proofs.YtdgophfembpniaaGreatDoor
section
open Go.RowKit
set_option linter.unusedSimpArgs false
set_option linter.unusedVariables false

/- composition -/
def cmpI (a b c d x y a' b' c' d' x' y' : Int) : Int × Int × Int × Int × Int × Int := (a * a' + b * c', a * b' + b * d', c * a' + d * c', c * b' + d * d', a * x' + b * y' + x, c * x' + d * y' + y)
/- the way back -/
def vecT (r : Int × Int × Int) : Value := .tuple #[.agg #[.int .i64 (r.1), .int .i64 (r.2.1)], .int .i64 r.2.2]
/- kinds and orders -/
/- centres -/
/- the centre is not moved -/
end
end Go.Proofs.YtdgophfembpniaaGreatDoor

namespace Go.Proofs.YtdgophfembpniaaGreatDoor
section
open Go.RowKit

def Km (g : Nat) (a b c d x y : Int) (W : World) : Prop := g < W.heap.size ∧ W.cell? ⟨g, 0, none⟩ = some (.int .i64 a) ∧ W.cell? ⟨g, 1, none⟩ = some (.int .i64 b) ∧ W.cell? ⟨g, 2, none⟩ = some (.int .i64 c) ∧ W.cell? ⟨g, 3, none⟩ = some (.int .i64 d) ∧ W.cell? ⟨g, 4, none⟩ = some (.int .i64 x) ∧ W.cell? ⟨g, 5, none⟩ = some (.int .i64 y)
theorem Km.cells {g : Nat} {a b c d x y : Int} {W : World} (h : Km g a b c d x y W) : W.cell? ⟨g, 0, none⟩ = some (.int .i64 a) ∧ W.cell? ⟨g, 1, none⟩ = some (.int .i64 b) ∧ W.cell? ⟨g, 2, none⟩ = some (.int .i64 c) ∧ W.cell? ⟨g, 3, none⟩ = some (.int .i64 d) ∧ W.cell? ⟨g, 4, none⟩ = some (.int .i64 x) ∧ W.cell? ⟨g, 5, none⟩ = some (.int .i64 y) := h.2
theorem Km.c0 {g : Nat} {a b c d x y : Int} {W : World} (h : Km g a b c d x y W) : W.cell? ⟨g, 0, none⟩ = some (.int .i64 a) := h.2.1
theorem Km.c1 {g : Nat} {a b c d x y : Int} {W : World} (h : Km g a b c d x y W) : W.cell? ⟨g, 1, none⟩ = some (.int .i64 b) := h.2.2.1
theorem Km.c2 {g : Nat} {a b c d x y : Int} {W : World} (h : Km g a b c d x y W) : W.cell? ⟨g, 2, none⟩ = some (.int .i64 c) := h.2.2.2.1
theorem Km.c3 {g : Nat} {a b c d x y : Int} {W : World} (h : Km g a b c d x y W) : W.cell? ⟨g, 3, none⟩ = some (.int .i64 d) := h.2.2.2.2.1
theorem Km.c4 {g : Nat} {a b c d x y : Int} {W : World} (h : Km g a b c d x y W) : W.cell? ⟨g, 4, none⟩ = some (.int .i64 x) := h.2.2.2.2.2.1
theorem Km.c5 {g : Nat} {a b c d x y : Int} {W : World} (h : Km g a b c d x y W) : W.cell? ⟨g, 5, none⟩ = some (.int .i64 y) := h.2.2.2.2.2.2
theorem Km.grow {g B : Nat} {a b c d x y : Int} {W w1 : World} (h : Km g a b c d x y W) (hb : Below B W w1) (hg : g < B) : Km g a b c d x y w1 := by
 obtain ⟨h0, h1, h2, h3, h4, h5, h6⟩ := h
 have hs := hb.size
 exact ⟨by omega, by rw [hb.cell (by show g < _; omega)]; exact h1, by rw [hb.cell (by show g < _; omega)]; exact h2, by rw [hb.cell (by show g < _; omega)]; exact h3, by rw [hb.cell (by show g < _; omega)]; exact h4, by rw [hb.cell (by show g < _; omega)]; exact h5, by rw [hb.cell (by show g < _; omega)]; exact h6⟩
theorem Km.call {g : Nat} {a b c d x y : Int} {W w1 : World} (h : Km g a b c d x y W) (hb : Below W.heap.size W w1) : Km g a b c d x y w1 := h.grow hb h.1
theorem Km.alloc {g : Nat} {a b c d x y : Int} {W : World} (h : Km g a b c d x y W) (o : Obj) : Km g a b c d x y (W.alloc o) := h.call ((Below.refl _ _).alloc (Nat.le_refl _) _)
theorem Km.drew {g : Nat} {a b c d x y : Int} {W : World} (h : Km g a b c d x y W) : Km g a b c d x y W.drew := h.call (Below.refl _ _).drew
theorem Km.put {g : Nat} {a b c d x y : Int} {W : World} {p : Addr} {u : Value} (hp : g < p.block) (h : Km g a b c d x y W) : Km g a b c d x y (W.setCell p u) :=
 h.grow (B := g + 1) ((Below.refl _ _).setCell (by omega) u) (Nat.lt_succ_self _)
theorem Km.far {R : Nat} {a b c d x y : Int} {W : World} {q : Addr} {u : Value} (hq : q.block ≠ R) (h : Km R a b c d x y W) : Km R a b c d x y (W.setCell q u) := by
 have hh : (W.setCell q u).heap[R]? = W.heap[R]? := Below.heap_setCell _ _ _ _ (by omega)
 exact ⟨by simpa [World.setCell] using h.1, (World.cell?_of_block (w := W) hh).trans h.c0, (World.cell?_of_block (w := W) hh).trans h.c1, (World.cell?_of_block (w := W) hh).trans h.c2, (World.cell?_of_block (w := W) hh).trans h.c3, (World.cell?_of_block (w := W) hh).trans h.c4, (World.cell?_of_block (w := W) hh).trans h.c5⟩
theorem Km.at {w : World} {a b c d x y : Int} {T : TypeId} (R : Nat) (hR : R = w.heap.size) : Km R a b c d x y (w.alloc (.cells #[.int .i64 a, .int .i64 b, .int .i64 c, .int .i64 d, .int .i64 x, .int .i64 y] T)) := by
 subst hR
 refine ⟨by simp, ?_, ?_, ?_, ?_, ?_, ?_⟩ <;> simp [go_sem]

/- a block of 6 numbers that may be written -/
structure KM (R : Nat) (a b c d x y : Int) (W : World) : Prop where
 lt : R < W.heap.size
 c0 : W.cell? ⟨R, 0, none⟩ = some (.int .i64 a)
 c1 : W.cell? ⟨R, 1, none⟩ = some (.int .i64 b)
 c2 : W.cell? ⟨R, 2, none⟩ = some (.int .i64 c)
 c3 : W.cell? ⟨R, 3, none⟩ = some (.int .i64 d)
 c4 : W.cell? ⟨R, 4, none⟩ = some (.int .i64 x)
 c5 : W.cell? ⟨R, 5, none⟩ = some (.int .i64 y)
 f0 : W.frozen? ⟨R, 0, none⟩ = false
 f1 : W.frozen? ⟨R, 1, none⟩ = false
 f2 : W.frozen? ⟨R, 2, none⟩ = false
 f3 : W.frozen? ⟨R, 3, none⟩ = false
 f4 : W.frozen? ⟨R, 4, none⟩ = false
 f5 : W.frozen? ⟨R, 5, none⟩ = false
theorem KM.km {R : Nat} {a b c d x y : Int} {W : World} (h : KM R a b c d x y W) : Km R a b c d x y W := ⟨h.lt, h.c0, h.c1, h.c2, h.c3, h.c4, h.c5⟩
theorem KM.at {w : World} {a b c d x y : Int} {T : TypeId} (R : Nat) (hR : R = w.heap.size) : KM R a b c d x y (w.alloc (.cells #[.int .i64 a, .int .i64 b, .int .i64 c, .int .i64 d, .int .i64 x, .int .i64 y] T)) := by
 subst hR
 refine ⟨by simp, ?_, ?_, ?_, ?_, ?_, ?_, ?_, ?_, ?_, ?_, ?_, ?_⟩ <;> simp [go_sem]
theorem KM.grow {R B : Nat} {a b c d x y : Int} {W w1 : World} (h : KM R a b c d x y W) (hb : Below B W w1) (hg : R < B) : KM R a b c d x y w1 :=
 ⟨Nat.lt_of_lt_of_le h.lt hb.size, by rw [hb.cell hg]; exact h.c0, by rw [hb.cell hg]; exact h.c1, by rw [hb.cell hg]; exact h.c2, by rw [hb.cell hg]; exact h.c3, by rw [hb.cell hg]; exact h.c4, by rw [hb.cell hg]; exact h.c5, by rw [hb.frozen hg]; exact h.f0, by rw [hb.frozen hg]; exact h.f1, by rw [hb.frozen hg]; exact h.f2, by rw [hb.frozen hg]; exact h.f3, by rw [hb.frozen hg]; exact h.f4, by rw [hb.frozen hg]; exact h.f5⟩
theorem KM.call {R : Nat} {a b c d x y : Int} {W w1 : World} (h : KM R a b c d x y W) (hb : Below W.heap.size W w1) : KM R a b c d x y w1 := h.grow hb h.lt
theorem KM.alloc {R : Nat} {a b c d x y : Int} {W : World} (h : KM R a b c d x y W) (o : Obj) : KM R a b c d x y (W.alloc o) := h.call ((Below.refl _ _).alloc (Nat.le_refl _) _)
theorem KM.drew {R : Nat} {a b c d x y : Int} {W : World} (h : KM R a b c d x y W) : KM R a b c d x y W.drew := h.call (Below.refl _ _).drew
theorem KM.put {R : Nat} {a b c d x y : Int} {W : World} {p : Addr} {u : Value} (hp : R < p.block) (h : KM R a b c d x y W) : KM R a b c d x y (W.setCell p u) :=
 h.grow (B := R + 1) ((Below.refl _ _).setCell (by omega) u) (Nat.lt_succ_self _)
theorem KM.far {R : Nat} {a b c d x y : Int} {W : World} {q : Addr} {u : Value} (hq : q.block ≠ R) (h : KM R a b c d x y W) : KM R a b c d x y (W.setCell q u) := by
 have hh : (W.setCell q u).heap[R]? = W.heap[R]? := Below.heap_setCell _ _ _ _ (by omega)
 exact ⟨by simpa [World.setCell] using h.lt, (World.cell?_of_block (w := W) hh).trans h.c0, (World.cell?_of_block (w := W) hh).trans h.c1, (World.cell?_of_block (w := W) hh).trans h.c2, (World.cell?_of_block (w := W) hh).trans h.c3, (World.cell?_of_block (w := W) hh).trans h.c4, (World.cell?_of_block (w := W) hh).trans h.c5, (World.frozen?_of_block (w := W) hh).trans h.f0, (World.frozen?_of_block (w := W) hh).trans h.f1, (World.frozen?_of_block (w := W) hh).trans h.f2, (World.frozen?_of_block (w := W) hh).trans h.f3, (World.frozen?_of_block (w := W) hh).trans h.f4, (World.frozen?_of_block (w := W) hh).trans h.f5⟩
theorem KM.storeM {R : Nat} {a b c d x y : Int} {W : World} (h : KM R a b c d x y W) (a' b' c' d' : Int) : KM R a' b' c' d' x y ((((W.setCell ⟨R, 0, none⟩ (.int .i64 a')).setCell ⟨R, 1, none⟩ (.int .i64 b')).setCell ⟨R, 2, none⟩ (.int .i64 c')).setCell ⟨R, 3, none⟩ (.int .i64 d')) := by
 obtain ⟨h0, h1, h2, h3, h4, h5, h6, h7, h8, h9, h10, h11, h12⟩ := h
 refine ⟨by simpa [World.setCell] using h0, ?_, ?_, ?_, ?_, ?_, ?_, ?_, ?_, ?_, ?_, ?_, ?_⟩ <;> simp [go_sem, *]
theorem KM.store {R : Nat} {a b c d x y : Int} {W : World} (h : KM R a b c d x y W) (a' b' c' d' x' y' : Int) : KM R a' b' c' d' x' y' ((((((W.setCell ⟨R, 0, none⟩ (.int .i64 a')).setCell ⟨R, 1, none⟩ (.int .i64 b')).setCell ⟨R, 2, none⟩ (.int .i64 c')).setCell ⟨R, 3, none⟩ (.int .i64 d')).setCell ⟨R, 4, none⟩ (.int .i64 x')).setCell ⟨R, 5, none⟩ (.int .i64 y')) := by
 obtain ⟨h0, h1, h2, h3, h4, h5, h6, h7, h8, h9, h10, h11, h12⟩ := h
 refine ⟨by simpa [World.setCell] using h0, ?_, ?_, ?_, ?_, ?_, ?_, ?_, ?_, ?_, ?_, ?_, ?_⟩ <;> simp [go_sem, *]
theorem KV.cells5 {R : Nat} {a b : Int} {W : World} (h : KV R a b W) : W.cell? ⟨R, 0, none⟩ = some (.int .i64 a) ∧ W.cell? ⟨R, 1, none⟩ = some (.int .i64 b) := ⟨h.c0, h.c1⟩
theorem KR.cells5 {R : Nat} {a b c d : Int} {W : World} (h : KR R a b c d W) : W.cell? ⟨R, 0, none⟩ = some (.int .i64 a) ∧ W.cell? ⟨R, 1, none⟩ = some (.int .i64 b) ∧ W.cell? ⟨R, 2, none⟩ = some (.int .i64 c) ∧ W.cell? ⟨R, 3, none⟩ = some (.int .i64 d) := ⟨h.c0, h.c1, h.c2, h.c3⟩
theorem KM.cells5 {R : Nat} {a b c d x y : Int} {W : World} (h : KM R a b c d x y W) : W.cell? ⟨R, 0, none⟩ = some (.int .i64 a) ∧ W.cell? ⟨R, 1, none⟩ = some (.int .i64 b) ∧ W.cell? ⟨R, 2, none⟩ = some (.int .i64 c) ∧ W.cell? ⟨R, 3, none⟩ = some (.int .i64 d) ∧ W.cell? ⟨R, 4, none⟩ = some (.int .i64 x) ∧ W.cell? ⟨R, 5, none⟩ = some (.int .i64 y) := h.km.2
theorem KV.far5 {R : Nat} {a b : Int} {W : World} {q : Addr} {u : Value} (hq : q.block ≠ R) (h : KV R a b W) : KV R a b (W.setCell q u) := by
 have hh : (W.setCell q u).heap[R]? = W.heap[R]? := Below.heap_setCell _ _ _ _ (by omega)
 exact ⟨by simpa [World.setCell] using h.lt, (World.cell?_of_block (w := W) hh).trans h.c0, (World.cell?_of_block (w := W) hh).trans h.c1, (World.frozen?_of_block (w := W) hh).trans h.f0, (World.frozen?_of_block (w := W) hh).trans h.f1⟩
end
end Go.Proofs.YtdgophfembpniaaGreatDoor

namespace Go.Proofs.YtdgophfembpniaaGreatDoor
section
open Go.RowKit
set_option linter.unusedSimpArgs false
set_option linter.unusedVariables false

abbrev M6 := Int × Int × Int × Int × Int × Int
def cells6 (xs : List M6) : List Value := xs.flatMap (fun t => [.int .i64 t.1, .int .i64 t.2.1, .int .i64 t.2.2.1, .int .i64 t.2.2.2.1, .int .i64 t.2.2.2.2.1, .int .i64 t.2.2.2.2.2])
theorem cells6_len (xs : List M6) : (cells6 xs).length = xs.length * 6 := by
 induction xs with
 | nil => rfl
 | cons a t ih => simp only [cells6, List.flatMap_cons, List.length_append, List.length_cons, List.length_nil] at *; omega
theorem cells6_snoc (xs : List M6) (t : M6) : cells6 (xs ++ [t]) = cells6 xs ++ [.int .i64 t.1, .int .i64 t.2.1, .int .i64 t.2.2.1, .int .i64 t.2.2.2.1, .int .i64 t.2.2.2.2.1, .int .i64 t.2.2.2.2.2] := by simp [cells6]
theorem cells6_int (xs : List M6) : ∀ u ∈ cells6 xs, ∃ z, u = .int .i64 z := by
 intro u hu
 obtain ⟨t, _, ht⟩ := List.mem_flatMap.1 hu
 simp only [List.mem_cons, List.not_mem_nil, or_false] at ht
 rcases ht with rfl | rfl | rfl | rfl | rfl | rfl <;> exact ⟨_, rfl⟩
theorem cells6_get : ∀ (xs : List M6) (i : Nat) (h : i < xs.length), (cells6 xs)[i * 6]? = some (.int .i64 xs[i].1) ∧ (cells6 xs)[i * 6 + 1]? = some (.int .i64 xs[i].2.1) ∧ (cells6 xs)[i * 6 + 2]? = some (.int .i64 xs[i].2.2.1) ∧ (cells6 xs)[i * 6 + 3]? = some (.int .i64 xs[i].2.2.2.1) ∧ (cells6 xs)[i * 6 + 4]? = some (.int .i64 xs[i].2.2.2.2.1) ∧ (cells6 xs)[i * 6 + 5]? = some (.int .i64 xs[i].2.2.2.2.2)
 | [], i, h => absurd h (by simp)
 | t :: xs, 0, _ => by simp [cells6]
 | t :: xs, i + 1, h => by
  have hs := cells6_get xs i (by simpa using h)
  have e : cells6 (t :: xs) = [.int .i64 t.1, .int .i64 t.2.1, .int .i64 t.2.2.1, .int .i64 t.2.2.2.1, .int .i64 t.2.2.2.2.1, .int .i64 t.2.2.2.2.2] ++ cells6 xs := by simp [cells6]
  rw [e]
  have st : ∀ j, ([.int .i64 t.1, .int .i64 t.2.1, .int .i64 t.2.2.1, .int .i64 t.2.2.2.1, .int .i64 t.2.2.2.2.1, .int .i64 t.2.2.2.2.2] ++ cells6 xs)[(i + 1) * 6 + j]? = (cells6 xs)[i * 6 + j]? := by
   intro j
   rw [List.getElem?_append_right (by simp; omega)]
   congr 1
   simp only [List.length_cons, List.length_nil]
   omega
  have s0 := st 0
  simp only [Nat.add_zero] at s0
  simp only [List.getElem_cons_succ]
  exact ⟨s0.trans hs.1, (st 1).trans hs.2.1, (st 2).trans hs.2.2.1, (st 3).trans hs.2.2.2.1, (st 4).trans hs.2.2.2.2.1, (st 5).trans hs.2.2.2.2.2⟩
def fm (xs : List M6) (t : Nat) : Int := intAt (cells6 xs) t
theorem fm_get (xs : List M6) (i : Nat) (h : i < xs.length) : fm xs (i * 6) = xs[i].1 ∧ fm xs (i * 6 + 1) = xs[i].2.1 ∧ fm xs (i * 6 + 2) = xs[i].2.2.1 ∧ fm xs (i * 6 + 3) = xs[i].2.2.2.1 ∧ fm xs (i * 6 + 4) = xs[i].2.2.2.2.1 ∧ fm xs (i * 6 + 5) = xs[i].2.2.2.2.2 := by
 have hg := cells6_get xs i h
 refine ⟨?_, ?_, ?_, ?_, ?_, ?_⟩ <;> simp [fm, intAt, hg]
theorem one_six {a b c d x y : Int} : ∀ u ∈ [Value.int .i64 a, .int .i64 b, .int .i64 c, .int .i64 d, .int .i64 x, .int .i64 y], u.oneCell' = true := by
 intro u hu
 simp only [List.mem_cons, List.not_mem_nil, or_false] at hu
 rcases hu with rfl | rfl | rfl | rfl | rfl | rfl <;> rfl
theorem new_six {W : World} {g : Nat} (T : TypeId) (a b c d x y : Value) (hg : g = W.heap.size) : ∀ (j : Nat) (u : Value), [a, b, c, d, x, y][j]? = some u → (W.alloc (.cells #[a, b, c, d, x, y] T)).cell? ((⟨g, 0, none⟩ : Addr).add j) = some u := by
 intro j u hj
 subst hg
 match j, hj with
 | 0, h => cases h; simp [go_sem]
 | 1, h => cases h; simp [go_sem]
 | 2, h => cases h; simp [go_sem]
 | 3, h => cases h; simp [go_sem]
 | 4, h => cases h; simp [go_sem]
 | 5, h => cases h; simp [go_sem]
 | j + 6, h => simp at h
theorem own_next6 {w1 : World} {base : Nat} {e : TypeId} {v : Value} {xs : List M6} {a b c d x y : Int} (h : w1.ownsRow base e 6 v (xs.length + 1) (cells6 xs ++ [.int .i64 a, .int .i64 b, .int .i64 c, .int .i64 d, .int .i64 x, .int .i64 y])) : w1.ownsRow base e 6 v (xs ++ [(a, b, c, d, x, y)]).length (cells6 (xs ++ [(a, b, c, d, x, y)])) := by
 rw [List.length_append, cells6_snoc]; exact h
theorem own_nil6 (w : World) (base : Nat) (e : TypeId) : w.ownsRow base e 6 (.slice none 0 0) ([] : List M6).length (cells6 []) := World.ownsRow_nil w base e 6
/- one motion of a row -/
def Ko6 (g o : Nat) (a b c d x y : Int) (W : World) : Prop := g < W.heap.size ∧ W.cell? ⟨g, o, none⟩ = some (.int .i64 a) ∧ W.cell? ⟨g, o + 1, none⟩ = some (.int .i64 b) ∧ W.cell? ⟨g, o + 2, none⟩ = some (.int .i64 c) ∧ W.cell? ⟨g, o + 3, none⟩ = some (.int .i64 d) ∧ W.cell? ⟨g, o + 4, none⟩ = some (.int .i64 x) ∧ W.cell? ⟨g, o + 5, none⟩ = some (.int .i64 y)
theorem Ko6.cells {g o : Nat} {a b c d x y : Int} {W : World} (h : Ko6 g o a b c d x y W) : W.cell? ⟨g, o, none⟩ = some (.int .i64 a) ∧ W.cell? ⟨g, o + 1, none⟩ = some (.int .i64 b) ∧ W.cell? ⟨g, o + 2, none⟩ = some (.int .i64 c) ∧ W.cell? ⟨g, o + 3, none⟩ = some (.int .i64 d) ∧ W.cell? ⟨g, o + 4, none⟩ = some (.int .i64 x) ∧ W.cell? ⟨g, o + 5, none⟩ = some (.int .i64 y) := h.2
theorem Ko6.call {g o : Nat} {a b c d x y : Int} {W w1 : World} (h : Ko6 g o a b c d x y W) (hb : Below W.heap.size W w1) : Ko6 g o a b c d x y w1 := by
 obtain ⟨h0, h1, h2, h3, h4, h5, h6⟩ := h
 exact ⟨Nat.lt_of_lt_of_le h0 hb.size, by rw [hb.cell (p := ⟨g, o, none⟩) h0]; exact h1, by rw [hb.cell (p := ⟨g, o + 1, none⟩) h0]; exact h2, by rw [hb.cell (p := ⟨g, o + 2, none⟩) h0]; exact h3, by rw [hb.cell (p := ⟨g, o + 3, none⟩) h0]; exact h4, by rw [hb.cell (p := ⟨g, o + 4, none⟩) h0]; exact h5, by rw [hb.cell (p := ⟨g, o + 5, none⟩) h0]; exact h6⟩
theorem Ko6.alloc {g o : Nat} {a b c d x y : Int} {W : World} (h : Ko6 g o a b c d x y W) (z : Obj) : Ko6 g o a b c d x y (W.alloc z) := h.call ((Below.refl _ _).alloc (Nat.le_refl _) _)
theorem Ko6.drew {g o : Nat} {a b c d x y : Int} {W : World} (h : Ko6 g o a b c d x y W) : Ko6 g o a b c d x y W.drew := h.call (Below.refl _ _).drew
theorem Ko6.put {g o : Nat} {a b c d x y : Int} {W : World} {q : Addr} {u : Value} (hq : q.block ≠ g) (h : Ko6 g o a b c d x y W) : Ko6 g o a b c d x y (W.setCell q u) := by
 have hh : (W.setCell q u).heap[g]? = W.heap[g]? := Below.heap_setCell _ _ _ _ (by omega)
 obtain ⟨h0, h1, h2, h3, h4, h5, h6⟩ := h
 exact ⟨by simpa [World.setCell] using h0, (World.cell?_of_block (w := W) hh).trans h1, (World.cell?_of_block (w := W) hh).trans h2, (World.cell?_of_block (w := W) hh).trans h3, (World.cell?_of_block (w := W) hh).trans h4, (World.cell?_of_block (w := W) hh).trans h5, (World.cell?_of_block (w := W) hh).trans h6⟩
theorem IRow.ko6 {g N : Nat} {F : Nat → Int} {W : World} (h : IRow g N F W) (o : Nat) (ho : o + 5 < N) : Ko6 g o (F (o)) (F (o + 1)) (F (o + 2)) (F (o + 3)) (F (o + 4)) (F (o + 5)) W := ⟨h.1, h.at (o) (by omega), h.at (o + 1) (by omega), h.at (o + 2) (by omega), h.at (o + 3) (by omega), h.at (o + 4) (by omega), h.at (o + 5) (by omega)⟩
theorem IRow.mo {g : Nat} {xs : List M6} {W : World} (h : IRow g (xs.length * 6) (fm xs) W) (i : Nat) (hi : i < xs.length) : Ko6 g (i * 6) xs[i].1 xs[i].2.1 xs[i].2.2.1 xs[i].2.2.2.1 xs[i].2.2.2.2.1 xs[i].2.2.2.2.2 W := by
 have k := h.ko6 (i * 6) (by omega)
 obtain ⟨e0, e1, e2, e3, e4, e5⟩ := fm_get xs i hi
 rwa [e0, e1, e2, e3, e4, e5] at k
theorem SRow.of6 {lo : Nat} {xs : List M6} {e : TypeId} {v : Value} {W : World} (h : W.ownsRow lo e 6 v xs.length (cells6 xs)) (hn : xs.length ≤ 1000000) : SRow lo W.heap.size 6 v xs.length (fm xs) W := SRow.of h (cells6_int xs) hn
end
end Go.Proofs.YtdgophfembpniaaGreatDoor

namespace Go.Proofs.YtdgophfembpniaaGreatDoor
section
open Go.RowKit
set_option linter.unusedSimpArgs false
set_option linter.unusedVariables false

set_option maxRecDepth 100000 in
set_option maxHeartbeats 4000000 in
theorem toMo_any (a b c d x y : Int) (w : World) :
  Calls Tryz.prog 48 #[.agg #[.int .i64 a, .int .i64 b, .int .i64 c, .int .i64 d, .int .i64 x, .int .i64 y]] w fun e w' => e = .returned (.agg #[.int .i64 a, .int .i64 b, .int .i64 c, .int .i64 d, .int .i64 x, .int .i64 y]) ∧ Below w.heap.size w w' := by
 have M0 : Km (w.heap.size) a b c d x y (((w.alloc (.cells #[.int .i64 a, .int .i64 b, .int .i64 c, .int .i64 d, .int .i64 x, .int .i64 y] 85)).alloc (.cells #[.int .i64 0, .int .i64 0, .int .i64 0, .int .i64 0, .int .i64 0, .int .i64 0] 81)).alloc (.cells #[.int .i64 0, .int .i64 0, .int .i64 0, .int .i64 0, .int .i64 0, .int .i64 0] 81)) := (((Km.at (w.heap.size) rfl).alloc _).alloc _)
 have R0 : KM (w.heap.size + 1) 0 0 0 0 0 0 (((w.alloc (.cells #[.int .i64 a, .int .i64 b, .int .i64 c, .int .i64 d, .int .i64 x, .int .i64 y] 85)).alloc (.cells #[.int .i64 0, .int .i64 0, .int .i64 0, .int .i64 0, .int .i64 0, .int .i64 0] 81)).alloc (.cells #[.int .i64 0, .int .i64 0, .int .i64 0, .int .i64 0, .int .i64 0, .int .i64 0] 81)) := ((KM.at (w.heap.size + 1) (by simp)).alloc _)
 have O0 : KM (w.heap.size + 1 + 1) 0 0 0 0 0 0 (((w.alloc (.cells #[.int .i64 a, .int .i64 b, .int .i64 c, .int .i64 d, .int .i64 x, .int .i64 y] 85)).alloc (.cells #[.int .i64 0, .int .i64 0, .int .i64 0, .int .i64 0, .int .i64 0, .int .i64 0] 81)).alloc (.cells #[.int .i64 0, .int .i64 0, .int .i64 0, .int .i64 0, .int .i64 0, .int .i64 0] 81)) := (KM.at (w.heap.size + 1 + 1) (by simp))
 have B0 : Below w.heap.size w (((w.alloc (.cells #[.int .i64 a, .int .i64 b, .int .i64 c, .int .i64 d, .int .i64 x, .int .i64 y] 85)).alloc (.cells #[.int .i64 0, .int .i64 0, .int .i64 0, .int .i64 0, .int .i64 0, .int .i64 0] 81)).alloc (.cells #[.int .i64 0, .int .i64 0, .int .i64 0, .int .i64 0, .int .i64 0, .int .i64 0] 81)) := (Below.alloc (Below.alloc (Below.alloc (Below.refl _ _) (by first | with_reducible exact Nat.le_refl _ | (simp <;> omega)) _) (by first | with_reducible exact Nat.le_refl _ | (simp <;> omega)) _) (by first | with_reducible exact Nat.le_refl _ | (simp <;> omega)) _)
 go_enter Tryz.func48, Tryz.ntmps48
 have M0c0 := M0.c0
 have M0c1 := M0.c1
 have M0c2 := M0.c2
 have M0c3 := M0.c3
 have M0c4 := M0.c4
 have M0c5 := M0.c5
 have M0l := M0.1
 have R0c0 := R0.c0
 have R0c1 := R0.c1
 have R0c2 := R0.c2
 have R0c3 := R0.c3
 have R0c4 := R0.c4
 have R0c5 := R0.c5
 have R0f0 := R0.f0
 have R0f1 := R0.f1
 have R0f2 := R0.f2
 have R0f3 := R0.f3
 have R0f4 := R0.f4
 have R0f5 := R0.f5
 have R0l := R0.lt
 have O0c0 := O0.c0
 have O0c1 := O0.c1
 have O0c2 := O0.c2
 have O0c3 := O0.c3
 have O0c4 := O0.c4
 have O0c5 := O0.c5
 have O0f0 := O0.f0
 have O0f1 := O0.f1
 have O0f2 := O0.f2
 have O0f3 := O0.f3
 have O0f4 := O0.f4
 have O0f5 := O0.f5
 have O0l := O0.lt
 go_wp2_with fail
 refine (toMat_any _ _ _ _ _).mono ?_
 rintro e w1 ⟨rfl, hb1⟩
 have M1 : Km (w.heap.size) a b c d x y w1 := Km.call M0 hb1
 have R1 : KM (w.heap.size + 1) 0 0 0 0 0 0 w1 := KM.call R0 hb1
 have O1 : KM (w.heap.size + 1 + 1) 0 0 0 0 0 0 w1 := KM.call O0 hb1
 have B1 : Below w.heap.size w w1 := bstep B0 hb1
 clear hb1 B0 M0 R0 O0
 have M1c0 := M1.c0
 have M1c1 := M1.c1
 have M1c2 := M1.c2
 have M1c3 := M1.c3
 have M1c4 := M1.c4
 have M1c5 := M1.c5
 have M1l := M1.1
 have M1n : ¬ w.heap.size = w1.heap.size := by omega
 have R1c0 := R1.c0
 have R1c1 := R1.c1
 have R1c2 := R1.c2
 have R1c3 := R1.c3
 have R1c4 := R1.c4
 have R1c5 := R1.c5
 have R1f0 := R1.f0
 have R1f1 := R1.f1
 have R1f2 := R1.f2
 have R1f3 := R1.f3
 have R1f4 := R1.f4
 have R1f5 := R1.f5
 have R1l := R1.lt
 have R1n : ¬ w.heap.size + 1 = w1.heap.size := by omega
 have O1c0 := O1.c0
 have O1c1 := O1.c1
 have O1c2 := O1.c2
 have O1c3 := O1.c3
 have O1c4 := O1.c4
 have O1c5 := O1.c5
 have O1f0 := O1.f0
 have O1f1 := O1.f1
 have O1f2 := O1.f2
 have O1f3 := O1.f3
 have O1f4 := O1.f4
 have O1f5 := O1.f5
 have O1l := O1.lt
 have O1n : ¬ w.heap.size + 1 + 1 = w1.heap.size := by omega
 go_wp2_with fail
 refine (toVec_any _ _ _).mono ?_
 rintro e w2 ⟨rfl, hb2⟩
 have M2 : Km (w.heap.size) a b c d x y w2 := Km.call (show Km (w.heap.size) a b c d x y _ from by repeat (first | with_reducible assumption | with_reducible refine KM.drew ?_ | with_reducible refine KM.alloc ?_ _ | with_reducible refine KM.call ?_ (by with_reducible assumption) | with_reducible refine Km.drew ?_ | with_reducible refine Km.alloc ?_ _ | with_reducible refine Km.call ?_ (by with_reducible assumption) | ((with_reducible refine KM.put ?_ ?_); (first | omega | (dsimp only; omega))) | ((with_reducible refine Km.put ?_ ?_); (first | omega | (dsimp only; omega))) | ((with_reducible refine KM.far ?_ ?_); (first | omega | (dsimp only; omega))) | ((with_reducible refine Km.far ?_ ?_); (first | omega | (dsimp only; omega))))) hb2
 have R2 : KM (w.heap.size + 1) 0 0 0 0 0 0 w2 := KM.call (show KM (w.heap.size + 1) 0 0 0 0 0 0 _ from by repeat (first | with_reducible assumption | with_reducible refine KM.drew ?_ | with_reducible refine KM.alloc ?_ _ | with_reducible refine KM.call ?_ (by with_reducible assumption) | with_reducible refine Km.drew ?_ | with_reducible refine Km.alloc ?_ _ | with_reducible refine Km.call ?_ (by with_reducible assumption) | ((with_reducible refine KM.put ?_ ?_); (first | omega | (dsimp only; omega))) | ((with_reducible refine Km.put ?_ ?_); (first | omega | (dsimp only; omega))) | ((with_reducible refine KM.far ?_ ?_); (first | omega | (dsimp only; omega))) | ((with_reducible refine Km.far ?_ ?_); (first | omega | (dsimp only; omega))))) hb2
 have O2 : KM (w.heap.size + 1 + 1) a b c d 0 0 w2 := KM.call (KM.storeM O1 _ _ _ _) hb2
 have B2 : Below w.heap.size w w2 := bstep (by repeat (first | with_reducible assumption | with_reducible exact Below.refl _ _ | with_reducible refine Below.setCell ?_ (by first | omega | (simp <;> omega)) _ | with_reducible refine Below.alloc ?_ (by first | omega | (simp <;> omega)) _ | with_reducible refine bstep ?_ (by with_reducible assumption) | with_reducible refine Below.drew ?_)) hb2
 clear hb2 B1 M1 R1 O1
 have M2c0 := M2.c0
 have M2c1 := M2.c1
 have M2c2 := M2.c2
 have M2c3 := M2.c3
 have M2c4 := M2.c4
 have M2c5 := M2.c5
 have M2l := M2.1
 have M2n : ¬ w.heap.size = w2.heap.size := by omega
 have R2c0 := R2.c0
 have R2c1 := R2.c1
 have R2c2 := R2.c2
 have R2c3 := R2.c3
 have R2c4 := R2.c4
 have R2c5 := R2.c5
 have R2f0 := R2.f0
 have R2f1 := R2.f1
 have R2f2 := R2.f2
 have R2f3 := R2.f3
 have R2f4 := R2.f4
 have R2f5 := R2.f5
 have R2l := R2.lt
 have R2n : ¬ w.heap.size + 1 = w2.heap.size := by omega
 have O2c0 := O2.c0
 have O2c1 := O2.c1
 have O2c2 := O2.c2
 have O2c3 := O2.c3
 have O2c4 := O2.c4
 have O2c5 := O2.c5
 have O2f0 := O2.f0
 have O2f1 := O2.f1
 have O2f2 := O2.f2
 have O2f3 := O2.f3
 have O2f4 := O2.f4
 have O2f5 := O2.f5
 have O2l := O2.lt
 have O2n : ¬ w.heap.size + 1 + 1 = w2.heap.size := by omega
 go_wp2
 refine bodyPost_ret (v := .agg #[.int .i64 a, .int .i64 b, .int .i64 c, .int .i64 d, .int .i64 x, .int .i64 y]) (by simp [results, Tryz.results48, go_sem, *]) rfl ⟨rfl, ?_⟩
 repeat (first | with_reducible assumption | with_reducible exact Below.refl _ _ | with_reducible refine Below.setCell ?_ (by first | omega | (simp <;> omega)) _ | with_reducible refine Below.alloc ?_ (by first | omega | (simp <;> omega)) _ | with_reducible refine bstep ?_ (by with_reducible assumption) | with_reducible refine Below.drew ?_)

set_option maxRecDepth 100000 in
set_option maxHeartbeats 4000000 in
theorem eqMotion_any (a b c d x y : Int) (w : World) :
  Calls Tryz.prog 52 #[.agg #[.int .i64 a, .int .i64 b, .int .i64 c, .int .i64 d, .int .i64 x, .int .i64 y], .agg #[.int .i64 a, .int .i64 b, .int .i64 c, .int .i64 d, .int .i64 x, .int .i64 y]] w fun e w' => e = .returned (.bool true) ∧ Below w.heap.size w w' := by
 have M0 : Km (w.heap.size) a b c d x y ((w.alloc (.cells #[.int .i64 a, .int .i64 b, .int .i64 c, .int .i64 d, .int .i64 x, .int .i64 y] 81)).alloc (.cells #[.int .i64 a, .int .i64 b, .int .i64 c, .int .i64 d, .int .i64 x, .int .i64 y] 81)) := ((Km.at (w.heap.size) rfl).alloc _)
 have N0 : Km (w.heap.size + 1) a b c d x y ((w.alloc (.cells #[.int .i64 a, .int .i64 b, .int .i64 c, .int .i64 d, .int .i64 x, .int .i64 y] 81)).alloc (.cells #[.int .i64 a, .int .i64 b, .int .i64 c, .int .i64 d, .int .i64 x, .int .i64 y] 81)) := (Km.at (w.heap.size + 1) (by simp))
 have B0 : Below w.heap.size w ((w.alloc (.cells #[.int .i64 a, .int .i64 b, .int .i64 c, .int .i64 d, .int .i64 x, .int .i64 y] 81)).alloc (.cells #[.int .i64 a, .int .i64 b, .int .i64 c, .int .i64 d, .int .i64 x, .int .i64 y] 81)) := (Below.alloc (Below.alloc (Below.refl _ _) (by first | with_reducible exact Nat.le_refl _ | (simp <;> omega)) _) (by first | with_reducible exact Nat.le_refl _ | (simp <;> omega)) _)
 go_enter Tryz.func52, Tryz.ntmps52
 have M0c0 := M0.c0
 have M0c1 := M0.c1
 have M0c2 := M0.c2
 have M0c3 := M0.c3
 have M0c4 := M0.c4
 have M0c5 := M0.c5
 have M0l := M0.1
 have N0c0 := N0.c0
 have N0c1 := N0.c1
 have N0c2 := N0.c2
 have N0c3 := N0.c3
 have N0c4 := N0.c4
 have N0c5 := N0.c5
 have N0l := N0.1
 have he1 := eqM_rfl a b c d
 have he2 := eqB_rfl x y
 go_wp2_with fail
 refine (eqMat_any _ _ _ _ _ _ _ _ _).mono ?_
 rintro e w1 ⟨rfl, hb1⟩
 have M1 : Km (w.heap.size) a b c d x y w1 := Km.call M0 hb1
 have N1 : Km (w.heap.size + 1) a b c d x y w1 := Km.call N0 hb1
 have B1 : Below w.heap.size w w1 := bstep B0 hb1
 clear hb1 B0 M0 N0
 have M1c0 := M1.c0
 have M1c1 := M1.c1
 have M1c2 := M1.c2
 have M1c3 := M1.c3
 have M1c4 := M1.c4
 have M1c5 := M1.c5
 have M1l := M1.1
 have M1n : ¬ w.heap.size = w1.heap.size := by omega
 have N1c0 := N1.c0
 have N1c1 := N1.c1
 have N1c2 := N1.c2
 have N1c3 := N1.c3
 have N1c4 := N1.c4
 have N1c5 := N1.c5
 have N1l := N1.1
 have N1n : ¬ w.heap.size + 1 = w1.heap.size := by omega
 go_wp2_with fail
 refine (eqVec_any _ _ _ _ _).mono ?_
 rintro e w2 ⟨rfl, hb2⟩
 have M2 : Km (w.heap.size) a b c d x y w2 := Km.call M1 hb2
 have N2 : Km (w.heap.size + 1) a b c d x y w2 := Km.call N1 hb2
 have B2 : Below w.heap.size w w2 := bstep B1 hb2
 clear hb2 B1 M1 N1
 go_wp2
 go_ret
 refine ⟨rfl, ?_⟩
 repeat (first | with_reducible assumption | with_reducible exact Below.refl _ _ | with_reducible refine Below.setCell ?_ (by first | omega | (simp <;> omega)) _ | with_reducible refine Below.alloc ?_ (by first | omega | (simp <;> omega)) _ | with_reducible refine bstep ?_ (by with_reducible assumption) | with_reducible refine Below.drew ?_)
end
end Go.Proofs.YtdgophfembpniaaGreatDoor

