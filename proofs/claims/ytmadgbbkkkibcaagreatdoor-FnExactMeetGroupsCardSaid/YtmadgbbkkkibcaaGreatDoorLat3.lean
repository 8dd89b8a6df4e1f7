/-
  Contracts of chapter 3's ReduceVec and IsInLattice: the program's function and the model's have one and the same answer. No condition.
-/
import Derived.Test.YtmadgbbkkkibcaaGreatDoorLat2
namespace Go.Proofs.YtmadgbbkkkibcaaGreatDoor
open Go.RowKit
set_option linter.unusedSimpArgs false
set_option linter.unusedVariables false

def lvB (A B C x y : Int) : Bool := latB A B C && vecB x y
def redR (A B C x y : Int) : Int × Int × Int := bif lvB A B C x y then (redX A B C x y, redY C y, 0) else (0, 0, 1)
def redT (A B C x y : Int) : Value := .tuple #[.agg #[.int .i64 ((redR A B C x y).1), .int .i64 ((redR A B C x y).2.1)], .int .i64 (redR A B C x y).2.2]
def inR (A B C x y : Int) : Bool × Int := bif lvB A B C x y then (hasB A B C x y, 0) else (false, 1)
def inT (A B C x y : Int) : Value := .tuple #[.bool (inR A B C x y).1, .int .i64 (inR A B C x y).2]
theorem vec_mid {x y : Int} (h : vecB x y = true) : midI x ∧ midI y := by
  obtain ⟨⟨h1, h2⟩, h3, h4⟩ := vecB_bd h
  unfold midI; omega
def eqT (a b c a' b' c' : Int) : Bool := a == a' && (b == b' && c == c')
theorem eqT_rfl (a b c : Int) : eqT a b c a b c = true := by simp [eqT]

set_option maxHeartbeats 2000000 in
theorem toLat_any (A B C : Int) (w : World) :
    Calls Tryz.prog 39 #[.agg #[.int .i64 A, .int .i64 B, .int .i64 C]] w fun e w' => e = .returned (.agg #[.int .i64 A, .int .i64 B, .int .i64 C]) ∧ Below w.heap.size w w' := by
  go_enter Tryz.func39, Tryz.ntmps39
  go_wp2
  refine bodyPost_ret (v := .agg #[.int .i64 A, .int .i64 B, .int .i64 C]) (by simp [results, Tryz.results39, go_sem]) rfl ⟨rfl, ?_⟩
  repeat (first | exact Below.refl _ _ | refine Below.setCell ?_ (by first | omega | (simp <;> omega)) _ | refine Below.alloc ?_ (by first | omega | (simp <;> omega)) _ | refine bstep ?_ (by assumption) | refine Below.drew ?_)

set_option maxHeartbeats 2000000 in
theorem implRed_any (A B C x y : Int) (w : World) :
    Calls Tryz.prog 79 #[.agg #[.int .i64 A, .int .i64 B, .int .i64 C], .agg #[.int .i64 x, .int .i64 y]] w fun e w' => e = .returned (redT A B C x y) ∧ Below w.heap.size w w' := by
  rcases hl : latB A B C with _ | _
  · have ea : redT A B C x y = .tuple #[.agg #[.int .i64 0, .int .i64 0], .int .i64 1] := by simp [redT, redR, lvB, hl]
    have EA := Lib.hid ea
    clear ea
    go_enter Tryz.func79, Tryz.ntmps79
    go_wp2_with fail
    refine (isValidL_any _ _ _ _).mono ?_
    rintro e w1 ⟨rfl, hb1⟩
    obtain ⟨hc1, hf1⟩ := bcell hb1
    obtain ⟨hz1a, hz1b, hz1c⟩ : w.heap.size < w1.heap.size ∧ w.heap.size + 1 < w1.heap.size ∧ w.heap.size + 1 + 1 < w1.heap.size := by have := hb1.size; (try simp at this); omega
    go_wp2
    refine bodyPost_ret (v := .tuple #[.agg #[.int .i64 0, .int .i64 0], .int .i64 1]) (by simp [results, Tryz.results79, go_sem, hc1, hz1a, hz1b, hz1c]) rfl ⟨ret_val EA.out.symm, ?_⟩
    repeat (first | exact Below.refl _ _ | refine Below.setCell ?_ (by first | omega | (simp <;> omega)) _ | refine Below.alloc ?_ (by first | omega | (simp <;> omega)) _ | refine bstep ?_ (by assumption) | refine Below.drew ?_)
  rcases hv : vecB x y with _ | _
  · have ea : redT A B C x y = .tuple #[.agg #[.int .i64 0, .int .i64 0], .int .i64 1] := by simp [redT, redR, lvB, hv]
    have EA := Lib.hid ea
    clear ea
    go_enter Tryz.func79, Tryz.ntmps79
    go_wp2_with fail
    refine (isValidL_any _ _ _ _).mono ?_
    rintro e w1 ⟨rfl, hb1⟩
    obtain ⟨hc1, hf1⟩ := bcell hb1
    obtain ⟨hz1a, hz1b, hz1c⟩ : w.heap.size < w1.heap.size ∧ w.heap.size + 1 < w1.heap.size ∧ w.heap.size + 1 + 1 < w1.heap.size := by have := hb1.size; (try simp at this); omega
    go_wp2_with fail
    refine (isValid_any _ _ _).mono ?_
    rintro e w2 ⟨rfl, hb2⟩
    obtain ⟨hc2, hf2⟩ := bcell hb2
    obtain ⟨hz2a, hz2b, hz2c⟩ : w.heap.size < w2.heap.size ∧ w.heap.size + 1 < w2.heap.size ∧ w.heap.size + 1 + 1 < w2.heap.size := by have := hb2.size; (try simp at this); omega
    go_wp2
    refine bodyPost_ret (v := .tuple #[.agg #[.int .i64 0, .int .i64 0], .int .i64 1]) (by simp [results, Tryz.results79, go_sem, hc1, hz1a, hz1b, hz1c, hc2, hz2a, hz2b, hz2c]) rfl ⟨ret_val EA.out.symm, ?_⟩
    repeat (first | exact Below.refl _ _ | refine Below.setCell ?_ (by first | omega | (simp <;> omega)) _ | refine Below.alloc ?_ (by first | omega | (simp <;> omega)) _ | refine bstep ?_ (by assumption) | refine Below.drew ?_)
  · have ea : redT A B C x y = .tuple #[.agg #[.int .i64 (redX A B C x y), .int .i64 (redY C y)], .int .i64 0] := by simp [redT, redR, lvB, hl, hv]
    have hi := latB_iff.1 hl
    obtain ⟨mx, my⟩ := vec_mid hv
    have EA := Lib.hid ea
    clear ea
    go_enter Tryz.func79, Tryz.ntmps79
    go_wp2_with fail
    refine (isValidL_any _ _ _ _).mono ?_
    rintro e w1 ⟨rfl, hb1⟩
    obtain ⟨hc1, hf1⟩ := bcell hb1
    obtain ⟨hz1a, hz1b, hz1c⟩ : w.heap.size < w1.heap.size ∧ w.heap.size + 1 < w1.heap.size ∧ w.heap.size + 1 + 1 < w1.heap.size := by have := hb1.size; (try simp at this); omega
    go_wp2_with fail
    refine (isValid_any _ _ _).mono ?_
    rintro e w2 ⟨rfl, hb2⟩
    obtain ⟨hc2, hf2⟩ := bcell hb2
    obtain ⟨hz2a, hz2b, hz2c⟩ : w.heap.size < w2.heap.size ∧ w.heap.size + 1 < w2.heap.size ∧ w.heap.size + 1 + 1 < w2.heap.size := by have := hb2.size; (try simp at this); omega
    go_wp2_with fail
    refine (reduce_any _ _ _ _ _ _ hi mx my).mono ?_
    rintro e w3 ⟨he, hb3⟩
    unfold redV at he
    subst he
    obtain ⟨hc3, hf3⟩ := bcell hb3
    obtain ⟨hz3a, hz3b, hz3c⟩ : w.heap.size < w3.heap.size ∧ w.heap.size + 1 < w3.heap.size ∧ w.heap.size + 1 + 1 < w3.heap.size := by have := hb3.size; (try simp at this); omega
    go_wp2
    refine bodyPost_ret (v := .tuple #[.agg #[.int .i64 (redX A B C x y), .int .i64 (redY C y)], .int .i64 0]) (by simp [results, Tryz.results79, go_sem, hc1, hz1a, hz1b, hz1c, hc2, hz2a, hz2b, hz2c, hc3, hz3a, hz3b, hz3c]) rfl ⟨ret_val EA.out.symm, ?_⟩
    repeat (first | exact Below.refl _ _ | refine Below.setCell ?_ (by first | omega | (simp <;> omega)) _ | refine Below.alloc ?_ (by first | omega | (simp <;> omega)) _ | refine bstep ?_ (by assumption) | refine Below.drew ?_)

end Go.Proofs.YtmadgbbkkkibcaaGreatDoor
