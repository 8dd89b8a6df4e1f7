/-
  Contracts of chapter 3's LatticeOf: the program's function and the model's have one and the same answer. No condition.
-/
import Derived.Test.YtapfjmmlogcmkaaHerm
import Derived.Test.YtapfjmmlogcmkaaLat3
import Derived.Test.YtapfjmmlogcmkaaOps
namespace Go.Proofs.Ytapfjmmlogcmkaa
open Go.RowKit
set_option linter.unusedSimpArgs false
set_option linter.unusedVariables false

def limR (t : Int × Int × Int) : Int × Int × Int × Int := bif latB t.1 t.2.1 t.2.2 then (t.1, t.2.1, t.2.2, 0) else (0, 0, 0, 3)
def latT (r : Int × Int × Int × Int) : Value := .tuple #[.agg #[.int .i64 (r.1), .int .i64 (r.2.1), .int .i64 (r.2.2.1)], .int .i64 r.2.2.2]
def ofR (x y x' y' : Int) : Int × Int × Int × Int :=
  bif vecB x y && vecB x' y' then (bif x * y' - y * x' == 0 then (0, 0, 0, 5) else limR (latL [(x, y), (x', y')])) else (0, 0, 0, 1)
def ofT (x y x' y' : Int) : Value := latT (ofR x y x' y')
theorem hm_two (L : List (Int × Int)) : (spFold L).2 = (hmFold L).2 := (sameS_fold L (0, 0, 0) (0, 0, 0) ⟨rfl, by simp⟩).1
theorem vecsB_two {x y x' y' : Int} (h : vecB x y = true) (h' : vecB x' y' = true) : vecsB [(x, y), (x', y')] := by
  obtain ⟨⟨a1, a2⟩, a3, a4⟩ := vecB_bd h
  obtain ⟨⟨b1, b2⟩, b3, b4⟩ := vecB_bd h'
  intro v hv
  simp at hv
  rcases hv with rfl | rfl <;> (simp only; omega)

theorem VL_two (W : World) (x y x' y' : Int) (T : TypeId) : VL W.heap.size [(x, y), (x', y')] (W.alloc (.cells #[.int .i64 x, .int .i64 y, .int .i64 x', .int .i64 y'] T)) := by
  refine ⟨by simp, fun i hi => ?_⟩
  match i, hi with
  | 0, _ => exact ⟨by simp [go_sem], by simp [go_sem]⟩
  | 1, _ => exact ⟨by simp [go_sem], by simp [go_sem]⟩

set_option maxHeartbeats 4000000 in
theorem limLat_any (A B C : Int) (w : World) :
    Calls Try.prog 51 #[.agg #[.int .i64 A, .int .i64 B, .int .i64 C]] w fun e w' => e = .returned (latT (limR (A, B, C))) ∧ Below w.heap.size w w' := by
  rcases hl : latB A B C with _ | _
  · have ea : latT (limR (A, B, C)) = .tuple #[.agg #[.int .i64 0, .int .i64 0, .int .i64 0], .int .i64 3] := by simp [latT, limR, hl]
    have EA := Lib.hid ea
    clear ea
    go_enter Try.func51, Try.ntmps51
    go_wp2_with fail
    refine (isValidL_any _ _ _ _).mono ?_
    rintro e w1 ⟨rfl, hb1⟩
    obtain ⟨hc1, hf1⟩ := bcell hb1
    obtain ⟨hz1a, hz1b⟩ : w.heap.size < w1.heap.size ∧ w.heap.size + 1 < w1.heap.size := by have := hb1.size; (try simp at this); omega
    go_wp2
    refine bodyPost_ret (v := .tuple #[.agg #[.int .i64 0, .int .i64 0, .int .i64 0], .int .i64 3]) (by simp [results, Try.results51, go_sem, hc1, hz1a, hz1b]) rfl ⟨ret_val EA.out.symm, ?_⟩
    repeat (first | exact Below.refl _ _ | refine Below.setCell ?_ (by first | omega | (simp <;> omega)) _ | refine Below.alloc ?_ (by first | omega | (simp <;> omega)) _ | refine bstep ?_ (by assumption) | refine Below.drew ?_)
  · have ea : latT (limR (A, B, C)) = .tuple #[.agg #[.int .i64 A, .int .i64 B, .int .i64 C], .int .i64 0] := by simp [latT, limR, hl]
    have EA := Lib.hid ea
    clear ea
    go_enter Try.func51, Try.ntmps51
    go_wp2_with fail
    refine (isValidL_any _ _ _ _).mono ?_
    rintro e w1 ⟨rfl, hb1⟩
    obtain ⟨hc1, hf1⟩ := bcell hb1
    obtain ⟨hz1a, hz1b⟩ : w.heap.size < w1.heap.size ∧ w.heap.size + 1 < w1.heap.size := by have := hb1.size; (try simp at this); omega
    go_wp2
    refine bodyPost_ret (v := .tuple #[.agg #[.int .i64 A, .int .i64 B, .int .i64 C], .int .i64 0]) (by simp [results, Try.results51, go_sem, hc1, hz1a, hz1b]) rfl ⟨ret_val EA.out.symm, ?_⟩
    repeat (first | exact Below.refl _ _ | refine Below.setCell ?_ (by first | omega | (simp <;> omega)) _ | refine Below.alloc ?_ (by first | omega | (simp <;> omega)) _ | refine bstep ?_ (by assumption) | refine Below.drew ?_)

set_option maxHeartbeats 4000000 in
theorem resLat_any (A B C : Int) (w : World) :
    Calls Try.prog 63 #[.agg #[.int .i64 A, .int .i64 B, .int .i64 C]] w fun e w' => e = .returned (latT (limR (A, B, C))) ∧ Below w.heap.size w w' := by
  rcases hl : latB A B C with _ | _
  · have ea : latT (limR (A, B, C)) = .tuple #[.agg #[.int .i64 0, .int .i64 0, .int .i64 0], .int .i64 3] := by simp [latT, limR, hl]
    have EA := Lib.hid ea
    clear ea
    go_enter Try.func63, Try.ntmps63
    go_wp2_with fail
    refine (specIsLattice_any _ _ _ _).mono ?_
    rintro e w1 ⟨rfl, hb1⟩
    obtain ⟨hc1, hf1⟩ := bcell hb1
    obtain ⟨hz1a, hz1b⟩ : w.heap.size < w1.heap.size ∧ w.heap.size + 1 < w1.heap.size := by have := hb1.size; (try simp at this); omega
    go_wp2
    refine bodyPost_ret (v := .tuple #[.agg #[.int .i64 0, .int .i64 0, .int .i64 0], .int .i64 3]) (by simp [results, Try.results63, go_sem, hc1, hz1a, hz1b]) rfl ⟨ret_val EA.out.symm, ?_⟩
    repeat (first | exact Below.refl _ _ | refine Below.setCell ?_ (by first | omega | (simp <;> omega)) _ | refine Below.alloc ?_ (by first | omega | (simp <;> omega)) _ | refine bstep ?_ (by assumption) | refine Below.drew ?_)
  · have ea : latT (limR (A, B, C)) = .tuple #[.agg #[.int .i64 A, .int .i64 B, .int .i64 C], .int .i64 0] := by simp [latT, limR, hl]
    have EA := Lib.hid ea
    clear ea
    go_enter Try.func63, Try.ntmps63
    go_wp2_with fail
    refine (specIsLattice_any _ _ _ _).mono ?_
    rintro e w1 ⟨rfl, hb1⟩
    obtain ⟨hc1, hf1⟩ := bcell hb1
    obtain ⟨hz1a, hz1b⟩ : w.heap.size < w1.heap.size ∧ w.heap.size + 1 < w1.heap.size := by have := hb1.size; (try simp at this); omega
    go_wp2
    refine bodyPost_ret (v := .tuple #[.agg #[.int .i64 A, .int .i64 B, .int .i64 C], .int .i64 0]) (by simp [results, Try.results63, go_sem, hc1, hz1a, hz1b]) rfl ⟨ret_val EA.out.symm, ?_⟩
    repeat (first | exact Below.refl _ _ | refine Below.setCell ?_ (by first | omega | (simp <;> omega)) _ | refine Below.alloc ?_ (by first | omega | (simp <;> omega)) _ | refine bstep ?_ (by assumption) | refine Below.drew ?_)

set_option maxHeartbeats 4000000 in
theorem implOf_any (x y x' y' : Int) (w : World) :
    Calls Try.prog 15 #[.agg #[.int .i64 x, .int .i64 y], .agg #[.int .i64 x', .int .i64 y']] w fun e w' => e = .returned (ofT x y x' y') ∧ Below w.heap.size w w' := by
  rcases hu : vecB x y with _ | _
  · have ea : ofT x y x' y' = .tuple #[.agg #[.int .i64 0, .int .i64 0, .int .i64 0], .int .i64 1] := by simp [ofT, latT, ofR, hu]
    have EA := Lib.hid ea
    clear ea
    go_enter Try.func15, Try.ntmps15
    go_wp2_with fail
    refine (isValid_any _ _ _).mono ?_
    rintro e w1 ⟨rfl, hb1⟩
    obtain ⟨hc1, hf1⟩ := bcell hb1
    obtain ⟨hz1a, hz1b, hz1c⟩ : w.heap.size < w1.heap.size ∧ w.heap.size + 1 < w1.heap.size ∧ w.heap.size + 1 + 1 < w1.heap.size := by have := hb1.size; (try simp at this); omega
    go_wp2
    refine bodyPost_ret (v := .tuple #[.agg #[.int .i64 0, .int .i64 0, .int .i64 0], .int .i64 1]) (by simp [results, Try.results15, go_sem, hc1, hz1a, hz1b, hz1c]) rfl ⟨ret_val EA.out.symm, ?_⟩
    repeat (first | exact Below.refl _ _ | refine Below.setCell ?_ (by first | omega | (simp <;> omega)) _ | refine Below.alloc ?_ (by first | omega | (simp <;> omega)) _ | refine bstep ?_ (by assumption) | refine Below.drew ?_)
  rcases hv : vecB x' y' with _ | _
  · have ea : ofT x y x' y' = .tuple #[.agg #[.int .i64 0, .int .i64 0, .int .i64 0], .int .i64 1] := by simp [ofT, latT, ofR, hv]
    have EA := Lib.hid ea
    clear ea
    go_enter Try.func15, Try.ntmps15
    go_wp2_with fail
    refine (isValid_any _ _ _).mono ?_
    rintro e w1 ⟨rfl, hb1⟩
    obtain ⟨hc1, hf1⟩ := bcell hb1
    obtain ⟨hz1a, hz1b, hz1c⟩ : w.heap.size < w1.heap.size ∧ w.heap.size + 1 < w1.heap.size ∧ w.heap.size + 1 + 1 < w1.heap.size := by have := hb1.size; (try simp at this); omega
    go_wp2_with fail
    refine (isValid_any _ _ _).mono ?_
    rintro e w2 ⟨rfl, hb2⟩
    obtain ⟨hc2, hf2⟩ := bcell hb2
    obtain ⟨hz2a, hz2b, hz2c⟩ : w.heap.size < w2.heap.size ∧ w.heap.size + 1 < w2.heap.size ∧ w.heap.size + 1 + 1 < w2.heap.size := by have := hb2.size; (try simp at this); omega
    go_wp2
    refine bodyPost_ret (v := .tuple #[.agg #[.int .i64 0, .int .i64 0, .int .i64 0], .int .i64 1]) (by simp [results, Try.results15, go_sem, hc1, hz1a, hz1b, hz1c, hc2, hz2a, hz2b, hz2c]) rfl ⟨ret_val EA.out.symm, ?_⟩
    repeat (first | exact Below.refl _ _ | refine Below.setCell ?_ (by first | omega | (simp <;> omega)) _ | refine Below.alloc ?_ (by first | omega | (simp <;> omega)) _ | refine bstep ?_ (by assumption) | refine Below.drew ?_)
  rcases hd : x * y' - y * x' == 0 with _ | _
  · have hd0 : x * y' - y * x' ≠ 0 := by simpa using hd
    have ea : ofT x y x' y' = latT (limR (latL [(x, y), (x', y')])) := by simp [ofT, ofR, hu, hv, hd]
    have h0 := (two_facts x y x' y' hd0).1
    have h0' : 0 < (hmFold [(x, y), (x', y')]).2.2 := by rw [← hm_two]; exact h0
    have hL := vecsB_two hu hv
    have EA := Lib.hid ea
    clear ea
    go_enter Try.func15, Try.ntmps15
    go_wp2_with fail
    refine (isValid_any _ _ _).mono ?_
    rintro e w1 ⟨rfl, hb1⟩
    obtain ⟨hc1, hf1⟩ := bcell hb1
    obtain ⟨hz1a, hz1b, hz1c⟩ : w.heap.size < w1.heap.size ∧ w.heap.size + 1 < w1.heap.size ∧ w.heap.size + 1 + 1 < w1.heap.size := by have := hb1.size; (try simp at this); omega
    go_wp2_with fail
    refine (isValid_any _ _ _).mono ?_
    rintro e w2 ⟨rfl, hb2⟩
    obtain ⟨hc2, hf2⟩ := bcell hb2
    obtain ⟨hz2a, hz2b, hz2c⟩ : w.heap.size < w2.heap.size ∧ w.heap.size + 1 < w2.heap.size ∧ w.heap.size + 1 + 1 < w2.heap.size := by have := hb2.size; (try simp at this); omega
    go_wp2_with fail
    refine (cross_any _ _ _ _ _ hu hv).mono ?_
    rintro e w3 ⟨rfl, hb3⟩
    obtain ⟨hc3, hf3⟩ := bcell hb3
    obtain ⟨hz3a, hz3b, hz3c⟩ : w.heap.size < w3.heap.size ∧ w.heap.size + 1 < w3.heap.size ∧ w.heap.size + 1 + 1 < w3.heap.size := by have := hb3.size; (try simp at this); omega
    go_wp2_with fail
    refine (spanOf_any [(x, y), (x', y')] _ _ _ (VL_two _ _ _ _ _ _) hL (by simp) h0).mono ?_
    rintro e w4 ⟨rfl, hb4⟩
    obtain ⟨hz4a, hz4b, hz4c⟩ : w.heap.size < w4.heap.size ∧ w.heap.size + 1 < w4.heap.size ∧ w.heap.size + 1 + 1 < w4.heap.size := by have := hb4.size; (try simp at this); omega
    have B4 : Below w.heap.size w w4 := by
      repeat (first | exact Below.refl _ _ | refine Below.setCell ?_ (by first | omega | (simp <;> omega)) _ | refine Below.alloc ?_ (by first | omega | (simp <;> omega)) _ | refine bstep ?_ (by assumption) | refine Below.drew ?_)
    go_wp2_with fail
    refine (limLat_any _ _ _ _).mono ?_
    rintro e w5 ⟨he, hb5⟩
    unfold latT at he
    subst he
    have B5 := bstep B4 hb5
    have hz5 := hb5.size
    have KR : KL (w.heap.size + 1 + 1) 0 0 0 w5 := KL.call (KL.call (KL.alloc (KL.call (KL.call (KL.call (KL.at _ (by simp)) hb1) hb2) hb3) _) hb4) hb5
    obtain ⟨b0, b1, b2, b3, b4, b5, b6⟩ := id KR
    have EA' := Lib.hid (EA.out.trans (show latT (limR (latL [(x, y), (x', y')])) = .tuple #[.agg #[.int .i64 ((limR (latL [(x, y), (x', y')])).1), .int .i64 ((limR (latL [(x, y), (x', y')])).2.1), .int .i64 ((limR (latL [(x, y), (x', y')])).2.2.1)], .int .i64 (limR (latL [(x, y), (x', y')])).2.2.2] from rfl))
    clear hb1 hb2 hb3 hb4 hb5 hc1 hc2 hc3 hf1 hf2 hf3 B4 KR EA
    go_wp2
    refine bodyPost_ret (v := .tuple #[.agg #[.int .i64 ((limR (latL [(x, y), (x', y')])).1), .int .i64 ((limR (latL [(x, y), (x', y')])).2.1), .int .i64 ((limR (latL [(x, y), (x', y')])).2.2.1)], .int .i64 (limR (latL [(x, y), (x', y')])).2.2.2]) (by simp [results, Try.results15, go_sem, b0, b1, b2, b3, b4, b5, b6]) rfl ⟨ret_val EA'.out.symm, ?_⟩
    repeat (first | assumption | refine Below.setCell ?_ (by first | omega | (simp <;> omega)) _)
  · have ea : ofT x y x' y' = .tuple #[.agg #[.int .i64 0, .int .i64 0, .int .i64 0], .int .i64 5] := by simp [ofT, latT, ofR, hu, hv, hd]
    have EA := Lib.hid ea
    clear ea
    go_enter Try.func15, Try.ntmps15
    go_wp2_with fail
    refine (isValid_any _ _ _).mono ?_
    rintro e w1 ⟨rfl, hb1⟩
    obtain ⟨hc1, hf1⟩ := bcell hb1
    obtain ⟨hz1a, hz1b, hz1c⟩ : w.heap.size < w1.heap.size ∧ w.heap.size + 1 < w1.heap.size ∧ w.heap.size + 1 + 1 < w1.heap.size := by have := hb1.size; (try simp at this); omega
    go_wp2_with fail
    refine (isValid_any _ _ _).mono ?_
    rintro e w2 ⟨rfl, hb2⟩
    obtain ⟨hc2, hf2⟩ := bcell hb2
    obtain ⟨hz2a, hz2b, hz2c⟩ : w.heap.size < w2.heap.size ∧ w.heap.size + 1 < w2.heap.size ∧ w.heap.size + 1 + 1 < w2.heap.size := by have := hb2.size; (try simp at this); omega
    go_wp2_with fail
    refine (cross_any _ _ _ _ _ hu hv).mono ?_
    rintro e w3 ⟨rfl, hb3⟩
    obtain ⟨hc3, hf3⟩ := bcell hb3
    obtain ⟨hz3a, hz3b, hz3c⟩ : w.heap.size < w3.heap.size ∧ w.heap.size + 1 < w3.heap.size ∧ w.heap.size + 1 + 1 < w3.heap.size := by have := hb3.size; (try simp at this); omega
    go_wp2
    refine bodyPost_ret (v := .tuple #[.agg #[.int .i64 0, .int .i64 0, .int .i64 0], .int .i64 5]) (by simp [results, Try.results15, go_sem, hc1, hz1a, hz1b, hz1c, hc2, hz2a, hz2b, hz2c, hc3, hz3a, hz3b, hz3c]) rfl ⟨ret_val EA.out.symm, ?_⟩
    repeat (first | exact Below.refl _ _ | refine Below.setCell ?_ (by first | omega | (simp <;> omega)) _ | refine Below.alloc ?_ (by first | omega | (simp <;> omega)) _ | refine bstep ?_ (by assumption) | refine Below.drew ?_)

end Go.Proofs.Ytapfjmmlogcmkaa
