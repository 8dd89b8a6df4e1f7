/-
 Plain facts of the facts of a group (chapter 11): what each motion adds, and that the program's and the model's way to tell whether the axis runs along a shortest vector agree. Conditions: those stated.
-/
import Derived.Test.YtjjfomokecngoaaGreatDoorFaF
import Derived.Test.YtjjfomokecngoaaGreatDoorGe
import Derived.Test.YtjjfomokecngoaaGreatDoorHg
import Derived.Test.YtjjfomokecngoaaGreatDoorBx
namespace Go.Proofs.YtjjfomokecngoaaGreatDoor
open Go.RowKit
set_option linter.unusedSimpArgs false
set_option linter.unusedVariables false

def alB (f A B C a b c d : Int) : Bool := decide ((ivX A B C a b c d, ivY A B C a b c d) ∈ shortM f A B C)
theorem iv_in {f A B C a b c d x y : Int} (h : okM f A B C (a, b, c, d, x, y) = true) (hr : reflB a b c d = true) : inL A B C (ivX A B C a b c d) (ivY A B C a b c d) ∧ ¬ (ivX A B C a b c d = 0 ∧ ivY A B C a b c d = 0) := by
 obtain ⟨hl, _, _, _, _, _⟩ := suit_parts h
 have hk := invK_lst (axP a b c d).1 (axP a b c d).2 hl
 have hp := prim_ne (axP_rax hr (refl_neg hr)).one
 have h1 := hk.pos
 refine ⟨hk.mem, ?_⟩
 unfold ivX ivY
 rintro ⟨e1, e2⟩
 refine hp ⟨?_, ?_⟩
 ·exact (Int.mul_eq_zero.1 e1).resolve_left (by omega)
 ·exact (Int.mul_eq_zero.1 e2).resolve_left (by omega)
theorem al_model {f A B C a b c d x y : Int} (h : okM f A B C (a, b, c, d, x, y) = true) (hr : reflB a b c d = true) {s : Int × Int} (hs : s ∈ shortM f A B C) :
  (nrmI f (ivX A B C a b c d) (ivY A B C a b c d) == nrmI f s.1 s.2) = alB f A B C a b c d := by
 obtain ⟨hl, hf, _, _, _, _⟩ := suit_parts h
 obtain ⟨i1, i2⟩ := iv_in h hr
 obtain ⟨s1, s2, s3⟩ := (shortM_mem hf hl).1 hs
 unfold alB
 rw [Bool.eq_iff_iff]
 simp only [beq_iff_eq, decide_eq_true_eq]
 rw [shortM_mem hf hl]
 constructor
 ·intro e
  refine ⟨i1, i2, fun x y hx hy => ?_⟩
  have := s3 x y hx hy
  unfold nrmV at *
  rw [e]; exact this
 ·rintro ⟨_, _, h3⟩
  have e1 := h3 s.1 s.2 s1 s2
  have e2 := s3 _ _ i1 i2
  unfold nrmV at *
  simp only at e1 e2
  omega
def bI (b : Bool) : Int := bif b then 1 else 0
abbrev R4 := Int × Int × Int × Bool
def mrS (f A B C : Int) (s : R4) (m : M6) : R4 :=
 if reflB m.1 m.2.1 m.2.2.1 m.2.2.2.1 = true then (s.1 + 1, s.2.1 + bI (mayB A B C m), s.2.2.1 + bI (cenB A B C m.1 m.2.1 m.2.2.1 m.2.2.2.1), if s.1 = 0 then alB f A B C m.1 m.2.1 m.2.2.1 m.2.2.2.1 else s.2.2.2) else s
def mrP (f A B C : Int) (xs : List M6) : R4 := xs.foldl (mrS f A B C) (0, 0, 0, false)
theorem mrP_next {f A B C : Int} {xs : List M6} {k : Nat} {m : M6} (h : xs.take (k + 1) = xs.take k ++ [m]) : mrP f A B C (xs.take (k + 1)) = mrS f A B C (mrP f A B C (xs.take k)) m := by
 unfold mrP
 rw [h, List.foldl_append]; rfl
theorem mrP_bd (f A B C : Int) (xs : List M6) : (0 ≤ (mrP f A B C xs).1 ∧ (mrP f A B C xs).1 ≤ xs.length) ∧ (0 ≤ (mrP f A B C xs).2.1 ∧ (mrP f A B C xs).2.1 ≤ xs.length) ∧ (0 ≤ (mrP f A B C xs).2.2.1 ∧ (mrP f A B C xs).2.2.1 ≤ xs.length) := by
 have h : ∀ (L : List M6) (s : R4) (n : Nat), (0 ≤ s.1 ∧ s.1 ≤ n) ∧ (0 ≤ s.2.1 ∧ s.2.1 ≤ n) ∧ (0 ≤ s.2.2.1 ∧ s.2.2.1 ≤ n) →
   (0 ≤ (L.foldl (mrS f A B C) s).1 ∧ (L.foldl (mrS f A B C) s).1 ≤ (n + L.length : Nat)) ∧ (0 ≤ (L.foldl (mrS f A B C) s).2.1 ∧ (L.foldl (mrS f A B C) s).2.1 ≤ (n + L.length : Nat)) ∧ (0 ≤ (L.foldl (mrS f A B C) s).2.2.1 ∧ (L.foldl (mrS f A B C) s).2.2.1 ≤ (n + L.length : Nat)) := by
  intro L
  induction L with
  | nil => intro s n h; simpa using h
  | cons m L ih =>
   intro s n h
   have h2 := ih (mrS f A B C s m) (n + 1) (by
    have b1 : 0 ≤ bI (mayB A B C m) ∧ bI (mayB A B C m) ≤ 1 := by cases mayB A B C m <;> decide
    have b2 : 0 ≤ bI (cenB A B C m.1 m.2.1 m.2.2.1 m.2.2.2.1) ∧ bI (cenB A B C m.1 m.2.1 m.2.2.1 m.2.2.2.1) ≤ 1 := by cases cenB A B C m.1 m.2.1 m.2.2.1 m.2.2.2.1 <;> decide
    unfold mrS
    split
    ·dsimp only; omega
    ·omega)
   rw [List.foldl_cons, List.length_cons]
   rw [show n + (L.length + 1) = n + 1 + L.length by omega]
   exact h2
 have := h xs (0, 0, 0, false) 0 (by simp)
 simpa [mrP] using this
/- a block of facts that may be written -/
theorem BX.st1 {g : Nat} {r o e c a : Value} {W : World} (h : BX g [r, o, e, c, a] W) (u : Value) : BX g [r, u, e, c, a] (W.setCell ⟨g, 1, none⟩ u) := h.store 1 (by simp) u
theorem BX.st2 {g : Nat} {r n o c a : Value} {W : World} (h : BX g [r, n, o, c, a] W) (u : Value) : BX g [r, n, u, c, a] (W.setCell ⟨g, 2, none⟩ u) := h.store 2 (by simp) u
theorem BX.st3 {g : Nat} {r n e o a : Value} {W : World} (h : BX g [r, n, e, o, a] W) (u : Value) : BX g [r, n, e, u, a] (W.setCell ⟨g, 3, none⟩ u) := h.store 3 (by simp) u
theorem BX.st4 {g : Nat} {r n e c o : Value} {W : World} (h : BX g [r, n, e, c, o] W) (u : Value) : BX g [r, n, e, c, u] (W.setCell ⟨g, 4, none⟩ u) := h.store 4 (by simp) u
theorem BX.st0 {g : Nat} {o n e c a : Value} {W : World} (h : BX g [o, n, e, c, a] W) (u : Value) : BX g [u, n, e, c, a] (W.setCell ⟨g, 0, none⟩ u) := h.store 0 (by simp) u
theorem Bx.cells6t {g : Nat} {u0 u1 u2 u3 u4 u5 : Value} {W : World} (h : Bx g [u0, u1, u2, u3, u4, u5] W) : W.cell? ⟨g, 0, none⟩ = some u0 ∧ W.cell? ⟨g, 1, none⟩ = some u1 ∧ W.cell? ⟨g, 2, none⟩ = some u2 ∧ W.cell? ⟨g, 3, none⟩ = some u3 ∧ W.cell? ⟨g, 4, none⟩ = some u4 ∧ W.cell? ⟨g, 5, none⟩ = some u5 := ⟨h.c0, h.c1, h.c2, h.c3, h.c4, h.c5⟩
end Go.Proofs.YtjjfomokecngoaaGreatDoor
