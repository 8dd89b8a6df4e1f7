/-
  The law FnExactMovePattern holds: for every input that can be read the call returns true and the arguments read as before. No condition beyond the row's own.
-/
import Derived.Test.YtpejihckepaojaaRows
import Derived.Test.YtpejihckepaojaaWpV
import Derived.WalkKit
import Derived.ProofKit
import Derived.OpenShut
import Derived.ShutString
import Derived.ChangeOld
import Derived.Below
import Derived.Lib.SmallJoins
import Derived.Test.YtpejihckepaojaaOpen6

import Derived.Test.YtpejihckepaojaaPtK
namespace Go.Proofs.Ytpejihckepaojaa.fnExactMovePattern
open Go.ChangeShapes Go.WideShapes Go.ChangeAt Go.RowKit Go.Joins
open Go.ChangeMaps (open_string shut_string)
set_option linter.unusedVariables false

theorem own : ownKnob Try.prog.godebug = none := by kernel_rfl
theorem laidOut : laidOutB Try.prog = true := by kernel_rfl
theorem cells26 : Try.prog.cellsOf 26 = 5 := by kernel_rfl
theorem cells53 : Try.prog.cellsOf 53 = 6 := by kernel_rfl
theorem cells51 : Try.prog.cellsOf 51 = 4 := by kernel_rfl
theorem cells36 : Try.prog.cellsOf 36 = 2 := by kernel_rfl

set_option maxRecDepth 100000 in
theorem lifted (os : Os) (started : os.Started) (H : Type) (enc : TypeId × Value → H) :
    ReturnsInHanded {} Try.checked os 7 .any (Rows.fnExactMovePatternSpec.pre6 enc Try.prog Try.f7 Rows.fnExactMovePatternRow.domain false) (Rows.fnExactMovePatternSpec.post enc Try.prog Try.f7 false true false false) := by
  refine returnsInHanded_of_change (C := Try.checked) own started (by kernel_rfl) Try.func7
    (ChangeSpec.witness6 (enc := enc) (C := Try.checked) false ⟨#[], #[.agg #[.int .i64 0, .int .i64 0, .int .i64 0, .int .i64 0, .slice none 0 0], .agg #[.int .i64 0, .int .i64 0, .int .i64 0, .int .i64 0, .int .i64 0, .int .i64 0]], []⟩ 8 (by kernel_rfl) (by kernel_rfl) (by kernel_rfl) (by kernel_rfl)) ?_
  intro W base args ds gs before hval0 hW hcnd _
  have hval : ∀ (j : Nat) t v, Try.f7.params[j]? = some t → args[j]? = some v → Value.okWide Try.prog W .any base t v := hval0
  have hW' := hW
  obtain ⟨p, q, hA0, hV, rfl, hfz, hnd⟩ := hW
  have hA : DataW.TrodAll enc Try.prog W 0 (fun _ => true) true Try.f7.params.toList args.toList ds p := hA0
  rw [Try.params7] at hA hval
  obtain ⟨v0, vs0, d0, ds0, p0, q0, hargs, rfl, rfl, h0, r0⟩ := trodAll_cons hA
  obtain ⟨v1, vs1, d1, ds1, p1, q1, rfl, rfl, rfl, h1, r1⟩ := trodAll_cons r0
  obtain ⟨rfl, rfl, rfl⟩ := trodAll_nil r1
  obtain rfl : args = #[v0, v1] := by cases args; simp_all
  obtain ⟨rfl, rfl⟩ := trodVars_none hV
  have k0 := h0
  have lt0 : ∀ x ∈ p0, x.block < W.heap.size := by obtain ⟨m, hm⟩ := k0; exact DataW.trod_lt m _ _ _ hm
  have k1 := h1
  have lt1 : ∀ x ∈ p1, x.block < W.heap.size := by obtain ⟨m, hm⟩ := k1; exact DataW.trod_lt m _ _ _ hm
  obtain ⟨f0, aA0, aB0, aC0, u0, n0, F0, rfl, hx0, hxl0⟩ := open_pat Try.underlying26 Try.underlying2 Try.underlying23 (by kernel_rfl) Try.underlying2 Try.underlying2 Try.underlying2 Try.underlying24 Try.underlying2 (by kernel_rfl) ⟨rfl, by kernel_rfl, rfl, by kernel_rfl, rfl, by kernel_rfl⟩ cells26 (hval 0 26 v0 rfl rfl) h0
  obtain ⟨c10, c11, c12, c13, c14, c15, y10, y11, y12, y13, y14, y15, m1, k1m, rfl, rfl, rfl, hy10, hy11, hy12, hy13, hy14, hy15⟩ := open_mot Try.underlying53 Try.underlying51 Try.underlying36 (by kernel_rfl) (by kernel_rfl) ⟨rfl, cells51, rfl, cells36⟩ cells53 (hval 1 53 v1 rfl rfl) h1
  obtain ⟨a10, e10, rfl, wa10⟩ := DataW.trod_int Try.underlying2 hy10
  obtain ⟨a11, e11, rfl, wa11⟩ := DataW.trod_int Try.underlying2 hy11
  obtain ⟨a12, e12, rfl, wa12⟩ := DataW.trod_int Try.underlying2 hy12
  obtain ⟨a13, e13, rfl, wa13⟩ := DataW.trod_int Try.underlying2 hy13
  obtain ⟨a14, e14, rfl, wa14⟩ := DataW.trod_int Try.underlying2 hy14
  obtain ⟨a15, e15, rfl, wa15⟩ := DataW.trod_int Try.underlying2 hy15
  simp at e10 e11 e12 e13 e14 e15
  subst e10 e11 e12 e13 e14 e15
  clear hA0 hval0
  refine (walkMv f0 aA0 aB0 aC0 u0 n0 F0 a10 a11 a12 a13 a14 a15 W hx0 hxl0).mono fun e W' ⟨he, bel⟩ => ?_
  subst he
  exact ⟨_, rfl, _, _, _, [], _, [], hW', trodAll_mk1 (shut_bool Try.underlying4 _), (trodAll_cons_mk (Below.trod laidOut (by kernel_rfl) (of_decide_eq_true (by kernel_rfl)) k0 bel lt0) (trodAll_cons_mk (Below.trod laidOut (by kernel_rfl) (of_decide_eq_true (by kernel_rfl)) k1 bel lt1) trodAll_mk0)), rfl, bel.frame _, fun h => by cases h⟩

theorem over : Rows.fnExactMovePatternRow.holds Try.pinned (OpenSpec.ofChange Rows.fnExactMovePatternSpec) :=
  OpenClaim.holds_of_wide 7 Try.f7 rfl rfl rfl rfl rfl rfl rfl ⟨rfl, rfl, rfl, rfl, rfl⟩ rfl rfl rfl rfl rfl (by kernel_rfl) Try.func7 (by kernel_rfl)
    (of_decide_eq_true (by kernel_rfl)) (by unfold Func.isWrapper; first | (rw [if_pos (by decide +kernel)]; kernel_rfl) | (rw [if_neg (by decide +kernel)]; exact ⟨rfl, rfl⟩))
    (fun os started H enc _ => lifted os started H enc)

theorem proved : Rows.FnExactMovePatternSaid := over
#print axioms proved
end Go.Proofs.Ytpejihckepaojaa.fnExactMovePattern
