/-
  The walks of the exact laws of chapter 1 over validity, sums, multiples, determinants and order: each law returns true and writes nothing that was there. No condition.
-/
import Derived.Test.YtlimlmlndleinaaBase
namespace Go.Proofs.Ytlimlmlndleinaa
open Go.RowKit

set_option maxHeartbeats 400000 in
theorem walkIsVec (x y : Int) (w : World) :
    Calls Try.prog 5 #[.agg #[.int .i64 x, .int .i64 y]] w fun e w' => e = .returned (.bool true) ∧ Below w.heap.size w w' := by
  go_enter Try.func5, Try.ntmps5
  go_wp2_with fail
  refine (toVec_any _ _ _).mono ?_
  rintro e w1 ⟨rfl, hb1⟩
  obtain ⟨hc1, hf1⟩ := bcell hb1
  have hz1 : w.heap.size < w1.heap.size := by have := hb1.size; simp at this; omega
  go_wp2_with fail
  refine (specIsVec_any _ _ _).mono ?_
  rintro e w2 ⟨rfl, hb2⟩
  obtain ⟨hc2, hf2⟩ := bcell hb2
  have hz2 : w.heap.size < w2.heap.size := by have := hb2.size; omega
  go_wp2_with fail
  refine (toVec_any _ _ _).mono ?_
  rintro e w3 ⟨rfl, hb3⟩
  go_wp2_with fail
  refine (implIsVec_any _ _ _).mono ?_
  rintro e w4 ⟨rfl, hb4⟩
  have hz3 := hb3.size
  go_wp2
  go_ret
  refine ⟨rfl, ?_⟩
  refine Below.trans ?_ (hb4.mono (by have := hb2.size; omega))
  refine Below.trans ?_ (hb3.mono (by have := hb2.size; omega))
  refine Below.trans ?_ (hb2.mono (by have := hb2.size; omega))
  refine Below.trans ?_ (hb1.mono (by simp))
  exact (Below.refl _ _).alloc (Nat.le_refl _) _

end Go.Proofs.Ytlimlmlndleinaa
