/-
  CellsOf: one contract for the program's function and one for the model's, and the walk of its exact law: it returns true and writes nothing that was there. No condition.
-/
import Derived.Test.YtcjefepjnomfaaaDoorCelS
import Derived.Test.YtcjefepjnomfaaaDoorSl2
import Derived.Test.YtcjefepjnomfaaaDoorLat3
namespace Go.Proofs.YtcjefepjnomfaaaDoor
open Go.RowKit
set_option linter.unusedSimpArgs false
set_option linter.unusedVariables false

def celL (A B C : Int) : List (Int × Int) := if latB A B C then cellP C.toNat A.toNat else []
def celC (A B C : Int) : Int := if latB A B C then 0 else 1
theorem celL_small (A B C : Int) : (celL A B C).length ≤ 1000000 := by
  unfold celL
  split
  · rename_i h
    have hi := latB_iff.1 h
    obtain ⟨bp, bq⟩ := latI_bd hi
    rw [cellP_len]
    have := Nat.mul_le_mul (show A.toNat ≤ 64 by omega) (show C.toNat ≤ 64 by omega)
    omega
  · simp
def CelAny (A B C : Int) (w : World) (e : Ending) (w' : World) : Prop :=
  ∃ v, e = .returned (.tuple #[v, .int .i64 (celC A B C)]) ∧ SRow w.heap.size w'.heap.size 2 v (celL A B C).length (intAt (cells2 (celL A B C))) w' ∧ Below w.heap.size w w'
set_option maxHeartbeats 4000000 in
theorem implCells_bad (A B C : Int) (w : World) (h : latB A B C = false) :
    Calls Tryd.prog 19 #[.agg #[.int .i64 A, .int .i64 B, .int .i64 C]] w fun e w' => e = .returned (.tuple #[.slice none 0 0, .int .i64 1]) ∧ Below w.heap.size w w' := by
  have H := Lib.hid h
  clear h
  go_enter Tryd.func19, Tryd.ntmps19
  go_wp2_with fail
  refine (isValidL_any _ _ _ _).mono ?_
  rintro e w1 ⟨rfl, hb1⟩
  rw [H.out]
  have B1 : Below w.heap.size w w1 := bstep ((Below.refl _ _).alloc (Nat.le_refl _) _) hb1
  clear hb1
  go_wp2
  go_ret2
  exact ⟨rfl, B1⟩
theorem implCells_any (A B C : Int) (w : World) : Calls Tryd.prog 19 #[.agg #[.int .i64 A, .int .i64 B, .int .i64 C]] w (CelAny A B C w) := by
  rcases h : latB A B C with _ | _
  · refine (implCells_bad A B C w h).mono ?_
    rintro e w1 ⟨rfl, hb⟩
    refine ⟨_, by rw [celC, h]; rfl, ?_, hb⟩
    rw [celL, h]
    exact ⟨Nat.le_refl _, by simp, .inl ⟨rfl, none, 0, rfl⟩⟩
  · have hi := latB_iff.1 h
    have hi1 := hi.1
    have hi2 := hi.2.1
    obtain ⟨p, rfl⟩ : ∃ m : Nat, A = (m : Int) := ⟨A.toNat, by omega⟩
    obtain ⟨q, rfl⟩ : ∃ m : Nat, C = (m : Int) := ⟨C.toNat, by omega⟩
    refine (implCells_good p q B w h).mono ?_
    rintro e w1 ⟨v, rfl, hown, hb⟩
    have hl : celL (p : Int) B (q : Int) = cellP q p := by rw [celL, h]; simp
    refine ⟨v, by rw [celC, h]; rfl, ?_, hb⟩
    have hs := celL_small (p : Int) B (q : Int)
    rw [hl] at hs ⊢
    exact SRow.of hown (cells2_int _) hs
set_option maxHeartbeats 4000000 in
theorem specCells_bad (A B C : Int) (w : World) (h : latB A B C = false) :
    Calls Tryd.prog 20 #[.agg #[.int .i64 A, .int .i64 B, .int .i64 C]] w fun e w' => e = .returned (.tuple #[.slice none 0 0, .int .i64 1]) ∧ Below w.heap.size w w' := by
  have H := Lib.hid h
  clear h
  go_enter Tryd.func20, Tryd.ntmps20
  go_wp2_with fail
  refine (specIsLattice_any _ _ _ _).mono ?_
  rintro e w1 ⟨rfl, hb1⟩
  rw [H.out]
  have B1 : Below w.heap.size w w1 := bstep ((Below.refl _ _).alloc (Nat.le_refl _) _) hb1
  clear hb1
  go_wp2
  go_ret2
  exact ⟨rfl, B1⟩
theorem specCells_any (A B C : Int) (w : World) : Calls Tryd.prog 20 #[.agg #[.int .i64 A, .int .i64 B, .int .i64 C]] w (CelAny A B C w) := by
  rcases h : latB A B C with _ | _
  · refine (specCells_bad A B C w h).mono ?_
    rintro e w1 ⟨rfl, hb⟩
    refine ⟨_, by rw [celC, h]; rfl, ?_, hb⟩
    rw [celL, h]
    exact ⟨Nat.le_refl _, by simp, .inl ⟨rfl, none, 0, rfl⟩⟩
  · have hi := latB_iff.1 h
    have hi1 := hi.1
    have hi2 := hi.2.1
    obtain ⟨p, rfl⟩ : ∃ m : Nat, A = (m : Int) := ⟨A.toNat, by omega⟩
    obtain ⟨q, rfl⟩ : ∃ m : Nat, C = (m : Int) := ⟨C.toNat, by omega⟩
    refine (specCells_good p q B w h).mono ?_
    rintro e w1 ⟨v, rfl, hown, hb⟩
    have hl : celL (p : Int) B (q : Int) = cellP q p := by rw [celL, h]; simp
    refine ⟨v, by rw [celC, h]; rfl, ?_, hb⟩
    have hs := celL_small (p : Int) B (q : Int)
    rw [hl] at hs ⊢
    exact SRow.of hown (cells2_int _) hs

end Go.Proofs.YtcjefepjnomfaaaDoor
