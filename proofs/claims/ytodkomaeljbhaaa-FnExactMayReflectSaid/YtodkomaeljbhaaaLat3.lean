/-
  Contracts of chapter 3's ReduceVec and IsInLattice: the program's function and the model's have one and the same answer. No condition.
-/
import Derived.Test.YtodkomaeljbhaaaLat2
namespace Go.Proofs.Ytodkomaeljbhaaa
open Go.RowKit
set_option linter.unusedSimpArgs false
set_option linter.unusedVariables false

def lvB (A B C x y : Int) : Bool := latB A B C && vecB x y
def redR (A B C x y : Int) : Int × Int × Int := bif lvB A B C x y then (redX A B C x y, redY C y, 0) else (0, 0, 1)
def redT (A B C x y : Int) : Value := .tuple #[.agg #[.int .i64 ((redR A B C x y).1), .int .i64 ((redR A B C x y).2.1)], .int .i64 (redR A B C x y).2.2]
def inR (A B C x y : Int) : Bool × Int := bif lvB A B C x y then (hasB A B C x y, 0) else (false, 1)
def inT (A B C x y : Int) : Value := .tuple #[.bool (inR A B C x y).1, .int .i64 (inR A B C x y).2]
theorem vec_mid {x y : Int} (h : vecB x y = true) : midI x ∧ midI y := by
  obtain ⟨⟨h1, h2⟩, h3, h4⟩ := vecB_bd h
  unfold midI; omega
def eqT (a b c a' b' c' : Int) : Bool := a == a' && (b == b' && c == c')
theorem eqT_rfl (a b c : Int) : eqT a b c a b c = true := by simp [eqT]

set_option maxHeartbeats 2000000 in
theorem toLat_any (A B C : Int) (w : World) :
    Calls Try.prog 7 #[.agg #[.int .i64 A, .int .i64 B, .int .i64 C]] w fun e w' => e = .returned (.agg #[.int .i64 A, .int .i64 B, .int .i64 C]) ∧ Below w.heap.size w w' := by
  go_enter Try.func7, Try.ntmps7
  go_wp2
  refine bodyPost_ret (v := .agg #[.int .i64 A, .int .i64 B, .int .i64 C]) (by simp [results, Try.results7, go_sem]) rfl ⟨rfl, ?_⟩
  repeat (first | exact Below.refl _ _ | refine Below.setCell ?_ (by first | omega | (simp <;> omega)) _ | refine Below.alloc ?_ (by first | omega | (simp <;> omega)) _ | refine bstep ?_ (by assumption) | refine Below.drew ?_)

end Go.Proofs.Ytodkomaeljbhaaa
