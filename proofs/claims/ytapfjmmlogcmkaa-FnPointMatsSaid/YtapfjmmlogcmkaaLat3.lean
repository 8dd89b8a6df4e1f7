/-
  Contracts of chapter 3's ReduceVec and IsInLattice: the program's function and the model's have one and the same answer. No condition.
-/
import Derived.Test.YtapfjmmlogcmkaaLat2
namespace Go.Proofs.Ytapfjmmlogcmkaa
open Go.RowKit
set_option linter.unusedSimpArgs false
set_option linter.unusedVariables false

def lvB (A B C x y : Int) : Bool := latB A B C && vecB x y
def redR (A B C x y : Int) : Int × Int × Int := bif lvB A B C x y then (redX A B C x y, redY C y, 0) else (0, 0, 1)
def redT (A B C x y : Int) : Value := .tuple #[.agg #[.int .i64 ((redR A B C x y).1), .int .i64 ((redR A B C x y).2.1)], .int .i64 (redR A B C x y).2.2]
def inR (A B C x y : Int) : Bool × Int := bif lvB A B C x y then (hasB A B C x y, 0) else (false, 1)
def inT (A B C x y : Int) : Value := .tuple #[.bool (inR A B C x y).1, .int .i64 (inR A B C x y).2]
theorem vec_mid {x y : Int} (h : vecB x y = true) : midI x ∧ midI y := by
  obtain ⟨⟨h1, h2⟩, h3, h4⟩ := vecB_bd h
  unfold midI; omega
def eqT (a b c a' b' c' : Int) : Bool := a == a' && (b == b' && c == c')
theorem eqT_rfl (a b c : Int) : eqT a b c a b c = true := by simp [eqT]

end Go.Proofs.Ytapfjmmlogcmkaa
