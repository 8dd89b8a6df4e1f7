/-
  Contracts of the small functions of chapter 1 (program and model): whether a number lies in a range, whether a vector is valid, sums, multiples and determinants. Conditions: only the bounds that are stated.
-/
import Derived.Test.YtjocmfnjfmlgiaaDoorProg
import Derived.WalkKit
import Derived.ProofKit
import Derived.OpenShut
import Derived.Below
import Derived.Lib.Hide
namespace Go.Proofs.YtjocmfnjfmlgiaaDoor
open Go.RowKit

def inB (n lo hi : Int) : Bool := decide (lo ≤ n ∧ n ≤ hi)
def vecB (x y : Int) : Bool := decide ((-1000 ≤ x ∧ x ≤ 1000) ∧ (-1000 ≤ y ∧ y ≤ 1000))

theorem ret_bool {a b : Bool} (h : a = b) : Ending.returned (.bool a) = .returned (.bool b) := by rw [h]
theorem ret_int {k : IntKind} {a b : Int} (h : a = b) : Ending.returned (.int k a) = .returned (.int k b) := by rw [h]
theorem ret_str {a b : ByteArray} (h : a = b) : Ending.returned (.string a) = .returned (.string b) := by rw [h]
theorem ret_val {a b : Value} (h : a = b) : Ending.returned a = .returned b := by rw [h]

theorem bcell {W w1 : World} (hb : Below W.heap.size W w1) : (∀ b o, b < W.heap.size → w1.cell? ⟨b, o, none⟩ = W.cell? ⟨b, o, none⟩) ∧ (∀ b o, b < W.heap.size → w1.frozen? ⟨b, o, none⟩ = W.frozen? ⟨b, o, none⟩) :=
  ⟨fun b o h => hb.cell (p := ⟨b, o, none⟩) h, fun b o h => hb.frozen (p := ⟨b, o, none⟩) h⟩

theorem blt {W w1 : World} (hb : Below W.heap.size W w1) : ∀ c, c < W.heap.size → c < w1.heap.size := fun _ h => Nat.lt_of_lt_of_le h hb.size
theorem useIt {P Q : Prop} (h : P) (k : P → Q) : Q := k h
theorem lt_alloc {W w1 : World} {o : Obj} (hb : Below (W.alloc o).heap.size (W.alloc o) w1) : W.heap.size < w1.heap.size := by
  have := hb.size; simp at this; omega
theorem lt_alloc_drew {W w1 : World} {o : Obj} (hb : Below (W.alloc o).drew.heap.size (W.alloc o).drew w1) : W.heap.size < w1.heap.size := by
  have := hb.size; simp at this; omega
theorem bstep {w W w1 : World} (h : Below w.heap.size w W) (hb : Below W.heap.size W w1) : Below w.heap.size w w1 := h.trans (hb.mono h.size)

set_option maxHeartbeats 400000 in
theorem l01In_any (n lo hi : Int) (w : World) :
    Calls Tryd.prog 46 #[.int .i64 n, .int .i64 lo, .int .i64 hi] w fun e w' => e = .returned (.bool (inB n lo hi)) ∧ w = w' := by
  by_cases ha : lo ≤ n
  · by_cases hb : n ≤ hi
    · go_enter Tryd.func46, Tryd.ntmps46
      go_wp2
      go_ret
      exact ⟨ret_bool (by simp [inB, ha, hb]), rfl⟩
    · go_enter Tryd.func46, Tryd.ntmps46
      go_wp2
      go_ret
      exact ⟨ret_bool (by simp [inB, hb]), rfl⟩
  · go_enter Tryd.func46, Tryd.ntmps46
    go_wp2
    go_ret
    exact ⟨ret_bool (by simp [inB]; omega), rfl⟩

theorem vecB_tt {x y : Int} (hx : inB x (-1000) 1000 = true) (hy : inB y (-1000) 1000 = true) : vecB x y = true := by
  simp [inB] at hx hy; simp [vecB]; omega
theorem vecB_tf {x y : Int} (hy : inB y (-1000) 1000 = false) : vecB x y = false := by
  simp [inB] at hy; simp [vecB]; omega
theorem vecB_f {x y : Int} (hx : inB x (-1000) 1000 = false) : vecB x y = false := by
  simp [inB] at hx; simp [vecB]; omega
theorem vecB_bd {x y : Int} (h : vecB x y = true) : (-1000 ≤ x ∧ x ≤ 1000) ∧ (-1000 ≤ y ∧ y ≤ 1000) := by
  simpa [vecB] using h
theorem inB_bd {n lo hi : Int} (h : inB n lo hi = true) : lo ≤ n ∧ n ≤ hi := by
  simpa [inB] using h

def eqB (x y x' y' : Int) : Bool := x == x' && y == y'
theorem eqB_rfl (x y : Int) : eqB x y x y = true := by simp [eqB]

end Go.Proofs.YtjocmfnjfmlgiaaDoor
