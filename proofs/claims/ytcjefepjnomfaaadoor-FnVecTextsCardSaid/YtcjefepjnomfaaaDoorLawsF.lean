/-
  The walk of the law FnExactReadVec: it returns true at every text and writes nothing that was there. Conditions: the library's table, its two errors and its constant read as they are laid.
-/
import Derived.Test.YtcjefepjnomfaaaDoorRead3
namespace Go.Proofs.YtcjefepjnomfaaaDoor
open Go.RowKit
set_option linter.unusedSimpArgs false
set_option linter.unusedVariables false

theorem rd_same {l : List UInt8} {x y x' y' : Int} {b b' : Bool} (h1 : b = true → RdYes l x y) (h2 : b = false → RdNo l ∧ x = 0 ∧ y = 0) (h3 : b' = true → RdYes l x' y') (h4 : b' = false → RdNo l ∧ x' = 0 ∧ y' = 0) : b' = b ∧ x' = x ∧ y' = y := by
  cases b <;> cases b'
  · obtain ⟨_, rfl, rfl⟩ := h2 rfl
    obtain ⟨_, rfl, rfl⟩ := h4 rfl
    exact ⟨rfl, rfl, rfl⟩
  · exact (rd_not (h3 rfl) (h2 rfl).1).elim
  · exact (rd_not (h1 rfl) (h4 rfl).1).elim
  · obtain ⟨rfl, rfl⟩ := rd_one (h1 rfl) (h3 rfl)
    exact ⟨rfl, rfl, rfl⟩

set_option maxHeartbeats 1000000 in
theorem walkReadVec (s : ByteArray) (w : World) (hsz : s.size ≤ maxLen) (hT : TabOK w) (hE : ErrsOK w) (hM : MaxOK w) :
    Calls Tryd.prog 6 #[.string s] w fun e w' => e = .returned (.bool true) ∧ Below w.heap.size w w' := by
  unfold maxLen at hsz
  by_cases hbig : 1048576 < s.size
  · have hb1 : (1048576 : Int) < (s.size : Int) := by omega
    go_enter Tryd.func6, Tryd.ntmps6
    go_wp2
    go_ret
    exact ⟨rfl, Below.refl _ _⟩
  have hs : s.size ≤ 1048576 := by omega
  have SR := Lib.hid (specRead_any s hs)
  have IR := Lib.hid (implRead_any s hs)
  clear hsz hbig
  go_enter Tryd.func6, Tryd.ntmps6
  go_wp2_with fail
  refine (SR.out _).mono ?_
  rintro e w1 ⟨x, y, b, rfl, p1, p2, hb1⟩
  have B1 : Below w.heap.size w (w1.alloc (.cells #[.int .i64 x, .int .i64 y] 25)) := hb1.alloc hb1.size _
  have P1 := Lib.hid p1
  have P2 := Lib.hid p2
  clear p1 p2 SR
  go_wp2_with fail
  refine (IR.out _ (hT.on B1) (hE.on B1) (hM.on B1)).mono ?_
  rintro e w2 ⟨x', y', b', rfl, q1, q2, hb2⟩
  obtain ⟨rfl, rfl, rfl⟩ := rd_same P1.out P2.out q1 q2
  have K2 : Kg w1.heap.size x' y' w2 := Kg.call (Kg0 w1 x' y') hb2
  have B2 : Below w.heap.size w w2 := bstep B1 hb2
  have k1 := K2.c0
  have k2 := K2.c1
  have k3 : w1.heap.size < w2.heap.size := K2.1
  have k4 : ¬ w1.heap.size = w2.heap.size := by omega
  have he1 := eqB_rfl x' y'
  have hz1 := hb1.size
  clear q1 q2 P1 P2 IR hb2 B1 hb1
  go_wp2_with fail
  refine (eqVec_any _ _ _ _ _).mono ?_
  rintro e w3 ⟨rfl, hb3⟩
  have hBs := B2.size
  go_wp2
  go_ret
  refine ⟨rfl, ?_⟩
  repeat (first | assumption | refine Below.setCell ?_ (by first | omega | (simp <;> omega)) _ | refine Below.alloc ?_ (by first | omega | (simp <;> omega)) _ | refine bstep ?_ (by assumption) | refine Below.drew ?_)

end Go.Proofs.YtcjefepjnomfaaaDoor
