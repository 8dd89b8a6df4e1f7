/-
  The draws of a lattice and of a lattice's text: they turn nothing that was there. Condition: the code's bytes can be read, at most 2^47 of them.
-/
import Derived.Test.YtcjefepjnomfaaaDoorDrawL1
import Derived.Test.YtcjefepjnomfaaaDoorDraws3
import Derived.Test.YtcjefepjnomfaaaDoorLatT
namespace Go.Proofs.YtcjefepjnomfaaaDoor
open Go.RowKit
set_option linter.unusedSimpArgs false
set_option linter.unusedVariables false

def OneLatD (w : World) (e : Ending) (w' : World) : Prop := ∃ a b c : Int, e = .returned (.agg #[.int .i64 a, .int .i64 b, .int .i64 c]) ∧ Below w.heap.size w w'
def ShortTextL (w : World) (e : Ending) (w' : World) : Prop := ∃ u : ByteArray, e = .returned (.string u) ∧ u.size ≤ 1001 ∧ Below w.heap.size w w'
theorem ltext_size (a b c : Int) : (latText a b c).size ≤ 100 := by
  unfold latText
  rcases hv : latB a b c with _ | _
  · exact Nat.zero_le _
  · have hi := latB_iff.1 hv
    have hb := latI_bd hi
    have hz := numsS_size [a, b, c] (latI_N (latB_iff.1 hv))
    have h3 : [a, b, c].length = 3 := rfl
    show (numsS [a, b, c]).size ≤ 100
    omega
set_option maxHeartbeats 2000000 in
theorem drawCells_any (a0 : Option Addr) (len cap : Nat) (w : World) (hl : len ≤ 140737488355328) (hB : Bts a0 len w.heap.size w) :
    Calls Tryd.prog 18 #[.slice a0 len cap] w (OneLatD w) := by
  go_enter Tryd.func18, Tryd.ntmps18
  go_wp2_with fail
  refine (from_at (w.heap.size + 1) a0 len cap _ (by simp) hl (hB.grow (Below.alloc (Below.refl _ _) (Nat.le_refl _) _) (by omega))).mono ?_
  rintro e w1 ⟨rfl, S1, H1⟩
  have B1 : Below w.heap.size w w1 := bstep (Below.alloc (Below.refl _ _) (Nat.le_refl _) _) H1
  have R1 : KL w.heap.size 0 0 0 w1 := KL.call (KL.at _ rfl) H1
  clear H1
  go_wp2_with fail
  refine (drawLat_any (w.heap.size + 1) a0 len cap _ S1).mono ?_
  rintro e w2 ⟨a, b, c, rfl, S2, O2⟩
  have R2 := R1.only O2 (by omega)
  have B2 := bonly B1 O2 (by omega)
  clear S1 O2 B1 R1
  obtain ⟨d0, d1, d2, d3, d4, d5, d6⟩ := id R2
  go_wp2
  refine bodyPost_ret (v := .agg #[.int .i64 a, .int .i64 b, .int .i64 c]) (by simp [results, Tryd.results18, go_sem, *]) rfl ⟨_, _, _, rfl, ?_⟩
  exact Below.setCell (Below.setCell (Below.setCell B2 (Nat.le_refl _) _) (Nat.le_refl _) _) (Nat.le_refl _) _
set_option maxHeartbeats 2000000 in
theorem drawReadL_any (a0 : Option Addr) (len cap : Nat) (w : World) (hl : len ≤ 140737488355328) (hB : Bts a0 len w.heap.size w) :
    Calls Tryd.prog 23 #[.slice a0 len cap] w (ShortTextL w) := by
  go_enter Tryd.func23, Tryd.ntmps23
  go_wp2_with fail
  refine (from_at (w.heap.size) a0 len cap _ (by simp) hl (hB.grow (Below.refl _ _) (by omega))).mono ?_
  rintro e w1 ⟨rfl, S1, H1⟩
  have B1 : Below w.heap.size w w1 := bstep (Below.refl _ _) H1
  clear H1
  go_wp2_with fail
  refine (drawLat_any (w.heap.size) a0 len cap _ (S1)).mono ?_
  rintro e w2 ⟨a, b, c, rfl, S2, O2⟩
  have B2 := bonly (B1) O2 (by omega)
  clear S1 O2 B1
  go_wp2_with fail
  refine (specLText_any _ _ _ _).mono ?_
  rintro e w3 ⟨rfl, hb3⟩
  have hz := ltext_size a b c
  have S3 := S2.call hb3
  have B3 := bstep B2 hb3
  clear S2 B2 hb3
  go_wp2_with fail
  refine (next_any _ (w.heap.size) a0 len cap _ (S3)).mono ?_
  rintro e w4 ⟨x, rfl, x0, x1, S4, O4⟩
  have B4 := bonly (B3) O4 (by omega)
  clear S3 O4 B3
  rcases hx : x == 0 with _ | _
  · go_wp2
    go_ret
    exact ⟨_, rfl, by omega, B4⟩
  · go_wp2_with fail
    refine (damage_any _ (by omega) (w.heap.size) a0 len cap _ S4).mono ?_
    rintro e w5 ⟨u, rfl, hu, S5, O5⟩
    have B5 := bonly B4 O5 (by omega)
    go_wp2
    go_ret
    exact ⟨_, rfl, by omega, B5⟩

end Go.Proofs.YtcjefepjnomfaaaDoor
