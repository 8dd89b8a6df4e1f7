/-
  The draws of a reflection and of a matrix's text: some matrix, some short text; they turn nothing that was there. Condition: the code's bytes can be read, at most 2^47 of them.
-/
import Derived.Test.YtcjefepjnomfaaaGreatDoorDrawsM2
import Derived.Test.YtcjefepjnomfaaaGreatDoorDraws1
import Derived.Test.YtcjefepjnomfaaaGreatDoorDamage
import Derived.Test.YtcjefepjnomfaaaGreatDoorMatT2
namespace Go.Proofs.YtcjefepjnomfaaaGreatDoor
open Go.RowKit
set_option linter.unusedSimpArgs false
set_option linter.unusedVariables false

def OneMat (w : World) (e : Ending) (w' : World) : Prop := ∃ a b c d : Int, e = .returned (.agg #[.int .i64 a, .int .i64 b, .int .i64 c, .int .i64 d]) ∧ Below w.heap.size w w'
def ShortText (w : World) (e : Ending) (w' : World) : Prop := ∃ u : ByteArray, e = .returned (.string u) ∧ u.size ≤ 1001 ∧ Below w.heap.size w w'
theorem mtextD_size (a b c d : Int) : (mtextS a b c d).size ≤ 1000 := by
  cases h : matB a b c d
  · have e : mtextS a b c d = ⟨#[]⟩ := by simp [mtextS, h]
    rw [e]; exact Nat.zero_le _
  have e : mtextS a b c d = matS a b c d := by simp [mtextS, h]
  rw [e]
  obtain ⟨⟨⟨a1, a2⟩, b1, b2⟩, ⟨c1, c2⟩, d1, d2⟩ := limB_bd (matB_lim h)
  have h1 := numS_size a (by omega) (by omega)
  have h2 := numS_size b (by omega) (by omega)
  have h3 := numS_size c (by omega) (by omega)
  have h4 := numS_size d (by omega) (by omega)
  have f : ∀ n : Int, (numS n).size = (numS n).data.toList.length := fun n => Array.length_toList.symm
  rw [f] at h1 h2 h3 h4
  show (Lib.join ((matL a b c d).map (·.data.toList)) [44]).toArray.size ≤ 1000
  simp [matL, Lib.join]
  simp at h1 h2 h3 h4
  omega

set_option maxHeartbeats 4000000 in
theorem drawAxis_any (a0 : Option Addr) (len cap : Nat) (w : World) (hl : len ≤ 140737488355328) (hB : Bts a0 len w.heap.size w) :
    Calls Tryz.prog 5 #[.slice a0 len cap] w (OneMat w) := by
  go_enter Tryz.func5, Tryz.ntmps5
  go_wp2_with fail
  refine (from_at (w.heap.size + 1) a0 len cap _ (by simp) hl (hB.grow (Below.alloc (Below.refl _ _) (by first | omega | (simp <;> omega)) _) (by omega))).mono ?_
  rintro e w1 ⟨rfl, S1, H1⟩
  have B1 : Below w.heap.size w w1 := bstep (Below.alloc (Below.refl _ _) (by first | omega | (simp <;> omega)) _) H1
  have R1 : KR (w.heap.size) 0 0 0 0 w1 := KR.call (KR.at (w.heap.size) (by simp)) H1
  clear H1
  go_wp2_with fail
  refine (drawMat_any (w.heap.size + 1) a0 len cap _ (S1)).mono ?_
  rintro e w2 ⟨a, b, c, d, rfl, S2, O2⟩
  have R2 := (R1).only O2 (by omega)
  have B2 := bonly (B1) O2 (by omega)
  clear S1 O2 B1 R1
  go_wp2_with fail
  refine (next_any _ (w.heap.size + 1) a0 len cap _ (S2.alloc _)).mono ?_
  rintro e w3 ⟨x, rfl, x0, x1, S3, O3⟩
  have hp := S2.lt
  have G3 : KR w2.heap.size a b c d w3 := KR.only (KR.at _ rfl) O3 (by omega)
  have R3 := (R2.alloc _).only O3 (by omega)
  have B3 := bonly (Below.alloc B2 B2.size _) O3 (by omega)
  have hg : w.heap.size < w2.heap.size := R2.lt
  have ng : ¬ w.heap.size = w2.heap.size := by omega
  clear S2 O3 B2 R2 x1
  obtain ⟨d0, d1, d2, d3, d4, d5, d6, d7, d8⟩ := id R3
  obtain ⟨ga, gb, gc, gd, ge, gf, gg, gh, gi⟩ := id G3
  rcases hx : x == 0 with _ | _
  · go_wp2
    refine bodyPost_ret (v := .agg #[.int .i64 a, .int .i64 b, .int .i64 c, .int .i64 d]) (by simp [results, Tryz.results5, go_sem, *]) rfl ⟨_, _, _, _, rfl, ?_⟩
    exact Below.setCell (Below.setCell (Below.setCell (Below.setCell (B3) (Nat.le_refl _) _) (Nat.le_refl _) _) (Nat.le_refl _) _) (Nat.le_refl _) _
  · go_wp2_with fail
    refine (mul_some _ _ _ _ _ _ _ _ _).mono ?_
    rintro e w4 ⟨p2, q2, r2, s2, rfl, hb4⟩
    have G4 := G3.call hb4
    have R4 := R3.call hb4
    have B4 := bstep B3 hb4
    clear G3 R3 B3 hb4 d0 d1 d2 d3 d4 d5 d6 d7 d8 ga gb gc gd ge gf gg gh gi
    obtain ⟨d0, d1, d2, d3, d4, d5, d6, d7, d8⟩ := id R4
    obtain ⟨ga, gb, gc, gd, ge, gf, gg, gh, gi⟩ := id G4
    go_wp2
    refine bodyPost_ret (v := .agg #[.int .i64 p2, .int .i64 q2, .int .i64 r2, .int .i64 s2]) (by simp [results, Tryz.results5, go_sem, *]) rfl ⟨_, _, _, _, rfl, ?_⟩
    exact Below.setCell (Below.setCell (Below.setCell (Below.setCell (Below.setCell (Below.setCell (Below.setCell (Below.setCell (B4) (Nat.le_of_lt hg) _) (Nat.le_of_lt hg) _) (Nat.le_of_lt hg) _) (Nat.le_of_lt hg) _) (Nat.le_refl _) _) (Nat.le_refl _) _) (Nat.le_refl _) _) (Nat.le_refl _) _

set_option maxHeartbeats 2000000 in
theorem drawReadM_any (a0 : Option Addr) (len cap : Nat) (w : World) (hl : len ≤ 140737488355328) (hB : Bts a0 len w.heap.size w) :
    Calls Tryz.prog 10 #[.slice a0 len cap] w (ShortText w) := by
  go_enter Tryz.func10, Tryz.ntmps10
  go_wp2_with fail
  refine (from_at (w.heap.size) a0 len cap _ (by simp) hl (hB.grow (Below.refl _ _) (by omega))).mono ?_
  rintro e w1 ⟨rfl, S1, H1⟩
  have B1 : Below w.heap.size w w1 := bstep (Below.refl _ _) H1
  clear H1
  go_wp2_with fail
  refine (drawMat_any (w.heap.size) a0 len cap _ (S1)).mono ?_
  rintro e w2 ⟨a, b, c, d, rfl, S2, O2⟩
  have B2 := bonly (B1) O2 (by omega)
  clear S1 O2 B1 
  go_wp2_with fail
  refine (specMText_any _ _ _ _ _).mono ?_
  rintro e w3 ⟨rfl, hb3⟩
  have hz := mtextD_size a b c d
  have S3 := S2.call hb3
  have B3 := bstep B2 hb3
  clear S2 B2 hb3
  go_wp2_with fail
  refine (next_any _ (w.heap.size) a0 len cap _ (S3)).mono ?_
  rintro e w4 ⟨x, rfl, x0, x1, S4, O4⟩
  have B4 := bonly (B3) O4 (by omega)
  clear S3 O4 B3 
  rcases hx : x == 0 with _ | _
  · go_wp2
    go_ret
    exact ⟨_, rfl, by omega, B4⟩
  · go_wp2_with fail
    refine (damage_any _ (by omega) (w.heap.size) a0 len cap _ S4).mono ?_
    rintro e w5 ⟨u, rfl, hu, S5, O5⟩
    have B5 := bonly B4 O5 (by omega)
    go_wp2
    go_ret
    exact ⟨_, rfl, by omega, B5⟩

end Go.Proofs.YtcjefepjnomfaaaGreatDoor
