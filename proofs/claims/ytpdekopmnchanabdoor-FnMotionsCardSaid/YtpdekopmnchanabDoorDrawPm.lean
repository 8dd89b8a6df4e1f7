/-
  The draw of a point matrix (the model's l04DrawMat): it returns some matrix and turns nothing that was there but the source. Condition: the code's bytes can be read.
-/
import Derived.Test.YtpdekopmnchanabDoorFrM
import Derived.Test.YtpdekopmnchanabDoorDraw
import Derived.Test.YtpdekopmnchanabDoorSl4
import Derived.Test.YtpdekopmnchanabDoorKeep2
import Derived.Deep.RegionHeld3
namespace Go.Proofs.YtpdekopmnchanabDoor
open Go.RowKit
set_option linter.unusedSimpArgs false
set_option linter.unusedVariables false

theorem KR.only4 {R p : Nat} {a b c d : Int} {W w1 : World} (h : KR R a b c d W) (hb : Only p W w1) (hp : R ≠ p) : KR R a b c d w1 :=
  ⟨Nat.lt_of_lt_of_le h.lt hb.size, by rw [hb.cell h.lt hp]; exact h.c0, by rw [hb.cell h.lt hp]; exact h.c1, by rw [hb.cell h.lt hp]; exact h.c2, by rw [hb.cell h.lt hp]; exact h.c3, by rw [hb.frozen h.lt hp]; exact h.f0, by rw [hb.frozen h.lt hp]; exact h.f1, by rw [hb.frozen h.lt hp]; exact h.f2, by rw [hb.frozen h.lt hp]; exact h.f3⟩
theorem Ko4.only {g o p : Nat} {a b c d : Int} {W w1 : World} (h : Ko4 g o a b c d W) (hb : Only p W w1) (hp : g ≠ p) : Ko4 g o a b c d w1 :=
  ⟨Nat.lt_of_lt_of_le h.1 hb.size, by rw [hb.cell (q := ⟨g, o, none⟩) h.1 hp]; exact h.2.1, by rw [hb.cell (q := ⟨g, o + 1, none⟩) h.1 hp]; exact h.2.2.1, by rw [hb.cell (q := ⟨g, o + 2, none⟩) h.1 hp]; exact h.2.2.2.1, by rw [hb.cell (q := ⟨g, o + 3, none⟩) h.1 hp]; exact h.2.2.2.2⟩
theorem mats_two {f : Int} (hf : frB f = true) : 1 < (matsL f).length ∧ (matsL f).length ≤ 81 := by
  refine ⟨?_, matsP_len f 81⟩
  rcases frB_iff.1 hf with rfl | rfl
  · exact of_decide_eq_true (by kernel_rfl)
  · exact of_decide_eq_true (by kernel_rfl)
def PmPost (p : Nat) (a0 : Option Addr) (len cap : Nat) (w : World) (e : Ending) (w' : World) : Prop :=
  ∃ a b c d : Int, e = .returned (.agg #[.int .i64 a, .int .i64 b, .int .i64 c, .int .i64 d]) ∧ Src p a0 len cap w' ∧ Only p w w'
set_option maxRecDepth 100000 in
set_option maxHeartbeats 4000000 in
theorem drawPm_any (f : Int) (p : Nat) (a0 : Option Addr) (len cap : Nat) (w : World) (h : Src p a0 len cap w) :
    Calls Tryd.prog 28 #[.pointer (some ⟨p, 0, none⟩), .int .i64 f] w (PmPost p a0 len cap w) := by
  have hp := h.lt
  have R0 : KR w.heap.size 0 0 0 0 (w.alloc (.cells #[.int .i64 0, .int .i64 0, .int .i64 0, .int .i64 0] 25)) := KR.at _ rfl
  have S0 : Src p a0 len cap (w.alloc (.cells #[.int .i64 0, .int .i64 0, .int .i64 0, .int .i64 0] 25)) := h.alloc _
  have O0 : Only p w (w.alloc (.cells #[.int .i64 0, .int .i64 0, .int .i64 0, .int .i64 0] 25)) := (Only.refl _ _).alloc _
  rcases hf : frB f with _ | _
  · go_enter Tryd.func28, Tryd.ntmps28
    go_wp2_with fail
    refine (specIsFrame_any _ _).mono ?_
    rintro e w1 ⟨rfl, rfl⟩
    rw [hf]
    go_wp2_with fail
    refine (l02Unit_any _).mono ?_
    rintro e w1 ⟨rfl, hb1⟩
    have R1 := R0.call hb1
    have S1 := S0.call hb1
    have O1 := O0.then hb1
    obtain ⟨r0, r1, r2, r3, r4, r5, r6, r7, r8⟩ := id R1
    go_wp2
    refine bodyPost_ret (v := .agg #[.int .i64 1, .int .i64 0, .int .i64 0, .int .i64 1]) (by simp [results, Tryd.results28, go_sem, *]) rfl ⟨_, _, _, _, rfl, ?_, ?_⟩
    · exact Src.put hp (Src.put hp (Src.put hp (Src.put hp S1)))
    · exact (((O1.put (Nat.le_refl _) _).put (Nat.le_refl _) _).put (Nat.le_refl _) _).put (Nat.le_refl _) _
  · obtain ⟨n1, n2⟩ := mats_two hf
    go_enter Tryd.func28, Tryd.ntmps28
    go_wp2_with fail
    refine (specIsFrame_any _ _).mono ?_
    rintro e w1 ⟨rfl, rfl⟩
    rw [hf]
    go_wp2_with fail
    refine (l04Mats_any _ _ hf).mono ?_
    rintro e w1 ⟨v, rfl, hown, hb1⟩
    have hrow := SRow.of hown (cells4_int _) (by omega)
    clear hown
    obtain ⟨_, _, h1⟩ := hrow
    obtain ⟨g, cp, rfl, hlo, hhi, row⟩ := h1.resolve_left (fun c => by omega)
    clear h1
    have R1 := R0.call hb1
    have S1 := S0.call hb1
    have O1 := O0.then hb1
    clear R0 S0 O0 hb1
    generalize hF : intAt (cells4 (matsL f)) = T at row
    generalize hN : (matsL f).length = N at n1 n2 row
    have hgw : w.heap.size < g := by simp at hlo; omega
    have hgp : g ≠ p := by omega
    clear hF hN hf
    have e0 : (0 : Int) ≤ (N : Int) := by omega
    have e1 : (N : Int) ≤ 81 := by omega
    go_wp2_with fail
    refine (next_any (N : Int) p a0 len cap _ S1).mono ?_
    rintro e w2 ⟨x, rfl, x0, x1, S2, O2⟩
    have x2 : x < (N : Int) := x1 (by omega)
    clear x1
    obtain ⟨k, rfl⟩ := Int.eq_ofNat_of_zero_le x0
    have hk : k < N := by omega
    have q := (row.ko4 (k * 4) (by omega)).only O2 hgp
    have R2 := R1.only4 O2 (by omega)
    have O3 := O1.trans O2
    clear O2 O1 R1 S1 row
    generalize T (k * 4) = a at q
    generalize T (k * 4 + 1) = b at q
    generalize T (k * 4 + 2) = c at q
    generalize T (k * 4 + 3) = d at q
    obtain ⟨q0, q1, q2, q3⟩ := q.cells
    obtain ⟨r0, r1, r2, r3, r4, r5, r6, r7, r8⟩ := id R2
    go_wp2
    refine bodyPost_ret (v := .agg #[.int .i64 a, .int .i64 b, .int .i64 c, .int .i64 d]) (by simp [results, Tryd.results28, go_sem, *]) rfl ⟨_, _, _, _, rfl, ?_, ?_⟩
    · exact Src.put hp (Src.put hp (Src.put hp (Src.put hp S2)))
    · exact (((O3.put (Nat.le_refl _) _).put (Nat.le_refl _) _).put (Nat.le_refl _) _).put (Nat.le_refl _) _

end Go.Proofs.YtpdekopmnchanabDoor
