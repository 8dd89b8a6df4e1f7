/-
  The contract of the program's ReadMat: it answers a valid matrix exactly if the text has its numerals. Conditions: the text has at most 2^20 bytes; the library's variables read as their initialisers lay them.
-/
import Derived.Test.YtpdekopmnchanabGreatDoorMatR3
namespace Go.Proofs.YtpdekopmnchanabGreatDoor
open Go.RowKit
set_option linter.unusedSimpArgs false
set_option linter.unusedVariables false

def MYes (l : List UInt8) (a b c d : Int) : Prop := matB a b c d = true ∧ SplitOf l (four a b c d)
def MNo (l : List UInt8) : Prop := ∀ a b c d, matB a b c d = true → ¬ SplitOf l (four a b c d)
def MPost (l : List UInt8) (w : World) (e : Ending) (w' : World) : Prop :=
  ∃ (a b c d : Int) (ok : Bool), e = .returned (.tuple #[.agg #[.int .i64 a, .int .i64 b, .int .i64 c, .int .i64 d], .bool ok]) ∧ (ok = true → MYes l a b c d) ∧ (ok = false → MNo l ∧ a = 0 ∧ b = 0 ∧ c = 0 ∧ d = 0) ∧ Below w.heap.size w w'
theorem four_inj {a b c d a' b' c' d' : Int} (h : four a b c d = four a' b' c' d') : a = a' ∧ b = b' ∧ c = c' ∧ d = d' := by
  simp only [four, List.cons.injEq, and_true] at h
  exact ⟨itoa_injg h.1, itoa_injg h.2.1, itoa_injg h.2.2.1, itoa_injg h.2.2.2⟩
theorem mno_of_rno {l : List UInt8} (h : RNo l) : MNo l := fun a b c d hm => h a b c d (matB_lim hm)
theorem mno_of_bad {l : List UInt8} {a b c d : Int} (h : SplitOf l (four a b c d)) (hm : matB a b c d = false) : MNo l := by
  intro a' b' c' d' hm' h'
  obtain ⟨rfl, rfl, rfl, rfl⟩ := four_inj (split_one h h')
  rw [hm] at hm'; cases hm'
theorem m_same {l : List UInt8} {a b c d a' b' c' d' : Int} {o o' : Bool} (h1 : o = true → MYes l a b c d) (h2 : o = false → MNo l ∧ a = 0 ∧ b = 0 ∧ c = 0 ∧ d = 0) (h3 : o' = true → MYes l a' b' c' d') (h4 : o' = false → MNo l ∧ a' = 0 ∧ b' = 0 ∧ c' = 0 ∧ d' = 0) : o' = o ∧ a' = a ∧ b' = b ∧ c' = c ∧ d' = d := by
  cases o <;> cases o'
  · obtain ⟨_, rfl, rfl, rfl, rfl⟩ := h2 rfl
    obtain ⟨_, rfl, rfl, rfl, rfl⟩ := h4 rfl
    exact ⟨rfl, rfl, rfl, rfl, rfl⟩
  · exact absurd (h3 rfl).2 ((h2 rfl).1 _ _ _ _ (h3 rfl).1)
  · exact absurd (h1 rfl).2 ((h4 rfl).1 _ _ _ _ (h1 rfl).1)
  · obtain ⟨e1, e2, e3, e4⟩ := four_inj (split_one (h1 rfl).2 (h3 rfl).2)
    exact ⟨rfl, e1.symm, e2.symm, e3.symm, e4.symm⟩

set_option maxHeartbeats 2000000 in
theorem implReadM_any (s : ByteArray) (hs : s.size ≤ 1048576) (w : World) (hT : TabOK w) (hE : ErrsOK w) (hM : MaxOK w) :
    Calls Tryz.prog 26 #[.string s] w (MPost s.data.toList w) := by
  go_enter Tryz.func26, Tryz.ntmps26
  go_wp2_with fail
  have B0 : Below w.heap.size w (w.alloc (.cells #[.int .i64 0, .int .i64 0, .int .i64 0, .int .i64 0] 25)) := Below.alloc (Below.refl _ _) (Nat.le_refl _) _
  refine (readM_any s hs _ (hT.on B0) (hE.on B0) (hM.on B0)).mono ?_
  rintro e w1 ⟨a, b, c, d, ok, rfl, hy, hn, hb1⟩
  have R1 : KR w.heap.size 0 0 0 0 w1 := KR.call (KR.at _ rfl) hb1
  have B1 := bstep B0 hb1
  clear B0 hb1
  cases ok
  · obtain ⟨h1, rfl, rfl, rfl, rfl⟩ := hn rfl
    have HN := Lib.hid (mno_of_rno h1)
    clear hy hn h1
    obtain ⟨r0, r1, r2, r3, r4, r5, r6, r7, r8⟩ := id R1
    go_wp2
    refine bodyPost_ret (v := .tuple #[.agg #[.int .i64 0, .int .i64 0, .int .i64 0, .int .i64 0], .bool false]) (by simp [results, Tryz.results26, go_sem, r0, r1, r2, r3, r4]) rfl ⟨0, 0, 0, 0, false, rfl, (fun h => by cases h), fun _ => ⟨HN.out, rfl, rfl, rfl, rfl⟩, ?_⟩
    repeat (first | exact B1 | exact Below.refl _ _ | refine Below.setCell ?_ (by first | omega | (simp <;> omega)) _ | refine Below.alloc ?_ (by first | omega | (simp <;> omega)) _ | refine bstep ?_ (by assumption) | refine Below.drew ?_)
  · have HY := Lib.hid (hy rfl)
    clear hy hn
    have Q1 : Kq w1.heap.size a b c d (w1.alloc (.cells #[.int .i64 a, .int .i64 b, .int .i64 c, .int .i64 d] 42)) := Kq.at _ rfl
    have R1a := R1.alloc (.cells #[.int .i64 a, .int .i64 b, .int .i64 c, .int .i64 d] 42)
    go_wp2_with fail
    refine (isValidM_any _ _ _ _ _).mono ?_
    rintro e w2 ⟨rfl, hb2⟩
    have Q2 := Q1.call hb2
    have R2 := R1a.call hb2
    have B2 := bstep (Below.alloc B1 B1.size _) hb2
    clear Q1 R1a R1 hb2
    obtain ⟨q0, q1, q2, q3, q4⟩ := id Q2
    obtain ⟨r0, r1, r2, r3, r4, r5, r6, r7, r8⟩ := id R2
    rcases hm : matB a b c d with _ | _
    · have HN := Lib.hid (mno_of_bad HY.out hm)
      go_wp2
      refine bodyPost_ret (v := .tuple #[.agg #[.int .i64 0, .int .i64 0, .int .i64 0, .int .i64 0], .bool false]) (by simp [results, Tryz.results26, go_sem, r0, r1, r2, r3, r4]) rfl ⟨0, 0, 0, 0, false, rfl, (fun h => by cases h), fun _ => ⟨HN.out, rfl, rfl, rfl, rfl⟩, ?_⟩
      exact Below.setCell (Below.setCell (Below.setCell (Below.setCell B2 (Nat.le_refl _) _) (Nat.le_refl _) _) (Nat.le_refl _) _) (Nat.le_refl _) _
    · have HM := Lib.hid hm
      go_wp2_with fail
      refine (mat_any _ _ _ _ _).mono ?_
      rintro e w3 ⟨rfl, hb3⟩
      have R3 := R2.call hb3
      have B3 := bstep B2 hb3
      clear r0 r1 r2 r3 r4 r5 r6 r7 r8 q0 q1 q2 q3 q4
      obtain ⟨r0, r1, r2, r3, r4, r5, r6, r7, r8⟩ := id R3
      go_wp2
      refine bodyPost_ret (v := .tuple #[.agg #[.int .i64 a, .int .i64 b, .int .i64 c, .int .i64 d], .bool true]) (by simp [results, Tryz.results26, go_sem, r0, r1, r2, r3, r4]) rfl ⟨a, b, c, d, true, rfl, (fun _ => ⟨HM.out, HY.out⟩), (fun h => by cases h), ?_⟩
      exact Below.setCell (Below.setCell (Below.setCell (Below.setCell B3 (Nat.le_refl _) _) (Nat.le_refl _) _) (Nat.le_refl _) _) (Nat.le_refl _) _

end Go.Proofs.YtpdekopmnchanabGreatDoor
