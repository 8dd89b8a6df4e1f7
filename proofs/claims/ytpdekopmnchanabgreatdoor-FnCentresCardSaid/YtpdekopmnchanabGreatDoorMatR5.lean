/-
  The contract of the model's ReadMat, and the walk of the law FnExactReadMat: it returns true at every text. Conditions: the text has at most 2^20 bytes where the functions are called; the library's variables read as their initialisers lay them.
-/
import Derived.Test.YtpdekopmnchanabGreatDoorMatR4
import Derived.Test.YtpdekopmnchanabGreatDoorSplit
import Derived.Test.YtpdekopmnchanabGreatDoorNumbers
import Derived.Deep.RegionHeld3
import Derived.BigQuiet
import Derived.Deep.QuietTactic
import Derived.WalkSmall
namespace Go.Proofs.YtpdekopmnchanabGreatDoor
open Go.RowKit
set_option linter.unusedSimpArgs false
set_option linter.unusedVariables false

theorem ints_four {ns : List Int} (h : ns.length = 4) : ∃ a b c d, ns = [a, b, c, d] := by
  match ns, h with
  | [a, b, c, d], _ => exact ⟨a, b, c, d, rfl⟩
theorem splitM_ne {l : List UInt8} {ws : List (List UInt8)} (h : SplitOf l ws) : ws.length ≠ 0 := by
  intro h0
  have : ws = [] := List.eq_nil_of_length_eq_zero h0
  subst this
  have := h.1
  simp [joinC] at this
theorem rno_any {l : List UInt8} {ws : List (List UInt8)} (h : SplitOf l ws) (hx : ∃ x ∈ ws, NumNo x) : RNo l := by
  intro a b c d hl h'
  obtain ⟨⟨ha, hb⟩, hc, hd⟩ := limB_bd hl
  obtain ⟨x, hxm, hn⟩ := hx
  rw [split_one h h'] at hxm
  simp only [four, List.mem_cons, List.not_mem_nil, or_false] at hxm
  rcases hxm with rfl | rfl | rfl | rfl
  · exact hn a ha.1 ha.2 rfl
  · exact hn b hb.1 hb.2 rfl
  · exact hn c hc.1 hc.2 rfl
  · exact hn d hd.1 hd.2 rfl
theorem nums_four {l : List UInt8} {ws : List (List UInt8)} {a b c d : Int} (h : SplitOf l ws) (hw : ws.length = 4) (hn : NumsK ws [a, b, c, d] ws.length) : SplitOf l (four a b c d) := by
  match ws, hw, h, hn with
  | [x0, x1, x2, x3], _, h, hn =>
    have e0 : Lib.itoa a = x0 := hn.2 0 (by simp) (by simp)
    have e1 : Lib.itoa b = x1 := hn.2 1 (by simp) (by simp)
    have e2 : Lib.itoa c = x2 := hn.2 2 (by simp) (by simp)
    have e3 : Lib.itoa d = x3 := hn.2 3 (by simp) (by simp)
    unfold four
    rw [e0, e1, e2, e3]
    exact h

set_option maxHeartbeats 2000000 in
theorem specReadM_any (s : ByteArray) (hs : s.size ≤ 1048576) (w : World) :
    Calls Tryz.prog 31 #[.string s] w (MPost s.data.toList w) := by
  have HZ := Lib.hid (show s.data.toList.length = s.size from Array.length_toList)
  have hA : Below w.heap.size w (w.alloc (.cells #[.int .i64 0, .int .i64 0, .int .i64 0, .int .i64 0] 25)) := (Below.refl _ _).alloc (Nat.le_refl _) _
  have SP := Lib.hid (split_any s hs)
  go_enter Tryz.func31, Tryz.ntmps31
  go_wp2_with fail
  refine (SP.out _).mono ?_
  rintro e w1 ⟨v, ws, rfl, hsp, hwl, hown, hb1⟩
  have R1 : KR w.heap.size 0 0 0 0 w1 := KR.call (KR.at _ rfl) hb1
  have B1 : Below w.heap.size w w1 := bstep hA hb1
  have HSP := Lib.hid hsp
  have hwz : ws.length ≤ 1048577 := by rw [HZ.out] at hwl; omega
  have HWX : Hid (∀ x ∈ ws, x.length ≤ 1048576) := fun x hx => Nat.le_trans (word_le hsp x hx) (by rw [HZ.out]; exact hs)
  obtain ⟨g, cap, rfl⟩ := own_form hown (splitM_ne hsp)
  obtain ⟨hg0, hg1, hgc⟩ := own_cell hown
  have HGC : Hid (∀ (i : Nat) (hi : i < ws.length), w1.cell? ⟨g, i, none⟩ = some (strV ws[i])) := fun i hi => by
    have := hgc i (by simpa using hi)
    simpa using this
  clear hsp hwl hown hb1 hgc SP
  go_wp2_with fail
  refine (numbers_any ws g cap w1 hg1 hwz HWX.out HGC.out).mono ?_
  rintro e w2 ⟨v2, b2, ns, rfl, y, z, hb2⟩
  have R2 := R1.call hb2
  have B2 : Below w.heap.size w w2 := bstep B1 hb2
  have r6 : w.heap.size < w1.heap.size := R1.lt
  clear R1 B1 hb2 HGC HWX hg0 hg1
  obtain ⟨r0, r1, r2, r3, r4, r5, r8, r9, r10⟩ := id R2
  cases b2
  · obtain ⟨rfl, hx⟩ := z rfl
    have HN := Lib.hid (mno_of_rno (rno_any HSP.out hx))
    clear y z hx
    go_wp2
    refine bodyPost_ret (v := .tuple #[.agg #[.int .i64 0, .int .i64 0, .int .i64 0, .int .i64 0], .bool false]) (by simp [results, Tryz.results31, go_sem, r0, r1, r2, r3, r4]) rfl ⟨0, 0, 0, 0, false, rfl, (fun h => by cases h), fun _ => ⟨HN.out, rfl, rfl, rfl, rfl⟩, ?_⟩
    repeat (first | exact B2 | refine Below.setCell ?_ (by first | exact Nat.le_refl _ | omega | (simp <;> omega)) _ | refine Below.drew ?_ | refine below_drewN ?_ _ | refine Below.alloc ?_ (by first | omega | (simp <;> omega)) _ | refine bstep ?_ (by assumption))
  · obtain ⟨hN, hown⟩ := y rfl
    have HNS := Lib.hid hN
    have hnl : ns.length = ws.length := hN.1
    clear y z hN
    obtain ⟨g2, cap2, rfl⟩ := own_form hown (by rw [hnl]; exact splitM_ne HSP.out)
    obtain ⟨k0, k1, hkc⟩ := own_cell hown
    have hgne : w.heap.size < g2 := by omega
    by_cases h4 : ns.length = 4
    · obtain ⟨n0, n1, n2, n3, rfl⟩ := ints_four h4
      have c0 : w2.cell? ⟨g2, 0, none⟩ = some (.int .i64 n0) := hkc 0 (by simp)
      have c1 : w2.cell? ⟨g2, 1, none⟩ = some (.int .i64 n1) := hkc 1 (by simp)
      have c2 : w2.cell? ⟨g2, 2, none⟩ = some (.int .i64 n2) := hkc 2 (by simp)
      have c3 : w2.cell? ⟨g2, 3, none⟩ = some (.int .i64 n3) := hkc 3 (by simp)
      have HF := Lib.hid (nums_four HSP.out (by omega) HNS.out)
      have KG : Kq g2 n0 n1 n2 n3 w2 := ⟨k1, c0, c1, c2, c3⟩
      clear hkc hown h4 hnl HNS HSP
      go_wp2_with fail
      go_region_held3 (fun W => W.cell? ⟨g2, 0, none⟩ = some (.int .i64 n0) ∧ W.cell? ⟨g2, 1, none⟩ = some (.int .i64 n1) ∧ W.cell? ⟨g2, 2, none⟩ = some (.int .i64 n2) ∧ W.cell? ⟨g2, 3, none⟩ = some (.int .i64 n3)) ((refine Kq.cells ?_; repeat (first | assumption | with_reducible refine Kq.alloc ?_ _ | with_reducible refine Kq.drew ?_ | with_reducible refine Kq.call ?_ (by assumption) | ((with_reducible refine Kq.put ?_ ?_); (first | assumption | omega))))) (fail)
      go_wp2_with fail
      refine (specIsMat_any _ _ _ _ _).mono ?_
      rintro e w3 ⟨rfl, hb3⟩
      have Q3 : Kq w2.heap.size n0 n1 n2 n3 w3 := Kq.call (Kq.at (w := w2) (T := 25) w2.heap.size rfl).drew hb3
      have R3 := ((R2.alloc (.cells #[.int .i64 n0, .int .i64 n1, .int .i64 n2, .int .i64 n3] 25)).drew).call hb3
      have B3 := bstep (Below.drew (Below.alloc B2 B2.size (.cells #[.int .i64 n0, .int .i64 n1, .int .i64 n2, .int .i64 n3] 25))) hb3
      clear R2 B2 hb3 KG c0 c1 c2 c3 r0 r1 r2 r3 r4 r5 r8 r9 r10
      obtain ⟨r0, r1, r2, r3, r4, r5, r8, r9, r10⟩ := id R3
      obtain ⟨q0, q1, q2, q3, q4⟩ := id Q3
      rcases hm : matB n0 n1 n2 n3 with _ | _
      · have HN := Lib.hid (mno_of_bad HF.out hm)
        go_wp2
        refine bodyPost_ret (v := .tuple #[.agg #[.int .i64 0, .int .i64 0, .int .i64 0, .int .i64 0], .bool false]) (by simp [results, Tryz.results31, go_sem, r0, r1, r2, r3, r4]) rfl ⟨0, 0, 0, 0, false, rfl, (fun h => by cases h), fun _ => ⟨HN.out, rfl, rfl, rfl, rfl⟩, ?_⟩
        repeat (first | exact B3 | refine Below.setCell ?_ (by first | exact Nat.le_refl _ | omega | (simp <;> omega)) _ | refine Below.drew ?_ | refine below_drewN ?_ _ | refine Below.alloc ?_ (by first | omega | (simp <;> omega)) _ | refine bstep ?_ (by assumption))
      · have HM := Lib.hid hm
        go_wp2
        refine bodyPost_ret (v := .tuple #[.agg #[.int .i64 n0, .int .i64 n1, .int .i64 n2, .int .i64 n3], .bool true]) (by simp [results, Tryz.results31, go_sem, r0, r1, r2, r3, r4]) rfl ⟨n0, n1, n2, n3, true, rfl, (fun _ => ⟨HM.out, HF.out⟩), (fun h => by cases h), ?_⟩
        exact Below.setCell (Below.setCell (Below.setCell (Below.setCell B3 (Nat.le_refl _) _) (Nat.le_refl _) _) (Nat.le_refl _) _) (Nat.le_refl _) _
    · have HN := Lib.hid (mno_of_rno (rno_len HSP.out (by omega)))
      have h4b : ((ns.length : Int) != 4) = true := by simp; omega
      clear hkc hown h4 hnl HNS HSP
      go_wp2
      refine bodyPost_ret (v := .tuple #[.agg #[.int .i64 0, .int .i64 0, .int .i64 0, .int .i64 0], .bool false]) (by simp [results, Tryz.results31, go_sem, r0, r1, r2, r3, r4]) rfl ⟨0, 0, 0, 0, false, rfl, (fun h => by cases h), fun _ => ⟨HN.out, rfl, rfl, rfl, rfl⟩, ?_⟩
      repeat (first | exact B2 | refine Below.setCell ?_ (by first | exact Nat.le_refl _ | omega | (simp <;> omega)) _ | refine Below.drew ?_ | refine below_drewN ?_ _ | refine Below.alloc ?_ (by first | omega | (simp <;> omega)) _ | refine bstep ?_ (by assumption))

end Go.Proofs.YtpdekopmnchanabGreatDoor
