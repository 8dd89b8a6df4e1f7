/-
  The walk of the program's readMatrix: it answers four numbers exactly if the text has their numerals, joined by commas. Conditions: the text has at most 2^20 bytes; the library's variables read as their initialisers lay them.
-/
import Derived.Test.YtcphadkgmchnfaaGreatDoorMatR2
namespace Go.Proofs.YtcphadkgmchnfaaGreatDoor
open Go.RowKit
set_option linter.unusedSimpArgs false
set_option linter.unusedVariables false

def RdRel (w : World) (g : Nat) (x0 x1 x2 x3 : ByteArray) (i : Value) (W : World) : Prop :=
  ∃ (k : Nat) (j p0 p1 p2 p3 : Int), i = .int .i64 j ∧ j = k ∧ k ≤ 4 ∧ KR (w.heap.size + 1) p0 p1 p2 p3 W ∧ KR w.heap.size 0 0 0 0 W ∧ Ks g x0 x1 x2 x3 W ∧
    (0 < k → NumYes x0.data.toList p0) ∧ (1 < k → NumYes x1.data.toList p1) ∧ (2 < k → NumYes x2.data.toList p2) ∧ (3 < k → NumYes x3.data.toList p3) ∧ Below w.heap.size w W
theorem list_four {xs : List ByteArray} (h : xs.length = 4) : ∃ a b c d, xs = [a, b, c, d] := by
  match xs, h with
  | [a, b, c, d], _ => exact ⟨a, b, c, d, rfl⟩

set_option maxHeartbeats 4000000 in
theorem readM_any (s : ByteArray) (hs : s.size ≤ 1048576) (w : World) (hT : TabOK w) (hE : ErrsOK w) (hM : MaxOK w) :
    Calls Tryz.prog 29 #[.string s] w (RmPost s.data.toList w) := by
  have hW := split_words _ s rfl
  have hlen := Lib.splitB_all ⟨#[44]⟩ (by decide) 0 _ s rfl
  have hle := word_le hW
  have hls : s.data.toList.length = s.size := Array.length_toList
  have hcl : Lib.countB s ⟨#[44]⟩ ≤ s.size := Lib.countB_le ⟨#[44]⟩ (by decide) s.size s (Nat.le_refl _)
  have B0 : Below w.heap.size w ((w.alloc (.cells #[.int .i64 0, .int .i64 0, .int .i64 0, .int .i64 0] 45)).alloc (.cells #[.int .i64 0, .int .i64 0, .int .i64 0, .int .i64 0] 45)) := Below.alloc (Below.alloc (Below.refl _ _) (Nat.le_refl _) _) (by simp) _
  obtain ⟨m, hm⟩ := hM.on B0
  have HW := Lib.hid hW
  have HLE := Lib.hid hle
  have HLS := Lib.hid hls
  have HLEN := Lib.hid hlen
  clear hW hle hls hlen
  go_enter Tryz.func29, Tryz.ntmps29
  go_wp2_with fail
  refine (Any.strings_Split { Tryz.laysM146 with } Tryz.laysM146.i9 s ⟨#[44]⟩ m _ (by omega) hm (by decide)).mono ?_
  rintro e w1 ⟨rfl, rfl⟩
  clear hm
  generalize Lib.countB s ⟨#[44]⟩ = n at HW HLE HLEN hcl ⊢
  generalize Lib.splitB ⟨#[44]⟩ 0 n s = xs at HW HLE HLEN ⊢
  by_cases h4 : n = 3
  · subst h4
    clear hcl
    obtain ⟨x0, x1, x2, x3, rfl⟩ := list_four HLEN.out
    clear HLEN
    have hz : x0.size ≤ 1048576 ∧ x1.size ≤ 1048576 ∧ x2.size ≤ 1048576 ∧ x3.size ≤ 1048576 := by
      have e := HLS.out
      have f : ∀ x : ByteArray, x.data.toList ∈ [x0, x1, x2, x3].map (·.data.toList) → x.size ≤ 1048576 := fun x hx => by
        have := HLE.out _ hx
        have hl : x.data.toList.length = x.size := Array.length_toList
        omega
      exact ⟨f x0 (by simp), f x1 (by simp), f x2 (by simp), f x3 (by simp)⟩
    obtain ⟨z0, z1, z2, z3⟩ := hz
    clear HLE HLS
    have K1 : Ks (w.heap.size + 1 + 1) x0 x1 x2 x3 (((w.alloc (.cells #[.int .i64 0, .int .i64 0, .int .i64 0, .int .i64 0] 45)).alloc (.cells #[.int .i64 0, .int .i64 0, .int .i64 0, .int .i64 0] 45)).alloc (.cells (List.map Value.string [x0, x1, x2, x3]).toArray (Tryz.laysM146_ren.t 9))) := ⟨by simp, by simp [go_sem], by simp [go_sem], by simp [go_sem], by simp [go_sem]⟩
    have M1 : KR (w.heap.size + 1) 0 0 0 0 (((w.alloc (.cells #[.int .i64 0, .int .i64 0, .int .i64 0, .int .i64 0] 45)).alloc (.cells #[.int .i64 0, .int .i64 0, .int .i64 0, .int .i64 0] 45)).alloc (.cells (List.map Value.string [x0, x1, x2, x3]).toArray (Tryz.laysM146_ren.t 9))) := KR.alloc (KR.at _ (by simp)) _
    have R1 : KR w.heap.size 0 0 0 0 (((w.alloc (.cells #[.int .i64 0, .int .i64 0, .int .i64 0, .int .i64 0] 45)).alloc (.cells #[.int .i64 0, .int .i64 0, .int .i64 0, .int .i64 0] 45)).alloc (.cells (List.map Value.string [x0, x1, x2, x3]).toArray (Tryz.laysM146_ren.t 9))) := KR.alloc (KR.alloc (KR.at _ rfl) _) _
    have B1 : Below w.heap.size w (((w.alloc (.cells #[.int .i64 0, .int .i64 0, .int .i64 0, .int .i64 0] 45)).alloc (.cells #[.int .i64 0, .int .i64 0, .int .i64 0, .int .i64 0] 45)).alloc (.cells (List.map Value.string [x0, x1, x2, x3]).toArray (Tryz.laysM146_ren.t 9))) := Below.alloc B0 (by simp; omega) _
    rw [show ((w.alloc (.cells #[.int .i64 0, .int .i64 0, .int .i64 0, .int .i64 0] 45)).alloc (.cells #[.int .i64 0, .int .i64 0, .int .i64 0, .int .i64 0] 45)).heap.size = w.heap.size + 1 + 1 by simp]
    generalize (((w.alloc (.cells #[.int .i64 0, .int .i64 0, .int .i64 0, .int .i64 0] 45)).alloc (.cells #[.int .i64 0, .int .i64 0, .int .i64 0, .int .i64 0] 45)).alloc (.cells (List.map Value.string [x0, x1, x2, x3]).toArray (Tryz.laysM146_ren.t 9))) = w1 at K1 M1 R1 B1 ⊢
    clear B0 hM
    go_wp2_with fail
    go_loopw [18] (fun i W => RdRel w (w.heap.size + 1 + 1) x0 x1 x2 x3 i W) (fun i _ => (4 - intOf i).toNat)
    case atStart => exact ⟨0, 0, 0, 0, 0, 0, rfl, rfl, by omega, M1, R1, K1, fun h => by omega, fun h => by omega, fun h => by omega, fun h => by omega, B1⟩
    case round =>
      clear K1 M1 R1 B1
      obtain ⟨k, j, p0, p1, p2, p3, rfl, hj, hk, hM, hR, hK, y0, y1, y2, y3, hB⟩ := hrel
      obtain ⟨_, s0, s1, s2, s3⟩ := id hK
      obtain rfl | rfl | rfl | rfl | rfl : k = 0 ∨ k = 1 ∨ k = 2 ∨ k = 3 ∨ k = 4 := by omega
      · obtain rfl : j = 0 := by omega
        have Y0 := Lib.hid y0
        have Y1 := Lib.hid y1
        have Y2 := Lib.hid y2
        have Y3 := Lib.hid y3
        clear hj hk y0 y1 y2 y3
        obtain ⟨m0, m1, m2, m3, m4, m5, m6, m7, m8⟩ := id hM
        go_wp2_with fail
        refine (readNumber_any x0 z0 _ (hT.on hB) (hE.on hB)).mono ?_
        rintro e w2 ⟨n, b, rfl, hy, hn, hb2⟩
        have M2 := hM.call hb2
        have R2 := hR.call hb2
        have K2 := hK.call hb2
        have B2 := bstep hB hb2
        clear hM hR hK hB hb2 s0 s1 s2 s3 m0 m1 m2 m3 m4 m5 m6 m7 m8
        obtain ⟨m0, m1, m2, m3, m4, m5, m6, m7, m8⟩ := id M2
        obtain ⟨r0, r1, r2, r3, r4, r5, r6, r7, r8⟩ := id R2
        cases b
        · have HN := Lib.hid (rno_word HW.out (.inl (hn rfl)))
          clear hy hn
          go_wp2
          refine bodyPost_ret (v := .tuple #[.agg #[.int .i64 0, .int .i64 0, .int .i64 0, .int .i64 0], .bool false]) (by simp [results, Tryz.results29, go_sem, r0, r1, r2, r3, r4]) rfl ⟨0, 0, 0, 0, false, rfl, (fun h => by cases h), fun _ => ⟨HN.out, rfl, rfl, rfl, rfl⟩, ?_⟩
          exact Below.setCell (Below.setCell (Below.setCell (Below.setCell B2 (Nat.le_refl _) _) (Nat.le_refl _) _) (Nat.le_refl _) _) (Nat.le_refl _) _
        · have HY := Lib.hid (hy rfl)
          clear hy hn
          go_wp2
          go_roundw
          case rel => exact ⟨1, 1, n, p1, p2, p3, rfl, rfl, by omega, KR.set0 M2 n, KR.put (Nat.lt_succ_self _) R2, Ks.far (by show w.heap.size + 1 ≠ w.heap.size + 1 + 1; omega) K2, fun _ => HY.out, fun h => by omega, fun h => by omega, fun h => by omega, Below.setCell B2 (Nat.le_succ _) _⟩
          case measure => simp [intOf]
      · obtain rfl : j = 1 := by omega
        have Y0 := Lib.hid y0
        have Y1 := Lib.hid y1
        have Y2 := Lib.hid y2
        have Y3 := Lib.hid y3
        clear hj hk y0 y1 y2 y3
        obtain ⟨m0, m1, m2, m3, m4, m5, m6, m7, m8⟩ := id hM
        go_wp2_with fail
        refine (readNumber_any x1 z1 _ (hT.on hB) (hE.on hB)).mono ?_
        rintro e w2 ⟨n, b, rfl, hy, hn, hb2⟩
        have M2 := hM.call hb2
        have R2 := hR.call hb2
        have K2 := hK.call hb2
        have B2 := bstep hB hb2
        clear hM hR hK hB hb2 s0 s1 s2 s3 m0 m1 m2 m3 m4 m5 m6 m7 m8
        obtain ⟨m0, m1, m2, m3, m4, m5, m6, m7, m8⟩ := id M2
        obtain ⟨r0, r1, r2, r3, r4, r5, r6, r7, r8⟩ := id R2
        cases b
        · have HN := Lib.hid (rno_word HW.out (.inr (.inl (hn rfl))))
          clear hy hn
          go_wp2
          refine bodyPost_ret (v := .tuple #[.agg #[.int .i64 0, .int .i64 0, .int .i64 0, .int .i64 0], .bool false]) (by simp [results, Tryz.results29, go_sem, r0, r1, r2, r3, r4]) rfl ⟨0, 0, 0, 0, false, rfl, (fun h => by cases h), fun _ => ⟨HN.out, rfl, rfl, rfl, rfl⟩, ?_⟩
          exact Below.setCell (Below.setCell (Below.setCell (Below.setCell B2 (Nat.le_refl _) _) (Nat.le_refl _) _) (Nat.le_refl _) _) (Nat.le_refl _) _
        · have HY := Lib.hid (hy rfl)
          clear hy hn
          go_wp2
          go_roundw
          case rel => exact ⟨2, 2, p0, n, p2, p3, rfl, rfl, by omega, KR.set1 M2 n, KR.put (Nat.lt_succ_self _) R2, Ks.far (by show w.heap.size + 1 ≠ w.heap.size + 1 + 1; omega) K2, fun _ => Y0.out (by omega), fun _ => HY.out, fun h => by omega, fun h => by omega, Below.setCell B2 (Nat.le_succ _) _⟩
          case measure => simp [intOf]
      · obtain rfl : j = 2 := by omega
        have Y0 := Lib.hid y0
        have Y1 := Lib.hid y1
        have Y2 := Lib.hid y2
        have Y3 := Lib.hid y3
        clear hj hk y0 y1 y2 y3
        obtain ⟨m0, m1, m2, m3, m4, m5, m6, m7, m8⟩ := id hM
        go_wp2_with fail
        refine (readNumber_any x2 z2 _ (hT.on hB) (hE.on hB)).mono ?_
        rintro e w2 ⟨n, b, rfl, hy, hn, hb2⟩
        have M2 := hM.call hb2
        have R2 := hR.call hb2
        have K2 := hK.call hb2
        have B2 := bstep hB hb2
        clear hM hR hK hB hb2 s0 s1 s2 s3 m0 m1 m2 m3 m4 m5 m6 m7 m8
        obtain ⟨m0, m1, m2, m3, m4, m5, m6, m7, m8⟩ := id M2
        obtain ⟨r0, r1, r2, r3, r4, r5, r6, r7, r8⟩ := id R2
        cases b
        · have HN := Lib.hid (rno_word HW.out (.inr (.inr (.inl (hn rfl)))))
          clear hy hn
          go_wp2
          refine bodyPost_ret (v := .tuple #[.agg #[.int .i64 0, .int .i64 0, .int .i64 0, .int .i64 0], .bool false]) (by simp [results, Tryz.results29, go_sem, r0, r1, r2, r3, r4]) rfl ⟨0, 0, 0, 0, false, rfl, (fun h => by cases h), fun _ => ⟨HN.out, rfl, rfl, rfl, rfl⟩, ?_⟩
          exact Below.setCell (Below.setCell (Below.setCell (Below.setCell B2 (Nat.le_refl _) _) (Nat.le_refl _) _) (Nat.le_refl _) _) (Nat.le_refl _) _
        · have HY := Lib.hid (hy rfl)
          clear hy hn
          go_wp2
          go_roundw
          case rel => exact ⟨3, 3, p0, p1, n, p3, rfl, rfl, by omega, KR.set2 M2 n, KR.put (Nat.lt_succ_self _) R2, Ks.far (by show w.heap.size + 1 ≠ w.heap.size + 1 + 1; omega) K2, fun _ => Y0.out (by omega), fun _ => Y1.out (by omega), fun _ => HY.out, fun h => by omega, Below.setCell B2 (Nat.le_succ _) _⟩
          case measure => simp [intOf]
      · obtain rfl : j = 3 := by omega
        have Y0 := Lib.hid y0
        have Y1 := Lib.hid y1
        have Y2 := Lib.hid y2
        have Y3 := Lib.hid y3
        clear hj hk y0 y1 y2 y3
        obtain ⟨m0, m1, m2, m3, m4, m5, m6, m7, m8⟩ := id hM
        go_wp2_with fail
        refine (readNumber_any x3 z3 _ (hT.on hB) (hE.on hB)).mono ?_
        rintro e w2 ⟨n, b, rfl, hy, hn, hb2⟩
        have M2 := hM.call hb2
        have R2 := hR.call hb2
        have K2 := hK.call hb2
        have B2 := bstep hB hb2
        clear hM hR hK hB hb2 s0 s1 s2 s3 m0 m1 m2 m3 m4 m5 m6 m7 m8
        obtain ⟨m0, m1, m2, m3, m4, m5, m6, m7, m8⟩ := id M2
        obtain ⟨r0, r1, r2, r3, r4, r5, r6, r7, r8⟩ := id R2
        cases b
        · have HN := Lib.hid (rno_word HW.out (.inr (.inr (.inr (hn rfl)))))
          clear hy hn
          go_wp2
          refine bodyPost_ret (v := .tuple #[.agg #[.int .i64 0, .int .i64 0, .int .i64 0, .int .i64 0], .bool false]) (by simp [results, Tryz.results29, go_sem, r0, r1, r2, r3, r4]) rfl ⟨0, 0, 0, 0, false, rfl, (fun h => by cases h), fun _ => ⟨HN.out, rfl, rfl, rfl, rfl⟩, ?_⟩
          exact Below.setCell (Below.setCell (Below.setCell (Below.setCell B2 (Nat.le_refl _) _) (Nat.le_refl _) _) (Nat.le_refl _) _) (Nat.le_refl _) _
        · have HY := Lib.hid (hy rfl)
          clear hy hn
          go_wp2
          go_roundw
          case rel => exact ⟨4, 4, p0, p1, p2, n, rfl, rfl, by omega, KR.set3 M2 n, KR.put (Nat.lt_succ_self _) R2, Ks.far (by show w.heap.size + 1 ≠ w.heap.size + 1 + 1; omega) K2, fun _ => Y0.out (by omega), fun _ => Y1.out (by omega), fun _ => Y2.out (by omega), fun _ => HY.out, Below.setCell B2 (Nat.le_succ _) _⟩
          case measure => simp [intOf]
      · obtain rfl : j = 4 := by omega
        have hfin : SplitOf s.data.toList (four p0 p1 p2 p3) := by
          have e : four p0 p1 p2 p3 = [x0, x1, x2, x3].map (·.data.toList) := by
            simp only [four, List.map_cons, List.map_nil]
            rw [y0 (by omega), y1 (by omega), y2 (by omega), y3 (by omega)]
          rw [e]; exact HW.out
        have HF := Lib.hid hfin
        clear hj hk y0 y1 y2 y3 hfin
        obtain ⟨m0, m1, m2, m3, m4, m5, m6, m7, m8⟩ := id hM
        obtain ⟨r0, r1, r2, r3, r4, r5, r6, r7, r8⟩ := id hR
        go_wp2
        refine bodyPost_ret (v := .tuple #[.agg #[.int .i64 p0, .int .i64 p1, .int .i64 p2, .int .i64 p3], .bool true]) (by simp [results, Tryz.results29, go_sem, r0, r1, r2, r3, r4]) rfl ⟨p0, p1, p2, p3, true, rfl, (fun _ => HF.out), (fun h => by cases h), ?_⟩
        exact Below.setCell (Below.setCell (Below.setCell (Below.setCell hB (Nat.le_refl _) _) (Nat.le_refl _) _) (Nat.le_refl _) _) (Nat.le_refl _) _
  · have HN := Lib.hid (rno_len HW.out (by rw [List.length_map, HLEN.out]; omega))
    have h5 : ((n : Int) + 1 != 4) = true := by simp; omega
    have h6 : ¬ (n : Int) + 1 = 4 := by omega
    clear HW HLE HLS HLEN hM
    have hn63 : n + 1 ≤ 9223372036854775807 := by omega
    go_wp2
    refine bodyPost_ret (v := .tuple #[.agg #[.int .i64 0, .int .i64 0, .int .i64 0, .int .i64 0], .bool false]) (by simp [results, Tryz.results29, go_sem]) rfl ⟨0, 0, 0, 0, false, rfl, (fun h => by cases h), fun _ => ⟨HN.out, rfl, rfl, rfl, rfl⟩, ?_⟩
    repeat (first | exact Below.refl _ _ | refine Below.setCell ?_ (by first | omega | (simp <;> omega)) _ | refine Below.alloc ?_ (by first | omega | (simp <;> omega)) _ | refine bstep ?_ (by assumption) | refine Below.drew ?_)

end Go.Proofs.YtcphadkgmchnfaaGreatDoor
