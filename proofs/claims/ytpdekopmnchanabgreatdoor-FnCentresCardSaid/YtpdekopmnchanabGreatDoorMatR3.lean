/-
  The walk of the program's readMatrix: it answers four numbers exactly if the text has their numerals, joined by commas. Conditions: the text has at most 2^20 bytes; the library's variables read as their initialisers lay them.
-/
import Derived.Test.YtpdekopmnchanabGreatDoorMatR2
import Derived.Test.YtpdekopmnchanabGreatDoorRdN
import Derived.Laws.CopyOwn
namespace Go.Proofs.YtpdekopmnchanabGreatDoor
open Go.RowKit
set_option linter.unusedSimpArgs false
set_option linter.unusedVariables false

theorem rno_of_N {l : List UInt8} (h : RNoN l 4) : RNo l := by
  intro a b c d hl h'
  obtain ⟨⟨ha, hb⟩, hc, hd⟩ := limB_bd hl
  exact h [a, b, c, d] rfl (by intro z hz; simp at hz; omega) h'
theorem ints_quad {ns : List Int} (h : ns.length = 4) : ∃ a b c d, ns = [a, b, c, d] := by
  match ns, h with
  | [a, b, c, d], _ => exact ⟨a, b, c, d, rfl⟩
theorem splice_nil {α : Type} (L : List α) : splice L 0 [] = L := by simp [splice]
theorem splice_all {α : Type} (L cs : List α) (h : cs.length = L.length) : splice L 0 cs = cs := by simp [splice, h]
theorem KR.row {R : Nat} {a b c d : Int} {W : World} {T : TypeId} (h : W.heap[R]? = some (.cells #[.int .i64 a, .int .i64 b, .int .i64 c, .int .i64 d] T (0, 0))) : KR R a b c d W := by
  have hlt : R < W.heap.size := (Array.getElem?_eq_some_iff.1 h).1
  exact ⟨hlt, cell_of_row W R 0 _ T _ h, cell_of_row W R 1 _ T _ h, cell_of_row W R 2 _ T _ h, cell_of_row W R 3 _ T _ h, frozen_of_row W R 0 _ T h, frozen_of_row W R 1 _ T h, frozen_of_row W R 2 _ T h, frozen_of_row W R 3 _ T h⟩
theorem one_ints (ns : List Int) : ∀ u ∈ ns.map (Value.int .i64), u.oneCell' = true := by
  intro u hu
  obtain ⟨n, _, rfl⟩ := List.mem_map.1 hu
  rfl
theorem src_row {W : World} {base g cap n : Nat} {e : TypeId} {xs : List Value} (h : W.ownsRow base e 1 (.slice (some ⟨g, 0, none⟩) n cap) n xs) : ∀ (j : Nat) (v : Value), xs[j]? = some v → W.cell? ((⟨g, 0, none⟩ : Addr).add j) = some v := by
  intro j v hj
  have hjl : j < xs.length := (List.getElem?_eq_some_iff.1 hj).1
  have := h.1
  have hc := h.cellAt j (by omega)
  rw [hj] at hc
  by_cases h0 : j = 0
  · subst h0; simpa [Addr.add] using hc
  · simpa [Addr.add, h0] using hc

set_option maxHeartbeats 4000000 in
theorem readM_any (s : ByteArray) (hs : s.size ≤ 1048576) (w : World) (hT : TabOK w) (hE : ErrsOK w) (hM : MaxOK w) :
    Calls Tryz.prog 58 #[.string s] w (RmPost s.data.toList w) := by
  have B0 : Below w.heap.size w ((w.alloc (.cells #[.int .i64 0, .int .i64 0, .int .i64 0, .int .i64 0] 42)).alloc (.cells #[.int .i64 0, .int .i64 0, .int .i64 0, .int .i64 0] 42)) := Below.alloc (Below.alloc (Below.refl _ _) (Nat.le_refl _) _) (by simp) _
  have CU := Lib.hid (readN_any s 4 4 rfl hs (by omega) (by omega) _ (hT.on B0) (hE.on B0) (hM.on B0))
  have R0 : KR w.heap.size 0 0 0 0 ((w.alloc (.cells #[.int .i64 0, .int .i64 0, .int .i64 0, .int .i64 0] 42)).alloc (.cells #[.int .i64 0, .int .i64 0, .int .i64 0, .int .i64 0] 42)) := KR.alloc (KR.at _ rfl) _
  have HW0 : ((w.alloc (.cells #[.int .i64 0, .int .i64 0, .int .i64 0, .int .i64 0] 42)).alloc (.cells #[.int .i64 0, .int .i64 0, .int .i64 0, .int .i64 0] 42)).heap[w.heap.size + 1]? = some (.cells #[.int .i64 0, .int .i64 0, .int .i64 0, .int .i64 0] 42 (0, 0)) := by
    have := heap_alloc_new (w.alloc (.cells #[.int .i64 0, .int .i64 0, .int .i64 0, .int .i64 0] 42)) (.cells #[.int .i64 0, .int .i64 0, .int .i64 0, .int .i64 0] 42)
    simpa using this
  have HS0 : w.heap.size + 1 + 1 = ((w.alloc (.cells #[.int .i64 0, .int .i64 0, .int .i64 0, .int .i64 0] 42)).alloc (.cells #[.int .i64 0, .int .i64 0, .int .i64 0, .int .i64 0] 42)).heap.size := by simp
  have HS := Lib.hid HS0
  have HW := Lib.hid HW0
  clear HS0 HW0 hs
  go_enter Tryz.func58, Tryz.ntmps58
  go_wp2_with fail
  refine (CU.out).mono ?_
  rintro e w1 ⟨v, b, ns, rfl, hy, hn, hb1⟩
  have B1 : Below w.heap.size w w1 := bstep B0 hb1
  have R1 := R0.call hb1
  have HM1 := Lib.hid ((hb1.block (w.heap.size + 1) (by have := HS.out; omega)).trans HW.out)
  clear CU R0 HW B0
  cases b
  · obtain ⟨rfl, hno⟩ := hn rfl
    have N := Lib.hid (rno_of_N hno)
    clear hy hn hno hb1 HS
    go_wp2_with (refine wpList_copy_splice rfl _ _ _ _ rfl 2 Tryz.underlying84 (by kernel_rfl) _ _ _ _ _ _ rfl rfl (w.heap.size + 1) 0 [.int .i64 0, .int .i64 0, .int .i64 0, .int .i64 0] 42 HM1.out [] rfl (fun h => absurd h (by simp)) (by simp) (by simp) (w.heap.size + 1) w1 (Below.refl _ _) (Nat.le_refl _) ?_; intro w2 HG2 hb2; have R2 := R1.grow hb2 (Nat.lt_succ_self _); have M2 := KR.row (a := 0) (b := 0) (c := 0) (d := 0) (by have := HG2.out; rw [splice_nil] at this; exact this); have B2 : Below w.heap.size w w2 := B1.trans (hb2.mono (Nat.le_succ _)); obtain ⟨r0, r1, r2, r3, r4, r5, r6, r7, r8⟩ := id R2; obtain ⟨m0, m1, m2, m3, m4, m5, m6, m7, m8⟩ := id M2)
    refine bodyPost_ret (v := .tuple #[.agg #[.int .i64 0, .int .i64 0, .int .i64 0, .int .i64 0], .bool false]) (by simp [results, Tryz.results58, go_sem, r0, r1, r2, r3, r4]) rfl ⟨0, 0, 0, 0, false, rfl, (fun h => by cases h), fun _ => ⟨N.out, rfl, rfl, rfl, rfl⟩, ?_⟩
    repeat (first | assumption | refine Below.setCell ?_ (by first | omega | (simp <;> omega)) _)
  · obtain ⟨hlen, hsp, hown⟩ := hy rfl
    clear hy hn
    obtain ⟨a, b, c, d, rfl⟩ := ints_quad hlen
    obtain ⟨g, cap, rfl⟩ := own_form hown (by omega)
    have HSRC := Lib.hid (src_row hown)
    have HSP := Lib.hid (show SplitOf s.data.toList (four a b c d) from hsp)
    clear hlen hsp hown hb1 HS
    go_wp2_with (refine wpList_copy_splice rfl _ _ _ _ rfl 2 Tryz.underlying84 (by kernel_rfl) _ _ _ _ _ _ rfl rfl (w.heap.size + 1) 0 [.int .i64 0, .int .i64 0, .int .i64 0, .int .i64 0] 42 HM1.out ([a, b, c, d].map (Value.int .i64)) rfl (fun _ => ⟨rfl, ⟨g, 0, none⟩, rfl, HSRC.out⟩) (by simp) (one_ints _) (w.heap.size + 1) w1 (Below.refl _ _) (Nat.le_refl _) ?_; intro w2 HG2 hb2; have R2 := R1.grow hb2 (Nat.lt_succ_self _); have M2 := KR.row (a := a) (b := b) (c := c) (d := d) (by have := HG2.out; rw [splice_all _ _ (by simp)] at this; exact this); have B2 : Below w.heap.size w w2 := B1.trans (hb2.mono (Nat.le_succ _)); obtain ⟨r0, r1, r2, r3, r4, r5, r6, r7, r8⟩ := id R2; obtain ⟨m0, m1, m2, m3, m4, m5, m6, m7, m8⟩ := id M2)
    refine bodyPost_ret (v := .tuple #[.agg #[.int .i64 a, .int .i64 b, .int .i64 c, .int .i64 d], .bool true]) (by simp [results, Tryz.results58, go_sem, r0, r1, r2, r3, r4]) rfl ⟨a, b, c, d, true, rfl, (fun _ => HSP.out), (fun h => by cases h), ?_⟩
    repeat (first | assumption | refine Below.setCell ?_ (by first | omega | (simp <;> omega)) _)

end Go.Proofs.YtpdekopmnchanabGreatDoor
