/-
  Which motions of a list fix a cell: fixing, in the program. Conditions: the motions are reduced and suitable, the cell is one, the list lies in a block of its own.
-/
import Derived.Test.YtkfdaepnjdnnmaaDoorDf9
import Derived.Test.YtkfdaepnjdnnmaaDoorTk7
import Derived.Deep.RegionHeld3
import Derived.IntWalk
namespace Go.Proofs.YtkfdaepnjdnnmaaDoor
open Go.RowKit
set_option linter.unusedSimpArgs false
set_option linter.unusedVariables false

theorem ok_mid {f A B C a b c d x y : Int} (h : okM f A B C (a, b, c, d, x, y) = true) : latI A B C ∧ midI x ∧ midI y := by
  have h1 := (okM_iff.1 h)
  simp only [flB, Bool.and_eq_true] at h1
  have h2 := vecB_bd h1.2.2
  exact ⟨latB_iff.1 h1.1.2, by unfold midI; omega, by unfold midI; omega⟩
theorem bd_mul7 {a p : Int} (ha : -1 ≤ a ∧ a ≤ 1) (hp : 0 ≤ p ∧ p ≤ 64) : -64 ≤ a * p ∧ a * p ≤ 64 := by
  obtain rfl | rfl | rfl : a = -1 ∨ a = 0 ∨ a = 1 := by omega
  all_goals omega
theorem mv_mid {f A B C a b c d x y p q : Int} (h : okM f A B C (a, b, c, d, x, y) = true) (hr : redM A B C (a, b, c, d, x, y) = (a, b, c, d, x, y)) (hc : celB A C (p, q) = true) :
    latI A B C ∧ limB a b c d = true ∧ vecB x y = true ∧ vecB p q = true ∧ midI (a * p + b * q + x) ∧ midI (c * p + d * q + y) := by
  obtain ⟨hl, _, _⟩ := ok_mid h
  have h5 := okM_iff.1 h
  have hfl := h5.1
  simp only [flB, Bool.and_eq_true] at hfl
  have hgs := keep_small hfl.1 h5.2.1.1
  obtain ⟨b1, b2⟩ := latI_bd hl
  have h1 := celB_iff.1 hc
  have hv := red_vec hl hr
  have hv2 := vecB_bd hv
  dsimp only at hv hv2 h1 hgs
  have m1 := bd_mul7 hgs.1.1 (show 0 ≤ p ∧ p ≤ 64 by omega)
  have m2 := bd_mul7 hgs.1.2 (show 0 ≤ q ∧ q ≤ 64 by omega)
  have m3 := bd_mul7 hgs.2.1 (show 0 ≤ p ∧ p ≤ 64 by omega)
  have m4 := bd_mul7 hgs.2.2 (show 0 ≤ q ∧ q ≤ 64 by omega)
  exact ⟨hl, keep_lim hfl.1 h5.2.1.1, hv, cel_vec hl hc, by unfold midI; omega, by unfold midI; omega⟩
set_option maxRecDepth 100000 in
set_option maxHeartbeats 8000000 in
theorem sbC_any {f A B C x0 y0 : Int} {p q : Nat} {L : List M6} (hg : ∀ m ∈ L, okM f A B C m = true ∧ redM A B C m = m) (hc : celB A C (x0, y0) = true) :
    PredS p q (fun m => !decide (mv A B C m (x0, y0) = (x0, y0))) L (fun W => Kt p A B C W ∧ Kg q x0 y0 W) := by
  intro a b c d x y W hm hI
  obtain ⟨h1, h2⟩ := hI
  obtain ⟨hl, hli, hv, hp, hx, hy⟩ := mv_mid (hg _ hm).1 (hg _ hm).2 hc
  have CF := Lib.hid (fun W => fixes_any A B C a b c d x y x0 y0 W hl hli hv hp hx hy)
  clear hl hli hv hp hx hy hm hg hc
  dsimp only
  generalize decide (mv A B C (a, b, c, d, x, y) (x0, y0) = (x0, y0)) = r at CF ⊢
  have X0 : Km W.heap.size a b c d x y (W.alloc (.cells #[.int .i64 a, .int .i64 b, .int .i64 c, .int .i64 d, .int .i64 x, .int .i64 y] 111)) := Km.at _ rfl
  have K1 := h1.alloc (.cells #[.int .i64 a, .int .i64 b, .int .i64 c, .int .i64 d, .int .i64 x, .int .i64 y] 111)
  have K2 := h2.alloc (.cells #[.int .i64 a, .int .i64 b, .int .i64 c, .int .i64 d, .int .i64 x, .int .i64 y] 111)
  have hp1 := h1.1
  have hp2 := h2.1
  have B0 : Below W.heap.size W (W.alloc (.cells #[.int .i64 a, .int .i64 b, .int .i64 c, .int .i64 d, .int .i64 x, .int .i64 y] 111)) := (Below.refl _ _).alloc (Nat.le_refl _) _
  have X0c := X0.cells
  have K1c := K1.cells
  have K2c := K2.cells
  clear h1 h2
  go_enter Tryd.func90, Tryd.ntmps90
  go_wp2_with fail
  refine (CF.out _).mono ?_
  rintro e w1 ⟨rfl, hb1⟩
  have B1 := bstep B0 hb1
  clear hb1 X0 K1 K2 X0c K1c K2c B0
  go_wp2
  go_ret
  exact ⟨rfl, B1⟩

theorem sb_stays {p q g1 : Nat} {A B C x0 y0 : Int} (hp : g1 ≠ p) (hq : g1 ≠ q) : Stays g1 (fun W => Kt p A B C W ∧ Kg q x0 y0 W) := by
  refine ⟨fun W w1 h hb => ⟨h.1.call hb, h.2.call hb⟩, fun W pp u hpp h => ?_⟩
  obtain ⟨⟨a0, a1, a2, a3⟩, b0, b1, b2⟩ := h
  have hh : (W.setCell pp u).heap[p]? = W.heap[p]? := Below.heap_setCell _ _ _ _ (by omega)
  have hh2 : (W.setCell pp u).heap[q]? = W.heap[q]? := Below.heap_setCell _ _ _ _ (by omega)
  exact ⟨⟨by simpa [World.setCell] using a0, (World.cell?_of_block (w := W) hh).trans a1, (World.cell?_of_block (w := W) hh).trans a2, (World.cell?_of_block (w := W) hh).trans a3⟩, by simpa [World.setCell] using b0, (World.cell?_of_block (w := W) hh2).trans b1, (World.cell?_of_block (w := W) hh2).trans b2⟩
set_option maxRecDepth 100000 in
set_option maxHeartbeats 8000000 in
theorem fixing_any {f A B C x0 y0 : Int} {L : List M6} {g cap : Nat} {w : World} (hg : ∀ m ∈ L, okM f A B C m = true ∧ redM A B C m = m) (hc : celB A C (x0, y0) = true) (hR : IRow g (L.length * 6) (fm L) w) (hn : L.length ≤ 768) (hcap : L.length ≤ cap) (hcm : cap ≤ maxLen) :
    Calls Tryd.prog 58 #[.agg #[.int .i64 A, .int .i64 B, .int .i64 C], .slice (some ⟨g, 0, none⟩) L.length cap, .agg #[.int .i64 x0, .int .i64 y0]] w fun e w' => ∃ cap5, e = .returned (.slice (some ⟨g, 0, none⟩) (L.filter (fun m => decide (mv A B C m (x0, y0) = (x0, y0)))).length cap5) ∧ IRow g ((L.filter (fun m => decide (mv A B C m (x0, y0) = (x0, y0)))).length * 6) (fm (L.filter (fun m => decide (mv A B C m (x0, y0) = (x0, y0))))) w' ∧ Below g w w' := by
  have L0 : Kt w.heap.size A B C ((w.alloc (.cells #[.int .i64 A, .int .i64 B, .int .i64 C] 31)).alloc (.cells #[.int .i64 x0, .int .i64 y0] 49)) := Kt.alloc (Kt.at _ rfl) _
  have V0 : Kg (w.heap.size + 1) x0 y0 ((w.alloc (.cells #[.int .i64 A, .int .i64 B, .int .i64 C] 31)).alloc (.cells #[.int .i64 x0, .int .i64 y0] 49)) := Kg.at2 _ (by simp)
  have B0 : Below w.heap.size w ((w.alloc (.cells #[.int .i64 A, .int .i64 B, .int .i64 C] 31)).alloc (.cells #[.int .i64 x0, .int .i64 y0] 49)) := (((Below.refl _ _).alloc (Nat.le_refl _) _).alloc (by simp) _)
  have lg := hR.1
  have HL := Lib.hid (show L.filter (fun m => decide (mv A B C m (x0, y0) = (x0, y0))) = L.filter (fun v => !(!decide (mv A B C v (x0, y0) = (x0, y0)))) by simp)
  have CD := Lib.hid (deleteFS_any (cap := cap) (sbC_any (p := w.heap.size) (q := w.heap.size + 1) (L := L) hg hc) (sb_stays (by omega) (by omega)) ⟨L0, V0⟩ (hR.grow B0 lg) hn hcap hcm)
  clear hg hc hR hn hcap hcm L0 V0
  go_enter Tryd.func58, Tryd.ntmps58
  go_wp2_with fail
  refine CD.out.mono ?_
  rintro e w5 ⟨cap5, he, r5, _, hb5⟩
  rw [← HL.out] at he r5
  subst he
  have B5 := (B0.mono (Nat.le_of_lt lg)).trans hb5
  clear CD hb5 B0
  go_wp2
  go_ret
  exact ⟨_, rfl, r5, B5⟩
end Go.Proofs.YtkfdaepnjdnnmaaDoor
