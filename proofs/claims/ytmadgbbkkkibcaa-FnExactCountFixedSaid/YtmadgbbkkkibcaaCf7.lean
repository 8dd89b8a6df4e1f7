/-
  Contracts of CountFixed in the program and in the model, and the walk of its exact law. No condition.
-/
import Derived.Test.YtmadgbbkkkibcaaTk7
import Derived.Test.YtmadgbbkkkibcaaRd6
import Derived.Test.YtmadgbbkkkibcaaCeS
import Derived.Deep.RegionHeld3
import Derived.IntWalk
namespace Go.Proofs.Ytmadgbbkkkibcaa
open Go.RowKit Go.Shelf
attribute [local go_sem] Oper.semAt_some
attribute [local go_sem ↓] eqVe7
set_option linter.unusedSimpArgs false
set_option linter.unusedVariables false

theorem mv_red {A B C : Int} (hl : latI A B C) (m : M6) (v : V2) : mv A B C (redM A B C m) v = mv A B C m v := by
  obtain ⟨a, b, c, d, x, y⟩ := m
  have h := red_off hl x y
  obtain ⟨h1, h2⟩ := (red_same (A := A) (B := B) (C := C) (x := a * v.1 + b * v.2 + redX A B C x y) (y := c * v.1 + d * v.2 + redY C y) (x' := a * v.1 + b * v.2 + x) (y' := c * v.1 + d * v.2 + y) hl).2 (by
    have e1 : a * v.1 + b * v.2 + redX A B C x y - (a * v.1 + b * v.2 + x) = redX A B C x y - x := by omega
    have e2 : c * v.1 + d * v.2 + redY C y - (c * v.1 + d * v.2 + y) = redY C y - y := by omega
    rw [e1, e2]; exact h)
  exact Prod.ext h1 h2
def fixL (A B C : Int) (m : M6) (L : List V2) : List V2 := L.filter (fun v => decide (mv A B C m v = v))
theorem fixL_snoc (A B C : Int) (m : M6) (L : List V2) (x : V2) : (fixL A B C m (L ++ [x])).length = (fixL A B C m L).length + if decide (mv A B C m x = x) = true then 1 else 0 := by
  unfold fixL
  rw [List.filter_append, List.length_append]
  congr 1
  split <;> simp_all
theorem fixL_len (A B C : Int) (m : M6) (L : List V2) : (fixL A B C m L).length ≤ L.length := List.length_filter_le _ _
theorem fixL_red {A B C : Int} (hl : latI A B C) (m : M6) (L : List V2) : fixL A B C (redM A B C m) L = fixL A B C m L := by
  unfold fixL
  congr 1
  funext v
  rw [mv_red hl]
def fxN (f A B C : Int) (m : M6) : Int := bif okM f A B C m then ((fixL A B C m (cellP C.toNat A.toNat)).length : Int) else 0
theorem bd_mul {a p : Int} (ha : -1 ≤ a ∧ a ≤ 1) (hp : 0 ≤ p ∧ p ≤ 64) : -64 ≤ a * p ∧ a * p ≤ 64 := by
  have h : a = -1 ∨ a = 0 ∨ a = 1 := by omega
  rcases h with rfl | rfl | rfl <;> omega
theorem cellP_mem {p q : Nat} {v : V2} (h : v ∈ cellP q p) : (0 ≤ v.1 ∧ v.1 < p) ∧ (0 ≤ v.2 ∧ v.2 < q) := by
  unfold cellP cellR at h
  obtain ⟨a, ha, h⟩ := List.mem_flatMap.1 h
  obtain ⟨b, hb, rfl⟩ := List.mem_map.1 h
  have h1 := List.mem_range.1 ha
  have h2 := List.mem_range.1 hb
  dsimp only
  omega
theorem same_own {β : Type} (Bs : List Nat) (W0 : World) (h : ∀ b ∈ Bs, ∃ o : Obj, W0.heap[b]? = some o ∧ o.isCells = true) : Own (fun (_ : β) W => ∀ b ∈ Bs, W.heap[b]? = W0.heap[b]?) := fun s X Y row hs hg hrow b hb => by
  obtain ⟨o, h1, h2⟩ := h b hb
  have hx := hs b hb
  rw [h1] at hx
  exact ((hg.block b (Array.getElem?_eq_some_iff.1 hx).1 (fun e => by obtain ⟨o', k1, k2⟩ := hrow b e.symm; rw [hx] at k1; cases k1; rw [h2] at k2; cases k2)).trans hx).trans h1.symm
theorem at_ownF {β : Type} (B : Nat) (o : β → Obj) (ho : ∀ s, (o s).isCells = true) : Own (fun s W => W.heap[B]? = some (o s)) := fun s X Y row hs hg hrow =>
  (hg.block B (Array.getElem?_eq_some_iff.1 hs).1 (fun e => by obtain ⟨o', h1, h2⟩ := hrow B e.symm; rw [hs] at h1; cases h1; rw [ho s] at h2; cases h2)).trans hs
theorem cells_of {W : World} {g i : Nat} {v : Value} (h : W.cell? ⟨g, i, none⟩ = some v) : ∃ o : Obj, W.heap[g]? = some o ∧ o.isCells = true := by
  rcases ho : W.heap[g]? with _ | o
  · simp [World.cell?, ho] at h
  · refine ⟨o, rfl, ?_⟩
    rcases o <;> simp_all [World.cell?, Obj.isCells]
theorem same_cell {W W0 : World} {b i : Nat} {v : Value} (h : W.heap[b]? = W0.heap[b]?) (h0 : W0.cell? ⟨b, i, none⟩ = some v) : W.cell? ⟨b, i, none⟩ = some v := (World.cell?_of_block (w := W0) (w' := W) (a := ⟨b, i, none⟩) h).trans h0
set_option maxRecDepth 100000 in
set_option maxHeartbeats 8000000 in
theorem implFix_good (f : Int) (p q : Nat) (B : Int) (a b c d x y : Int) (w : World) (h : okM f (p : Int) B (q : Int) (a, b, c, d, x, y) = true) :
    Calls Try.prog 7 #[.int .i64 f, .agg #[.int .i64 ((p : Int)), .int .i64 B, .int .i64 ((q : Int))], .agg #[.int .i64 a, .int .i64 b, .int .i64 c, .int .i64 d, .int .i64 x, .int .i64 y]] w fun e w' => e = .returned (.tuple #[.int .i64 ((fixL (p : Int) B (q : Int) (a, b, c, d, x, y) (cellP q p)).length : Nat), .int .i64 0]) ∧ Below w.heap.size w w' := by
  obtain ⟨hl, hx, hy⟩ := ok_mid h
  have h5 := okM_iff.1 h
  have hfl := h5.1
  simp only [flB, Bool.and_eq_true] at hfl
  have hgs := keep_small hfl.1 h5.2.1.1
  have hsb := redM_bd hl (a, b, c, d, x, y)
  have hlim : limB a b c d = true := keep_lim hfl.1 h5.2.1.1
  have HF := Lib.hid (fixL_red hl (a, b, c, d, x, y) (cellP q p))
  obtain ⟨bp, bq⟩ := latI_bd hl
  have hpq : p * q ≤ 64 := by have := latI_prod hl; exact_mod_cast this
  have HB := Lib.hid (show (p : Int) ≤ 64 ∧ (q : Int) ≤ 64 from ⟨bp, bq⟩)
  have HP := Lib.hid hpq
  have HI := Lib.hid hl
  have HU : Hid (redM (p : Int) B (q : Int) (a, b, c, d, x, y) = (a, b, c, d, redX (p : Int) B (q : Int) x y, redY (q : Int) y)) := Lib.hid rfl
  have HQ := Lib.hid (And.intro hgs hsb)
  have HV := Lib.hid (show vecB (redX (p : Int) B (q : Int) x y) (redY (q : Int) y) = true from red_vec hl (m := redM (p : Int) B (q : Int) (a, b, c, d, x, y)) (redM_redM hl _))
  have HLi := Lib.hid hlim
  have HR := Lib.hid (fun (W : World) (S : SRow w.heap.size.succ.succ (w.heap.size.succ.succ + 1) 6 (.slice (some ⟨w.heap.size + 1 + 1, 0, none⟩) 1 1) ([(a, b, c, d, x, y)] : List M6).length (fm [(a, b, c, d, x, y)]) W) => redMs_any (xs := [(a, b, c, d, x, y)]) f (p : Int) B (q : Int) S (by simp))
  have HO := Lib.hid h
  clear h hx hy h5 hfl hgs hsb hlim bp bq hpq hl
  have X0 : SRow w.heap.size.succ.succ (w.heap.size.succ.succ + 1) 6 (.slice (some ⟨w.heap.size + 1 + 1, 0, none⟩) 1 1) ([(a, b, c, d, x, y)] : List M6).length (fm [(a, b, c, d, x, y)]) (((w.alloc (.cells #[.int .i64 (p : Int), .int .i64 B, .int .i64 (q : Int)] 32)).alloc (.cells #[.int .i64 a, .int .i64 b, .int .i64 c, .int .i64 d, .int .i64 x, .int .i64 y] 37)).alloc (.cells #[.int .i64 a, .int .i64 b, .int .i64 c, .int .i64 d, .int .i64 x, .int .i64 y] 37)) := SRow.one6 (by simp)
  have L0 : Kt w.heap.size (p : Int) B (q : Int) (((w.alloc (.cells #[.int .i64 (p : Int), .int .i64 B, .int .i64 (q : Int)] 32)).alloc (.cells #[.int .i64 a, .int .i64 b, .int .i64 c, .int .i64 d, .int .i64 x, .int .i64 y] 37)).alloc (.cells #[.int .i64 a, .int .i64 b, .int .i64 c, .int .i64 d, .int .i64 x, .int .i64 y] 37)) := ((Kt.at w.heap.size rfl).alloc _).alloc _
  have B0 : Below w.heap.size w (((w.alloc (.cells #[.int .i64 (p : Int), .int .i64 B, .int .i64 (q : Int)] 32)).alloc (.cells #[.int .i64 a, .int .i64 b, .int .i64 c, .int .i64 d, .int .i64 x, .int .i64 y] 37)).alloc (.cells #[.int .i64 a, .int .i64 b, .int .i64 c, .int .i64 d, .int .i64 x, .int .i64 y] 37)) := (((Below.refl _ _).alloc (Nat.le_refl _) _).alloc (by simp) _).alloc (by simp; omega) _
  refine (callsIn_wide (n := 3)).1 ?_
  refine callsIn_of_wp_marks Try.func7 rfl trivial ?_ rfl
  simp only [Try.ntmps7, List.size_toArray, List.length_cons, List.length_nil, Nat.reduceAdd, Nat.reduceSub, Array.replicate_succ, Array.replicate_zero, List.push_toArray, List.append_toArray, List.nil_append, List.cons_append]
  have HC := Lib.hid (show cod6 f (p : Int) B (q : Int) (allOk f (p : Int) B (q : Int) [(a, b, c, d, x, y)]) = 0 by rw [allOk_one, HO.out]; simp [cod6, ok_fl HO.out])
  gi_wp2_with (first
    | (refine ⟨trivial, ?_⟩; gi_at_call 14; refine (callsIn_wide.2 (HR.out _ X0)).mono ?_; rintro e w1 ⟨v1, he, _, hro, hb1⟩; rw [HC.out] at he; have O1 := hro (ok_fl HO.out) (by rw [allOk_one]; exact HO.out); clear hro; obtain ⟨g, cap, hv1, hg1, hG1⟩ := row_one (m := redM (p : Int) B (q : Int) (a, b, c, d, x, y)) O1; subst hv1 he; clear O1; have L1 := L0.call hb1; have B1 := bstep B0 hb1; obtain ⟨l0, l1, l2, l3⟩ := id L1)
    | (refine ⟨trivial, ?_⟩; gi_at_call 15; refine (cellsS_in Fence.wide _ trivial rfl _ _ _ _).mono ?_; rintro e w4 ⟨rfl, rfl⟩))
  have G1 : Km g a b c d (redX (p : Int) B (q : Int) x y) (redY (q : Int) y) w1 := hG1
  have HQ2 := Lib.hid (show (0 ≤ redX (p : Int) B (q : Int) x y ∧ redX (p : Int) B (q : Int) x y < p) ∧ (0 ≤ redY (q : Int) y ∧ redY (q : Int) y < q) from HQ.out.2)
  have HFX := Lib.hid (show ∀ L : List V2, fixL (p : Int) B (q : Int) (a, b, c, d, redX (p : Int) B (q : Int) x y, redY (q : Int) y) L = fixL (p : Int) B (q : Int) (a, b, c, d, x, y) L from fun L => fixL_red HI.out (a, b, c, d, x, y) L)
  clear hb1 hG1 l0 l1 l2 l3 X0 L0 B0 HR HC HF HU HO
  have z1 := B1.size
  have hgw : g < w1.heap.size := G1.1
  have hLw : w.heap.size < w1.heap.size := L1.1
  generalize redX (p : Int) B (q : Int) x y = u at G1 HQ2 HFX HV
  generalize redY (q : Int) y = v at G1 HQ2 HFX HV
  obtain ⟨W0, hW0⟩ : ∃ W0, ((w1.alloc (.cells #[.slice (some ⟨g, 0, none⟩) 1 cap] 47)).alloc (.cells #[.int .i64 0] 2)).alloc (.cells #[.int .i64 (p : Int), .int .i64 B, .int .i64 (q : Int)] 32) = W0 := ⟨_, rfl⟩
  have hsz : W0.heap.size = w1.heap.size + 3 := by rw [← hW0]; simp
  have BW : Below w1.heap.size w1 W0 := by rw [← hW0]; exact (((Below.refl _ _).alloc (Nat.le_refl _) _).alloc (by simp) _).alloc (by simp; omega) _
  have bS : W0.heap[w1.heap.size]? = some (.cells #[.slice (some ⟨g, 0, none⟩) 1 cap] 47 (0, 0)) := by rw [← hW0]; exact (Below.heap_alloc _ _ _ (by simp; omega)).trans ((Below.heap_alloc _ _ _ (by simp)).trans (World.alloc_heap_new w1 _))
  have bC : W0.heap[w1.heap.size + 1]? = some (.cells #[.int .i64 ((fixL (p : Int) B (q : Int) (a, b, c, d, x, y) []).length : Nat)] 2 (0, 0)) := by rw [← hW0]; refine (Below.heap_alloc _ _ _ (by simp)).trans ?_; simpa [fixL] using World.alloc_heap_new (w1.alloc (.cells #[.slice (some ⟨g, 0, none⟩) 1 cap] 47)) (.cells #[.int .i64 0] 2)
  have bR : W0.heap[w1.heap.size + 1 + 1]? = some (.cells #[.int .i64 (p : Int), .int .i64 B, .int .i64 (q : Int)] 32 (0, 0)) := by rw [← hW0]; simpa using World.alloc_heap_new ((w1.alloc (.cells #[.slice (some ⟨g, 0, none⟩) 1 cap] 47)).alloc (.cells #[.int .i64 0] 2)) (.cells #[.int .i64 (p : Int), .int .i64 B, .int .i64 (q : Int)] 32)
  have LW := L1.call BW
  have GW := G1.call BW
  have cA : W0.cell? ⟨w1.heap.size + 1 + 1, 0, none⟩ = some (.int .i64 (p : Int)) := by simp [World.cell?, bR]
  have cC : W0.cell? ⟨w1.heap.size + 1 + 1, 2, none⟩ = some (.int .i64 (q : Int)) := by simp [World.cell?, bR]
  have cS : W0.cell? ⟨w1.heap.size, 0, none⟩ = some (.slice (some ⟨g, 0, none⟩) 1 cap) := by simp [World.cell?, bS]
  have B0 : Below w.heap.size w W0 := bstep B1 BW
  have HS : Hid (∀ bb ∈ [w.heap.size, g, w1.heap.size], ∃ ob : Obj, W0.heap[bb]? = some ob ∧ ob.isCells = true) := Lib.hid (by
    intro bb hbb
    simp only [List.mem_cons, List.not_mem_nil, or_false] at hbb
    rcases hbb with rfl | rfl | rfl
    · exact cells_of LW.2.1
    · exact cells_of GW.2.1
    · exact cells_of cS)
  have HLW := Lib.hid LW
  have HGW := Lib.hid GW
  have HCS := Lib.hid cS
  rw [hW0]
  clear hW0 BW bS L1 G1 LW GW B1 z1 hg1
  have hz := B0.size
  refine wpIn_rangeFunc_ownH rfl (by omega) (gf := 28) (lb := #[.pointer (some ⟨w1.heap.size + 1 + 1, 0, none⟩)]) rfl trivial (enters_of Try.func28 (by kernel_rfl) rfl)
    (cellsS_stops Fence.wide (3 - 1) trivial rfl (by omega) (w1.heap.size + 1 + 1) p q (by have := HB.out.1; omega) (by have := HB.out.2; omega) W0 (by omega) cA cC) (fun h k => Eq.trans k h) (keepC_b (by omega)) (Below.refl _ _) (fun _ => rfl)
    (fun pre W => ((W.heap[w1.heap.size + 1]? = some (.cells #[.int .i64 ((fixL (p : Int) B (q : Int) (a, b, c, d, x, y) (pre.map Subtype.val)).length : Nat)] 2 (0, 0)) ∧ W.heap[w1.heap.size + 1 + 1]? = some (.cells #[.int .i64 (p : Int), .int .i64 B, .int .i64 (q : Int)] 32 (0, 0))) ∧ (∀ bb ∈ [w.heap.size, g, w1.heap.size], W.heap[bb]? = W0.heap[bb]?)) ∧ Below w.heap.size w W)
    (fun _ _ _ => False)
    (OwnFrom.and (OwnFrom.and (OwnFrom.and (Own.from (at_ownF _ (fun pre => _) (fun _ => rfl)) _) (Own.from (at_ownC _ _ rfl) _)) (Own.from (same_own _ W0 HS.out) _)) (ownFrom_below (Nat.le_refl _) hz))
    (fun _ _ _ _ _ hs _ _ => hs)
    ⟨⟨⟨bC, bR⟩, fun _ _ => rfl⟩, B0⟩
    (fun xx a' W => ∃ Bx, w1.heap.size + 1 + 1 < Bx ∧ W.heap[Bx]? = some (.cells #[.int .i64 xx.1.1, .int .i64 xx.1.2] 35 (0, 0)) ∧ a' = { tmps := #[.int .i64 f, .agg #[.int .i64 ((p : Int)), .int .i64 B, .int .i64 ((q : Int))], .agg #[.int .i64 a, .int .i64 b, .int .i64 c, .int .i64 d, .int .i64 x, .int .i64 y], undef, .pointer (some ⟨w.heap.size, 0, none⟩), .pointer (some ⟨w.heap.size + 1, 0, none⟩), .int .i64 0, .int .i64 0, .pointer (some ⟨w1.heap.size, 0, none⟩), .int .i64 0, .pointer (some ⟨w1.heap.size + 1, 0, none⟩), .pointer (some ⟨Bx, 0, none⟩), .tuple #[.slice (some ⟨g, 0, none⟩) 1 cap, .int .i64 0], .int .i64 f, .agg #[.int .i64 ((p : Int)), .int .i64 B, .int .i64 ((q : Int))], .agg #[.int .i64 a, .int .i64 b, .int .i64 c, .int .i64 d, .int .i64 x, .int .i64 y], .slice (some ⟨w.heap.size + 1 + 1, 0, none⟩) 1 1, .tuple #[.slice (some ⟨g, 0, none⟩) 1 cap, .int .i64 0], .slice (some ⟨g, 0, none⟩) 1 cap, .int .i64 0, .int .i64 0, .bool false, undef, .agg #[.int .i64 ((p : Int)), .int .i64 B, .int .i64 ((q : Int))], .func (.func 28) #[] #[.pointer (some ⟨w1.heap.size + 1 + 1, 0, none⟩)], .agg #[.int .i64 xx.1.1, .int .i64 xx.1.2], undef, undef, undef, undef, undef, undef, undef, undef, undef], defers := [] })
    (fun x a' _ X Y row hs hg hr => by obtain ⟨Bx, h1, h2, h3⟩ := hs; exact ⟨Bx, h1, at_ownC Bx _ rfl () X Y row h2 hg (fun r e => (hr r e).2), h3⟩)
    ?assign ?body ?done ?stop
  case assign =>
    rintro l pre xx W K ⟨⟨⟨hC, hR⟩, hS⟩, hB1⟩ hK
    gi_wp2
    have hltR := (Array.getElem?_eq_some_iff.1 hR).1
    have hltC := (Array.getElem?_eq_some_iff.1 hC).1
    have hKB : KeepC (w1.heap.size + 1 + 1) W (W.alloc (.cells #[.int .i64 xx.1.1, .int .i64 xx.1.2] 35)) := Below.heap_alloc W _ _ hltR
    refine hK _ _ ((KeepsOthers.alloc _ _).from _) hKB ⟨⟨⟨(Below.heap_alloc W _ _ hltC).trans hC, hKB.trans hR⟩, fun bb hbb => ?_⟩, hB1.alloc hB1.size _⟩ ⟨W.heap.size, hltR, World.alloc_heap_new W _, rfl⟩
    obtain ⟨ob, h1, _⟩ := HS.out bb hbb
    have h2 := hS bb hbb
    rw [h1] at h2
    exact (Below.heap_alloc W _ _ (Array.getElem?_eq_some_iff.1 h2).1).trans (h2.trans h1.symm)
  case body =>
    rintro l pre xx a' W hl ⟨r, hr⟩ ⟨⟨⟨hC, hR⟩, hS⟩, hB1⟩ ⟨Bx, hBx, bX, rfl⟩ hlt
    obtain ⟨⟨x0, x1⟩, hx⟩ := xx
    dsimp only at bX
    have hx2 : (0 ≤ x0 ∧ x0 < (p : Int)) ∧ (0 ≤ x1 ∧ x1 < (q : Int)) := hx
    have sL := hS w.heap.size (by simp)
    have sG := hS g (by simp)
    have sS := hS w1.heap.size (by simp)
    have lX := (Array.getElem?_eq_some_iff.1 bX).1
    have lR := (Array.getElem?_eq_some_iff.1 hR).1
    have lC := (Array.getElem?_eq_some_iff.1 hC).1
    have KL : Kt w.heap.size (p : Int) B (q : Int) W := ⟨by omega, same_cell sL HLW.out.2.1, same_cell sL HLW.out.2.2.1, same_cell sL HLW.out.2.2.2⟩
    have KG : Km g a b c d u v W := ⟨by omega, same_cell sG HGW.out.2.1, same_cell sG HGW.out.2.2.1, same_cell sG HGW.out.2.2.2.1, same_cell sG HGW.out.2.2.2.2.1, same_cell sG HGW.out.2.2.2.2.2.1, same_cell sG HGW.out.2.2.2.2.2.2⟩
    have kS := same_cell sS HCS.out
    have kx0 : W.cell? ⟨Bx, 0, none⟩ = some (.int .i64 x0) := by simp [World.cell?, bX]
    have kx1 : W.cell? ⟨Bx, 1, none⟩ = some (.int .i64 x1) := by simp [World.cell?, bX]
    have kc : W.cell? ⟨w1.heap.size + 1, 0, none⟩ = some (.int .i64 ((fixL (p : Int) B (q : Int) (a, b, c, d, x, y) (pre.map Subtype.val)).length : Nat)) := by simp [World.cell?, hC]
    have kf : W.frozen? ⟨w1.heap.size + 1, 0, none⟩ = false := by simp [World.frozen?, hC]
    have bd := HQ.out.1
    have hpB := HB.out
    have m1 := bd_mul bd.1.1 (p := x0) (by omega)
    have m2 := bd_mul bd.1.2 (p := x1) (by omega)
    have m3 := bd_mul bd.2.1 (p := x0) (by omega)
    have m4 := bd_mul bd.2.2 (p := x1) (by omega)
    have hq2 := HQ2.out
    have CF := Lib.hid (fun W => fixes_any (p : Int) B (q : Int) a b c d u v x0 x1 W HI.out HLi.out HV.out (decide_eq_true (by omega)) (by unfold midI; omega) (by unfold midI; omega))
    have HSN := Lib.hid (show (fixL (p : Int) B (q : Int) (a, b, c, d, x, y) ((pre ++ [(⟨(x0, x1), hx⟩ : CV p q)]).map Subtype.val)).length = (fixL (p : Int) B (q : Int) (a, b, c, d, x, y) (pre.map Subtype.val)).length + if decide (mv (p : Int) B (q : Int) (a, b, c, d, u, v) (x0, x1) = (x0, x1)) = true then 1 else 0 by
      rw [List.map_append, ← HFX.out, ← HFX.out]
      exact fixL_snoc _ _ _ _ _ _)
    have HLN := Lib.hid (show (fixL (p : Int) B (q : Int) (a, b, c, d, x, y) (pre.map Subtype.val)).length ≤ 64 from Nat.le_trans (fixL_len _ _ _ _ _) (by rw [List.length_map]; have := HP.out; omega))
    generalize (fixL (p : Int) B (q : Int) (a, b, c, d, x, y) (pre.map Subtype.val)).length = nn at *
    generalize decide (mv (p : Int) B (q : Int) (a, b, c, d, u, v) (x0, x1) = (x0, x1)) = rr at CF HSN
    obtain ⟨g0, g1, g2, g3, g4, g5, g6⟩ := id KG
    obtain ⟨l0, l1, l2, l3⟩ := id KL
    have hfn1 : Fence.wide.fn 16 := trivial
    have hfo : Try.prog.follows Departure.mixedOrders = true := by kernel_rfl
    have hnn := HLN.out
    have HSS := Lib.hid hS
    clear hr hlt hl m1 m2 m3 m4 bd hpB hq2 hx2 sL sG sS hS
    rcases rr with _ | _
    · gi_wp2_with fail
      gi_region_with_o (gi_at_call 16; refine (CallsIn.inRound l (callsIn_wide.2 (CF.out _))).mono ?_; rintro e w5 ⟨rfl, hb5⟩; have HB5 : Below W.heap.size W w5 := bstep (Below.refl _ _).drew hb5)
      all_goals
        gi_wp2
        refine ⟨keepsF_below _ HB5, HB5.block _ lR, ⟨⟨⟨?_, (HB5.block _ lR).trans hR⟩, fun bb hbb => ?_⟩, hB1.trans (HB5.mono hB1.size)⟩⟩
        · rw [HSN.out]; exact (HB5.block _ lC).trans hC
        · obtain ⟨ob, h1, _⟩ := HS.out bb hbb
          have h2 := HSS.out bb hbb
          rw [h1] at h2
          exact (HB5.block _ (Array.getElem?_eq_some_iff.1 h2).1).trans (h2.trans h1.symm)
    · gi_wp2_with fail
      gi_region_with_o (gi_at_call 16; refine (CallsIn.inRound l (callsIn_wide.2 (CF.out _))).mono ?_; rintro e w5 ⟨rfl, hb5⟩; have HB5 : Below W.heap.size W w5 := bstep (Below.refl _ _).drew hb5; have k5c : w5.cell? ⟨w1.heap.size + 1, 0, none⟩ = some (.int .i64 (nn : Nat)) := (HB5.cell (p := ⟨w1.heap.size + 1, 0, none⟩) lC).trans kc; have k5f : w5.frozen? ⟨w1.heap.size + 1, 0, none⟩ = false := (World.frozen?_of_block (w := W) (HB5.block _ lC)).trans kf)
      all_goals
        gi_wp2
        have b5 : Boxed w5 (w1.heap.size + 1) 2 (.int .i64 ((nn : Nat) : Int)) := (HB5.block _ lC).trans hC
        have e5 := b5.set (.int .i64 ((nn : Int) + 1))
        have l5 := HB5.size
        refine ⟨(keepsF_below _ HB5).trans ((KeepsOthers.setCell w5 ⟨w1.heap.size + 1, 0, none⟩ _).from _), (Below.heap_setCell w5 ⟨w1.heap.size + 1, 0, none⟩ _ (w1.heap.size + 1 + 1) (by simp)).trans (HB5.block _ lR), ⟨⟨⟨?_, (Below.heap_setCell w5 ⟨w1.heap.size + 1, 0, none⟩ _ (w1.heap.size + 1 + 1) (by simp)).trans ((HB5.block _ lR).trans hR)⟩, fun bb hbb => ?_⟩, (hB1.trans (HB5.mono hB1.size)).setCell (by dsimp only; omega) _⟩⟩
        · rw [HSN.out]; simpa [Boxed] using e5
        · obtain ⟨ob, h1, _⟩ := HS.out bb hbb
          have h2 := HSS.out bb hbb
          rw [h1] at h2
          have hne : bb ≠ w1.heap.size + 1 := by
            simp only [List.mem_cons, List.not_mem_nil, or_false] at hbb
            omega
          exact (Below.heap_setCell w5 ⟨w1.heap.size + 1, 0, none⟩ _ bb (fun e => hne e)).trans ((HB5.block _ (Array.getElem?_eq_some_iff.1 h2).1).trans (h2.trans h1.symm))
  case done =>
    rintro D zs W hD hzs ⟨⟨⟨hC, hR⟩, hS⟩, hB1⟩ hK
    have kc : W.cell? ⟨w1.heap.size + 1, 0, none⟩ = some (.int .i64 ((fixL (p : Int) B (q : Int) (a, b, c, d, x, y) (cellP q p)).length : Nat)) := by rw [← hzs]; simp [World.cell?, hC]
    gi_wp2
    refine ⟨by simp, .inl ⟨_, _, rfl, run_takeDeferred hK, ?_⟩⟩
    exact ⟨_, results_tmp2 rfl _ _ _, rfl, hB1.trans (belowK_b (w := w) (Nat.le_refl _) W D _ _ (by omega) hK rfl rfl)⟩
  case stop =>
    rintro D c pre W _ _ h _
    exact h.elim
set_option maxRecDepth 100000 in
set_option maxHeartbeats 8000000 in
theorem implFix_bad (f A B C a b c d x y : Int) (w : World) (hs : okM f A B C (a, b, c, d, x, y) = false) :
    Calls Try.prog 7 #[.int .i64 f, .agg #[.int .i64 A, .int .i64 B, .int .i64 C], .agg #[.int .i64 a, .int .i64 b, .int .i64 c, .int .i64 d, .int .i64 x, .int .i64 y]] w fun e w' => e = .returned (.tuple #[.int .i64 0, .int .i64 (cod6 f A B C false)]) ∧ Below w.heap.size w w' := by
  rcases hF : flB f A B C with _ | _
  · have EA := Lib.hid (show cod6 f A B C false = 1 by simp [cod6, hF])
    rw [EA.out]
    have L0 : Kt (w.heap.size) A B C ((w.alloc (.cells #[.int .i64 A, .int .i64 B, .int .i64 C] 32)).alloc (.cells #[.int .i64 a, .int .i64 b, .int .i64 c, .int .i64 d, .int .i64 x, .int .i64 y] 37)) := ((Kt.at (w.heap.size) rfl).alloc _)
    have M0 : Km (w.heap.size + 1) a b c d x y ((w.alloc (.cells #[.int .i64 A, .int .i64 B, .int .i64 C] 32)).alloc (.cells #[.int .i64 a, .int .i64 b, .int .i64 c, .int .i64 d, .int .i64 x, .int .i64 y] 37)) := (Km.at (w.heap.size + 1) (by simp))
    have B0 : Below w.heap.size w ((w.alloc (.cells #[.int .i64 A, .int .i64 B, .int .i64 C] 32)).alloc (.cells #[.int .i64 a, .int .i64 b, .int .i64 c, .int .i64 d, .int .i64 x, .int .i64 y] 37)) := (Below.alloc (Below.alloc (Below.refl _ _) (by first | with_reducible exact Nat.le_refl _ | (simp <;> omega)) _) (by first | with_reducible exact Nat.le_refl _ | (simp <;> omega)) _)
    go_enter Try.func7, Try.ntmps7
    have L0c0 := L0.c0
    have L0c1 := L0.c1
    have L0c2 := L0.c2
    have L0l := L0.1
    have M0c0 := M0.c0
    have M0c1 := M0.c1
    have M0c2 := M0.c2
    have M0c3 := M0.c3
    have M0c4 := M0.c4
    have M0c5 := M0.c5
    have M0l := M0.1
    go_wp2_with fail
    refine (redMs_any (xs := [(a, b, c, d, x, y)]) f A B C (SRow.one6 (by simp)) (by simp)).mono ?_
    rintro e w1 ⟨v, he, hno, hro, hb1⟩
    rw [allOk_one] at he hno hro
    rw [hs] at he hno hro
    have L1 : Kt (w.heap.size) A B C w1 := Kt.call (L0.alloc _) hb1
    have M1 : Km (w.heap.size + 1) a b c d x y w1 := Km.call (M0.alloc _) hb1
    have S1 : KM (w.heap.size + 1 + 1) a b c d x y w1 := (KM.at (w.heap.size + 1 + 1) (by simp) : KM (w.heap.size + 1 + 1) a b c d x y _).call hb1
    have B1 : Below w.heap.size w w1 := bstep (Below.alloc B0 (by have := B0.size; first | omega | (simp <;> omega)) _) hb1
    clear hb1 B0 L0 M0
    rw [show cod6 f A B C false = 1 by simp [cod6, hF]] at he
    obtain rfl : v = .slice none 0 0 := by simpa using hno
    subst he
    clear hno hro
    have L1c0 := L1.c0
    have L1c1 := L1.c1
    have L1c2 := L1.c2
    have L1l := L1.1
    have L1n : ¬ w.heap.size = w1.heap.size := by omega
    have M1c0 := M1.c0
    have M1c1 := M1.c1
    have M1c2 := M1.c2
    have M1c3 := M1.c3
    have M1c4 := M1.c4
    have M1c5 := M1.c5
    have M1l := M1.1
    have M1n : ¬ w.heap.size + 1 = w1.heap.size := by omega
    have S1c0 := S1.c0
    have S1c1 := S1.c1
    have S1c2 := S1.c2
    have S1c3 := S1.c3
    have S1c4 := S1.c4
    have S1c5 := S1.c5
    have S1f0 := S1.f0
    have S1f1 := S1.f1
    have S1f2 := S1.f2
    have S1f3 := S1.f3
    have S1f4 := S1.f4
    have S1f5 := S1.f5
    have S1l := S1.lt
    have S1n : ¬ w.heap.size + 1 + 1 = w1.heap.size := by omega
    go_wp2
    go_ret2
    exact ⟨by first | rfl | rw [EA.out] | (rw [EA.out]; rfl), by repeat (first | with_reducible assumption | with_reducible exact Below.refl _ _ | with_reducible refine Below.setCell ?_ (by first | omega | (simp <;> omega)) _ | with_reducible refine Below.alloc ?_ (by first | omega | (simp <;> omega)) _ | with_reducible refine bstep ?_ (by with_reducible assumption) | with_reducible refine Below.drew ?_)⟩
  · have EA := Lib.hid (show cod6 f A B C false = 2 by simp [cod6, hF])
    rw [EA.out]
    have L0 : Kt (w.heap.size) A B C ((w.alloc (.cells #[.int .i64 A, .int .i64 B, .int .i64 C] 32)).alloc (.cells #[.int .i64 a, .int .i64 b, .int .i64 c, .int .i64 d, .int .i64 x, .int .i64 y] 37)) := ((Kt.at (w.heap.size) rfl).alloc _)
    have M0 : Km (w.heap.size + 1) a b c d x y ((w.alloc (.cells #[.int .i64 A, .int .i64 B, .int .i64 C] 32)).alloc (.cells #[.int .i64 a, .int .i64 b, .int .i64 c, .int .i64 d, .int .i64 x, .int .i64 y] 37)) := (Km.at (w.heap.size + 1) (by simp))
    have B0 : Below w.heap.size w ((w.alloc (.cells #[.int .i64 A, .int .i64 B, .int .i64 C] 32)).alloc (.cells #[.int .i64 a, .int .i64 b, .int .i64 c, .int .i64 d, .int .i64 x, .int .i64 y] 37)) := (Below.alloc (Below.alloc (Below.refl _ _) (by first | with_reducible exact Nat.le_refl _ | (simp <;> omega)) _) (by first | with_reducible exact Nat.le_refl _ | (simp <;> omega)) _)
    go_enter Try.func7, Try.ntmps7
    have L0c0 := L0.c0
    have L0c1 := L0.c1
    have L0c2 := L0.c2
    have L0l := L0.1
    have M0c0 := M0.c0
    have M0c1 := M0.c1
    have M0c2 := M0.c2
    have M0c3 := M0.c3
    have M0c4 := M0.c4
    have M0c5 := M0.c5
    have M0l := M0.1
    go_wp2_with fail
    refine (redMs_any (xs := [(a, b, c, d, x, y)]) f A B C (SRow.one6 (by simp)) (by simp)).mono ?_
    rintro e w1 ⟨v, he, hno, hro, hb1⟩
    rw [allOk_one] at he hno hro
    rw [hs] at he hno hro
    have L1 : Kt (w.heap.size) A B C w1 := Kt.call (L0.alloc _) hb1
    have M1 : Km (w.heap.size + 1) a b c d x y w1 := Km.call (M0.alloc _) hb1
    have S1 : KM (w.heap.size + 1 + 1) a b c d x y w1 := (KM.at (w.heap.size + 1 + 1) (by simp) : KM (w.heap.size + 1 + 1) a b c d x y _).call hb1
    have B1 : Below w.heap.size w w1 := bstep (Below.alloc B0 (by have := B0.size; first | omega | (simp <;> omega)) _) hb1
    clear hb1 B0 L0 M0
    rw [show cod6 f A B C false = 2 by simp [cod6, hF]] at he
    obtain rfl : v = .slice none 0 0 := by simpa using hno
    subst he
    clear hno hro
    have L1c0 := L1.c0
    have L1c1 := L1.c1
    have L1c2 := L1.c2
    have L1l := L1.1
    have L1n : ¬ w.heap.size = w1.heap.size := by omega
    have M1c0 := M1.c0
    have M1c1 := M1.c1
    have M1c2 := M1.c2
    have M1c3 := M1.c3
    have M1c4 := M1.c4
    have M1c5 := M1.c5
    have M1l := M1.1
    have M1n : ¬ w.heap.size + 1 = w1.heap.size := by omega
    have S1c0 := S1.c0
    have S1c1 := S1.c1
    have S1c2 := S1.c2
    have S1c3 := S1.c3
    have S1c4 := S1.c4
    have S1c5 := S1.c5
    have S1f0 := S1.f0
    have S1f1 := S1.f1
    have S1f2 := S1.f2
    have S1f3 := S1.f3
    have S1f4 := S1.f4
    have S1f5 := S1.f5
    have S1l := S1.lt
    have S1n : ¬ w.heap.size + 1 + 1 = w1.heap.size := by omega
    go_wp2
    go_ret2
    exact ⟨by first | rfl | rw [EA.out] | (rw [EA.out]; rfl), by repeat (first | with_reducible assumption | with_reducible exact Below.refl _ _ | with_reducible refine Below.setCell ?_ (by first | omega | (simp <;> omega)) _ | with_reducible refine Below.alloc ?_ (by first | omega | (simp <;> omega)) _ | with_reducible refine bstep ?_ (by with_reducible assumption) | with_reducible refine Below.drew ?_)⟩
set_option maxRecDepth 100000 in
set_option maxHeartbeats 8000000 in
theorem specFix_bad (f A B C a b c d x y : Int) (w : World) (hs : okM f A B C (a, b, c, d, x, y) = false) :
    Calls Try.prog 4 #[.int .i64 f, .agg #[.int .i64 A, .int .i64 B, .int .i64 C], .agg #[.int .i64 a, .int .i64 b, .int .i64 c, .int .i64 d, .int .i64 x, .int .i64 y]] w fun e w' => e = .returned (.tuple #[.int .i64 0, .int .i64 (cod6 f A B C false)]) ∧ Below w.heap.size w w' := by
  have CS := Lib.hid (fun W => specSuit_any f A B C a b c d x y W)
  have CC := Lib.hid (fun W => l06Code_any f A B C false W)
  rw [suit_ok, hs] at CS
  clear hs
  rcases hF : flB f A B C with _ | _
  · rw [show cod6 f A B C false = 1 by simp [cod6, hF]] at CC ⊢
    have L0 : Kt (w.heap.size) A B C ((w.alloc (.cells #[.int .i64 A, .int .i64 B, .int .i64 C] 32)).alloc (.cells #[.int .i64 a, .int .i64 b, .int .i64 c, .int .i64 d, .int .i64 x, .int .i64 y] 37)) := ((Kt.at (w.heap.size) rfl).alloc _)
    have M0 : Km (w.heap.size + 1) a b c d x y ((w.alloc (.cells #[.int .i64 A, .int .i64 B, .int .i64 C] 32)).alloc (.cells #[.int .i64 a, .int .i64 b, .int .i64 c, .int .i64 d, .int .i64 x, .int .i64 y] 37)) := (Km.at (w.heap.size + 1) (by simp))
    have B0 : Below w.heap.size w ((w.alloc (.cells #[.int .i64 A, .int .i64 B, .int .i64 C] 32)).alloc (.cells #[.int .i64 a, .int .i64 b, .int .i64 c, .int .i64 d, .int .i64 x, .int .i64 y] 37)) := (Below.alloc (Below.alloc (Below.refl _ _) (by first | with_reducible exact Nat.le_refl _ | (simp <;> omega)) _) (by first | with_reducible exact Nat.le_refl _ | (simp <;> omega)) _)
    go_enter Try.func4, Try.ntmps4
    have L0lt := L0.1
    have M0lt := M0.1
    go_wp2_with fail
    go_region_held3 (fun W => (W.cell? ⟨w.heap.size, 0, none⟩ = some (.int .i64 A) ∧ W.cell? ⟨w.heap.size, 1, none⟩ = some (.int .i64 B) ∧ W.cell? ⟨w.heap.size, 2, none⟩ = some (.int .i64 C)) ∧ (W.cell? ⟨w.heap.size + 1, 0, none⟩ = some (.int .i64 a) ∧ W.cell? ⟨w.heap.size + 1, 1, none⟩ = some (.int .i64 b) ∧ W.cell? ⟨w.heap.size + 1, 2, none⟩ = some (.int .i64 c) ∧ W.cell? ⟨w.heap.size + 1, 3, none⟩ = some (.int .i64 d) ∧ W.cell? ⟨w.heap.size + 1, 4, none⟩ = some (.int .i64 x) ∧ W.cell? ⟨w.heap.size + 1, 5, none⟩ = some (.int .i64 y))) ((refine ⟨Kt.cells ?_, Km.cells ?_⟩ <;> repeat (first | with_reducible assumption | with_reducible refine Km.drew ?_ | with_reducible refine Km.alloc ?_ _ | with_reducible refine Km.call ?_ (by with_reducible assumption) | with_reducible refine Kt.drew ?_ | with_reducible refine Kt.alloc ?_ _ | with_reducible refine Kt.call ?_ (by with_reducible assumption) | ((with_reducible refine Km.put ?_ ?_); (first | omega | (dsimp only; omega))) | ((with_reducible refine Kt.put ?_ ?_); (first | omega | (dsimp only; omega))) | ((with_reducible refine Km.far ?_ ?_); (first | omega | (dsimp only; omega))))))
      (first
        | (go_at_call 9; ((with_reducible refine (CS.out _).mono ?_); rintro e w1 ⟨rfl, hb1⟩; have L1 : Kt (w.heap.size) A B C w1 := (by repeat (first | with_reducible assumption | with_reducible refine Km.drew ?_ | with_reducible refine Km.alloc ?_ _ | with_reducible refine Km.call ?_ (by with_reducible assumption) | with_reducible refine Kt.drew ?_ | with_reducible refine Kt.alloc ?_ _ | with_reducible refine Kt.call ?_ (by with_reducible assumption))); have M1 : Km (w.heap.size + 1) a b c d x y w1 := (by repeat (first | with_reducible assumption | with_reducible refine Km.drew ?_ | with_reducible refine Km.alloc ?_ _ | with_reducible refine Km.call ?_ (by with_reducible assumption) | with_reducible refine Kt.drew ?_ | with_reducible refine Kt.alloc ?_ _ | with_reducible refine Kt.call ?_ (by with_reducible assumption))); have L1l := L1.1; have M1l := M1.1; have B1 : Below w.heap.size w w1 := (by repeat (first | with_reducible assumption | with_reducible refine Below.drew ?_ | with_reducible refine Below.alloc ?_ (by first | omega | (have := B0.size; simp <;> omega)) _ | with_reducible refine bstep ?_ (by with_reducible assumption)))))
        | (go_at_call 8; ((with_reducible refine (CC.out _).mono ?_); rintro e w2 ⟨rfl, hb2⟩; have L2 : Kt (w.heap.size) A B C w2 := (by repeat (first | with_reducible assumption | with_reducible refine Km.drew ?_ | with_reducible refine Km.alloc ?_ _ | with_reducible refine Km.call ?_ (by with_reducible assumption) | with_reducible refine Kt.drew ?_ | with_reducible refine Kt.alloc ?_ _ | with_reducible refine Kt.call ?_ (by with_reducible assumption))); have M2 : Km (w.heap.size + 1) a b c d x y w2 := (by repeat (first | with_reducible assumption | with_reducible refine Km.drew ?_ | with_reducible refine Km.alloc ?_ _ | with_reducible refine Km.call ?_ (by with_reducible assumption) | with_reducible refine Kt.drew ?_ | with_reducible refine Kt.alloc ?_ _ | with_reducible refine Kt.call ?_ (by with_reducible assumption))); have L2l := L2.1; have M2l := M2.1; have B2 : Below w.heap.size w w2 := (by repeat (first | with_reducible assumption | with_reducible refine Below.drew ?_ | with_reducible refine Below.alloc ?_ (by first | omega | (have := B0.size; simp <;> omega)) _ | with_reducible refine bstep ?_ (by with_reducible assumption))))))
    all_goals
      go_wp2
      go_ret2
      exact ⟨rfl, by repeat (first | with_reducible assumption | with_reducible exact Below.refl _ _ | with_reducible refine Below.setCell ?_ (by first | omega | (simp <;> omega)) _ | with_reducible refine Below.alloc ?_ (by first | omega | (simp <;> omega)) _ | with_reducible refine bstep ?_ (by with_reducible assumption) | with_reducible refine Below.drew ?_)⟩
  · rw [show cod6 f A B C false = 2 by simp [cod6, hF]] at CC ⊢
    have L0 : Kt (w.heap.size) A B C ((w.alloc (.cells #[.int .i64 A, .int .i64 B, .int .i64 C] 32)).alloc (.cells #[.int .i64 a, .int .i64 b, .int .i64 c, .int .i64 d, .int .i64 x, .int .i64 y] 37)) := ((Kt.at (w.heap.size) rfl).alloc _)
    have M0 : Km (w.heap.size + 1) a b c d x y ((w.alloc (.cells #[.int .i64 A, .int .i64 B, .int .i64 C] 32)).alloc (.cells #[.int .i64 a, .int .i64 b, .int .i64 c, .int .i64 d, .int .i64 x, .int .i64 y] 37)) := (Km.at (w.heap.size + 1) (by simp))
    have B0 : Below w.heap.size w ((w.alloc (.cells #[.int .i64 A, .int .i64 B, .int .i64 C] 32)).alloc (.cells #[.int .i64 a, .int .i64 b, .int .i64 c, .int .i64 d, .int .i64 x, .int .i64 y] 37)) := (Below.alloc (Below.alloc (Below.refl _ _) (by first | with_reducible exact Nat.le_refl _ | (simp <;> omega)) _) (by first | with_reducible exact Nat.le_refl _ | (simp <;> omega)) _)
    go_enter Try.func4, Try.ntmps4
    have L0lt := L0.1
    have M0lt := M0.1
    go_wp2_with fail
    go_region_held3 (fun W => (W.cell? ⟨w.heap.size, 0, none⟩ = some (.int .i64 A) ∧ W.cell? ⟨w.heap.size, 1, none⟩ = some (.int .i64 B) ∧ W.cell? ⟨w.heap.size, 2, none⟩ = some (.int .i64 C)) ∧ (W.cell? ⟨w.heap.size + 1, 0, none⟩ = some (.int .i64 a) ∧ W.cell? ⟨w.heap.size + 1, 1, none⟩ = some (.int .i64 b) ∧ W.cell? ⟨w.heap.size + 1, 2, none⟩ = some (.int .i64 c) ∧ W.cell? ⟨w.heap.size + 1, 3, none⟩ = some (.int .i64 d) ∧ W.cell? ⟨w.heap.size + 1, 4, none⟩ = some (.int .i64 x) ∧ W.cell? ⟨w.heap.size + 1, 5, none⟩ = some (.int .i64 y))) ((refine ⟨Kt.cells ?_, Km.cells ?_⟩ <;> repeat (first | with_reducible assumption | with_reducible refine Km.drew ?_ | with_reducible refine Km.alloc ?_ _ | with_reducible refine Km.call ?_ (by with_reducible assumption) | with_reducible refine Kt.drew ?_ | with_reducible refine Kt.alloc ?_ _ | with_reducible refine Kt.call ?_ (by with_reducible assumption) | ((with_reducible refine Km.put ?_ ?_); (first | omega | (dsimp only; omega))) | ((with_reducible refine Kt.put ?_ ?_); (first | omega | (dsimp only; omega))) | ((with_reducible refine Km.far ?_ ?_); (first | omega | (dsimp only; omega))))))
      (first
        | (go_at_call 9; ((with_reducible refine (CS.out _).mono ?_); rintro e w1 ⟨rfl, hb1⟩; have L1 : Kt (w.heap.size) A B C w1 := (by repeat (first | with_reducible assumption | with_reducible refine Km.drew ?_ | with_reducible refine Km.alloc ?_ _ | with_reducible refine Km.call ?_ (by with_reducible assumption) | with_reducible refine Kt.drew ?_ | with_reducible refine Kt.alloc ?_ _ | with_reducible refine Kt.call ?_ (by with_reducible assumption))); have M1 : Km (w.heap.size + 1) a b c d x y w1 := (by repeat (first | with_reducible assumption | with_reducible refine Km.drew ?_ | with_reducible refine Km.alloc ?_ _ | with_reducible refine Km.call ?_ (by with_reducible assumption) | with_reducible refine Kt.drew ?_ | with_reducible refine Kt.alloc ?_ _ | with_reducible refine Kt.call ?_ (by with_reducible assumption))); have L1l := L1.1; have M1l := M1.1; have B1 : Below w.heap.size w w1 := (by repeat (first | with_reducible assumption | with_reducible refine Below.drew ?_ | with_reducible refine Below.alloc ?_ (by first | omega | (have := B0.size; simp <;> omega)) _ | with_reducible refine bstep ?_ (by with_reducible assumption)))))
        | (go_at_call 8; ((with_reducible refine (CC.out _).mono ?_); rintro e w2 ⟨rfl, hb2⟩; have L2 : Kt (w.heap.size) A B C w2 := (by repeat (first | with_reducible assumption | with_reducible refine Km.drew ?_ | with_reducible refine Km.alloc ?_ _ | with_reducible refine Km.call ?_ (by with_reducible assumption) | with_reducible refine Kt.drew ?_ | with_reducible refine Kt.alloc ?_ _ | with_reducible refine Kt.call ?_ (by with_reducible assumption))); have M2 : Km (w.heap.size + 1) a b c d x y w2 := (by repeat (first | with_reducible assumption | with_reducible refine Km.drew ?_ | with_reducible refine Km.alloc ?_ _ | with_reducible refine Km.call ?_ (by with_reducible assumption) | with_reducible refine Kt.drew ?_ | with_reducible refine Kt.alloc ?_ _ | with_reducible refine Kt.call ?_ (by with_reducible assumption))); have L2l := L2.1; have M2l := M2.1; have B2 : Below w.heap.size w w2 := (by repeat (first | with_reducible assumption | with_reducible refine Below.drew ?_ | with_reducible refine Below.alloc ?_ (by first | omega | (have := B0.size; simp <;> omega)) _ | with_reducible refine bstep ?_ (by with_reducible assumption))))))
    all_goals
      go_wp2
      go_ret2
      exact ⟨rfl, by repeat (first | with_reducible assumption | with_reducible exact Below.refl _ _ | with_reducible refine Below.setCell ?_ (by first | omega | (simp <;> omega)) _ | with_reducible refine Below.alloc ?_ (by first | omega | (simp <;> omega)) _ | with_reducible refine bstep ?_ (by with_reducible assumption) | with_reducible refine Below.drew ?_)⟩
theorem cells2_at : ∀ (xs : List V2) (i : Nat) (h : i < xs.length), (cells2 xs)[i * 2]? = some (.int .i64 xs[i].1) ∧ (cells2 xs)[i * 2 + 1]? = some (.int .i64 xs[i].2)
  | [], i, h => absurd h (by simp)
  | t :: xs, 0, _ => by simp [cells2]
  | t :: xs, i + 1, h => by
    have hs := cells2_at xs i (by simpa using h)
    have e : cells2 (t :: xs) = [.int .i64 t.1, .int .i64 t.2] ++ cells2 xs := by simp [cells2]
    rw [e, List.getElem?_append_right (by simp; omega), List.getElem?_append_right (by simp; omega)]
    simp only [List.length_cons, List.length_nil, List.getElem_cons_succ]
    rw [show (i + 1) * 2 - (0 + 1 + 1) = i * 2 by omega, show (i + 1) * 2 + 1 - (0 + 1 + 1) = i * 2 + 1 by omega]
    exact hs
theorem IRow.v2 {g : Nat} {xs : List V2} {W : World} (h : IRow g (xs.length * 2) (intAt (cells2 xs)) W) (i : Nat) (hi : i < xs.length) : Ko2 g (i * 2) xs[i].1 xs[i].2 W := by
  have k := h.ko2 (i * 2) (by omega)
  obtain ⟨e0, e1⟩ := cells2_at xs i hi
  have z0 : intAt (cells2 xs) (i * 2) = xs[i].1 := by simp [intAt, e0]
  have z1 : intAt (cells2 xs) (i * 2 + 1) = xs[i].2 := by simp [intAt, e1]
  rwa [z0, z1] at k
set_option maxRecDepth 100000 in
set_option maxHeartbeats 16000000 in
theorem specFix_good (f : Int) (p q : Nat) (B : Int) (a b c d x y : Int) (w : World) (h : okM f (p : Int) B (q : Int) (a, b, c, d, x, y) = true) :
    Calls Try.prog 4 #[.int .i64 f, .agg #[.int .i64 ((p : Int)), .int .i64 B, .int .i64 ((q : Int))], .agg #[.int .i64 a, .int .i64 b, .int .i64 c, .int .i64 d, .int .i64 x, .int .i64 y]] w fun e w' => e = .returned (.tuple #[.int .i64 ((fixL (p : Int) B (q : Int) (a, b, c, d, x, y) (cellP q p)).length : Nat), .int .i64 0]) ∧ Below w.heap.size w w' := by
  obtain ⟨hl, hx, hy⟩ := ok_mid h
  have h5 := okM_iff.1 h
  have hfl := h5.1
  simp only [flB, Bool.and_eq_true] at hfl
  have HQ := Lib.hid (keep_small hfl.1 h5.2.1.1)
  have HLi := Lib.hid (keep_lim hfl.1 h5.2.1.1)
  have HV := Lib.hid h5.2.2
  have CS := Lib.hid (fun W => specSuit_any f (p : Int) B (q : Int) a b c d x y W)
  have CC := Lib.hid (fun W => l06Code_any f (p : Int) B (q : Int) true W)
  rw [suit_ok, h] at CS
  rw [show cod6 f (p : Int) B (q : Int) true = 0 by simp [cod6, ok_fl h]] at CC
  obtain ⟨bp, bq⟩ := latI_bd hl
  have hpq : p * q ≤ 64 := by have := latI_prod hl; exact_mod_cast this
  have HB := Lib.hid (show (p : Int) ≤ 64 ∧ (q : Int) ≤ 64 from ⟨bp, bq⟩)
  have HP := Lib.hid hpq
  have HI := Lib.hid hl
  have HLEN := Lib.hid (show (cellP q p).length = p * q from cellP_len q p)
  have CE := Lib.hid (fun W => l03Cells_any p q B W (by omega) (by omega))
  clear h h5 hfl hl hx hy bp bq hpq
  have L0 : Kt w.heap.size (p : Int) B (q : Int) ((w.alloc (.cells #[.int .i64 (p : Int), .int .i64 B, .int .i64 (q : Int)] 32)).alloc (.cells #[.int .i64 a, .int .i64 b, .int .i64 c, .int .i64 d, .int .i64 x, .int .i64 y] 37)) := (Kt.at w.heap.size rfl).alloc _
  have M0 : Km (w.heap.size + 1) a b c d x y ((w.alloc (.cells #[.int .i64 (p : Int), .int .i64 B, .int .i64 (q : Int)] 32)).alloc (.cells #[.int .i64 a, .int .i64 b, .int .i64 c, .int .i64 d, .int .i64 x, .int .i64 y] 37)) := Km.at (w.heap.size + 1) (by simp)
  have B0 : Below w.heap.size w ((w.alloc (.cells #[.int .i64 (p : Int), .int .i64 B, .int .i64 (q : Int)] 32)).alloc (.cells #[.int .i64 a, .int .i64 b, .int .i64 c, .int .i64 d, .int .i64 x, .int .i64 y] 37)) := ((Below.refl _ _).alloc (Nat.le_refl _) _).alloc (by simp) _
  have L0c := L0.cells
  have M0c := M0.cells
  go_enter Try.func4, Try.ntmps4
  go_wp2_with fail
  go_region_held3 (fun W => (W.cell? ⟨w.heap.size, 0, none⟩ = some (.int .i64 (p : Int)) ∧ W.cell? ⟨w.heap.size, 1, none⟩ = some (.int .i64 B) ∧ W.cell? ⟨w.heap.size, 2, none⟩ = some (.int .i64 (q : Int))) ∧ (W.cell? ⟨w.heap.size + 1, 0, none⟩ = some (.int .i64 a) ∧ W.cell? ⟨w.heap.size + 1, 1, none⟩ = some (.int .i64 b) ∧ W.cell? ⟨w.heap.size + 1, 2, none⟩ = some (.int .i64 c) ∧ W.cell? ⟨w.heap.size + 1, 3, none⟩ = some (.int .i64 d) ∧ W.cell? ⟨w.heap.size + 1, 4, none⟩ = some (.int .i64 x) ∧ W.cell? ⟨w.heap.size + 1, 5, none⟩ = some (.int .i64 y))) ((refine And.intro (Kt.cells ?_) (Km.cells ?_)) <;> repeat (first | with_reducible assumption | with_reducible refine Kt.drew ?_ | with_reducible refine Kt.alloc ?_ _ | with_reducible refine Kt.call ?_ (by with_reducible assumption) | with_reducible refine Km.drew ?_ | with_reducible refine Km.alloc ?_ _ | with_reducible refine Km.call ?_ (by with_reducible assumption) | with_reducible refine Ko2.drew ?_ | with_reducible refine Ko2.alloc ?_ _ | with_reducible refine Ko2.call ?_ (by with_reducible assumption)))
    (first
      | (go_at_call 9; with_reducible refine (CS.out _).mono ?_; rintro e u1 ⟨rfl, hb1⟩; have L1 : Kt w.heap.size (p : Int) B (q : Int) u1 := (by repeat (first | with_reducible assumption | with_reducible refine Kt.drew ?_ | with_reducible refine Kt.alloc ?_ _ | with_reducible refine Kt.call ?_ (by with_reducible assumption) | with_reducible refine Km.drew ?_ | with_reducible refine Km.alloc ?_ _ | with_reducible refine Km.call ?_ (by with_reducible assumption) | with_reducible refine Ko2.drew ?_ | with_reducible refine Ko2.alloc ?_ _ | with_reducible refine Ko2.call ?_ (by with_reducible assumption))); have M1 : Km (w.heap.size + 1) a b c d x y u1 := (by repeat (first | with_reducible assumption | with_reducible refine Kt.drew ?_ | with_reducible refine Kt.alloc ?_ _ | with_reducible refine Kt.call ?_ (by with_reducible assumption) | with_reducible refine Km.drew ?_ | with_reducible refine Km.alloc ?_ _ | with_reducible refine Km.call ?_ (by with_reducible assumption) | with_reducible refine Ko2.drew ?_ | with_reducible refine Ko2.alloc ?_ _ | with_reducible refine Ko2.call ?_ (by with_reducible assumption))); have B1 : Below w.heap.size w u1 := (by repeat (first | with_reducible assumption | with_reducible exact Below.refl _ _ | with_reducible refine Below.alloc ?_ (by first | omega | (simp <;> omega)) _ | with_reducible refine bstep ?_ (by with_reducible assumption) | with_reducible refine Below.drew ?_)))
      | (go_at_call 8; with_reducible refine (CC.out _).mono ?_; rintro e u2 ⟨rfl, hb2⟩; have L2 : Kt w.heap.size (p : Int) B (q : Int) u2 := (by repeat (first | with_reducible assumption | with_reducible refine Kt.drew ?_ | with_reducible refine Kt.alloc ?_ _ | with_reducible refine Kt.call ?_ (by with_reducible assumption) | with_reducible refine Km.drew ?_ | with_reducible refine Km.alloc ?_ _ | with_reducible refine Km.call ?_ (by with_reducible assumption) | with_reducible refine Ko2.drew ?_ | with_reducible refine Ko2.alloc ?_ _ | with_reducible refine Ko2.call ?_ (by with_reducible assumption))); have M2 : Km (w.heap.size + 1) a b c d x y u2 := (by repeat (first | with_reducible assumption | with_reducible refine Kt.drew ?_ | with_reducible refine Kt.alloc ?_ _ | with_reducible refine Kt.call ?_ (by with_reducible assumption) | with_reducible refine Km.drew ?_ | with_reducible refine Km.alloc ?_ _ | with_reducible refine Km.call ?_ (by with_reducible assumption) | with_reducible refine Ko2.drew ?_ | with_reducible refine Ko2.alloc ?_ _ | with_reducible refine Ko2.call ?_ (by with_reducible assumption))); have B2 : Below w.heap.size w u2 := (by repeat (first | with_reducible assumption | with_reducible exact Below.refl _ _ | with_reducible refine Below.alloc ?_ (by first | omega | (simp <;> omega)) _ | with_reducible refine bstep ?_ (by with_reducible assumption) | with_reducible refine Below.drew ?_))))
  all_goals
    have L2c := L2.cells
    clear L0 M0 B0 L1 M1 B1 L0c M0c hb1 hb2
    go_wp2_with fail
    refine (CE.out _).mono ?_
    rintro e w3 ⟨v3, rfl, hown, hb3⟩
    have L3 := L2.call hb3
    have M3 := M2.call hb3
    have B3 := bstep B2 hb3
    have S3 := SRow.of hown (cells2_int _) (by rw [HLEN.out]; have := HP.out; omega)
    have HS := Lib.hid S3
    obtain ⟨ao, cap, rfl⟩ : ∃ ao cap, v3 = .slice ao (cellP q p).length cap := by
      rcases S3.2.2 with ⟨hz, ao, cap, rfl⟩ | ⟨g, cap, rfl, _⟩
      · exact ⟨ao, cap, by rw [hz]⟩
      · exact ⟨_, cap, rfl⟩
    have hlen : ((cellP q p).length : Int) ≤ 64 := by rw [HLEN.out]; have := HP.out; omega
    clear hown hb3 L2 M2 B2 S3 L2c
    go_wp2_with fail
    go_loopw [10, 11] (fun s10 s11 W => ∃ k : Nat, s11 = .int .i64 (k : Int) ∧ k ≤ (cellP q p).length ∧ s10 = .int .i64 ((fixL (p : Int) B (q : Int) (a, b, c, d, x, y) ((cellP q p).take k)).length : Nat) ∧ Kt w.heap.size (p : Int) B (q : Int) W ∧ Km (w.heap.size + 1) a b c d x y W ∧ Below w3.heap.size w3 W) (fun _ s11 _ => (cellP q p).length - (intOf s11).toNat)
    case atStart => exact ⟨0, rfl, by omega, by simp [fixL], L3, M3, Below.refl _ _⟩
    case round =>
      clear L3 M3
      obtain ⟨k, rfl, hk, rfl, hL, hM, hB⟩ := hrel
      by_cases hk1 : k < (cellP q p).length
      · have hk2 : (k : Int) < ((cellP q p).length : Int) := by omega
        have hk3 : (k : Int) ≤ 64 := by omega
        have hres := HS.out.2.2.resolve_left (fun h => by omega)
        have hhi := HS.out.1
        obtain ⟨g, cap', e9, hg0, hg, RA⟩ := hres
        simp only [Value.slice.injEq, true_and] at e9
        obtain ⟨rfl, rfl⟩ := e9
        have q1 := (RA.call hB).v2 k hk1
        have hmem := cellP_mem (List.getElem_mem hk1)
        have HSN := Lib.hid (show (fixL (p : Int) B (q : Int) (a, b, c, d, x, y) ((cellP q p).take (k + 1))).length = (fixL (p : Int) B (q : Int) (a, b, c, d, x, y) ((cellP q p).take k)).length + if decide (mv (p : Int) B (q : Int) (a, b, c, d, x, y) (cellP q p)[k] = (cellP q p)[k]) = true then 1 else 0 by
          rw [List.take_succ_eq_append_getElem hk1]; exact fixL_snoc _ _ _ _ _ _)
        have HLN := Lib.hid (show (fixL (p : Int) B (q : Int) (a, b, c, d, x, y) ((cellP q p).take k)).length ≤ 64 from Nat.le_trans (fixL_len _ _ _ _ _) (by rw [List.length_take]; omega))
        have HK := Lib.hid hk1
        generalize (fixL (p : Int) B (q : Int) (a, b, c, d, x, y) ((cellP q p).take k)).length = nn at *
        clear RA hg hhi hk hg0
        generalize (cellP q p)[k] = xv at q1 hmem HSN
        clear hk1
        obtain ⟨x0, x1⟩ := xv
        dsimp only at q1
        (try dsimp only at hmem)
        have bd := HQ.out
        have hpB := HB.out
        have hvB := vecB_bd HV.out
        have m1 := bd_mul bd.1.1 (p := x0) (by omega)
        have m2 := bd_mul bd.1.2 (p := x1) (by omega)
        have m3 := bd_mul bd.2.1 (p := x0) (by omega)
        have m4 := bd_mul bd.2.2 (p := x1) (by omega)
        (try dsimp only at hvB)
        have CM := Lib.hid (fun W => l07Move_any (p : Int) B (q : Int) a b c d x y x0 x1 W HI.out HLi.out HV.out (decide_eq_true (by omega)) (by unfold midI; omega) (by unfold midI; omega))
        have HE := Lib.hid (show eqV2 (redX (p : Int) B (q : Int) (a * x0 + b * x1 + x) (c * x0 + d * x1 + y)) (redY (q : Int) (c * x0 + d * x1 + y)) x0 x1 = decide (mv (p : Int) B (q : Int) (a, b, c, d, x, y) (x0, x1) = (x0, x1)) from eqV2_dec (mv (p : Int) B (q : Int) (a, b, c, d, x, y) (x0, x1)) (x0, x1))
        generalize redX (p : Int) B (q : Int) (a * x0 + b * x1 + x) (c * x0 + d * x1 + y) = rx at CM HE
        generalize redY (q : Int) (c * x0 + d * x1 + y) = ry at CM HE
        generalize decide (mv (p : Int) B (q : Int) (a, b, c, d, x, y) (x0, x1) = (x0, x1)) = rr at HE HSN
        have hnn : (nn : Int) ≤ 64 := by have := HLN.out; omega
        clear m1 m2 m3 m4 bd hpB hvB hmem
        have he := HE.out
        have q1c := q1.cells
        have hLc := hL.cells
        have hMc := hM.cells
        have zB := hB.size
        rcases rr with _ | _
        · go_wp2_with fail
          go_region_held3 (fun W => (W.cell? ⟨w.heap.size, 0, none⟩ = some (.int .i64 (p : Int)) ∧ W.cell? ⟨w.heap.size, 1, none⟩ = some (.int .i64 B) ∧ W.cell? ⟨w.heap.size, 2, none⟩ = some (.int .i64 (q : Int))) ∧ (W.cell? ⟨w.heap.size + 1, 0, none⟩ = some (.int .i64 a) ∧ W.cell? ⟨w.heap.size + 1, 1, none⟩ = some (.int .i64 b) ∧ W.cell? ⟨w.heap.size + 1, 2, none⟩ = some (.int .i64 c) ∧ W.cell? ⟨w.heap.size + 1, 3, none⟩ = some (.int .i64 d) ∧ W.cell? ⟨w.heap.size + 1, 4, none⟩ = some (.int .i64 x) ∧ W.cell? ⟨w.heap.size + 1, 5, none⟩ = some (.int .i64 y)) ∧ (W.cell? ⟨g, k * 2, none⟩ = some (.int .i64 x0) ∧ W.cell? ⟨g, k * 2 + 1, none⟩ = some (.int .i64 x1))) ((refine ⟨Kt.cells ?_, Km.cells ?_, Ko2.cells ?_⟩) <;> repeat (first | with_reducible assumption | with_reducible refine Kt.drew ?_ | with_reducible refine Kt.alloc ?_ _ | with_reducible refine Kt.call ?_ (by with_reducible assumption) | with_reducible refine Km.drew ?_ | with_reducible refine Km.alloc ?_ _ | with_reducible refine Km.call ?_ (by with_reducible assumption) | with_reducible refine Ko2.drew ?_ | with_reducible refine Ko2.alloc ?_ _ | with_reducible refine Ko2.call ?_ (by with_reducible assumption)))
            (first
              | (go_at_call 11; with_reducible refine (CM.out _).mono ?_; rintro e u5 ⟨rfl, hb5⟩; have L5 : Kt w.heap.size (p : Int) B (q : Int) u5 := (by repeat (first | with_reducible assumption | with_reducible refine Kt.drew ?_ | with_reducible refine Kt.alloc ?_ _ | with_reducible refine Kt.call ?_ (by with_reducible assumption) | with_reducible refine Km.drew ?_ | with_reducible refine Km.alloc ?_ _ | with_reducible refine Km.call ?_ (by with_reducible assumption) | with_reducible refine Ko2.drew ?_ | with_reducible refine Ko2.alloc ?_ _ | with_reducible refine Ko2.call ?_ (by with_reducible assumption))); have M5 : Km (w.heap.size + 1) a b c d x y u5 := (by repeat (first | with_reducible assumption | with_reducible refine Kt.drew ?_ | with_reducible refine Kt.alloc ?_ _ | with_reducible refine Kt.call ?_ (by with_reducible assumption) | with_reducible refine Km.drew ?_ | with_reducible refine Km.alloc ?_ _ | with_reducible refine Km.call ?_ (by with_reducible assumption) | with_reducible refine Ko2.drew ?_ | with_reducible refine Ko2.alloc ?_ _ | with_reducible refine Ko2.call ?_ (by with_reducible assumption))); have X5 : Ko2 g (k * 2) x0 x1 u5 := (by repeat (first | with_reducible assumption | with_reducible refine Kt.drew ?_ | with_reducible refine Kt.alloc ?_ _ | with_reducible refine Kt.call ?_ (by with_reducible assumption) | with_reducible refine Km.drew ?_ | with_reducible refine Km.alloc ?_ _ | with_reducible refine Km.call ?_ (by with_reducible assumption) | with_reducible refine Ko2.drew ?_ | with_reducible refine Ko2.alloc ?_ _ | with_reducible refine Ko2.call ?_ (by with_reducible assumption))); have B5 : Below w3.heap.size w3 u5 := (by repeat (first | with_reducible assumption | with_reducible exact Below.refl _ _ | with_reducible refine Below.alloc ?_ (by first | omega | (simp <;> omega)) _ | with_reducible refine bstep ?_ (by with_reducible assumption) | with_reducible refine Below.drew ?_))))
          all_goals
            go_wp2
            go_roundw
            case rel => exact ⟨k + 1, by go_num, by have := HK.out; omega, by rw [HSN.out]; rfl, by repeat (first | with_reducible assumption | with_reducible refine Kt.drew ?_ | with_reducible refine Kt.alloc ?_ _ | with_reducible refine Kt.call ?_ (by with_reducible assumption) | with_reducible refine Km.drew ?_ | with_reducible refine Km.alloc ?_ _ | with_reducible refine Km.call ?_ (by with_reducible assumption) | with_reducible refine Ko2.drew ?_ | with_reducible refine Ko2.alloc ?_ _ | with_reducible refine Ko2.call ?_ (by with_reducible assumption)), by repeat (first | with_reducible assumption | with_reducible refine Kt.drew ?_ | with_reducible refine Kt.alloc ?_ _ | with_reducible refine Kt.call ?_ (by with_reducible assumption) | with_reducible refine Km.drew ?_ | with_reducible refine Km.alloc ?_ _ | with_reducible refine Km.call ?_ (by with_reducible assumption) | with_reducible refine Ko2.drew ?_ | with_reducible refine Ko2.alloc ?_ _ | with_reducible refine Ko2.call ?_ (by with_reducible assumption)), by repeat (first | with_reducible assumption | with_reducible exact Below.refl _ _ | with_reducible refine Below.alloc ?_ (by first | omega | (simp <;> omega)) _ | with_reducible refine bstep ?_ (by with_reducible assumption) | with_reducible refine Below.drew ?_)⟩
            case measure => (have := HK.out); first | (simp [intOf]; done) | (simp [intOf]; omega)
        · go_wp2_with fail
          go_region_held3 (fun W => (W.cell? ⟨w.heap.size, 0, none⟩ = some (.int .i64 (p : Int)) ∧ W.cell? ⟨w.heap.size, 1, none⟩ = some (.int .i64 B) ∧ W.cell? ⟨w.heap.size, 2, none⟩ = some (.int .i64 (q : Int))) ∧ (W.cell? ⟨w.heap.size + 1, 0, none⟩ = some (.int .i64 a) ∧ W.cell? ⟨w.heap.size + 1, 1, none⟩ = some (.int .i64 b) ∧ W.cell? ⟨w.heap.size + 1, 2, none⟩ = some (.int .i64 c) ∧ W.cell? ⟨w.heap.size + 1, 3, none⟩ = some (.int .i64 d) ∧ W.cell? ⟨w.heap.size + 1, 4, none⟩ = some (.int .i64 x) ∧ W.cell? ⟨w.heap.size + 1, 5, none⟩ = some (.int .i64 y)) ∧ (W.cell? ⟨g, k * 2, none⟩ = some (.int .i64 x0) ∧ W.cell? ⟨g, k * 2 + 1, none⟩ = some (.int .i64 x1))) ((refine ⟨Kt.cells ?_, Km.cells ?_, Ko2.cells ?_⟩) <;> repeat (first | with_reducible assumption | with_reducible refine Kt.drew ?_ | with_reducible refine Kt.alloc ?_ _ | with_reducible refine Kt.call ?_ (by with_reducible assumption) | with_reducible refine Km.drew ?_ | with_reducible refine Km.alloc ?_ _ | with_reducible refine Km.call ?_ (by with_reducible assumption) | with_reducible refine Ko2.drew ?_ | with_reducible refine Ko2.alloc ?_ _ | with_reducible refine Ko2.call ?_ (by with_reducible assumption)))
            (first
              | (go_at_call 11; with_reducible refine (CM.out _).mono ?_; rintro e u5 ⟨rfl, hb5⟩; have L5 : Kt w.heap.size (p : Int) B (q : Int) u5 := (by repeat (first | with_reducible assumption | with_reducible refine Kt.drew ?_ | with_reducible refine Kt.alloc ?_ _ | with_reducible refine Kt.call ?_ (by with_reducible assumption) | with_reducible refine Km.drew ?_ | with_reducible refine Km.alloc ?_ _ | with_reducible refine Km.call ?_ (by with_reducible assumption) | with_reducible refine Ko2.drew ?_ | with_reducible refine Ko2.alloc ?_ _ | with_reducible refine Ko2.call ?_ (by with_reducible assumption))); have M5 : Km (w.heap.size + 1) a b c d x y u5 := (by repeat (first | with_reducible assumption | with_reducible refine Kt.drew ?_ | with_reducible refine Kt.alloc ?_ _ | with_reducible refine Kt.call ?_ (by with_reducible assumption) | with_reducible refine Km.drew ?_ | with_reducible refine Km.alloc ?_ _ | with_reducible refine Km.call ?_ (by with_reducible assumption) | with_reducible refine Ko2.drew ?_ | with_reducible refine Ko2.alloc ?_ _ | with_reducible refine Ko2.call ?_ (by with_reducible assumption))); have X5 : Ko2 g (k * 2) x0 x1 u5 := (by repeat (first | with_reducible assumption | with_reducible refine Kt.drew ?_ | with_reducible refine Kt.alloc ?_ _ | with_reducible refine Kt.call ?_ (by with_reducible assumption) | with_reducible refine Km.drew ?_ | with_reducible refine Km.alloc ?_ _ | with_reducible refine Km.call ?_ (by with_reducible assumption) | with_reducible refine Ko2.drew ?_ | with_reducible refine Ko2.alloc ?_ _ | with_reducible refine Ko2.call ?_ (by with_reducible assumption))); have B5 : Below w3.heap.size w3 u5 := (by repeat (first | with_reducible assumption | with_reducible exact Below.refl _ _ | with_reducible refine Below.alloc ?_ (by first | omega | (simp <;> omega)) _ | with_reducible refine bstep ?_ (by with_reducible assumption) | with_reducible refine Below.drew ?_))))
          all_goals
            go_wp2
            go_roundw
            case rel => exact ⟨k + 1, by go_num, by have := HK.out; omega, by rw [HSN.out]; go_num, by repeat (first | with_reducible assumption | with_reducible refine Kt.drew ?_ | with_reducible refine Kt.alloc ?_ _ | with_reducible refine Kt.call ?_ (by with_reducible assumption) | with_reducible refine Km.drew ?_ | with_reducible refine Km.alloc ?_ _ | with_reducible refine Km.call ?_ (by with_reducible assumption) | with_reducible refine Ko2.drew ?_ | with_reducible refine Ko2.alloc ?_ _ | with_reducible refine Ko2.call ?_ (by with_reducible assumption)), by repeat (first | with_reducible assumption | with_reducible refine Kt.drew ?_ | with_reducible refine Kt.alloc ?_ _ | with_reducible refine Kt.call ?_ (by with_reducible assumption) | with_reducible refine Km.drew ?_ | with_reducible refine Km.alloc ?_ _ | with_reducible refine Km.call ?_ (by with_reducible assumption) | with_reducible refine Ko2.drew ?_ | with_reducible refine Ko2.alloc ?_ _ | with_reducible refine Ko2.call ?_ (by with_reducible assumption)), by repeat (first | with_reducible assumption | with_reducible exact Below.refl _ _ | with_reducible refine Below.alloc ?_ (by first | omega | (simp <;> omega)) _ | with_reducible refine bstep ?_ (by with_reducible assumption) | with_reducible refine Below.drew ?_)⟩
            case measure => (have := HK.out); first | (simp [intOf]; done) | (simp [intOf]; omega)
      · obtain rfl : k = (cellP q p).length := by omega
        rw [List.take_length]
        have B9 := B3.trans (hB.mono B3.size)
        clear hL hM hk hk1
        go_wp2
        go_ret2
        exact ⟨rfl, B9⟩
theorem lat_nat {A B C : Int} (h : latI A B C) : ∃ p q : Nat, A = (p : Int) ∧ C = (q : Int) := by
  obtain ⟨h1, h2, _⟩ := h
  exact ⟨A.toNat, C.toNat, by omega, by omega⟩
def fxT (f A B C : Int) (m : M6) : Value := .tuple #[.int .i64 (fxN f A B C m), .int .i64 (cod6 f A B C (okM f A B C m))]
theorem fxT_bad {f A B C : Int} {m : M6} (h : okM f A B C m = false) : fxT f A B C m = .tuple #[.int .i64 0, .int .i64 (cod6 f A B C false)] := by simp [fxT, fxN, h]
theorem fxT_good {f : Int} {p q : Nat} {B : Int} {m : M6} (h : okM f (p : Int) B (q : Int) m = true) : fxT f (p : Int) B (q : Int) m = .tuple #[.int .i64 ((fixL (p : Int) B (q : Int) m (cellP q p)).length : Nat), .int .i64 0] := by
  simp [fxT, fxN, h, cod6, ok_fl h]
theorem implFix_any (f A B C a b c d x y : Int) (w : World) :
    Calls Try.prog 7 #[.int .i64 f, .agg #[.int .i64 A, .int .i64 B, .int .i64 C], .agg #[.int .i64 a, .int .i64 b, .int .i64 c, .int .i64 d, .int .i64 x, .int .i64 y]] w fun e w' => e = .returned (fxT f A B C (a, b, c, d, x, y)) ∧ Below w.heap.size w w' := by
  rcases h : okM f A B C (a, b, c, d, x, y) with _ | _
  · rw [fxT_bad h]; exact implFix_bad f A B C a b c d x y w h
  · obtain ⟨p, q, rfl, rfl⟩ := lat_nat (ok_mid h).1
    rw [fxT_good h]; exact implFix_good f p q B a b c d x y w h
theorem specFix_any (f A B C a b c d x y : Int) (w : World) :
    Calls Try.prog 4 #[.int .i64 f, .agg #[.int .i64 A, .int .i64 B, .int .i64 C], .agg #[.int .i64 a, .int .i64 b, .int .i64 c, .int .i64 d, .int .i64 x, .int .i64 y]] w fun e w' => e = .returned (fxT f A B C (a, b, c, d, x, y)) ∧ Below w.heap.size w w' := by
  rcases h : okM f A B C (a, b, c, d, x, y) with _ | _
  · rw [fxT_bad h]; exact specFix_bad f A B C a b c d x y w h
  · obtain ⟨p, q, rfl, rfl⟩ := lat_nat (ok_mid h).1
    rw [fxT_good h]; exact specFix_good f p q B a b c d x y w h
set_option maxRecDepth 100000 in
set_option maxRecDepth 100000 in
set_option maxHeartbeats 8000000 in
theorem walkFix (f A B C a b c d x y : Int) (w : World) :
    Calls Try.prog 3 #[.int .i64 f, .agg #[.int .i64 A, .int .i64 B, .int .i64 C], .agg #[.int .i64 a, .int .i64 b, .int .i64 c, .int .i64 d, .int .i64 x, .int .i64 y]] w fun e w' => e = .returned (.bool true) ∧ Below w.heap.size w w' := by
  have CS := Lib.hid (fun W => specFix_any f A B C a b c d x y W)
  have CI := Lib.hid (fun W => implFix_any f A B C a b c d x y W)
  unfold fxT at CS CI
  generalize fxN f A B C (a, b, c, d, x, y) = r0 at CS CI
  generalize cod6 f A B C (okM f A B C (a, b, c, d, x, y)) = r1 at CS CI
  have L0 : Kt (w.heap.size) A B C ((w.alloc (.cells #[.int .i64 A, .int .i64 B, .int .i64 C] 23)).alloc (.cells #[.int .i64 a, .int .i64 b, .int .i64 c, .int .i64 d, .int .i64 x, .int .i64 y] 29)) := ((Kt.at (w.heap.size) rfl).alloc _)
  have M0 : Km (w.heap.size + 1) a b c d x y ((w.alloc (.cells #[.int .i64 A, .int .i64 B, .int .i64 C] 23)).alloc (.cells #[.int .i64 a, .int .i64 b, .int .i64 c, .int .i64 d, .int .i64 x, .int .i64 y] 29)) := (Km.at (w.heap.size + 1) (by simp))
  have B0 : Below w.heap.size w ((w.alloc (.cells #[.int .i64 A, .int .i64 B, .int .i64 C] 23)).alloc (.cells #[.int .i64 a, .int .i64 b, .int .i64 c, .int .i64 d, .int .i64 x, .int .i64 y] 29)) := (Below.alloc (Below.alloc (Below.refl _ _) (by first | with_reducible exact Nat.le_refl _ | (simp <;> omega)) _) (by first | with_reducible exact Nat.le_refl _ | (simp <;> omega)) _)
  go_enter Try.func3, Try.ntmps3
  have L0lt := L0.1
  have M0lt := M0.1
  go_wp2_with fail
  go_region_held3 (fun W => (W.cell? ⟨w.heap.size, 0, none⟩ = some (.int .i64 A) ∧ W.cell? ⟨w.heap.size, 1, none⟩ = some (.int .i64 B) ∧ W.cell? ⟨w.heap.size, 2, none⟩ = some (.int .i64 C)) ∧ (W.cell? ⟨w.heap.size + 1, 0, none⟩ = some (.int .i64 a) ∧ W.cell? ⟨w.heap.size + 1, 1, none⟩ = some (.int .i64 b) ∧ W.cell? ⟨w.heap.size + 1, 2, none⟩ = some (.int .i64 c) ∧ W.cell? ⟨w.heap.size + 1, 3, none⟩ = some (.int .i64 d) ∧ W.cell? ⟨w.heap.size + 1, 4, none⟩ = some (.int .i64 x) ∧ W.cell? ⟨w.heap.size + 1, 5, none⟩ = some (.int .i64 y))) ((refine ⟨Kt.cells ?_, Km.cells ?_⟩ <;> repeat (first | with_reducible assumption | with_reducible refine Km.drew ?_ | with_reducible refine Km.alloc ?_ _ | with_reducible refine Km.call ?_ (by with_reducible assumption) | with_reducible refine Kt.drew ?_ | with_reducible refine Kt.alloc ?_ _ | with_reducible refine Kt.call ?_ (by with_reducible assumption) | ((with_reducible refine Km.put ?_ ?_); (first | omega | (dsimp only; omega))) | ((with_reducible refine Kt.put ?_ ?_); (first | omega | (dsimp only; omega))) | ((with_reducible refine Km.far ?_ ?_); (first | omega | (dsimp only; omega))))))
    (first
      | (go_at_call 5; ((with_reducible refine (toLat_any _ _ _ _).mono ?_); rintro e w1 ⟨rfl, hb1⟩; have L1 : Kt (w.heap.size) A B C w1 := (by repeat (first | with_reducible assumption | with_reducible refine Km.drew ?_ | with_reducible refine Km.alloc ?_ _ | with_reducible refine Km.call ?_ (by with_reducible assumption) | with_reducible refine Kt.drew ?_ | with_reducible refine Kt.alloc ?_ _ | with_reducible refine Kt.call ?_ (by with_reducible assumption))); have M1 : Km (w.heap.size + 1) a b c d x y w1 := (by repeat (first | with_reducible assumption | with_reducible refine Km.drew ?_ | with_reducible refine Km.alloc ?_ _ | with_reducible refine Km.call ?_ (by with_reducible assumption) | with_reducible refine Kt.drew ?_ | with_reducible refine Kt.alloc ?_ _ | with_reducible refine Kt.call ?_ (by with_reducible assumption))); have L1l := L1.1; have M1l := M1.1; have B1 : Below w.heap.size w w1 := (by repeat (first | with_reducible assumption | with_reducible refine Below.drew ?_ | with_reducible refine Below.alloc ?_ (by first | omega | (have := B0.size; simp <;> omega)) _ | with_reducible refine bstep ?_ (by with_reducible assumption)))))
      | (go_at_call 6; ((with_reducible refine (toMo_any _ _ _ _ _ _ _).mono ?_); rintro e w2 ⟨rfl, hb2⟩; have L2 : Kt (w.heap.size) A B C w2 := (by repeat (first | with_reducible assumption | with_reducible refine Km.drew ?_ | with_reducible refine Km.alloc ?_ _ | with_reducible refine Km.call ?_ (by with_reducible assumption) | with_reducible refine Kt.drew ?_ | with_reducible refine Kt.alloc ?_ _ | with_reducible refine Kt.call ?_ (by with_reducible assumption))); have M2 : Km (w.heap.size + 1) a b c d x y w2 := (by repeat (first | with_reducible assumption | with_reducible refine Km.drew ?_ | with_reducible refine Km.alloc ?_ _ | with_reducible refine Km.call ?_ (by with_reducible assumption) | with_reducible refine Kt.drew ?_ | with_reducible refine Kt.alloc ?_ _ | with_reducible refine Kt.call ?_ (by with_reducible assumption))); have L2l := L2.1; have M2l := M2.1; have B2 : Below w.heap.size w w2 := (by repeat (first | with_reducible assumption | with_reducible refine Below.drew ?_ | with_reducible refine Below.alloc ?_ (by first | omega | (have := B0.size; simp <;> omega)) _ | with_reducible refine bstep ?_ (by with_reducible assumption)))))
      | (go_at_call 4; ((with_reducible refine (CS.out _).mono ?_); rintro e w3 ⟨rfl, hb3⟩; have L3 : Kt (w.heap.size) A B C w3 := (by repeat (first | with_reducible assumption | with_reducible refine Km.drew ?_ | with_reducible refine Km.alloc ?_ _ | with_reducible refine Km.call ?_ (by with_reducible assumption) | with_reducible refine Kt.drew ?_ | with_reducible refine Kt.alloc ?_ _ | with_reducible refine Kt.call ?_ (by with_reducible assumption))); have M3 : Km (w.heap.size + 1) a b c d x y w3 := (by repeat (first | with_reducible assumption | with_reducible refine Km.drew ?_ | with_reducible refine Km.alloc ?_ _ | with_reducible refine Km.call ?_ (by with_reducible assumption) | with_reducible refine Kt.drew ?_ | with_reducible refine Kt.alloc ?_ _ | with_reducible refine Kt.call ?_ (by with_reducible assumption))); have L3l := L3.1; have M3l := M3.1; have B3 : Below w.heap.size w w3 := (by repeat (first | with_reducible assumption | with_reducible refine Below.drew ?_ | with_reducible refine Below.alloc ?_ (by first | omega | (have := B0.size; simp <;> omega)) _ | with_reducible refine bstep ?_ (by with_reducible assumption))))))
  all_goals
    have L3lt := L3.1
    have M3lt := M3.1
    go_wp2_with fail
    go_region_held3 (fun W => (W.cell? ⟨w.heap.size, 0, none⟩ = some (.int .i64 A) ∧ W.cell? ⟨w.heap.size, 1, none⟩ = some (.int .i64 B) ∧ W.cell? ⟨w.heap.size, 2, none⟩ = some (.int .i64 C)) ∧ (W.cell? ⟨w.heap.size + 1, 0, none⟩ = some (.int .i64 a) ∧ W.cell? ⟨w.heap.size + 1, 1, none⟩ = some (.int .i64 b) ∧ W.cell? ⟨w.heap.size + 1, 2, none⟩ = some (.int .i64 c) ∧ W.cell? ⟨w.heap.size + 1, 3, none⟩ = some (.int .i64 d) ∧ W.cell? ⟨w.heap.size + 1, 4, none⟩ = some (.int .i64 x) ∧ W.cell? ⟨w.heap.size + 1, 5, none⟩ = some (.int .i64 y))) ((refine ⟨Kt.cells ?_, Km.cells ?_⟩ <;> repeat (first | with_reducible assumption | with_reducible refine Km.drew ?_ | with_reducible refine Km.alloc ?_ _ | with_reducible refine Km.call ?_ (by with_reducible assumption) | with_reducible refine Kt.drew ?_ | with_reducible refine Kt.alloc ?_ _ | with_reducible refine Kt.call ?_ (by with_reducible assumption) | ((with_reducible refine Km.put ?_ ?_); (first | omega | (dsimp only; omega))) | ((with_reducible refine Kt.put ?_ ?_); (first | omega | (dsimp only; omega))) | ((with_reducible refine Km.far ?_ ?_); (first | omega | (dsimp only; omega))))))
      (first
        | (go_at_call 5; ((with_reducible refine (toLat_any _ _ _ _).mono ?_); rintro e w4 ⟨rfl, hb4⟩; have L4 : Kt (w.heap.size) A B C w4 := (by repeat (first | with_reducible assumption | with_reducible refine Km.drew ?_ | with_reducible refine Km.alloc ?_ _ | with_reducible refine Km.call ?_ (by with_reducible assumption) | with_reducible refine Kt.drew ?_ | with_reducible refine Kt.alloc ?_ _ | with_reducible refine Kt.call ?_ (by with_reducible assumption))); have M4 : Km (w.heap.size + 1) a b c d x y w4 := (by repeat (first | with_reducible assumption | with_reducible refine Km.drew ?_ | with_reducible refine Km.alloc ?_ _ | with_reducible refine Km.call ?_ (by with_reducible assumption) | with_reducible refine Kt.drew ?_ | with_reducible refine Kt.alloc ?_ _ | with_reducible refine Kt.call ?_ (by with_reducible assumption))); have L4l := L4.1; have M4l := M4.1; have B4 : Below w.heap.size w w4 := (by repeat (first | with_reducible assumption | with_reducible refine Below.drew ?_ | with_reducible refine Below.alloc ?_ (by first | omega | (have := B3.size; simp <;> omega)) _ | with_reducible refine bstep ?_ (by with_reducible assumption)))))
        | (go_at_call 6; ((with_reducible refine (toMo_any _ _ _ _ _ _ _).mono ?_); rintro e w5 ⟨rfl, hb5⟩; have L5 : Kt (w.heap.size) A B C w5 := (by repeat (first | with_reducible assumption | with_reducible refine Km.drew ?_ | with_reducible refine Km.alloc ?_ _ | with_reducible refine Km.call ?_ (by with_reducible assumption) | with_reducible refine Kt.drew ?_ | with_reducible refine Kt.alloc ?_ _ | with_reducible refine Kt.call ?_ (by with_reducible assumption))); have M5 : Km (w.heap.size + 1) a b c d x y w5 := (by repeat (first | with_reducible assumption | with_reducible refine Km.drew ?_ | with_reducible refine Km.alloc ?_ _ | with_reducible refine Km.call ?_ (by with_reducible assumption) | with_reducible refine Kt.drew ?_ | with_reducible refine Kt.alloc ?_ _ | with_reducible refine Kt.call ?_ (by with_reducible assumption))); have L5l := L5.1; have M5l := M5.1; have B5 : Below w.heap.size w w5 := (by repeat (first | with_reducible assumption | with_reducible refine Below.drew ?_ | with_reducible refine Below.alloc ?_ (by first | omega | (have := B3.size; simp <;> omega)) _ | with_reducible refine bstep ?_ (by with_reducible assumption)))))
        | (go_at_call 7; ((with_reducible refine (CI.out _).mono ?_); rintro e w6 ⟨rfl, hb6⟩; have L6 : Kt (w.heap.size) A B C w6 := (by repeat (first | with_reducible assumption | with_reducible refine Km.drew ?_ | with_reducible refine Km.alloc ?_ _ | with_reducible refine Km.call ?_ (by with_reducible assumption) | with_reducible refine Kt.drew ?_ | with_reducible refine Kt.alloc ?_ _ | with_reducible refine Kt.call ?_ (by with_reducible assumption))); have M6 : Km (w.heap.size + 1) a b c d x y w6 := (by repeat (first | with_reducible assumption | with_reducible refine Km.drew ?_ | with_reducible refine Km.alloc ?_ _ | with_reducible refine Km.call ?_ (by with_reducible assumption) | with_reducible refine Kt.drew ?_ | with_reducible refine Kt.alloc ?_ _ | with_reducible refine Kt.call ?_ (by with_reducible assumption))); have L6l := L6.1; have M6l := M6.1; have B6 : Below w.heap.size w w6 := (by repeat (first | with_reducible assumption | with_reducible refine Below.drew ?_ | with_reducible refine Below.alloc ?_ (by first | omega | (have := B3.size; simp <;> omega)) _ | with_reducible refine bstep ?_ (by with_reducible assumption))))))
    all_goals
      go_wp2
      all_goals
        go_ret
        refine ⟨rfl, ?_⟩
        repeat (first | with_reducible assumption | with_reducible exact Below.refl _ _ | with_reducible refine Below.setCell ?_ (by first | omega | (simp <;> omega)) _ | with_reducible refine Below.alloc ?_ (by first | omega | (simp <;> omega)) _ | with_reducible refine bstep ?_ (by with_reducible assumption) | with_reducible refine Below.drew ?_)
end Go.Proofs.Ytmadgbbkkkibcaa
