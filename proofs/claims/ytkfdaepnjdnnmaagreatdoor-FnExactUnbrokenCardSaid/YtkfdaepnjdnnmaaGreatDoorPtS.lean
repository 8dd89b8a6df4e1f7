/-
  Whether a shift keeps a pattern, in the program, and whether a motion does, in the model. Condition: the pattern is valid, the numbers small.
-/
import Derived.Test.YtkfdaepnjdnnmaaGreatDoorPtA
import Derived.Test.YtkfdaepnjdnnmaaGreatDoorCeS
import Derived.Test.YtkfdaepnjdnnmaaGreatDoorRgH
namespace Go.Proofs.YtkfdaepnjdnnmaaGreatDoor
open Go.RowKit Go.Shelf
attribute [local go_sem] Oper.semAt_some
set_option linter.unusedSimpArgs false
set_option linter.unusedVariables false

theorem same_own9 {β : Type} (Bs : List Nat) (W0 : World) (h : ∀ b ∈ Bs, ∃ o : Obj, W0.heap[b]? = some o ∧ o.isCells = true) : Own (fun (_ : β) W => ∀ b ∈ Bs, W.heap[b]? = W0.heap[b]?) := fun s X Y row hs hg hrow b hb => by
  obtain ⟨o, h1, h2⟩ := h b hb
  have hx := hs b hb
  rw [h1] at hx
  exact ((hg.block b (Array.getElem?_eq_some_iff.1 hx).1 (fun e => by obtain ⟨o', k1, k2⟩ := hrow b e.symm; rw [hx] at k1; cases k1; rw [h2] at k2; cases k2)).trans hx).trans h1.symm
theorem cells_of9 {W : World} {g i : Nat} {v : Value} (h : W.cell? ⟨g, i, none⟩ = some v) : ∃ o : Obj, W.heap[g]? = some o ∧ o.isCells = true := by
  rcases ho : W.heap[g]? with _ | o
  · simp [World.cell?, ho] at h
  · refine ⟨o, rfl, ?_⟩
    rcases o <;> simp_all [World.cell?, Obj.isCells]
theorem Bx.same {g : Nat} {us : List Value} {W0 W : World} (h : Bx g us W0) (e : W.heap[g]? = W0.heap[g]?) : Bx g us W := by
  refine ⟨?_, fun i u hu => (World.cell?_of_block (w := W0) (w' := W) (a := ⟨g, i, none⟩) e).trans (h.cel i u hu)⟩
  have h1 := h.lt
  rw [Array.getElem?_eq_getElem h1] at e
  exact (Array.getElem?_eq_some_iff.1 e).1
theorem Bx.of_heap {g : Nat} {us : List Value} {T : TypeId} {W : World} (h : W.heap[g]? = some (.cells us.toArray T (0, 0))) : Bx g us W :=
  ⟨(Array.getElem?_eq_some_iff.1 h).1, fun i u e => by simp [World.cell?, h, e]⟩
abbrev V29 := Int × Int
theorem mem_cellP {p q : Nat} {x0 x1 : Int} (h : (0 ≤ x0 ∧ x0 < (p : Int)) ∧ (0 ≤ x1 ∧ x1 < (q : Int))) : ((x0, x1) : V29) ∈ cellP q p := by
  unfold cellP cellR
  refine List.mem_flatMap.2 ⟨x0.toNat, List.mem_range.2 (by omega), List.mem_map.2 ⟨x1.toNat, List.mem_range.2 (by omega), ?_⟩⟩
  rw [show ((x0.toNat : Nat) : Int) = x0 by omega, show ((x1.toNat : Nat) : Int) = x1 by omega]
/- whether a shift keeps the colours of cells -/
def kepS (A B C : Int) (F : Nat → Int) (sx sy : Int) (L : List V29) : Bool := L.all fun v => F (numP A B C (v.1 + sx) (v.2 + sy)) == F (numP A B C v.1 v.2)
/- whether a motion does -/
def kepM (A B C : Int) (F : Nat → Int) (a b c d x y : Int) (L : List V29) : Bool := L.all fun v => F (numP A B C (a * v.1 + b * v.2 + x) (c * v.1 + d * v.2 + y)) == F (numP A B C v.1 v.2)
theorem kepM_unit (A B C : Int) (F : Nat → Int) (x y : Int) (L : List V29) : kepM A B C F 1 0 0 1 x y L = kepS A B C F x y L := by
  unfold kepM kepS
  congr 1
  funext v
  rw [show 1 * v.1 + 0 * v.2 + x = v.1 + x by omega, show 0 * v.1 + 1 * v.2 + y = v.2 + y by omega]
set_option maxHeartbeats 1000000 in
theorem plus9_any (x y x' y' : Int) (w : World) (h1 : midI (x + x')) (h2 : midI (y + y')) :
    Calls Tryz.prog 142 #[.agg #[.int .i64 x, .int .i64 y], .agg #[.int .i64 x', .int .i64 y']] w fun e w' => e = .returned (.agg #[.int .i64 (x + x'), .int .i64 (y + y')]) ∧ Below w.heap.size w w' := by
  unfold midI at h1 h2
  go_enter Tryz.func142, Tryz.ntmps142
  go_wp2
  refine bodyPost_ret (v := .agg #[.int .i64 (x + x'), .int .i64 (y + y')]) (by simp [results, Tryz.results142, go_sem]) rfl ⟨rfl, ?_⟩
  repeat (first | exact Below.refl _ _ | refine Below.setCell ?_ (by simp) _ | refine Below.alloc ?_ (by simp; try omega) _)
set_option maxRecDepth 100000 in
set_option maxHeartbeats 16000000 in
theorem shiftKept_any {lo hi p q n : Nat} {f B : Int} {v : Value} {F : Nat → Int} {w : World} (h : PatI f p B q n F) (hv : SRow lo hi 1 v n F w) (sx sy : Int) (hx : -1000 ≤ sx ∧ sx ≤ 1000) (hy : -1000 ≤ sy ∧ sy ≤ 1000) :
    Calls Tryz.prog 114 #[.agg #[.int .i64 f, .int .i64 (p : Int), .int .i64 B, .int .i64 (q : Int), v], .agg #[.int .i64 sx, .int .i64 sy]] w fun e w' => e = .returned (.bool (kepS (p : Int) B (q : Int) F sx sy (cellP q p))) ∧ Below w.heap.size w w' := by
  have R := Lib.hid hv
  have HH := Lib.hid h
  obtain ⟨hp1, hp2, hq1, hq2, hn64, hn1⟩ := h.bd
  have hpq : p * q ≤ 64 := by rw [← h.nn]; exact hn64
  have HP := Lib.hid hpq
  obtain ⟨g, cap, rfl, hg, _, r⟩ := hv.irow hn1
  have hgs := hv.1
  have hgw : g < w.heap.size := by omega
  have HSM := Lib.hid (And.intro hx hy)
  clear hv h hpq hx hy
  refine (callsIn_wide (n := 3)).1 ?_
  refine callsIn_of_wp_marks Tryz.func114 rfl trivial ?_ rfl
  simp only [Tryz.ntmps114, List.size_toArray, List.length_cons, List.length_nil, Nat.reduceAdd, Nat.reduceSub, Array.replicate_succ, Array.replicate_zero, List.push_toArray, List.append_toArray, List.nil_append, List.cons_append]
  gi_wp2_with (refine ⟨trivial, ?_⟩; gi_at_call 91; refine (cellsS_in Fence.wide _ trivial rfl _ _ _ _).mono ?_; rintro e w4 ⟨rfl, rfl⟩)
  obtain ⟨W0, hW0⟩ : ∃ W0, ((((w.alloc (.cells #[.int .i64 f, .int .i64 (p : Int), .int .i64 B, .int .i64 (q : Int), .slice (some ⟨g, 0, none⟩) n cap] 35)).alloc (.cells #[.int .i64 sx, .int .i64 sy] 53)).alloc (.cells #[.bool false] 4)).alloc (.cells #[.int .i64 (p : Int), .int .i64 B, .int .i64 (q : Int)] 33)) = W0 := ⟨_, rfl⟩
  have hsz : W0.heap.size = w.heap.size + 4 := by rw [← hW0]; simp
  have PW : Bx w.heap.size [.int .i64 f, .int .i64 (p : Int), .int .i64 B, .int .i64 (q : Int), .slice (some ⟨g, 0, none⟩) n cap] W0 := by rw [← hW0]; exact (((Bx.at _ rfl).alloc _).alloc _).alloc _
  have VW : Bx (w.heap.size + 1) [.int .i64 sx, .int .i64 sy] W0 := by rw [← hW0]; exact ((Bx.at _ (by simp)).alloc _).alloc _
  have bC : W0.heap[w.heap.size + 1 + 1]? = some (.cells #[.bool false] 4 (0, 0)) := by rw [← hW0]; refine (Below.heap_alloc _ _ _ (by simp)).trans ?_; simpa using World.alloc_heap_new ((w.alloc (.cells #[.int .i64 f, .int .i64 (p : Int), .int .i64 B, .int .i64 (q : Int), .slice (some ⟨g, 0, none⟩) n cap] 35)).alloc (.cells #[.int .i64 sx, .int .i64 sy] 53)) (.cells #[.bool false] 4)
  have bR : W0.heap[w.heap.size + 1 + 1 + 1]? = some (.cells #[.int .i64 (p : Int), .int .i64 B, .int .i64 (q : Int)] 33 (0, 0)) := by rw [← hW0]; simpa using World.alloc_heap_new (((w.alloc (.cells #[.int .i64 f, .int .i64 (p : Int), .int .i64 B, .int .i64 (q : Int), .slice (some ⟨g, 0, none⟩) n cap] 35)).alloc (.cells #[.int .i64 sx, .int .i64 sy] 53)).alloc (.cells #[.bool false] 4)) (.cells #[.int .i64 (p : Int), .int .i64 B, .int .i64 (q : Int)] 33)
  have B0 : Below w.heap.size w W0 := by rw [← hW0]; repeat (first | with_reducible exact Below.refl _ _ | with_reducible assumption | with_reducible refine Below.setCell ?_ (by first | omega | (dsimp only; omega) | (simp <;> omega)) _ | with_reducible refine Below.alloc ?_ (by first | omega | (simp <;> omega)) _ | with_reducible refine bstep ?_ (by with_reducible assumption) | with_reducible refine Below.drew ?_ | with_reducible refine below_drewN ?_ _)
  have cA : W0.cell? ⟨w.heap.size + 1 + 1 + 1, 0, none⟩ = some (.int .i64 (p : Int)) := by simp [World.cell?, bR]
  have cC : W0.cell? ⟨w.heap.size + 1 + 1 + 1, 2, none⟩ = some (.int .i64 (q : Int)) := by simp [World.cell?, bR]
  have HS : Hid (∀ bb ∈ [w.heap.size, w.heap.size + 1], ∃ ob : Obj, W0.heap[bb]? = some ob ∧ ob.isCells = true) := Lib.hid (by
    intro bb hbb
    simp only [List.mem_cons, List.not_mem_nil, or_false] at hbb
    rcases hbb with rfl | rfl
    · exact cells_of9 PW.c0
    · exact cells_of9 VW.c0)
  have HPW := Lib.hid PW
  have HVW := Lib.hid VW
  rw [hW0]
  clear hW0 PW VW
  have hz := B0.size
  refine wpIn_rangeFunc_ownH rfl (by omega) (gf := 135) (lb := #[.pointer (some ⟨w.heap.size + 1 + 1 + 1, 0, none⟩)]) rfl trivial (enters_of Tryz.func135 (by kernel_rfl) rfl)
    (cellsS_stops Fence.wide (3 - 1) trivial rfl (by omega) (w.heap.size + 1 + 1 + 1) p q hp2 hq2 W0 (by omega) cA cC) (fun h k => Eq.trans k h) (keepC_b (by omega)) (Below.refl _ _) (fun _ => rfl)
    (fun pre W => (((W.heap[w.heap.size + 1 + 1]? = some (.cells #[.bool false] 4 (0, 0)) ∧ W.heap[w.heap.size + 1 + 1 + 1]? = some (.cells #[.int .i64 (p : Int), .int .i64 B, .int .i64 (q : Int)] 33 (0, 0))) ∧ (∀ bb ∈ [w.heap.size, w.heap.size + 1], W.heap[bb]? = W0.heap[bb]?)) ∧ (∀ v ∈ pre.map Subtype.val, (F (numP (p : Int) B (q : Int) (v.1 + sx) (v.2 + sy)) == F (numP (p : Int) B (q : Int) v.1 v.2)) = true)) ∧ Below w.heap.size w W)
    (fun c pre W => c = .ret ∧ W.heap[w.heap.size + 1 + 1]? = some (.cells #[.bool false] 4 (0, 0)) ∧ kepS (p : Int) B (q : Int) F sx sy (cellP q p) = false ∧ Below w.heap.size w W)
    (OwnFrom.and (OwnFrom.and (OwnFrom.and (OwnFrom.and (Own.from (at_ownC _ _ rfl) _) (Own.from (at_ownC _ _ rfl) _)) (Own.from (same_own9 _ W0 HS.out) _)) (fun s X Y row hs _ _ => hs)) (ownFrom_below (Nat.le_refl _) hz))
    (fun c => OwnFrom.and (fun s X Y row hs _ _ => hs) (OwnFrom.and (Own.from (at_ownC _ _ rfl) _) (OwnFrom.and (fun s X Y row hs _ _ => hs) (ownFrom_below (Nat.le_refl _) hz))))
    ⟨⟨⟨⟨bC, bR⟩, fun _ _ => rfl⟩, fun v hv => by simp at hv⟩, B0⟩
    (fun xx a' W => ∃ gx, w.heap.size + 1 + 1 + 1 < gx ∧ W.heap[gx]? = some (.cells #[.int .i64 xx.1.1, .int .i64 xx.1.2] 53 (0, 0)) ∧ a' = { tmps := #[.agg #[.int .i64 f, .int .i64 (p : Int), .int .i64 B, .int .i64 (q : Int), .slice (some ⟨g, 0, none⟩) n cap], .agg #[.int .i64 sx, .int .i64 sy], .pointer (some ⟨w.heap.size, 0, none⟩), .pointer (some ⟨w.heap.size + 1, 0, none⟩), .pointer (some ⟨w.heap.size + 1 + 1, 0, none⟩), .pointer (some ⟨gx, 0, none⟩), .pointer (some ⟨w.heap.size, 1, none⟩), .agg #[.int .i64 ((p : Int)), .int .i64 B, .int .i64 ((q : Int))], .func (.func 135) #[] #[.pointer (some ⟨w.heap.size + 1 + 1 + 1, 0, none⟩)], .agg #[.int .i64 xx.1.1, .int .i64 xx.1.2], undef, undef, undef, undef, undef, undef, undef, undef, undef], defers := [] })
    (fun x a' _ X Y row hs hg hr => by obtain ⟨gx, h1, h2, h3⟩ := hs; exact ⟨gx, h1, at_ownC gx _ rfl () X Y row h2 hg (fun r e => (hr r e).2), h3⟩)
    ?assign ?body ?done ?stop
  case assign =>
    rintro l pre xx W K ⟨⟨⟨⟨hC, hR⟩, hS⟩, hP⟩, hB1⟩ hK
    gi_wp2
    have hltR := (Array.getElem?_eq_some_iff.1 hR).1
    have hltC := (Array.getElem?_eq_some_iff.1 hC).1
    have hKB : KeepC (w.heap.size + 1 + 1 + 1) W (W.alloc (.cells #[.int .i64 xx.1.1, .int .i64 xx.1.2] 53)) := Below.heap_alloc W _ _ hltR
    refine hK _ _ ((KeepsOthers.alloc _ _).from _) hKB ⟨⟨⟨⟨(Below.heap_alloc W _ _ hltC).trans hC, hKB.trans hR⟩, fun bb hbb => ?_⟩, hP⟩, hB1.alloc hB1.size _⟩ ⟨W.heap.size, hltR, World.alloc_heap_new W _, rfl⟩
    obtain ⟨ob, h1, _⟩ := HS.out bb hbb
    have h2 := hS bb hbb
    rw [h1] at h2
    exact (Below.heap_alloc W _ _ (Array.getElem?_eq_some_iff.1 h2).1).trans (h2.trans h1.symm)
  case body =>
    rintro l pre xx a' W hl ⟨r9, hr⟩ ⟨⟨⟨⟨hC, hR⟩, hS⟩, hP⟩, hB1⟩ ⟨gx, hgx, bX, rfl⟩ hlt
    obtain ⟨⟨x0, x1⟩, hxx⟩ := xx
    dsimp only at bX
    have hx2 : (0 ≤ x0 ∧ x0 < (p : Int)) ∧ (0 ≤ x1 ∧ x1 < (q : Int)) := hxx
    have lC := (Array.getElem?_eq_some_iff.1 hC).1
    have lR := (Array.getElem?_eq_some_iff.1 hR).1
    have lX := (Array.getElem?_eq_some_iff.1 bX).1
    have P0 : Bx w.heap.size [.int .i64 f, .int .i64 (p : Int), .int .i64 B, .int .i64 (q : Int), .slice (some ⟨g, 0, none⟩) n cap] W.drew := (HPW.out.same (hS w.heap.size (by simp))).drew
    have V0 : Bx (w.heap.size + 1) [.int .i64 sx, .int .i64 sy] W.drew := (HVW.out.same (hS (w.heap.size + 1) (by simp))).drew
    have X0 : Bx gx [.int .i64 x0, .int .i64 x1] W.drew := (Bx.of_heap bX).drew
    have D0 : Below W.heap.size W W.drew := (Below.refl _ _).drew
    have kc0 : W.cell? ⟨w.heap.size + 1 + 1, 0, none⟩ = some (.bool false) := by simp [World.cell?, hC]
    have kf0 : W.frozen? ⟨w.heap.size + 1 + 1, 0, none⟩ = false := by simp [World.frozen?, hC]
    have hsm := HSM.out
    have HPL := Lib.hid (fun X => plus9_any x0 x1 sx sy X (by unfold midI; omega) (by unfold midI; omega))
    obtain ⟨b1, hb1⟩ : ∃ b, b = F (numP (p : Int) B (q : Int) (x0 + sx) (x1 + sy)) := ⟨_, rfl⟩
    obtain ⟨b0, hb0⟩ : ∃ b, b = F (numP (p : Int) B (q : Int) x0 x1) := ⟨_, rfl⟩
    have HA1 := Lib.hid (fun X (hX : Below W.heap.size W X) => (show Calls Tryz.prog 124 #[.agg #[.int .i64 f, .int .i64 (p : Int), .int .i64 B, .int .i64 (q : Int), .slice (some ⟨g, 0, none⟩) n cap], .agg #[.int .i64 (x0 + sx), .int .i64 (x1 + sy)]] X (fun e w' => e = .returned (.int .i64 b1) ∧ Below X.heap.size X w') from by rw [hb1]; exact at_any HH.out (R.out.call (hB1.trans (hX.mono hB1.size))) _ _ (by unfold midI; omega) (by unfold midI; omega)))
    have HA0 := Lib.hid (fun X (hX : Below W.heap.size W X) => (show Calls Tryz.prog 124 #[.agg #[.int .i64 f, .int .i64 (p : Int), .int .i64 B, .int .i64 (q : Int), .slice (some ⟨g, 0, none⟩) n cap], .agg #[.int .i64 x0, .int .i64 x1]] X (fun e w' => e = .returned (.int .i64 b0) ∧ Below X.heap.size X w') from by rw [hb0]; exact at_any HH.out (R.out.call (hB1.trans (hX.mono hB1.size))) _ _ (by unfold midI; omega) (by unfold midI; omega)))
    have HSS := Lib.hid hS
    have HPR := Lib.hid hP
    have HMEM := Lib.hid (show ((x0, x1) : V29) ∈ cellP q p from mem_cellP hxx)
    clear hr hlt hl hsm hx2 hS hP
    by_cases hbb : b1 = b0
    · have HEQ := Lib.hid (show (F (numP (p : Int) B (q : Int) (((x0, x1) : V29).1 + sx) (((x0, x1) : V29).2 + sy)) == F (numP (p : Int) B (q : Int) ((x0, x1) : V29).1 ((x0, x1) : V29).2)) = true from by dsimp only; rw [← hb1, ← hb0, hbb]; simp)
      clear hb1 hb0
      subst hbb
      gi_wp2_with fail
      refine region_held_in (ro := some l) (S := (fun W9 => (W9.cell? ⟨w.heap.size, 0, none⟩ = some (.int .i64 f) ∧ W9.cell? ⟨w.heap.size, 1, none⟩ = some (.int .i64 (p : Int)) ∧ W9.cell? ⟨w.heap.size, 2, none⟩ = some (.int .i64 B) ∧ W9.cell? ⟨w.heap.size, 3, none⟩ = some (.int .i64 (q : Int)) ∧ W9.cell? ⟨w.heap.size, 4, none⟩ = some (.slice (some ⟨g, 0, none⟩) n cap)) ∧ (W9.cell? ⟨w.heap.size + 1, 0, none⟩ = some (.int .i64 sx) ∧ W9.cell? ⟨w.heap.size + 1, 1, none⟩ = some (.int .i64 sy)) ∧ (W9.cell? ⟨gx, 0, none⟩ = some (.int .i64 x0) ∧ W9.cell? ⟨gx, 1, none⟩ = some (.int .i64 x1)))) (by kernel_rfl) (by kernel_rfl) (fun hL9 => by obtain ⟨_, _, hL9⟩ := hL9; exact hL9) ?_ (fun hHeld => ?_)
      · exact ⟨Bx.cells5 P0, Bx.cells2 V0, Bx.cells2 X0⟩
      refine wpAnyH_take (i := 0) (v := ?_) (by (simp only [List.getElem?_toArray, List.getElem?_cons_succ, List.getElem?_cons_zero]); rfl) (by kernel_rfl) (by kernel_rfl) (by kernel_rfl) (by exact fun _ _ _ h => h) (Or.inl ⟨by rfl, ?_⟩) (by assumption) ?_
      rotate_left 1
      · (intro w hSw; (try dsimp only at hSw); go_simp) <;> with_reducible rfl
      (try simp only [Act.put, List.setIfInBounds_toArray, List.set_cons_zero, List.set_cons_succ])
      refine wpAnyH_take (i := 1) (v := ?_) (by (simp only [List.getElem?_toArray, List.getElem?_cons_succ, List.getElem?_cons_zero]); rfl) (by kernel_rfl) (by kernel_rfl) (by kernel_rfl) (by exact fun _ _ _ h => h) (Or.inl ⟨by rfl, ?_⟩) (by assumption) ?_
      rotate_left 1
      · (intro w hSw; (try dsimp only at hSw); go_simp) <;> with_reducible rfl
      (try simp only [Act.put, List.setIfInBounds_toArray, List.set_cons_zero, List.set_cons_succ])
      refine wpAnyH_take (i := 2) (v := ?_) (by (simp only [List.getElem?_toArray, List.getElem?_cons_succ, List.getElem?_cons_zero]); rfl) (by kernel_rfl) (by kernel_rfl) (by kernel_rfl) (by exact fun _ _ _ h => h) (Or.inl ⟨by rfl, ?_⟩) (by assumption) ?_
      rotate_left 1
      · (intro w hSw; (try dsimp only at hSw); go_simp) <;> with_reducible rfl
      (try simp only [Act.put, List.setIfInBounds_toArray, List.set_cons_zero, List.set_cons_succ])
      refine wpAnyH_take (i := 5) (v := ?_) (by (simp only [List.getElem?_toArray, List.getElem?_cons_succ, List.getElem?_cons_zero]); rfl) (by kernel_rfl) (by kernel_rfl) (by kernel_rfl) (by exact fun _ _ _ h => h) (Or.inl ⟨by rfl, ?_⟩) (by assumption) ?_
      rotate_left 1
      · (intro w hSw; (try dsimp only at hSw); go_simp) <;> with_reducible rfl
      (try simp only [Act.put, List.setIfInBounds_toArray, List.set_cons_zero, List.set_cons_succ])
      refine wpAnyH_take (i := 6) (v := ?_) (by (simp only [List.getElem?_toArray, List.getElem?_cons_succ, List.getElem?_cons_zero]); rfl) (by kernel_rfl) (by kernel_rfl) (by kernel_rfl) (by exact fun _ _ _ h => h) (Or.inl ⟨by rfl, ?_⟩) (by assumption) ?_
      rotate_left 1
      · (intro w hSw; (try dsimp only at hSw); go_simp) <;> with_reducible rfl
      (try simp only [Act.put, List.setIfInBounds_toArray, List.set_cons_zero, List.set_cons_succ])
      refine wpAnyH_ready (rs := [3]) (by kernel_rfl) (by simp) ?_
      refine AllReadyH.cons (o := _) (by (simp only [List.getElem?_toArray, List.getElem?_cons_succ, List.getElem?_cons_zero]); rfl) (fun K hK => ?_) AllReadyH.nil
      go_simp
      go_at_call 142
      with_reducible refine (HPL.out _).mono ?_
      rintro e u1 ⟨rfl, hb1⟩
      have P1 : Bx w.heap.size [.int .i64 f, .int .i64 (p : Int), .int .i64 B, .int .i64 (q : Int), .slice (some ⟨g, 0, none⟩) n cap] u1 := (by repeat (first | with_reducible assumption | with_reducible refine Bx.drew ?_ | with_reducible refine Bx.call ?_ (by with_reducible assumption)))
      have V1 : Bx (w.heap.size + 1) [.int .i64 sx, .int .i64 sy] u1 := (by repeat (first | with_reducible assumption | with_reducible refine Bx.drew ?_ | with_reducible refine Bx.call ?_ (by with_reducible assumption)))
      have X1 : Bx gx [.int .i64 x0, .int .i64 x1] u1 := (by repeat (first | with_reducible assumption | with_reducible refine Bx.drew ?_ | with_reducible refine Bx.call ?_ (by with_reducible assumption)))
      have D1 : Below W.heap.size W u1 := (by repeat (first | with_reducible assumption | with_reducible refine Below.drew ?_ | with_reducible refine bstep ?_ (by with_reducible assumption)))
      clear hb1
      (try go_wp2_with fail)
      refine hK.out _ _ ?_ (fun hHeld => ?_)
      · (try dsimp only)
        exact ⟨Bx.cells5 P1, Bx.cells2 V1, Bx.cells2 X1⟩
      clear hK K
      (try simp only [Act.put, List.setIfInBounds_toArray, List.set_cons_zero, List.set_cons_succ])
      refine wpAnyH_ready (rs := [4]) (by kernel_rfl) (by simp) ?_
      refine AllReadyH.cons (o := _) (by (simp only [List.getElem?_toArray, List.getElem?_cons_succ, List.getElem?_cons_zero]); rfl) (fun K hK => ?_) AllReadyH.nil
      go_simp
      go_at_call 124
      with_reducible refine (HA1.out _ D1).mono ?_
      rintro e u2 ⟨rfl, hb2⟩
      have P2 : Bx w.heap.size [.int .i64 f, .int .i64 (p : Int), .int .i64 B, .int .i64 (q : Int), .slice (some ⟨g, 0, none⟩) n cap] u2 := (by repeat (first | with_reducible assumption | with_reducible refine Bx.drew ?_ | with_reducible refine Bx.call ?_ (by with_reducible assumption)))
      have V2 : Bx (w.heap.size + 1) [.int .i64 sx, .int .i64 sy] u2 := (by repeat (first | with_reducible assumption | with_reducible refine Bx.drew ?_ | with_reducible refine Bx.call ?_ (by with_reducible assumption)))
      have X2 : Bx gx [.int .i64 x0, .int .i64 x1] u2 := (by repeat (first | with_reducible assumption | with_reducible refine Bx.drew ?_ | with_reducible refine Bx.call ?_ (by with_reducible assumption)))
      have D2 : Below W.heap.size W u2 := (by repeat (first | with_reducible assumption | with_reducible refine Below.drew ?_ | with_reducible refine bstep ?_ (by with_reducible assumption)))
      clear hb2
      (try go_wp2_with fail)
      refine hK.out _ _ ?_ (fun hHeld => ?_)
      · (try dsimp only)
        exact ⟨Bx.cells5 P2, Bx.cells2 V2, Bx.cells2 X2⟩
      clear hK K
      (try simp only [Act.put, List.setIfInBounds_toArray, List.set_cons_zero, List.set_cons_succ])
      refine wpAnyH_ready (rs := [7]) (by kernel_rfl) (by simp) ?_
      refine AllReadyH.cons (o := _) (by (simp only [List.getElem?_toArray, List.getElem?_cons_succ, List.getElem?_cons_zero]); rfl) (fun K hK => ?_) AllReadyH.nil
      go_simp
      go_at_call 124
      with_reducible refine (HA0.out _ D2).mono ?_
      rintro e u3 ⟨rfl, hb3⟩
      have P3 : Bx w.heap.size [.int .i64 f, .int .i64 (p : Int), .int .i64 B, .int .i64 (q : Int), .slice (some ⟨g, 0, none⟩) n cap] u3 := (by repeat (first | with_reducible assumption | with_reducible refine Bx.drew ?_ | with_reducible refine Bx.call ?_ (by with_reducible assumption)))
      have V3 : Bx (w.heap.size + 1) [.int .i64 sx, .int .i64 sy] u3 := (by repeat (first | with_reducible assumption | with_reducible refine Bx.drew ?_ | with_reducible refine Bx.call ?_ (by with_reducible assumption)))
      have X3 : Bx gx [.int .i64 x0, .int .i64 x1] u3 := (by repeat (first | with_reducible assumption | with_reducible refine Bx.drew ?_ | with_reducible refine Bx.call ?_ (by with_reducible assumption)))
      have D3 : Below W.heap.size W u3 := (by repeat (first | with_reducible assumption | with_reducible refine Below.drew ?_ | with_reducible refine bstep ?_ (by with_reducible assumption)))
      clear hb3
      (try go_wp2_with fail)
      refine hK.out _ _ ?_ (fun hHeld => ?_)
      · (try dsimp only)
        exact ⟨Bx.cells5 P3, Bx.cells2 V3, Bx.cells2 X3⟩
      clear hK K
      (try simp only [Act.put, List.setIfInBounds_toArray, List.set_cons_zero, List.set_cons_succ])
      refine wpAnyH_take (i := 8) (v := ?_) (by (simp only [List.getElem?_toArray, List.getElem?_cons_succ, List.getElem?_cons_zero]); rfl) (by kernel_rfl) (by kernel_rfl) (by kernel_rfl) (by exact fun _ _ _ h => h) (Or.inl ⟨by rfl, ?_⟩) (by assumption) ?_
      rotate_left 1
      · (intro w hSw; (try dsimp only at hSw); go_simp) <;> with_reducible rfl
      (try simp only [Act.put, List.setIfInBounds_toArray, List.set_cons_zero, List.set_cons_succ])
      refine wpAnyH_done (by kernel_rfl) ?_ _
      gi_wp2
      refine ⟨keepsF_below _ D3, D3.block _ lR, ⟨⟨⟨⟨(D3.block _ lC).trans hC, (D3.block _ lR).trans hR⟩, fun bb hbb => ?_⟩, fun v hv => ?_⟩, hB1.trans (D3.mono hB1.size)⟩⟩
      · obtain ⟨ob, h1, _⟩ := HS.out bb hbb
        have h2 := HSS.out bb hbb
        rw [h1] at h2
        exact (D3.block _ (Array.getElem?_eq_some_iff.1 h2).1).trans (h2.trans h1.symm)
      · rw [List.map_append, List.mem_append] at hv
        rcases hv with hv | hv
        · exact HPR.out v hv
        · obtain rfl : v = (x0, x1) := by simpa using hv
          exact HEQ.out
    · have HNE := Lib.hid (show kepS (p : Int) B (q : Int) F sx sy (cellP q p) = false from by
        rw [kepS, List.all_eq_false]
        exact ⟨(x0, x1), HMEM.out, by dsimp only; rw [← hb1, ← hb0]; simpa using hbb⟩)
      have hbn : (b1 != b0) = true := by simp [hbb]
      clear hb1 hb0
      gi_wp2_with fail
      refine region_held_in (ro := some l) (S := (fun W9 => (W9.cell? ⟨w.heap.size, 0, none⟩ = some (.int .i64 f) ∧ W9.cell? ⟨w.heap.size, 1, none⟩ = some (.int .i64 (p : Int)) ∧ W9.cell? ⟨w.heap.size, 2, none⟩ = some (.int .i64 B) ∧ W9.cell? ⟨w.heap.size, 3, none⟩ = some (.int .i64 (q : Int)) ∧ W9.cell? ⟨w.heap.size, 4, none⟩ = some (.slice (some ⟨g, 0, none⟩) n cap)) ∧ (W9.cell? ⟨w.heap.size + 1, 0, none⟩ = some (.int .i64 sx) ∧ W9.cell? ⟨w.heap.size + 1, 1, none⟩ = some (.int .i64 sy)) ∧ (W9.cell? ⟨gx, 0, none⟩ = some (.int .i64 x0) ∧ W9.cell? ⟨gx, 1, none⟩ = some (.int .i64 x1)))) (by kernel_rfl) (by kernel_rfl) (fun hL9 => by obtain ⟨_, _, hL9⟩ := hL9; exact hL9) ?_ (fun hHeld => ?_)
      · exact ⟨Bx.cells5 P0, Bx.cells2 V0, Bx.cells2 X0⟩
      refine wpAnyH_take (i := 0) (v := ?_) (by (simp only [List.getElem?_toArray, List.getElem?_cons_succ, List.getElem?_cons_zero]); rfl) (by kernel_rfl) (by kernel_rfl) (by kernel_rfl) (by exact fun _ _ _ h => h) (Or.inl ⟨by rfl, ?_⟩) (by assumption) ?_
      rotate_left 1
      · (intro w hSw; (try dsimp only at hSw); go_simp) <;> with_reducible rfl
      (try simp only [Act.put, List.setIfInBounds_toArray, List.set_cons_zero, List.set_cons_succ])
      refine wpAnyH_take (i := 1) (v := ?_) (by (simp only [List.getElem?_toArray, List.getElem?_cons_succ, List.getElem?_cons_zero]); rfl) (by kernel_rfl) (by kernel_rfl) (by kernel_rfl) (by exact fun _ _ _ h => h) (Or.inl ⟨by rfl, ?_⟩) (by assumption) ?_
      rotate_left 1
      · (intro w hSw; (try dsimp only at hSw); go_simp) <;> with_reducible rfl
      (try simp only [Act.put, List.setIfInBounds_toArray, List.set_cons_zero, List.set_cons_succ])
      refine wpAnyH_take (i := 2) (v := ?_) (by (simp only [List.getElem?_toArray, List.getElem?_cons_succ, List.getElem?_cons_zero]); rfl) (by kernel_rfl) (by kernel_rfl) (by kernel_rfl) (by exact fun _ _ _ h => h) (Or.inl ⟨by rfl, ?_⟩) (by assumption) ?_
      rotate_left 1
      · (intro w hSw; (try dsimp only at hSw); go_simp) <;> with_reducible rfl
      (try simp only [Act.put, List.setIfInBounds_toArray, List.set_cons_zero, List.set_cons_succ])
      refine wpAnyH_take (i := 5) (v := ?_) (by (simp only [List.getElem?_toArray, List.getElem?_cons_succ, List.getElem?_cons_zero]); rfl) (by kernel_rfl) (by kernel_rfl) (by kernel_rfl) (by exact fun _ _ _ h => h) (Or.inl ⟨by rfl, ?_⟩) (by assumption) ?_
      rotate_left 1
      · (intro w hSw; (try dsimp only at hSw); go_simp) <;> with_reducible rfl
      (try simp only [Act.put, List.setIfInBounds_toArray, List.set_cons_zero, List.set_cons_succ])
      refine wpAnyH_take (i := 6) (v := ?_) (by (simp only [List.getElem?_toArray, List.getElem?_cons_succ, List.getElem?_cons_zero]); rfl) (by kernel_rfl) (by kernel_rfl) (by kernel_rfl) (by exact fun _ _ _ h => h) (Or.inl ⟨by rfl, ?_⟩) (by assumption) ?_
      rotate_left 1
      · (intro w hSw; (try dsimp only at hSw); go_simp) <;> with_reducible rfl
      (try simp only [Act.put, List.setIfInBounds_toArray, List.set_cons_zero, List.set_cons_succ])
      refine wpAnyH_ready (rs := [3]) (by kernel_rfl) (by simp) ?_
      refine AllReadyH.cons (o := _) (by (simp only [List.getElem?_toArray, List.getElem?_cons_succ, List.getElem?_cons_zero]); rfl) (fun K hK => ?_) AllReadyH.nil
      go_simp
      go_at_call 142
      with_reducible refine (HPL.out _).mono ?_
      rintro e u1 ⟨rfl, hb1⟩
      have P1 : Bx w.heap.size [.int .i64 f, .int .i64 (p : Int), .int .i64 B, .int .i64 (q : Int), .slice (some ⟨g, 0, none⟩) n cap] u1 := (by repeat (first | with_reducible assumption | with_reducible refine Bx.drew ?_ | with_reducible refine Bx.call ?_ (by with_reducible assumption)))
      have V1 : Bx (w.heap.size + 1) [.int .i64 sx, .int .i64 sy] u1 := (by repeat (first | with_reducible assumption | with_reducible refine Bx.drew ?_ | with_reducible refine Bx.call ?_ (by with_reducible assumption)))
      have X1 : Bx gx [.int .i64 x0, .int .i64 x1] u1 := (by repeat (first | with_reducible assumption | with_reducible refine Bx.drew ?_ | with_reducible refine Bx.call ?_ (by with_reducible assumption)))
      have D1 : Below W.heap.size W u1 := (by repeat (first | with_reducible assumption | with_reducible refine Below.drew ?_ | with_reducible refine bstep ?_ (by with_reducible assumption)))
      clear hb1
      (try go_wp2_with fail)
      refine hK.out _ _ ?_ (fun hHeld => ?_)
      · (try dsimp only)
        exact ⟨Bx.cells5 P1, Bx.cells2 V1, Bx.cells2 X1⟩
      clear hK K
      (try simp only [Act.put, List.setIfInBounds_toArray, List.set_cons_zero, List.set_cons_succ])
      refine wpAnyH_ready (rs := [4]) (by kernel_rfl) (by simp) ?_
      refine AllReadyH.cons (o := _) (by (simp only [List.getElem?_toArray, List.getElem?_cons_succ, List.getElem?_cons_zero]); rfl) (fun K hK => ?_) AllReadyH.nil
      go_simp
      go_at_call 124
      with_reducible refine (HA1.out _ D1).mono ?_
      rintro e u2 ⟨rfl, hb2⟩
      have P2 : Bx w.heap.size [.int .i64 f, .int .i64 (p : Int), .int .i64 B, .int .i64 (q : Int), .slice (some ⟨g, 0, none⟩) n cap] u2 := (by repeat (first | with_reducible assumption | with_reducible refine Bx.drew ?_ | with_reducible refine Bx.call ?_ (by with_reducible assumption)))
      have V2 : Bx (w.heap.size + 1) [.int .i64 sx, .int .i64 sy] u2 := (by repeat (first | with_reducible assumption | with_reducible refine Bx.drew ?_ | with_reducible refine Bx.call ?_ (by with_reducible assumption)))
      have X2 : Bx gx [.int .i64 x0, .int .i64 x1] u2 := (by repeat (first | with_reducible assumption | with_reducible refine Bx.drew ?_ | with_reducible refine Bx.call ?_ (by with_reducible assumption)))
      have D2 : Below W.heap.size W u2 := (by repeat (first | with_reducible assumption | with_reducible refine Below.drew ?_ | with_reducible refine bstep ?_ (by with_reducible assumption)))
      clear hb2
      (try go_wp2_with fail)
      refine hK.out _ _ ?_ (fun hHeld => ?_)
      · (try dsimp only)
        exact ⟨Bx.cells5 P2, Bx.cells2 V2, Bx.cells2 X2⟩
      clear hK K
      (try simp only [Act.put, List.setIfInBounds_toArray, List.set_cons_zero, List.set_cons_succ])
      refine wpAnyH_ready (rs := [7]) (by kernel_rfl) (by simp) ?_
      refine AllReadyH.cons (o := _) (by (simp only [List.getElem?_toArray, List.getElem?_cons_succ, List.getElem?_cons_zero]); rfl) (fun K hK => ?_) AllReadyH.nil
      go_simp
      go_at_call 124
      with_reducible refine (HA0.out _ D2).mono ?_
      rintro e u3 ⟨rfl, hb3⟩
      have P3 : Bx w.heap.size [.int .i64 f, .int .i64 (p : Int), .int .i64 B, .int .i64 (q : Int), .slice (some ⟨g, 0, none⟩) n cap] u3 := (by repeat (first | with_reducible assumption | with_reducible refine Bx.drew ?_ | with_reducible refine Bx.call ?_ (by with_reducible assumption)))
      have V3 : Bx (w.heap.size + 1) [.int .i64 sx, .int .i64 sy] u3 := (by repeat (first | with_reducible assumption | with_reducible refine Bx.drew ?_ | with_reducible refine Bx.call ?_ (by with_reducible assumption)))
      have X3 : Bx gx [.int .i64 x0, .int .i64 x1] u3 := (by repeat (first | with_reducible assumption | with_reducible refine Bx.drew ?_ | with_reducible refine Bx.call ?_ (by with_reducible assumption)))
      have D3 : Below W.heap.size W u3 := (by repeat (first | with_reducible assumption | with_reducible refine Below.drew ?_ | with_reducible refine bstep ?_ (by with_reducible assumption)))
      clear hb3
      (try go_wp2_with fail)
      refine hK.out _ _ ?_ (fun hHeld => ?_)
      · (try dsimp only)
        exact ⟨Bx.cells5 P3, Bx.cells2 V3, Bx.cells2 X3⟩
      clear hK K
      (try simp only [Act.put, List.setIfInBounds_toArray, List.set_cons_zero, List.set_cons_succ])
      refine wpAnyH_take (i := 8) (v := ?_) (by (simp only [List.getElem?_toArray, List.getElem?_cons_succ, List.getElem?_cons_zero]); rfl) (by kernel_rfl) (by kernel_rfl) (by kernel_rfl) (by exact fun _ _ _ h => h) (Or.inl ⟨by rfl, ?_⟩) (by assumption) ?_
      rotate_left 1
      · (intro w hSw; (try dsimp only at hSw); go_simp) <;> with_reducible rfl
      (try simp only [Act.put, List.setIfInBounds_toArray, List.set_cons_zero, List.set_cons_succ])
      refine wpAnyH_done (by kernel_rfl) ?_ _
      have kc := ((World.cell?_of_block (w := W) (w' := u3) (a := ⟨w.heap.size + 1 + 1, 0, none⟩) (D3.block _ lC)).trans kc0)
      have kf := ((World.frozen?_of_block (w := W) (w' := u3) (a := ⟨w.heap.size + 1 + 1, 0, none⟩) (D3.block _ lC)).trans kf0)
      gi_wp2
      have b5 : Boxed u3 (w.heap.size + 1 + 1) 4 (.bool false) := (D3.block _ lC).trans hC
      have e5 := b5.set (.bool false)
      have l5 := D3.size
      refine ⟨(keepsF_below _ D3).trans ((KeepsOthers.setCell u3 ⟨w.heap.size + 1 + 1, 0, none⟩ _).from _), ⟨rfl, by simpa [Boxed] using e5, HNE.out, (hB1.trans (D3.mono hB1.size)).setCell (by dsimp only; omega) _⟩⟩
  case done =>
    rintro D zs W hD hzs ⟨⟨⟨⟨hC, hR⟩, hS⟩, hP⟩, hB1⟩ hK
    have lC := (Array.getElem?_eq_some_iff.1 hC).1
    have kc0 : W.cell? ⟨w.heap.size + 1 + 1, 0, none⟩ = some (.bool false) := by simp [World.cell?, hC]
    have kf0 : W.frozen? ⟨w.heap.size + 1 + 1, 0, none⟩ = false := by simp [World.frozen?, hC]
    have hall : kepS (p : Int) B (q : Int) F sx sy (cellP q p) = true := by
      rw [kepS, List.all_eq_true]
      intro v hv
      rw [hzs] at hP
      exact hP v hv
    have kc1 : (W.setCell ⟨w.heap.size + 1 + 1, 0, none⟩ (.bool true)).cell? ⟨w.heap.size + 1 + 1, 0, none⟩ = some (.bool true) := World.cell?_setCell_same _ _ _ kc0
    have hK1 : (W.setCell ⟨w.heap.size + 1 + 1, 0, none⟩ (.bool true)).heap[D]? = some (.deferred (some [])) := (Below.heap_setCell W _ _ D (by dsimp only; omega)).trans hK
    have hB2 : Below w.heap.size w (W.setCell ⟨w.heap.size + 1 + 1, 0, none⟩ (.bool true)) := hB1.setCell (by dsimp only; omega) _
    gi_wp2
    refine ⟨by simp, .inl ⟨_, _, rfl, run_takeDeferred hK1, ?_⟩⟩
    have kc2 : ((W.setCell ⟨w.heap.size + 1 + 1, 0, none⟩ (.bool true)).putObj D (.deferred none)).cell? ⟨w.heap.size + 1 + 1, 0, none⟩ = some (.bool true) := (World.cell?_of_block (World.putObj_heap_other (by dsimp only; omega))).trans kc1
    refine ⟨.bool true, ?_, ret_bool hall.symm, hB2.trans (belowK_b (w := w) (Nat.le_refl _) _ D _ _ (by omega) hK1 rfl rfl)⟩
    simp [results, Tryz.results114, go_sem, kc2]
  case stop =>
    rintro D c pre W hD _ ⟨rfl, hC, hno, hB1⟩ hK
    have kc0 : W.cell? ⟨w.heap.size + 1 + 1, 0, none⟩ = some (.bool false) := by simp [World.cell?, hC]
    gi_wp2
    refine ⟨by simp, .inl ⟨_, _, rfl, run_takeDeferred hK, ?_⟩⟩
    have kc2 : (W.putObj D (.deferred none)).cell? ⟨w.heap.size + 1 + 1, 0, none⟩ = some (.bool false) := (World.cell?_of_block (World.putObj_heap_other (by dsimp only; omega))).trans kc0
    refine ⟨.bool false, ?_, ret_bool hno.symm, hB1.trans (belowK_b (w := w) (Nat.le_refl _) _ D _ _ (by omega) hK rfl rfl)⟩
    simp [results, Tryz.results114, go_sem, kc2]
end Go.Proofs.YtkfdaepnjdnnmaaGreatDoor
