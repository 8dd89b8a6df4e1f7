/-
 Several of my texts in one: PtL, PtX, PtY.
-/
import Derived.Test.YtjjfomokecngoaaGreatDoorPc
import Derived.TacticsInMore
import Derived.Test.YtjjfomokecngoaaGreatDoorPtB
import Derived.Test.YtjjfomokecngoaaGreatDoorPtJ
import Derived.Test.YtjjfomokecngoaaGreatDoorGd
import Derived.Test.YtjjfomokecngoaaGreatDoorPa
namespace Go.Proofs.YtjjfomokecngoaaGreatDoor
section
open Go.RowKit Go.Shelf
theorem pkVb0 {P : Prop} (h : P := by repeat (first | with_reducible exact Below.refl _ _ | with_reducible assumption | with_reducible refine Below.setCell ?_ (by first | omega | (dsimp only; omega) | (simp <;> omega)) _ | with_reducible refine Below.alloc ?_ (by first | omega | (simp <;> omega)) _ | with_reducible refine bstep ?_ (by with_reducible assumption) | with_reducible refine Below.drew ?_ | with_reducible refine below_drewN ?_ _)) : P := h
theorem pkVb1 {P : Prop} (h : P := by repeat (first | with_reducible assumption | with_reducible refine Bx.drew ?_ | with_reducible refine Bx.alloc ?_ _ | with_reducible refine Bx.call ?_ (by with_reducible assumption) | with_reducible refine BX.drew ?_ | with_reducible refine BX.alloc ?_ _ | with_reducible refine BX.call ?_ (by with_reducible assumption) | with_reducible refine Bx.far (by first | omega | (dsimp only; omega)) ?_)) : P := h
theorem pkVb2 {P : Prop} (h : P := by repeat (first | with_reducible assumption | with_reducible exact Below.refl _ _ | with_reducible refine Below.drew ?_ | with_reducible refine Below.alloc ?_ (by first | omega | (simp <;> omega)) _ | with_reducible refine Below.setCell ?_ (by first | omega | (dsimp only; omega)) _ | with_reducible refine bstep ?_ (by with_reducible assumption))) : P := h
attribute [local go_sem] Oper.semAt_some
set_option linter.unusedSimpArgs false
set_option linter.unusedVariables false

theorem heap_set9 {W : World} {b i : Nat} {cs : Array Value} {T : TypeId} {z : Nat × Nat} {u : Value} (h : W.heap[b]? = some (.cells cs T z)) : (W.setCell ⟨b, i, none⟩ u).heap[b]? = some (.cells (cs.setIfInBounds i u) T z) := by
 obtain ⟨hlt, hk⟩ := Array.getElem?_eq_some_iff.1 h
 show (W.heap.modify b _)[b]? = _
 rw [Array.getElem?_eq_getElem (by rw [Array.size_modify]; exact hlt), Array.getElem_modify_self, hk]
 rfl
theorem heap_set39 {W : World} {b : Nat} {a0 a1 a2 b0 b1 b2 : Value} {T : TypeId} {z : Nat × Nat} (h : W.heap[b]? = some (.cells #[a0, a1, a2] T z)) : (((W.setCell ⟨b, 0, none⟩ b0).setCell ⟨b, 1, none⟩ b1).setCell ⟨b, 2, none⟩ b2).heap[b]? = some (.cells #[b0, b1, b2] T z) := by
 have h1 := heap_set9 (i := 0) (u := b0) h
 have h2 := heap_set9 (i := 1) (u := b1) h1
 exact heap_set9 (i := 2) (u := b2) h2
theorem BX.of_heap {g : Nat} {us : List Value} {T : TypeId} {W : World} (h : W.heap[g]? = some (.cells us.toArray T (0, 0))) : BX g us W :=
 ⟨Bx.of_heap h, fun i hi => by simp [World.frozen?, h]⟩
theorem at_ownF9 {β : Type} (B : Nat) (o : β → Obj) (ho : ∀ s, (o s).isCells = true) : Own (fun s W => W.heap[B]? = some (o s)) := fun s X Y row hs hg hrow =>
 (hg.block B (Array.getElem?_eq_some_iff.1 hs).1 (fun e => by obtain ⟨o', h1, h2⟩ := hrow B e.symm; rw [hs] at h1; cases h1; rw [ho s] at h2; cases h2)).trans hs
theorem VL3 {g : Nat} {a b c x0 x1 : Int} {W : World} (h : Bx g [.int .i64 a, .int .i64 0, .int .i64 b, .int .i64 c, .int .i64 x0, .int .i64 x1] W) : VL g [(a, 0), (b, c), (x0, x1)] W := by
 refine ⟨h.lt, fun i hi => ?_⟩
 match i, hi with
 | 0, _ => exact ⟨h.c0, h.c1⟩
 | 1, _ => exact ⟨h.c2, h.c3⟩
 | 2, _ => exact ⟨h.c4, h.c5⟩
theorem basis9_any (A B C : Int) (w : World) :
  Calls Tryz.prog 201 #[.agg #[.int .i64 A, .int .i64 B, .int .i64 C]] w fun e w' => e = .returned (.agg #[.int .i64 A, .int .i64 0, .int .i64 B, .int .i64 C]) ∧ Below w.heap.size w w' := by
 go_enter Tryz.func201, Tryz.ntmps201
 go_wp2
 refine bodyPost_ret (v := .agg #[.int .i64 A, .int .i64 0, .int .i64 B, .int .i64 C]) (by simp [results, Tryz.results201, go_sem]) rfl ⟨rfl, ?_⟩
 repeat (first | exact Below.refl _ _ | refine Below.setCell ?_ (by first | omega | (simp <;> omega)) _ | refine Below.alloc ?_ (by first | omega | (simp <;> omega)) _)
set_option maxRecDepth 100000 in
set_option maxHeartbeats 16000000 in
theorem fullLat_any {lo hi p q n : Nat} {f B : Int} {v : Value} {F : Nat → Int} {w : World} (h : PatI f p B q n F) (hv : SRow lo hi 1 v n F w) :
  Calls Tryz.prog 137 #[.agg #[.int .i64 f, .int .i64 (p : Int), .int .i64 B, .int .i64 (q : Int), v]] w fun e w' => e = .returned (.agg #[.int .i64 ((fulI (p : Int) B (q : Int) F).1), .int .i64 ((fulI (p : Int) B (q : Int) F).2.1), .int .i64 ((fulI (p : Int) B (q : Int) F).2.2)]) ∧ Below w.heap.size w w' := by
 have R := Lib.hid hv
 have HH := Lib.hid h
 obtain ⟨hp1, hp2, hq1, hq2, hn64, hn1⟩ := h.bd
 have hpq : p * q ≤ 64 := by rw [← h.nn]; exact hn64
 have HP := Lib.hid hpq
 obtain ⟨g, cap, rfl, hg, _, r⟩ := hv.irow hn1
 have hgs := hv.1
 have hgw : g < w.heap.size := by omega
 have HE0 := Lib.hid (show fulP (p : Int) B (q : Int) F [] = ((p : Int), B, (q : Int)) from by
  unfold fulP nrmS stS
  exact nrm_lat h.lat)
 clear hv h hpq
 refine (callsIn_wide (n := 3)).1 ?_
 refine callsIn_of_wp_marks Tryz.func137 rfl trivial ?_ rfl
 simp only [Tryz.ntmps137, List.size_toArray, List.length_cons, List.length_nil, Nat.reduceAdd, Nat.reduceSub, Array.replicate_succ, Array.replicate_zero, List.push_toArray, List.append_toArray, List.nil_append, List.cons_append]
 gi_wp2_with (refine ⟨trivial, ?_⟩; gi_at_call 199; refine (cellsS_in Fence.wide _ trivial rfl _ _ _ _).mono ?_; rintro e w4 ⟨rfl, rfl⟩)
 obtain ⟨W0, hW0⟩ : ∃ W0, ((((w.alloc (.cells #[.int .i64 f, .int .i64 (p : Int), .int .i64 B, .int .i64 (q : Int), .slice (some ⟨g, 0, none⟩) n cap] 40)).alloc (.cells #[.int .i64 0, .int .i64 0, .int .i64 0] 28)).alloc (.cells #[.int .i64 (p : Int), .int .i64 B, .int .i64 (q : Int)] 28)).alloc (.cells #[.int .i64 (p : Int), .int .i64 B, .int .i64 (q : Int)] 28)) = W0 := ⟨_, rfl⟩
 have hsz : W0.heap.size = w.heap.size + 4 := by rw [← hW0]; simp
 have PW : Bx w.heap.size [.int .i64 f, .int .i64 (p : Int), .int .i64 B, .int .i64 (q : Int), .slice (some ⟨g, 0, none⟩) n cap] W0 := by rw [← hW0]; exact (((Bx.at _ rfl).alloc _).alloc _).alloc _
 have bR : W0.heap[w.heap.size + 1]? = some (.cells #[.int .i64 0, .int .i64 0, .int .i64 0] 28 (0, 0)) := by rw [← hW0]; refine (Below.heap_alloc _ _ _ (by simp)).trans ((Below.heap_alloc _ _ _ (by simp)).trans ?_); simpa using World.alloc_heap_new (w.alloc (.cells #[.int .i64 f, .int .i64 (p : Int), .int .i64 B, .int .i64 (q : Int), .slice (some ⟨g, 0, none⟩) n cap] 40)) (.cells #[.int .i64 0, .int .i64 0, .int .i64 0] 28)
 have bF : W0.heap[w.heap.size + 1 + 1]? = some (.cells #[.int .i64 (p : Int), .int .i64 B, .int .i64 (q : Int)] 28 (0, 0)) := by rw [← hW0]; refine (Below.heap_alloc _ _ _ (by simp)).trans ?_; simpa using World.alloc_heap_new ((w.alloc (.cells #[.int .i64 f, .int .i64 (p : Int), .int .i64 B, .int .i64 (q : Int), .slice (some ⟨g, 0, none⟩) n cap] 40)).alloc (.cells #[.int .i64 0, .int .i64 0, .int .i64 0] 28)) (.cells #[.int .i64 (p : Int), .int .i64 B, .int .i64 (q : Int)] 28)
 have bL : W0.heap[w.heap.size + 1 + 1 + 1]? = some (.cells #[.int .i64 (p : Int), .int .i64 B, .int .i64 (q : Int)] 28 (0, 0)) := by rw [← hW0]; simpa using World.alloc_heap_new (((w.alloc (.cells #[.int .i64 f, .int .i64 (p : Int), .int .i64 B, .int .i64 (q : Int), .slice (some ⟨g, 0, none⟩) n cap] 40)).alloc (.cells #[.int .i64 0, .int .i64 0, .int .i64 0] 28)).alloc (.cells #[.int .i64 (p : Int), .int .i64 B, .int .i64 (q : Int)] 28)) (.cells #[.int .i64 (p : Int), .int .i64 B, .int .i64 (q : Int)] 28)
 have bF0 : W0.heap[w.heap.size + 1 + 1]? = some (.cells #[.int .i64 (fulP (p : Int) B (q : Int) F (([] : List (CV p q)).map Subtype.val)).1, .int .i64 (fulP (p : Int) B (q : Int) F (([] : List (CV p q)).map Subtype.val)).2.1, .int .i64 (fulP (p : Int) B (q : Int) F (([] : List (CV p q)).map Subtype.val)).2.2] 28 (0, 0)) := by rw [List.map_nil, HE0.out]; exact bF
 have B0 : Below w.heap.size w W0 := by rw [← hW0]; exact pkVb0
 have cA : W0.cell? ⟨w.heap.size + 1 + 1 + 1, 0, none⟩ = some (.int .i64 (p : Int)) := by simp [World.cell?, bL]
 have cC : W0.cell? ⟨w.heap.size + 1 + 1 + 1, 2, none⟩ = some (.int .i64 (q : Int)) := by simp [World.cell?, bL]
 have HS : Hid (∀ bb ∈ [w.heap.size], ∃ ob : Obj, W0.heap[bb]? = some ob ∧ ob.isCells = true) := Lib.hid (by
  intro bb hbb
  simp only [List.mem_cons, List.not_mem_nil, or_false] at hbb
  subst hbb
  exact cells_of9 PW.c0)
 have HPW := Lib.hid PW
 rw [hW0]
 clear hW0 PW bF
 have hz := B0.size
 refine wpIn_rangeFunc_ownH rfl (by omega) (gf := 244) (lb := #[.pointer (some ⟨w.heap.size + 1 + 1 + 1, 0, none⟩)]) rfl trivial (enters_of Tryz.func244 (by kernel_rfl) rfl)
  (cellsS_stops Fence.wide (3 - 1) trivial rfl (by omega) (w.heap.size + 1 + 1 + 1) p q hp2 hq2 W0 (by omega) cA cC) (fun h k => Eq.trans k h) (keepC_b (by omega)) (Below.refl _ _) (fun _ => rfl)
  (fun pre W => (((W.heap[w.heap.size + 1]? = some (.cells #[.int .i64 0, .int .i64 0, .int .i64 0] 28 (0, 0)) ∧ W.heap[w.heap.size + 1 + 1 + 1]? = some (.cells #[.int .i64 (p : Int), .int .i64 B, .int .i64 (q : Int)] 28 (0, 0))) ∧ W.heap[w.heap.size + 1 + 1]? = some (.cells #[.int .i64 (fulP (p : Int) B (q : Int) F (pre.map Subtype.val)).1, .int .i64 (fulP (p : Int) B (q : Int) F (pre.map Subtype.val)).2.1, .int .i64 (fulP (p : Int) B (q : Int) F (pre.map Subtype.val)).2.2] 28 (0, 0))) ∧ (∀ bb ∈ [w.heap.size], W.heap[bb]? = W0.heap[bb]?)) ∧ Below w.heap.size w W)
  (fun _ _ _ => False)
  (OwnFrom.and (OwnFrom.and (OwnFrom.and (OwnFrom.and (Own.from (at_ownC _ _ rfl) _) (Own.from (at_ownC _ _ rfl) _)) (Own.from (at_ownF9 _ (fun pre => _) (fun _ => rfl)) _)) (Own.from (same_own9 _ W0 HS.out) _)) (ownFrom_below (Nat.le_refl _) hz))
  (fun _ _ _ _ _ hs _ _ => hs)
  ⟨⟨⟨⟨bR, bL⟩, bF0⟩, fun _ _ => rfl⟩, B0⟩
  (fun xx a' W => ∃ gx, w.heap.size + 1 + 1 + 1 < gx ∧ W.heap[gx]? = some (.cells #[.int .i64 xx.1.1, .int .i64 xx.1.2] 63 (0, 0)) ∧ a' = { tmps := #[.agg #[.int .i64 f, .int .i64 (p : Int), .int .i64 B, .int .i64 (q : Int), .slice (some ⟨g, 0, none⟩) n cap], .pointer (some ⟨w.heap.size, 0, none⟩), .pointer (some ⟨w.heap.size + 1, 0, none⟩), .pointer (some ⟨w.heap.size + 1 + 1, 0, none⟩), .pointer (some ⟨gx, 0, none⟩), undef, .pointer (some ⟨w.heap.size, 1, none⟩), .agg #[.int .i64 ((p : Int)), .int .i64 B, .int .i64 ((q : Int))], .pointer (some ⟨w.heap.size, 1, none⟩), .agg #[.int .i64 ((p : Int)), .int .i64 B, .int .i64 ((q : Int))], .func (.func 244) #[] #[.pointer (some ⟨w.heap.size + 1 + 1 + 1, 0, none⟩)], .agg #[.int .i64 xx.1.1, .int .i64 xx.1.2], undef, undef, undef, undef, undef, undef, undef, undef, undef, undef, undef, undef, undef, undef, undef, undef, undef, undef, undef], defers := [] })
  (fun x a' _ X Y row hs hg hr => by obtain ⟨gx, h1, h2, h3⟩ := hs; exact ⟨gx, h1, at_ownC gx _ rfl () X Y row h2 hg (fun r e => (hr r e).2), h3⟩)
  ?assign ?body ?done ?stop
 case assign =>
  rintro l pre xx W K ⟨⟨⟨⟨hR, hL⟩, hF⟩, hS⟩, hB1⟩ hK
  gi_wp2
  have lR := (Array.getElem?_eq_some_iff.1 hR).1
  have lL := (Array.getElem?_eq_some_iff.1 hL).1
  have lF := (Array.getElem?_eq_some_iff.1 hF).1
  have hKB : KeepC (w.heap.size + 1 + 1 + 1) W (W.alloc (.cells #[.int .i64 xx.1.1, .int .i64 xx.1.2] 63)) := Below.heap_alloc W _ _ lL
  refine hK _ _ ((KeepsOthers.alloc _ _).from _) hKB ⟨⟨⟨⟨(Below.heap_alloc W _ _ lR).trans hR, hKB.trans hL⟩, (Below.heap_alloc W _ _ lF).trans hF⟩, fun bb hbb => ?_⟩, hB1.alloc hB1.size _⟩ ⟨W.heap.size, lL, World.alloc_heap_new W _, rfl⟩
  obtain ⟨ob, h1, _⟩ := HS.out bb hbb
  have h2 := hS bb hbb
  rw [h1] at h2
  exact (Below.heap_alloc W _ _ (Array.getElem?_eq_some_iff.1 h2).1).trans (h2.trans h1.symm)
 case body =>
  rintro l pre xx a' W hl ⟨r9, hr⟩ ⟨⟨⟨⟨hR, hL⟩, hF⟩, hS⟩, hB1⟩ ⟨gx, hgx, bX, rfl⟩ hlt
  obtain ⟨⟨x0, x1⟩, hxx⟩ := xx
  dsimp only at bX
  have hx2 : (0 ≤ x0 ∧ x0 < (p : Int)) ∧ (0 ≤ x1 ∧ x1 < (q : Int)) := hxx
  have lR := (Array.getElem?_eq_some_iff.1 hR).1
  have lL := (Array.getElem?_eq_some_iff.1 hL).1
  have lF := (Array.getElem?_eq_some_iff.1 hF).1
  have lX := (Array.getElem?_eq_some_iff.1 bX).1
  have P0 : Bx w.heap.size [.int .i64 f, .int .i64 (p : Int), .int .i64 B, .int .i64 (q : Int), .slice (some ⟨g, 0, none⟩) n cap] W := HPW.out.same (hS w.heap.size (by simp))
  have X0 : Bx gx [.int .i64 x0, .int .i64 x1] W := Bx.of_heap bX
  have HOUT := Lib.hid (fun hk => fulP_out (A := (p : Int)) (B := B) (C := (q : Int)) (F := F) (pre := pre.map Subtype.val) (v := (x0, x1)) hk)
  have HHAS := Lib.hid (fulP_has HH.out.lat (F := F) (pre := pre.map Subtype.val) (v := (x0, x1)))
  have HIN := Lib.hid (fun hk => fulP_in HH.out.lat (F := F) (pre := pre.map Subtype.val) (v := (x0, x1)) hk)
  have hlat := fulP_lat HH.out.lat F (pre.map Subtype.val)
  have HMA := Lib.hid (show (pre ++ [(⟨(x0, x1), hxx⟩ : CV p q)]).map Subtype.val = pre.map Subtype.val ++ [(x0, x1)] from by simp)
  obtain ⟨fp, hfp⟩ : ∃ fp, fp = fulP (p : Int) B (q : Int) F (pre.map Subtype.val) := ⟨_, rfl⟩
  rw [← hfp] at hF hlat HOUT HHAS HIN
  obtain ⟨a, b, c⟩ := fp
  dsimp only at hF hlat HHAS HIN
  have HFP := Lib.hid hfp
  have F0 : BX (w.heap.size + 1 + 1) [.int .i64 a, .int .i64 b, .int .i64 c] W := BX.of_heap hF
  have hlb := latI_bd hlat
  have HCO := Lib.hid (fun X => contains_any a b c x0 x1 X hlat (by unfold midI; omega) (by unfold midI; omega))
  have HVB := Lib.hid (show vecsB [(a, 0), (b, c), (x0, x1)] from by
   intro v hv
   have h1 := hlat.1
   have h2 := hlat.2.1
   have h3 := hlat.2.2.1
   have h4 := hlat.2.2.2.1
   simp only [List.mem_cons, List.not_mem_nil, or_false] at hv
   rcases hv with rfl | rfl | rfl <;> dsimp only <;> omega)
  have HSP := Lib.hid (fun X g9 (hV : VL g9 [(a, 0), (b, c), (x0, x1)] X) => (show Calls Tryz.prog 202 #[.slice (some ⟨g9, 0, none⟩) 3 3] X (fun e w' => e = .returned (.agg #[.int .i64 ((latL [(a, 0), (b, c), (x0, x1)]).1), .int .i64 ((latL [(a, 0), (b, c), (x0, x1)]).2.1), .int .i64 ((latL [(a, 0), (b, c), (x0, x1)]).2.2)]) ∧ Below X.heap.size X w') from spanOf_any [(a, 0), (b, c), (x0, x1)] g9 3 X hV HVB.out (by simp) (span_pos hlat (x0, x1))))
  obtain ⟨kb, hkb⟩ : ∃ kb, kb = kptA (p : Int) B (q : Int) F (x0, x1) := ⟨_, rfl⟩
  have HKP := Lib.hid (fun X (hX : Below W.heap.size W X) => (show Calls Tryz.prog 200 #[.agg #[.int .i64 f, .int .i64 (p : Int), .int .i64 B, .int .i64 (q : Int), .slice (some ⟨g, 0, none⟩) n cap], .agg #[.int .i64 x0, .int .i64 x1]] X (fun e w' => e = .returned (.bool kb) ∧ Below X.heap.size X w') from by rw [hkb]; exact shiftKept_any HH.out (R.out.call (hB1.trans (hX.mono hB1.size))) x0 x1 (by omega) (by omega)))
  rw [← hkb] at HOUT HIN
  have HSS := Lib.hid hS
  have HF0 := Lib.hid hF
  clear hr hlt hl hS hkb hlat hlb hfp hx2
  obtain ⟨hb, hhb⟩ : ∃ hb, hb = hasB a b c x0 x1 := ⟨_, rfl⟩
  rw [← hhb] at HCO HHAS
  clear hhb
  have p0c0 := P0.c0
  have p0c1 := P0.c1
  have p0c2 := P0.c2
  have p0c3 := P0.c3
  have p0c4 := P0.c4
  have p0l := P0.lt
  have f0c0 := F0.c0
  have f0c1 := F0.c1
  have f0c2 := F0.c2
  have f0l := F0.lt
  have x0c0 := X0.c0
  have x0c1 := X0.c1
  have x0l := X0.lt
  rcases hb with _ | _
  ·rcases kb with _ | _
   ·gi_wp2_with (first | (refine ⟨trivial, ?_⟩; gi_at_call 103; refine (CallsIn.inRound l (callsIn_wide.2 (HCO.out _))).mono ?_; rintro e w5 ⟨rfl, hb5⟩; have D5 : Below W.heap.size W w5 := hb5; have P5 := P0.call hb5; have F5 := F0.call hb5; have X5 := X0.call hb5; clear p0c0 p0c1 p0c2 p0c3 p0c4 p0l f0c0 f0c1 f0c2 f0l x0c0 x0c1 x0l; have p5c0 := P5.c0; have p5c1 := P5.c1; have p5c2 := P5.c2; have p5c3 := P5.c3; have p5c4 := P5.c4; have p5l := P5.lt; have f5c0 := F5.c0; have f5c1 := F5.c1; have f5c2 := F5.c2; have f5l := F5.lt; have x5c0 := X5.c0; have x5c1 := X5.c1; have x5l := X5.lt) | (refine ⟨trivial, ?_⟩; gi_at_call 200; refine (CallsIn.inRound l (callsIn_wide.2 (HKP.out _ D5))).mono ?_; rintro e w6 ⟨rfl, hb6⟩; have D6 : Below W.heap.size W w6 := bstep D5 hb6; have P6 := P5.call hb6; have F6 := F5.call hb6; have X6 := X5.call hb6; clear p5c0 p5c1 p5c2 p5c3 p5c4 p5l f5c0 f5c1 f5c2 f5l x5c0 x5c1 x5l; have f6c0 := F6.c0; have f6c1 := F6.c1; have f6c2 := F6.c2; have f6l := F6.lt; have x6c0 := X6.c0; have x6c1 := X6.c1; have x6l := X6.lt; have p6l := P6.lt))
    refine ⟨keepsF_below _ D6, D6.block _ lL, ⟨⟨⟨⟨(D6.block _ lR).trans hR, (D6.block _ lL).trans hL⟩, ((D6.block _ lF).trans HF0.out).trans (by rw [HMA.out, HOUT.out (by simp)])⟩, fun bb hbb => ?_⟩, hB1.trans (D6.mono hB1.size)⟩⟩
    obtain ⟨ob, h1, _⟩ := HS.out bb hbb
    have h2 := HSS.out bb hbb
    rw [h1] at h2
    exact (D6.block _ (Array.getElem?_eq_some_iff.1 h2).1).trans (h2.trans h1.symm)
   ·gi_wp2_with (first | (refine ⟨trivial, ?_⟩; gi_at_call 103; refine (CallsIn.inRound l (callsIn_wide.2 (HCO.out _))).mono ?_; rintro e w5 ⟨rfl, hb5⟩; have D5 : Below W.heap.size W w5 := hb5; have P5 := P0.call hb5; have F5 := F0.call hb5; have X5 := X0.call hb5; clear p0c0 p0c1 p0c2 p0c3 p0c4 p0l f0c0 f0c1 f0c2 f0l x0c0 x0c1 x0l; have p5c0 := P5.c0; have p5c1 := P5.c1; have p5c2 := P5.c2; have p5c3 := P5.c3; have p5c4 := P5.c4; have p5l := P5.lt; have f5c0 := F5.c0; have f5c1 := F5.c1; have f5c2 := F5.c2; have f5l := F5.lt; have x5c0 := X5.c0; have x5c1 := X5.c1; have x5l := X5.lt) | (refine ⟨trivial, ?_⟩; gi_at_call 200; refine (CallsIn.inRound l (callsIn_wide.2 (HKP.out _ D5))).mono ?_; rintro e w6 ⟨rfl, hb6⟩; have D6 : Below W.heap.size W w6 := bstep D5 hb6; have P6 := P5.call hb6; have F6 := F5.call hb6; have X6 := X5.call hb6; clear p5c0 p5c1 p5c2 p5c3 p5c4 p5l f5c0 f5c1 f5c2 f5l x5c0 x5c1 x5l; have f6c0 := F6.c0; have f6c1 := F6.c1; have f6c2 := F6.c2; have f6l := F6.lt; have x6c0 := X6.c0; have x6c1 := X6.c1; have x6l := X6.lt; have p6l := P6.lt) | (refine ⟨trivial, ?_⟩; gi_at_call 201; refine (CallsIn.inRound l (callsIn_wide.2 (basis9_any a b c _))).mono ?_; rintro e w7 ⟨rfl, hb7⟩; have D7 : Below W.heap.size W w7 := bstep D6 hb7; have F7 := F6.call hb7; have X7 := X6.call hb7; clear f6c0 f6c1 f6c2 f6l x6c0 x6c1 x6l; have x7c0 := X7.c0; have x7c1 := X7.c1; have x7l := X7.lt; have f7l := F7.lt) | (refine ⟨trivial, ?_⟩; gi_at_call 202; refine (CallsIn.inRound l (callsIn_wide.2 (HSP.out _ _ (VL3 (Bx.at _ (by first | rfl | simp)))))).mono ?_; rintro e w8 ⟨rfl, hb8⟩; have D8 : Below W.heap.size W w8 := bstep (Below.alloc (Below.alloc D7 D7.size _) (by have := D7.size; simp; omega) _) hb8; have F8 := ((F7.alloc _).alloc _).call hb8; have f8c0 := F8.c0; have f8c1 := F8.c1; have f8c2 := F8.c2; have f8f0 := F8.f0; have f8f1 := F8.f1; have f8f2 := F8.f2; have f8l := F8.lt))
    have hh : ∀ bb, bb ≠ w.heap.size + 1 + 1 → bb < W.heap.size → (((w8.setCell ⟨w.heap.size + 1 + 1, 0, none⟩ (.int .i64 (latL [(a, 0), (b, c), (x0, x1)]).1)).setCell ⟨w.heap.size + 1 + 1, 1, none⟩ (.int .i64 (latL [(a, 0), (b, c), (x0, x1)]).2.1)).setCell ⟨w.heap.size + 1 + 1, 2, none⟩ (.int .i64 (latL [(a, 0), (b, c), (x0, x1)]).2.2)).heap[bb]? = W.heap[bb]? := fun bb h1 h2 => (((Below.heap_setCell _ _ _ bb (by dsimp only; omega)).trans (Below.heap_setCell _ _ _ bb (by dsimp only; omega))).trans (Below.heap_setCell _ _ _ bb (by dsimp only; omega))).trans (D8.block bb h2)
    have hf9 := heap_set39 (b0 := .int .i64 (latL [(a, 0), (b, c), (x0, x1)]).1) (b1 := .int .i64 (latL [(a, 0), (b, c), (x0, x1)]).2.1) (b2 := .int .i64 (latL [(a, 0), (b, c), (x0, x1)]).2.2) ((D8.block _ lF).trans HF0.out)
    have l8 := D8.size
    refine ⟨(((keepsF_below _ D8).trans ((KeepsOthers.setCell w8 ⟨w.heap.size + 1 + 1, 0, none⟩ _).from _)).trans ((KeepsOthers.setCell _ ⟨w.heap.size + 1 + 1, 1, none⟩ _).from _)).trans ((KeepsOthers.setCell _ ⟨w.heap.size + 1 + 1, 2, none⟩ _).from _), hh _ (by omega) lL, ⟨⟨⟨⟨(hh _ (by omega) lR).trans hR, (hh _ (by omega) lL).trans hL⟩, ?_⟩, fun bb hbb => ?_⟩, (((hB1.trans (D8.mono hB1.size)).setCell (by dsimp only; omega) _).setCell (by dsimp only; omega) _).setCell (by dsimp only; omega) _⟩⟩
    ·rw [HMA.out, ← HIN.out (by simp)]
     exact hf9
    ·obtain ⟨ob, h1, _⟩ := HS.out bb hbb
     have h2 := HSS.out bb hbb
     rw [h1] at h2
     have hne : bb = w.heap.size := by simpa using hbb
     exact (hh bb (by omega) (Array.getElem?_eq_some_iff.1 h2).1).trans (h2.trans h1.symm)
  ·gi_wp2_with (first | (refine ⟨trivial, ?_⟩; gi_at_call 103; refine (CallsIn.inRound l (callsIn_wide.2 (HCO.out _))).mono ?_; rintro e w5 ⟨rfl, hb5⟩; have D5 : Below W.heap.size W w5 := hb5; have P5 := P0.call hb5; have F5 := F0.call hb5; have X5 := X0.call hb5; clear p0c0 p0c1 p0c2 p0c3 p0c4 p0l f0c0 f0c1 f0c2 f0l x0c0 x0c1 x0l; have p5c0 := P5.c0; have p5c1 := P5.c1; have p5c2 := P5.c2; have p5c3 := P5.c3; have p5c4 := P5.c4; have p5l := P5.lt; have f5c0 := F5.c0; have f5c1 := F5.c1; have f5c2 := F5.c2; have f5l := F5.lt; have x5c0 := X5.c0; have x5c1 := X5.c1; have x5l := X5.lt) | (refine ⟨trivial, ?_⟩))
   refine ⟨keepsF_below _ D5, D5.block _ lL, ⟨⟨⟨⟨(D5.block _ lR).trans hR, (D5.block _ lL).trans hL⟩, ((D5.block _ lF).trans HF0.out).trans (by rw [HMA.out, HHAS.out (by simp)])⟩, fun bb hbb => ?_⟩, hB1.trans (D5.mono hB1.size)⟩⟩
   obtain ⟨ob, h1, _⟩ := HS.out bb hbb
   have h2 := HSS.out bb hbb
   rw [h1] at h2
   exact (D5.block _ (Array.getElem?_eq_some_iff.1 h2).1).trans (h2.trans h1.symm)
 case done =>
  rintro D zs W hD hzs ⟨⟨⟨⟨hR, hL⟩, hF⟩, hS⟩, hB1⟩ hK
  have lR := (Array.getElem?_eq_some_iff.1 hR).1
  have lF := (Array.getElem?_eq_some_iff.1 hF).1
  rw [hzs] at hF
  have F0 : BX (w.heap.size + 1 + 1) [.int .i64 (fulP (p : Int) B (q : Int) F (cellP q p)).1, .int .i64 (fulP (p : Int) B (q : Int) F (cellP q p)).2.1, .int .i64 (fulP (p : Int) B (q : Int) F (cellP q p)).2.2] W := BX.of_heap hF
  have R0 : BX (w.heap.size + 1) [.int .i64 0, .int .i64 0, .int .i64 0] W := BX.of_heap hR
  have f0c0 := F0.c0
  have f0c1 := F0.c1
  have f0c2 := F0.c2
  have r0c0 := R0.c0
  have r0c1 := R0.c1
  have r0c2 := R0.c2
  have r0f0 := R0.f0
  have r0f1 := R0.f1
  have r0f2 := R0.f2
  have hI9 : fulP (p : Int) B (q : Int) F (cellP q p) = fulI (p : Int) B (q : Int) F := by unfold fulI; simp
  rw [hI9] at f0c0 f0c1 f0c2
  obtain ⟨W9, hW9⟩ : ∃ W9, ((W.setCell ⟨w.heap.size + 1, 0, none⟩ (.int .i64 (fulI (p : Int) B (q : Int) F).1)).setCell ⟨w.heap.size + 1, 1, none⟩ (.int .i64 (fulI (p : Int) B (q : Int) F).2.1)).setCell ⟨w.heap.size + 1, 2, none⟩ (.int .i64 (fulI (p : Int) B (q : Int) F).2.2) = W9 := ⟨_, rfl⟩
  have hr9 : W9.heap[w.heap.size + 1]? = some (.cells #[.int .i64 (fulI (p : Int) B (q : Int) F).1, .int .i64 (fulI (p : Int) B (q : Int) F).2.1, .int .i64 (fulI (p : Int) B (q : Int) F).2.2] 28 (0, 0)) := by rw [← hW9]; exact heap_set39 hR
  have hK9 : W9.heap[D]? = some (.deferred (some [])) := by rw [← hW9]; exact (((Below.heap_setCell _ _ _ D (by dsimp only; omega)).trans (Below.heap_setCell _ _ _ D (by dsimp only; omega))).trans (Below.heap_setCell _ _ _ D (by dsimp only; omega))).trans hK
  have hB9 : Below w.heap.size w W9 := by rw [← hW9]; exact ((hB1.setCell (by dsimp only; omega) _).setCell (by dsimp only; omega) _).setCell (by dsimp only; omega) _
  have hX9 : Bx (w.heap.size + 1) [.int .i64 (fulI (p : Int) B (q : Int) F).1, .int .i64 (fulI (p : Int) B (q : Int) F).2.1, .int .i64 (fulI (p : Int) B (q : Int) F).2.2] (W9.putObj D (.deferred none)) := Bx.of_heap ((World.putObj_heap_other (by omega)).trans hr9)
  have kc0 := hX9.c0
  have kc1 := hX9.c1
  have kc2 := hX9.c2
  gi_wp2
  (try rw [hW9])
  refine ⟨by simp, .inl ⟨_, _, rfl, run_takeDeferred hK9, ?_⟩⟩
  refine ⟨.agg #[.int .i64 ((fulI (p : Int) B (q : Int) F).1), .int .i64 ((fulI (p : Int) B (q : Int) F).2.1), .int .i64 ((fulI (p : Int) B (q : Int) F).2.2)], ?_, rfl, hB9.trans (belowK_b (w := w) (Nat.le_refl _) _ D _ _ (by omega) hK9 rfl rfl)⟩
  simp [results, Tryz.results137, go_sem, kc0, kc1, kc2]
 case stop =>
  rintro D c pre W _ _ h _
  exact h.elim
end
end Go.Proofs.YtjjfomokecngoaaGreatDoor

namespace Go.Proofs.YtjjfomokecngoaaGreatDoor
section
open Go.RowKit
set_option linter.unusedSimpArgs false
set_option linter.unusedVariables false

/- the colours on another lattice -/
def onG (A B C : Int) (F : Nat → Int) (p q : Nat) : Nat → Int := cpyG A B C F 1 0 0 1 0 0 p q
theorem cpyL_unit (A B C : Int) (F : Nat → Int) (L : List V29) : cpyL A B C F 1 0 0 1 0 0 L = L.map fun v => F (numP A B C v.1 v.2) := by
 unfold cpyL
 congr 1
 funext v
 unfold cpy
 rw [show 1 * v.1 + 0 * v.2 + 0 = v.1 by omega, show 0 * v.1 + 1 * v.2 + 0 = v.2 by omega]
theorem BX.grown {g : Nat} {us : List Value} {W w1 : World} {row : Option Nat} (h : BX g us W) (hg : W.grownBy w1 row) (hr : row ≠ some g) : BX g us w1 := by
 have hh := hg.block g h.lt (fun e => hr e.symm)
 exact ⟨⟨Nat.lt_of_lt_of_le h.lt hg.size, fun i u e => (World.cell?_of_block (w := W) hh).trans (h.bx.cel i u e)⟩, fun i hi => (World.frozen?_of_block (w := W) hh).trans (h.fr i hi)⟩
set_option maxRecDepth 100000 in
set_option maxHeartbeats 16000000 in
theorem spread_any {lo hi p q n p' q' : Nat} {f B B' : Int} {v : Value} {F : Nat → Int} {W : World} (h : PatI f p B q n F) (hl : latI (p' : Int) B' (q' : Int)) (hv : SRow lo hi 1 v n F W) (hU : UnitOK W) :
  Calls Tryz.prog 136 #[.agg #[.int .i64 f, .int .i64 (p : Int), .int .i64 B, .int .i64 (q : Int), v], .agg #[.int .i64 ((p' : Int)), .int .i64 B', .int .i64 ((q' : Int))]] W (fun e w' => ∃ v' : Value, e = .returned (.agg #[.int .i64 f, .int .i64 (p' : Int), .int .i64 B', .int .i64 (q' : Int), v']) ∧ SRow W.heap.size w'.heap.size 1 v' (p' * q') (onG (p : Int) B (q : Int) F p' q') w' ∧ Below W.heap.size W w') := by
 have R := Lib.hid hv
 have HH := Lib.hid h
 obtain ⟨hp1, hp2, hq1, hq2, hn64, hn1⟩ := h.bd
 have hpi' : PatI 0 p' B' q' (p' * q') (fun _ => 0) := ⟨rfl, hl, rfl, fun t _ => by omega⟩
 obtain ⟨hp1', hp2', hq1', hq2', hn64', hn1'⟩ := hpi'.bd
 have HL := Lib.hid hl
 obtain ⟨g, cap, rfl, hg, _, r⟩ := hv.irow hn1
 have hgs := hv.1
 have hgw : g < W.heap.size := by omega
 have P0 : Bx W.heap.size [.int .i64 f, .int .i64 (p : Int), .int .i64 B, .int .i64 (q : Int), .slice (some ⟨g, 0, none⟩) n cap] (((W.alloc (.cells #[.int .i64 f, .int .i64 (p : Int), .int .i64 B, .int .i64 (q : Int), .slice (some ⟨g, 0, none⟩) n cap] 40)).alloc (.cells #[.int .i64 (p' : Int), .int .i64 B', .int .i64 (q' : Int)] 28)).alloc (.cells #[.int .i64 0, .int .i64 0, .int .i64 0, .int .i64 0, .slice none 0 0] 40)) := ((Bx.at _ rfl).alloc _).alloc _
 have L0 : Bx (W.heap.size + 1) [.int .i64 (p' : Int), .int .i64 B', .int .i64 (q' : Int)] (((W.alloc (.cells #[.int .i64 f, .int .i64 (p : Int), .int .i64 B, .int .i64 (q : Int), .slice (some ⟨g, 0, none⟩) n cap] 40)).alloc (.cells #[.int .i64 (p' : Int), .int .i64 B', .int .i64 (q' : Int)] 28)).alloc (.cells #[.int .i64 0, .int .i64 0, .int .i64 0, .int .i64 0, .slice none 0 0] 40)) := (Bx.at _ (by simp)).alloc _
 have R0 : BX (W.heap.size + 1 + 1) [.int .i64 0, .int .i64 0, .int .i64 0, .int .i64 0, .slice none 0 0] (((W.alloc (.cells #[.int .i64 f, .int .i64 (p : Int), .int .i64 B, .int .i64 (q : Int), .slice (some ⟨g, 0, none⟩) n cap] 40)).alloc (.cells #[.int .i64 (p' : Int), .int .i64 B', .int .i64 (q' : Int)] 28)).alloc (.cells #[.int .i64 0, .int .i64 0, .int .i64 0, .int .i64 0, .slice none 0 0] 40)) := BX.at _ (by simp)
 have B0 : Below W.heap.size W (((W.alloc (.cells #[.int .i64 f, .int .i64 (p : Int), .int .i64 B, .int .i64 (q : Int), .slice (some ⟨g, 0, none⟩) n cap] 40)).alloc (.cells #[.int .i64 (p' : Int), .int .i64 B', .int .i64 (q' : Int)] 28)).alloc (.cells #[.int .i64 0, .int .i64 0, .int .i64 0, .int .i64 0, .slice none 0 0] 40)) := by exact pkVb0
 have U0 : UnitOK (((W.alloc (.cells #[.int .i64 f, .int .i64 (p : Int), .int .i64 B, .int .i64 (q : Int), .slice (some ⟨g, 0, none⟩) n cap] 40)).alloc (.cells #[.int .i64 (p' : Int), .int .i64 B', .int .i64 (q' : Int)] 28)).alloc (.cells #[.int .i64 0, .int .i64 0, .int .i64 0, .int .i64 0, .slice none 0 0] 40)) := ((hU.alloc _).alloc _).alloc _
 obtain ⟨ul, u0, u1, u2, u3⟩ := id hU
 have un : ¬ 0 = W.heap.size := by omega
 have un1 : ¬ 0 = W.heap.size + 1 := by omega
 have un2 : ¬ 0 = W.heap.size + 1 + 1 := by omega
 clear hv h hl hpi' hU
 go_enter Tryz.func136, Tryz.ntmps136
 go_wp2_with fail
 with_reducible refine (copied_any HH.out.lat HH.out.nn HL.out (R.out.call B0) 1 0 0 1 0 0 (by decide) (by decide) (by decide)).mono ?_
 rintro e w1 ⟨v1, rfl, r1, hb1⟩
 have P1 := P0.call hb1
 have L1 := L0.call hb1
 have R1 := R0.call hb1
 have B1 := bstep B0 hb1
 have hz1 := hb1.size
 have HR : Hid (SRow (W.heap.size + 3) w1.heap.size 1 v1 (p' * q') (onG (p : Int) B (q : Int) F p' q') w1) := Lib.hid (r1.low (lo' := W.heap.size + 3) (by simp))
 obtain ⟨ao1, cap1, rfl⟩ := r1.slice
 have HB := Lib.hid B1
 clear hb1 P0 L0 R0 B0 U0 r1 B1 u0 u1 u2 u3 un un1 un2 ul
 have p1c0 := P1.c0
 have p1c1 := P1.c1
 have p1c2 := P1.c2
 have p1c3 := P1.c3
 have p1c4 := P1.c4
 have p1l := P1.lt
 have l1c0 := L1.c0
 have l1c1 := L1.c1
 have l1c2 := L1.c2
 have l1l := L1.lt
 have r1c0 := R1.c0
 have r1c1 := R1.c1
 have r1c2 := R1.c2
 have r1c3 := R1.c3
 have r1c4 := R1.c4
 have r1f0 := R1.f0
 have r1f1 := R1.f1
 have r1f2 := R1.f2
 have r1f3 := R1.f3
 have r1f4 := R1.f4
 have r1l := R1.lt
 go_wp2
 refine bodyPost_ret (v := .agg #[.int .i64 f, .int .i64 (p' : Int), .int .i64 B', .int .i64 (q' : Int), .slice ao1 (p' * q') cap1]) (by simp [results, Tryz.results136, go_sem, *]) rfl ⟨_, rfl, ?_, ?_⟩
 ·refine SRow.up (hi := w1.heap.size) (SRow.low (lo := W.heap.size + 3) ?_ (by omega))
  repeat (first | with_reducible exact HR.out | with_reducible refine SRow.put (by first | omega | (dsimp only; omega)) _ ?_)
 ·have hB := HB.out
  exact pkVb0
end
end Go.Proofs.YtjjfomokecngoaaGreatDoor

namespace Go.Proofs.YtjjfomokecngoaaGreatDoor
section
open Go.RowKit
set_option linter.unusedSimpArgs false
set_option linter.unusedVariables false

def leaP (A B C : Int) (F : Nat → Int) : Nat := (fulI A B C F).1.toNat
def leaQ (A B C : Int) (F : Nat → Int) : Nat := (fulI A B C F).2.2.toNat
theorem fulI_at {A B C : Int} {F : Nat → Int} (h : latI A B C) : fulI A B C F = ((leaP A B C F : Int), (fulI A B C F).2.1, (leaQ A B C F : Int)) ∧ latI (leaP A B C F : Int) (fulI A B C F).2.1 (leaQ A B C F : Int) := by
 have hl : latI (fulI A B C F).1 (fulI A B C F).2.1 (fulI A B C F).2.2 := fulP_lat h F _
 have h1 := hl.1
 have h2 := hl.2.1
 have e1 : ((leaP A B C F : Nat) : Int) = (fulI A B C F).1 := by unfold leaP; omega
 have e2 : ((leaQ A B C F : Nat) : Int) = (fulI A B C F).2.2 := by unfold leaQ; omega
 rw [e1, e2]
 exact ⟨rfl, hl⟩
set_option maxRecDepth 100000 in
set_option maxHeartbeats 16000000 in
theorem lean_any {lo hi p q n p' q' : Nat} {f B B' : Int} {v : Value} {F : Nat → Int} {W : World} (h : PatI f p B q n F) (hf : fulI (p : Int) B (q : Int) F = ((p' : Int), B', (q' : Int))) (hl : latI (p' : Int) B' (q' : Int)) (hv : SRow lo hi 1 v n F W) (hU : UnitOK W) :
  Calls Tryz.prog 65 #[.agg #[.int .i64 f, .int .i64 (p : Int), .int .i64 B, .int .i64 (q : Int), v]] W (fun e w' => ∃ v' : Value, e = .returned (.agg #[.int .i64 f, .int .i64 (p' : Int), .int .i64 B', .int .i64 (q' : Int), v']) ∧ SRow W.heap.size w'.heap.size 1 v' (p' * q') (onG (p : Int) B (q : Int) F p' q') w' ∧ Below W.heap.size W w') := by
 have R := Lib.hid hv
 have HH := Lib.hid h
 have HL := Lib.hid hl
 have HU := Lib.hid hU
 obtain ⟨hp1, hp2, hq1, hq2, hn64, hn1⟩ := h.bd
 obtain ⟨g, cap, rfl, hg, _, r⟩ := hv.irow hn1
 have hgs := hv.1
 have hgw : g < W.heap.size := by omega
 have HFL := Lib.hid (fun (X : World) (hX : Below W.heap.size W X) => (show Calls Tryz.prog 137 #[.agg #[.int .i64 f, .int .i64 (p : Int), .int .i64 B, .int .i64 (q : Int), .slice (some ⟨g, 0, none⟩) n cap]] X (fun e w' => e = .returned (.agg #[.int .i64 ((p' : Int)), .int .i64 B', .int .i64 ((q' : Int))]) ∧ Below X.heap.size X w') from by
  have h9 := fullLat_any HH.out (R.out.call hX)
  rw [hf] at h9
  exact h9))
 have HSP := Lib.hid (fun (X : World) (hX : Below W.heap.size W X) => spread_any HH.out HL.out (R.out.call hX) (HU.out.call hX))
 have P0 : Bx W.heap.size [.int .i64 f, .int .i64 (p : Int), .int .i64 B, .int .i64 (q : Int), .slice (some ⟨g, 0, none⟩) n cap] ((W.alloc (.cells #[.int .i64 f, .int .i64 (p : Int), .int .i64 B, .int .i64 (q : Int), .slice (some ⟨g, 0, none⟩) n cap] 40)).alloc (.cells #[.int .i64 0, .int .i64 0, .int .i64 0, .int .i64 0, .slice none 0 0] 40)) := (Bx.at _ rfl).alloc _
 have R0 : BX (W.heap.size + 1) [.int .i64 0, .int .i64 0, .int .i64 0, .int .i64 0, .slice none 0 0] ((W.alloc (.cells #[.int .i64 f, .int .i64 (p : Int), .int .i64 B, .int .i64 (q : Int), .slice (some ⟨g, 0, none⟩) n cap] 40)).alloc (.cells #[.int .i64 0, .int .i64 0, .int .i64 0, .int .i64 0, .slice none 0 0] 40)) := BX.at _ (by simp)
 have B0 : Below W.heap.size W ((W.alloc (.cells #[.int .i64 f, .int .i64 (p : Int), .int .i64 B, .int .i64 (q : Int), .slice (some ⟨g, 0, none⟩) n cap] 40)).alloc (.cells #[.int .i64 0, .int .i64 0, .int .i64 0, .int .i64 0, .slice none 0 0] 40)) := by exact pkVb0
 clear hv h hl hf r hU
 go_enter Tryz.func65, Tryz.ntmps65
 go_wp2_with fail
 go_region_held3 (fun W9 => (W9.cell? ⟨W.heap.size, 0, none⟩ = some (.int .i64 f) ∧ W9.cell? ⟨W.heap.size, 1, none⟩ = some (.int .i64 (p : Int)) ∧ W9.cell? ⟨W.heap.size, 2, none⟩ = some (.int .i64 B) ∧ W9.cell? ⟨W.heap.size, 3, none⟩ = some (.int .i64 (q : Int)) ∧ W9.cell? ⟨W.heap.size, 4, none⟩ = some (.slice (some ⟨g, 0, none⟩) n cap))) ((refine Bx.cells5 ?_) <;> exact pkVb1)
  (first
   | (go_at_call 137; with_reducible refine (HFL.out _ (by exact pkVb2)).mono ?_; rintro e w1 ⟨rfl, hb1⟩; have P1 : Bx W.heap.size [.int .i64 f, .int .i64 (p : Int), .int .i64 B, .int .i64 (q : Int), .slice (some ⟨g, 0, none⟩) n cap] w1 := (by exact pkVb1); have R1 : BX (W.heap.size + 1) [.int .i64 0, .int .i64 0, .int .i64 0, .int .i64 0, .slice none 0 0] w1 := (by exact pkVb1); have B1 : Below W.heap.size W w1 := (by exact pkVb2); have p1c0 := P1.c0; have p1c1 := P1.c1; have p1c2 := P1.c2; have p1c3 := P1.c3; have p1c4 := P1.c4; have p1l := P1.lt)
   | (go_at_call 136; with_reducible refine (HSP.out _ (by exact pkVb2)).mono ?_; rintro e w2 ⟨v2, rfl, r2, hb2⟩; have R2 : BX (W.heap.size + 1) [.int .i64 0, .int .i64 0, .int .i64 0, .int .i64 0, .slice none 0 0] w2 := (by exact pkVb1); have B2 : Below W.heap.size W w2 := (by exact pkVb2); obtain ⟨ao2, cap2, rfl⟩ := r2.slice; have B1z := B1.size; have b1l := R1.lt; have HR2 := Lib.hid (r2.low (lo' := W.heap.size + 2) (by first | omega | (simp; omega))); have HB2 := Lib.hid B2; clear r2 B2; have r2c0 := R2.c0; have r2c1 := R2.c1; have r2c2 := R2.c2; have r2c3 := R2.c3; have r2c4 := R2.c4; have r2f0 := R2.f0; have r2f1 := R2.f1; have r2f2 := R2.f2; have r2f3 := R2.f3; have r2f4 := R2.f4; have r2l := R2.lt))
 all_goals
  go_wp2
  refine bodyPost_ret (v := .agg #[.int .i64 f, .int .i64 (p' : Int), .int .i64 B', .int .i64 (q' : Int), .slice ao2 (p' * q') cap2]) (by simp [results, Tryz.results65, go_sem, *]) rfl ⟨_, rfl, ?_, ?_⟩
  ·refine SRow.up (hi := w2.heap.size) (SRow.low (lo := W.heap.size + 2) ?_ (by omega))
   repeat (first | with_reducible exact HR2.out | with_reducible refine SRow.put (by first | omega | (dsimp only; omega)) _ ?_)
  ·have hB := HB2.out
   exact pkVb0
/- a call's answer: a pattern, its list in new memory, and a code -/
end
end Go.Proofs.YtjjfomokecngoaaGreatDoor

