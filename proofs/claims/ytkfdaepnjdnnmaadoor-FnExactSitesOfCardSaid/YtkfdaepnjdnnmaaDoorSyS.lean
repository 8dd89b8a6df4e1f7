/-
  The symmetries of a pattern, as a list, in the program. Condition: the pattern is valid.
-/
import Derived.Test.YtkfdaepnjdnnmaaDoorSyM
import Derived.Test.YtkfdaepnjdnnmaaDoorSyB
namespace Go.Proofs.YtkfdaepnjdnnmaaDoor
open Go.RowKit Go.Shelf
attribute [local go_sem] Oper.semAt_some
set_option linter.unusedSimpArgs false
set_option linter.unusedVariables false

/- whether a motion of the list keeps the pattern -/
def kepB (p : Nat) (B : Int) (q : Nat) (F : Nat → Int) (m : M6) : Bool := kepM (p : Int) B (q : Int) F m.1 m.2.1 m.2.2.1 m.2.2.2.1 m.2.2.2.2.1 m.2.2.2.2.2 (cellP q p)
def symL (f : Int) (p : Nat) (B : Int) (q : Nat) (F : Nat → Int) : List M6 := (motL f p B q).filter (kepB p B q F)
theorem infoMoS : (Tryd.prog.info? 111).map (fun i => (i.zero, i.size, i.bytes)) = some (some (.agg #[.int .i64 0, .int .i64 0, .int .i64 0, .int .i64 0, .int .i64 0, .int .i64 0]), 6, 48) := by kernel_rfl
theorem cells6_snocS (xs : List M6) (x : M6) : cells6 (xs ++ [x]) = cells6 xs ++ [.int .i64 x.1, .int .i64 x.2.1, .int .i64 x.2.2.1, .int .i64 x.2.2.2.1, .int .i64 x.2.2.2.2.1, .int .i64 x.2.2.2.2.2] := by
  unfold cells6
  rw [List.flatMap_append]
  simp
theorem keepT_app {w5 w6 : World} {gb nn k : Nat} {v u : Value} {xs : List Value} {tmp : Obj} (hv : Boxed w5 gb 75 v) (hrow : w5.ownsRow nn 111 6 v k xs) (hgrow : (w5.alloc tmp).grownBy w6 v.ownBlock) : KeepT w5 (w6.setCell ⟨gb, 0, none⟩ u) := by
  refine ⟨by have := hgrow.size; simp at this; simp [World.setCell]; omega, fun b cs T e h1 h2 => ?_⟩
  have lb := (Array.getElem?_eq_some_iff.1 e).1
  have hb : b ≠ gb := by
    rintro rfl
    rw [show w5.heap[b]? = _ from hv] at e
    simp only [Option.some.injEq, Obj.cells.injEq] at e
    exact h2 e.2.1.symm
  have hn : some b ≠ v.ownBlock := by
    rcases hrow.2 with ⟨rfl, _⟩ | ⟨g, cap, cur, rfl, hg, hgb, _⟩
    · simp [Value.ownBlock]
    · intro e'
      obtain rfl : b = g := by simpa [Value.ownBlock] using e'
      rw [hgb] at e
      simp only [Option.some.injEq, Obj.cells.injEq] at e
      exact h1 e.2.1.symm
  exact (Below.heap_setCell w6 _ _ b (by dsimp only; omega)).trans ((hgrow.block b (by simp; omega) hn).trans (Below.heap_alloc w5 _ _ lb))
def SyI (f : Int) (p : Nat) (B : Int) (q : Nat) (F : Nat → Int) (g n cap : Nat) (W : World) (pre : List (MS f p B q)) (X : World) : Prop := ((∃ v, Boxed X (W.heap.size + 1) 75 v ∧ X.ownsRow (W.heap.size + 1) 111 6 v ((pre.map Subtype.val).filter (kepB p B q F)).length (cells6 ((pre.map Subtype.val).filter (kepB p B q F))) ∧ True) ∧ X.heap[W.heap.size]? = some (.cells #[.int .i64 f, .int .i64 (p : Int), .int .i64 B, .int .i64 (q : Int), .slice (some ⟨g, 0, none⟩) n cap] 33 (0, 0))) ∧ Below W.heap.size W X
theorem SyI.of {f : Int} {p : Nat} {B : Int} {q : Nat} {F : Nat → Int} {g n cap : Nat} {W : World} {pre : List (MS f p B q)} {X : World} (h : ((∃ v, Boxed X (W.heap.size + 1) 75 v ∧ X.ownsRow (W.heap.size + 1) 111 6 v ((pre.map Subtype.val).filter (kepB p B q F)).length (cells6 ((pre.map Subtype.val).filter (kepB p B q F))) ∧ True) ∧ X.heap[W.heap.size]? = some (.cells #[.int .i64 f, .int .i64 (p : Int), .int .i64 B, .int .i64 (q : Int), .slice (some ⟨g, 0, none⟩) n cap] 33 (0, 0))) ∧ Below W.heap.size W X) : SyI f p B q F g n cap W pre X := h
theorem SyI.own {f : Int} {p : Nat} {B : Int} {q : Nat} {F : Nat → Int} {g n cap : Nat} {W W0 : World} (z2 : W.heap.size ≤ W0.heap.size) : OwnFrom W0.heap.size (SyI f p B q F g n cap W) :=
  (OwnFrom.and (OwnFrom.and (Own.from (holdsRow_own (W.heap.size + 1) (W.heap.size + 1) 75 111 6 (fun pre : List (MS f p B q) => ((pre.map Subtype.val).filter (kepB p B q F)).length) (fun pre => cells6 ((pre.map Subtype.val).filter (kepB p B q F))) (fun _ _ => True)) _) (Own.from (at_own4 _ _ rfl) _)) (ownFrom_below (Nat.le_refl _) z2))
theorem motQ_lim {f : Int} {p : Nat} {B : Int} {q : Nat} {m : M6} (hf : frB f = true) (hp : p ≤ 64) (hq : q ≤ 64) (h : MotQ f p B q m) : limB m.1 m.2.1 m.2.2.1 m.2.2.2.1 = true ∧ vecB m.2.2.2.2.1 m.2.2.2.2.2 = true := by
  obtain ⟨⟨h1, _⟩, h2, h3⟩ := h
  have hs := keep_small hf h1
  refine ⟨?_, by simp [vecB]; omega⟩
  simp [limB, vecB]
  omega
set_option maxRecDepth 100000 in
set_option maxHeartbeats 16000000 in
theorem symm_any {lo hi p q n : Nat} {f B : Int} {v : Value} {F : Nat → Int} {W : World} (h : PatI f p B q n F) (hv : SRow lo hi 1 v n F W) :
    Calls Tryd.prog 43 #[.agg #[.int .i64 f, .int .i64 (p : Int), .int .i64 B, .int .i64 (q : Int), v]] W fun e w' => ∃ v', e = .returned v' ∧ w'.ownsRow W.heap.size 111 6 v' (symL f p B q F).length (cells6 (symL f p B q F)) ∧ Below W.heap.size W w' := by
  obtain ⟨i0, hi0, hz0, hz1, hz2⟩ := info_parts infoMoS
  have R := Lib.hid hv
  have HH := Lib.hid h
  obtain ⟨hp1, hp2, hq1, hq2, hn64, hn1⟩ := h.bd
  obtain ⟨g, cap, rfl, hg, _, r⟩ := hv.irow hn1
  have hgs := hv.1
  have hgw : g < W.heap.size := by omega
  have hf := h.fr
  have HL := Lib.hid h.lat
  have P0 : Bx W.heap.size [.int .i64 f, .int .i64 (p : Int), .int .i64 B, .int .i64 (q : Int), .slice (some ⟨g, 0, none⟩) n cap] ((W.alloc (.cells #[.int .i64 f, .int .i64 (p : Int), .int .i64 B, .int .i64 (q : Int), .slice (some ⟨g, 0, none⟩) n cap] 33)).alloc (.cells #[.slice none 0 0] 75)) := (Bx.at _ rfl).alloc _
  have G0 : Boxed ((W.alloc (.cells #[.int .i64 f, .int .i64 (p : Int), .int .i64 B, .int .i64 (q : Int), .slice (some ⟨g, 0, none⟩) n cap] 33)).alloc (.cells #[.slice none 0 0] 75)) (W.heap.size + 1) 75 (.slice none 0 0) := by have h9 := Boxed.new (W.alloc (.cells #[.int .i64 f, .int .i64 (p : Int), .int .i64 B, .int .i64 (q : Int), .slice (some ⟨g, 0, none⟩) n cap] 33)) 75 (.slice none 0 0); simpa using h9
  have B0 : Below W.heap.size W ((W.alloc (.cells #[.int .i64 f, .int .i64 (p : Int), .int .i64 B, .int .i64 (q : Int), .slice (some ⟨g, 0, none⟩) n cap] 33)).alloc (.cells #[.slice none 0 0] 75)) := by repeat (first | with_reducible exact Below.refl _ _ | with_reducible assumption | with_reducible refine Below.setCell ?_ (by first | omega | (dsimp only; omega) | (simp <;> omega)) _ | with_reducible refine Below.alloc ?_ (by first | omega | (simp <;> omega)) _ | with_reducible refine bstep ?_ (by with_reducible assumption) | with_reducible refine Below.drew ?_ | with_reducible refine below_drewN ?_ _)
  have O0 : ((W.alloc (.cells #[.int .i64 f, .int .i64 (p : Int), .int .i64 B, .int .i64 (q : Int), .slice (some ⟨g, 0, none⟩) n cap] 33)).alloc (.cells #[.slice none 0 0] 75)).heap[W.heap.size]? = some (.cells #[.int .i64 f, .int .i64 (p : Int), .int .i64 B, .int .i64 (q : Int), .slice (some ⟨g, 0, none⟩) n cap] 33 (0, 0)) := (Below.heap_alloc _ _ _ (by simp)).trans (World.alloc_heap_new W _)
  clear hv h
  refine (callsIn_wide (n := 9)).1 ?_
  refine callsIn_of_wp_marks Tryd.func43 rfl trivial ?_ rfl
  simp only [Tryd.ntmps43, List.size_toArray, List.length_cons, List.length_nil, Nat.reduceAdd, Nat.reduceSub, Array.replicate_succ, Array.replicate_zero, List.push_toArray, List.append_toArray, List.nil_append, List.cons_append]
  have p0c0 := P0.c0
  have p0c1 := P0.c1
  have p0c2 := P0.c2
  have p0c3 := P0.c3
  have p0c4 := P0.c4
  have p0l := P0.lt
  gi_wp2_with (first
    | (refine ⟨trivial, ?_⟩; gi_at_call 77; refine (callsIn_wide.2 (planeOf_yes _ _ hf)).mono ?_; rintro e w1 ⟨rfl, hb1⟩; have P1 := P0.call hb1; have G1 := boxed_call G0 hb1; have B1 := bstep B0 hb1; have O1 := (hb1.block _ (by simp; omega)).trans O0; have z1 := hb1.size; have p1c0 := P1.c0; have p1c1 := P1.c1; have p1c2 := P1.c2; have p1c3 := P1.c3; have p1c4 := P1.c4; have p1l := P1.lt)
    | (refine ⟨trivial, ?_⟩; gi_at_call 78; refine (mots_in _ _ _ _ _ _).mono ?_; rintro e w2 ⟨rfl, rfl⟩))
  have AL : Below w1.heap.size w1 ((w1.alloc (.cells #[.int .i64 (p : Int), .int .i64 B, .int .i64 (q : Int)] 31)).alloc (.cells #[.iface (planeT f) (.agg #[])] 116)) := ((Below.refl _ _).alloc (Nat.le_refl _) _).alloc (by simp) _
  have bL : ((w1.alloc (.cells #[.int .i64 (p : Int), .int .i64 B, .int .i64 (q : Int)] 31)).alloc (.cells #[.iface (planeT f) (.agg #[])] 116)).heap[w1.heap.size]? = some (.cells #[.int .i64 (p : Int), .int .i64 B, .int .i64 (q : Int)] 31 (0, 0)) := (Below.heap_alloc _ _ _ (by simp)).trans (World.alloc_heap_new w1 _)
  have bP : ((w1.alloc (.cells #[.int .i64 (p : Int), .int .i64 B, .int .i64 (q : Int)] 31)).alloc (.cells #[.iface (planeT f) (.agg #[])] 116)).heap[w1.heap.size + 1]? = some (.cells #[.iface (planeT f) (.agg #[])] 116 (0, 0)) := by simpa using World.alloc_heap_new (w1.alloc (.cells #[.int .i64 (p : Int), .int .i64 B, .int .i64 (q : Int)] 31)) (.cells #[.iface (planeT f) (.agg #[])] 116)
  obtain ⟨W0, hW0⟩ : ∃ W0, (w1.alloc (.cells #[.int .i64 (p : Int), .int .i64 B, .int .i64 (q : Int)] 31)).alloc (.cells #[.iface (planeT f) (.agg #[])] 116) = W0 := ⟨_, rfl⟩
  rw [hW0] at AL bL bP
  (try rw [hW0])
  clear hW0
  have O2 := (AL.block _ (Array.getElem?_eq_some_iff.1 O1).1).trans O1
  have G2 := boxed_call G1 AL
  have B2 := bstep B1 AL
  have z2 := B2.size
  clear O0 O1 G0 G1 B0 B1 P0 P1 hb1 AL p0c0 p0c1 p0c2 p0c3 p0c4 p0l p1c0 p1c1 p1c2 p1c3 p1c4 p1l
  refine wpIn_rangeFunc_all rfl (by omega) (gf := 111) (lb := #[.pointer (some ⟨w1.heap.size + 1, 0, none⟩), .pointer (some ⟨w1.heap.size, 0, none⟩)]) rfl trivial (enters_of Tryd.func111 (by kernel_rfl) rfl)
    (mots_all f p B q hf HL.out _ _ W0 bP bL) (fun _ => rfl) (fun h k => h.trans k) (fun X l o o' h1 h2 h3 h4 => KeepT.put X l o o' h1 h2 h3 h4)
    (SyI f p B q F g n cap W)
    (SyI.own z2)
    (SyI.of ⟨⟨⟨_, G2, World.ownsRow_nil _ _ _ _, trivial⟩, O2⟩, B2⟩)
    (fun x a' X => ∃ bxx : Nat, X.heap[bxx]? = some (.cells #[.int .i64 x.1.1, .int .i64 x.1.2.1, .int .i64 x.1.2.2.1, .int .i64 x.1.2.2.2.1, .int .i64 x.1.2.2.2.2.1, .int .i64 x.1.2.2.2.2.2] 111 (0, 0)) ∧ a' = { tmps := #[.agg #[.int .i64 f, .int .i64 (p : Int), .int .i64 B, .int .i64 (q : Int), .slice (some ⟨g, 0, none⟩) n cap], .pointer (some ⟨W.heap.size, 0, none⟩), .slice none 0 0, .pointer (some ⟨W.heap.size + 1, 0, none⟩), .iface (planeT f) (.agg #[]), .bool true, .pointer (some ⟨bxx, 0, none⟩), .tuple #[.iface (planeT f) (.agg #[]), .bool true], .pointer (some ⟨W.heap.size, 0, none⟩), .int .i64 f, .tuple #[.iface (planeT f) (.agg #[]), .bool true], .iface (planeT f) (.agg #[]), .bool true, .pointer (some ⟨W.heap.size, 1, none⟩), .agg #[.int .i64 ((p : Int)), .int .i64 B, .int .i64 ((q : Int))], .iface (planeT f) (.agg #[]), .func (.func 111) #[] #[.pointer (some ⟨w1.heap.size + 1, 0, none⟩), .pointer (some ⟨w1.heap.size, 0, none⟩)], .agg #[.int .i64 x.1.1, .int .i64 x.1.2.1, .int .i64 x.1.2.2.1, .int .i64 x.1.2.2.2.1, .int .i64 x.1.2.2.2.2.1, .int .i64 x.1.2.2.2.2.2], undef, undef, undef, undef, undef, undef, undef, undef, undef], defers := [] })
    (fun x a' _ X Y row hs hg hr => by obtain ⟨bxx, h2, h3⟩ := hs; exact ⟨bxx, at_own4 bxx _ rfl () X Y row h2 hg (fun r e => (hr r e).2), h3⟩)
    ?assign ?body ?done
  case assign =>
    rintro l pre x X K ⟨⟨⟨v, hv, hrow, _⟩, hO⟩, hB1⟩ hK
    gi_wp2
    exact hK _ _ ((KeepsOthers.alloc _ _).from _) (KeepT.below ((Below.refl _ _).alloc (Nat.le_refl _) _)) (SyI.of ⟨⟨⟨v, hv.alloc _, hrow.alloc _, trivial⟩, (Below.heap_alloc X _ _ (Array.getElem?_eq_some_iff.1 hO).1).trans hO⟩, hB1.alloc hB1.size _⟩) ⟨X.heap.size, World.alloc_heap_new X _, rfl⟩
  case body =>
    rintro l pre x a' X ⟨⟨⟨v, hv, hrow, _⟩, hO⟩, hB1⟩ ⟨bxx, bX, rfl⟩ hlt
    obtain ⟨⟨a, b, c, d, s, t⟩, hq⟩ := x
    dsimp only at bX
    have hlim := motQ_lim hf hp2 hq2 hq
    have P3 : Bx W.heap.size [.int .i64 f, .int .i64 (p : Int), .int .i64 B, .int .i64 (q : Int), .slice (some ⟨g, 0, none⟩) n cap] X := Bx.of_heap hO
    have cX : X.cell? ⟨bxx, 0, none⟩ = some (.int .i64 a) ∧ X.cell? ⟨bxx, 1, none⟩ = some (.int .i64 b) ∧ X.cell? ⟨bxx, 2, none⟩ = some (.int .i64 c) ∧ X.cell? ⟨bxx, 3, none⟩ = some (.int .i64 d) ∧ X.cell? ⟨bxx, 4, none⟩ = some (.int .i64 s) ∧ X.cell? ⟨bxx, 5, none⟩ = some (.int .i64 t) := by simp [World.cell?, bX]
    have HSN := Lib.hid (show ((pre ++ [(⟨(a, b, c, d, s, t), hq⟩ : MS f p B q)]).map Subtype.val).filter (kepB p B q F) = ((pre.map Subtype.val).filter (kepB p B q F)) ++ (if kepB p B q F (a, b, c, d, s, t) = true then [(a, b, c, d, s, t)] else []) from by
      rw [List.map_append, List.filter_append]
      congr 1
      rcases hk9 : kepB p B q F (a, b, c, d, s, t) with _ | _ <;> simp [hk9])
    have HLN := Lib.hid (show ((pre.map Subtype.val).filter (kepB p B q F)).length < 5184 from Nat.lt_of_le_of_lt (List.length_filter_le _ _) (by rw [List.length_map]; exact hlt))
    obtain ⟨kb, hkb⟩ : ∃ kb, kb = kepB p B q F (a, b, c, d, s, t) := ⟨_, rfl⟩
    have HBR := Lib.hid (show Calls Tryd.prog 79 #[.agg #[.int .i64 f, .int .i64 (p : Int), .int .i64 B, .int .i64 (q : Int), .slice (some ⟨g, 0, none⟩) n cap], .agg #[.int .i64 a, .int .i64 b, .int .i64 c, .int .i64 d, .int .i64 s, .int .i64 t]] X (fun e w' => e = .returned (.bool (!kb)) ∧ Below X.heap.size X w') from by rw [hkb]; exact broken_any HH.out (R.out.call hB1) a b c d s t hlim.1 hlim.2)
    rw [← hkb] at HSN
    generalize (pre.map Subtype.val).filter (kepB p B q F) = zs at hrow HSN HLN
    have HR9 := Lib.hid hrow
    have HV9 := Lib.hid hv
    have HO9 := Lib.hid hO
    have HBX := Lib.hid bX
    have ltO := (Array.getElem?_eq_some_iff.1 hO).1
    have zX := hB1.size
    clear hkb hlt hlim hO hrow
    obtain ⟨cX0, cX1, cX2, cX3, cX4, cX5⟩ := cX
    have p3c0 := P3.c0
    have p3c1 := P3.c1
    have p3c2 := P3.c2
    have p3c3 := P3.c3
    have p3c4 := P3.c4
    have p3l := P3.lt
    rcases kb with _ | _
    · gi_wp2_with (refine ⟨trivial, ?_⟩; gi_at_call 79; refine (CallsIn.inRound l (callsIn_wide.2 HBR.out)).mono ?_; rintro e w5 ⟨rfl, hb5⟩)
      refine ⟨keepsFrom_below _ hb5, KeepT.below hb5, SyI.of ⟨⟨⟨v, boxed_call hv hb5, ?_, trivial⟩, (hb5.block _ ltO).trans HO9.out⟩, hB1.trans (hb5.mono zX)⟩⟩
      rw [HSN.out]
      simpa using ownsRow_call9 HR9.out hb5
    · gi_wp2_with (first
        | (refine ⟨trivial, ?_⟩; gi_at_call 79; refine (CallsIn.inRound l (callsIn_wide.2 HBR.out)).mono ?_; rintro e w5 ⟨rfl, hb5⟩; have hv5 := boxed_call hv hb5; have hr5 := ownsRow_call9 HR9.out hb5; have h5c := hv5.cell; have bX5 := (hb5.block _ (Array.getElem?_eq_some_iff.1 HBX.out).1).trans HBX.out; have d5 : w5.cell? ⟨bxx, 0, none⟩ = some (.int .i64 a) ∧ w5.cell? ⟨bxx, 1, none⟩ = some (.int .i64 b) ∧ w5.cell? ⟨bxx, 2, none⟩ = some (.int .i64 c) ∧ w5.cell? ⟨bxx, 3, none⟩ = some (.int .i64 d) ∧ w5.cell? ⟨bxx, 4, none⟩ = some (.int .i64 s) ∧ w5.cell? ⟨bxx, 5, none⟩ = some (.int .i64 t) := (by simp [World.cell?, bX5]); obtain ⟨d50, d51, d52, d53, d54, d55⟩ := d5; have z5 := hb5.size; clear cX0 cX1 cX2 cX3 cX4 cX5 p3c0 p3c1 p3c2 p3c3 p3c4 p3l)
        | (gi_at_builtin; refine wpListIn_append_own _ rfl _ _ 75 rfl (W.heap.size + 1) 111 i0 (.agg #[.int .i64 0, .int .i64 0, .int .i64 0, .int .i64 0, .int .i64 0, .int .i64 0]) 6 48 Tryd.underlying75 hi0 hz0 hz1 hz2 rfl (by decide) _ _ _ rfl (hr5.alloc _) ⟨w5.heap.size, 0, none⟩ 1 1 [.int .i64 a, .int .i64 b, .int .i64 c, .int .i64 d, .int .i64 s, .int .i64 t] rfl rfl (new_six _ _ _ _ _ _ _ rfl) one_six (by have := HLN.out; unfold maxLen; omega) (by have := HLN.out; omega) (by have := hv5.lt; simp; omega) ?_; intro v' w6 hown' hgrow _; obtain ⟨g', cap', rfl⟩ := ownsRow_succ hown'; obtain ⟨hv1, hv2, hr2, hk2, hb2⟩ := hv5.appended (by decide) hr5 (by have := hv5.lt; omega) (Nat.le_refl _) hown' hgrow; have HKT := Lib.hid (keepT_app (u := .slice (some ⟨g', 0, none⟩) (zs.length + 1) cap') hv5 hr5 hgrow); have hc1 := hv1.cell; have hf1 := hv1.frozen))
      have HB5 : KeepsFrom W0.heap.size X w5 := keepsFrom_below _ hb5
      refine ⟨HB5.trans (hk2.from _), (KeepT.below hb5).trans HKT.out, SyI.of ⟨⟨⟨_, hv2, ?_, trivial⟩, ?_⟩, hB1.trans ((hb5.mono zX).trans (hb2.mono (by omega)))⟩⟩
      · rw [HSN.out]
        first | rw [if_pos rfl] | rw [if_pos trivial]
        rw [List.length_append, cells6_snocS]
        simpa using hr2
      · exact (hb2.block _ (by omega)).trans ((hb5.block _ ltO).trans HO9.out)
  case done =>
    rintro D zs X hD hzs ⟨⟨⟨v, hv, hrow, _⟩, hO⟩, hB1⟩ hK
    have cS := hv.cell
    have HR9 := Lib.hid (ownsRow_putObj hrow (.deferred none) hK rfl)
    clear hrow
    gi_wp2
    refine ⟨by simp, .inl ⟨_, _, rfl, run_takeDeferred hK, ?_⟩⟩
    refine ⟨_, results_tmp rfl _ _ _, v, rfl, ?_, hB1.trans (belowK_b (w := W) (Nat.le_refl _) X D _ _ (by omega) hK rfl rfl)⟩
    have h9 := HR9.out
    rw [hzs] at h9
    exact ownsRow_lower h9 (by omega)
end Go.Proofs.YtkfdaepnjdnnmaaDoor
