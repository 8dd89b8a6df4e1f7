/-
 The program's neighbours: eight vectors of a lattice round a reduced basis, in order. Conditions: the frame and the lattice are valid.
-/
import Derived.Test.YtjjfomokecngoaaGreatDoorGauss
import Derived.Test.YtjjfomokecngoaaGreatDoorSort2q
import Derived.Test.YtjjfomokecngoaaGreatDoorShortq
import Derived.Test.YtjjfomokecngoaaGreatDoorGf
namespace Go.Proofs.YtjjfomokecngoaaGreatDoor
open Go.RowKit
set_option linter.unusedSimpArgs false
set_option linter.unusedVariables false

theorem pkNbq0 {P : Prop} (h : P := by repeat (first | assumption | with_reducible refine ownsRow_call ?_ (by assumption) | with_reducible refine ownsRow_call ?_ (Below.drew (Below.refl _ _)) | with_reducible refine ownsRow_call ?_ (Below.alloc (Below.refl _ _) (Nat.le_refl _) _))) : P := h
theorem pkNbq1 {P : Prop} (h : P := by repeat (first | assumption | exact Below.refl _ _ | refine Below.alloc ?_ (by first | omega | (simp <;> omega)) _ | refine bstep ?_ (by assumption) | refine Below.drew ?_)) : P := h
theorem pkNbq2 {P : Prop} (h : P := by repeat (first | assumption | with_reducible refine KW.alloc ?_ _ | with_reducible refine KW.drew ?_ | with_reducible refine KW.call ?_ (by assumption))) : P := h
def neg1 (p : Int × Int) : Int × Int := (p.1 * -1, p.2 * -1)
def prs (P : List (Int × Int)) : List (Int × Int) := P.flatMap (fun p => [p, neg1 p])
def fourL (ux uy vx vy : Int) : List (Int × Int) := [(ux, uy), (vx, vy), (ux + vx, uy + vy), (ux + vx * -1, uy + vy * -1)]
theorem prs_nb (ux uy vx vy : Int) : prs (fourL ux uy vx vy) = nbL ux uy vx vy := by
 simp only [prs, fourL, nbL, nbC, cmb, neg1, List.flatMap_cons, List.flatMap_nil, List.map_cons, List.map_nil, List.cons_append, List.nil_append, List.append_nil, List.cons.injEq, Prod.mk.injEq]
 refine ⟨⟨?_, ?_⟩, ⟨?_, ?_⟩, ⟨?_, ?_⟩, ⟨?_, ?_⟩, ⟨?_, ?_⟩, ⟨?_, ?_⟩, ⟨?_, ?_⟩, ⟨?_, ?_⟩, trivial⟩ <;> omega
theorem prs_take {P : List (Int × Int)} {k : Nat} (h : k < P.length) : prs (P.take (k + 1)) = prs (P.take k) ++ [P[k], neg1 P[k]] := by
 unfold prs
 rw [List.take_succ_eq_append_getElem h, List.flatMap_append]
 simp
theorem prs_len (P : List (Int × Int)) : (prs P).length = P.length * 2 := by
 unfold prs
 induction P with
 | nil => rfl
 | cons p P ih => simp only [List.flatMap_cons, List.length_append, List.length_cons, List.length_nil] at *; omega
/- the sorted row as a list -/
def listE (E : Nat → Int × Int) : List (Int × Int) := (List.range 8).map E
theorem listE_len (E : Nat → Int × Int) : (listE E).length = 8 := by simp [listE]
theorem listE_row (E : Nat → Int × Int) (t : Nat) (ht : t < 16) : rowE E t = intAt (cells2 (listE E)) t := by
 have hk : t / 2 < (listE E).length := by rw [listE_len]; omega
 obtain ⟨h1, h2⟩ := at2 hk
 have he : (listE E)[t / 2] = E (t / 2) := by simp [listE]
 rw [he] at h1 h2
 unfold rowE
 by_cases c : t % 2 = 0
 ·rw [if_pos c, ← h1, show t / 2 * 2 = t by omega]
 ·rw [if_neg c, ← h2, show t / 2 * 2 + 1 = t by omega]
theorem listE_sorted {E : Nat → Int × Int} {E0 : Nat → Int × Int} (h : ordE E 8) (hS : SameE E0 E) : (listE E).Pairwise lexlt := by
 unfold listE
 rw [List.pairwise_map]
 refine List.Pairwise.imp_of_mem ?_ (List.pairwise_lt_range (n := 8))
 intro a b ha hb hab
 rw [List.mem_range] at ha hb
 rcases lexlt_tri (E a) (E b) with c | c | c
 ·exact c
 ·have := hS.inj a b ha hb c; omega
 ·exact absurd c (h a b hab hb)
theorem listE_mem {E E0 : Nat → Int × Int} (hS : SameE E0 E) (w : Int × Int) : w ∈ listE E ↔ ∃ k, k < 8 ∧ E0 k = w := by
 rw [← hS.mem w]
 unfold listE
 rw [List.mem_map]
 constructor
 ·rintro ⟨k, hk, e⟩; exact ⟨k, List.mem_range.1 hk, e⟩
 ·rintro ⟨k, hk, e⟩; exact ⟨k, List.mem_range.2 hk, e⟩
def ofL (L : List (Int × Int)) (k : Nat) : Int × Int := L.getD k (0, 0)
theorem ofL_row {L : List (Int × Int)} (h : L.length = 8) (t : Nat) (ht : t < 16) : intAt (cells2 L) t = rowE (ofL L) t := by
 have hk : t / 2 < L.length := by omega
 obtain ⟨h1, h2⟩ := at2 hk
 have he : ofL L (t / 2) = L[t / 2] := by unfold ofL; rw [List.getD_eq_getElem?_getD, List.getElem?_eq_getElem hk]; rfl
 unfold rowE
 rw [he]
 by_cases c : t % 2 = 0
 ·rw [if_pos c, ← h1, show t / 2 * 2 = t by omega]
 ·rw [if_neg c, ← h2, show t / 2 * 2 + 1 = t by omega]
theorem ofL_same {L : List (Int × Int)} (h : L.length = 8) (hn : L.Pairwise (· ≠ ·)) : SameE (ofL L) (ofL L) := by
 refine ⟨fun w => Iff.rfl, ?_⟩
 intro k l hk hl e
 have h1 : ofL L k = L[k] := by unfold ofL; rw [List.getD_eq_getElem?_getD, List.getElem?_eq_getElem (by omega)]; rfl
 have h2 : ofL L l = L[l] := by unfold ofL; rw [List.getD_eq_getElem?_getD, List.getElem?_eq_getElem (by omega)]; rfl
 rw [h1, h2] at e
 rw [List.pairwise_iff_getElem] at hn
 rcases Nat.lt_trichotomy k l with c | c | c
 ·exact absurd e (hn k l (by omega) (by omega) c)
 ·exact c
 ·exact absurd e.symm (hn l k (by omega) (by omega) c)
theorem ofL_mem {L : List (Int × Int)} (h : L.length = 8) (w : Int × Int) : (∃ k, k < 8 ∧ ofL L k = w) ↔ w ∈ L := by
 constructor
 ·rintro ⟨k, hk, rfl⟩
  unfold ofL
  rw [List.getD_eq_getElem?_getD, List.getElem?_eq_getElem (by omega)]
  exact List.getElem_mem (by omega)
 ·intro hw
  obtain ⟨k, hk, e⟩ := List.getElem_of_mem hw
  exact ⟨k, by omega, by unfold ofL; rw [List.getD_eq_getElem?_getD, List.getElem?_eq_getElem hk]; exact e⟩
def NbPost (f A B C : Int) (w : World) (e : Ending) (w' : World) : Prop :=
 ∃ (ux uy vx vy : Int) (L : List (Int × Int)) (g cap : Nat), e = .returned (.slice (some ⟨g, 0, none⟩) 8 cap) ∧ Gau f A B C ux uy vx vy ∧ L.length = 8 ∧ L.Pairwise lexlt ∧ (∀ z, z ∈ L ↔ z ∈ nbL ux uy vx vy) ∧ midL L ∧ w.heap.size ≤ g ∧ (8 ≤ cap ∧ cap ≤ maxLen) ∧ IRow g 16 (intAt (cells2 L)) w' ∧ Below w.heap.size w w'
-- PRSMARK
theorem new_fourn {W : World} {g : Nat} (T : TypeId) (a b c d : Value) (hg : g = W.heap.size) : ∀ (j : Nat) (u : Value), [a, b, c, d][j]? = some u → (W.alloc (.cells #[a, b, c, d] T)).cell? ((⟨g, 0, none⟩ : Addr).add j) = some u := by
 subst hg
 intro j u hj
 match j, hj with
 | 0, hj => simp at hj; subst hj; simp [Addr.add, go_sem]
 | 1, hj => simp at hj; subst hj; simp [Addr.add, go_sem]
 | 2, hj => simp at hj; subst hj; simp [Addr.add, go_sem]
 | 3, hj => simp at hj; subst hj; simp [Addr.add, go_sem]
 | j + 4, hj => simp at hj
theorem one_fourn {a b c d : Int} : ∀ u ∈ [Value.int .i64 a, .int .i64 b, .int .i64 c, .int .i64 d], u.oneCell' = true := by
 intro u hu
 simp only [List.mem_cons, List.not_mem_nil, or_false] at hu
 rcases hu with rfl | rfl | rfl | rfl <;> rfl
theorem own_next4n {w1 : World} {base : Nat} {e : TypeId} {v : Value} {xs : List (Int × Int)} {a b c d : Int} (h : w1.ownsRow base e 2 v (xs.length + 2) (cells2 xs ++ [.int .i64 a, .int .i64 b, .int .i64 c, .int .i64 d])) : w1.ownsRow base e 2 v (xs ++ [(a, b), (c, d)]).length (cells2 (xs ++ [(a, b), (c, d)])) := by
 rw [show xs ++ [(a, b), (c, d)] = (xs ++ [(a, b)]) ++ [(c, d)] by simp, cells2_snoc, cells2_snoc]; simpa using h
theorem own_cap {W : World} {base : Nat} {e : TypeId} {size n g cap : Nat} {xs : List Value} (h : W.ownsRow base e size (.slice (some ⟨g, 0, none⟩) n cap) n xs) : n ≤ cap ∧ cap ≤ maxLen := by
 rcases h.2 with ⟨h, _⟩ | ⟨g', cap', cs, h, _, _, h1, h2, _⟩
 ·simp at h
 ·simp at h
  obtain ⟨_, rfl⟩ := h
  exact ⟨h1, h2⟩
theorem KW.grown {R : Nat} {a b : Int} {W w1 : World} {row : Option Nat} (h : KW R a b W) (hg : W.grownBy w1 row) (hne : some R ≠ row) : KW R a b w1 :=
 ⟨Nat.lt_of_lt_of_le h.lt hg.size, hg.cell h.c0 hne, hg.cell h.c1 hne, (World.frozen?_of_block (hg.block R h.lt hne)).trans h.f0, (World.frozen?_of_block (hg.block R h.lt hne)).trans h.f1⟩
theorem mid_of {ux uy vx vy : Int} {L : List (Int × Int)} (h : RB ux uy vx vy) (hL : ∀ z, z ∈ L ↔ z ∈ nbL ux uy vx vy) : midL L := by
 obtain ⟨⟨⟨r1, r2⟩, r3, r4⟩, ⟨r5, r6⟩, r7, r8⟩ := h
 intro z hz
 have := (hL z).1 hz
 simp only [nbL, nbC, cmb, List.map_cons, List.map_nil, List.mem_cons, List.not_mem_nil, or_false] at this
 rcases this with rfl | rfl | rfl | rfl | rfl | rfl | rfl | rfl <;> (unfold midI; dsimp only; omega)
set_option maxRecDepth 100000 in
set_option maxHeartbeats 8000000 in
theorem neighbours_any (f A B C : Int) (w : World) (hf : frB f = true) (hl : latI A B C) :
  Calls Tryz.prog 205 #[.agg #[.int .i64 A, .int .i64 B, .int .i64 C], .iface (planeT f) (.agg #[])] w (NbPost f A B C w) := by
 obtain ⟨i0, hi, hz0, hz1, hz2⟩ := info_parts infoVec
 have HI := Lib.hid hl
 clear hl
 go_enter Tryz.func205, Tryz.ntmps205
 go_wp2_with fail
 refine (shortBasis_any f A B C _ hf HI.out).mono ?_
 rintro e w1 ⟨ux, uy, vx, vy, rfl, hG, hN, hb1⟩
 have B1 : Below w.heap.size w w1 := bstep ((Below.refl _ _).alloc (Nat.le_refl _) _) hb1
 clear hb1
 have z1 := B1.size
 have RBB := rb_of hf hN hG.small
 have HG := Lib.hid hG
 have HR := Lib.hid RBB
 obtain ⟨⟨⟨r1, r2⟩, r3, r4⟩, ⟨r5, r6⟩, r7, r8⟩ := RBB
 have PL := Lib.hid (fun W => plusBig_any ux uy vx vy W (by unfold bigI; omega) (by unfold bigI; omega))
 have TM := Lib.hid (fun W => timesBig_any vx vy (-1) W (by unfold bigI; omega) (by unfold bigI; omega))
 have PM := Lib.hid (fun W => plusBig_any ux uy (vx * -1) (vy * -1) W (by unfold bigI; omega) (by unfold bigI; omega))
 have T1 := Lib.hid (fun W => timesBig_any ux uy (-1) W (by unfold bigI; omega) (by unfold bigI; omega))
 have T2 := Lib.hid (fun W => timesBig_any vx vy (-1) W (by unfold bigI; omega) (by unfold bigI; omega))
 have T3 := Lib.hid (fun W => timesBig_any (ux + vx) (uy + vy) (-1) W (by unfold bigI; omega) (by unfold bigI; omega))
 have T4 := Lib.hid (fun W => timesBig_any (ux + vx * -1) (uy + vy * -1) (-1) W (by unfold bigI; omega) (by unfold bigI; omega))
 have HNX : Hid (∃ nx ny, vx * -1 = nx ∧ vy * -1 = ny) := Lib.hid ⟨_, _, rfl, rfl⟩
 obtain ⟨nx, ny, hnx, hny⟩ := HNX.out
 simp only [hnx, hny] at TM PM T4
 have HX := Lib.hid hnx
 have HY := Lib.hid hny
 clear hnx hny HNX
 have HP := Lib.hid (prs_nb ux uy vx vy)
 have HPk := Lib.hid (fun k (h : k < (fourL ux uy vx vy).length) => prs_take h)
 have X1 : KW w1.heap.size ux uy ((w1.alloc (.cells #[.int .i64 ux, .int .i64 uy] 63)).alloc (.cells #[.int .i64 vx, .int .i64 vy] 63)) := KW.alloc (KW.at _ rfl) _
 have X2 : KW (w1.heap.size + 1) vx vy ((w1.alloc (.cells #[.int .i64 ux, .int .i64 uy] 63)).alloc (.cells #[.int .i64 vx, .int .i64 vy] 63)) := KW.at _ (by simp)
 have BX : Below w.heap.size w ((w1.alloc (.cells #[.int .i64 ux, .int .i64 uy] 63)).alloc (.cells #[.int .i64 vx, .int .i64 vy] 63)) := (B1.alloc z1 _).alloc (by simp; omega) _
 clear hG hN r1 r2 r3 r4 r5 r6 r7 r8 B1
 go_wp2_with (at_make; refine wpList_make_own _ rfl _ _ 83 rfl w.heap.size 63 i0 (.agg #[.int .i64 0, .int .i64 0]) 2 Tryz.underlying83 hi hz0 hz1 .i64 .i64 _ 8 rfl rfl rfl (by rw [hz2]; decide) (by unfold maxLen; decide) BX.size ?_)
 intro w2 hown hgrow
 have hb2 := Below.grown (Below.refl _ _) hgrow (Nat.le_refl _) (fun q hq => by simp at hq)
 have Y1 := X1.call hb2
 have Y2 := X2.call hb2
 have B2 := bstep BX hb2
 have z2 := B2.size
 clear X1 X2 BX hgrow hb2 z1
 have hown2 : w2.ownsRow w.heap.size 63 2 (.slice (some ⟨w1.heap.size + 1 + 1, 0, none⟩) 0 8) 0 [] := by simpa using hown
 clear hown
 generalize w1.heap.size = g at *
 generalize hv : Value.slice (some ⟨g + 1 + 1, 0, none⟩) 0 8 = v0 at hown2
 obtain ⟨c0, c1, c2, c3, c4⟩ := id Y1
 obtain ⟨c5, c6, c7, c8, c9⟩ := id Y2
 have Z1 := Y1.pair
 have Z2 := Y2.pair
 go_wp2_with fail
 clear hv
 go_cut [26, 27] (fun s26 s27 wx => s26 = .agg #[.int .i64 ux, .int .i64 uy, .int .i64 vx, .int .i64 vy, .int .i64 (ux + vx), .int .i64 (uy + vy), .int .i64 (ux + nx), .int .i64 (uy + ny)] ∧ s27 = .int .i64 0 ∧ wx.ownsRow w.heap.size 63 2 v0 0 [] ∧ Below w.heap.size w wx)
 case first =>
  go_region_held3 (fun W => (W.cell? ⟨g, 0, none⟩ = some (.int .i64 ux) ∧ W.cell? ⟨g, 1, none⟩ = some (.int .i64 uy)) ∧ (W.cell? ⟨g + 1, 0, none⟩ = some (.int .i64 vx) ∧ W.cell? ⟨g + 1, 1, none⟩ = some (.int .i64 vy))) (((refine And.intro (KW.pair ?_) (KW.pair ?_)) <;> (exact pkNbq2)))
   (first
    | (go_at_call 158; refine (TM.out _).mono ?_; rintro e u1 ⟨rfl, hb1⟩; have G1 : KW g ux uy u1 := (by exact pkNbq2); have H1 : KW (g + 1) vx vy u1 := (by exact pkNbq2); have OO1 : u1.ownsRow w.heap.size 63 2 v0 0 [] := (by exact pkNbq0); have B1 : Below w.heap.size w u1 := (by exact pkNbq1); have zz1 := B1.size)
    | (go_at_call 154; with_reducible refine (PL.out _).mono ?_; rintro e u2 ⟨rfl, hb2⟩; have G2 : KW g ux uy u2 := (by exact pkNbq2); have H2 : KW (g + 1) vx vy u2 := (by exact pkNbq2); have OO2 : u2.ownsRow w.heap.size 63 2 v0 0 [] := (by exact pkNbq0); have B2 : Below w.heap.size w u2 := (by exact pkNbq1); have zz2 := B2.size)
    | (go_at_call 154; with_reducible refine (PM.out _).mono ?_; rintro e u3 ⟨rfl, hb3⟩; have G3 : KW g ux uy u3 := (by exact pkNbq2); have H3 : KW (g + 1) vx vy u3 := (by exact pkNbq2); have OO3 : u3.ownsRow w.heap.size 63 2 v0 0 [] := (by exact pkNbq0); have B3 : Below w.heap.size w u3 := (by exact pkNbq1); have zz3 := B3.size))
  all_goals
   go_wp2_with fail
   go_meet
   exact ⟨rfl, rfl, by assumption, by assumption⟩
 case rest =>
  obtain ⟨rfl, rfl, O4, B4⟩ := hcut
  clear Y1 Y2 c0 c1 c2 c3 c4 c5 c6 c7 c8 c9 Z1 Z2 hown2 B2 z2 PL TM PM
  have h4 : (fourL ux uy vx vy).length = 4 := rfl
  go_wp2_with fail
  go_loopw [7, 27] (fun v i W => ∃ k : Nat, i = .int .i64 (k : Int) ∧ k ≤ 4 ∧ W.ownsRow w.heap.size 63 2 v (prs ((fourL ux uy vx vy).take k)).length (cells2 (prs ((fourL ux uy vx vy).take k))) ∧ Below w.heap.size w W) (fun _ i _ => 4 - (intOf i).toNat)
  case atStart => exact ⟨0, rfl, by omega, O4, B4⟩
  case round =>
   clear O4 B4
   obtain ⟨k, rfl, hk, hown, hB⟩ := hrel
   by_cases hk1 : k < 4
   ·obtain rfl | rfl | rfl | rfl : k = 0 ∨ k = 1 ∨ k = 2 ∨ k = 3 := by omega
    ·have HS := Lib.hid (show prs ((fourL ux uy vx vy).take 1) = prs ((fourL ux uy vx vy).take 0) ++ [(ux, uy), ((ux) * -1, (uy) * -1)] from HPk.out 0 (by rw [h4]; decide))
     have HXL := Lib.hid (show (prs ((fourL ux uy vx vy).take 0)).length ≤ 8 by rw [prs_len, List.length_take, h4]; decide)
     have TC : Hid (∀ W, Calls Tryz.prog 158 #[.agg #[.int .i64 ux, .int .i64 uy], .int .i64 (-1)] W fun e w' => e = .returned (.agg #[.int .i64 ((ux) * -1), .int .i64 ((uy) * -1)]) ∧ Below W.heap.size W w') := T1
     have HFL := Lib.hid h4
     clear h4 HPk HP T1 T2 T3 T4
     generalize prs ((fourL ux uy vx vy).take 0) = xs at *
     generalize hys : prs ((fourL ux uy vx vy).take 1) = ys at HS
     have HYS := Lib.hid hys
     generalize hxn : (ux) * -1 = xn at HS TC
     generalize hyn : (uy) * -1 = yn at HS TC
     have HQ : Hid (∀ q, u7.ownBlock = some q → q < wr.heap.size) := Lib.hid (fun q hq => (hown.lt q hq).2)
     have X0 : KW wr.heap.size (ux) (uy) (wr.alloc (.cells #[.int .i64 (ux), .int .i64 (uy)] 63)) := KW.at _ rfl
     have hO0 : (wr.alloc (.cells #[.int .i64 (ux), .int .i64 (uy)] 63)).ownsRow w.heap.size 63 2 u7 xs.length (cells2 xs) := hown.alloc _
     have hB0 : Below w.heap.size w (wr.alloc (.cells #[.int .i64 (ux), .int .i64 (uy)] 63)) := hB.alloc hB.size _
     have zB0 := hB0.size
     clear hys hxn hyn hown hk hk1
     have hidx : ∀ W, Sem.run Tryz.prog (Instr.index 273 (.agg #[.int .i64 ux, .int .i64 uy, .int .i64 vx, .int .i64 vy, .int .i64 (ux + vx), .int .i64 (uy + vy), .int .i64 (ux + nx), .int .i64 (uy + ny)]) (.int .i64 0)) W = .ok (.agg #[.int .i64 ux, .int .i64 uy]) W := fun W => rfl
     obtain ⟨x0, x1, x2, x3, x4⟩ := id X0
     have XP := X0.pair
     go_wp2_with fail
     go_region_held3 (fun W => (W.cell? ⟨wr.heap.size, 0, none⟩ = some (.int .i64 (ux)) ∧ W.cell? ⟨wr.heap.size, 1, none⟩ = some (.int .i64 (uy)))) ((refine KW.pair ?_; (exact pkNbq2)))
      (first
       | (go_at_call 158; refine (TC.out _).mono ?_; rintro e u1 ⟨rfl, hb1⟩; have G1 : KW wr.heap.size (ux) (uy) u1 := (by exact pkNbq2); have OO1 : u1.ownsRow w.heap.size 63 2 u7 xs.length (cells2 xs) := (by exact pkNbq0); have BB1 : Below w.heap.size w u1 := (by exact pkNbq1); have zz1 := BB1.size)
       | (rw [if_pos (by rfl)]; refine wp_append_own _ _ _ 83 rfl w.heap.size 63 i0 (.agg #[.int .i64 0, .int .i64 0]) 2 16 Tryz.underlying83 hi hz0 hz1 hz2 rfl (by decide) _ _ _ rfl (OO1.alloc _) ⟨u1.heap.size, 0, none⟩ 2 2 [.int .i64 (ux), .int .i64 (uy), .int .i64 xn, .int .i64 yn] rfl rfl (new_fourn _ _ _ _ _ rfl) one_fourn (by have := HXL.out; unfold maxLen; omega) (by have := HXL.out; omega) (by simp; omega) ?_; intro v9 w9 hown9 hgrow _; have OO9 : w9.ownsRow w.heap.size 63 2 v9 ys.length (cells2 ys) := (by rw [HS.out]; exact own_next4n hown9); have BB9 : Below w.heap.size w w9 := Below.grown (BB1.alloc zz1 _) hgrow (by simp; omega) (fun q hq => (OO1.lt q hq).1); have G9 : KW wr.heap.size (ux) (uy) w9 := KW.grown (KW.alloc G1 _) hgrow (fun e => by have := HQ.out _ e.symm; omega)))
     all_goals
      have hown9 := OO9
      have hB9 := BB9
      clear X0 XP x0 x1 x2 x3 x4 hO0 hB0 OO9 BB9 G9 OO1 BB1 G1 zz1 hgrow
      go_wp2
      go_roundw
      case rel => exact ⟨1, by go_num, by omega, by rw [HYS.out]; exact hown9, hB9⟩
      case measure => first | (simp [intOf]; done) | (simp [intOf]; omega)
    ·have HS := Lib.hid (show prs ((fourL ux uy vx vy).take 2) = prs ((fourL ux uy vx vy).take 1) ++ [(vx, vy), ((vx) * -1, (vy) * -1)] from HPk.out 1 (by rw [h4]; decide))
     have HXL := Lib.hid (show (prs ((fourL ux uy vx vy).take 1)).length ≤ 8 by rw [prs_len, List.length_take, h4]; decide)
     have TC : Hid (∀ W, Calls Tryz.prog 158 #[.agg #[.int .i64 vx, .int .i64 vy], .int .i64 (-1)] W fun e w' => e = .returned (.agg #[.int .i64 ((vx) * -1), .int .i64 ((vy) * -1)]) ∧ Below W.heap.size W w') := T2
     have HFL := Lib.hid h4
     clear h4 HPk HP T1 T2 T3 T4
     generalize prs ((fourL ux uy vx vy).take 1) = xs at *
     generalize hys : prs ((fourL ux uy vx vy).take 2) = ys at HS
     have HYS := Lib.hid hys
     generalize hxn : (vx) * -1 = xn at HS TC
     generalize hyn : (vy) * -1 = yn at HS TC
     have HQ : Hid (∀ q, u7.ownBlock = some q → q < wr.heap.size) := Lib.hid (fun q hq => (hown.lt q hq).2)
     have X0 : KW wr.heap.size (vx) (vy) (wr.alloc (.cells #[.int .i64 (vx), .int .i64 (vy)] 63)) := KW.at _ rfl
     have hO0 : (wr.alloc (.cells #[.int .i64 (vx), .int .i64 (vy)] 63)).ownsRow w.heap.size 63 2 u7 xs.length (cells2 xs) := hown.alloc _
     have hB0 : Below w.heap.size w (wr.alloc (.cells #[.int .i64 (vx), .int .i64 (vy)] 63)) := hB.alloc hB.size _
     have zB0 := hB0.size
     clear hys hxn hyn hown hk hk1
     have hidx : ∀ W, Sem.run Tryz.prog (Instr.index 273 (.agg #[.int .i64 ux, .int .i64 uy, .int .i64 vx, .int .i64 vy, .int .i64 (ux + vx), .int .i64 (uy + vy), .int .i64 (ux + nx), .int .i64 (uy + ny)]) (.int .i64 1)) W = .ok (.agg #[.int .i64 vx, .int .i64 vy]) W := fun W => rfl
     obtain ⟨x0, x1, x2, x3, x4⟩ := id X0
     have XP := X0.pair
     go_wp2_with fail
     go_region_held3 (fun W => (W.cell? ⟨wr.heap.size, 0, none⟩ = some (.int .i64 (vx)) ∧ W.cell? ⟨wr.heap.size, 1, none⟩ = some (.int .i64 (vy)))) ((refine KW.pair ?_; (exact pkNbq2)))
      (first
       | (go_at_call 158; refine (TC.out _).mono ?_; rintro e u1 ⟨rfl, hb1⟩; have G1 : KW wr.heap.size (vx) (vy) u1 := (by exact pkNbq2); have OO1 : u1.ownsRow w.heap.size 63 2 u7 xs.length (cells2 xs) := (by exact pkNbq0); have BB1 : Below w.heap.size w u1 := (by exact pkNbq1); have zz1 := BB1.size)
       | (rw [if_pos (by rfl)]; refine wp_append_own _ _ _ 83 rfl w.heap.size 63 i0 (.agg #[.int .i64 0, .int .i64 0]) 2 16 Tryz.underlying83 hi hz0 hz1 hz2 rfl (by decide) _ _ _ rfl (OO1.alloc _) ⟨u1.heap.size, 0, none⟩ 2 2 [.int .i64 (vx), .int .i64 (vy), .int .i64 xn, .int .i64 yn] rfl rfl (new_fourn _ _ _ _ _ rfl) one_fourn (by have := HXL.out; unfold maxLen; omega) (by have := HXL.out; omega) (by simp; omega) ?_; intro v9 w9 hown9 hgrow _; have OO9 : w9.ownsRow w.heap.size 63 2 v9 ys.length (cells2 ys) := (by rw [HS.out]; exact own_next4n hown9); have BB9 : Below w.heap.size w w9 := Below.grown (BB1.alloc zz1 _) hgrow (by simp; omega) (fun q hq => (OO1.lt q hq).1); have G9 : KW wr.heap.size (vx) (vy) w9 := KW.grown (KW.alloc G1 _) hgrow (fun e => by have := HQ.out _ e.symm; omega)))
     all_goals
      have hown9 := OO9
      have hB9 := BB9
      clear X0 XP x0 x1 x2 x3 x4 hO0 hB0 OO9 BB9 G9 OO1 BB1 G1 zz1 hgrow
      go_wp2
      go_roundw
      case rel => exact ⟨2, by go_num, by omega, by rw [HYS.out]; exact hown9, hB9⟩
      case measure => first | (simp [intOf]; done) | (simp [intOf]; omega)
    ·have HS := Lib.hid (show prs ((fourL ux uy vx vy).take 3) = prs ((fourL ux uy vx vy).take 2) ++ [(ux + vx, uy + vy), ((ux + vx) * -1, (uy + vy) * -1)] from HPk.out 2 (by rw [h4]; decide))
     have HXL := Lib.hid (show (prs ((fourL ux uy vx vy).take 2)).length ≤ 8 by rw [prs_len, List.length_take, h4]; decide)
     have TC : Hid (∀ W, Calls Tryz.prog 158 #[.agg #[.int .i64 (ux + vx), .int .i64 (uy + vy)], .int .i64 (-1)] W fun e w' => e = .returned (.agg #[.int .i64 ((ux + vx) * -1), .int .i64 ((uy + vy) * -1)]) ∧ Below W.heap.size W w') := T3
     have HFL := Lib.hid h4
     clear h4 HPk HP T1 T2 T3 T4
     generalize prs ((fourL ux uy vx vy).take 2) = xs at *
     generalize hys : prs ((fourL ux uy vx vy).take 3) = ys at HS
     have HYS := Lib.hid hys
     generalize hxn : (ux + vx) * -1 = xn at HS TC
     generalize hyn : (uy + vy) * -1 = yn at HS TC
     have HQ : Hid (∀ q, u7.ownBlock = some q → q < wr.heap.size) := Lib.hid (fun q hq => (hown.lt q hq).2)
     have X0 : KW wr.heap.size (ux + vx) (uy + vy) (wr.alloc (.cells #[.int .i64 (ux + vx), .int .i64 (uy + vy)] 63)) := KW.at _ rfl
     have hO0 : (wr.alloc (.cells #[.int .i64 (ux + vx), .int .i64 (uy + vy)] 63)).ownsRow w.heap.size 63 2 u7 xs.length (cells2 xs) := hown.alloc _
     have hB0 : Below w.heap.size w (wr.alloc (.cells #[.int .i64 (ux + vx), .int .i64 (uy + vy)] 63)) := hB.alloc hB.size _
     have zB0 := hB0.size
     clear hys hxn hyn hown hk hk1
     have hidx : ∀ W, Sem.run Tryz.prog (Instr.index 273 (.agg #[.int .i64 ux, .int .i64 uy, .int .i64 vx, .int .i64 vy, .int .i64 (ux + vx), .int .i64 (uy + vy), .int .i64 (ux + nx), .int .i64 (uy + ny)]) (.int .i64 2)) W = .ok (.agg #[.int .i64 (ux + vx), .int .i64 (uy + vy)]) W := fun W => rfl
     obtain ⟨x0, x1, x2, x3, x4⟩ := id X0
     have XP := X0.pair
     go_wp2_with fail
     go_region_held3 (fun W => (W.cell? ⟨wr.heap.size, 0, none⟩ = some (.int .i64 (ux + vx)) ∧ W.cell? ⟨wr.heap.size, 1, none⟩ = some (.int .i64 (uy + vy)))) ((refine KW.pair ?_; (exact pkNbq2)))
      (first
       | (go_at_call 158; refine (TC.out _).mono ?_; rintro e u1 ⟨rfl, hb1⟩; have G1 : KW wr.heap.size (ux + vx) (uy + vy) u1 := (by exact pkNbq2); have OO1 : u1.ownsRow w.heap.size 63 2 u7 xs.length (cells2 xs) := (by exact pkNbq0); have BB1 : Below w.heap.size w u1 := (by exact pkNbq1); have zz1 := BB1.size)
       | (rw [if_pos (by rfl)]; refine wp_append_own _ _ _ 83 rfl w.heap.size 63 i0 (.agg #[.int .i64 0, .int .i64 0]) 2 16 Tryz.underlying83 hi hz0 hz1 hz2 rfl (by decide) _ _ _ rfl (OO1.alloc _) ⟨u1.heap.size, 0, none⟩ 2 2 [.int .i64 (ux + vx), .int .i64 (uy + vy), .int .i64 xn, .int .i64 yn] rfl rfl (new_fourn _ _ _ _ _ rfl) one_fourn (by have := HXL.out; unfold maxLen; omega) (by have := HXL.out; omega) (by simp; omega) ?_; intro v9 w9 hown9 hgrow _; have OO9 : w9.ownsRow w.heap.size 63 2 v9 ys.length (cells2 ys) := (by rw [HS.out]; exact own_next4n hown9); have BB9 : Below w.heap.size w w9 := Below.grown (BB1.alloc zz1 _) hgrow (by simp; omega) (fun q hq => (OO1.lt q hq).1); have G9 : KW wr.heap.size (ux + vx) (uy + vy) w9 := KW.grown (KW.alloc G1 _) hgrow (fun e => by have := HQ.out _ e.symm; omega)))
     all_goals
      have hown9 := OO9
      have hB9 := BB9
      clear X0 XP x0 x1 x2 x3 x4 hO0 hB0 OO9 BB9 G9 OO1 BB1 G1 zz1 hgrow
      go_wp2
      go_roundw
      case rel => exact ⟨3, by go_num, by omega, by rw [HYS.out]; exact hown9, hB9⟩
      case measure => first | (simp [intOf]; done) | (simp [intOf]; omega)
    ·have HS := Lib.hid (show prs ((fourL ux uy vx vy).take 4) = prs ((fourL ux uy vx vy).take 3) ++ [(ux + nx, uy + ny), ((ux + nx) * -1, (uy + ny) * -1)] from by rw [← HX.out, ← HY.out]; exact HPk.out 3 (by rw [h4]; decide))
     have HXL := Lib.hid (show (prs ((fourL ux uy vx vy).take 3)).length ≤ 8 by rw [prs_len, List.length_take, h4]; decide)
     have TC : Hid (∀ W, Calls Tryz.prog 158 #[.agg #[.int .i64 (ux + nx), .int .i64 (uy + ny)], .int .i64 (-1)] W fun e w' => e = .returned (.agg #[.int .i64 ((ux + nx) * -1), .int .i64 ((uy + ny) * -1)]) ∧ Below W.heap.size W w') := T4
     have HFL := Lib.hid h4
     clear h4 HPk HP T1 T2 T3 T4
     generalize prs ((fourL ux uy vx vy).take 3) = xs at *
     generalize hys : prs ((fourL ux uy vx vy).take 4) = ys at HS
     have HYS := Lib.hid hys
     generalize hxn : (ux + nx) * -1 = xn at HS TC
     generalize hyn : (uy + ny) * -1 = yn at HS TC
     have HQ : Hid (∀ q, u7.ownBlock = some q → q < wr.heap.size) := Lib.hid (fun q hq => (hown.lt q hq).2)
     have X0 : KW wr.heap.size (ux + nx) (uy + ny) (wr.alloc (.cells #[.int .i64 (ux + nx), .int .i64 (uy + ny)] 63)) := KW.at _ rfl
     have hO0 : (wr.alloc (.cells #[.int .i64 (ux + nx), .int .i64 (uy + ny)] 63)).ownsRow w.heap.size 63 2 u7 xs.length (cells2 xs) := hown.alloc _
     have hB0 : Below w.heap.size w (wr.alloc (.cells #[.int .i64 (ux + nx), .int .i64 (uy + ny)] 63)) := hB.alloc hB.size _
     have zB0 := hB0.size
     clear hys hxn hyn hown hk hk1
     have hidx : ∀ W, Sem.run Tryz.prog (Instr.index 273 (.agg #[.int .i64 ux, .int .i64 uy, .int .i64 vx, .int .i64 vy, .int .i64 (ux + vx), .int .i64 (uy + vy), .int .i64 (ux + nx), .int .i64 (uy + ny)]) (.int .i64 3)) W = .ok (.agg #[.int .i64 (ux + nx), .int .i64 (uy + ny)]) W := fun W => rfl
     obtain ⟨x0, x1, x2, x3, x4⟩ := id X0
     have XP := X0.pair
     go_wp2_with fail
     go_region_held3 (fun W => (W.cell? ⟨wr.heap.size, 0, none⟩ = some (.int .i64 (ux + nx)) ∧ W.cell? ⟨wr.heap.size, 1, none⟩ = some (.int .i64 (uy + ny)))) ((refine KW.pair ?_; (exact pkNbq2)))
      (first
       | (go_at_call 158; refine (TC.out _).mono ?_; rintro e u1 ⟨rfl, hb1⟩; have G1 : KW wr.heap.size (ux + nx) (uy + ny) u1 := (by exact pkNbq2); have OO1 : u1.ownsRow w.heap.size 63 2 u7 xs.length (cells2 xs) := (by exact pkNbq0); have BB1 : Below w.heap.size w u1 := (by exact pkNbq1); have zz1 := BB1.size)
       | (rw [if_pos (by rfl)]; refine wp_append_own _ _ _ 83 rfl w.heap.size 63 i0 (.agg #[.int .i64 0, .int .i64 0]) 2 16 Tryz.underlying83 hi hz0 hz1 hz2 rfl (by decide) _ _ _ rfl (OO1.alloc _) ⟨u1.heap.size, 0, none⟩ 2 2 [.int .i64 (ux + nx), .int .i64 (uy + ny), .int .i64 xn, .int .i64 yn] rfl rfl (new_fourn _ _ _ _ _ rfl) one_fourn (by have := HXL.out; unfold maxLen; omega) (by have := HXL.out; omega) (by simp; omega) ?_; intro v9 w9 hown9 hgrow _; have OO9 : w9.ownsRow w.heap.size 63 2 v9 ys.length (cells2 ys) := (by rw [HS.out]; exact own_next4n hown9); have BB9 : Below w.heap.size w w9 := Below.grown (BB1.alloc zz1 _) hgrow (by simp; omega) (fun q hq => (OO1.lt q hq).1); have G9 : KW wr.heap.size (ux + nx) (uy + ny) w9 := KW.grown (KW.alloc G1 _) hgrow (fun e => by have := HQ.out _ e.symm; omega)))
     all_goals
      have hown9 := OO9
      have hB9 := BB9
      clear X0 XP x0 x1 x2 x3 x4 hO0 hB0 OO9 BB9 G9 OO1 BB1 G1 zz1 hgrow
      go_wp2
      go_roundw
      case rel => exact ⟨4, by go_num, by omega, by rw [HYS.out]; exact hown9, hB9⟩
      case measure => first | (simp [intOf]; done) | (simp [intOf]; omega)
   ·obtain rfl : k = 4 := by omega
    rw [show (fourL ux uy vx vy).take 4 = fourL ux uy vx vy from rfl, HP.out] at hown
    have h8 : (nbL ux uy vx vy).length = 8 := rfl
    have hm := fun z => ofL_mem h8 z
    have hS0 := ofL_same h8 (nb_nodup (HG.out.bas.det (latI_ne HI.out)))
    have hR0 := ofL_row h8
    have S1 := SRow.of hown (cells2_int _) (by omega)
    rw [h8] at S1 hown
    have hcap := fun g c (e : u7 = .slice (some ⟨g, 0, none⟩) 8 c) => own_cap (e ▸ hown)
    clear hown hk hk1
    generalize hNB : nbL ux uy vx vy = NB at *
    have HNB := Lib.hid hNB
    clear hNB
    obtain ⟨g2, cap, rfl, hg1, hg2, RN⟩ := S1.2.2.resolve_left (fun h => by omega)
    have HCP := Lib.hid (hcap g2 cap rfl)
    clear hcap
    have RN' : IRow g2 16 (rowE (ofL NB)) wr := RN.ext (fun t ht => hR0 t ht)
    have HRN := Lib.hid RN'
    have HS0 := Lib.hid hS0
    have HMM := Lib.hid hm
    clear S1 RN RN' hR0 hS0 hm
    go_wp2_with fail
    refine (sortFunc_any g2 cap (ofL NB) _ HRN.out HS0.out).mono ?_
    rintro e w3 ⟨rfl, E, hR3, hS3, hO3, hb3⟩
    have hmem : ∀ z, z ∈ listE E ↔ z ∈ nbL ux uy vx vy := by rw [HNB.out]; exact fun z => (listE_mem hS3 z).trans (HMM.out z)
    have HF := Lib.hid (show w.heap.size ≤ g2 ∧ IRow g2 16 (intAt (cells2 (listE E))) w3 ∧ Below w.heap.size w w3 from ⟨hg1, hR3.ext (fun t ht => listE_row E t ht), hB.trans (hb3.mono hg1)⟩)
    have HE := Lib.hid (show (listE E).Pairwise lexlt from listE_sorted hO3 hS3)
    clear hR3 hS3 hO3 hb3
    go_wp2
    go_ret
    exact ⟨ux, uy, vx, vy, listE E, g2, cap, rfl, HG.out, listE_len E, HE.out, hmem, mid_of HR.out hmem, HF.out.1, HCP.out, HF.out.2.1, HF.out.2.2⟩
end Go.Proofs.YtjjfomokecngoaaGreatDoor
