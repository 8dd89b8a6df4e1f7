/-
  A pattern moved by a motion, in the program and in the model. Conditions: the pattern is valid, its matrix a point matrix, its vector valid.
-/
import Derived.Test.YtpejihckepaojaaVc
import Derived.Test.YtpejihckepaojaaVb
import Derived.Test.YtpejihckepaojaaPtC
namespace Go.Proofs.Ytpejihckepaojaa
open Go.RowKit
set_option linter.unusedSimpArgs false
set_option linter.unusedVariables false

theorem Ko2.far9 {g o : Nat} {a b : Int} {W : World} {q : Addr} {u : Value} (hq : q.block ≠ g) (h : Ko2 g o a b W) : Ko2 g o a b (W.setCell q u) := by
  have hh : (W.setCell q u).heap[g]? = W.heap[g]? := Below.heap_setCell _ _ _ _ (by omega)
  exact ⟨by simpa [World.setCell] using h.1, (World.cell?_of_block (w := W) hh).trans h.2.1, (World.cell?_of_block (w := W) hh).trans h.2.2⟩
theorem Ko2.drew9 {g o : Nat} {a b : Int} {W : World} (h : Ko2 g o a b W) : Ko2 g o a b W.drew := h.call (Below.refl _ _).drew
theorem made_n9 {w1 : World} {g n cap : Nat} (h : w1.ownsRow g 2 1 (.slice (some ⟨g, 0, none⟩) n cap) n (madeCells (Value.cells (.int .i64 0)) (n * 1)).toList) : IRow g (n * 1) (fun _ => 0) w1 := by
  have hl := h.lt g rfl
  refine ⟨hl.2, fun t ht => ⟨?_, h.frozenAt t⟩⟩
  rw [h.cellAt t ht, List.getElem?_eq_getElem (by rw [h.1]; exact ht)]
  exact congrArg some (made_zero9 n _ (List.getElem_mem _))
theorem IRow.grown9 {g N : Nat} {F : Nat → Int} {W w1 : World} {row : Option Nat} (h : IRow g N F W) (hg : W.grownBy w1 row) (hr : row ≠ some g) : IRow g N F w1 := by
  have hh := hg.block g h.1 (fun e => hr e.symm)
  exact ⟨Nat.lt_of_lt_of_le h.1 hg.size, fun t ht => ⟨(World.cell?_of_block (w := W) hh).trans (h.2 t ht).1, (World.frozen?_of_block (w := W) hh).trans (h.2 t ht).2⟩⟩
theorem SRow.ext9 {lo hi n : Nat} {v : Value} {F G : Nat → Int} {W : World} (h : SRow lo hi 1 v n F W) (he : ∀ t, t < n → F t = G t) : SRow lo hi 1 v n G W := by
  obtain ⟨h1, h2, h3⟩ := h
  refine ⟨h1, h2, h3.imp id ?_⟩
  rintro ⟨g, cap, e, k1, k2, r⟩
  exact ⟨g, cap, e, k1, k2, r.ext fun t ht => he t (by omega)⟩
theorem mid1 {a x : Int} (ha : -1 ≤ a ∧ a ≤ 1) (hx : -1000 ≤ x ∧ x ≤ 1000) : -1000 ≤ a * x ∧ a * x ≤ 1000 := by
  obtain h | h | h : a = -1 ∨ a = 0 ∨ a = 1 := by omega
  all_goals (subst h; omega)
theorem bk_bd {f a b c d x y : Int} (hf : frB f = true) (h : keepB f a b c d = true) (hv : vecB x y = true) : (-500000 ≤ bkX a b c d x y ∧ bkX a b c d x y ≤ 500000) ∧ (-500000 ≤ bkY a b c d x y ∧ bkY a b c d x y ≤ 500000) := by
  obtain ⟨hx, hy⟩ := vecB_bd hv
  obtain ⟨⟨ha, hb⟩, hc, hd⟩ := keep_small hf h
  have hx2 := mid1 ha (x := x) (by omega)
  unfold bkX bkY
  rcases keep_det hf h with hD | hD <;> rw [hD]
  all_goals
    have m1 := mid1 hd (x := x) (by omega)
    have m2 := mid1 hb (x := y) (by omega)
    have m3 := mid1 hc (x := x) (by omega)
    have m4 := mid1 ha (x := y) (by omega)
    simp only [Int.neg_mul, Int.mul_one, Int.mul_neg, Int.neg_neg]
    omega
set_option maxRecDepth 100000 in
set_option maxHeartbeats 16000000 in
theorem moved_any {lo hi p q n p' q' : Nat} {f B B' a b c d x y : Int} {v : Value} {F : Nat → Int} {W : World} (h : PatI f p B q n F) (hk : keepB f a b c d = true) (hmb : matB a b c d = true) (hxy : vecB x y = true) (hm : mapI (p : Int) B (q : Int) a b c d = ((p' : Int), B', (q' : Int))) (hv : SRow lo hi 1 v n F W) :
    Calls Try.prog 45 #[.agg #[.int .i64 f, .int .i64 (p : Int), .int .i64 B, .int .i64 (q : Int), v], .agg #[.int .i64 a, .int .i64 b, .int .i64 c, .int .i64 d, .int .i64 x, .int .i64 y]] W (fun e w' => ∃ v' : Value, e = .returned (.agg #[.int .i64 f, .int .i64 (p' : Int), .int .i64 B', .int .i64 (q' : Int), v']) ∧ SRow W.heap.size w'.heap.size 1 v' (p' * q') (cpyG (p : Int) B (q : Int) F (d * (a * d - b * c)) (-b * (a * d - b * c)) (-c * (a * d - b * c)) (a * (a * d - b * c)) (bkX a b c d x y) (bkY a b c d x y) p' q') w' ∧ Below W.heap.size W w') := by
  obtain ⟨_, _, hl, hi⟩ := mapI_facts h.fr h.lat hk
  rw [hm] at hl hi
  dsimp only at hl hi
  have R := Lib.hid hv
  have HH := Lib.hid h
  have HL := Lib.hid hl
  have HK := Lib.hid (And.intro hk (And.intro hmb hxy))
  have HIN := Lib.hid (show p' * q' = p * q by exact_mod_cast hi)
  have HM := Lib.hid hm
  obtain ⟨hp1, hp2, hq1, hq2, hn64, hn1⟩ := h.bd
  have HNN := Lib.hid h.nn
  obtain ⟨g, cap, rfl, hg, _, r⟩ := hv.irow hn1
  have hgs := hv.1
  have hgw : g < W.heap.size := by omega
  have P0 : Bx W.heap.size [.int .i64 f, .int .i64 (p : Int), .int .i64 B, .int .i64 (q : Int), .slice (some ⟨g, 0, none⟩) n cap] (((W.alloc (.cells #[.int .i64 f, .int .i64 (p : Int), .int .i64 B, .int .i64 (q : Int), .slice (some ⟨g, 0, none⟩) n cap] 31)).alloc (.cells #[.int .i64 a, .int .i64 b, .int .i64 c, .int .i64 d, .int .i64 x, .int .i64 y] 78)).alloc (.cells #[.int .i64 0, .int .i64 0, .int .i64 0, .int .i64 0, .slice none 0 0] 31)) := ((Bx.at _ rfl).alloc _).alloc _
  have M0 : Bx (W.heap.size + 1) [.int .i64 a, .int .i64 b, .int .i64 c, .int .i64 d, .int .i64 x, .int .i64 y] (((W.alloc (.cells #[.int .i64 f, .int .i64 (p : Int), .int .i64 B, .int .i64 (q : Int), .slice (some ⟨g, 0, none⟩) n cap] 31)).alloc (.cells #[.int .i64 a, .int .i64 b, .int .i64 c, .int .i64 d, .int .i64 x, .int .i64 y] 78)).alloc (.cells #[.int .i64 0, .int .i64 0, .int .i64 0, .int .i64 0, .slice none 0 0] 31)) := (Bx.at _ (by simp)).alloc _
  have R0 : BX (W.heap.size + 1 + 1) [.int .i64 0, .int .i64 0, .int .i64 0, .int .i64 0, .slice none 0 0] (((W.alloc (.cells #[.int .i64 f, .int .i64 (p : Int), .int .i64 B, .int .i64 (q : Int), .slice (some ⟨g, 0, none⟩) n cap] 31)).alloc (.cells #[.int .i64 a, .int .i64 b, .int .i64 c, .int .i64 d, .int .i64 x, .int .i64 y] 78)).alloc (.cells #[.int .i64 0, .int .i64 0, .int .i64 0, .int .i64 0, .slice none 0 0] 31)) := BX.at _ (by simp)
  have B0 : Below W.heap.size W (((W.alloc (.cells #[.int .i64 f, .int .i64 (p : Int), .int .i64 B, .int .i64 (q : Int), .slice (some ⟨g, 0, none⟩) n cap] 31)).alloc (.cells #[.int .i64 a, .int .i64 b, .int .i64 c, .int .i64 d, .int .i64 x, .int .i64 y] 78)).alloc (.cells #[.int .i64 0, .int .i64 0, .int .i64 0, .int .i64 0, .slice none 0 0] 31)) := by repeat (first | with_reducible exact Below.refl _ _ | with_reducible assumption | with_reducible refine Below.setCell ?_ (by first | omega | (dsimp only; omega) | (simp <;> omega)) _ | with_reducible refine Below.alloc ?_ (by first | omega | (simp <;> omega)) _ | with_reducible refine bstep ?_ (by with_reducible assumption) | with_reducible refine Below.drew ?_ | with_reducible refine below_drewN ?_ _)
  clear hv h hk hmb hxy hm hl r
  go_enter Try.func45, Try.ntmps45
  have p0c0 := P0.c0
  have p0c1 := P0.c1
  have p0c2 := P0.c2
  have p0c3 := P0.c3
  have p0c4 := P0.c4
  have p0l := P0.lt
  have m0c0 := M0.c0
  have m0c1 := M0.c1
  have m0c2 := M0.c2
  have m0c3 := M0.c3
  have m0c4 := M0.c4
  have m0c5 := M0.c5
  have m0l := M0.lt
  go_wp2_with fail
  with_reducible refine (mapped_any f (p : Int) B (q : Int) a b c d _ HH.out.fr HH.out.lat HK.out.1).mono ?_
  rintro e w1 ⟨rfl, hb1⟩
  rw [HM.out]
  dsimp only
  have hz1 : W.heap.size + 3 ≤ w1.heap.size := by have := hb1.size; simp at this; omega
  have P1 := P0.call hb1
  have M1 := M0.call hb1
  have R1 := R0.call hb1
  have B1 := bstep B0 hb1
  clear P0 M0 R0 B0 hb1 p0c0 p0c1 p0c2 p0c3 p0c4 m0c0 m0c1 m0c2 m0c3 m0c4 m0c5 p0l m0l
  have p1c0 := P1.c0
  have p1c1 := P1.c1
  have p1c2 := P1.c2
  have p1c3 := P1.c3
  have p1c4 := P1.c4
  have p1l := P1.lt
  have m1c0 := M1.c0
  have m1c1 := M1.c1
  have m1c2 := M1.c2
  have m1c3 := M1.c3
  have m1c4 := M1.c4
  have m1c5 := M1.c5
  have m1l := M1.lt
  go_wp2_with fail
  have L2 : Bx w1.heap.size [.int .i64 (p' : Int), .int .i64 B', .int .i64 (q' : Int)] (w1.alloc (.cells #[.int .i64 (p' : Int), .int .i64 B', .int .i64 (q' : Int)] 29)) := Bx.at _ rfl
  have P2 := P1.alloc (.cells #[.int .i64 (p' : Int), .int .i64 B', .int .i64 (q' : Int)] 29)
  have M2 := M1.alloc (.cells #[.int .i64 (p' : Int), .int .i64 B', .int .i64 (q' : Int)] 29)
  have R2 := R1.alloc (.cells #[.int .i64 (p' : Int), .int .i64 B', .int .i64 (q' : Int)] 29)
  have B2 : Below W.heap.size W (w1.alloc (.cells #[.int .i64 (p' : Int), .int .i64 B', .int .i64 (q' : Int)] 29)) := B1.alloc (by omega) _
  go_region_held3 (fun W9 => (W9.cell? ⟨W.heap.size, 0, none⟩ = some (.int .i64 f) ∧ W9.cell? ⟨W.heap.size, 1, none⟩ = some (.int .i64 (p : Int)) ∧ W9.cell? ⟨W.heap.size, 2, none⟩ = some (.int .i64 B) ∧ W9.cell? ⟨W.heap.size, 3, none⟩ = some (.int .i64 (q : Int)) ∧ W9.cell? ⟨W.heap.size, 4, none⟩ = some (.slice (some ⟨g, 0, none⟩) n cap)) ∧ (W9.cell? ⟨(W.heap.size + 1), 0, none⟩ = some (.int .i64 a) ∧ W9.cell? ⟨(W.heap.size + 1), 1, none⟩ = some (.int .i64 b) ∧ W9.cell? ⟨(W.heap.size + 1), 2, none⟩ = some (.int .i64 c) ∧ W9.cell? ⟨(W.heap.size + 1), 3, none⟩ = some (.int .i64 d) ∧ W9.cell? ⟨(W.heap.size + 1), 4, none⟩ = some (.int .i64 x) ∧ W9.cell? ⟨(W.heap.size + 1), 5, none⟩ = some (.int .i64 y)) ∧ (W9.cell? ⟨w1.heap.size, 0, none⟩ = some (.int .i64 (p' : Int)) ∧ W9.cell? ⟨w1.heap.size, 1, none⟩ = some (.int .i64 B') ∧ W9.cell? ⟨w1.heap.size, 2, none⟩ = some (.int .i64 (q' : Int)))) ((refine And.intro (Bx.cells5 ?_) (And.intro (Bx.cells6 ?_) (Bx.cells3 ?_))) <;> repeat (first | with_reducible assumption | (with_reducible exact Bx.at _ (by first | with_reducible rfl | (simp; done))) | with_reducible refine Bx.drew ?_ | with_reducible refine Bx.alloc ?_ _ | with_reducible refine Bx.call ?_ (by with_reducible assumption) | with_reducible refine BX.drew ?_ | with_reducible refine BX.alloc ?_ _ | with_reducible refine BX.call ?_ (by with_reducible assumption) | with_reducible refine Ko2.drew9 ?_ | with_reducible refine Ko2.call ?_ (by with_reducible assumption) | with_reducible refine IRow.drewP ?_ | with_reducible refine IRow.call ?_ (by with_reducible assumption) | with_reducible refine Bx.far (by first | omega | (dsimp only; omega)) ?_ | with_reducible refine Ko2.far9 (by first | omega | (dsimp only; omega)) ?_ | with_reducible refine IRow.far (by first | omega | (dsimp only; omega)) ?_))
    (first
      | (go_at_call 79; with_reducible refine (inverseMo_any a b c d x y _ HK.out.2.1 HK.out.2.2).mono ?_; rintro e w3 ⟨rfl, hb3⟩; have P3 : Bx W.heap.size [.int .i64 f, .int .i64 (p : Int), .int .i64 B, .int .i64 (q : Int), .slice (some ⟨g, 0, none⟩) n cap] w3 := (by repeat (first | with_reducible assumption | (with_reducible exact Bx.at _ (by first | with_reducible rfl | (simp; done))) | with_reducible refine Bx.drew ?_ | with_reducible refine Bx.alloc ?_ _ | with_reducible refine Bx.call ?_ (by with_reducible assumption) | with_reducible refine BX.drew ?_ | with_reducible refine BX.alloc ?_ _ | with_reducible refine BX.call ?_ (by with_reducible assumption) | with_reducible refine Ko2.drew9 ?_ | with_reducible refine Ko2.call ?_ (by with_reducible assumption) | with_reducible refine IRow.drewP ?_ | with_reducible refine IRow.call ?_ (by with_reducible assumption) | with_reducible refine Bx.far (by first | omega | (dsimp only; omega)) ?_ | with_reducible refine Ko2.far9 (by first | omega | (dsimp only; omega)) ?_ | with_reducible refine IRow.far (by first | omega | (dsimp only; omega)) ?_)); have M3 : Bx (W.heap.size + 1) [.int .i64 a, .int .i64 b, .int .i64 c, .int .i64 d, .int .i64 x, .int .i64 y] w3 := (by repeat (first | with_reducible assumption | (with_reducible exact Bx.at _ (by first | with_reducible rfl | (simp; done))) | with_reducible refine Bx.drew ?_ | with_reducible refine Bx.alloc ?_ _ | with_reducible refine Bx.call ?_ (by with_reducible assumption) | with_reducible refine BX.drew ?_ | with_reducible refine BX.alloc ?_ _ | with_reducible refine BX.call ?_ (by with_reducible assumption) | with_reducible refine Ko2.drew9 ?_ | with_reducible refine Ko2.call ?_ (by with_reducible assumption) | with_reducible refine IRow.drewP ?_ | with_reducible refine IRow.call ?_ (by with_reducible assumption) | with_reducible refine Bx.far (by first | omega | (dsimp only; omega)) ?_ | with_reducible refine Ko2.far9 (by first | omega | (dsimp only; omega)) ?_ | with_reducible refine IRow.far (by first | omega | (dsimp only; omega)) ?_)); have L3 : Bx w1.heap.size [.int .i64 (p' : Int), .int .i64 B', .int .i64 (q' : Int)] w3 := (by repeat (first | with_reducible assumption | (with_reducible exact Bx.at _ (by first | with_reducible rfl | (simp; done))) | with_reducible refine Bx.drew ?_ | with_reducible refine Bx.alloc ?_ _ | with_reducible refine Bx.call ?_ (by with_reducible assumption) | with_reducible refine BX.drew ?_ | with_reducible refine BX.alloc ?_ _ | with_reducible refine BX.call ?_ (by with_reducible assumption) | with_reducible refine Ko2.drew9 ?_ | with_reducible refine Ko2.call ?_ (by with_reducible assumption) | with_reducible refine IRow.drewP ?_ | with_reducible refine IRow.call ?_ (by with_reducible assumption) | with_reducible refine Bx.far (by first | omega | (dsimp only; omega)) ?_ | with_reducible refine Ko2.far9 (by first | omega | (dsimp only; omega)) ?_ | with_reducible refine IRow.far (by first | omega | (dsimp only; omega)) ?_)); have R3 : BX (W.heap.size + 1 + 1) [.int .i64 0, .int .i64 0, .int .i64 0, .int .i64 0, .slice none 0 0] w3 := (by repeat (first | with_reducible assumption | (with_reducible exact Bx.at _ (by first | with_reducible rfl | (simp; done))) | with_reducible refine Bx.drew ?_ | with_reducible refine Bx.alloc ?_ _ | with_reducible refine Bx.call ?_ (by with_reducible assumption) | with_reducible refine BX.drew ?_ | with_reducible refine BX.alloc ?_ _ | with_reducible refine BX.call ?_ (by with_reducible assumption) | with_reducible refine Ko2.drew9 ?_ | with_reducible refine Ko2.call ?_ (by with_reducible assumption) | with_reducible refine IRow.drewP ?_ | with_reducible refine IRow.call ?_ (by with_reducible assumption) | with_reducible refine Bx.far (by first | omega | (dsimp only; omega)) ?_ | with_reducible refine Ko2.far9 (by first | omega | (dsimp only; omega)) ?_ | with_reducible refine IRow.far (by first | omega | (dsimp only; omega)) ?_)); have B3 : Below W.heap.size W w3 := (by repeat (first | with_reducible assumption | with_reducible exact Below.refl _ _ | with_reducible refine Below.drew ?_ | with_reducible refine Below.alloc ?_ (by first | omega | (simp <;> omega)) _ | with_reducible refine Below.setCell ?_ (by first | omega | (dsimp only; omega)) _ | with_reducible refine bstep ?_ (by with_reducible assumption))))
      | (go_at_call 78; with_reducible refine (copied_any HH.out.lat HH.out.nn HL.out (R.out.call (by repeat (first | with_reducible assumption | with_reducible exact Below.refl _ _ | with_reducible refine Below.drew ?_ | with_reducible refine Below.alloc ?_ (by first | omega | (simp <;> omega)) _ | with_reducible refine Below.setCell ?_ (by first | omega | (dsimp only; omega)) _ | with_reducible refine bstep ?_ (by with_reducible assumption)))) _ _ _ _ _ _ (inv_lim HK.out.2.1) (bk_bd HH.out.fr HK.out.1 HK.out.2.2).1 (bk_bd HH.out.fr HK.out.1 HK.out.2.2).2).mono ?_; rintro e w4 ⟨v4, rfl, r4, hb4⟩; have P4 : Bx W.heap.size [.int .i64 f, .int .i64 (p : Int), .int .i64 B, .int .i64 (q : Int), .slice (some ⟨g, 0, none⟩) n cap] w4 := (by repeat (first | with_reducible assumption | (with_reducible exact Bx.at _ (by first | with_reducible rfl | (simp; done))) | with_reducible refine Bx.drew ?_ | with_reducible refine Bx.alloc ?_ _ | with_reducible refine Bx.call ?_ (by with_reducible assumption) | with_reducible refine BX.drew ?_ | with_reducible refine BX.alloc ?_ _ | with_reducible refine BX.call ?_ (by with_reducible assumption) | with_reducible refine Ko2.drew9 ?_ | with_reducible refine Ko2.call ?_ (by with_reducible assumption) | with_reducible refine IRow.drewP ?_ | with_reducible refine IRow.call ?_ (by with_reducible assumption) | with_reducible refine Bx.far (by first | omega | (dsimp only; omega)) ?_ | with_reducible refine Ko2.far9 (by first | omega | (dsimp only; omega)) ?_ | with_reducible refine IRow.far (by first | omega | (dsimp only; omega)) ?_)); have M4 : Bx (W.heap.size + 1) [.int .i64 a, .int .i64 b, .int .i64 c, .int .i64 d, .int .i64 x, .int .i64 y] w4 := (by repeat (first | with_reducible assumption | (with_reducible exact Bx.at _ (by first | with_reducible rfl | (simp; done))) | with_reducible refine Bx.drew ?_ | with_reducible refine Bx.alloc ?_ _ | with_reducible refine Bx.call ?_ (by with_reducible assumption) | with_reducible refine BX.drew ?_ | with_reducible refine BX.alloc ?_ _ | with_reducible refine BX.call ?_ (by with_reducible assumption) | with_reducible refine Ko2.drew9 ?_ | with_reducible refine Ko2.call ?_ (by with_reducible assumption) | with_reducible refine IRow.drewP ?_ | with_reducible refine IRow.call ?_ (by with_reducible assumption) | with_reducible refine Bx.far (by first | omega | (dsimp only; omega)) ?_ | with_reducible refine Ko2.far9 (by first | omega | (dsimp only; omega)) ?_ | with_reducible refine IRow.far (by first | omega | (dsimp only; omega)) ?_)); have L4 : Bx w1.heap.size [.int .i64 (p' : Int), .int .i64 B', .int .i64 (q' : Int)] w4 := (by repeat (first | with_reducible assumption | (with_reducible exact Bx.at _ (by first | with_reducible rfl | (simp; done))) | with_reducible refine Bx.drew ?_ | with_reducible refine Bx.alloc ?_ _ | with_reducible refine Bx.call ?_ (by with_reducible assumption) | with_reducible refine BX.drew ?_ | with_reducible refine BX.alloc ?_ _ | with_reducible refine BX.call ?_ (by with_reducible assumption) | with_reducible refine Ko2.drew9 ?_ | with_reducible refine Ko2.call ?_ (by with_reducible assumption) | with_reducible refine IRow.drewP ?_ | with_reducible refine IRow.call ?_ (by with_reducible assumption) | with_reducible refine Bx.far (by first | omega | (dsimp only; omega)) ?_ | with_reducible refine Ko2.far9 (by first | omega | (dsimp only; omega)) ?_ | with_reducible refine IRow.far (by first | omega | (dsimp only; omega)) ?_)); have R4 : BX (W.heap.size + 1 + 1) [.int .i64 0, .int .i64 0, .int .i64 0, .int .i64 0, .slice none 0 0] w4 := (by repeat (first | with_reducible assumption | (with_reducible exact Bx.at _ (by first | with_reducible rfl | (simp; done))) | with_reducible refine Bx.drew ?_ | with_reducible refine Bx.alloc ?_ _ | with_reducible refine Bx.call ?_ (by with_reducible assumption) | with_reducible refine BX.drew ?_ | with_reducible refine BX.alloc ?_ _ | with_reducible refine BX.call ?_ (by with_reducible assumption) | with_reducible refine Ko2.drew9 ?_ | with_reducible refine Ko2.call ?_ (by with_reducible assumption) | with_reducible refine IRow.drewP ?_ | with_reducible refine IRow.call ?_ (by with_reducible assumption) | with_reducible refine Bx.far (by first | omega | (dsimp only; omega)) ?_ | with_reducible refine Ko2.far9 (by first | omega | (dsimp only; omega)) ?_ | with_reducible refine IRow.far (by first | omega | (dsimp only; omega)) ?_)); have B4 : Below W.heap.size W w4 := (by repeat (first | with_reducible assumption | with_reducible exact Below.refl _ _ | with_reducible refine Below.drew ?_ | with_reducible refine Below.alloc ?_ (by first | omega | (simp <;> omega)) _ | with_reducible refine Below.setCell ?_ (by first | omega | (dsimp only; omega)) _ | with_reducible refine bstep ?_ (by with_reducible assumption))); obtain ⟨ao4, cap4, rfl⟩ := r4.slice; have B3z := B3.size; have b3l := R3.lt; have HR4 := Lib.hid (r4.low (lo' := W.heap.size + 3) (by first | omega | (simp; omega))); have HB4 := Lib.hid B4; clear r4 B4; have r4c0 := R4.c0; have r4c1 := R4.c1; have r4c2 := R4.c2; have r4c3 := R4.c3; have r4c4 := R4.c4; have r4f0 := R4.f0; have r4f1 := R4.f1; have r4f2 := R4.f2; have r4f3 := R4.f3; have r4f4 := R4.f4; have r4l := R4.lt))
  all_goals
    go_wp2
    refine bodyPost_ret (v := .agg #[.int .i64 f, .int .i64 (p' : Int), .int .i64 B', .int .i64 (q' : Int), .slice ao4 (p' * q') cap4]) (by simp [results, Try.results45, go_sem, *]) rfl ⟨_, rfl, ?_, ?_⟩
    · refine SRow.up (hi := w4.heap.size) (SRow.low (lo := W.heap.size + 3) ?_ (by omega))
      repeat (first | with_reducible exact HR4.out | with_reducible refine SRow.put (by first | omega | (dsimp only; omega)) _ ?_)
    · have hB := HB4.out
      repeat (first | with_reducible exact Below.refl _ _ | with_reducible assumption | with_reducible refine Below.setCell ?_ (by first | omega | (dsimp only; omega) | (simp <;> omega)) _ | with_reducible refine Below.alloc ?_ (by first | omega | (simp <;> omega)) _ | with_reducible refine bstep ?_ (by with_reducible assumption) | with_reducible refine Below.drew ?_ | with_reducible refine below_drewN ?_ _)
/- what the region leaves that makes the moved pattern's variable -/
def MvC (W : World) (f : Int) (p' : Nat) (B' : Int) (q' n : Nat) (s7 : Value) (wx : World) : Prop :=
  ∃ bx m : Nat, s7 = .pointer (some ⟨bx, 0, none⟩) ∧ Bx bx [.int .i64 f, .int .i64 (p' : Int), .int .i64 B', .int .i64 (q' : Int), .slice (some ⟨m, 0, none⟩) n n] wx ∧ IRow m (n * 1) (fun _ => 0) wx ∧ W.heap.size ≤ m ∧ W.heap.size ≤ bx ∧ m ≠ bx ∧ Below W.heap.size W wx
set_option maxRecDepth 100000 in
set_option maxHeartbeats 16000000 in
theorem l09Move_any {lo hi p q n p' q' : Nat} {f B B' a b c d x y : Int} {v : Value} {F : Nat → Int} {W : World} (h : PatI f p B q n F) (hk : keepB f a b c d = true) (hmb : matB a b c d = true) (hxy : vecB x y = true) (hm : mapI (p : Int) B (q : Int) a b c d = ((p' : Int), B', (q' : Int))) (hv : SRow lo hi 1 v n F W) :
    Calls Try.prog 42 #[.agg #[.int .i64 f, .int .i64 (p : Int), .int .i64 B, .int .i64 (q : Int), v], .agg #[.int .i64 a, .int .i64 b, .int .i64 c, .int .i64 d, .int .i64 x, .int .i64 y]] W (fun e w' => ∃ v' : Value, e = .returned (.agg #[.int .i64 f, .int .i64 (p' : Int), .int .i64 B', .int .i64 (q' : Int), v']) ∧ SRow W.heap.size w'.heap.size 1 v' (p' * q') (mvS (idx9 (p' : Int) B' (q' : Int) a b c d x y p q) F n) w' ∧ Below W.heap.size W w') := by
  obtain ⟨_, _, hl, hi⟩ := mapI_facts h.fr h.lat hk
  rw [hm] at hl hi
  dsimp only at hl hi
  have R := Lib.hid hv
  have HH := Lib.hid h
  have HL := Lib.hid hl
  have HK := Lib.hid (And.intro hk (And.intro hmb hxy))
  have HIN := Lib.hid (show p' * q' = p * q by exact_mod_cast hi)
  have HM := Lib.hid hm
  obtain ⟨hp1, hp2, hq1, hq2, hn64, hn1⟩ := h.bd
  have HNN := Lib.hid h.nn
  obtain ⟨i0, hinf, hz0, hz1, hz2⟩ := info_parts infoI64
  obtain ⟨g, cap, rfl, hg, _, r⟩ := hv.irow hn1
  have hgs := hv.1
  have hgw : g < W.heap.size := by omega
  have P0 : Bx W.heap.size [.int .i64 f, .int .i64 (p : Int), .int .i64 B, .int .i64 (q : Int), .slice (some ⟨g, 0, none⟩) n cap] (((W.alloc (.cells #[.int .i64 f, .int .i64 (p : Int), .int .i64 B, .int .i64 (q : Int), .slice (some ⟨g, 0, none⟩) n cap] 31)).alloc (.cells #[.int .i64 a, .int .i64 b, .int .i64 c, .int .i64 d, .int .i64 x, .int .i64 y] 58)).alloc (.cells #[.int .i64 0, .int .i64 0, .int .i64 0, .int .i64 0, .slice none 0 0] 31)) := ((Bx.at _ rfl).alloc _).alloc _
  have M0 : Bx (W.heap.size + 1) [.int .i64 a, .int .i64 b, .int .i64 c, .int .i64 d, .int .i64 x, .int .i64 y] (((W.alloc (.cells #[.int .i64 f, .int .i64 (p : Int), .int .i64 B, .int .i64 (q : Int), .slice (some ⟨g, 0, none⟩) n cap] 31)).alloc (.cells #[.int .i64 a, .int .i64 b, .int .i64 c, .int .i64 d, .int .i64 x, .int .i64 y] 58)).alloc (.cells #[.int .i64 0, .int .i64 0, .int .i64 0, .int .i64 0, .slice none 0 0] 31)) := (Bx.at _ (by simp)).alloc _
  have R0 : BX (W.heap.size + 1 + 1) [.int .i64 0, .int .i64 0, .int .i64 0, .int .i64 0, .slice none 0 0] (((W.alloc (.cells #[.int .i64 f, .int .i64 (p : Int), .int .i64 B, .int .i64 (q : Int), .slice (some ⟨g, 0, none⟩) n cap] 31)).alloc (.cells #[.int .i64 a, .int .i64 b, .int .i64 c, .int .i64 d, .int .i64 x, .int .i64 y] 58)).alloc (.cells #[.int .i64 0, .int .i64 0, .int .i64 0, .int .i64 0, .slice none 0 0] 31)) := BX.at _ (by simp)
  have B0 : Below W.heap.size W (((W.alloc (.cells #[.int .i64 f, .int .i64 (p : Int), .int .i64 B, .int .i64 (q : Int), .slice (some ⟨g, 0, none⟩) n cap] 31)).alloc (.cells #[.int .i64 a, .int .i64 b, .int .i64 c, .int .i64 d, .int .i64 x, .int .i64 y] 58)).alloc (.cells #[.int .i64 0, .int .i64 0, .int .i64 0, .int .i64 0, .slice none 0 0] 31)) := by repeat (first | with_reducible exact Below.refl _ _ | with_reducible assumption | with_reducible refine Below.setCell ?_ (by first | omega | (dsimp only; omega) | (simp <;> omega)) _ | with_reducible refine Below.alloc ?_ (by first | omega | (simp <;> omega)) _ | with_reducible refine bstep ?_ (by with_reducible assumption) | with_reducible refine Below.drew ?_ | with_reducible refine below_drewN ?_ _)
  have HR0 := Lib.hid r
  have hpq64 : p * q ≤ 64 := by rw [← HNN.out]; exact hn64
  have hpq1 : 1 ≤ p * q := by rw [← HNN.out]; exact hn1
  clear hv h hk hmb hxy hm hl r
  go_enter Try.func42, Try.ntmps42
  have p0c0 := P0.c0
  have p0c1 := P0.c1
  have p0c2 := P0.c2
  have p0c3 := P0.c3
  have p0c4 := P0.c4
  have p0l := P0.lt
  have m0c0 := M0.c0
  have m0c1 := M0.c1
  have m0c2 := M0.c2
  have m0c3 := M0.c3
  have m0c4 := M0.c4
  have m0c5 := M0.c5
  have m0l := M0.lt
  go_wp2_with fail
  with_reducible refine (l04Image_any f (p : Int) B (q : Int) a b c d _ HH.out.fr HH.out.lat HK.out.1).mono ?_
  rintro e w1 ⟨rfl, hb1⟩
  rw [HM.out]
  dsimp only
  have hz1' : W.heap.size + 3 ≤ w1.heap.size := by have := hb1.size; simp at this; omega
  have P1 := P0.call hb1
  have M1 := M0.call hb1
  have R1 := R0.call hb1
  have B1 := bstep B0 hb1
  clear P0 M0 R0 B0 hb1 p0c0 p0c1 p0c2 p0c3 p0c4 m0c0 m0c1 m0c2 m0c3 m0c4 m0c5 p0l m0l
  have p1c0 := P1.c0
  have p1c1 := P1.c1
  have p1c2 := P1.c2
  have p1c3 := P1.c3
  have p1c4 := P1.c4
  have p1l := P1.lt
  have m1c0 := M1.c0
  have m1c1 := M1.c1
  have m1c2 := M1.c2
  have m1c3 := M1.c3
  have m1c4 := M1.c4
  have m1c5 := M1.c5
  have m1l := M1.lt
  go_wp2_with fail
  have L2 : Bx w1.heap.size [.int .i64 (p' : Int), .int .i64 B', .int .i64 (q' : Int)] (w1.alloc (.cells #[.int .i64 (p' : Int), .int .i64 B', .int .i64 (q' : Int)] 29)) := Bx.at _ rfl
  have P2 := P1.alloc (.cells #[.int .i64 (p' : Int), .int .i64 B', .int .i64 (q' : Int)] 29)
  have M2 := M1.alloc (.cells #[.int .i64 (p' : Int), .int .i64 B', .int .i64 (q' : Int)] 29)
  have R2 := R1.alloc (.cells #[.int .i64 (p' : Int), .int .i64 B', .int .i64 (q' : Int)] 29)
  have B2 : Below W.heap.size W (w1.alloc (.cells #[.int .i64 (p' : Int), .int .i64 B', .int .i64 (q' : Int)] 29)) := B1.alloc (by omega) _
  with_reducible refine (l03Cells_any p q B _ hp2 hq2).mono ?_
  rintro e w3 ⟨vc, rfl, hown, hb3⟩
  have L3 := L2.call hb3
  have P3 := P2.call hb3
  have M3 := M2.call hb3
  have R3 := R2.call hb3
  have B3 := bstep B2 hb3
  have hz3 : w1.heap.size + 1 ≤ w3.heap.size := by have := hb3.size; simp at this; omega
  obtain ⟨N, hN⟩ : ∃ N, N = (cellP q p).length := ⟨_, rfl⟩
  have hNpq : N = p * q := by rw [hN, cellP_len]
  have hN64 : N ≤ 64 := by omega
  rw [← hN] at hown
  have HSR := SRow.of hown (cells2_int _) (by omega)
  obtain ⟨gc, capc, rfl, hgc, hgc2, rc⟩ := HSR.irow (by omega)
  rw [hN] at rc
  have hNi : (N : Int) ≤ 64 := by omega
  clear hown hb3 P1 M1 R1 B1 P2 M2 R2 B2 L2 p1c0 p1c1 p1c2 p1c3 p1c4 m1c0 m1c1 m1c2 m1c3 m1c4 m1c5 p1l m1l
  have hNn : N = n := by rw [HNN.out]; exact hNpq
  have HN := Lib.hid (show n = (cellP q p).length by rw [← hNn]; exact hN)
  clear hN hNpq HSR hNi hN64
  subst hNn
  have hn64i : (N : Int) ≤ 64 := by omega
  obtain ⟨wa, hmka, howna, hgra⟩ := run_make_full (P := Try.prog) w3.drew w3.heap.size 24 2 i0 (.int .i64 0) 1 Try.underlying24 hinf hz0 hz1 .i64 .i64 N (by rw [hz2]; omega) (by unfold maxLen; omega) (by simp)
  obtain ⟨wb, hmkb, hownb, hgrb⟩ := run_make_full (P := Try.prog) ((w3.alloc (.cells #[.int .i64 0, .int .i64 0, .int .i64 0, .int .i64 0, .slice none 0 0] 31)).drew) (w3.heap.size + 1) 24 2 i0 (.int .i64 0) 1 Try.underlying24 hinf hz0 hz1 .i64 .i64 N (by rw [hz2]; omega) (by unfold maxLen; omega) (by simp)
  rw [show ((w3.alloc (.cells #[.int .i64 0, .int .i64 0, .int .i64 0, .int .i64 0, .slice none 0 0] 31)).drew).heap.size = w3.heap.size + 1 by simp] at hmkb hownb
  rw [show w3.drew.heap.size = w3.heap.size by simp] at hmka howna
  have RA := made_n9 howna
  have RB := made_n9 hownb
  have KDb : BX w3.heap.size [.int .i64 0, .int .i64 0, .int .i64 0, .int .i64 0, .slice none 0 0] wb := BX.grown ((BX.at (w := w3) (T := 31) w3.heap.size rfl).drew) hgrb (fun e => by cases e)
  have Ca : Below w3.heap.size w3 wa := Below.grown ((Below.refl _ _).drew) hgra (by simp) (fun r hr => by cases hr)
  have Cb : Below w3.heap.size w3 wb := Below.grown (((Below.refl _ _).alloc (Nat.le_refl _) _).drew) hgrb (by simp) (fun r hr => by cases hr)
  have p3c0 := P3.c0
  have p3c1 := P3.c1
  have p3c2 := P3.c2
  have p3c3 := P3.c3
  have p3c4 := P3.c4
  have p3l := P3.lt
  have l3c0 := L3.c0
  have l3c1 := L3.c1
  have l3c2 := L3.c2
  have l3l := L3.lt
  have kdc0 := KDb.c0
  have kdc1 := KDb.c1
  have kdc2 := KDb.c2
  have kdc3 := KDb.c3
  have kdc4 := KDb.c4
  have kdf0 := KDb.f0
  have kdf1 := KDb.f1
  have kdf2 := KDb.f2
  have kdf3 := KDb.f3
  have kdf4 := KDb.f4
  have kdl := KDb.lt
  have ral := RA.1
  have rbl := RB.1
  clear howna hownb hgra hgrb hinf hz0 hz1 hz2
  go_upto_region 1 with fail
  go_cut [7] (fun s7 wx => MvC w3 f p' B' q' N s7 wx)
  case first =>
    go_region_held3 (fun W9 => (W9.cell? ⟨W.heap.size, 0, none⟩ = some (.int .i64 f) ∧ W9.cell? ⟨W.heap.size, 1, none⟩ = some (.int .i64 (p : Int)) ∧ W9.cell? ⟨W.heap.size, 2, none⟩ = some (.int .i64 B) ∧ W9.cell? ⟨W.heap.size, 3, none⟩ = some (.int .i64 (q : Int)) ∧ W9.cell? ⟨W.heap.size, 4, none⟩ = some (.slice (some ⟨g, 0, none⟩) N cap)) ∧ (W9.cell? ⟨w1.heap.size, 0, none⟩ = some (.int .i64 (p' : Int)) ∧ W9.cell? ⟨w1.heap.size, 1, none⟩ = some (.int .i64 B') ∧ W9.cell? ⟨w1.heap.size, 2, none⟩ = some (.int .i64 (q' : Int)))) ((refine And.intro (Bx.cells5 ?_) (Bx.cells3 ?_)) <;> repeat (first | with_reducible assumption | (with_reducible exact Bx.at _ (by first | with_reducible rfl | (simp; done))) | with_reducible refine Bx.drew ?_ | with_reducible refine Bx.alloc ?_ _ | with_reducible refine Bx.call ?_ (by with_reducible assumption) | with_reducible refine BX.drew ?_ | with_reducible refine BX.alloc ?_ _ | with_reducible refine BX.call ?_ (by with_reducible assumption) | with_reducible refine Ko2.drew9 ?_ | with_reducible refine Ko2.call ?_ (by with_reducible assumption) | with_reducible refine IRow.drewP ?_ | with_reducible refine IRow.call ?_ (by with_reducible assumption) | with_reducible refine Bx.far (by first | omega | (dsimp only; omega)) ?_ | with_reducible refine Ko2.far9 (by first | omega | (dsimp only; omega)) ?_ | with_reducible refine IRow.far (by first | omega | (dsimp only; omega)) ?_)) (fail)
    all_goals
      go_wp2_with fail
      go_meet
      first
        | exact ⟨wa.heap.size, w3.heap.size, rfl, Bx.at _ rfl, RA.call ((Below.refl _ _).alloc (Nat.le_refl _) _), by omega, by omega, by omega, Ca.alloc (by omega) _⟩
        | exact ⟨w3.heap.size, w3.heap.size + 1, rfl, Bx.st5 KDb, (by repeat (first | with_reducible assumption | (with_reducible exact Bx.at _ (by first | with_reducible rfl | (simp; done))) | with_reducible refine Bx.drew ?_ | with_reducible refine Bx.alloc ?_ _ | with_reducible refine Bx.call ?_ (by with_reducible assumption) | with_reducible refine BX.drew ?_ | with_reducible refine BX.alloc ?_ _ | with_reducible refine BX.call ?_ (by with_reducible assumption) | with_reducible refine Ko2.drew9 ?_ | with_reducible refine Ko2.call ?_ (by with_reducible assumption) | with_reducible refine IRow.drewP ?_ | with_reducible refine IRow.call ?_ (by with_reducible assumption) | with_reducible refine Bx.far (by first | omega | (dsimp only; omega)) ?_ | with_reducible refine Ko2.far9 (by first | omega | (dsimp only; omega)) ?_ | with_reducible refine IRow.far (by first | omega | (dsimp only; omega)) ?_)), by omega, by omega, by omega, (by repeat (first | with_reducible assumption | with_reducible exact Below.refl _ _ | with_reducible refine Below.drew ?_ | with_reducible refine Below.alloc ?_ (by first | omega | (simp <;> omega)) _ | with_reducible refine Below.setCell ?_ (by first | omega | (dsimp only; omega)) _ | with_reducible refine bstep ?_ (by with_reducible assumption)))⟩
  case rest =>
    clear hmka hmkb RA RB KDb Ca Cb p3c0 p3c1 p3c2 p3c3 p3c4 p3l l3c0 l3c1 l3c2 l3l kdc0 kdf0 kdc1 kdf1 kdc2 kdf2 kdc3 kdf3 kdc4 kdf4 kdl ral rbl
    obtain ⟨bx, m, rfl, D3, O3, hm3, hbx3, hne, hC⟩ := hcut
    have HRC := Lib.hid rc
    have p3l := P3.lt
    have m3l := M3.lt
    have l3l := L3.lt
    have r3l := R3.lt
    clear rc
    go_wp2_with fail
    go_loopw [8] (fun s X => ∃ k : Nat, s = .int .i64 (k : Int) ∧ k ≤ N ∧ IRow m (N * 1) (mvS (idx9 (p' : Int) B' (q' : Int) a b c d x y p q) F k) X ∧ Bx bx [.int .i64 f, .int .i64 (p' : Int), .int .i64 B', .int .i64 (q' : Int), .slice (some ⟨m, 0, none⟩) N N] X ∧ Below w3.heap.size w3 X) (fun s _ => N - (intOf s).toNat)
    case atStart => exact ⟨0, rfl, by omega, O3.ext (fun t _ => rfl), D3, hC⟩
    case round =>
      clear D3 O3 hC
      obtain ⟨k, rfl, hk, O3, D3, hB⟩ := hrel
      have hws := hB.size
      by_cases hk1 : k < N
      · have hk2 : (k : Int) < (N : Int) := by omega
        have hk0 : (0 : Int) ≤ (k : Int) := by omega
        have hkn1 : k < N * 1 := by omega
        have hkc : k < (cellP q p).length := by rw [← HN.out]; exact hk1
        obtain ⟨⟨x0, x1⟩, hxx⟩ : ∃ v, v = (cellP q p)[k] := ⟨_, rfl⟩
        have K3 := (HRC.out.v29 k hkc).call hB
        rw [← hxx] at K3
        dsimp only at K3
        have hmem : ((x0, x1) : V29) ∈ cellP q p := by rw [hxx]; exact List.getElem_mem hkc
        have hbd := cellP_mem9 hmem
        dsimp only at hbd
        obtain ⟨z9, hz9⟩ : ∃ z, z = F k := ⟨_, rfl⟩
        have HF := Lib.hid hz9
        obtain ⟨y0, hy0⟩ : ∃ z, z = a * x0 + b * x1 + x := ⟨_, rfl⟩
        obtain ⟨y1, hy1⟩ : ∃ z, z = c * x0 + d * x1 + y := ⟨_, rfl⟩
        obtain ⟨ix, hix⟩ : ∃ z, z = (idx9 (p' : Int) B' (q' : Int) a b c d x y p q) k := ⟨_, rfl⟩
        have HIX := Lib.hid hix
        have hixe : ix = numP (p' : Int) B' (q' : Int) y0 y1 := by
          rw [hix, hy0, hy1]
          unfold idx9
          rw [show (cellP q p).getD k (0, 0) = (x0, x1) by rw [hxx]; simp [List.getD, List.getElem?_eq_getElem hkc]]
        have hsm := keep_small HH.out.fr HK.out.1
        have hvx := vecB_bd HK.out.2.2
        have k1 := mid1 hsm.1.1 (x := x0) (by omega)
        have k2 := mid1 hsm.1.2 (x := x1) (by omega)
        have k3 := mid1 hsm.2.1 (x := x0) (by omega)
        have k4 := mid1 hsm.2.2 (x := x1) (by omega)
        have hl9 := latI_bd HL.out
        have q1 := redX_bd (x := y0) (y := y1) HL.out
        have q2 := redY_bd (y := y1) HL.out
        have q3 := num_bd q1 q2 hl9.1 hl9.2
        have q4 := numP_int (x := y0) (y := y1) HL.out
        have hixN : (ix : Int) < (N : Int) := by
          rw [hixe, q4, HNN.out, ← HIN.out]
          simpa using q3.2
        have HAP := Lib.hid (fun (X : World) => (show Calls Try.prog 72 #[.agg #[.int .i64 a, .int .i64 b, .int .i64 c, .int .i64 d, .int .i64 x, .int .i64 y], .agg #[.int .i64 x0, .int .i64 x1]] X (fun e w' => e = .returned (.agg #[.int .i64 y0, .int .i64 y1]) ∧ Below X.heap.size X w') from by
          rw [hy0, hy1]
          exact l05Apply_any a b c d x y x0 x1 X (keep_lim HH.out.fr HK.out.1) HK.out.2.2 (by simp [vecB]; omega)))
        have HNU := Lib.hid (fun (X : World) => (show Calls Try.prog 55 #[.agg #[.int .i64 ((p' : Int)), .int .i64 B', .int .i64 ((q' : Int))], .agg #[.int .i64 y0, .int .i64 y1]] X (fun e w' => e = .returned (.int .i64 (ix : Int)) ∧ Below X.heap.size X w') from by
          rw [hixe, q4]
          exact l03NumberP_any (p' : Int) B' (q' : Int) y0 y1 _ _ X HL.out (by unfold midI; omega) (by unfold midI; omega) rfl rfl q3.1 (by omega)))
        clear hbd hmem hxx hz9 hy0 hy1 hix hixe hsm hvx k1 k2 k3 k4 hl9 q1 q2 q3 q4 hkc
        have hix0 : (0 : Int) ≤ (ix : Int) := by omega
        have hixn : ix < N * 1 := by omega
        have P9 := P3.call hB
        have M9 := M3.call hB
        have L9 := L3.call hB
        have G9 : IRow g (N * 1) F wr := HR0.out.call (bstep B3 hB)
        have k3l := K3.1
        have gcl : gc < w3.heap.size := HRC.out.1
        have d3l := D3.lt
        have p9c0 := P9.c0
        have p9c1 := P9.c1
        have p9c2 := P9.c2
        have p9c3 := P9.c3
        have p9c4 := P9.c4
        have p9l := P9.lt
        have m9c0 := M9.c0
        have m9c1 := M9.c1
        have m9c2 := M9.c2
        have m9c3 := M9.c3
        have m9c4 := M9.c4
        have m9c5 := M9.c5
        have m9l := M9.lt
        have l9c0 := L9.c0
        have l9c1 := L9.c1
        have l9c2 := L9.c2
        have l9l := L9.lt
        have d3c := D3.c4
        have k3c := K3.2.1
        have k3d := K3.2.2
        have g9c := (G9.at k hkn1).trans (by rw [← HF.out])
        go_wp2_with fail
        refine wp_region_T 16 (fun W9 => (W9.cell? ⟨W.heap.size, 0, none⟩ = some (.int .i64 f) ∧ W9.cell? ⟨W.heap.size, 1, none⟩ = some (.int .i64 (p : Int)) ∧ W9.cell? ⟨W.heap.size, 2, none⟩ = some (.int .i64 B) ∧ W9.cell? ⟨W.heap.size, 3, none⟩ = some (.int .i64 (q : Int)) ∧ W9.cell? ⟨W.heap.size, 4, none⟩ = some (.slice (some ⟨g, 0, none⟩) N cap)) ∧ (W9.cell? ⟨(W.heap.size + 1), 0, none⟩ = some (.int .i64 a) ∧ W9.cell? ⟨(W.heap.size + 1), 1, none⟩ = some (.int .i64 b) ∧ W9.cell? ⟨(W.heap.size + 1), 2, none⟩ = some (.int .i64 c) ∧ W9.cell? ⟨(W.heap.size + 1), 3, none⟩ = some (.int .i64 d) ∧ W9.cell? ⟨(W.heap.size + 1), 4, none⟩ = some (.int .i64 x) ∧ W9.cell? ⟨(W.heap.size + 1), 5, none⟩ = some (.int .i64 y)) ∧ (W9.cell? ⟨w1.heap.size, 0, none⟩ = some (.int .i64 (p' : Int)) ∧ W9.cell? ⟨w1.heap.size, 1, none⟩ = some (.int .i64 B') ∧ W9.cell? ⟨w1.heap.size, 2, none⟩ = some (.int .i64 (q' : Int))) ∧ W9.cell? ⟨bx, 4, none⟩ = some (.slice (some ⟨m, 0, none⟩) N N) ∧ (W9.cell? ⟨gc, k * 2, none⟩ = some (.int .i64 x0) ∧ W9.cell? ⟨gc, k * 2 + 1, none⟩ = some (.int .i64 x1)) ∧ W9.cell? ⟨g, k, none⟩ = some (.int .i64 z9)) (by kernel_rfl) ⟨P9.drew.cells5, M9.drew.cells6, L9.drew.cells3, D3.drew.c4, K3.drew9.cells, (G9.drewP.at k hkn1).trans (by rw [HF.out])⟩ (fun hHeld inv => ?_)
        refine wpAnyT_take (i := 0) (v := ?_) (by kernel_rfl) (by kernel_rfl) (by decide) (by kernel_rfl) inv rfl (by decide) (by kernel_rfl) (by kernel_rfl) (fun _ _ _ h => h) (Or.inl ⟨by rfl, ?_⟩) (by assumption) (fun inv => ?_)
        rotate_left
        · (intro w hSw; (try dsimp only at hSw); go_simp; try with_reducible rfl)
        simp only [Act.put, List.setIfInBounds_toArray, List.set_cons_zero, List.set_cons_succ]
        refine wpAnyT_take (i := 1) (v := ?_) (by kernel_rfl) (by kernel_rfl) (by decide) (by kernel_rfl) inv rfl (by decide) (by kernel_rfl) (by kernel_rfl) (fun _ _ _ h => h) (Or.inl ⟨by rfl, ?_⟩) (by assumption) (fun inv => ?_)
        rotate_left
        · (intro w hSw; (try dsimp only at hSw); go_simp; try with_reducible rfl)
        simp only [Act.put, List.setIfInBounds_toArray, List.set_cons_zero, List.set_cons_succ]
        refine wpAnyT_take (i := 2) (v := ?_) (by kernel_rfl) (by kernel_rfl) (by decide) (by kernel_rfl) inv rfl (by decide) (by kernel_rfl) (by kernel_rfl) (fun _ _ _ h => h) (Or.inl ⟨by rfl, ?_⟩) (by assumption) (fun inv => ?_)
        rotate_left
        · (intro w hSw; (try dsimp only at hSw); go_simp; try with_reducible rfl)
        simp only [Act.put, List.setIfInBounds_toArray, List.set_cons_zero, List.set_cons_succ]
        refine wpAnyT_take (i := 3) (v := ?_) (by kernel_rfl) (by kernel_rfl) (by decide) (by kernel_rfl) inv rfl (by decide) (by kernel_rfl) (by kernel_rfl) (fun _ _ _ h => h) (Or.inl ⟨by rfl, ?_⟩) (by assumption) (fun inv => ?_)
        rotate_left
        · (intro w hSw; (try dsimp only at hSw); go_simp; try with_reducible rfl)
        simp only [Act.put, List.setIfInBounds_toArray, List.set_cons_zero, List.set_cons_succ]
        refine wpAnyT_take (i := 4) (v := ?_) (by kernel_rfl) (by kernel_rfl) (by decide) (by kernel_rfl) inv rfl (by decide) (by kernel_rfl) (by kernel_rfl) (fun _ _ _ h => h) (Or.inl ⟨by rfl, ?_⟩) (by assumption) (fun inv => ?_)
        rotate_left
        · (intro w hSw; (try dsimp only at hSw); go_simp; try with_reducible rfl)
        simp only [Act.put, List.setIfInBounds_toArray, List.set_cons_zero, List.set_cons_succ]
        refine wpAnyT_take (i := 5) (v := ?_) (by kernel_rfl) (by kernel_rfl) (by decide) (by kernel_rfl) inv rfl (by decide) (by kernel_rfl) (by kernel_rfl) (fun _ _ _ h => h) (Or.inl ⟨by rfl, ?_⟩) (by assumption) (fun inv => ?_)
        rotate_left
        · (intro w hSw; (try dsimp only at hSw); go_simp; try with_reducible rfl)
        simp only [Act.put, List.setIfInBounds_toArray, List.set_cons_zero, List.set_cons_succ]
        refine wpAnyT_take (i := 6) (v := ?_) (by kernel_rfl) (by kernel_rfl) (by decide) (by kernel_rfl) inv rfl (by decide) (by kernel_rfl) (by kernel_rfl) (fun _ _ _ h => h) (Or.inl ⟨by rfl, ?_⟩) (by assumption) (fun inv => ?_)
        rotate_left
        · (intro w hSw; (try dsimp only at hSw); go_simp; try with_reducible rfl)
        simp only [Act.put, List.setIfInBounds_toArray, List.set_cons_zero, List.set_cons_succ]
        refine wpAnyT_take (i := 7) (v := ?_) (by kernel_rfl) (by kernel_rfl) (by decide) (by kernel_rfl) inv rfl (by decide) (by kernel_rfl) (by kernel_rfl) (fun _ _ _ h => h) (Or.inl ⟨by rfl, ?_⟩) (by assumption) (fun inv => ?_)
        rotate_left
        · (intro w hSw; (try dsimp only at hSw); go_simp; try with_reducible rfl)
        simp only [Act.put, List.setIfInBounds_toArray, List.set_cons_zero, List.set_cons_succ]
        refine wpAnyT_take (i := 10) (v := ?_) (by kernel_rfl) (by kernel_rfl) (by decide) (by kernel_rfl) inv rfl (by decide) (by kernel_rfl) (by kernel_rfl) (fun _ _ _ h => h) (Or.inl ⟨by rfl, ?_⟩) (by assumption) (fun inv => ?_)
        rotate_left
        · (intro w hSw; (try dsimp only at hSw); go_simp; try with_reducible rfl)
        simp only [Act.put, List.setIfInBounds_toArray, List.set_cons_zero, List.set_cons_succ]
        refine wpAnyT_take (i := 11) (v := ?_) (by kernel_rfl) (by kernel_rfl) (by decide) (by kernel_rfl) inv rfl (by decide) (by kernel_rfl) (by kernel_rfl) (fun _ _ _ h => h) (Or.inl ⟨by rfl, ?_⟩) (by assumption) (fun inv => ?_)
        rotate_left
        · (intro w hSw; (try dsimp only at hSw); go_simp; try with_reducible rfl)
        simp only [Act.put, List.setIfInBounds_toArray, List.set_cons_zero, List.set_cons_succ]
        refine wpAnyT_take (i := 12) (v := ?_) (by kernel_rfl) (by kernel_rfl) (by decide) (by kernel_rfl) inv rfl (by decide) (by kernel_rfl) (by kernel_rfl) (fun _ _ _ h => h) (Or.inl ⟨by rfl, ?_⟩) (by assumption) (fun inv => ?_)
        rotate_left
        · (intro w hSw; (try dsimp only at hSw); go_simp; try with_reducible rfl)
        simp only [Act.put, List.setIfInBounds_toArray, List.set_cons_zero, List.set_cons_succ]
        refine wpAnyT_take (i := 13) (v := ?_) (by kernel_rfl) (by kernel_rfl) (by decide) (by kernel_rfl) inv rfl (by decide) (by kernel_rfl) (by kernel_rfl) (fun _ _ _ h => h) (Or.inl ⟨by rfl, ?_⟩) (by assumption) (fun inv => ?_)
        rotate_left
        · (intro w hSw; (try dsimp only at hSw); go_simp; try with_reducible rfl)
        simp only [Act.put, List.setIfInBounds_toArray, List.set_cons_zero, List.set_cons_succ]
        refine wpAnyT_take (i := 14) (v := ?_) (by kernel_rfl) (by kernel_rfl) (by decide) (by kernel_rfl) inv rfl (by decide) (by kernel_rfl) (by kernel_rfl) (fun _ _ _ h => h) (Or.inl ⟨by rfl, ?_⟩) (by assumption) (fun inv => ?_)
        rotate_left
        · (intro w hSw; (try dsimp only at hSw); go_simp; try with_reducible rfl)
        simp only [Act.put, List.setIfInBounds_toArray, List.set_cons_zero, List.set_cons_succ]
        have HI8 := Lib.hid inv
        refine wpAnyT_one (i := 8) (by kernel_rfl) rfl (fun K hK => ?_)
        go_simp
        (go_at_call 72; with_reducible refine (HAP.out _).mono ?_; rintro e w4 ⟨rfl, hb4⟩; have P4 : Bx W.heap.size [.int .i64 f, .int .i64 (p : Int), .int .i64 B, .int .i64 (q : Int), .slice (some ⟨g, 0, none⟩) N cap] w4 := (by repeat (first | with_reducible assumption | (with_reducible exact Bx.at _ (by first | with_reducible rfl | (simp; done))) | with_reducible refine Bx.drew ?_ | with_reducible refine Bx.alloc ?_ _ | with_reducible refine Bx.call ?_ (by with_reducible assumption) | with_reducible refine BX.drew ?_ | with_reducible refine BX.alloc ?_ _ | with_reducible refine BX.call ?_ (by with_reducible assumption) | with_reducible refine Ko2.drew9 ?_ | with_reducible refine Ko2.call ?_ (by with_reducible assumption) | with_reducible refine IRow.drewP ?_ | with_reducible refine IRow.call ?_ (by with_reducible assumption) | with_reducible refine Bx.far (by first | omega | (dsimp only; omega)) ?_ | with_reducible refine Ko2.far9 (by first | omega | (dsimp only; omega)) ?_ | with_reducible refine IRow.far (by first | omega | (dsimp only; omega)) ?_)); have M4 : Bx (W.heap.size + 1) [.int .i64 a, .int .i64 b, .int .i64 c, .int .i64 d, .int .i64 x, .int .i64 y] w4 := (by repeat (first | with_reducible assumption | (with_reducible exact Bx.at _ (by first | with_reducible rfl | (simp; done))) | with_reducible refine Bx.drew ?_ | with_reducible refine Bx.alloc ?_ _ | with_reducible refine Bx.call ?_ (by with_reducible assumption) | with_reducible refine BX.drew ?_ | with_reducible refine BX.alloc ?_ _ | with_reducible refine BX.call ?_ (by with_reducible assumption) | with_reducible refine Ko2.drew9 ?_ | with_reducible refine Ko2.call ?_ (by with_reducible assumption) | with_reducible refine IRow.drewP ?_ | with_reducible refine IRow.call ?_ (by with_reducible assumption) | with_reducible refine Bx.far (by first | omega | (dsimp only; omega)) ?_ | with_reducible refine Ko2.far9 (by first | omega | (dsimp only; omega)) ?_ | with_reducible refine IRow.far (by first | omega | (dsimp only; omega)) ?_)); have L4 : Bx w1.heap.size [.int .i64 (p' : Int), .int .i64 B', .int .i64 (q' : Int)] w4 := (by repeat (first | with_reducible assumption | (with_reducible exact Bx.at _ (by first | with_reducible rfl | (simp; done))) | with_reducible refine Bx.drew ?_ | with_reducible refine Bx.alloc ?_ _ | with_reducible refine Bx.call ?_ (by with_reducible assumption) | with_reducible refine BX.drew ?_ | with_reducible refine BX.alloc ?_ _ | with_reducible refine BX.call ?_ (by with_reducible assumption) | with_reducible refine Ko2.drew9 ?_ | with_reducible refine Ko2.call ?_ (by with_reducible assumption) | with_reducible refine IRow.drewP ?_ | with_reducible refine IRow.call ?_ (by with_reducible assumption) | with_reducible refine Bx.far (by first | omega | (dsimp only; omega)) ?_ | with_reducible refine Ko2.far9 (by first | omega | (dsimp only; omega)) ?_ | with_reducible refine IRow.far (by first | omega | (dsimp only; omega)) ?_)); have D4 : Bx bx [.int .i64 f, .int .i64 (p' : Int), .int .i64 B', .int .i64 (q' : Int), .slice (some ⟨m, 0, none⟩) N N] w4 := (by repeat (first | with_reducible assumption | (with_reducible exact Bx.at _ (by first | with_reducible rfl | (simp; done))) | with_reducible refine Bx.drew ?_ | with_reducible refine Bx.alloc ?_ _ | with_reducible refine Bx.call ?_ (by with_reducible assumption) | with_reducible refine BX.drew ?_ | with_reducible refine BX.alloc ?_ _ | with_reducible refine BX.call ?_ (by with_reducible assumption) | with_reducible refine Ko2.drew9 ?_ | with_reducible refine Ko2.call ?_ (by with_reducible assumption) | with_reducible refine IRow.drewP ?_ | with_reducible refine IRow.call ?_ (by with_reducible assumption) | with_reducible refine Bx.far (by first | omega | (dsimp only; omega)) ?_ | with_reducible refine Ko2.far9 (by first | omega | (dsimp only; omega)) ?_ | with_reducible refine IRow.far (by first | omega | (dsimp only; omega)) ?_)); have K4 : Ko2 gc (k * 2) x0 x1 w4 := (by repeat (first | with_reducible assumption | (with_reducible exact Bx.at _ (by first | with_reducible rfl | (simp; done))) | with_reducible refine Bx.drew ?_ | with_reducible refine Bx.alloc ?_ _ | with_reducible refine Bx.call ?_ (by with_reducible assumption) | with_reducible refine BX.drew ?_ | with_reducible refine BX.alloc ?_ _ | with_reducible refine BX.call ?_ (by with_reducible assumption) | with_reducible refine Ko2.drew9 ?_ | with_reducible refine Ko2.call ?_ (by with_reducible assumption) | with_reducible refine IRow.drewP ?_ | with_reducible refine IRow.call ?_ (by with_reducible assumption) | with_reducible refine Bx.far (by first | omega | (dsimp only; omega)) ?_ | with_reducible refine Ko2.far9 (by first | omega | (dsimp only; omega)) ?_ | with_reducible refine IRow.far (by first | omega | (dsimp only; omega)) ?_)); have G4 : IRow g (N * 1) F w4 := (by repeat (first | with_reducible assumption | (with_reducible exact Bx.at _ (by first | with_reducible rfl | (simp; done))) | with_reducible refine Bx.drew ?_ | with_reducible refine Bx.alloc ?_ _ | with_reducible refine Bx.call ?_ (by with_reducible assumption) | with_reducible refine BX.drew ?_ | with_reducible refine BX.alloc ?_ _ | with_reducible refine BX.call ?_ (by with_reducible assumption) | with_reducible refine Ko2.drew9 ?_ | with_reducible refine Ko2.call ?_ (by with_reducible assumption) | with_reducible refine IRow.drewP ?_ | with_reducible refine IRow.call ?_ (by with_reducible assumption) | with_reducible refine Bx.far (by first | omega | (dsimp only; omega)) ?_ | with_reducible refine Ko2.far9 (by first | omega | (dsimp only; omega)) ?_ | with_reducible refine IRow.far (by first | omega | (dsimp only; omega)) ?_)); have O4 : IRow m (N * 1) (mvS (idx9 (p' : Int) B' (q' : Int) a b c d x y p q) F k) w4 := (by repeat (first | with_reducible assumption | (with_reducible exact Bx.at _ (by first | with_reducible rfl | (simp; done))) | with_reducible refine Bx.drew ?_ | with_reducible refine Bx.alloc ?_ _ | with_reducible refine Bx.call ?_ (by with_reducible assumption) | with_reducible refine BX.drew ?_ | with_reducible refine BX.alloc ?_ _ | with_reducible refine BX.call ?_ (by with_reducible assumption) | with_reducible refine Ko2.drew9 ?_ | with_reducible refine Ko2.call ?_ (by with_reducible assumption) | with_reducible refine IRow.drewP ?_ | with_reducible refine IRow.call ?_ (by with_reducible assumption) | with_reducible refine Bx.far (by first | omega | (dsimp only; omega)) ?_ | with_reducible refine Ko2.far9 (by first | omega | (dsimp only; omega)) ?_ | with_reducible refine IRow.far (by first | omega | (dsimp only; omega)) ?_)); have C4 : Below w3.heap.size w3 w4 := (by repeat (first | with_reducible assumption | with_reducible exact Below.refl _ _ | with_reducible refine Below.drew ?_ | with_reducible refine Below.alloc ?_ (by first | omega | (simp <;> omega)) _ | with_reducible refine Below.setCell ?_ (by first | omega | (dsimp only; omega)) _ | with_reducible refine bstep ?_ (by with_reducible assumption))))
        refine hK.out _ _ (fun _ => ⟨P4.cells5, M4.cells6, L4.cells3, D4.c4, K4.cells, (G4.at k hkn1).trans (by rw [HF.out])⟩) ?_
        clear hK K inv hHeld
        have hHeld : (w4.cell? ⟨W.heap.size, 0, none⟩ = some (.int .i64 f) ∧ w4.cell? ⟨W.heap.size, 1, none⟩ = some (.int .i64 (p : Int)) ∧ w4.cell? ⟨W.heap.size, 2, none⟩ = some (.int .i64 B) ∧ w4.cell? ⟨W.heap.size, 3, none⟩ = some (.int .i64 (q : Int)) ∧ w4.cell? ⟨W.heap.size, 4, none⟩ = some (.slice (some ⟨g, 0, none⟩) N cap)) ∧ (w4.cell? ⟨(W.heap.size + 1), 0, none⟩ = some (.int .i64 a) ∧ w4.cell? ⟨(W.heap.size + 1), 1, none⟩ = some (.int .i64 b) ∧ w4.cell? ⟨(W.heap.size + 1), 2, none⟩ = some (.int .i64 c) ∧ w4.cell? ⟨(W.heap.size + 1), 3, none⟩ = some (.int .i64 d) ∧ w4.cell? ⟨(W.heap.size + 1), 4, none⟩ = some (.int .i64 x) ∧ w4.cell? ⟨(W.heap.size + 1), 5, none⟩ = some (.int .i64 y)) ∧ (w4.cell? ⟨w1.heap.size, 0, none⟩ = some (.int .i64 (p' : Int)) ∧ w4.cell? ⟨w1.heap.size, 1, none⟩ = some (.int .i64 B') ∧ w4.cell? ⟨w1.heap.size, 2, none⟩ = some (.int .i64 (q' : Int))) ∧ w4.cell? ⟨bx, 4, none⟩ = some (.slice (some ⟨m, 0, none⟩) N N) ∧ (w4.cell? ⟨gc, k * 2, none⟩ = some (.int .i64 x0) ∧ w4.cell? ⟨gc, k * 2 + 1, none⟩ = some (.int .i64 x1)) ∧ w4.cell? ⟨g, k, none⟩ = some (.int .i64 z9) := ⟨P4.cells5, M4.cells6, L4.cells3, D4.c4, K4.cells, (G4.at k hkn1).trans (by rw [HF.out])⟩
        have inv := HI8.out.set (i := 8) (List.contains_iff_mem.1 (by kernel_rfl)) (by decide)
        try simp only [Act.put, List.setIfInBounds_toArray, List.set_cons_zero, List.set_cons_succ]
        try simp only [List.setIfInBounds_toArray, List.set_cons_zero, List.set_cons_succ] at inv
        have HI9 := Lib.hid inv
        refine wpAnyT_one (i := 9) (by kernel_rfl) rfl (fun K hK => ?_)
        go_simp
        (go_at_call 55; with_reducible refine (HNU.out _).mono ?_; rintro e w5 ⟨rfl, hb5⟩; have P5 : Bx W.heap.size [.int .i64 f, .int .i64 (p : Int), .int .i64 B, .int .i64 (q : Int), .slice (some ⟨g, 0, none⟩) N cap] w5 := (by repeat (first | with_reducible assumption | (with_reducible exact Bx.at _ (by first | with_reducible rfl | (simp; done))) | with_reducible refine Bx.drew ?_ | with_reducible refine Bx.alloc ?_ _ | with_reducible refine Bx.call ?_ (by with_reducible assumption) | with_reducible refine BX.drew ?_ | with_reducible refine BX.alloc ?_ _ | with_reducible refine BX.call ?_ (by with_reducible assumption) | with_reducible refine Ko2.drew9 ?_ | with_reducible refine Ko2.call ?_ (by with_reducible assumption) | with_reducible refine IRow.drewP ?_ | with_reducible refine IRow.call ?_ (by with_reducible assumption) | with_reducible refine Bx.far (by first | omega | (dsimp only; omega)) ?_ | with_reducible refine Ko2.far9 (by first | omega | (dsimp only; omega)) ?_ | with_reducible refine IRow.far (by first | omega | (dsimp only; omega)) ?_)); have M5 : Bx (W.heap.size + 1) [.int .i64 a, .int .i64 b, .int .i64 c, .int .i64 d, .int .i64 x, .int .i64 y] w5 := (by repeat (first | with_reducible assumption | (with_reducible exact Bx.at _ (by first | with_reducible rfl | (simp; done))) | with_reducible refine Bx.drew ?_ | with_reducible refine Bx.alloc ?_ _ | with_reducible refine Bx.call ?_ (by with_reducible assumption) | with_reducible refine BX.drew ?_ | with_reducible refine BX.alloc ?_ _ | with_reducible refine BX.call ?_ (by with_reducible assumption) | with_reducible refine Ko2.drew9 ?_ | with_reducible refine Ko2.call ?_ (by with_reducible assumption) | with_reducible refine IRow.drewP ?_ | with_reducible refine IRow.call ?_ (by with_reducible assumption) | with_reducible refine Bx.far (by first | omega | (dsimp only; omega)) ?_ | with_reducible refine Ko2.far9 (by first | omega | (dsimp only; omega)) ?_ | with_reducible refine IRow.far (by first | omega | (dsimp only; omega)) ?_)); have L5 : Bx w1.heap.size [.int .i64 (p' : Int), .int .i64 B', .int .i64 (q' : Int)] w5 := (by repeat (first | with_reducible assumption | (with_reducible exact Bx.at _ (by first | with_reducible rfl | (simp; done))) | with_reducible refine Bx.drew ?_ | with_reducible refine Bx.alloc ?_ _ | with_reducible refine Bx.call ?_ (by with_reducible assumption) | with_reducible refine BX.drew ?_ | with_reducible refine BX.alloc ?_ _ | with_reducible refine BX.call ?_ (by with_reducible assumption) | with_reducible refine Ko2.drew9 ?_ | with_reducible refine Ko2.call ?_ (by with_reducible assumption) | with_reducible refine IRow.drewP ?_ | with_reducible refine IRow.call ?_ (by with_reducible assumption) | with_reducible refine Bx.far (by first | omega | (dsimp only; omega)) ?_ | with_reducible refine Ko2.far9 (by first | omega | (dsimp only; omega)) ?_ | with_reducible refine IRow.far (by first | omega | (dsimp only; omega)) ?_)); have D5 : Bx bx [.int .i64 f, .int .i64 (p' : Int), .int .i64 B', .int .i64 (q' : Int), .slice (some ⟨m, 0, none⟩) N N] w5 := (by repeat (first | with_reducible assumption | (with_reducible exact Bx.at _ (by first | with_reducible rfl | (simp; done))) | with_reducible refine Bx.drew ?_ | with_reducible refine Bx.alloc ?_ _ | with_reducible refine Bx.call ?_ (by with_reducible assumption) | with_reducible refine BX.drew ?_ | with_reducible refine BX.alloc ?_ _ | with_reducible refine BX.call ?_ (by with_reducible assumption) | with_reducible refine Ko2.drew9 ?_ | with_reducible refine Ko2.call ?_ (by with_reducible assumption) | with_reducible refine IRow.drewP ?_ | with_reducible refine IRow.call ?_ (by with_reducible assumption) | with_reducible refine Bx.far (by first | omega | (dsimp only; omega)) ?_ | with_reducible refine Ko2.far9 (by first | omega | (dsimp only; omega)) ?_ | with_reducible refine IRow.far (by first | omega | (dsimp only; omega)) ?_)); have K5 : Ko2 gc (k * 2) x0 x1 w5 := (by repeat (first | with_reducible assumption | (with_reducible exact Bx.at _ (by first | with_reducible rfl | (simp; done))) | with_reducible refine Bx.drew ?_ | with_reducible refine Bx.alloc ?_ _ | with_reducible refine Bx.call ?_ (by with_reducible assumption) | with_reducible refine BX.drew ?_ | with_reducible refine BX.alloc ?_ _ | with_reducible refine BX.call ?_ (by with_reducible assumption) | with_reducible refine Ko2.drew9 ?_ | with_reducible refine Ko2.call ?_ (by with_reducible assumption) | with_reducible refine IRow.drewP ?_ | with_reducible refine IRow.call ?_ (by with_reducible assumption) | with_reducible refine Bx.far (by first | omega | (dsimp only; omega)) ?_ | with_reducible refine Ko2.far9 (by first | omega | (dsimp only; omega)) ?_ | with_reducible refine IRow.far (by first | omega | (dsimp only; omega)) ?_)); have G5 : IRow g (N * 1) F w5 := (by repeat (first | with_reducible assumption | (with_reducible exact Bx.at _ (by first | with_reducible rfl | (simp; done))) | with_reducible refine Bx.drew ?_ | with_reducible refine Bx.alloc ?_ _ | with_reducible refine Bx.call ?_ (by with_reducible assumption) | with_reducible refine BX.drew ?_ | with_reducible refine BX.alloc ?_ _ | with_reducible refine BX.call ?_ (by with_reducible assumption) | with_reducible refine Ko2.drew9 ?_ | with_reducible refine Ko2.call ?_ (by with_reducible assumption) | with_reducible refine IRow.drewP ?_ | with_reducible refine IRow.call ?_ (by with_reducible assumption) | with_reducible refine Bx.far (by first | omega | (dsimp only; omega)) ?_ | with_reducible refine Ko2.far9 (by first | omega | (dsimp only; omega)) ?_ | with_reducible refine IRow.far (by first | omega | (dsimp only; omega)) ?_)); have O5 : IRow m (N * 1) (mvS (idx9 (p' : Int) B' (q' : Int) a b c d x y p q) F k) w5 := (by repeat (first | with_reducible assumption | (with_reducible exact Bx.at _ (by first | with_reducible rfl | (simp; done))) | with_reducible refine Bx.drew ?_ | with_reducible refine Bx.alloc ?_ _ | with_reducible refine Bx.call ?_ (by with_reducible assumption) | with_reducible refine BX.drew ?_ | with_reducible refine BX.alloc ?_ _ | with_reducible refine BX.call ?_ (by with_reducible assumption) | with_reducible refine Ko2.drew9 ?_ | with_reducible refine Ko2.call ?_ (by with_reducible assumption) | with_reducible refine IRow.drewP ?_ | with_reducible refine IRow.call ?_ (by with_reducible assumption) | with_reducible refine Bx.far (by first | omega | (dsimp only; omega)) ?_ | with_reducible refine Ko2.far9 (by first | omega | (dsimp only; omega)) ?_ | with_reducible refine IRow.far (by first | omega | (dsimp only; omega)) ?_)); have C5 : Below w3.heap.size w3 w5 := (by repeat (first | with_reducible assumption | with_reducible exact Below.refl _ _ | with_reducible refine Below.drew ?_ | with_reducible refine Below.alloc ?_ (by first | omega | (simp <;> omega)) _ | with_reducible refine Below.setCell ?_ (by first | omega | (dsimp only; omega)) _ | with_reducible refine bstep ?_ (by with_reducible assumption))); have o5c := O5.at _ hixn; have o5f := O5.free _ hixn; have o5l : m < w5.heap.size := (by have h9 := O5; unfold IRow at h9; exact h9.1))
        refine hK.out _ _ (fun _ => ⟨P5.cells5, M5.cells6, L5.cells3, D5.c4, K5.cells, (G5.at k hkn1).trans (by rw [HF.out])⟩) ?_
        clear hK K inv hHeld
        have hHeld : (w5.cell? ⟨W.heap.size, 0, none⟩ = some (.int .i64 f) ∧ w5.cell? ⟨W.heap.size, 1, none⟩ = some (.int .i64 (p : Int)) ∧ w5.cell? ⟨W.heap.size, 2, none⟩ = some (.int .i64 B) ∧ w5.cell? ⟨W.heap.size, 3, none⟩ = some (.int .i64 (q : Int)) ∧ w5.cell? ⟨W.heap.size, 4, none⟩ = some (.slice (some ⟨g, 0, none⟩) N cap)) ∧ (w5.cell? ⟨(W.heap.size + 1), 0, none⟩ = some (.int .i64 a) ∧ w5.cell? ⟨(W.heap.size + 1), 1, none⟩ = some (.int .i64 b) ∧ w5.cell? ⟨(W.heap.size + 1), 2, none⟩ = some (.int .i64 c) ∧ w5.cell? ⟨(W.heap.size + 1), 3, none⟩ = some (.int .i64 d) ∧ w5.cell? ⟨(W.heap.size + 1), 4, none⟩ = some (.int .i64 x) ∧ w5.cell? ⟨(W.heap.size + 1), 5, none⟩ = some (.int .i64 y)) ∧ (w5.cell? ⟨w1.heap.size, 0, none⟩ = some (.int .i64 (p' : Int)) ∧ w5.cell? ⟨w1.heap.size, 1, none⟩ = some (.int .i64 B') ∧ w5.cell? ⟨w1.heap.size, 2, none⟩ = some (.int .i64 (q' : Int))) ∧ w5.cell? ⟨bx, 4, none⟩ = some (.slice (some ⟨m, 0, none⟩) N N) ∧ (w5.cell? ⟨gc, k * 2, none⟩ = some (.int .i64 x0) ∧ w5.cell? ⟨gc, k * 2 + 1, none⟩ = some (.int .i64 x1)) ∧ w5.cell? ⟨g, k, none⟩ = some (.int .i64 z9) := ⟨P5.cells5, M5.cells6, L5.cells3, D5.c4, K5.cells, (G5.at k hkn1).trans (by rw [HF.out])⟩
        have inv := HI9.out.set (i := 9) (List.contains_iff_mem.1 (by kernel_rfl)) (by decide)
        try simp only [Act.put, List.setIfInBounds_toArray, List.set_cons_zero, List.set_cons_succ]
        try simp only [List.setIfInBounds_toArray, List.set_cons_zero, List.set_cons_succ] at inv
        refine wpAnyT_take (i := 15) (v := ?_) (by kernel_rfl) (by kernel_rfl) (by decide) (by kernel_rfl) inv rfl (by decide) (by kernel_rfl) (by kernel_rfl) (fun _ _ _ h => h) (Or.inl ⟨by rfl, ?_⟩) (by assumption) (fun inv => ?_)
        rotate_left
        · (intro w hSw; (try dsimp only at hSw); go_simp; try with_reducible rfl)
        simp only [Act.put, List.setIfInBounds_toArray, List.set_cons_zero, List.set_cons_succ]
        refine wpAnyT_seq (k := 16) (by decide) rfl rfl (by kernel_rfl) ?_
        clear hHeld inv HI8 HI9
        go_wp2
        go_roundw
        case rel =>
          refine ⟨k + 1, by go_num, by omega, (O5.put ix hixn z9).ext (fun t _ => ?_), Bx.far (by dsimp only; omega) D5, C5.setCell (by dsimp only; omega) _⟩
          simp only [mvS]
          rw [HIX.out, HF.out]
        case measure => first | (simp [intOf]; done) | (simp [intOf]; omega)
      · obtain rfl : k = N := by omega
        have R9 := R3.call hB
        have HB9 := Lib.hid (bstep B3 hB)
        have HO9 := Lib.hid O3
        have hml : m < wr.heap.size := by have h9 := O3; unfold IRow at h9; exact h9.1
        have hw3 := B3.size
        have d3c0 := D3.c0
        have d3c1 := D3.c1
        have d3c2 := D3.c2
        have d3c3 := D3.c3
        have d3c4 := D3.c4
        have d3l := D3.lt
        have r9c0 := R9.c0
        have r9c1 := R9.c1
        have r9c2 := R9.c2
        have r9c3 := R9.c3
        have r9c4 := R9.c4
        have r9f0 := R9.f0
        have r9f1 := R9.f1
        have r9f2 := R9.f2
        have r9f3 := R9.f3
        have r9f4 := R9.f4
        have r9l := R9.lt
        clear D3 R9 O3 hB P3 M3 L3 R3 B3
        go_wp2
        refine bodyPost_ret (v := .agg #[.int .i64 f, .int .i64 (p' : Int), .int .i64 B', .int .i64 (q' : Int), .slice (some ⟨m, 0, none⟩) k k]) (by simp [results, Try.results42, go_sem, *]) rfl ⟨_, rfl, ?_, ?_⟩
        · rw [show p' * q' = k from HIN.out.trans HNN.out.symm]
          refine ⟨Nat.le_refl _, by omega, .inr ⟨m, k, rfl, by omega, by simpa [World.setCell] using hml, ?_⟩⟩
          repeat (first | with_reducible exact HO9.out | with_reducible refine IRow.far (by dsimp only; omega) ?_)
        · have hB := HB9.out
          repeat (first | with_reducible exact Below.refl _ _ | with_reducible assumption | with_reducible refine Below.setCell ?_ (by first | omega | (dsimp only; omega) | (simp <;> omega)) _ | with_reducible refine Below.alloc ?_ (by first | omega | (simp <;> omega)) _ | with_reducible refine bstep ?_ (by with_reducible assumption) | with_reducible refine Below.drew ?_ | with_reducible refine below_drewN ?_ _)
end Go.Proofs.Ytpejihckepaojaa
