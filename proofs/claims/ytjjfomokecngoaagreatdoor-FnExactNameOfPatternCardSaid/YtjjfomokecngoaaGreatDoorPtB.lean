/-
 The copied cells of a list, in the program. Conditions: lattices of at most 64 cells, a list with a number for each cell of the first, small numbers.
-/
import Derived.Test.YtjjfomokecngoaaGreatDoorPc
import Derived.Test.YtjjfomokecngoaaGreatDoorHg
import Derived.Test.YtjjfomokecngoaaGreatDoorPa
import Derived.Maps.AppendAt
import Derived.OwnWalkIn
namespace Go.Proofs.YtjjfomokecngoaaGreatDoor
open Go.RowKit Go.Shelf
theorem pkPtB3 {P : Prop} (h : P := by repeat (first | assumption | refine KV.drew ?_ | refine KV.alloc ?_ _ | refine KV.call ?_ (by assumption) | refine Kg.drew ?_ | refine Kg.alloc ?_ _ | refine Kg.call ?_ (by assumption) | refine Km.drew ?_ | refine Km.alloc ?_ _ | refine Km.call ?_ (by assumption))) : P := h
attribute [local go_sem] Oper.semAt_some
set_option linter.unusedSimpArgs false
set_option linter.unusedVariables false

set_option maxRecDepth 100000 in
set_option maxHeartbeats 4000000 in
theorem applyMo9_any (a b c d x y p q : Int) (w : World) (hl : limB a b c d = true) (hv : midI x ∧ midI y) (hp : vecB p q = true) :
  Calls Tryz.prog 233 #[.agg #[.int .i64 a, .int .i64 b, .int .i64 c, .int .i64 d, .int .i64 x, .int .i64 y], .agg #[.int .i64 p, .int .i64 q]] w fun e w' => e = .returned (.agg #[.int .i64 (a * p + b * q + x), .int .i64 (c * p + d * q + y)]) ∧ Below w.heap.size w w' := by
 have S1 : -1000000000 ≤ a * p + b * q + x ∧ a * p + b * q + x ≤ 1000000000 := by
  obtain ⟨⟨ha, hb⟩, hc, hd⟩ := limB_bd hl
  have hx := hv.1
  have hy := hv.2
  unfold midI at hx hy
  obtain ⟨hp1, hq1⟩ := vecB_bd hp
  have e1 := mul1000 ha hp1
  have e2 := mul1000 hb hq1
  omega
 have S2 : -1000000000 ≤ c * p + d * q + y ∧ c * p + d * q + y ≤ 1000000000 := by
  obtain ⟨⟨ha, hb⟩, hc, hd⟩ := limB_bd hl
  have hx := hv.1
  have hy := hv.2
  unfold midI at hx hy
  obtain ⟨hp1, hq1⟩ := vecB_bd hp
  have e1 := mul1000 hc hp1
  have e2 := mul1000 hd hq1
  omega
 have M0 : Km (w.heap.size) a b c d x y (((w.alloc (.cells #[.int .i64 a, .int .i64 b, .int .i64 c, .int .i64 d, .int .i64 x, .int .i64 y] 145)).alloc (.cells #[.int .i64 p, .int .i64 q] 63)).alloc (.cells #[.int .i64 0, .int .i64 0] 63)) := (((Km.at (w.heap.size) rfl).alloc _).alloc _)
 have N0 : Kg (w.heap.size + 1) p q (((w.alloc (.cells #[.int .i64 a, .int .i64 b, .int .i64 c, .int .i64 d, .int .i64 x, .int .i64 y] 145)).alloc (.cells #[.int .i64 p, .int .i64 q] 63)).alloc (.cells #[.int .i64 0, .int .i64 0] 63)) := ((Kg.at2 (w.heap.size + 1) (by simp)).alloc _)
 have R0 : KV (w.heap.size + 1 + 1) 0 0 (((w.alloc (.cells #[.int .i64 a, .int .i64 b, .int .i64 c, .int .i64 d, .int .i64 x, .int .i64 y] 145)).alloc (.cells #[.int .i64 p, .int .i64 q] 63)).alloc (.cells #[.int .i64 0, .int .i64 0] 63)) := (KV.at (w.heap.size + 1 + 1) (by simp))
 have B0 : Below w.heap.size w (((w.alloc (.cells #[.int .i64 a, .int .i64 b, .int .i64 c, .int .i64 d, .int .i64 x, .int .i64 y] 145)).alloc (.cells #[.int .i64 p, .int .i64 q] 63)).alloc (.cells #[.int .i64 0, .int .i64 0] 63)) := (Below.alloc (Below.alloc (Below.alloc (Below.refl _ _) (by first | with_reducible exact Nat.le_refl _ | (simp <;> omega)) _) (by first | with_reducible exact Nat.le_refl _ | (simp <;> omega)) _) (by first | with_reducible exact Nat.le_refl _ | (simp <;> omega)) _)
 go_enter Tryz.func233, Tryz.ntmps233
 have M0lt := M0.1
 have N0lt := N0.1
 have R0lt := R0.lt
 go_wp2_with fail
 go_region_held3 (fun W => (W.cell? ⟨w.heap.size, 0, none⟩ = some (.int .i64 a) ∧ W.cell? ⟨w.heap.size, 1, none⟩ = some (.int .i64 b) ∧ W.cell? ⟨w.heap.size, 2, none⟩ = some (.int .i64 c) ∧ W.cell? ⟨w.heap.size, 3, none⟩ = some (.int .i64 d) ∧ W.cell? ⟨w.heap.size, 4, none⟩ = some (.int .i64 x) ∧ W.cell? ⟨w.heap.size, 5, none⟩ = some (.int .i64 y)) ∧ (W.cell? ⟨w.heap.size + 1, 0, none⟩ = some (.int .i64 p) ∧ W.cell? ⟨w.heap.size + 1, 1, none⟩ = some (.int .i64 q))) ((refine ⟨Km.cells ?_, Kg.cells ?_⟩ <;> repeat (first | with_reducible assumption | with_reducible refine KV.drew ?_ | with_reducible refine KV.alloc ?_ _ | with_reducible refine KV.call ?_ (by with_reducible assumption) | with_reducible refine Kg.drew ?_ | with_reducible refine Kg.alloc ?_ _ | with_reducible refine Kg.call ?_ (by with_reducible assumption) | with_reducible refine Km.drew ?_ | with_reducible refine Km.alloc ?_ _ | with_reducible refine Km.call ?_ (by with_reducible assumption) | ((with_reducible refine KV.put ?_ ?_); (first | omega | (dsimp only; omega))) | ((with_reducible refine Kg.put ?_ ?_); (first | omega | (dsimp only; omega))) | ((with_reducible refine Km.put ?_ ?_); (first | omega | (dsimp only; omega))) | ((with_reducible refine KV.far5 ?_ ?_); (first | omega | (dsimp only; omega))) | ((with_reducible refine Kg.far ?_ ?_); (first | omega | (dsimp only; omega))) | ((with_reducible refine Km.far ?_ ?_); (first | omega | (dsimp only; omega))))))
  (first
   | (go_at_call 107; ((with_reducible refine (apply_any _ _ _ _ _ _ _ hl hp).mono ?_); rintro e w1 ⟨rfl, hb1⟩; have M1 : Km (w.heap.size) a b c d x y w1 := (by with_reducible exact pkPtB3); have N1 : Kg (w.heap.size + 1) p q w1 := (by with_reducible exact pkPtB3); have R1 : KV (w.heap.size + 1 + 1) 0 0 w1 := (by with_reducible exact pkPtB3); have M1l := M1.1; have N1l := N1.1; have R1c0 := R1.c0; have R1f0 := R1.f0; have R1c1 := R1.c1; have R1f1 := R1.f1; have R1l := R1.lt; have B1 : Below w.heap.size w w1 := (by repeat (first | with_reducible assumption | with_reducible refine Below.drew ?_ | with_reducible refine Below.alloc ?_ (by first | omega | (have := B0.size; simp <;> omega)) _ | with_reducible refine bstep ?_ (by with_reducible assumption)))))
   | (go_at_call 154; ((with_reducible refine (plus5_any _ _ _ _ _ S1 S2).mono ?_); rintro e w2 ⟨rfl, hb2⟩; have M2 : Km (w.heap.size) a b c d x y w2 := (by with_reducible exact pkPtB3); have N2 : Kg (w.heap.size + 1) p q w2 := (by with_reducible exact pkPtB3); have R2 : KV (w.heap.size + 1 + 1) 0 0 w2 := (by with_reducible exact pkPtB3); have M2l := M2.1; have N2l := N2.1; have R2c0 := R2.c0; have R2f0 := R2.f0; have R2c1 := R2.c1; have R2f1 := R2.f1; have R2l := R2.lt; have B2 : Below w.heap.size w w2 := (by repeat (first | with_reducible assumption | with_reducible refine Below.drew ?_ | with_reducible refine Below.alloc ?_ (by first | omega | (have := B0.size; simp <;> omega)) _ | with_reducible refine bstep ?_ (by with_reducible assumption))))))
 all_goals
  go_wp2
  refine bodyPost_ret (v := .agg #[.int .i64 (a * p + b * q + x), .int .i64 (c * p + d * q + y)]) (by simp [results, Tryz.results233, go_sem, *]) rfl ⟨rfl, ?_⟩
  repeat (first | with_reducible assumption | with_reducible exact Below.refl _ _ | with_reducible refine Below.setCell ?_ (by first | omega | (simp <;> omega)) _ | with_reducible refine Below.alloc ?_ (by first | omega | (simp <;> omega)) _ | with_reducible refine bstep ?_ (by with_reducible assumption) | with_reducible refine Below.drew ?_)
theorem Bx.cells69 {g : Nat} {u0 u1 u2 u3 u4 u5 : Value} {W : World} (h : Bx g [u0, u1, u2, u3, u4, u5] W) : W.cell? ⟨g, 0, none⟩ = some u0 ∧ W.cell? ⟨g, 1, none⟩ = some u1 ∧ W.cell? ⟨g, 2, none⟩ = some u2 ∧ W.cell? ⟨g, 3, none⟩ = some u3 ∧ W.cell? ⟨g, 4, none⟩ = some u4 ∧ W.cell? ⟨g, 5, none⟩ = some u5 := ⟨h.c0, h.c1, h.c2, h.c3, h.c4, h.c5⟩
/- the colour that a copied cell gets -/
def cpy (A B C : Int) (F : Nat → Int) (a b c d x y : Int) (v : V29) : Int := F (numP A B C (a * v.1 + b * v.2 + x) (c * v.1 + d * v.2 + y))
def intsV (zs : List Int) : List Value := zs.map fun z => .int .i64 z
theorem intsV_snoc (zs : List Int) (z : Int) : intsV (zs ++ [z]) = intsV zs ++ [.int .i64 z] := by simp [intsV]
theorem intsV_int (zs : List Int) : ∀ u ∈ intsV zs, ∃ z, u = .int .i64 z := by
 intro u hu
 obtain ⟨z, _, rfl⟩ := List.mem_map.1 hu
 exact ⟨z, rfl⟩
theorem intAt_intsV {zs : List Int} {t : Nat} (ht : t < zs.length) : intAt (intsV zs) t = zs[t] := by simp [intAt, intsV, ht]
/- the copied list -/
def cpyL (A B C : Int) (F : Nat → Int) (a b c d x y : Int) (L : List V29) : List Int := L.map (cpy A B C F a b c d x y)
def cpyG (A B C : Int) (F : Nat → Int) (a b c d x y : Int) (p q : Nat) : Nat → Int := intAt (intsV (cpyL A B C F a b c d x y (cellP q p)))
theorem new_one9 {W : World} {g : Nat} (T : TypeId) (a : Value) (hg : g = W.heap.size) : ∀ (j : Nat) (u : Value), [a][j]? = some u → (W.alloc (.cells #[a] T)).cell? ((⟨g, 0, none⟩ : Addr).add j) = some u := by
 subst hg
 intro j u hj
 match j, hj with
 | 0, hj => simp at hj; subst hj; simp [Addr.add, go_sem]
 | j + 1, hj => simp at hj
theorem bdM {a t : Int} (ha : -1000 ≤ a ∧ a ≤ 1000) (ht : 0 ≤ t ∧ t ≤ 64) : -64000 ≤ a * t ∧ a * t ≤ 64000 := by
 have h1 := Int.mul_le_mul_of_nonneg_right ha.2 ht.1
 have h2 := Int.mul_le_mul_of_nonneg_right ha.1 ht.1
 omega
theorem ownsRow_callB {W w1 : World} {base : Nat} {e : TypeId} {size : Nat} {v : Value} {n : Nat} {xs : List Value} (h : W.ownsRow base e size v n xs) (hb : Below W.heap.size W w1) : w1.ownsRow base e size v n xs := by
 obtain ⟨h1, h2⟩ := h
 refine ⟨h1, h2.imp id ?_⟩
 rintro ⟨g, cap, cur, rfl, hg, hb9, r⟩
 exact ⟨g, cap, cur, rfl, hg, (hb.block g (Array.getElem?_eq_some_iff.1 hb9).1).trans hb9, r⟩
set_option maxRecDepth 100000 in
set_option maxHeartbeats 16000000 in
theorem copied_any {lo hi p q n p' q' : Nat} {B B' : Int} {v : Value} {F : Nat → Int} {w : World} (hl : latI (p : Int) B (q : Int)) (hn : n = p * q) (hl' : latI (p' : Int) B' (q' : Int)) (hv : SRow lo hi 1 v n F w) (a b c d x y : Int)
  (hm : limB a b c d = true) (hx : -500000 ≤ x ∧ x ≤ 500000) (hy : -500000 ≤ y ∧ y ≤ 500000) :
  Calls Tryz.prog 198 #[v, .agg #[.int .i64 ((p : Int)), .int .i64 B, .int .i64 ((q : Int))], .agg #[.int .i64 a, .int .i64 b, .int .i64 c, .int .i64 d, .int .i64 x, .int .i64 y], .agg #[.int .i64 ((p' : Int)), .int .i64 B', .int .i64 ((q' : Int))]] w fun e w' => ∃ v' : Value, e = .returned v' ∧ SRow w.heap.size w'.heap.size 1 v' (p' * q') (cpyG (p : Int) B (q : Int) F a b c d x y p' q') w' ∧ Below w.heap.size w w' := by
 obtain ⟨i0, hinf, hz0, hz1, hz2⟩ := info_parts infoI64
 have hpi : PatI 0 p B q n (fun _ => 0) := ⟨rfl, hl, hn, fun t _ => by omega⟩
 have HPI := Lib.hid hpi
 obtain ⟨hp1, hp2, hq1, hq2, hn64, hn1⟩ := hpi.bd
 have hpi' : PatI 0 p' B' q' (p' * q') (fun _ => 0) := ⟨rfl, hl', rfl, fun t _ => by omega⟩
 obtain ⟨hp1', hp2', hq1', hq2', hn64', hn1'⟩ := hpi'.bd
 have HL := Lib.hid hl
 have HM := Lib.hid (And.intro hm (And.intro hx hy))
 have HP := Lib.hid hn64'
 have hix : -1000000 ≤ (p' : Int) * (q' : Int) ∧ (p' : Int) * (q' : Int) ≤ 1000000 := by rw [← Int.natCast_mul]; omega
 have HC := Lib.hid (show (p' : Int) * (q' : Int) = ((p' * q' : Nat) : Int) from (Int.natCast_mul p' q').symm)
 have HIX := Lib.hid hix
 obtain ⟨g, cap, rfl, hg, _, r⟩ := hv.irow hn1
 have hgs := hv.1
 have hgw : g < w.heap.size := by omega
 have L0 : Bx (w.heap.size) [.slice (some ⟨g, 0, none⟩) n cap] ((((w.alloc (.cells #[.slice (some ⟨g, 0, none⟩) n cap] 34)).alloc (.cells #[.int .i64 (p : Int), .int .i64 B, .int .i64 (q : Int)] 28)).alloc (.cells #[.int .i64 a, .int .i64 b, .int .i64 c, .int .i64 d, .int .i64 x, .int .i64 y] 145)).alloc (.cells #[.int .i64 (p' : Int), .int .i64 B', .int .i64 (q' : Int)] 28)) := (((Bx.at _ rfl).alloc _).alloc _).alloc _
 have R0 : Bx (w.heap.size + 1) [.int .i64 (p : Int), .int .i64 B, .int .i64 (q : Int)] ((((w.alloc (.cells #[.slice (some ⟨g, 0, none⟩) n cap] 34)).alloc (.cells #[.int .i64 (p : Int), .int .i64 B, .int .i64 (q : Int)] 28)).alloc (.cells #[.int .i64 a, .int .i64 b, .int .i64 c, .int .i64 d, .int .i64 x, .int .i64 y] 145)).alloc (.cells #[.int .i64 (p' : Int), .int .i64 B', .int .i64 (q' : Int)] 28)) := ((Bx.at _ (by simp)).alloc _).alloc _
 have M0 : Bx (w.heap.size + 1 + 1) [.int .i64 a, .int .i64 b, .int .i64 c, .int .i64 d, .int .i64 x, .int .i64 y] ((((w.alloc (.cells #[.slice (some ⟨g, 0, none⟩) n cap] 34)).alloc (.cells #[.int .i64 (p : Int), .int .i64 B, .int .i64 (q : Int)] 28)).alloc (.cells #[.int .i64 a, .int .i64 b, .int .i64 c, .int .i64 d, .int .i64 x, .int .i64 y] 145)).alloc (.cells #[.int .i64 (p' : Int), .int .i64 B', .int .i64 (q' : Int)] 28)) := (Bx.at _ (by simp)).alloc _
 have T0 : Bx (w.heap.size + 1 + 1 + 1) [.int .i64 (p' : Int), .int .i64 B', .int .i64 (q' : Int)] ((((w.alloc (.cells #[.slice (some ⟨g, 0, none⟩) n cap] 34)).alloc (.cells #[.int .i64 (p : Int), .int .i64 B, .int .i64 (q : Int)] 28)).alloc (.cells #[.int .i64 a, .int .i64 b, .int .i64 c, .int .i64 d, .int .i64 x, .int .i64 y] 145)).alloc (.cells #[.int .i64 (p' : Int), .int .i64 B', .int .i64 (q' : Int)] 28)) := Bx.at _ (by simp)
 have B0 : Below w.heap.size w ((((w.alloc (.cells #[.slice (some ⟨g, 0, none⟩) n cap] 34)).alloc (.cells #[.int .i64 (p : Int), .int .i64 B, .int .i64 (q : Int)] 28)).alloc (.cells #[.int .i64 a, .int .i64 b, .int .i64 c, .int .i64 d, .int .i64 x, .int .i64 y] 145)).alloc (.cells #[.int .i64 (p' : Int), .int .i64 B', .int .i64 (q' : Int)] 28)) := by repeat (first | with_reducible exact Below.refl _ _ | with_reducible assumption | with_reducible refine Below.setCell ?_ (by first | omega | (dsimp only; omega) | (simp <;> omega)) _ | with_reducible refine Below.alloc ?_ (by first | omega | (simp <;> omega)) _ | with_reducible refine bstep ?_ (by with_reducible assumption) | with_reducible refine Below.drew ?_ | with_reducible refine below_drewN ?_ _)
 clear hv hpi hpi' hl hl' hm hx hy hn hix hn64 hn1 hn64' hn1'
 refine (callsIn_wide (n := 3)).1 ?_
 refine callsIn_of_wp_marks Tryz.func198 rfl trivial ?_ rfl
 simp only [Tryz.ntmps198, List.size_toArray, List.length_cons, List.length_nil, Nat.reduceAdd, Nat.reduceSub, Array.replicate_succ, Array.replicate_zero, List.push_toArray, List.append_toArray, List.nil_append, List.cons_append]
 gi_wp2_with (first
  | (refine ⟨trivial, ?_⟩; gi_at_call 134; refine (callsIn_wide.2 (indexP_any _ _ _ _ HIX.out)).mono ?_; rintro e w2 ⟨rfl, hb2⟩; have L2 := L0.call hb2; have R2 := R0.call hb2; have M2 := M0.call hb2; have T2 := T0.call hb2; have B2 := bstep B0 hb2; have hm2l := M2.lt)
  | (gi_at_make; refine wpListIn_make_own _ rfl _ _ 34 rfl w2.heap.size 2 i0 (.int .i64 0) 1 Tryz.underlying34 hinf hz0 hz1 .i64 .i64 _ (p' * q') rfl rfl HC.out (by have := HP.out; rw [hz2]; omega) (by have := HP.out; unfold maxLen; omega) (Nat.le_refl _) ?_; intro w3 hown hgrow; have hb3 : Below w2.heap.size w2 w3 := Below.grown (Below.refl _ _) hgrow (Nat.le_refl _) (by simp); have L3 := L2.call hb3; have R3 := R2.call hb3; have M3 := M2.call hb3; have T3 := T2.call hb3; have B3 := bstep B2 hb3; have t3c0 := T3.c0; have t3c1 := T3.c1; have t3c2 := T3.c2; have t3l := T3.lt)
  | (refine ⟨trivial, ?_⟩; gi_at_call 199; refine (cellsS_in Fence.wide _ trivial rfl _ _ _ _).mono ?_; rintro e w4 ⟨rfl, rfl⟩))
 clear hb2 hb3 L0 R0 M0 T0 B0 L2 R2 M2 T2 t3c0 t3c1 t3c2
 have z3 : w2.heap.size ≤ w3.heap.size := hgrow.size
 have z2 := B2.size
 clear hgrow
 obtain ⟨W0, hW0⟩ : ∃ W0, (w3.alloc (.cells #[.slice (some ⟨w2.heap.size, 0, none⟩) 0 (p' * q')] 34)).alloc (.cells #[.int .i64 (p' : Int), .int .i64 B', .int .i64 (q' : Int)] 28) = W0 := ⟨_, rfl⟩
 have hsz : W0.heap.size = w3.heap.size + 2 := by rw [← hW0]; simp
 have bV : Boxed W0 w3.heap.size 34 (.slice (some ⟨w2.heap.size, 0, none⟩) 0 (p' * q')) := by rw [← hW0]; exact (Boxed.new w3 _ _).alloc _
 have bL : W0.heap[w3.heap.size + 1]? = some (.cells #[.int .i64 (p' : Int), .int .i64 B', .int .i64 (q' : Int)] 28 (0, 0)) := by rw [← hW0]; simpa using World.alloc_heap_new (w3.alloc (.cells #[.slice (some ⟨w2.heap.size, 0, none⟩) 0 (p' * q')] 34)) (.cells #[.int .i64 (p' : Int), .int .i64 B', .int .i64 (q' : Int)] 28)
 have hown0 : W0.ownsRow w2.heap.size 2 1 (.slice (some ⟨w2.heap.size, 0, none⟩) 0 (p' * q')) 0 [] := by rw [← hW0]; exact (hown.alloc _).alloc _
 have LW : Bx (w.heap.size) [.slice (some ⟨g, 0, none⟩) n cap] W0 := by rw [← hW0]; exact (L3.alloc _).alloc _
 have RW : Bx (w.heap.size + 1) [.int .i64 (p : Int), .int .i64 B, .int .i64 (q : Int)] W0 := by rw [← hW0]; exact (R3.alloc _).alloc _
 have MW : Bx (w.heap.size + 1 + 1) [.int .i64 a, .int .i64 b, .int .i64 c, .int .i64 d, .int .i64 x, .int .i64 y] W0 := by rw [← hW0]; exact (M3.alloc _).alloc _
 have hMl := M3.lt
 have hTl := T3.lt
 have B0 : Below w.heap.size w W0 := by rw [← hW0]; exact (B3.alloc B3.size _).alloc (by have := B3.size; simp; omega) _
 have cA : W0.cell? ⟨w3.heap.size + 1, 0, none⟩ = some (.int .i64 (p' : Int)) := by simp [World.cell?, bL]
 have cC : W0.cell? ⟨w3.heap.size + 1, 2, none⟩ = some (.int .i64 (q' : Int)) := by simp [World.cell?, bL]
 have HS : Hid (∀ bb ∈ [w.heap.size, w.heap.size + 1, w.heap.size + 1 + 1], ∃ ob : Obj, W0.heap[bb]? = some ob ∧ ob.isCells = true) := Lib.hid (by
  intro bb hbb
  simp only [List.mem_cons, List.not_mem_nil, or_false] at hbb
  rcases hbb with rfl | rfl | rfl
  ·exact cells_of9 LW.c0
  ·exact cells_of9 RW.c0
  ·exact cells_of9 MW.c0)
 have HLW := Lib.hid LW
 have HRW := Lib.hid RW
 have HMW := Lib.hid MW
 rw [hW0]
 clear hW0 hown B3 L3 R3 M3 T3 B2 LW RW MW
 have hz := B0.size
 refine wpIn_rangeFunc_ownH rfl (by omega) (gf := 244) (lb := #[.pointer (some ⟨w3.heap.size + 1, 0, none⟩)]) rfl trivial (enters_of Tryz.func244 (by kernel_rfl) rfl)
  (cellsS_stops Fence.wide (3 - 1) trivial rfl (by omega) (w3.heap.size + 1) p' q' hp2' hq2' W0 (by omega) cA cC) (fun h k => Eq.trans k h) (keepC_b (by omega)) (Below.refl _ _) (fun _ => rfl)
  (fun pre W => (((∃ v, Boxed W w3.heap.size 34 v ∧ W.ownsRow w2.heap.size 2 1 v (cpyL (p : Int) B (q : Int) F a b c d x y (pre.map Subtype.val)).length (intsV (cpyL (p : Int) B (q : Int) F a b c d x y (pre.map Subtype.val))) ∧ True) ∧ W.heap[w3.heap.size + 1]? = some (.cells #[.int .i64 (p' : Int), .int .i64 B', .int .i64 (q' : Int)] 28 (0, 0))) ∧ (∀ bb ∈ [w.heap.size, w.heap.size + 1, w.heap.size + 1 + 1], W.heap[bb]? = W0.heap[bb]?)) ∧ Below w.heap.size w W)
  (fun _ _ _ => False)
  (OwnFrom.and (OwnFrom.and (OwnFrom.and (Own.from (holdsRow_own w2.heap.size w3.heap.size 34 2 1 (fun pre : List (CV p' q') => (cpyL (p : Int) B (q : Int) F a b c d x y (pre.map Subtype.val)).length) (fun pre => intsV (cpyL (p : Int) B (q : Int) F a b c d x y (pre.map Subtype.val))) (fun _ _ => True)) _) (Own.from (at_ownC _ _ rfl) _)) (Own.from (same_own9 _ W0 HS.out) _)) (ownFrom_below (Nat.le_refl _) hz))
  (fun _ _ _ _ _ hs _ _ => hs)
  ⟨⟨⟨⟨_, bV, by simpa [intsV, cpyL] using hown0, trivial⟩, bL⟩, fun _ _ => rfl⟩, B0⟩
  (fun xx a' W => ∃ gx, w3.heap.size + 1 < gx ∧ W.heap[gx]? = some (.cells #[.int .i64 xx.1.1, .int .i64 xx.1.2] 63 (0, 0)) ∧ a' = { tmps := #[.slice (some ⟨g, 0, none⟩) n cap, .agg #[.int .i64 ((p : Int)), .int .i64 B, .int .i64 ((q : Int))], .agg #[.int .i64 a, .int .i64 b, .int .i64 c, .int .i64 d, .int .i64 x, .int .i64 y], .agg #[.int .i64 ((p' : Int)), .int .i64 B', .int .i64 ((q' : Int))], .pointer (some ⟨w.heap.size, 0, none⟩), .pointer (some ⟨w.heap.size + 1, 0, none⟩), .pointer (some ⟨w.heap.size + 1 + 1, 0, none⟩), .pointer (some ⟨w.heap.size + 1 + 1 + 1, 0, none⟩), .slice none 0 0, .pointer (some ⟨w3.heap.size, 0, none⟩), .pointer (some ⟨gx, 0, none⟩), .agg #[.int .i64 ((p' : Int)), .int .i64 B', .int .i64 ((q' : Int))], .int .i64 ((p' : Int) * (q' : Int)), .slice (some ⟨w2.heap.size, 0, none⟩) 0 (p' * q'), .agg #[.int .i64 ((p' : Int)), .int .i64 B', .int .i64 ((q' : Int))], .func (.func 244) #[] #[.pointer (some ⟨w3.heap.size + 1, 0, none⟩)], .agg #[.int .i64 xx.1.1, .int .i64 xx.1.2], undef, undef, undef, undef, undef, undef, undef, undef, undef, undef, undef, undef, undef, undef], defers := [] })
  (fun x a' _ X Y row hs hg hr => by obtain ⟨gx, h1, h2, h3⟩ := hs; exact ⟨gx, h1, at_ownC gx _ rfl () X Y row h2 hg (fun r e => (hr r e).2), h3⟩)
  ?assign ?body ?done ?stop
 case assign =>
  rintro l pre xx W K ⟨⟨⟨⟨v9, hv, hrow, _⟩, hLt⟩, hS⟩, hB1⟩ hK
  gi_wp2
  have hlt := (Array.getElem?_eq_some_iff.1 hLt).1
  have hKB : KeepC (w3.heap.size + 1) W (W.alloc (.cells #[.int .i64 xx.1.1, .int .i64 xx.1.2] 63)) := Below.heap_alloc W _ _ hlt
  refine hK _ _ ((KeepsOthers.alloc _ _).from _) hKB ⟨⟨⟨⟨v9, hv.alloc _, hrow.alloc _, trivial⟩, hKB.trans hLt⟩, fun bb hbb => ?_⟩, hB1.alloc hB1.size _⟩ ⟨W.heap.size, hlt, World.alloc_heap_new W _, rfl⟩
  obtain ⟨ob, h1, _⟩ := HS.out bb hbb
  have h2 := hS bb hbb
  rw [h1] at h2
  exact (Below.heap_alloc W _ _ (Array.getElem?_eq_some_iff.1 h2).1).trans (h2.trans h1.symm)
 case body =>
  rintro l pre xx a' W hl ⟨r9, hr⟩ ⟨⟨⟨⟨v9, hv, hrow, _⟩, hLt⟩, hS⟩, hB1⟩ ⟨gx, hgx, bX, rfl⟩ hlt
  obtain ⟨⟨x0, x1⟩, hxx⟩ := xx
  dsimp only at bX
  have hx2 : (0 ≤ x0 ∧ x0 < (p' : Int)) ∧ (0 ≤ x1 ∧ x1 < (q' : Int)) := hxx
  have lL := (Array.getElem?_eq_some_iff.1 hLt).1
  have lX := (Array.getElem?_eq_some_iff.1 bX).1
  have L0 : Bx (w.heap.size) [.slice (some ⟨g, 0, none⟩) n cap] W.drew := (HLW.out.same (hS _ (by simp))).drew
  have R0 : Bx (w.heap.size + 1) [.int .i64 (p : Int), .int .i64 B, .int .i64 (q : Int)] W.drew := (HRW.out.same (hS _ (by simp))).drew
  have M0 : Bx (w.heap.size + 1 + 1) [.int .i64 a, .int .i64 b, .int .i64 c, .int .i64 d, .int .i64 x, .int .i64 y] W.drew := (HMW.out.same (hS _ (by simp))).drew
  have X0 : Bx gx [.int .i64 x0, .int .i64 x1] W.drew := (Bx.of_heap bX).drew
  have V0 : Bx w3.heap.size [v9] W.drew := (Bx.of_heap (us := [v9]) hv).drew
  have D0 : Below W.heap.size W W.drew := (Below.refl _ _).drew
  have hmm := limB_bd HM.out.1
  have m1 := bdM hmm.1.1 (t := x0) (by omega)
  have m2 := bdM hmm.1.2 (t := x1) (by omega)
  have m3 := bdM hmm.2.1 (t := x0) (by omega)
  have m4 := bdM hmm.2.2 (t := x1) (by omega)
  have hmx := HM.out.2
  have MID := Lib.hid (show midI (a * x0 + b * x1 + x) ∧ midI (c * x0 + d * x1 + y) from ⟨by unfold midI; omega, by unfold midI; omega⟩)
  have HAP := Lib.hid (fun X => applyMo9_any a b c d x y x0 x1 X HM.out.1 ⟨by unfold midI; omega, by unfold midI; omega⟩ (by simp [vecB]; omega))
  obtain ⟨X1, hX1⟩ : ∃ z, z = a * x0 + b * x1 + x := ⟨_, rfl⟩
  obtain ⟨X2, hX2⟩ : ∃ z, z = c * x0 + d * x1 + y := ⟨_, rfl⟩
  rw [← hX1, ← hX2] at HAP MID
  obtain ⟨Y1, Y2, kk, eX, eY, ek, bY1, bY2, hk, hkn, hm9⟩ := num_parts HPI.out X1 X2
  have HRD := Lib.hid (fun X => (show Calls Tryz.prog 172 #[.agg #[.int .i64 ((p : Int)), .int .i64 B, .int .i64 ((q : Int))], .agg #[.int .i64 X1, .int .i64 X2]] X (fun e w' => e = .returned (.agg #[.int .i64 Y1, .int .i64 Y2]) ∧ Below X.heap.size X w') from by have h9 := reduce_any (p : Int) B (q : Int) X1 X2 X HL.out MID.out.1 MID.out.2; unfold redV at h9; rw [eX, eY] at h9; exact h9))
  have HNB := Lib.hid (fun X => (show Calls Tryz.prog 243 #[.agg #[.int .i64 ((p : Int)), .int .i64 B, .int .i64 ((q : Int))], .agg #[.int .i64 Y1, .int .i64 Y2]] X (fun e w' => e = .returned (.int .i64 (kk : Int)) ∧ Below X.heap.size X w') from by rw [hk]; exact numberP_any (p : Int) B (q : Int) Y1 Y2 X hm9 (by omega)))
  obtain ⟨z9, hz9⟩ : ∃ z, z = F kk := ⟨_, rfl⟩
  have IW := r.call hB1
  have c0 : W.drew.cell? ⟨g, kk, none⟩ = some (.int .i64 z9) := by rw [hz9]; exact IW.at kk (by omega)
  have lc0 : g < W.drew.heap.size := IW.1
  have hkk : (kk : Int) < (n : Int) := by omega
  have hkk0 : (0 : Int) ≤ (kk : Int) := by omega
  have HNX := Lib.hid (show (cpyL (p : Int) B (q : Int) F a b c d x y ((pre ++ [(⟨(x0, x1), hxx⟩ : CV p' q')]).map Subtype.val)) = (cpyL (p : Int) B (q : Int) F a b c d x y (pre.map Subtype.val)) ++ [z9] from by
   rw [List.map_append, cpyL, List.map_append]
   simp only [List.map_cons, List.map_nil, cpy]
   rw [← hX1, ← hX2, ek, ← hz9]
   rfl)
  have HLN := Lib.hid (show (cpyL (p : Int) B (q : Int) F a b c d x y (pre.map Subtype.val)).length ≤ 64 from by rw [cpyL, List.length_map, List.length_map]; have := HP.out; omega)
  have HSS := Lib.hid hS
  clear hr hlt hl hmm m1 m2 m3 m4 hmx hx2 hS hX1 hX2 eX eY ek bY1 bY2 hk hkn hm9 hz9 IW
  obtain ⟨CLN, hCLN⟩ : ∃ z, z = (cpyL (p : Int) B (q : Int) F a b c d x y (pre.map Subtype.val)) := ⟨_, rfl⟩
  rw [← hCLN] at HNX HLN hrow
  clear hCLN
  gi_wp2_with fail
  refine region_T_in (ro := some l) 12 (fun W9 => W9.cell? ⟨w.heap.size, 0, none⟩ = some (.slice (some ⟨g, 0, none⟩) n cap) ∧ (W9.cell? ⟨w.heap.size + 1, 0, none⟩ = some (.int .i64 (p : Int)) ∧ W9.cell? ⟨w.heap.size + 1, 1, none⟩ = some (.int .i64 B) ∧ W9.cell? ⟨w.heap.size + 1, 2, none⟩ = some (.int .i64 (q : Int))) ∧ (W9.cell? ⟨w.heap.size + 1 + 1, 0, none⟩ = some (.int .i64 a) ∧ W9.cell? ⟨w.heap.size + 1 + 1, 1, none⟩ = some (.int .i64 b) ∧ W9.cell? ⟨w.heap.size + 1 + 1, 2, none⟩ = some (.int .i64 c) ∧ W9.cell? ⟨w.heap.size + 1 + 1, 3, none⟩ = some (.int .i64 d) ∧ W9.cell? ⟨w.heap.size + 1 + 1, 4, none⟩ = some (.int .i64 x) ∧ W9.cell? ⟨w.heap.size + 1 + 1, 5, none⟩ = some (.int .i64 y)) ∧ (W9.cell? ⟨gx, 0, none⟩ = some (.int .i64 x0) ∧ W9.cell? ⟨gx, 1, none⟩ = some (.int .i64 x1)) ∧ W9.cell? ⟨w3.heap.size, 0, none⟩ = some v9 ∧ W9.cell? ⟨g, kk, none⟩ = some (.int .i64 z9)) (by kernel_rfl) (by kernel_rfl) (fun hL9 => by obtain ⟨_, _, hL9⟩ := hL9; exact hL9) ⟨L0.c0, R0.cells3, M0.cells69, X0.cells2, V0.c0, c0⟩ (fun hHeld inv => ?_)
  refine wpAnyT_take (i := 0) (v := ?_) (by kernel_rfl) (by kernel_rfl) (by decide) (by kernel_rfl) inv rfl (by decide) (by kernel_rfl) (by kernel_rfl) (fun _ _ _ h => h) (Or.inl ⟨by rfl, ?_⟩) (by assumption) (fun inv => ?_)
  rotate_left
  ·(intro w hSw; (try dsimp only at hSw); go_simp; try with_reducible rfl)
  simp only [Act.put, List.setIfInBounds_toArray, List.set_cons_zero, List.set_cons_succ]
  refine wpAnyT_take (i := 1) (v := ?_) (by kernel_rfl) (by kernel_rfl) (by decide) (by kernel_rfl) inv rfl (by decide) (by kernel_rfl) (by kernel_rfl) (fun _ _ _ h => h) (Or.inl ⟨by rfl, ?_⟩) (by assumption) (fun inv => ?_)
  rotate_left
  ·(intro w hSw; (try dsimp only at hSw); go_simp; try with_reducible rfl)
  simp only [Act.put, List.setIfInBounds_toArray, List.set_cons_zero, List.set_cons_succ]
  refine wpAnyT_take (i := 2) (v := ?_) (by kernel_rfl) (by kernel_rfl) (by decide) (by kernel_rfl) inv rfl (by decide) (by kernel_rfl) (by kernel_rfl) (fun _ _ _ h => h) (Or.inl ⟨by rfl, ?_⟩) (by assumption) (fun inv => ?_)
  rotate_left
  ·(intro w hSw; (try dsimp only at hSw); go_simp; try with_reducible rfl)
  simp only [Act.put, List.setIfInBounds_toArray, List.set_cons_zero, List.set_cons_succ]
  refine wpAnyT_take (i := 3) (v := ?_) (by kernel_rfl) (by kernel_rfl) (by decide) (by kernel_rfl) inv rfl (by decide) (by kernel_rfl) (by kernel_rfl) (fun _ _ _ h => h) (Or.inl ⟨by rfl, ?_⟩) (by assumption) (fun inv => ?_)
  rotate_left
  ·(intro w hSw; (try dsimp only at hSw); go_simp; try with_reducible rfl)
  simp only [Act.put, List.setIfInBounds_toArray, List.set_cons_zero, List.set_cons_succ]
  refine wpAnyT_take (i := 4) (v := ?_) (by kernel_rfl) (by kernel_rfl) (by decide) (by kernel_rfl) inv rfl (by decide) (by kernel_rfl) (by kernel_rfl) (fun _ _ _ h => h) (Or.inl ⟨by rfl, ?_⟩) (by assumption) (fun inv => ?_)
  rotate_left
  ·(intro w hSw; (try dsimp only at hSw); go_simp; try with_reducible rfl)
  simp only [Act.put, List.setIfInBounds_toArray, List.set_cons_zero, List.set_cons_succ]
  refine wpAnyT_take (i := 5) (v := ?_) (by kernel_rfl) (by kernel_rfl) (by decide) (by kernel_rfl) inv rfl (by decide) (by kernel_rfl) (by kernel_rfl) (fun _ _ _ h => h) (Or.inl ⟨by rfl, ?_⟩) (by assumption) (fun inv => ?_)
  rotate_left
  ·(intro w hSw; (try dsimp only at hSw); go_simp; try with_reducible rfl)
  simp only [Act.put, List.setIfInBounds_toArray, List.set_cons_zero, List.set_cons_succ]
  refine wpAnyT_one (i := 6) (by kernel_rfl) rfl (fun K hK => ?_)
  go_simp
  (go_at_call 233; with_reducible refine (HAP.out _).mono ?_; rintro e u1 ⟨rfl, hb1⟩; have D1 : Below W.heap.size W u1 := bstep D0 hb1; have L1 := L0.call hb1; have R1 := R0.call hb1; have M1 := M0.call hb1; have X1 := X0.call hb1; have V1 := V0.call hb1; have c1 := (hb1.cell (p := ⟨g, kk, none⟩) lc0).trans c0; have lc1 := blt hb1 _ lc0)
  refine hK.out _ _ (fun _ => ⟨L1.c0, R1.cells3, M1.cells69, X1.cells2, V1.c0, c1⟩) ?_
  clear hK K
  try simp only [Act.put, List.setIfInBounds_toArray, List.set_cons_zero, List.set_cons_succ]
  refine wpAnyT_one (i := 7) (by kernel_rfl) rfl (fun K hK => ?_)
  go_simp
  (go_at_call 172; with_reducible refine (HRD.out _).mono ?_; rintro e u2 ⟨rfl, hb2⟩; have D2 : Below W.heap.size W u2 := bstep D1 hb2; have L2 := L1.call hb2; have R2 := R1.call hb2; have M2 := M1.call hb2; have X2 := X1.call hb2; have V2 := V1.call hb2; have c2 := (hb2.cell (p := ⟨g, kk, none⟩) lc1).trans c1; have lc2 := blt hb2 _ lc1)
  refine hK.out _ _ (fun _ => ⟨L2.c0, R2.cells3, M2.cells69, X2.cells2, V2.c0, c2⟩) ?_
  clear hK K
  try simp only [Act.put, List.setIfInBounds_toArray, List.set_cons_zero, List.set_cons_succ]
  refine wpAnyT_one (i := 8) (by kernel_rfl) rfl (fun K hK => ?_)
  go_simp
  (go_at_call 243; with_reducible refine (HNB.out _).mono ?_; rintro e u3 ⟨rfl, hb3⟩; have D3 : Below W.heap.size W u3 := bstep D2 hb3; have L3 := L2.call hb3; have R3 := R2.call hb3; have M3 := M2.call hb3; have X3 := X2.call hb3; have V3 := V2.call hb3; have c3 := (hb3.cell (p := ⟨g, kk, none⟩) lc2).trans c2; have lc3 := blt hb3 _ lc2)
  refine hK.out _ _ (fun _ => ⟨L3.c0, R3.cells3, M3.cells69, X3.cells2, V3.c0, c3⟩) ?_
  clear hK K
  try simp only [Act.put, List.setIfInBounds_toArray, List.set_cons_zero, List.set_cons_succ]
  refine wpAnyT_one (i := 9) (by kernel_rfl) rfl (fun K hK => ?_)
  go_simp
  refine hK.out _ _ (fun _ => ⟨L3.c0, R3.cells3, M3.cells69, X3.cells2, V3.c0, c3⟩) ?_
  clear hK K
  try simp only [Act.put, List.setIfInBounds_toArray, List.set_cons_zero, List.set_cons_succ]
  refine wpAnyT_one (i := 10) (by kernel_rfl) rfl (fun K hK => ?_)
  go_simp
  refine hK.out _ _ (fun _ => ⟨L3.c0, R3.cells3, M3.cells69, X3.cells2, V3.c0, c3⟩) ?_
  clear hK K
  try simp only [Act.put, List.setIfInBounds_toArray, List.set_cons_zero, List.set_cons_succ]
  refine wpAnyT_one (i := 11) (by kernel_rfl) rfl (fun K hK => ?_)
  go_simp
  refine hK.out _ _ (fun _ => ⟨(L3.alloc _).c0, (R3.alloc _).cells3, (M3.alloc _).cells69, (X3.alloc _).cells2, (V3.alloc _).c0, (((Below.refl _ _).alloc (Nat.le_refl _) _).cell (p := ⟨g, kk, none⟩) lc3).trans c3⟩) ?_
  clear hK K
  try simp only [Act.put, List.setIfInBounds_toArray, List.set_cons_zero, List.set_cons_succ]
  refine wpAnyT_seq (k := 12) (by decide) rfl rfl (by kernel_rfl) ?_
  clear hHeld inv
  have O3 := ownsRow_callB hrow D3
  have hd3 := D3.size
  refine wpList_append_own_at _ rfl _ _ 34 rfl w2.heap.size 2 i0 (.int .i64 0) 1 8 Tryz.underlying34 hinf hz0 hz1 hz2 rfl (by decide) _ _ _ rfl (O3.alloc _) ⟨u3.heap.size, 0, none⟩ 1 1 [.int .i64 z9] rfl rfl ?c1 ?c2 ?c3 ?c4 ?c5 ?_
  case c1 => exact new_one9 _ _ rfl
  case c2 => intro u hu; simp only [List.mem_cons, List.not_mem_nil, or_false] at hu; rw [hu]; rfl
  case c3 => have := HLN.out; unfold maxLen; omega
  case c4 => have := HLN.out; omega
  case c5 => have := hB1.size; simp; omega
  intro v' w6 hown' hgrow _ hat
  have hV3 : Boxed u3 w3.heap.size 34 v9 := (D3.block _ (Array.getElem?_eq_some_iff.1 hv).1).trans hv
  obtain ⟨g', cap', rfl⟩ := ownsRow_succ hown'
  have hu3 : w2.heap.size ≤ u3.heap.size := by omega
  obtain ⟨hv1, hv2, hr2, hk2, hb2⟩ := hV3.appended (by decide) O3 hu3 (by omega) hown' hgrow
  have hc1 := hv1.cell
  have hf1 := hv1.frozen
  have hown9 : ∀ bb, bb < w2.heap.size ∨ bb = w3.heap.size + 1 → some bb ≠ v9.ownBlock := by
   intro bb hbb e'
   rcases O3.2 with ⟨rfl, _⟩ | ⟨gg, cc, cur, rfl, hg9, hgb, _⟩
   ·simp [Value.ownBlock] at e'
   ·obtain rfl : bb = gg := by simpa [Value.ownBlock] using e'
    rcases hbb with hbb | rfl
    ·omega
    ·rw [(D3.block _ lL).trans hLt] at hgb
     simp at hgb
  have hkeep : ∀ bb, (bb < w2.heap.size ∨ bb = w3.heap.size + 1) → (w6.setCell ⟨w3.heap.size, 0, none⟩ (.slice (some ⟨g', 0, none⟩) (CLN.length + 1) cap')).heap[bb]? = W.heap[bb]? := fun bb hbb => (Below.heap_setCell w6 _ _ _ (by dsimp only; omega)).trans (((hgrow.block bb (by simp; omega) (hown9 bb hbb)).trans (Below.heap_alloc u3 _ _ (by omega))).trans (D3.block bb (by omega)))
  have HKP := Lib.hid hkeep
  clear hkeep hown9
  go_wp2
  refine ⟨(keepsF_below _ D3).trans (hk2.from _), HKP.out _ (.inr rfl), ⟨⟨⟨⟨_, hv2, ?_, trivial⟩, (HKP.out _ (.inr rfl)).trans hLt⟩, fun bb hbb => ?_⟩, hB1.trans ((D3.mono hB1.size).trans (hb2.mono (by omega)))⟩⟩
  ·rw [HNX.out, intsV_snoc, List.length_append]
   exact hr2
  ·refine (HKP.out bb (.inl ?_)).trans (HSS.out bb hbb)
   simp only [List.mem_cons, List.not_mem_nil, or_false] at hbb
   omega
 case done =>
  rintro D zs W hD hzs ⟨⟨⟨⟨v9, hv, hrow, _⟩, hLt⟩, hS⟩, hB1⟩ hK
  rw [hzs] at hrow
  have cS := hv.cell
  have HRW2 := Lib.hid (ownsRow_putObj hrow (.deferred none) hK rfl)
  gi_wp2
  refine ⟨by simp, .inl ⟨_, _, rfl, run_takeDeferred hK, ?_⟩⟩
  have hlen : (cpyL (p : Int) B (q : Int) F a b c d x y (cellP q' p')).length = p' * q' := by rw [cpyL, List.length_map, cellP_len]
  refine ⟨_, results_tmp rfl _ _ _, v9, rfl, ?_, hB1.trans (belowK_b (w := w) (Nat.le_refl _) W D _ _ (by omega) hK rfl rfl)⟩
  have h9 := SRow.of HRW2.out (intsV_int _) (by rw [hlen]; have := HP.out; omega)
  rw [hlen] at h9
  exact h9.low z2
 case stop =>
  rintro D c pre W _ _ h _
  exact h.elim
end Go.Proofs.YtjjfomokecngoaaGreatDoor
