/-
 The colour of a vector, in the program and in the model. Condition: a slice that lies in a block of its own, a valid pattern where it is said.
-/
import Derived.Test.YtdgophfembpniaaGreatDoorPtV9
namespace Go.Proofs.YtdgophfembpniaaGreatDoor
open Go.RowKit
set_option linter.unusedSimpArgs false
set_option linter.unusedVariables false

theorem IRow.drewP {g N : Nat} {F : Nat → Int} {W : World} (h : IRow g N F W) : IRow g N F W.drew := h.call (Below.refl _ _).drew
theorem IRow.allocP {g N : Nat} {F : Nat → Int} {W : World} (h : IRow g N F W) (z : Obj) : IRow g N F (W.alloc z) := h.call ((Below.refl _ _).alloc (Nat.le_refl _) _)
/- the number of the cell to which a vector is reduced -/
def numP (A B C x y : Int) : Nat := (redX A B C x y * C + redY C y).toNat
theorem num_bd {A C X Y : Int} (hX : 0 ≤ X ∧ X < A) (hY : 0 ≤ Y ∧ Y < C) (hA : A ≤ 64) (hC : C ≤ 64) : (0 ≤ X * C ∧ X * C ≤ 4096) ∧ X * C + Y < A * C := by
 obtain ⟨a, rfl⟩ : ∃ a : Nat, X = (a : Int) := ⟨X.toNat, by omega⟩
 obtain ⟨c, rfl⟩ : ∃ c : Nat, C = (c : Int) := ⟨C.toNat, by omega⟩
 obtain ⟨p, rfl⟩ : ∃ p : Nat, A = (p : Int) := ⟨A.toNat, by omega⟩
 have h1 : a * c ≤ 64 * 64 := Nat.mul_le_mul (by omega) (by omega)
 have h2 : (a + 1) * c ≤ p * c := Nat.mul_le_mul_right c (by omega)
 rw [Nat.succ_mul] at h2
 have e1 : (a : Int) * (c : Int) = ((a * c : Nat) : Int) := by simp
 have e2 : (p : Int) * (c : Int) = ((p * c : Nat) : Int) := by simp
 rw [e1, e2]
 omega
theorem numP_int {A B C x y : Int} (h : latI A B C) : ((numP A B C x y : Nat) : Int) = redX A B C x y * C + redY C y := by
 have h1 := redX_bd (x := x) (y := y) h
 have h2 := redY_bd (y := y) h
 have h3 := latI_bd h
 have h4 := (num_bd h1 h2 h3.1 h3.2).1.1
 unfold numP
 omega
theorem numP_lt {f B : Int} {p q n : Nat} {F : Nat → Int} (h : PatI f p B q n F) (x y : Int) : numP (p : Int) B (q : Int) x y < n := by
 have h1 := redX_bd (x := x) (y := y) h.lat
 have h2 := redY_bd (y := y) h.lat
 have h3 := latI_bd h.lat
 have h4 := (num_bd h1 h2 h3.1 h3.2).2
 have h5 := numP_int (x := x) (y := y) h.lat
 have e : (p : Int) * (q : Int) = ((p * q : Nat) : Int) := by simp
 rw [h.nn]
 omega
/- facts on a vector's number, its parts as variables -/
theorem num_parts {f B : Int} {p q n : Nat} {F : Nat → Int} (h : PatI f p B q n F) (x y : Int) : ∃ (X Y : Int) (k : Nat), redX (p : Int) B (q : Int) x y = X ∧ redY (q : Int) y = Y ∧ numP (p : Int) B (q : Int) x y = k ∧ (0 ≤ X ∧ X < (p : Int)) ∧ (0 ≤ Y ∧ Y < (q : Int)) ∧ (k : Int) = X * (q : Int) + Y ∧ k < n ∧ (0 ≤ X * (q : Int) ∧ X * (q : Int) ≤ 4096) := by
 have h1 := redX_bd (x := x) (y := y) h.lat
 have h2 := redY_bd (y := y) h.lat
 have h3 := latI_bd h.lat
 exact ⟨_, _, _, rfl, rfl, rfl, h1, h2, numP_int h.lat, numP_lt h x y, (num_bd h1 h2 h3.1 h3.2).1⟩
set_option maxHeartbeats 8000000 in
theorem l03NumberP_any (A B C x y X Y : Int) (w : World) (hl : latI A B C) (hx : midI x) (hy : midI y) (eX : redX A B C x y = X) (eY : redY C y = Y) (hm : 0 ≤ X * C ∧ X * C ≤ 4096) (hb : 0 ≤ Y ∧ Y ≤ 64) :
  Calls Tryz.prog 64 #[.agg #[.int .i64 A, .int .i64 B, .int .i64 C], .agg #[.int .i64 x, .int .i64 y]] w fun e w' => e = .returned (.int .i64 (X * C + Y)) ∧ Below w.heap.size w w' := by
 have CR := Lib.hid (fun W => l03Reduce_any A B C x y W hl hx hy)
 rw [show redV A B C x y = .agg #[.int .i64 X, .int .i64 Y] by unfold redV; rw [eX, eY]] at CR
 have L0 : Bx w.heap.size [.int .i64 A, .int .i64 B, .int .i64 C] ((w.alloc (.cells #[.int .i64 A, .int .i64 B, .int .i64 C] 32)).alloc (.cells #[.int .i64 x, .int .i64 y] 55)) := (Bx.at _ rfl).alloc _
 have V0 : BX (w.heap.size + 1) [.int .i64 x, .int .i64 y] ((w.alloc (.cells #[.int .i64 A, .int .i64 B, .int .i64 C] 32)).alloc (.cells #[.int .i64 x, .int .i64 y] 55)) := BX.at _ (by simp)
 have B0 : Below w.heap.size w ((w.alloc (.cells #[.int .i64 A, .int .i64 B, .int .i64 C] 32)).alloc (.cells #[.int .i64 x, .int .i64 y] 55)) := by repeat (first | with_reducible exact Below.refl _ _ | with_reducible assumption | with_reducible refine Below.setCell ?_ (by first | omega | (dsimp only; omega) | (simp <;> omega)) _ | with_reducible refine Below.alloc ?_ (by first | omega | (simp <;> omega)) _ | with_reducible refine bstep ?_ (by with_reducible assumption) | with_reducible refine Below.drew ?_ | with_reducible refine below_drewN ?_ _)
 clear hl hx hy eX eY
 go_enter Tryz.func64, Tryz.ntmps64
 go_wp2_with fail
 with_reducible refine (CR.out _).mono ?_
 rintro e w1 ⟨rfl, hb1⟩
 have L1 := L0.call hb1
 have V1 := V0.call hb1
 have B1 := bstep B0 hb1
 clear hb1 L0 V0 B0 CR
 have l1c0 := L1.c0
 have l1c1 := L1.c1
 have l1c2 := L1.c2
 have l1l := L1.lt
 have v1c0 := V1.c0
 have v1c1 := V1.c1
 have v1f0 := V1.f0
 have v1f1 := V1.f1
 have v1l := V1.lt
 go_wp2
 go_ret
 exact ⟨rfl, by repeat (first | with_reducible exact Below.refl _ _ | with_reducible assumption | with_reducible refine Below.setCell ?_ (by first | omega | (dsimp only; omega) | (simp <;> omega)) _ | with_reducible refine Below.alloc ?_ (by first | omega | (simp <;> omega)) _ | with_reducible refine bstep ?_ (by with_reducible assumption) | with_reducible refine Below.drew ?_ | with_reducible refine below_drewN ?_ _)⟩
set_option maxRecDepth 100000 in
set_option maxHeartbeats 8000000 in
theorem l09At_any {lo hi p q n : Nat} {f B : Int} {v : Value} {F : Nat → Int} {W : World} (h : PatI f p B q n F) (hv : SRow lo hi 1 v n F W) (x y : Int) (hx : midI x) (hy : midI y) :
  Calls Tryz.prog 54 #[.agg #[.int .i64 f, .int .i64 (p : Int), .int .i64 B, .int .i64 (q : Int), v], .agg #[.int .i64 x, .int .i64 y]] W fun e w' => e = .returned (.int .i64 (F (numP (p : Int) B (q : Int) x y))) ∧ Below W.heap.size W w' := by
 obtain ⟨X, Y, k, eX, eY, ek, bX, bY, hk, hkn, hm⟩ := num_parts h x y
 have hbd := h.bd
 rw [ek]
 have HN := Lib.hid (fun W => (show Calls Tryz.prog 64 #[.agg #[.int .i64 ((p : Int)), .int .i64 B, .int .i64 ((q : Int))], .agg #[.int .i64 x, .int .i64 y]] W (fun e w' => e = .returned (.int .i64 (k : Int)) ∧ Below W.heap.size W w') from by rw [hk]; exact l03NumberP_any (p : Int) B (q : Int) x y X Y W h.lat hx hy eX eY hm (by omega)))
 obtain ⟨g, cap, rfl, hg, _, r⟩ := hv.irow (by omega)
 have hgs := hv.1
 have hgw : g < W.heap.size := by omega
 have hkn1 : k < n * 1 := by omega
 have hki : (k : Int) < (n : Int) := by omega
 obtain ⟨b, hb⟩ : ∃ b, b = F k := ⟨_, rfl⟩
 rw [← hb]
 have HF := Lib.hid hb
 have P0 : Bx W.heap.size [.int .i64 f, .int .i64 (p : Int), .int .i64 B, .int .i64 (q : Int), .slice (some ⟨g, 0, none⟩) n cap] ((W.alloc (.cells #[.int .i64 f, .int .i64 (p : Int), .int .i64 B, .int .i64 (q : Int), .slice (some ⟨g, 0, none⟩) n cap] 34)).alloc (.cells #[.int .i64 x, .int .i64 y] 55)) := (Bx.at _ rfl).alloc _
 have V0 : Bx (W.heap.size + 1) [.int .i64 x, .int .i64 y] ((W.alloc (.cells #[.int .i64 f, .int .i64 (p : Int), .int .i64 B, .int .i64 (q : Int), .slice (some ⟨g, 0, none⟩) n cap] 34)).alloc (.cells #[.int .i64 x, .int .i64 y] 55)) := Bx.at _ (by simp)
 have I0 : IRow g (n * 1) F ((W.alloc (.cells #[.int .i64 f, .int .i64 (p : Int), .int .i64 B, .int .i64 (q : Int), .slice (some ⟨g, 0, none⟩) n cap] 34)).alloc (.cells #[.int .i64 x, .int .i64 y] 55)) := (r.allocP _).allocP _
 have hk0 : (0 : Int) ≤ (k : Int) := by omega
 clear r hv h hx hy eX eY ek bX bY hk hm hb hbd
 go_enter Tryz.func54, Tryz.ntmps54
 go_wp2_with fail
 go_region_held3 (fun W9 => (W9.cell? ⟨W.heap.size, 0, none⟩ = some (.int .i64 f) ∧ W9.cell? ⟨W.heap.size, 1, none⟩ = some (.int .i64 (p : Int)) ∧ W9.cell? ⟨W.heap.size, 2, none⟩ = some (.int .i64 B) ∧ W9.cell? ⟨W.heap.size, 3, none⟩ = some (.int .i64 (q : Int)) ∧ W9.cell? ⟨W.heap.size, 4, none⟩ = some (.slice (some ⟨g, 0, none⟩) n cap)) ∧ (W9.cell? ⟨W.heap.size + 1, 0, none⟩ = some (.int .i64 x) ∧ W9.cell? ⟨W.heap.size + 1, 1, none⟩ = some (.int .i64 y)) ∧ W9.cell? ⟨g, k, none⟩ = some (.int .i64 b)) ((refine And.intro (Bx.cells5 ?_) (And.intro (Bx.cells2 ?_) ((IRow.at (N := n * 1) ?_ _ hkn1).trans (by rw [HF.out])))) <;> (with_reducible repeat (first | assumption | refine Bx.drew ?_ | refine IRow.drewP ?_ | refine Bx.alloc ?_ _ | refine Bx.call ?_ (by assumption) | refine IRow.call ?_ (by assumption))))
  (first
   | (go_at_call 64; with_reducible refine (HN.out _).mono ?_; rintro e w2 ⟨rfl, hb2⟩))
 all_goals
  go_wp2
  go_ret
  exact ⟨rfl, by repeat (first | with_reducible exact Below.refl _ _ | with_reducible assumption | with_reducible refine Below.setCell ?_ (by first | omega | (dsimp only; omega) | (simp <;> omega)) _ | with_reducible refine Below.alloc ?_ (by first | omega | (simp <;> omega)) _ | with_reducible refine bstep ?_ (by with_reducible assumption) | with_reducible refine Below.drew ?_ | with_reducible refine below_drewN ?_ _)⟩
end Go.Proofs.YtdgophfembpniaaGreatDoor
