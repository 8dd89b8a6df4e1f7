/-
  Small facts that chapter 7's texts take from chapter 6's, for a translation that holds no lists of motions as arguments.
-/
import Derived.Test.YtkfdaepnjdnnmaaDoorTk7
import Derived.Test.YtkfdaepnjdnnmaaDoorSgP
import Derived.Test.YtkfdaepnjdnnmaaDoorHcl
namespace Go.Proofs.YtkfdaepnjdnnmaaDoor
open Go.RowKit
set_option linter.unusedSimpArgs false
set_option linter.unusedVariables false

theorem ok_mid {f A B C a b c d x y : Int} (h : okM f A B C (a, b, c, d, x, y) = true) : latI A B C ∧ midI x ∧ midI y := by
  have h1 := (okM_iff.1 h)
  simp only [flB, Bool.and_eq_true] at h1
  have h2 := vecB_bd h1.2.2
  exact ⟨latB_iff.1 h1.1.2, by unfold midI; omega, by unfold midI; omega⟩
theorem bd_mul7 {a p : Int} (ha : -1 ≤ a ∧ a ≤ 1) (hp : 0 ≤ p ∧ p ≤ 64) : -64 ≤ a * p ∧ a * p ≤ 64 := by
  obtain rfl | rfl | rfl : a = -1 ∨ a = 0 ∨ a = 1 := by omega
  all_goals omega
theorem mv_mid {f A B C a b c d x y p q : Int} (h : okM f A B C (a, b, c, d, x, y) = true) (hr : redM A B C (a, b, c, d, x, y) = (a, b, c, d, x, y)) (hc : celB A C (p, q) = true) :
    latI A B C ∧ limB a b c d = true ∧ vecB x y = true ∧ vecB p q = true ∧ midI (a * p + b * q + x) ∧ midI (c * p + d * q + y) := by
  obtain ⟨hl, _, _⟩ := ok_mid h
  have h5 := okM_iff.1 h
  have hfl := h5.1
  simp only [flB, Bool.and_eq_true] at hfl
  have hgs := keep_small hfl.1 h5.2.1.1
  obtain ⟨b1, b2⟩ := latI_bd hl
  have h1 := celB_iff.1 hc
  have hv := red_vec hl hr
  have hv2 := vecB_bd hv
  dsimp only at hv hv2 h1 hgs
  have m1 := bd_mul7 hgs.1.1 (show 0 ≤ p ∧ p ≤ 64 by omega)
  have m2 := bd_mul7 hgs.1.2 (show 0 ≤ q ∧ q ≤ 64 by omega)
  have m3 := bd_mul7 hgs.2.1 (show 0 ≤ p ∧ p ≤ 64 by omega)
  have m4 := bd_mul7 hgs.2.2 (show 0 ≤ q ∧ q ≤ 64 by omega)
  exact ⟨hl, keep_lim hfl.1 h5.2.1.1, hv, cel_vec hl hc, by unfold midI; omega, by unfold midI; omega⟩
theorem srow_shape {lo hi K n : Nat} {v : Value} {F : Nat → Int} {W : World} (h : SRow lo hi K v n F W) : ∃ ao cap, v = .slice ao n cap := srow_shA h
theorem ko_lt {g o : Nat} {a b c d x y : Int} {W : World} (h : Ko6 g o a b c d x y W) : g < W.heap.size := h.1
theorem kt_lt {R : Nat} {a b c : Int} {W : World} (h : Kt R a b c W) : R < W.heap.size := h.1
theorem Kt.grown {R : Nat} {a b c : Int} {W w1 : World} {row : Option Nat} (h : Kt R a b c W) (hg : W.grownBy w1 row) (hne : some R ≠ row) : Kt R a b c w1 :=
  ⟨Nat.lt_of_lt_of_le h.1 hg.size, hg.cell h.c0 hne, hg.cell h.c1 hne, hg.cell h.c2 hne⟩
theorem Km.grown {R : Nat} {a b c d x y : Int} {W w1 : World} {row : Option Nat} (h : Km R a b c d x y W) (hg : W.grownBy w1 row) (hne : some R ≠ row) : Km R a b c d x y w1 :=
  ⟨Nat.lt_of_lt_of_le h.1 hg.size, hg.cell h.c0 hne, hg.cell h.c1 hne, hg.cell h.c2 hne, hg.cell h.c3 hne, hg.cell h.c4 hne, hg.cell h.c5 hne⟩
theorem KM.grown {R : Nat} {a b c d x y : Int} {W w1 : World} {row : Option Nat} (h : KM R a b c d x y W) (hg : W.grownBy w1 row) (hne : some R ≠ row) : KM R a b c d x y w1 := by
  have hh := hg.block R h.lt hne
  exact ⟨Nat.lt_of_lt_of_le h.lt hg.size, (World.cell?_of_block (w := W) hh).trans h.c0, (World.cell?_of_block (w := W) hh).trans h.c1, (World.cell?_of_block (w := W) hh).trans h.c2, (World.cell?_of_block (w := W) hh).trans h.c3, (World.cell?_of_block (w := W) hh).trans h.c4, (World.cell?_of_block (w := W) hh).trans h.c5, (World.frozen?_of_block (w := W) hh).trans h.f0, (World.frozen?_of_block (w := W) hh).trans h.f1, (World.frozen?_of_block (w := W) hh).trans h.f2, (World.frozen?_of_block (w := W) hh).trans h.f3, (World.frozen?_of_block (w := W) hh).trans h.f4, (World.frozen?_of_block (w := W) hh).trans h.f5⟩
def lex2 (x y x' y' : Int) : Bool := decide (x < x' ∨ x = x' ∧ y < y')
set_option maxHeartbeats 1000000 in
theorem lex2_any (x y x' y' : Int) (w : World) :
    Calls Tryd.prog 141 #[.agg #[.int .i64 x, .int .i64 y], .agg #[.int .i64 x', .int .i64 y']] w fun e w' => e = .returned (.bool (lex2 x y x' y')) ∧ Below w.heap.size w w' := by
  by_cases h1 : x < x'
  · have EA := Lib.hid (show lex2 x y x' y' = true by simp [lex2, h1])
    go_enter Tryd.func141, Tryd.ntmps141
    go_wp2
    go_ret
    refine ⟨ret_bool EA.out.symm, ?_⟩
    repeat (first | exact Below.refl _ _ | refine Below.alloc ?_ (by first | omega | (simp <;> omega)) _)
  by_cases h2 : x = x'
  · have h2b : (x == x') = true := by simp [h2]
    by_cases h3 : y < y'
    · have EA := Lib.hid (show lex2 x y x' y' = true by simp [lex2, h1, h2, h3])
      clear h2
      go_enter Tryd.func141, Tryd.ntmps141
      go_wp2
      go_ret
      refine ⟨ret_bool EA.out.symm, ?_⟩
      repeat (first | exact Below.refl _ _ | refine Below.alloc ?_ (by first | omega | (simp <;> omega)) _)
    · have EA := Lib.hid (show lex2 x y x' y' = false by simp [lex2, h1, h3])
      clear h2
      go_enter Tryd.func141, Tryd.ntmps141
      go_wp2
      go_ret
      refine ⟨ret_bool EA.out.symm, ?_⟩
      repeat (first | exact Below.refl _ _ | refine Below.alloc ?_ (by first | omega | (simp <;> omega)) _)
  · have h2b : (x == x') = false := by simp [h2]
    have EA := Lib.hid (show lex2 x y x' y' = false by simp [lex2, h1, h2])
    clear h2
    go_enter Tryd.func141, Tryd.ntmps141
    go_wp2
    go_ret
    refine ⟨ret_bool EA.out.symm, ?_⟩
    repeat (first | exact Below.refl _ _ | refine Below.alloc ?_ (by first | omega | (simp <;> omega)) _)
theorem Kg.far {g : Nat} {a b : Int} {W : World} {p : Addr} {u : Value} (hp : p.block ≠ g) (h : Kg g a b W) : Kg g a b (W.setCell p u) := by
  obtain ⟨h0, h1, h2⟩ := h
  have e : (W.setCell p u).heap[g]? = W.heap[g]? := Below.heap_setCell _ _ _ _ (by omega)
  exact ⟨by simpa [World.setCell] using h0, by rw [World.cell?_of_block (w := W) e]; exact h1, by rw [World.cell?_of_block (w := W) e]; exact h2⟩
theorem cells2_at7 : ∀ (xs : List V2) (i : Nat) (h : i < xs.length), (cells2 xs)[i * 2]? = some (.int .i64 xs[i].1) ∧ (cells2 xs)[i * 2 + 1]? = some (.int .i64 xs[i].2)
  | [], i, h => absurd h (by simp)
  | t :: xs, 0, _ => by simp [cells2]
  | t :: xs, i + 1, h => by
    have hs := cells2_at7 xs i (by simpa using h)
    have e : cells2 (t :: xs) = [.int .i64 t.1, .int .i64 t.2] ++ cells2 xs := by simp [cells2]
    rw [e, List.getElem?_append_right (by simp; omega), List.getElem?_append_right (by simp; omega)]
    simp only [List.length_cons, List.length_nil, List.getElem_cons_succ]
    rw [show (i + 1) * 2 - (0 + 1 + 1) = i * 2 by omega, show (i + 1) * 2 + 1 - (0 + 1 + 1) = i * 2 + 1 by omega]
    exact hs
theorem IRow.v27 {g : Nat} {xs : List V2} {W : World} (h : IRow g (xs.length * 2) (intAt (cells2 xs)) W) (i : Nat) (hi : i < xs.length) : Ko2 g (i * 2) xs[i].1 xs[i].2 W := by
  have k := h.ko2 (i * 2) (by omega)
  obtain ⟨e0, e1⟩ := cells2_at7 xs i hi
  have z0 : intAt (cells2 xs) (i * 2) = xs[i].1 := by simp [intAt, e0]
  have z1 : intAt (cells2 xs) (i * 2 + 1) = xs[i].2 := by simp [intAt, e1]
  rwa [z0, z1] at k
end Go.Proofs.YtkfdaepnjdnnmaaDoor
