/-
 Contracts of chapter 6: the reduced motions of a list, ReduceMotion in the program and in the model, and the walks of two exact laws. Condition: the list's length is below the model's bound.
-/
import Derived.Test.YtdgophfembpniaaGreatDoorSu
import Derived.Test.YtdgophfembpniaaGreatDoorGh
import Derived.Test.YtdgophfembpniaaGreatDoorGj
import Derived.Test.YtdgophfembpniaaGreatDoorMo1
import Derived.Test.YtdgophfembpniaaGreatDoorGc
import Derived.Test.YtdgophfembpniaaGreatDoorGe
import Derived.Deep.RegionHeld3
import Derived.IntWalk
namespace Go.Proofs.YtdgophfembpniaaGreatDoor
open Go.RowKit
set_option linter.unusedSimpArgs false
set_option linter.unusedVariables false

theorem Kt.grown {R : Nat} {a b c : Int} {W w1 : World} {row : Option Nat} (h : Kt R a b c W) (hg : W.grownBy w1 row) (hne : some R ≠ row) : Kt R a b c w1 :=
 ⟨Nat.lt_of_lt_of_le h.1 hg.size, hg.cell h.c0 hne, hg.cell h.c1 hne, hg.cell h.c2 hne⟩
theorem Km.grown {R : Nat} {a b c d x y : Int} {W w1 : World} {row : Option Nat} (h : Km R a b c d x y W) (hg : W.grownBy w1 row) (hne : some R ≠ row) : Km R a b c d x y w1 :=
 ⟨Nat.lt_of_lt_of_le h.1 hg.size, hg.cell h.c0 hne, hg.cell h.c1 hne, hg.cell h.c2 hne, hg.cell h.c3 hne, hg.cell h.c4 hne, hg.cell h.c5 hne⟩
theorem KM.grown {R : Nat} {a b c d x y : Int} {W w1 : World} {row : Option Nat} (h : KM R a b c d x y W) (hg : W.grownBy w1 row) (hne : some R ≠ row) : KM R a b c d x y w1 := by
 have hh := hg.block R h.lt hne
 exact ⟨Nat.lt_of_lt_of_le h.lt hg.size, (World.cell?_of_block (w := W) hh).trans h.c0, (World.cell?_of_block (w := W) hh).trans h.c1, (World.cell?_of_block (w := W) hh).trans h.c2, (World.cell?_of_block (w := W) hh).trans h.c3, (World.cell?_of_block (w := W) hh).trans h.c4, (World.cell?_of_block (w := W) hh).trans h.c5, (World.frozen?_of_block (w := W) hh).trans h.f0, (World.frozen?_of_block (w := W) hh).trans h.f1, (World.frozen?_of_block (w := W) hh).trans h.f2, (World.frozen?_of_block (w := W) hh).trans h.f3, (World.frozen?_of_block (w := W) hh).trans h.f4, (World.frozen?_of_block (w := W) hh).trans h.f5⟩
theorem infoMo : (Tryz.prog.info? 136).map (fun i => (i.zero, i.size, i.bytes)) = some (some (.agg #[.int .i64 0, .int .i64 0, .int .i64 0, .int .i64 0, .int .i64 0, .int .i64 0]), 6, 48) := by kernel_rfl
theorem infoMo6 : (Tryz.prog.info? 81).map (fun i => (i.zero, i.size, i.bytes)) = some (some (.agg #[.int .i64 0, .int .i64 0, .int .i64 0, .int .i64 0, .int .i64 0, .int .i64 0]), 6, 48) := by kernel_rfl
theorem suit_ok (f A B C a b c d x y : Int) : suitB f A B C a b c d x y = okM f A B C (a, b, c, d, x, y) := rfl
def allOk (f A B C : Int) (xs : List M6) : Bool := xs.all (okM f A B C)
theorem allOk_take {f A B C : Int} {xs : List M6} {k : Nat} (h : k < xs.length) : allOk f A B C (xs.take (k + 1)) = (allOk f A B C (xs.take k) && okM f A B C xs[k]) := by
 unfold allOk
 rw [List.take_succ_eq_append_getElem h, List.all_append]; simp
theorem allOk_bad {f A B C : Int} {xs : List M6} {k : Nat} (h : k < xs.length) (hb : okM f A B C xs[k] = false) : allOk f A B C xs = false := by
 unfold allOk
 rw [List.all_eq_false]
 exact ⟨xs[k], List.getElem_mem h, by simp [hb]⟩
theorem ok_mid {f A B C a b c d x y : Int} (h : okM f A B C (a, b, c, d, x, y) = true) : latI A B C ∧ midI x ∧ midI y := by
 have h1 := (okM_iff.1 h)
 simp only [flB, Bool.and_eq_true] at h1
 have h2 := vecB_bd h1.2.2
 exact ⟨latB_iff.1 h1.1.2, by unfold midI; omega, by unfold midI; omega⟩
theorem redM_take {A B C : Int} {xs : List M6} {k : Nat} (h : k < xs.length) : (xs.take (k + 1)).map (redM A B C) = (xs.take k).map (redM A B C) ++ [redM A B C xs[k]] := by
 rw [List.take_succ_eq_append_getElem h, List.map_append]; rfl
def RedPost (f A B C : Int) (xs : List M6) (w : World) (e : Ending) (w' : World) : Prop :=
 ∃ v : Value, e = .returned (.tuple #[v, .int .i64 (cod6 f A B C (allOk f A B C xs))]) ∧ (bif flB f A B C && allOk f A B C xs then True else v = .slice none 0 0) ∧ (flB f A B C = true → allOk f A B C xs = true → w'.ownsRow w.heap.size 136 6 v xs.length (cells6 (xs.map (redM A B C)))) ∧ Below w.heap.size w w'
theorem ret_pair {v v' : Value} {a b : Int} (h : v = v') (hab : a = b) : Ending.returned (.tuple #[v, .int .i64 a]) = .returned (.tuple #[v', .int .i64 b]) := by rw [h, hab]
set_option maxRecDepth 100000 in
set_option maxHeartbeats 8000000 in
theorem redMs_any {lo hi : Nat} {v : Value} {xs : List M6} {w : World} (f A B C : Int) (h : SRow lo hi 6 v xs.length (fm xs) w) (hn : xs.length ≤ 1048576) :
  Calls Tryz.prog 86 #[.int .i64 f, .agg #[.int .i64 A, .int .i64 B, .int .i64 C], v] w (RedPost f A B C xs w) := by
 obtain ⟨i0, hi, hz0, hz1, hz2⟩ := info_parts infoMo
 have L0 : Kt w.heap.size A B C (w.alloc (.cells #[.int .i64 A, .int .i64 B, .int .i64 C] 32)) := Kt.at _ rfl
 have B0 : Below w.heap.size w (w.alloc (.cells #[.int .i64 A, .int .i64 B, .int .i64 C] 32)) := (Below.refl _ _).alloc (Nat.le_refl _) _
 rcases hf : frB f with _ | _
 ·have hF : flB f A B C = false := by simp [flB, hf]
  have EA := Lib.hid (show cod6 f A B C (allOk f A B C xs) = 1 by simp [cod6, hF])
  have C1 := Lib.hid (fun W => implIsFrame_any f W)
  rw [hf] at C1
  clear h hn
  go_enter Tryz.func86, Tryz.ntmps86
  go_wp2_with fail
  refine (C1.out _).mono ?_
  rintro e w1 ⟨rfl, hb1⟩
  have B1 := bstep B0 hb1
  clear hb1
  go_wp2
  go_ret2
  exact ⟨_, ret_pair (by rfl) EA.out.symm, by simp [hF], fun h => by simp [hF] at h, by
   repeat (first | with_reducible assumption | with_reducible exact Below.refl _ _ | with_reducible refine Below.alloc ?_ (by first | omega | (simp <;> omega)) _ | with_reducible refine bstep ?_ (by with_reducible assumption) | with_reducible refine Below.drew ?_)⟩
 rcases hL : latB A B C with _ | _
 ·have hF : flB f A B C = false := by simp [flB, hL]
  have EA := Lib.hid (show cod6 f A B C (allOk f A B C xs) = 1 by simp [cod6, hF])
  have C1 := Lib.hid (fun W => implIsFrame_any f W)
  have C2 := Lib.hid (fun W => isValidL_any A B C W)
  rw [hf] at C1
  rw [hL] at C2
  clear h hn
  go_enter Tryz.func86, Tryz.ntmps86
  go_wp2_with fail
  refine (C1.out _).mono ?_
  rintro e w1 ⟨rfl, hb1⟩
  have L1 := L0.call hb1
  have B1 := bstep B0 hb1
  clear hb1 L0 B0
  have L1c := L1.cells
  go_wp2_with fail
  refine (C2.out _).mono ?_
  rintro e w2 ⟨rfl, hb2⟩
  have B2 := bstep B1 hb2
  clear hb2
  go_wp2
  go_ret2
  exact ⟨_, ret_pair (by rfl) EA.out.symm, by simp [hF], fun h => by simp [hF] at h, by
   repeat (first | with_reducible assumption | with_reducible exact Below.refl _ _ | with_reducible refine Below.alloc ?_ (by first | omega | (simp <;> omega)) _ | with_reducible refine bstep ?_ (by with_reducible assumption) | with_reducible refine Below.drew ?_)⟩
 have hF : flB f A B C = true := by simp [flB, hf, hL]
 have C1 := Lib.hid (fun W => implIsFrame_any f W)
 have C2 := Lib.hid (fun W => isValidL_any A B C W)
 rw [hf] at C1
 rw [hL] at C2
 have HF := Lib.hid hF
 clear hf hL hF
 obtain ⟨_, _, h1⟩ := h
 have HN := Lib.hid hn
 clear hn
 by_cases hz : xs.length = 0
 ·obtain ⟨ao, cap, rfl⟩ : ∃ ao cap, v = .slice ao 0 cap := by
   rcases h1 with ⟨_, h⟩ | ⟨g, cap, h, _⟩
   ·exact h
   ·exact ⟨_, cap, by rw [h, hz]⟩
  obtain rfl : xs = [] := List.length_eq_zero_iff.1 hz
  clear h1 hz
  go_enter Tryz.func86, Tryz.ntmps86
  go_wp2_with fail
  refine (C1.out _).mono ?_
  rintro e w1 ⟨rfl, hb1⟩
  have L1 := L0.call hb1
  have B1 := bstep B0 hb1
  clear hb1 L0 B0
  have L1c := L1.cells
  go_wp2_with fail
  refine (C2.out _).mono ?_
  rintro e w2 ⟨rfl, hb2⟩
  have B2 := bstep B1 hb2
  clear hb2
  go_wp2_with fail
  go_loopw [8, 21] (fun s i W => s = .slice none 0 0 ∧ i = .int .i64 ((0 : Nat) : Int) ∧ W = w2) (fun _ _ _ => 0)
  case atStart => exact ⟨rfl, rfl, rfl⟩
  case round =>
   obtain ⟨rfl, rfl, rfl⟩ := hrel
   have EA := Lib.hid (show cod6 f A B C (allOk f A B C []) = 0 by simp [cod6, HF.out, allOk])
   go_wp2
   go_ret2
   exact ⟨_, ret_pair (by rfl) EA.out.symm, by simp [HF.out, allOk], fun _ _ => own_nil6 _ _ _, B2⟩
 ·obtain ⟨g, cap, rfl, _, hg, RA⟩ := h1.resolve_left (fun h => hz h.1)
  have hg0 : g < w.heap.size := by omega
  have HRA := Lib.hid (show IRow g (xs.length * 6) (fm xs) w ∧ g < w.heap.size from ⟨RA, hg0⟩)
  clear h1 hz RA hg hg0
  go_enter Tryz.func86, Tryz.ntmps86
  go_wp2_with fail
  refine (C1.out _).mono ?_
  rintro e w1 ⟨rfl, hb1⟩
  have L1 := L0.call hb1
  have B1 := bstep B0 hb1
  clear hb1 L0 B0
  have L1c := L1.cells
  go_wp2_with fail
  refine (C2.out _).mono ?_
  rintro e w2 ⟨rfl, hb2⟩
  have B2 := bstep B1 hb2
  have L2 := L1.call hb2
  clear hb2 L1 B1 L1c C1 C2
  go_wp2_with fail
  go_loopw [8, 21] (fun s i W => ∃ k : Nat, i = .int .i64 (k : Int) ∧ k ≤ xs.length ∧ allOk f A B C (xs.take k) = true ∧ Kt w.heap.size A B C W ∧ W.ownsRow (w.heap.size + 1) 136 6 s ((xs.take k).map (redM A B C)).length (cells6 ((xs.take k).map (redM A B C))) ∧ Below w.heap.size w W) (fun _ i _ => xs.length - (intOf i).toNat)
  case atStart => exact ⟨0, rfl, by omega, by simp [allOk], L2, own_nil6 _ _ _, B2⟩
  case round =>
   clear B2 L2
   obtain ⟨k, rfl, hk, hok, hL, hown, hB⟩ := hrel
   by_cases hk1 : k < xs.length
   ·have hk2 : (k : Int) < (xs.length : Int) := by omega
    have hn := HN.out
    have hk3 : (k : Int) ≤ 1048576 := by omega
    have q1 := (HRA.out.1.grow hB HRA.out.2).mo k hk1
    have HM := Lib.hid (redM_take (A := A) (B := B) (C := C) hk1)
    have HO := Lib.hid (allOk_take (f := f) (A := A) (B := B) (C := C) hk1)
    have HBd := Lib.hid (fun hb => allOk_bad (f := f) (A := A) (B := B) (C := C) hk1 hb)
    have HK := Lib.hid hk1
    have HT := Lib.hid (show ((xs.take k).map (redM A B C)).length = k by simp; omega)
    have HOK := Lib.hid hok
    generalize xs[k] = m at q1 HM HO HBd
    obtain ⟨a, b, c, d, x, y⟩ := m
    dsimp only at q1
    have zB := hB.size
    have HQ0 : Hid (∀ r, u8.ownBlock = some r → w.heap.size + 1 ≤ r ∧ r < wr.heap.size) := Lib.hid (fun r hr => hown.lt r hr)
    have CS := Lib.hid (fun W => implSuit_any f A B C a b c d x y W)
    rw [suit_ok] at CS
    obtain ⟨q10, q11, q12, q13, q14, q15, q16⟩ := id q1
    have hLl := hL.1
    have X0 : KM wr.heap.size a b c d x y (wr.alloc (.cells #[.int .i64 a, .int .i64 b, .int .i64 c, .int .i64 d, .int .i64 x, .int .i64 y] 81)) := KM.at _ rfl
    have L3 : Kt w.heap.size A B C (wr.alloc (.cells #[.int .i64 a, .int .i64 b, .int .i64 c, .int .i64 d, .int .i64 x, .int .i64 y] 81)) := hL.alloc _
    have O3 : (wr.alloc (.cells #[.int .i64 a, .int .i64 b, .int .i64 c, .int .i64 d, .int .i64 x, .int .i64 y] 81)).ownsRow (w.heap.size + 1) 136 6 u8 ((xs.take k).map (redM A B C)).length (cells6 ((xs.take k).map (redM A B C))) := hown.alloc _
    have B3 : Below w.heap.size w (wr.alloc (.cells #[.int .i64 a, .int .i64 b, .int .i64 c, .int .i64 d, .int .i64 x, .int .i64 y] 81)) := hB.alloc hB.size _
    have X0c := X0.cells5
    have L3c := L3.cells
    clear hk hk1 hok hL hown hB
    go_wp2_with fail
    refine (CS.out _).mono ?_
    rintro e w3 ⟨rfl, hb3⟩
    have X4 : KM wr.heap.size a b c d x y w3 := X0.call hb3
    have L4 := L3.call hb3
    have O4 := ownsRow_call O3 hb3
    have B4 := bstep B3 hb3
    clear hb3 X0 L3 O3 B3 X0c L3c q1 q10 q11 q12 q13 q14 q15 q16 CS
    have X4c := X4.cells5
    have L4c := L4.cells
    have X4l := X4.lt
    rcases hs : okM f A B C (a, b, c, d, x, y) with _ | _
    ·have hbad := HBd.out hs
     have EA := Lib.hid (show cod6 f A B C (allOk f A B C xs) = 2 by simp [cod6, HF.out, hbad])
     have HBAD := Lib.hid hbad
     clear hbad hs
     go_wp2
     go_ret2
     exact ⟨_, ret_pair (by rfl) EA.out.symm, by simp [HBAD.out], fun _ h => (by (have hh := HBAD.out); rw [h] at hh; cases hh), B4⟩
    ·obtain ⟨hl, hx, hy⟩ := ok_mid hs
     have HS := Lib.hid hs
     have HQ : Hid (∀ r, u8.ownBlock = some r → w.heap.size + 1 ≤ r ∧ r < wr.heap.size) := Lib.hid (fun r hr => HQ0.out r hr)
     have CR : Hid (∀ W, Calls Tryz.prog 117 #[.agg #[.int .i64 a, .int .i64 b, .int .i64 c, .int .i64 d, .int .i64 x, .int .i64 y], .agg #[.int .i64 A, .int .i64 B, .int .i64 C]] W fun e w' => e = .returned (.agg #[.int .i64 a, .int .i64 b, .int .i64 c, .int .i64 d, .int .i64 (redX A B C x y), .int .i64 (redY C y)]) ∧ Below W.heap.size W w') := Lib.hid (fun W => reducedMo_any A B C a b c d x y W hl hx hy)
     have HR : Hid (redM A B C (a, b, c, d, x, y) = (a, b, c, d, redX A B C x y, redY C y)) := Lib.hid rfl
     generalize redX A B C x y = p at CR HR
     generalize redY C y = q at CR HR
     clear hs hl hx hy
     generalize hys : (xs.take k).map (redM A B C) = ys at *
     have HYS := Lib.hid hys
     clear hys
     have HW := Lib.hid zB
     have HXL : Hid (ys.length ≤ 1048576) := Lib.hid (by rw [HT.out]; omega)
     go_wp2_with fail
     go_region_held3 (fun W => (W.cell? ⟨wr.heap.size, 0, none⟩ = some (.int .i64 a) ∧ W.cell? ⟨wr.heap.size, 1, none⟩ = some (.int .i64 b) ∧ W.cell? ⟨wr.heap.size, 2, none⟩ = some (.int .i64 c) ∧ W.cell? ⟨wr.heap.size, 3, none⟩ = some (.int .i64 d) ∧ W.cell? ⟨wr.heap.size, 4, none⟩ = some (.int .i64 x) ∧ W.cell? ⟨wr.heap.size, 5, none⟩ = some (.int .i64 y)) ∧ (W.cell? ⟨w.heap.size, 0, none⟩ = some (.int .i64 A) ∧ W.cell? ⟨w.heap.size, 1, none⟩ = some (.int .i64 B) ∧ W.cell? ⟨w.heap.size, 2, none⟩ = some (.int .i64 C))) ((refine And.intro (KM.cells5 ?_) (Kt.cells ?_)) <;> with_reducible repeat (first | assumption | refine KM.drew ?_ | refine KM.alloc ?_ _ | refine KM.call ?_ (by assumption) | refine Km.drew ?_ | refine Km.alloc ?_ _ | refine Km.call ?_ (by assumption) | refine Kt.drew ?_ | refine Kt.alloc ?_ _ | refine Kt.call ?_ (by assumption)))
      (first
       | (go_at_call 116; with_reducible refine (motionOf_any _ _ _ _ _ _ _).mono ?_; rintro e u1 ⟨rfl, hb1⟩; have XX1 : KM wr.heap.size a b c d x y u1 := (by with_reducible repeat (first | assumption | refine KM.drew ?_ | refine KM.alloc ?_ _ | refine KM.call ?_ (by assumption) | refine Km.drew ?_ | refine Km.alloc ?_ _ | refine Km.call ?_ (by assumption) | refine Kt.drew ?_ | refine Kt.alloc ?_ _ | refine Kt.call ?_ (by assumption))); have LL1 : Kt w.heap.size A B C u1 := (by with_reducible repeat (first | assumption | refine KM.drew ?_ | refine KM.alloc ?_ _ | refine KM.call ?_ (by assumption) | refine Km.drew ?_ | refine Km.alloc ?_ _ | refine Km.call ?_ (by assumption) | refine Kt.drew ?_ | refine Kt.alloc ?_ _ | refine Kt.call ?_ (by assumption))); have OO1 : u1.ownsRow (w.heap.size + 1) 136 6 u8 ys.length (cells6 ys) := (by repeat (first | with_reducible assumption | with_reducible refine ownsRow_call ?_ (by with_reducible assumption) | with_reducible refine ownsRow_call ?_ (Below.drew (Below.refl _ _)) | with_reducible refine ownsRow_call ?_ (Below.alloc (Below.refl _ _) (Nat.le_refl _) _))); have BB1 : Below w.heap.size w u1 := (by repeat (first | with_reducible assumption | with_reducible exact Below.refl _ _ | with_reducible refine Below.alloc ?_ (by first | omega | (simp <;> omega)) _ | with_reducible refine bstep ?_ (by with_reducible assumption) | with_reducible refine Below.drew ?_)))
       | (go_at_call 117; with_reducible refine (CR.out _).mono ?_; rintro e u2 ⟨rfl, hb2⟩; have XX2 : KM wr.heap.size a b c d x y u2 := (by with_reducible repeat (first | assumption | refine KM.drew ?_ | refine KM.alloc ?_ _ | refine KM.call ?_ (by assumption) | refine Km.drew ?_ | refine Km.alloc ?_ _ | refine Km.call ?_ (by assumption) | refine Kt.drew ?_ | refine Kt.alloc ?_ _ | refine Kt.call ?_ (by assumption))); have LL2 : Kt w.heap.size A B C u2 := (by with_reducible repeat (first | assumption | refine KM.drew ?_ | refine KM.alloc ?_ _ | refine KM.call ?_ (by assumption) | refine Km.drew ?_ | refine Km.alloc ?_ _ | refine Km.call ?_ (by assumption) | refine Kt.drew ?_ | refine Kt.alloc ?_ _ | refine Kt.call ?_ (by assumption))); have OO2 : u2.ownsRow (w.heap.size + 1) 136 6 u8 ys.length (cells6 ys) := (by repeat (first | with_reducible assumption | with_reducible refine ownsRow_call ?_ (by with_reducible assumption) | with_reducible refine ownsRow_call ?_ (Below.drew (Below.refl _ _)) | with_reducible refine ownsRow_call ?_ (Below.alloc (Below.refl _ _) (Nat.le_refl _) _))); have BB2 : Below w.heap.size w u2 := (by repeat (first | with_reducible assumption | with_reducible exact Below.refl _ _ | with_reducible refine Below.alloc ?_ (by first | omega | (simp <;> omega)) _ | with_reducible refine bstep ?_ (by with_reducible assumption) | with_reducible refine Below.drew ?_)); have zz2 := BB2.size)
       | (rw [if_pos (by rfl)]; refine wp_append_own _ _ _ 86 rfl (w.heap.size + 1) 136 i0 (.agg #[.int .i64 0, .int .i64 0, .int .i64 0, .int .i64 0, .int .i64 0, .int .i64 0]) 6 48 Tryz.underlying86 hi hz0 hz1 hz2 rfl (by decide) _ _ _ rfl (OO2.alloc _) ⟨u2.heap.size, 0, none⟩ 1 1 [.int .i64 a, .int .i64 b, .int .i64 c, .int .i64 d, .int .i64 p, .int .i64 q] rfl rfl (new_six _ _ _ _ _ _ _ rfl) one_six (by have := HXL.out; unfold maxLen; omega) (by have := HXL.out; omega) (by (have := XX2.lt; have := HW.out); simp <;> omega) ?_; intro v9 w9 hown9 hgrow _; have OO9 : w9.ownsRow (w.heap.size + 1) 136 6 v9 (ys ++ [(a, b, c, d, p, q)]).length (cells6 (ys ++ [(a, b, c, d, p, q)])) := own_next6 hown9; have BB9 : Below w.heap.size w w9 := Below.grown (BB2.alloc zz2 _) hgrow (by (have := HW.out; have := XX2.lt); simp; omega) (fun r hr => by have := (OO2.lt r hr).1; omega); have LL9 : Kt w.heap.size A B C w9 := Kt.grown (Kt.alloc LL2 _) hgrow (fun e => by have := HQ.out _ e.symm; omega); have XX9 : KM wr.heap.size a b c d x y w9 := KM.grown (KM.alloc XX2 _) hgrow (fun e => by have := HQ.out _ e.symm; omega)))
     all_goals
      clear XX1 LL1 OO1 BB1 XX2 LL2 OO2 BB2 zz2 hgrow hown9
      have h9 := OO9
      have hl9 := LL9
      have hb9 := BB9
      clear OO9 LL9 BB9 XX9
      go_wp2
      go_roundw
      case rel => exact ⟨k + 1, by go_num, by have := HK.out; omega, by rw [HO.out, HOK.out, HS.out]; rfl, hl9, by rw [HM.out, HR.out]; exact h9, hb9⟩
      case measure => (have := HK.out); first | (simp [intOf]; done) | (simp [intOf]; omega)
   ·obtain rfl : k = xs.length := by omega
    rw [List.take_length] at hown hok
    have EA := Lib.hid (show cod6 f A B C (allOk f A B C xs) = 0 by simp [cod6, HF.out, hok])
    have HOK := Lib.hid hok
    clear hk hk1 hL hok
    go_wp2
    go_ret2
    exact ⟨_, ret_pair (by rfl) EA.out.symm, by simp [HF.out, HOK.out], fun _ _ => by rw [List.length_map] at hown; exact ownsRow_lower hown (by omega), hB⟩

end Go.Proofs.YtdgophfembpniaaGreatDoor
