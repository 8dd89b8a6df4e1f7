/-
  Contracts of chapter 6: the reduced motions of a list, ReduceMotion in the program and in the model, and the walks of two exact laws. Condition: the list's length is below the model's bound.
-/
import Derived.Test.YtpdekopmnchanaaSu
import Derived.Test.YtpdekopmnchanaaGrL
import Derived.Test.YtpdekopmnchanaaSl6
import Derived.Test.YtpdekopmnchanaaMo1
import Derived.Test.YtpdekopmnchanaaMoE
import Derived.Test.YtpdekopmnchanaaFrN
import Derived.Deep.RegionHeld3
import Derived.IntWalk
namespace Go.Proofs.Ytpdekopmnchanaa
open Go.RowKit
set_option linter.unusedSimpArgs false
set_option linter.unusedVariables false

theorem Kt.grown {R : Nat} {a b c : Int} {W w1 : World} {row : Option Nat} (h : Kt R a b c W) (hg : W.grownBy w1 row) (hne : some R ≠ row) : Kt R a b c w1 :=
  ⟨Nat.lt_of_lt_of_le h.1 hg.size, hg.cell h.c0 hne, hg.cell h.c1 hne, hg.cell h.c2 hne⟩
theorem Km.grown {R : Nat} {a b c d x y : Int} {W w1 : World} {row : Option Nat} (h : Km R a b c d x y W) (hg : W.grownBy w1 row) (hne : some R ≠ row) : Km R a b c d x y w1 :=
  ⟨Nat.lt_of_lt_of_le h.1 hg.size, hg.cell h.c0 hne, hg.cell h.c1 hne, hg.cell h.c2 hne, hg.cell h.c3 hne, hg.cell h.c4 hne, hg.cell h.c5 hne⟩
theorem KM.grown {R : Nat} {a b c d x y : Int} {W w1 : World} {row : Option Nat} (h : KM R a b c d x y W) (hg : W.grownBy w1 row) (hne : some R ≠ row) : KM R a b c d x y w1 := by
  have hh := hg.block R h.lt hne
  exact ⟨Nat.lt_of_lt_of_le h.lt hg.size, (World.cell?_of_block (w := W) hh).trans h.c0, (World.cell?_of_block (w := W) hh).trans h.c1, (World.cell?_of_block (w := W) hh).trans h.c2, (World.cell?_of_block (w := W) hh).trans h.c3, (World.cell?_of_block (w := W) hh).trans h.c4, (World.cell?_of_block (w := W) hh).trans h.c5, (World.frozen?_of_block (w := W) hh).trans h.f0, (World.frozen?_of_block (w := W) hh).trans h.f1, (World.frozen?_of_block (w := W) hh).trans h.f2, (World.frozen?_of_block (w := W) hh).trans h.f3, (World.frozen?_of_block (w := W) hh).trans h.f4, (World.frozen?_of_block (w := W) hh).trans h.f5⟩
theorem KM.toKm {R : Nat} {a b c d x y : Int} {W : World} (h : KM R a b c d x y W) : Km R a b c d x y W := ⟨h.lt, h.c0, h.c1, h.c2, h.c3, h.c4, h.c5⟩
theorem infoMo : (Try.prog.info? 60).map (fun i => (i.zero, i.size, i.bytes)) = some (some (.agg #[.int .i64 0, .int .i64 0, .int .i64 0, .int .i64 0, .int .i64 0, .int .i64 0]), 6, 48) := by kernel_rfl
theorem infoMo6 : (Try.prog.info? 36).map (fun i => (i.zero, i.size, i.bytes)) = some (some (.agg #[.int .i64 0, .int .i64 0, .int .i64 0, .int .i64 0, .int .i64 0, .int .i64 0]), 6, 48) := by kernel_rfl
theorem suit_ok (f A B C a b c d x y : Int) : suitB f A B C a b c d x y = okM f A B C (a, b, c, d, x, y) := rfl
def allOk (f A B C : Int) (xs : List M6) : Bool := xs.all (okM f A B C)
theorem allOk_take {f A B C : Int} {xs : List M6} {k : Nat} (h : k < xs.length) : allOk f A B C (xs.take (k + 1)) = (allOk f A B C (xs.take k) && okM f A B C xs[k]) := by
  unfold allOk
  rw [List.take_succ_eq_append_getElem h, List.all_append]; simp
theorem allOk_bad {f A B C : Int} {xs : List M6} {k : Nat} (h : k < xs.length) (hb : okM f A B C xs[k] = false) : allOk f A B C xs = false := by
  unfold allOk
  rw [List.all_eq_false]
  exact ⟨xs[k], List.getElem_mem h, by simp [hb]⟩
theorem ok_mid {f A B C a b c d x y : Int} (h : okM f A B C (a, b, c, d, x, y) = true) : latI A B C ∧ midI x ∧ midI y := by
  have h1 := (okM_iff.1 h)
  simp only [flB, Bool.and_eq_true] at h1
  have h2 := vecB_bd h1.2.2
  exact ⟨latB_iff.1 h1.1.2, by unfold midI; omega, by unfold midI; omega⟩
theorem redM_take {A B C : Int} {xs : List M6} {k : Nat} (h : k < xs.length) : (xs.take (k + 1)).map (redM A B C) = (xs.take k).map (redM A B C) ++ [redM A B C xs[k]] := by
  rw [List.take_succ_eq_append_getElem h, List.map_append]; rfl
def RedPost (f A B C : Int) (xs : List M6) (w : World) (e : Ending) (w' : World) : Prop :=
  ∃ v : Value, e = .returned (.tuple #[v, .int .i64 (cod6 f A B C (allOk f A B C xs))]) ∧ (bif flB f A B C && allOk f A B C xs then True else v = .slice none 0 0) ∧ (flB f A B C = true → allOk f A B C xs = true → w'.ownsRow w.heap.size 60 6 v xs.length (cells6 (xs.map (redM A B C)))) ∧ Below w.heap.size w w'
theorem ret_pair {v v' : Value} {a b : Int} (h : v = v') (hab : a = b) : Ending.returned (.tuple #[v, .int .i64 a]) = .returned (.tuple #[v', .int .i64 b]) := by rw [h, hab]
set_option maxRecDepth 100000 in
set_option maxHeartbeats 8000000 in
theorem redMs_any {lo hi : Nat} {v : Value} {xs : List M6} {w : World} (f A B C : Int) (h : SRow lo hi 6 v xs.length (fm xs) w) (hn : xs.length ≤ 1048576) :
    Calls Try.prog 25 #[.int .i64 f, .agg #[.int .i64 A, .int .i64 B, .int .i64 C], v] w (RedPost f A B C xs w) := by
  obtain ⟨i0, hi, hz0, hz1, hz2⟩ := info_parts infoMo
  have L0 : Kt w.heap.size A B C (w.alloc (.cells #[.int .i64 A, .int .i64 B, .int .i64 C] 31)) := Kt.at _ rfl
  have B0 : Below w.heap.size w (w.alloc (.cells #[.int .i64 A, .int .i64 B, .int .i64 C] 31)) := (Below.refl _ _).alloc (Nat.le_refl _) _
  rcases hf : frB f with _ | _
  · have hF : flB f A B C = false := by simp [flB, hf]
    have EA := Lib.hid (show cod6 f A B C (allOk f A B C xs) = 1 by simp [cod6, hF])
    have C1 := Lib.hid (fun W => implIsFrame_any f W)
    rw [hf] at C1
    clear h hn
    go_enter Try.func25, Try.ntmps25
    go_wp2_with fail
    refine (C1.out _).mono ?_
    rintro e w1 ⟨rfl, hb1⟩
    have B1 := bstep B0 hb1
    clear hb1
    go_wp2
    go_ret2
    exact ⟨_, ret_pair (by rfl) EA.out.symm, by simp [hF], fun h => by simp [hF] at h, by
      repeat (first | with_reducible assumption | with_reducible exact Below.refl _ _ | with_reducible refine Below.alloc ?_ (by first | omega | (simp <;> omega)) _ | with_reducible refine bstep ?_ (by with_reducible assumption) | with_reducible refine Below.drew ?_)⟩
  rcases hL : latB A B C with _ | _
  · have hF : flB f A B C = false := by simp [flB, hL]
    have EA := Lib.hid (show cod6 f A B C (allOk f A B C xs) = 1 by simp [cod6, hF])
    have C1 := Lib.hid (fun W => implIsFrame_any f W)
    have C2 := Lib.hid (fun W => isValidL_any A B C W)
    rw [hf] at C1
    rw [hL] at C2
    clear h hn
    go_enter Try.func25, Try.ntmps25
    go_wp2_with fail
    refine (C1.out _).mono ?_
    rintro e w1 ⟨rfl, hb1⟩
    have L1 := L0.call hb1
    have B1 := bstep B0 hb1
    clear hb1 L0 B0
    have L1c := L1.cells
    go_wp2_with fail
    refine (C2.out _).mono ?_
    rintro e w2 ⟨rfl, hb2⟩
    have B2 := bstep B1 hb2
    clear hb2
    go_wp2
    go_ret2
    exact ⟨_, ret_pair (by rfl) EA.out.symm, by simp [hF], fun h => by simp [hF] at h, by
      repeat (first | with_reducible assumption | with_reducible exact Below.refl _ _ | with_reducible refine Below.alloc ?_ (by first | omega | (simp <;> omega)) _ | with_reducible refine bstep ?_ (by with_reducible assumption) | with_reducible refine Below.drew ?_)⟩
  have hF : flB f A B C = true := by simp [flB, hf, hL]
  have C1 := Lib.hid (fun W => implIsFrame_any f W)
  have C2 := Lib.hid (fun W => isValidL_any A B C W)
  rw [hf] at C1
  rw [hL] at C2
  have HF := Lib.hid hF
  clear hf hL hF
  obtain ⟨_, _, h1⟩ := h
  have HN := Lib.hid hn
  clear hn
  by_cases hz : xs.length = 0
  · obtain ⟨ao, cap, rfl⟩ : ∃ ao cap, v = .slice ao 0 cap := by
      rcases h1 with ⟨_, h⟩ | ⟨g, cap, h, _⟩
      · exact h
      · exact ⟨_, cap, by rw [h, hz]⟩
    obtain rfl : xs = [] := List.length_eq_zero_iff.1 hz
    clear h1 hz
    go_enter Try.func25, Try.ntmps25
    go_wp2_with fail
    refine (C1.out _).mono ?_
    rintro e w1 ⟨rfl, hb1⟩
    have L1 := L0.call hb1
    have B1 := bstep B0 hb1
    clear hb1 L0 B0
    have L1c := L1.cells
    go_wp2_with fail
    refine (C2.out _).mono ?_
    rintro e w2 ⟨rfl, hb2⟩
    have B2 := bstep B1 hb2
    clear hb2
    go_wp2_with fail
    go_loopw [8, 21] (fun s i W => s = .slice none 0 0 ∧ i = .int .i64 ((0 : Nat) : Int) ∧ W = w2) (fun _ _ _ => 0)
    case atStart => exact ⟨rfl, rfl, rfl⟩
    case round =>
      obtain ⟨rfl, rfl, rfl⟩ := hrel
      have EA := Lib.hid (show cod6 f A B C (allOk f A B C []) = 0 by simp [cod6, HF.out, allOk])
      go_wp2
      go_ret2
      exact ⟨_, ret_pair (by rfl) EA.out.symm, by simp [HF.out, allOk], fun _ _ => own_nil6 _ _ _, B2⟩
  · obtain ⟨g, cap, rfl, _, hg, RA⟩ := h1.resolve_left (fun h => hz h.1)
    have hg0 : g < w.heap.size := by omega
    have HRA := Lib.hid (show IRow g (xs.length * 6) (fm xs) w ∧ g < w.heap.size from ⟨RA, hg0⟩)
    clear h1 hz RA hg hg0
    go_enter Try.func25, Try.ntmps25
    go_wp2_with fail
    refine (C1.out _).mono ?_
    rintro e w1 ⟨rfl, hb1⟩
    have L1 := L0.call hb1
    have B1 := bstep B0 hb1
    clear hb1 L0 B0
    have L1c := L1.cells
    go_wp2_with fail
    refine (C2.out _).mono ?_
    rintro e w2 ⟨rfl, hb2⟩
    have B2 := bstep B1 hb2
    have L2 := L1.call hb2
    clear hb2 L1 B1 L1c C1 C2
    go_wp2_with fail
    go_loopw [8, 21] (fun s i W => ∃ k : Nat, i = .int .i64 (k : Int) ∧ k ≤ xs.length ∧ allOk f A B C (xs.take k) = true ∧ Kt w.heap.size A B C W ∧ W.ownsRow (w.heap.size + 1) 60 6 s ((xs.take k).map (redM A B C)).length (cells6 ((xs.take k).map (redM A B C))) ∧ Below w.heap.size w W) (fun _ i _ => xs.length - (intOf i).toNat)
    case atStart => exact ⟨0, rfl, by omega, by simp [allOk], L2, own_nil6 _ _ _, B2⟩
    case round =>
      clear B2 L2
      obtain ⟨k, rfl, hk, hok, hL, hown, hB⟩ := hrel
      by_cases hk1 : k < xs.length
      · have hk2 : (k : Int) < (xs.length : Int) := by omega
        have hn := HN.out
        have hk3 : (k : Int) ≤ 1048576 := by omega
        have q1 := (HRA.out.1.grow hB HRA.out.2).mo k hk1
        have HM := Lib.hid (redM_take (A := A) (B := B) (C := C) hk1)
        have HO := Lib.hid (allOk_take (f := f) (A := A) (B := B) (C := C) hk1)
        have HBd := Lib.hid (fun hb => allOk_bad (f := f) (A := A) (B := B) (C := C) hk1 hb)
        have HK := Lib.hid hk1
        have HT := Lib.hid (show ((xs.take k).map (redM A B C)).length = k by simp; omega)
        have HOK := Lib.hid hok
        generalize xs[k] = m at q1 HM HO HBd
        obtain ⟨a, b, c, d, x, y⟩ := m
        dsimp only at q1
        have zB := hB.size
        have HQ0 : Hid (∀ r, u8.ownBlock = some r → w.heap.size + 1 ≤ r ∧ r < wr.heap.size) := Lib.hid (fun r hr => hown.lt r hr)
        have CS := Lib.hid (fun W => implSuit_any f A B C a b c d x y W)
        rw [suit_ok] at CS
        obtain ⟨q10, q11, q12, q13, q14, q15, q16⟩ := id q1
        have hLl := hL.1
        have X0 : KM wr.heap.size a b c d x y (wr.alloc (.cells #[.int .i64 a, .int .i64 b, .int .i64 c, .int .i64 d, .int .i64 x, .int .i64 y] 36)) := KM.at _ rfl
        have L3 : Kt w.heap.size A B C (wr.alloc (.cells #[.int .i64 a, .int .i64 b, .int .i64 c, .int .i64 d, .int .i64 x, .int .i64 y] 36)) := hL.alloc _
        have O3 : (wr.alloc (.cells #[.int .i64 a, .int .i64 b, .int .i64 c, .int .i64 d, .int .i64 x, .int .i64 y] 36)).ownsRow (w.heap.size + 1) 60 6 u8 ((xs.take k).map (redM A B C)).length (cells6 ((xs.take k).map (redM A B C))) := hown.alloc _
        have B3 : Below w.heap.size w (wr.alloc (.cells #[.int .i64 a, .int .i64 b, .int .i64 c, .int .i64 d, .int .i64 x, .int .i64 y] 36)) := hB.alloc hB.size _
        have X0c := X0.cells5
        have L3c := L3.cells
        clear hk hk1 hok hL hown hB
        go_wp2_with fail
        refine (CS.out _).mono ?_
        rintro e w3 ⟨rfl, hb3⟩
        have X4 : KM wr.heap.size a b c d x y w3 := X0.call hb3
        have L4 := L3.call hb3
        have O4 := ownsRow_call O3 hb3
        have B4 := bstep B3 hb3
        clear hb3 X0 L3 O3 B3 X0c L3c q1 q10 q11 q12 q13 q14 q15 q16 CS
        have X4c := X4.cells5
        have L4c := L4.cells
        have X4l := X4.lt
        rcases hs : okM f A B C (a, b, c, d, x, y) with _ | _
        · have hbad := HBd.out hs
          have EA := Lib.hid (show cod6 f A B C (allOk f A B C xs) = 2 by simp [cod6, HF.out, hbad])
          have HBAD := Lib.hid hbad
          clear hbad hs
          go_wp2
          go_ret2
          exact ⟨_, ret_pair (by rfl) EA.out.symm, by simp [HBAD.out], fun _ h => (by (have hh := HBAD.out); rw [h] at hh; cases hh), B4⟩
        · obtain ⟨hl, hx, hy⟩ := ok_mid hs
          have HS := Lib.hid hs
          have HQ : Hid (∀ r, u8.ownBlock = some r → w.heap.size + 1 ≤ r ∧ r < wr.heap.size) := Lib.hid (fun r hr => HQ0.out r hr)
          have CR : Hid (∀ W, Calls Try.prog 47 #[.agg #[.int .i64 a, .int .i64 b, .int .i64 c, .int .i64 d, .int .i64 x, .int .i64 y], .agg #[.int .i64 A, .int .i64 B, .int .i64 C]] W fun e w' => e = .returned (.agg #[.int .i64 a, .int .i64 b, .int .i64 c, .int .i64 d, .int .i64 (redX A B C x y), .int .i64 (redY C y)]) ∧ Below W.heap.size W w') := Lib.hid (fun W => reducedMo_any A B C a b c d x y W hl hx hy)
          have HR : Hid (redM A B C (a, b, c, d, x, y) = (a, b, c, d, redX A B C x y, redY C y)) := Lib.hid rfl
          generalize redX A B C x y = p at CR HR
          generalize redY C y = q at CR HR
          clear hs hl hx hy
          generalize hys : (xs.take k).map (redM A B C) = ys at *
          have HYS := Lib.hid hys
          clear hys
          have HW := Lib.hid zB
          have HXL : Hid (ys.length ≤ 1048576) := Lib.hid (by rw [HT.out]; omega)
          go_wp2_with fail
          go_region_held3 (fun W => (W.cell? ⟨wr.heap.size, 0, none⟩ = some (.int .i64 a) ∧ W.cell? ⟨wr.heap.size, 1, none⟩ = some (.int .i64 b) ∧ W.cell? ⟨wr.heap.size, 2, none⟩ = some (.int .i64 c) ∧ W.cell? ⟨wr.heap.size, 3, none⟩ = some (.int .i64 d) ∧ W.cell? ⟨wr.heap.size, 4, none⟩ = some (.int .i64 x) ∧ W.cell? ⟨wr.heap.size, 5, none⟩ = some (.int .i64 y)) ∧ (W.cell? ⟨w.heap.size, 0, none⟩ = some (.int .i64 A) ∧ W.cell? ⟨w.heap.size, 1, none⟩ = some (.int .i64 B) ∧ W.cell? ⟨w.heap.size, 2, none⟩ = some (.int .i64 C))) ((refine And.intro (KM.cells5 ?_) (Kt.cells ?_)) <;> repeat (first | with_reducible assumption | with_reducible refine KM.drew ?_ | with_reducible refine KM.alloc ?_ _ | with_reducible refine KM.call ?_ (by with_reducible assumption) | with_reducible refine Km.drew ?_ | with_reducible refine Km.alloc ?_ _ | with_reducible refine Km.call ?_ (by with_reducible assumption) | with_reducible refine Kt.drew ?_ | with_reducible refine Kt.alloc ?_ _ | with_reducible refine Kt.call ?_ (by with_reducible assumption)))
            (first
              | (go_at_call 46; with_reducible refine (motionOf_any _ _ _ _ _ _ _).mono ?_; rintro e u1 ⟨rfl, hb1⟩; have XX1 : KM wr.heap.size a b c d x y u1 := (by repeat (first | with_reducible assumption | with_reducible refine KM.drew ?_ | with_reducible refine KM.alloc ?_ _ | with_reducible refine KM.call ?_ (by with_reducible assumption) | with_reducible refine Km.drew ?_ | with_reducible refine Km.alloc ?_ _ | with_reducible refine Km.call ?_ (by with_reducible assumption) | with_reducible refine Kt.drew ?_ | with_reducible refine Kt.alloc ?_ _ | with_reducible refine Kt.call ?_ (by with_reducible assumption))); have LL1 : Kt w.heap.size A B C u1 := (by repeat (first | with_reducible assumption | with_reducible refine KM.drew ?_ | with_reducible refine KM.alloc ?_ _ | with_reducible refine KM.call ?_ (by with_reducible assumption) | with_reducible refine Km.drew ?_ | with_reducible refine Km.alloc ?_ _ | with_reducible refine Km.call ?_ (by with_reducible assumption) | with_reducible refine Kt.drew ?_ | with_reducible refine Kt.alloc ?_ _ | with_reducible refine Kt.call ?_ (by with_reducible assumption))); have OO1 : u1.ownsRow (w.heap.size + 1) 60 6 u8 ys.length (cells6 ys) := (by repeat (first | with_reducible assumption | with_reducible refine ownsRow_call ?_ (by with_reducible assumption) | with_reducible refine ownsRow_call ?_ (Below.drew (Below.refl _ _)) | with_reducible refine ownsRow_call ?_ (Below.alloc (Below.refl _ _) (Nat.le_refl _) _))); have BB1 : Below w.heap.size w u1 := (by repeat (first | with_reducible assumption | with_reducible exact Below.refl _ _ | with_reducible refine Below.alloc ?_ (by first | omega | (simp <;> omega)) _ | with_reducible refine bstep ?_ (by with_reducible assumption) | with_reducible refine Below.drew ?_)))
              | (go_at_call 47; with_reducible refine (CR.out _).mono ?_; rintro e u2 ⟨rfl, hb2⟩; have XX2 : KM wr.heap.size a b c d x y u2 := (by repeat (first | with_reducible assumption | with_reducible refine KM.drew ?_ | with_reducible refine KM.alloc ?_ _ | with_reducible refine KM.call ?_ (by with_reducible assumption) | with_reducible refine Km.drew ?_ | with_reducible refine Km.alloc ?_ _ | with_reducible refine Km.call ?_ (by with_reducible assumption) | with_reducible refine Kt.drew ?_ | with_reducible refine Kt.alloc ?_ _ | with_reducible refine Kt.call ?_ (by with_reducible assumption))); have LL2 : Kt w.heap.size A B C u2 := (by repeat (first | with_reducible assumption | with_reducible refine KM.drew ?_ | with_reducible refine KM.alloc ?_ _ | with_reducible refine KM.call ?_ (by with_reducible assumption) | with_reducible refine Km.drew ?_ | with_reducible refine Km.alloc ?_ _ | with_reducible refine Km.call ?_ (by with_reducible assumption) | with_reducible refine Kt.drew ?_ | with_reducible refine Kt.alloc ?_ _ | with_reducible refine Kt.call ?_ (by with_reducible assumption))); have OO2 : u2.ownsRow (w.heap.size + 1) 60 6 u8 ys.length (cells6 ys) := (by repeat (first | with_reducible assumption | with_reducible refine ownsRow_call ?_ (by with_reducible assumption) | with_reducible refine ownsRow_call ?_ (Below.drew (Below.refl _ _)) | with_reducible refine ownsRow_call ?_ (Below.alloc (Below.refl _ _) (Nat.le_refl _) _))); have BB2 : Below w.heap.size w u2 := (by repeat (first | with_reducible assumption | with_reducible exact Below.refl _ _ | with_reducible refine Below.alloc ?_ (by first | omega | (simp <;> omega)) _ | with_reducible refine bstep ?_ (by with_reducible assumption) | with_reducible refine Below.drew ?_)); have zz2 := BB2.size)
              | (rw [if_pos (by rfl)]; refine wp_append_own _ _ _ 55 rfl (w.heap.size + 1) 60 i0 (.agg #[.int .i64 0, .int .i64 0, .int .i64 0, .int .i64 0, .int .i64 0, .int .i64 0]) 6 48 Try.underlying55 hi hz0 hz1 hz2 rfl (by decide) _ _ _ rfl (OO2.alloc _) ⟨u2.heap.size, 0, none⟩ 1 1 [.int .i64 a, .int .i64 b, .int .i64 c, .int .i64 d, .int .i64 p, .int .i64 q] rfl rfl (new_six _ _ _ _ _ _ _ rfl) one_six (by have := HXL.out; unfold maxLen; omega) (by have := HXL.out; omega) (by (have := XX2.lt; have := HW.out); simp <;> omega) ?_; intro v9 w9 hown9 hgrow _; have OO9 : w9.ownsRow (w.heap.size + 1) 60 6 v9 (ys ++ [(a, b, c, d, p, q)]).length (cells6 (ys ++ [(a, b, c, d, p, q)])) := own_next6 hown9; have BB9 : Below w.heap.size w w9 := Below.grown (BB2.alloc zz2 _) hgrow (by (have := HW.out; have := XX2.lt); simp; omega) (fun r hr => by have := (OO2.lt r hr).1; omega); have LL9 : Kt w.heap.size A B C w9 := Kt.grown (Kt.alloc LL2 _) hgrow (fun e => by have := HQ.out _ e.symm; omega); have XX9 : KM wr.heap.size a b c d x y w9 := KM.grown (KM.alloc XX2 _) hgrow (fun e => by have := HQ.out _ e.symm; omega)))
          all_goals
            clear XX1 LL1 OO1 BB1 XX2 LL2 OO2 BB2 zz2 hgrow hown9
            have h9 := OO9
            have hl9 := LL9
            have hb9 := BB9
            clear OO9 LL9 BB9 XX9
            go_wp2
            go_roundw
            case rel => exact ⟨k + 1, by go_num, by have := HK.out; omega, by rw [HO.out, HOK.out, HS.out]; rfl, hl9, by rw [HM.out, HR.out]; exact h9, hb9⟩
            case measure => (have := HK.out); first | (simp [intOf]; done) | (simp [intOf]; omega)
      · obtain rfl : k = xs.length := by omega
        rw [List.take_length] at hown hok
        have EA := Lib.hid (show cod6 f A B C (allOk f A B C xs) = 0 by simp [cod6, HF.out, hok])
        have HOK := Lib.hid hok
        clear hk hk1 hL hok
        go_wp2
        go_ret2
        exact ⟨_, ret_pair (by rfl) EA.out.symm, by simp [HF.out, HOK.out], fun _ _ => by rw [List.length_map] at hown; exact ownsRow_lower hown (by omega), hB⟩

theorem SRow.one6 {W : World} {g : Nat} {T : TypeId} {a b c d x y : Int} (hg : g = W.heap.size) : SRow g (g + 1) 6 (.slice (some ⟨g, 0, none⟩) ([(a, b, c, d, x, y)] : List M6).length 1) ([(a, b, c, d, x, y)] : List M6).length (fm [(a, b, c, d, x, y)]) (W.alloc (.cells #[.int .i64 a, .int .i64 b, .int .i64 c, .int .i64 d, .int .i64 x, .int .i64 y] T)) := by
  have h : KM g a b c d x y (W.alloc (.cells #[.int .i64 a, .int .i64 b, .int .i64 c, .int .i64 d, .int .i64 x, .int .i64 y] T)) := KM.at g hg
  refine ⟨by subst hg; simp, by simp, .inr ⟨g, 1, rfl, Nat.le_refl _, by omega, h.lt, fun t ht => ?_⟩⟩
  have ht' : t < 6 := by simpa using ht
  obtain rfl | rfl | rfl | rfl | rfl | rfl : t = 0 ∨ t = 1 ∨ t = 2 ∨ t = 3 ∨ t = 4 ∨ t = 5 := by omega
  · exact ⟨h.c0, h.f0⟩
  · exact ⟨h.c1, h.f1⟩
  · exact ⟨h.c2, h.f2⟩
  · exact ⟨h.c3, h.f3⟩
  · exact ⟨h.c4, h.f4⟩
  · exact ⟨h.c5, h.f5⟩
def rdR (f A B C : Int) (m : M6) : M6 × Int := bif okM f A B C m then (redM A B C m, 0) else ((0, 0, 0, 0, 0, 0), cod6 f A B C false)
def rdT (r : M6 × Int) : Value := .tuple #[.agg #[.int .i64 (r.1.1), .int .i64 (r.1.2.1), .int .i64 (r.1.2.2.1), .int .i64 (r.1.2.2.2.1), .int .i64 (r.1.2.2.2.2.1), .int .i64 (r.1.2.2.2.2.2)], .int .i64 r.2]
theorem ok_fl {f A B C : Int} {m : M6} (h : okM f A B C m = true) : flB f A B C = true := (okM_iff.1 h).1
theorem allOk_one (f A B C : Int) (m : M6) : allOk f A B C [m] = okM f A B C m := by simp [allOk]
theorem row_one {W : World} {lo : Nat} {T : TypeId} {v : Value} {m : M6} (h : W.ownsRow lo T 6 v ([m] : List M6).length (cells6 [m])) : ∃ g cap, v = .slice (some ⟨g, 0, none⟩) 1 cap ∧ lo ≤ g ∧ Km g m.1 m.2.1 m.2.2.1 m.2.2.2.1 m.2.2.2.2.1 m.2.2.2.2.2 W := by
  have hs := SRow.of6 h (by simp)
  obtain ⟨g, cap, e, hl, _, r⟩ := hs.2.2.resolve_left (fun h => by simp at h)
  have q := r.mo 0 (by simp)
  obtain ⟨q0, q1, q2, q3, q4, q5, q6⟩ := q
  exact ⟨g, cap, e, hl, q0, q1, by simpa using q2, by simpa using q3, by simpa using q4, by simpa using q5, by simpa using q6⟩
set_option maxRecDepth 100000 in
set_option maxRecDepth 100000 in
set_option maxHeartbeats 8000000 in
theorem specRdm_any (f A B C a b c d x y : Int) (w : World) :
    Calls Try.prog 9 #[.int .i64 f, .agg #[.int .i64 A, .int .i64 B, .int .i64 C], .agg #[.int .i64 a, .int .i64 b, .int .i64 c, .int .i64 d, .int .i64 x, .int .i64 y]] w fun e w' => e = .returned (rdT (rdR f A B C (a, b, c, d, x, y))) ∧ Below w.heap.size w w' := by
  have CS := Lib.hid (fun W => specSuit_any f A B C a b c d x y W)
  have CC := Lib.hid (fun W => l06Code_any f A B C (okM f A B C (a, b, c, d, x, y)) W)
  rw [suit_ok] at CS
  rcases hs : okM f A B C (a, b, c, d, x, y) with _ | _
  · rw [hs] at CS CC
    rcases hF : flB f A B C with _ | _
    · have EA := Lib.hid (ret_val (show .tuple #[.agg #[.int .i64 0, .int .i64 0, .int .i64 0, .int .i64 0, .int .i64 0, .int .i64 0], .int .i64 1] = rdT (rdR f A B C (a, b, c, d, x, y)) by simp [rdT, rdR, hs, cod6, hF]))
      simp only [show cod6 f A B C false = 1 by simp [cod6, hF]] at CC
      have L0 : Kt (w.heap.size) A B C (((w.alloc (.cells #[.int .i64 A, .int .i64 B, .int .i64 C] 31)).alloc (.cells #[.int .i64 a, .int .i64 b, .int .i64 c, .int .i64 d, .int .i64 x, .int .i64 y] 36)).alloc (.cells #[.int .i64 0, .int .i64 0, .int .i64 0, .int .i64 0, .int .i64 0, .int .i64 0] 36)) := (((Kt.at (w.heap.size) rfl).alloc _).alloc _)
      have M0 : Km (w.heap.size + 1) a b c d x y (((w.alloc (.cells #[.int .i64 A, .int .i64 B, .int .i64 C] 31)).alloc (.cells #[.int .i64 a, .int .i64 b, .int .i64 c, .int .i64 d, .int .i64 x, .int .i64 y] 36)).alloc (.cells #[.int .i64 0, .int .i64 0, .int .i64 0, .int .i64 0, .int .i64 0, .int .i64 0] 36)) := ((Km.at (w.heap.size + 1) (by simp)).alloc _)
      have R0 : KM (w.heap.size + 1 + 1) 0 0 0 0 0 0 (((w.alloc (.cells #[.int .i64 A, .int .i64 B, .int .i64 C] 31)).alloc (.cells #[.int .i64 a, .int .i64 b, .int .i64 c, .int .i64 d, .int .i64 x, .int .i64 y] 36)).alloc (.cells #[.int .i64 0, .int .i64 0, .int .i64 0, .int .i64 0, .int .i64 0, .int .i64 0] 36)) := (KM.at (w.heap.size + 1 + 1) (by simp))
      have B0 : Below w.heap.size w (((w.alloc (.cells #[.int .i64 A, .int .i64 B, .int .i64 C] 31)).alloc (.cells #[.int .i64 a, .int .i64 b, .int .i64 c, .int .i64 d, .int .i64 x, .int .i64 y] 36)).alloc (.cells #[.int .i64 0, .int .i64 0, .int .i64 0, .int .i64 0, .int .i64 0, .int .i64 0] 36)) := (Below.alloc (Below.alloc (Below.alloc (Below.refl _ _) (by first | with_reducible exact Nat.le_refl _ | (simp <;> omega)) _) (by first | with_reducible exact Nat.le_refl _ | (simp <;> omega)) _) (by first | with_reducible exact Nat.le_refl _ | (simp <;> omega)) _)
      go_enter Try.func9, Try.ntmps9
      have L0lt := L0.1
      have M0lt := M0.1
      have R0lt := R0.lt
      go_wp2_with fail
      go_region_held3 (fun W => (W.cell? ⟨w.heap.size, 0, none⟩ = some (.int .i64 A) ∧ W.cell? ⟨w.heap.size, 1, none⟩ = some (.int .i64 B) ∧ W.cell? ⟨w.heap.size, 2, none⟩ = some (.int .i64 C)) ∧ (W.cell? ⟨w.heap.size + 1, 0, none⟩ = some (.int .i64 a) ∧ W.cell? ⟨w.heap.size + 1, 1, none⟩ = some (.int .i64 b) ∧ W.cell? ⟨w.heap.size + 1, 2, none⟩ = some (.int .i64 c) ∧ W.cell? ⟨w.heap.size + 1, 3, none⟩ = some (.int .i64 d) ∧ W.cell? ⟨w.heap.size + 1, 4, none⟩ = some (.int .i64 x) ∧ W.cell? ⟨w.heap.size + 1, 5, none⟩ = some (.int .i64 y))) ((refine ⟨Kt.cells ?_, Km.cells ?_⟩ <;> repeat (first | with_reducible assumption | with_reducible refine KM.drew ?_ | with_reducible refine KM.alloc ?_ _ | with_reducible refine KM.call ?_ (by with_reducible assumption) | with_reducible refine Km.drew ?_ | with_reducible refine Km.alloc ?_ _ | with_reducible refine Km.call ?_ (by with_reducible assumption) | with_reducible refine Kt.drew ?_ | with_reducible refine Kt.alloc ?_ _ | with_reducible refine Kt.call ?_ (by with_reducible assumption) | ((with_reducible refine KM.put ?_ ?_); (first | omega | (dsimp only; omega))) | ((with_reducible refine Km.put ?_ ?_); (first | omega | (dsimp only; omega))) | ((with_reducible refine Kt.put ?_ ?_); (first | omega | (dsimp only; omega))) | ((with_reducible refine KM.far ?_ ?_); (first | omega | (dsimp only; omega))) | ((with_reducible refine Km.far ?_ ?_); (first | omega | (dsimp only; omega))))))
        (first
          | (go_at_call 5; ((with_reducible refine (CS.out _).mono ?_); rintro e w1 ⟨rfl, hb1⟩; have L1 : Kt (w.heap.size) A B C w1 := (by repeat (first | with_reducible assumption | with_reducible refine KM.drew ?_ | with_reducible refine KM.alloc ?_ _ | with_reducible refine KM.call ?_ (by with_reducible assumption) | with_reducible refine Km.drew ?_ | with_reducible refine Km.alloc ?_ _ | with_reducible refine Km.call ?_ (by with_reducible assumption) | with_reducible refine Kt.drew ?_ | with_reducible refine Kt.alloc ?_ _ | with_reducible refine Kt.call ?_ (by with_reducible assumption))); have M1 : Km (w.heap.size + 1) a b c d x y w1 := (by repeat (first | with_reducible assumption | with_reducible refine KM.drew ?_ | with_reducible refine KM.alloc ?_ _ | with_reducible refine KM.call ?_ (by with_reducible assumption) | with_reducible refine Km.drew ?_ | with_reducible refine Km.alloc ?_ _ | with_reducible refine Km.call ?_ (by with_reducible assumption) | with_reducible refine Kt.drew ?_ | with_reducible refine Kt.alloc ?_ _ | with_reducible refine Kt.call ?_ (by with_reducible assumption))); have R1 : KM (w.heap.size + 1 + 1) 0 0 0 0 0 0 w1 := (by repeat (first | with_reducible assumption | with_reducible refine KM.drew ?_ | with_reducible refine KM.alloc ?_ _ | with_reducible refine KM.call ?_ (by with_reducible assumption) | with_reducible refine Km.drew ?_ | with_reducible refine Km.alloc ?_ _ | with_reducible refine Km.call ?_ (by with_reducible assumption) | with_reducible refine Kt.drew ?_ | with_reducible refine Kt.alloc ?_ _ | with_reducible refine Kt.call ?_ (by with_reducible assumption))); have L1l := L1.1; have M1l := M1.1; have R1c0 := R1.c0; have R1f0 := R1.f0; have R1c1 := R1.c1; have R1f1 := R1.f1; have R1c2 := R1.c2; have R1f2 := R1.f2; have R1c3 := R1.c3; have R1f3 := R1.f3; have R1c4 := R1.c4; have R1f4 := R1.f4; have R1c5 := R1.c5; have R1f5 := R1.f5; have R1l := R1.lt; have B1 : Below w.heap.size w w1 := (by repeat (first | with_reducible assumption | with_reducible refine Below.drew ?_ | with_reducible refine Below.alloc ?_ (by first | omega | (have := B0.size; simp <;> omega)) _ | with_reducible refine bstep ?_ (by with_reducible assumption)))))
          | (go_at_call 23; ((with_reducible refine (CC.out _).mono ?_); rintro e w2 ⟨rfl, hb2⟩; have L2 : Kt (w.heap.size) A B C w2 := (by repeat (first | with_reducible assumption | with_reducible refine KM.drew ?_ | with_reducible refine KM.alloc ?_ _ | with_reducible refine KM.call ?_ (by with_reducible assumption) | with_reducible refine Km.drew ?_ | with_reducible refine Km.alloc ?_ _ | with_reducible refine Km.call ?_ (by with_reducible assumption) | with_reducible refine Kt.drew ?_ | with_reducible refine Kt.alloc ?_ _ | with_reducible refine Kt.call ?_ (by with_reducible assumption))); have M2 : Km (w.heap.size + 1) a b c d x y w2 := (by repeat (first | with_reducible assumption | with_reducible refine KM.drew ?_ | with_reducible refine KM.alloc ?_ _ | with_reducible refine KM.call ?_ (by with_reducible assumption) | with_reducible refine Km.drew ?_ | with_reducible refine Km.alloc ?_ _ | with_reducible refine Km.call ?_ (by with_reducible assumption) | with_reducible refine Kt.drew ?_ | with_reducible refine Kt.alloc ?_ _ | with_reducible refine Kt.call ?_ (by with_reducible assumption))); have R2 : KM (w.heap.size + 1 + 1) 0 0 0 0 0 0 w2 := (by repeat (first | with_reducible assumption | with_reducible refine KM.drew ?_ | with_reducible refine KM.alloc ?_ _ | with_reducible refine KM.call ?_ (by with_reducible assumption) | with_reducible refine Km.drew ?_ | with_reducible refine Km.alloc ?_ _ | with_reducible refine Km.call ?_ (by with_reducible assumption) | with_reducible refine Kt.drew ?_ | with_reducible refine Kt.alloc ?_ _ | with_reducible refine Kt.call ?_ (by with_reducible assumption))); have L2l := L2.1; have M2l := M2.1; have R2c0 := R2.c0; have R2f0 := R2.f0; have R2c1 := R2.c1; have R2f1 := R2.f1; have R2c2 := R2.c2; have R2f2 := R2.f2; have R2c3 := R2.c3; have R2f3 := R2.f3; have R2c4 := R2.c4; have R2f4 := R2.f4; have R2c5 := R2.c5; have R2f5 := R2.f5; have R2l := R2.lt; have B2 : Below w.heap.size w w2 := (by repeat (first | with_reducible assumption | with_reducible refine Below.drew ?_ | with_reducible refine Below.alloc ?_ (by first | omega | (have := B0.size; simp <;> omega)) _ | with_reducible refine bstep ?_ (by with_reducible assumption))))))
      all_goals
        go_wp2
        refine bodyPost_ret (v := .tuple #[.agg #[.int .i64 0, .int .i64 0, .int .i64 0, .int .i64 0, .int .i64 0, .int .i64 0], .int .i64 1]) (by simp [results, Try.results9, go_sem, *]) rfl ⟨EA.out, ?_⟩
        repeat (first | with_reducible assumption | with_reducible exact Below.refl _ _ | with_reducible refine Below.setCell ?_ (by first | omega | (simp <;> omega)) _ | with_reducible refine Below.alloc ?_ (by first | omega | (simp <;> omega)) _ | with_reducible refine bstep ?_ (by with_reducible assumption) | with_reducible refine Below.drew ?_)
    · have EA := Lib.hid (ret_val (show .tuple #[.agg #[.int .i64 0, .int .i64 0, .int .i64 0, .int .i64 0, .int .i64 0, .int .i64 0], .int .i64 2] = rdT (rdR f A B C (a, b, c, d, x, y)) by simp [rdT, rdR, hs, cod6, hF]))
      simp only [show cod6 f A B C false = 2 by simp [cod6, hF]] at CC
      have L0 : Kt (w.heap.size) A B C (((w.alloc (.cells #[.int .i64 A, .int .i64 B, .int .i64 C] 31)).alloc (.cells #[.int .i64 a, .int .i64 b, .int .i64 c, .int .i64 d, .int .i64 x, .int .i64 y] 36)).alloc (.cells #[.int .i64 0, .int .i64 0, .int .i64 0, .int .i64 0, .int .i64 0, .int .i64 0] 36)) := (((Kt.at (w.heap.size) rfl).alloc _).alloc _)
      have M0 : Km (w.heap.size + 1) a b c d x y (((w.alloc (.cells #[.int .i64 A, .int .i64 B, .int .i64 C] 31)).alloc (.cells #[.int .i64 a, .int .i64 b, .int .i64 c, .int .i64 d, .int .i64 x, .int .i64 y] 36)).alloc (.cells #[.int .i64 0, .int .i64 0, .int .i64 0, .int .i64 0, .int .i64 0, .int .i64 0] 36)) := ((Km.at (w.heap.size + 1) (by simp)).alloc _)
      have R0 : KM (w.heap.size + 1 + 1) 0 0 0 0 0 0 (((w.alloc (.cells #[.int .i64 A, .int .i64 B, .int .i64 C] 31)).alloc (.cells #[.int .i64 a, .int .i64 b, .int .i64 c, .int .i64 d, .int .i64 x, .int .i64 y] 36)).alloc (.cells #[.int .i64 0, .int .i64 0, .int .i64 0, .int .i64 0, .int .i64 0, .int .i64 0] 36)) := (KM.at (w.heap.size + 1 + 1) (by simp))
      have B0 : Below w.heap.size w (((w.alloc (.cells #[.int .i64 A, .int .i64 B, .int .i64 C] 31)).alloc (.cells #[.int .i64 a, .int .i64 b, .int .i64 c, .int .i64 d, .int .i64 x, .int .i64 y] 36)).alloc (.cells #[.int .i64 0, .int .i64 0, .int .i64 0, .int .i64 0, .int .i64 0, .int .i64 0] 36)) := (Below.alloc (Below.alloc (Below.alloc (Below.refl _ _) (by first | with_reducible exact Nat.le_refl _ | (simp <;> omega)) _) (by first | with_reducible exact Nat.le_refl _ | (simp <;> omega)) _) (by first | with_reducible exact Nat.le_refl _ | (simp <;> omega)) _)
      go_enter Try.func9, Try.ntmps9
      have L0lt := L0.1
      have M0lt := M0.1
      have R0lt := R0.lt
      go_wp2_with fail
      go_region_held3 (fun W => (W.cell? ⟨w.heap.size, 0, none⟩ = some (.int .i64 A) ∧ W.cell? ⟨w.heap.size, 1, none⟩ = some (.int .i64 B) ∧ W.cell? ⟨w.heap.size, 2, none⟩ = some (.int .i64 C)) ∧ (W.cell? ⟨w.heap.size + 1, 0, none⟩ = some (.int .i64 a) ∧ W.cell? ⟨w.heap.size + 1, 1, none⟩ = some (.int .i64 b) ∧ W.cell? ⟨w.heap.size + 1, 2, none⟩ = some (.int .i64 c) ∧ W.cell? ⟨w.heap.size + 1, 3, none⟩ = some (.int .i64 d) ∧ W.cell? ⟨w.heap.size + 1, 4, none⟩ = some (.int .i64 x) ∧ W.cell? ⟨w.heap.size + 1, 5, none⟩ = some (.int .i64 y))) ((refine ⟨Kt.cells ?_, Km.cells ?_⟩ <;> repeat (first | with_reducible assumption | with_reducible refine KM.drew ?_ | with_reducible refine KM.alloc ?_ _ | with_reducible refine KM.call ?_ (by with_reducible assumption) | with_reducible refine Km.drew ?_ | with_reducible refine Km.alloc ?_ _ | with_reducible refine Km.call ?_ (by with_reducible assumption) | with_reducible refine Kt.drew ?_ | with_reducible refine Kt.alloc ?_ _ | with_reducible refine Kt.call ?_ (by with_reducible assumption) | ((with_reducible refine KM.put ?_ ?_); (first | omega | (dsimp only; omega))) | ((with_reducible refine Km.put ?_ ?_); (first | omega | (dsimp only; omega))) | ((with_reducible refine Kt.put ?_ ?_); (first | omega | (dsimp only; omega))) | ((with_reducible refine KM.far ?_ ?_); (first | omega | (dsimp only; omega))) | ((with_reducible refine Km.far ?_ ?_); (first | omega | (dsimp only; omega))))))
        (first
          | (go_at_call 5; ((with_reducible refine (CS.out _).mono ?_); rintro e w1 ⟨rfl, hb1⟩; have L1 : Kt (w.heap.size) A B C w1 := (by repeat (first | with_reducible assumption | with_reducible refine KM.drew ?_ | with_reducible refine KM.alloc ?_ _ | with_reducible refine KM.call ?_ (by with_reducible assumption) | with_reducible refine Km.drew ?_ | with_reducible refine Km.alloc ?_ _ | with_reducible refine Km.call ?_ (by with_reducible assumption) | with_reducible refine Kt.drew ?_ | with_reducible refine Kt.alloc ?_ _ | with_reducible refine Kt.call ?_ (by with_reducible assumption))); have M1 : Km (w.heap.size + 1) a b c d x y w1 := (by repeat (first | with_reducible assumption | with_reducible refine KM.drew ?_ | with_reducible refine KM.alloc ?_ _ | with_reducible refine KM.call ?_ (by with_reducible assumption) | with_reducible refine Km.drew ?_ | with_reducible refine Km.alloc ?_ _ | with_reducible refine Km.call ?_ (by with_reducible assumption) | with_reducible refine Kt.drew ?_ | with_reducible refine Kt.alloc ?_ _ | with_reducible refine Kt.call ?_ (by with_reducible assumption))); have R1 : KM (w.heap.size + 1 + 1) 0 0 0 0 0 0 w1 := (by repeat (first | with_reducible assumption | with_reducible refine KM.drew ?_ | with_reducible refine KM.alloc ?_ _ | with_reducible refine KM.call ?_ (by with_reducible assumption) | with_reducible refine Km.drew ?_ | with_reducible refine Km.alloc ?_ _ | with_reducible refine Km.call ?_ (by with_reducible assumption) | with_reducible refine Kt.drew ?_ | with_reducible refine Kt.alloc ?_ _ | with_reducible refine Kt.call ?_ (by with_reducible assumption))); have L1l := L1.1; have M1l := M1.1; have R1c0 := R1.c0; have R1f0 := R1.f0; have R1c1 := R1.c1; have R1f1 := R1.f1; have R1c2 := R1.c2; have R1f2 := R1.f2; have R1c3 := R1.c3; have R1f3 := R1.f3; have R1c4 := R1.c4; have R1f4 := R1.f4; have R1c5 := R1.c5; have R1f5 := R1.f5; have R1l := R1.lt; have B1 : Below w.heap.size w w1 := (by repeat (first | with_reducible assumption | with_reducible refine Below.drew ?_ | with_reducible refine Below.alloc ?_ (by first | omega | (have := B0.size; simp <;> omega)) _ | with_reducible refine bstep ?_ (by with_reducible assumption)))))
          | (go_at_call 23; ((with_reducible refine (CC.out _).mono ?_); rintro e w2 ⟨rfl, hb2⟩; have L2 : Kt (w.heap.size) A B C w2 := (by repeat (first | with_reducible assumption | with_reducible refine KM.drew ?_ | with_reducible refine KM.alloc ?_ _ | with_reducible refine KM.call ?_ (by with_reducible assumption) | with_reducible refine Km.drew ?_ | with_reducible refine Km.alloc ?_ _ | with_reducible refine Km.call ?_ (by with_reducible assumption) | with_reducible refine Kt.drew ?_ | with_reducible refine Kt.alloc ?_ _ | with_reducible refine Kt.call ?_ (by with_reducible assumption))); have M2 : Km (w.heap.size + 1) a b c d x y w2 := (by repeat (first | with_reducible assumption | with_reducible refine KM.drew ?_ | with_reducible refine KM.alloc ?_ _ | with_reducible refine KM.call ?_ (by with_reducible assumption) | with_reducible refine Km.drew ?_ | with_reducible refine Km.alloc ?_ _ | with_reducible refine Km.call ?_ (by with_reducible assumption) | with_reducible refine Kt.drew ?_ | with_reducible refine Kt.alloc ?_ _ | with_reducible refine Kt.call ?_ (by with_reducible assumption))); have R2 : KM (w.heap.size + 1 + 1) 0 0 0 0 0 0 w2 := (by repeat (first | with_reducible assumption | with_reducible refine KM.drew ?_ | with_reducible refine KM.alloc ?_ _ | with_reducible refine KM.call ?_ (by with_reducible assumption) | with_reducible refine Km.drew ?_ | with_reducible refine Km.alloc ?_ _ | with_reducible refine Km.call ?_ (by with_reducible assumption) | with_reducible refine Kt.drew ?_ | with_reducible refine Kt.alloc ?_ _ | with_reducible refine Kt.call ?_ (by with_reducible assumption))); have L2l := L2.1; have M2l := M2.1; have R2c0 := R2.c0; have R2f0 := R2.f0; have R2c1 := R2.c1; have R2f1 := R2.f1; have R2c2 := R2.c2; have R2f2 := R2.f2; have R2c3 := R2.c3; have R2f3 := R2.f3; have R2c4 := R2.c4; have R2f4 := R2.f4; have R2c5 := R2.c5; have R2f5 := R2.f5; have R2l := R2.lt; have B2 : Below w.heap.size w w2 := (by repeat (first | with_reducible assumption | with_reducible refine Below.drew ?_ | with_reducible refine Below.alloc ?_ (by first | omega | (have := B0.size; simp <;> omega)) _ | with_reducible refine bstep ?_ (by with_reducible assumption))))))
      all_goals
        go_wp2
        refine bodyPost_ret (v := .tuple #[.agg #[.int .i64 0, .int .i64 0, .int .i64 0, .int .i64 0, .int .i64 0, .int .i64 0], .int .i64 2]) (by simp [results, Try.results9, go_sem, *]) rfl ⟨EA.out, ?_⟩
        repeat (first | with_reducible assumption | with_reducible exact Below.refl _ _ | with_reducible refine Below.setCell ?_ (by first | omega | (simp <;> omega)) _ | with_reducible refine Below.alloc ?_ (by first | omega | (simp <;> omega)) _ | with_reducible refine bstep ?_ (by with_reducible assumption) | with_reducible refine Below.drew ?_)
  · rw [hs] at CS CC
    simp only [show cod6 f A B C true = 0 by simp [cod6, ok_fl hs]] at CC
    obtain ⟨hl, hx, hy⟩ := ok_mid hs
    have CR := Lib.hid (fun W => l06Reduce_any A B C a b c d x y W hl hx hy)
    have EA := Lib.hid (ret_val (show .tuple #[.agg #[.int .i64 a, .int .i64 b, .int .i64 c, .int .i64 d, .int .i64 (redX A B C x y), .int .i64 (redY C y)], .int .i64 0] = rdT (rdR f A B C (a, b, c, d, x, y)) by simp [rdT, rdR, hs, redM]))
    generalize redX A B C x y = p at CR EA
    generalize redY C y = q at CR EA
    clear hs hl hx hy
    have L0 : Kt (w.heap.size) A B C (((w.alloc (.cells #[.int .i64 A, .int .i64 B, .int .i64 C] 31)).alloc (.cells #[.int .i64 a, .int .i64 b, .int .i64 c, .int .i64 d, .int .i64 x, .int .i64 y] 36)).alloc (.cells #[.int .i64 0, .int .i64 0, .int .i64 0, .int .i64 0, .int .i64 0, .int .i64 0] 36)) := (((Kt.at (w.heap.size) rfl).alloc _).alloc _)
    have M0 : Km (w.heap.size + 1) a b c d x y (((w.alloc (.cells #[.int .i64 A, .int .i64 B, .int .i64 C] 31)).alloc (.cells #[.int .i64 a, .int .i64 b, .int .i64 c, .int .i64 d, .int .i64 x, .int .i64 y] 36)).alloc (.cells #[.int .i64 0, .int .i64 0, .int .i64 0, .int .i64 0, .int .i64 0, .int .i64 0] 36)) := ((Km.at (w.heap.size + 1) (by simp)).alloc _)
    have R0 : KM (w.heap.size + 1 + 1) 0 0 0 0 0 0 (((w.alloc (.cells #[.int .i64 A, .int .i64 B, .int .i64 C] 31)).alloc (.cells #[.int .i64 a, .int .i64 b, .int .i64 c, .int .i64 d, .int .i64 x, .int .i64 y] 36)).alloc (.cells #[.int .i64 0, .int .i64 0, .int .i64 0, .int .i64 0, .int .i64 0, .int .i64 0] 36)) := (KM.at (w.heap.size + 1 + 1) (by simp))
    have B0 : Below w.heap.size w (((w.alloc (.cells #[.int .i64 A, .int .i64 B, .int .i64 C] 31)).alloc (.cells #[.int .i64 a, .int .i64 b, .int .i64 c, .int .i64 d, .int .i64 x, .int .i64 y] 36)).alloc (.cells #[.int .i64 0, .int .i64 0, .int .i64 0, .int .i64 0, .int .i64 0, .int .i64 0] 36)) := (Below.alloc (Below.alloc (Below.alloc (Below.refl _ _) (by first | with_reducible exact Nat.le_refl _ | (simp <;> omega)) _) (by first | with_reducible exact Nat.le_refl _ | (simp <;> omega)) _) (by first | with_reducible exact Nat.le_refl _ | (simp <;> omega)) _)
    go_enter Try.func9, Try.ntmps9
    have L0lt := L0.1
    have M0lt := M0.1
    have R0lt := R0.lt
    go_wp2_with fail
    go_region_held3 (fun W => (W.cell? ⟨w.heap.size, 0, none⟩ = some (.int .i64 A) ∧ W.cell? ⟨w.heap.size, 1, none⟩ = some (.int .i64 B) ∧ W.cell? ⟨w.heap.size, 2, none⟩ = some (.int .i64 C)) ∧ (W.cell? ⟨w.heap.size + 1, 0, none⟩ = some (.int .i64 a) ∧ W.cell? ⟨w.heap.size + 1, 1, none⟩ = some (.int .i64 b) ∧ W.cell? ⟨w.heap.size + 1, 2, none⟩ = some (.int .i64 c) ∧ W.cell? ⟨w.heap.size + 1, 3, none⟩ = some (.int .i64 d) ∧ W.cell? ⟨w.heap.size + 1, 4, none⟩ = some (.int .i64 x) ∧ W.cell? ⟨w.heap.size + 1, 5, none⟩ = some (.int .i64 y))) ((refine ⟨Kt.cells ?_, Km.cells ?_⟩ <;> repeat (first | with_reducible assumption | with_reducible refine KM.drew ?_ | with_reducible refine KM.alloc ?_ _ | with_reducible refine KM.call ?_ (by with_reducible assumption) | with_reducible refine Km.drew ?_ | with_reducible refine Km.alloc ?_ _ | with_reducible refine Km.call ?_ (by with_reducible assumption) | with_reducible refine Kt.drew ?_ | with_reducible refine Kt.alloc ?_ _ | with_reducible refine Kt.call ?_ (by with_reducible assumption) | ((with_reducible refine KM.put ?_ ?_); (first | omega | (dsimp only; omega))) | ((with_reducible refine Km.put ?_ ?_); (first | omega | (dsimp only; omega))) | ((with_reducible refine Kt.put ?_ ?_); (first | omega | (dsimp only; omega))) | ((with_reducible refine KM.far ?_ ?_); (first | omega | (dsimp only; omega))) | ((with_reducible refine Km.far ?_ ?_); (first | omega | (dsimp only; omega))))))
      (first
        | (go_at_call 5; ((with_reducible refine (CS.out _).mono ?_); rintro e w1 ⟨rfl, hb1⟩; have L1 : Kt (w.heap.size) A B C w1 := (by repeat (first | with_reducible assumption | with_reducible refine KM.drew ?_ | with_reducible refine KM.alloc ?_ _ | with_reducible refine KM.call ?_ (by with_reducible assumption) | with_reducible refine Km.drew ?_ | with_reducible refine Km.alloc ?_ _ | with_reducible refine Km.call ?_ (by with_reducible assumption) | with_reducible refine Kt.drew ?_ | with_reducible refine Kt.alloc ?_ _ | with_reducible refine Kt.call ?_ (by with_reducible assumption))); have M1 : Km (w.heap.size + 1) a b c d x y w1 := (by repeat (first | with_reducible assumption | with_reducible refine KM.drew ?_ | with_reducible refine KM.alloc ?_ _ | with_reducible refine KM.call ?_ (by with_reducible assumption) | with_reducible refine Km.drew ?_ | with_reducible refine Km.alloc ?_ _ | with_reducible refine Km.call ?_ (by with_reducible assumption) | with_reducible refine Kt.drew ?_ | with_reducible refine Kt.alloc ?_ _ | with_reducible refine Kt.call ?_ (by with_reducible assumption))); have R1 : KM (w.heap.size + 1 + 1) 0 0 0 0 0 0 w1 := (by repeat (first | with_reducible assumption | with_reducible refine KM.drew ?_ | with_reducible refine KM.alloc ?_ _ | with_reducible refine KM.call ?_ (by with_reducible assumption) | with_reducible refine Km.drew ?_ | with_reducible refine Km.alloc ?_ _ | with_reducible refine Km.call ?_ (by with_reducible assumption) | with_reducible refine Kt.drew ?_ | with_reducible refine Kt.alloc ?_ _ | with_reducible refine Kt.call ?_ (by with_reducible assumption))); have L1l := L1.1; have M1l := M1.1; have R1c0 := R1.c0; have R1f0 := R1.f0; have R1c1 := R1.c1; have R1f1 := R1.f1; have R1c2 := R1.c2; have R1f2 := R1.f2; have R1c3 := R1.c3; have R1f3 := R1.f3; have R1c4 := R1.c4; have R1f4 := R1.f4; have R1c5 := R1.c5; have R1f5 := R1.f5; have R1l := R1.lt; have B1 : Below w.heap.size w w1 := (by repeat (first | with_reducible assumption | with_reducible refine Below.drew ?_ | with_reducible refine Below.alloc ?_ (by first | omega | (have := B0.size; simp <;> omega)) _ | with_reducible refine bstep ?_ (by with_reducible assumption)))))
        | (go_at_call 23; ((with_reducible refine (CC.out _).mono ?_); rintro e w2 ⟨rfl, hb2⟩; have L2 : Kt (w.heap.size) A B C w2 := (by repeat (first | with_reducible assumption | with_reducible refine KM.drew ?_ | with_reducible refine KM.alloc ?_ _ | with_reducible refine KM.call ?_ (by with_reducible assumption) | with_reducible refine Km.drew ?_ | with_reducible refine Km.alloc ?_ _ | with_reducible refine Km.call ?_ (by with_reducible assumption) | with_reducible refine Kt.drew ?_ | with_reducible refine Kt.alloc ?_ _ | with_reducible refine Kt.call ?_ (by with_reducible assumption))); have M2 : Km (w.heap.size + 1) a b c d x y w2 := (by repeat (first | with_reducible assumption | with_reducible refine KM.drew ?_ | with_reducible refine KM.alloc ?_ _ | with_reducible refine KM.call ?_ (by with_reducible assumption) | with_reducible refine Km.drew ?_ | with_reducible refine Km.alloc ?_ _ | with_reducible refine Km.call ?_ (by with_reducible assumption) | with_reducible refine Kt.drew ?_ | with_reducible refine Kt.alloc ?_ _ | with_reducible refine Kt.call ?_ (by with_reducible assumption))); have R2 : KM (w.heap.size + 1 + 1) 0 0 0 0 0 0 w2 := (by repeat (first | with_reducible assumption | with_reducible refine KM.drew ?_ | with_reducible refine KM.alloc ?_ _ | with_reducible refine KM.call ?_ (by with_reducible assumption) | with_reducible refine Km.drew ?_ | with_reducible refine Km.alloc ?_ _ | with_reducible refine Km.call ?_ (by with_reducible assumption) | with_reducible refine Kt.drew ?_ | with_reducible refine Kt.alloc ?_ _ | with_reducible refine Kt.call ?_ (by with_reducible assumption))); have L2l := L2.1; have M2l := M2.1; have R2c0 := R2.c0; have R2f0 := R2.f0; have R2c1 := R2.c1; have R2f1 := R2.f1; have R2c2 := R2.c2; have R2f2 := R2.f2; have R2c3 := R2.c3; have R2f3 := R2.f3; have R2c4 := R2.c4; have R2f4 := R2.f4; have R2c5 := R2.c5; have R2f5 := R2.f5; have R2l := R2.lt; have B2 : Below w.heap.size w w2 := (by repeat (first | with_reducible assumption | with_reducible refine Below.drew ?_ | with_reducible refine Below.alloc ?_ (by first | omega | (have := B0.size; simp <;> omega)) _ | with_reducible refine bstep ?_ (by with_reducible assumption))))))
    all_goals
      have L2c0 := L2.c0
      have L2c1 := L2.c1
      have L2c2 := L2.c2
      have L2l := L2.1
      have L2n : ¬ w.heap.size = w2.heap.size := by omega
      have M2c0 := M2.c0
      have M2c1 := M2.c1
      have M2c2 := M2.c2
      have M2c3 := M2.c3
      have M2c4 := M2.c4
      have M2c5 := M2.c5
      have M2l := M2.1
      have M2n : ¬ w.heap.size + 1 = w2.heap.size := by omega
      have R2c0 := R2.c0
      have R2c1 := R2.c1
      have R2c2 := R2.c2
      have R2c3 := R2.c3
      have R2c4 := R2.c4
      have R2c5 := R2.c5
      have R2f0 := R2.f0
      have R2f1 := R2.f1
      have R2f2 := R2.f2
      have R2f3 := R2.f3
      have R2f4 := R2.f4
      have R2f5 := R2.f5
      have R2l := R2.lt
      have R2n : ¬ w.heap.size + 1 + 1 = w2.heap.size := by omega
      go_wp2_with fail
      refine (CR.out _).mono ?_
      rintro e w3 ⟨rfl, hb3⟩
      have L3 : Kt (w.heap.size) A B C w3 := Kt.call L2 hb3
      have M3 : Km (w.heap.size + 1) a b c d x y w3 := Km.call M2 hb3
      have R3 : KM (w.heap.size + 1 + 1) 0 0 0 0 0 0 w3 := KM.call R2 hb3
      have B3 : Below w.heap.size w w3 := bstep B2 hb3
      clear hb3 B2 L2 M2 R2
      have L3c0 := L3.c0
      have L3c1 := L3.c1
      have L3c2 := L3.c2
      have L3l := L3.1
      have L3n : ¬ w.heap.size = w3.heap.size := by omega
      have M3c0 := M3.c0
      have M3c1 := M3.c1
      have M3c2 := M3.c2
      have M3c3 := M3.c3
      have M3c4 := M3.c4
      have M3c5 := M3.c5
      have M3l := M3.1
      have M3n : ¬ w.heap.size + 1 = w3.heap.size := by omega
      have R3c0 := R3.c0
      have R3c1 := R3.c1
      have R3c2 := R3.c2
      have R3c3 := R3.c3
      have R3c4 := R3.c4
      have R3c5 := R3.c5
      have R3f0 := R3.f0
      have R3f1 := R3.f1
      have R3f2 := R3.f2
      have R3f3 := R3.f3
      have R3f4 := R3.f4
      have R3f5 := R3.f5
      have R3l := R3.lt
      have R3n : ¬ w.heap.size + 1 + 1 = w3.heap.size := by omega
      go_wp2
      refine bodyPost_ret (v := .tuple #[.agg #[.int .i64 a, .int .i64 b, .int .i64 c, .int .i64 d, .int .i64 p, .int .i64 q], .int .i64 0]) (by simp [results, Try.results9, go_sem, *]) rfl ⟨EA.out, ?_⟩
      repeat (first | with_reducible assumption | with_reducible exact Below.refl _ _ | with_reducible refine Below.setCell ?_ (by first | omega | (simp <;> omega)) _ | with_reducible refine Below.alloc ?_ (by first | omega | (simp <;> omega)) _ | with_reducible refine bstep ?_ (by with_reducible assumption) | with_reducible refine Below.drew ?_)
set_option maxRecDepth 100000 in
set_option maxRecDepth 100000 in
set_option maxHeartbeats 8000000 in
theorem implRdm_any (f A B C a b c d x y : Int) (w : World) :
    Calls Try.prog 10 #[.int .i64 f, .agg #[.int .i64 A, .int .i64 B, .int .i64 C], .agg #[.int .i64 a, .int .i64 b, .int .i64 c, .int .i64 d, .int .i64 x, .int .i64 y]] w fun e w' => e = .returned (rdT (rdR f A B C (a, b, c, d, x, y))) ∧ Below w.heap.size w w' := by
  rcases hs : okM f A B C (a, b, c, d, x, y) with _ | _
  · rcases hF : flB f A B C with _ | _
    · have EA := Lib.hid (ret_val (show .tuple #[.agg #[.int .i64 0, .int .i64 0, .int .i64 0, .int .i64 0, .int .i64 0, .int .i64 0], .int .i64 1] = rdT (rdR f A B C (a, b, c, d, x, y)) by simp [rdT, rdR, hs, cod6, hF]))
      have L0 : Kt (w.heap.size) A B C (((w.alloc (.cells #[.int .i64 A, .int .i64 B, .int .i64 C] 31)).alloc (.cells #[.int .i64 a, .int .i64 b, .int .i64 c, .int .i64 d, .int .i64 x, .int .i64 y] 36)).alloc (.cells #[.int .i64 0, .int .i64 0, .int .i64 0, .int .i64 0, .int .i64 0, .int .i64 0] 36)) := (((Kt.at (w.heap.size) rfl).alloc _).alloc _)
      have M0 : Km (w.heap.size + 1) a b c d x y (((w.alloc (.cells #[.int .i64 A, .int .i64 B, .int .i64 C] 31)).alloc (.cells #[.int .i64 a, .int .i64 b, .int .i64 c, .int .i64 d, .int .i64 x, .int .i64 y] 36)).alloc (.cells #[.int .i64 0, .int .i64 0, .int .i64 0, .int .i64 0, .int .i64 0, .int .i64 0] 36)) := ((Km.at (w.heap.size + 1) (by simp)).alloc _)
      have R0 : KM (w.heap.size + 1 + 1) 0 0 0 0 0 0 (((w.alloc (.cells #[.int .i64 A, .int .i64 B, .int .i64 C] 31)).alloc (.cells #[.int .i64 a, .int .i64 b, .int .i64 c, .int .i64 d, .int .i64 x, .int .i64 y] 36)).alloc (.cells #[.int .i64 0, .int .i64 0, .int .i64 0, .int .i64 0, .int .i64 0, .int .i64 0] 36)) := (KM.at (w.heap.size + 1 + 1) (by simp))
      have B0 : Below w.heap.size w (((w.alloc (.cells #[.int .i64 A, .int .i64 B, .int .i64 C] 31)).alloc (.cells #[.int .i64 a, .int .i64 b, .int .i64 c, .int .i64 d, .int .i64 x, .int .i64 y] 36)).alloc (.cells #[.int .i64 0, .int .i64 0, .int .i64 0, .int .i64 0, .int .i64 0, .int .i64 0] 36)) := (Below.alloc (Below.alloc (Below.alloc (Below.refl _ _) (by first | with_reducible exact Nat.le_refl _ | (simp <;> omega)) _) (by first | with_reducible exact Nat.le_refl _ | (simp <;> omega)) _) (by first | with_reducible exact Nat.le_refl _ | (simp <;> omega)) _)
      go_enter Try.func10, Try.ntmps10
      have L0c0 := L0.c0
      have L0c1 := L0.c1
      have L0c2 := L0.c2
      have L0l := L0.1
      have M0c0 := M0.c0
      have M0c1 := M0.c1
      have M0c2 := M0.c2
      have M0c3 := M0.c3
      have M0c4 := M0.c4
      have M0c5 := M0.c5
      have M0l := M0.1
      have R0c0 := R0.c0
      have R0c1 := R0.c1
      have R0c2 := R0.c2
      have R0c3 := R0.c3
      have R0c4 := R0.c4
      have R0c5 := R0.c5
      have R0f0 := R0.f0
      have R0f1 := R0.f1
      have R0f2 := R0.f2
      have R0f3 := R0.f3
      have R0f4 := R0.f4
      have R0f5 := R0.f5
      have R0l := R0.lt
      go_wp2_with fail
      refine (redMs_any (xs := [(a, b, c, d, x, y)]) f A B C (SRow.one6 (by simp)) (by simp)).mono ?_
      rintro e w1 ⟨v, he, hno, hro, hb1⟩
      rw [allOk_one] at he hno hro
      rw [hs] at he hno hro
      have L1 : Kt (w.heap.size) A B C w1 := Kt.call (L0.alloc _) hb1
      have M1 : Km (w.heap.size + 1) a b c d x y w1 := Km.call (M0.alloc _) hb1
      have R1 : KM (w.heap.size + 1 + 1) 0 0 0 0 0 0 w1 := KM.call (R0.alloc _) hb1
      have S1 : KM (w.heap.size + 1 + 1 + 1) a b c d x y w1 := (KM.at (w.heap.size + 1 + 1 + 1) (by simp) : KM (w.heap.size + 1 + 1 + 1) a b c d x y _).call hb1
      have B1 : Below w.heap.size w w1 := bstep (Below.alloc B0 (by have := B0.size; first | omega | (simp <;> omega)) _) hb1
      clear hb1 B0 L0 M0 R0
      rw [show cod6 f A B C false = 1 by simp [cod6, hF]] at he
      obtain rfl : v = .slice none 0 0 := by simpa using hno
      subst he
      clear hno hro
      have R1c0 := R1.c0
      have R1c1 := R1.c1
      have R1c2 := R1.c2
      have R1c3 := R1.c3
      have R1c4 := R1.c4
      have R1c5 := R1.c5
      have R1f0 := R1.f0
      have R1f1 := R1.f1
      have R1f2 := R1.f2
      have R1f3 := R1.f3
      have R1f4 := R1.f4
      have R1f5 := R1.f5
      have R1l := R1.lt
      have R1n : ¬ w.heap.size + 1 + 1 = w1.heap.size := by omega
      go_wp2
      refine bodyPost_ret (v := .tuple #[.agg #[.int .i64 0, .int .i64 0, .int .i64 0, .int .i64 0, .int .i64 0, .int .i64 0], .int .i64 1]) (by simp [results, Try.results10, go_sem, *]) rfl ⟨EA.out, ?_⟩
      repeat (first | with_reducible assumption | with_reducible exact Below.refl _ _ | with_reducible refine Below.setCell ?_ (by first | omega | (simp <;> omega)) _ | with_reducible refine Below.alloc ?_ (by first | omega | (simp <;> omega)) _ | with_reducible refine bstep ?_ (by with_reducible assumption) | with_reducible refine Below.drew ?_)
    · have EA := Lib.hid (ret_val (show .tuple #[.agg #[.int .i64 0, .int .i64 0, .int .i64 0, .int .i64 0, .int .i64 0, .int .i64 0], .int .i64 2] = rdT (rdR f A B C (a, b, c, d, x, y)) by simp [rdT, rdR, hs, cod6, hF]))
      have L0 : Kt (w.heap.size) A B C (((w.alloc (.cells #[.int .i64 A, .int .i64 B, .int .i64 C] 31)).alloc (.cells #[.int .i64 a, .int .i64 b, .int .i64 c, .int .i64 d, .int .i64 x, .int .i64 y] 36)).alloc (.cells #[.int .i64 0, .int .i64 0, .int .i64 0, .int .i64 0, .int .i64 0, .int .i64 0] 36)) := (((Kt.at (w.heap.size) rfl).alloc _).alloc _)
      have M0 : Km (w.heap.size + 1) a b c d x y (((w.alloc (.cells #[.int .i64 A, .int .i64 B, .int .i64 C] 31)).alloc (.cells #[.int .i64 a, .int .i64 b, .int .i64 c, .int .i64 d, .int .i64 x, .int .i64 y] 36)).alloc (.cells #[.int .i64 0, .int .i64 0, .int .i64 0, .int .i64 0, .int .i64 0, .int .i64 0] 36)) := ((Km.at (w.heap.size + 1) (by simp)).alloc _)
      have R0 : KM (w.heap.size + 1 + 1) 0 0 0 0 0 0 (((w.alloc (.cells #[.int .i64 A, .int .i64 B, .int .i64 C] 31)).alloc (.cells #[.int .i64 a, .int .i64 b, .int .i64 c, .int .i64 d, .int .i64 x, .int .i64 y] 36)).alloc (.cells #[.int .i64 0, .int .i64 0, .int .i64 0, .int .i64 0, .int .i64 0, .int .i64 0] 36)) := (KM.at (w.heap.size + 1 + 1) (by simp))
      have B0 : Below w.heap.size w (((w.alloc (.cells #[.int .i64 A, .int .i64 B, .int .i64 C] 31)).alloc (.cells #[.int .i64 a, .int .i64 b, .int .i64 c, .int .i64 d, .int .i64 x, .int .i64 y] 36)).alloc (.cells #[.int .i64 0, .int .i64 0, .int .i64 0, .int .i64 0, .int .i64 0, .int .i64 0] 36)) := (Below.alloc (Below.alloc (Below.alloc (Below.refl _ _) (by first | with_reducible exact Nat.le_refl _ | (simp <;> omega)) _) (by first | with_reducible exact Nat.le_refl _ | (simp <;> omega)) _) (by first | with_reducible exact Nat.le_refl _ | (simp <;> omega)) _)
      go_enter Try.func10, Try.ntmps10
      have L0c0 := L0.c0
      have L0c1 := L0.c1
      have L0c2 := L0.c2
      have L0l := L0.1
      have M0c0 := M0.c0
      have M0c1 := M0.c1
      have M0c2 := M0.c2
      have M0c3 := M0.c3
      have M0c4 := M0.c4
      have M0c5 := M0.c5
      have M0l := M0.1
      have R0c0 := R0.c0
      have R0c1 := R0.c1
      have R0c2 := R0.c2
      have R0c3 := R0.c3
      have R0c4 := R0.c4
      have R0c5 := R0.c5
      have R0f0 := R0.f0
      have R0f1 := R0.f1
      have R0f2 := R0.f2
      have R0f3 := R0.f3
      have R0f4 := R0.f4
      have R0f5 := R0.f5
      have R0l := R0.lt
      go_wp2_with fail
      refine (redMs_any (xs := [(a, b, c, d, x, y)]) f A B C (SRow.one6 (by simp)) (by simp)).mono ?_
      rintro e w1 ⟨v, he, hno, hro, hb1⟩
      rw [allOk_one] at he hno hro
      rw [hs] at he hno hro
      have L1 : Kt (w.heap.size) A B C w1 := Kt.call (L0.alloc _) hb1
      have M1 : Km (w.heap.size + 1) a b c d x y w1 := Km.call (M0.alloc _) hb1
      have R1 : KM (w.heap.size + 1 + 1) 0 0 0 0 0 0 w1 := KM.call (R0.alloc _) hb1
      have S1 : KM (w.heap.size + 1 + 1 + 1) a b c d x y w1 := (KM.at (w.heap.size + 1 + 1 + 1) (by simp) : KM (w.heap.size + 1 + 1 + 1) a b c d x y _).call hb1
      have B1 : Below w.heap.size w w1 := bstep (Below.alloc B0 (by have := B0.size; first | omega | (simp <;> omega)) _) hb1
      clear hb1 B0 L0 M0 R0
      rw [show cod6 f A B C false = 2 by simp [cod6, hF]] at he
      obtain rfl : v = .slice none 0 0 := by simpa using hno
      subst he
      clear hno hro
      have R1c0 := R1.c0
      have R1c1 := R1.c1
      have R1c2 := R1.c2
      have R1c3 := R1.c3
      have R1c4 := R1.c4
      have R1c5 := R1.c5
      have R1f0 := R1.f0
      have R1f1 := R1.f1
      have R1f2 := R1.f2
      have R1f3 := R1.f3
      have R1f4 := R1.f4
      have R1f5 := R1.f5
      have R1l := R1.lt
      have R1n : ¬ w.heap.size + 1 + 1 = w1.heap.size := by omega
      go_wp2
      refine bodyPost_ret (v := .tuple #[.agg #[.int .i64 0, .int .i64 0, .int .i64 0, .int .i64 0, .int .i64 0, .int .i64 0], .int .i64 2]) (by simp [results, Try.results10, go_sem, *]) rfl ⟨EA.out, ?_⟩
      repeat (first | with_reducible assumption | with_reducible exact Below.refl _ _ | with_reducible refine Below.setCell ?_ (by first | omega | (simp <;> omega)) _ | with_reducible refine Below.alloc ?_ (by first | omega | (simp <;> omega)) _ | with_reducible refine bstep ?_ (by with_reducible assumption) | with_reducible refine Below.drew ?_)
  · have EA := Lib.hid (ret_val (show .tuple #[.agg #[.int .i64 a, .int .i64 b, .int .i64 c, .int .i64 d, .int .i64 (redX A B C x y), .int .i64 (redY C y)], .int .i64 0] = rdT (rdR f A B C (a, b, c, d, x, y)) by simp [rdT, rdR, hs, redM]))
    have L0 : Kt (w.heap.size) A B C (((w.alloc (.cells #[.int .i64 A, .int .i64 B, .int .i64 C] 31)).alloc (.cells #[.int .i64 a, .int .i64 b, .int .i64 c, .int .i64 d, .int .i64 x, .int .i64 y] 36)).alloc (.cells #[.int .i64 0, .int .i64 0, .int .i64 0, .int .i64 0, .int .i64 0, .int .i64 0] 36)) := (((Kt.at (w.heap.size) rfl).alloc _).alloc _)
    have M0 : Km (w.heap.size + 1) a b c d x y (((w.alloc (.cells #[.int .i64 A, .int .i64 B, .int .i64 C] 31)).alloc (.cells #[.int .i64 a, .int .i64 b, .int .i64 c, .int .i64 d, .int .i64 x, .int .i64 y] 36)).alloc (.cells #[.int .i64 0, .int .i64 0, .int .i64 0, .int .i64 0, .int .i64 0, .int .i64 0] 36)) := ((Km.at (w.heap.size + 1) (by simp)).alloc _)
    have R0 : KM (w.heap.size + 1 + 1) 0 0 0 0 0 0 (((w.alloc (.cells #[.int .i64 A, .int .i64 B, .int .i64 C] 31)).alloc (.cells #[.int .i64 a, .int .i64 b, .int .i64 c, .int .i64 d, .int .i64 x, .int .i64 y] 36)).alloc (.cells #[.int .i64 0, .int .i64 0, .int .i64 0, .int .i64 0, .int .i64 0, .int .i64 0] 36)) := (KM.at (w.heap.size + 1 + 1) (by simp))
    have B0 : Below w.heap.size w (((w.alloc (.cells #[.int .i64 A, .int .i64 B, .int .i64 C] 31)).alloc (.cells #[.int .i64 a, .int .i64 b, .int .i64 c, .int .i64 d, .int .i64 x, .int .i64 y] 36)).alloc (.cells #[.int .i64 0, .int .i64 0, .int .i64 0, .int .i64 0, .int .i64 0, .int .i64 0] 36)) := (Below.alloc (Below.alloc (Below.alloc (Below.refl _ _) (by first | with_reducible exact Nat.le_refl _ | (simp <;> omega)) _) (by first | with_reducible exact Nat.le_refl _ | (simp <;> omega)) _) (by first | with_reducible exact Nat.le_refl _ | (simp <;> omega)) _)
    go_enter Try.func10, Try.ntmps10
    have L0c0 := L0.c0
    have L0c1 := L0.c1
    have L0c2 := L0.c2
    have L0l := L0.1
    have M0c0 := M0.c0
    have M0c1 := M0.c1
    have M0c2 := M0.c2
    have M0c3 := M0.c3
    have M0c4 := M0.c4
    have M0c5 := M0.c5
    have M0l := M0.1
    have R0c0 := R0.c0
    have R0c1 := R0.c1
    have R0c2 := R0.c2
    have R0c3 := R0.c3
    have R0c4 := R0.c4
    have R0c5 := R0.c5
    have R0f0 := R0.f0
    have R0f1 := R0.f1
    have R0f2 := R0.f2
    have R0f3 := R0.f3
    have R0f4 := R0.f4
    have R0f5 := R0.f5
    have R0l := R0.lt
    go_wp2_with fail
    refine (redMs_any (xs := [(a, b, c, d, x, y)]) f A B C (SRow.one6 (by simp)) (by simp)).mono ?_
    rintro e w1 ⟨v, he, hno, hro, hb1⟩
    rw [allOk_one] at he hno hro
    rw [hs] at he hno hro
    have L1 : Kt (w.heap.size) A B C w1 := Kt.call (L0.alloc _) hb1
    have M1 : Km (w.heap.size + 1) a b c d x y w1 := Km.call (M0.alloc _) hb1
    have R1 : KM (w.heap.size + 1 + 1) 0 0 0 0 0 0 w1 := KM.call (R0.alloc _) hb1
    have S1 : KM (w.heap.size + 1 + 1 + 1) a b c d x y w1 := (KM.at (w.heap.size + 1 + 1 + 1) (by simp) : KM (w.heap.size + 1 + 1 + 1) a b c d x y _).call hb1
    have B1 : Below w.heap.size w w1 := bstep (Below.alloc B0 (by have := B0.size; first | omega | (simp <;> omega)) _) hb1
    clear hb1 B0 L0 M0 R0
    rw [show cod6 f A B C true = 0 by simp [cod6, ok_fl hs]] at he
    subst he
    obtain ⟨g, cap, rfl, hg, hG⟩ := row_one (m := redM A B C (a, b, c, d, x, y)) (hro (ok_fl hs) rfl)
    have G1 : Km g a b c d (redX A B C x y) (redY C y) w1 := hG
    clear hno hro hG hs
    generalize redX A B C x y = p at G1 EA
    generalize redY C y = q at G1 EA
    have R1c0 := R1.c0
    have R1c1 := R1.c1
    have R1c2 := R1.c2
    have R1c3 := R1.c3
    have R1c4 := R1.c4
    have R1c5 := R1.c5
    have R1f0 := R1.f0
    have R1f1 := R1.f1
    have R1f2 := R1.f2
    have R1f3 := R1.f3
    have R1f4 := R1.f4
    have R1f5 := R1.f5
    have R1l := R1.lt
    have R1n : ¬ w.heap.size + 1 + 1 = w1.heap.size := by omega
    have G1c0 := G1.c0
    have G1c1 := G1.c1
    have G1c2 := G1.c2
    have G1c3 := G1.c3
    have G1c4 := G1.c4
    have G1c5 := G1.c5
    have G1l := G1.1
    have G1n : ¬ g = w1.heap.size := by omega
    go_wp2_with fail
    refine (asMo_any _ _ _ _ _ _ _).mono ?_
    rintro e w2 ⟨rfl, hb2⟩
    have L2 : Kt (w.heap.size) A B C w2 := Kt.call L1 hb2
    have M2 : Km (w.heap.size + 1) a b c d x y w2 := Km.call M1 hb2
    have R2 : KM (w.heap.size + 1 + 1) 0 0 0 0 0 0 w2 := KM.call R1 hb2
    have S2 : KM (w.heap.size + 1 + 1 + 1) a b c d x y w2 := KM.call S1 hb2
    have G2 : Km (g) a b c d p q w2 := Km.call G1 hb2
    have B2 : Below w.heap.size w w2 := bstep B1 hb2
    clear hb2 B1 L1 M1 R1 S1 G1
    have R2c0 := R2.c0
    have R2c1 := R2.c1
    have R2c2 := R2.c2
    have R2c3 := R2.c3
    have R2c4 := R2.c4
    have R2c5 := R2.c5
    have R2f0 := R2.f0
    have R2f1 := R2.f1
    have R2f2 := R2.f2
    have R2f3 := R2.f3
    have R2f4 := R2.f4
    have R2f5 := R2.f5
    have R2l := R2.lt
    have R2n : ¬ w.heap.size + 1 + 1 = w2.heap.size := by omega
    go_wp2
    refine bodyPost_ret (v := .tuple #[.agg #[.int .i64 a, .int .i64 b, .int .i64 c, .int .i64 d, .int .i64 p, .int .i64 q], .int .i64 0]) (by simp [results, Try.results10, go_sem, *]) rfl ⟨EA.out, ?_⟩
    repeat (first | with_reducible assumption | with_reducible exact Below.refl _ _ | with_reducible refine Below.setCell ?_ (by first | omega | (simp <;> omega)) _ | with_reducible refine Below.alloc ?_ (by first | omega | (simp <;> omega)) _ | with_reducible refine bstep ?_ (by with_reducible assumption) | with_reducible refine Below.drew ?_)
set_option maxRecDepth 100000 in
set_option maxRecDepth 100000 in
set_option maxHeartbeats 8000000 in
theorem walkSuit (f A B C a b c d x y : Int) (w : World) :
    Calls Try.prog 3 #[.int .i64 f, .agg #[.int .i64 A, .int .i64 B, .int .i64 C], .agg #[.int .i64 a, .int .i64 b, .int .i64 c, .int .i64 d, .int .i64 x, .int .i64 y]] w fun e w' => e = .returned (.bool true) ∧ Below w.heap.size w w' := by
  have CS := Lib.hid (fun W => specSuit_any f A B C a b c d x y W)
  have CI := Lib.hid (fun W => implSuit_any f A B C a b c d x y W)
  rw [suit_ok] at CS CI
  generalize okM f A B C (a, b, c, d, x, y) = r at CS CI
  have L0 : Kt (w.heap.size) A B C ((w.alloc (.cells #[.int .i64 A, .int .i64 B, .int .i64 C] 23)).alloc (.cells #[.int .i64 a, .int .i64 b, .int .i64 c, .int .i64 d, .int .i64 x, .int .i64 y] 29)) := ((Kt.at (w.heap.size) rfl).alloc _)
  have M0 : Km (w.heap.size + 1) a b c d x y ((w.alloc (.cells #[.int .i64 A, .int .i64 B, .int .i64 C] 23)).alloc (.cells #[.int .i64 a, .int .i64 b, .int .i64 c, .int .i64 d, .int .i64 x, .int .i64 y] 29)) := (Km.at (w.heap.size + 1) (by simp))
  have B0 : Below w.heap.size w ((w.alloc (.cells #[.int .i64 A, .int .i64 B, .int .i64 C] 23)).alloc (.cells #[.int .i64 a, .int .i64 b, .int .i64 c, .int .i64 d, .int .i64 x, .int .i64 y] 29)) := (Below.alloc (Below.alloc (Below.refl _ _) (by first | with_reducible exact Nat.le_refl _ | (simp <;> omega)) _) (by first | with_reducible exact Nat.le_refl _ | (simp <;> omega)) _)
  go_enter Try.func3, Try.ntmps3
  have L0lt := L0.1
  have M0lt := M0.1
  go_wp2_with fail
  go_region_held3 (fun W => (W.cell? ⟨w.heap.size, 0, none⟩ = some (.int .i64 A) ∧ W.cell? ⟨w.heap.size, 1, none⟩ = some (.int .i64 B) ∧ W.cell? ⟨w.heap.size, 2, none⟩ = some (.int .i64 C)) ∧ (W.cell? ⟨w.heap.size + 1, 0, none⟩ = some (.int .i64 a) ∧ W.cell? ⟨w.heap.size + 1, 1, none⟩ = some (.int .i64 b) ∧ W.cell? ⟨w.heap.size + 1, 2, none⟩ = some (.int .i64 c) ∧ W.cell? ⟨w.heap.size + 1, 3, none⟩ = some (.int .i64 d) ∧ W.cell? ⟨w.heap.size + 1, 4, none⟩ = some (.int .i64 x) ∧ W.cell? ⟨w.heap.size + 1, 5, none⟩ = some (.int .i64 y))) ((refine ⟨Kt.cells ?_, Km.cells ?_⟩ <;> repeat (first | with_reducible assumption | with_reducible refine Km.drew ?_ | with_reducible refine Km.alloc ?_ _ | with_reducible refine Km.call ?_ (by with_reducible assumption) | with_reducible refine Kt.drew ?_ | with_reducible refine Kt.alloc ?_ _ | with_reducible refine Kt.call ?_ (by with_reducible assumption) | ((with_reducible refine Km.put ?_ ?_); (first | omega | (dsimp only; omega))) | ((with_reducible refine Kt.put ?_ ?_); (first | omega | (dsimp only; omega))) | ((with_reducible refine Km.far ?_ ?_); (first | omega | (dsimp only; omega))))))
    (first
      | (go_at_call 6; ((with_reducible refine (toLat_any _ _ _ _).mono ?_); rintro e w1 ⟨rfl, hb1⟩; have L1 : Kt (w.heap.size) A B C w1 := (by repeat (first | with_reducible assumption | with_reducible refine Km.drew ?_ | with_reducible refine Km.alloc ?_ _ | with_reducible refine Km.call ?_ (by with_reducible assumption) | with_reducible refine Kt.drew ?_ | with_reducible refine Kt.alloc ?_ _ | with_reducible refine Kt.call ?_ (by with_reducible assumption))); have M1 : Km (w.heap.size + 1) a b c d x y w1 := (by repeat (first | with_reducible assumption | with_reducible refine Km.drew ?_ | with_reducible refine Km.alloc ?_ _ | with_reducible refine Km.call ?_ (by with_reducible assumption) | with_reducible refine Kt.drew ?_ | with_reducible refine Kt.alloc ?_ _ | with_reducible refine Kt.call ?_ (by with_reducible assumption))); have L1l := L1.1; have M1l := M1.1; have B1 : Below w.heap.size w w1 := (by repeat (first | with_reducible assumption | with_reducible refine Below.drew ?_ | with_reducible refine Below.alloc ?_ (by first | omega | (have := B0.size; simp <;> omega)) _ | with_reducible refine bstep ?_ (by with_reducible assumption)))))
      | (go_at_call 7; ((with_reducible refine (toMo_any _ _ _ _ _ _ _).mono ?_); rintro e w2 ⟨rfl, hb2⟩; have L2 : Kt (w.heap.size) A B C w2 := (by repeat (first | with_reducible assumption | with_reducible refine Km.drew ?_ | with_reducible refine Km.alloc ?_ _ | with_reducible refine Km.call ?_ (by with_reducible assumption) | with_reducible refine Kt.drew ?_ | with_reducible refine Kt.alloc ?_ _ | with_reducible refine Kt.call ?_ (by with_reducible assumption))); have M2 : Km (w.heap.size + 1) a b c d x y w2 := (by repeat (first | with_reducible assumption | with_reducible refine Km.drew ?_ | with_reducible refine Km.alloc ?_ _ | with_reducible refine Km.call ?_ (by with_reducible assumption) | with_reducible refine Kt.drew ?_ | with_reducible refine Kt.alloc ?_ _ | with_reducible refine Kt.call ?_ (by with_reducible assumption))); have L2l := L2.1; have M2l := M2.1; have B2 : Below w.heap.size w w2 := (by repeat (first | with_reducible assumption | with_reducible refine Below.drew ?_ | with_reducible refine Below.alloc ?_ (by first | omega | (have := B0.size; simp <;> omega)) _ | with_reducible refine bstep ?_ (by with_reducible assumption)))))
      | (go_at_call 5; ((with_reducible refine (CS.out _).mono ?_); rintro e w3 ⟨rfl, hb3⟩; have L3 : Kt (w.heap.size) A B C w3 := (by repeat (first | with_reducible assumption | with_reducible refine Km.drew ?_ | with_reducible refine Km.alloc ?_ _ | with_reducible refine Km.call ?_ (by with_reducible assumption) | with_reducible refine Kt.drew ?_ | with_reducible refine Kt.alloc ?_ _ | with_reducible refine Kt.call ?_ (by with_reducible assumption))); have M3 : Km (w.heap.size + 1) a b c d x y w3 := (by repeat (first | with_reducible assumption | with_reducible refine Km.drew ?_ | with_reducible refine Km.alloc ?_ _ | with_reducible refine Km.call ?_ (by with_reducible assumption) | with_reducible refine Kt.drew ?_ | with_reducible refine Kt.alloc ?_ _ | with_reducible refine Kt.call ?_ (by with_reducible assumption))); have L3l := L3.1; have M3l := M3.1; have B3 : Below w.heap.size w w3 := (by repeat (first | with_reducible assumption | with_reducible refine Below.drew ?_ | with_reducible refine Below.alloc ?_ (by first | omega | (have := B0.size; simp <;> omega)) _ | with_reducible refine bstep ?_ (by with_reducible assumption))))))
  all_goals
    have L3lt := L3.1
    have M3lt := M3.1
    go_wp2_with fail
    go_region_held3 (fun W => (W.cell? ⟨w.heap.size, 0, none⟩ = some (.int .i64 A) ∧ W.cell? ⟨w.heap.size, 1, none⟩ = some (.int .i64 B) ∧ W.cell? ⟨w.heap.size, 2, none⟩ = some (.int .i64 C)) ∧ (W.cell? ⟨w.heap.size + 1, 0, none⟩ = some (.int .i64 a) ∧ W.cell? ⟨w.heap.size + 1, 1, none⟩ = some (.int .i64 b) ∧ W.cell? ⟨w.heap.size + 1, 2, none⟩ = some (.int .i64 c) ∧ W.cell? ⟨w.heap.size + 1, 3, none⟩ = some (.int .i64 d) ∧ W.cell? ⟨w.heap.size + 1, 4, none⟩ = some (.int .i64 x) ∧ W.cell? ⟨w.heap.size + 1, 5, none⟩ = some (.int .i64 y))) ((refine ⟨Kt.cells ?_, Km.cells ?_⟩ <;> repeat (first | with_reducible assumption | with_reducible refine Km.drew ?_ | with_reducible refine Km.alloc ?_ _ | with_reducible refine Km.call ?_ (by with_reducible assumption) | with_reducible refine Kt.drew ?_ | with_reducible refine Kt.alloc ?_ _ | with_reducible refine Kt.call ?_ (by with_reducible assumption) | ((with_reducible refine Km.put ?_ ?_); (first | omega | (dsimp only; omega))) | ((with_reducible refine Kt.put ?_ ?_); (first | omega | (dsimp only; omega))) | ((with_reducible refine Km.far ?_ ?_); (first | omega | (dsimp only; omega))))))
      (first
        | (go_at_call 6; ((with_reducible refine (toLat_any _ _ _ _).mono ?_); rintro e w4 ⟨rfl, hb4⟩; have L4 : Kt (w.heap.size) A B C w4 := (by repeat (first | with_reducible assumption | with_reducible refine Km.drew ?_ | with_reducible refine Km.alloc ?_ _ | with_reducible refine Km.call ?_ (by with_reducible assumption) | with_reducible refine Kt.drew ?_ | with_reducible refine Kt.alloc ?_ _ | with_reducible refine Kt.call ?_ (by with_reducible assumption))); have M4 : Km (w.heap.size + 1) a b c d x y w4 := (by repeat (first | with_reducible assumption | with_reducible refine Km.drew ?_ | with_reducible refine Km.alloc ?_ _ | with_reducible refine Km.call ?_ (by with_reducible assumption) | with_reducible refine Kt.drew ?_ | with_reducible refine Kt.alloc ?_ _ | with_reducible refine Kt.call ?_ (by with_reducible assumption))); have L4l := L4.1; have M4l := M4.1; have B4 : Below w.heap.size w w4 := (by repeat (first | with_reducible assumption | with_reducible refine Below.drew ?_ | with_reducible refine Below.alloc ?_ (by first | omega | (have := B3.size; simp <;> omega)) _ | with_reducible refine bstep ?_ (by with_reducible assumption)))))
        | (go_at_call 7; ((with_reducible refine (toMo_any _ _ _ _ _ _ _).mono ?_); rintro e w5 ⟨rfl, hb5⟩; have L5 : Kt (w.heap.size) A B C w5 := (by repeat (first | with_reducible assumption | with_reducible refine Km.drew ?_ | with_reducible refine Km.alloc ?_ _ | with_reducible refine Km.call ?_ (by with_reducible assumption) | with_reducible refine Kt.drew ?_ | with_reducible refine Kt.alloc ?_ _ | with_reducible refine Kt.call ?_ (by with_reducible assumption))); have M5 : Km (w.heap.size + 1) a b c d x y w5 := (by repeat (first | with_reducible assumption | with_reducible refine Km.drew ?_ | with_reducible refine Km.alloc ?_ _ | with_reducible refine Km.call ?_ (by with_reducible assumption) | with_reducible refine Kt.drew ?_ | with_reducible refine Kt.alloc ?_ _ | with_reducible refine Kt.call ?_ (by with_reducible assumption))); have L5l := L5.1; have M5l := M5.1; have B5 : Below w.heap.size w w5 := (by repeat (first | with_reducible assumption | with_reducible refine Below.drew ?_ | with_reducible refine Below.alloc ?_ (by first | omega | (have := B3.size; simp <;> omega)) _ | with_reducible refine bstep ?_ (by with_reducible assumption)))))
        | (go_at_call 8; ((with_reducible refine (CI.out _).mono ?_); rintro e w6 ⟨rfl, hb6⟩; have L6 : Kt (w.heap.size) A B C w6 := (by repeat (first | with_reducible assumption | with_reducible refine Km.drew ?_ | with_reducible refine Km.alloc ?_ _ | with_reducible refine Km.call ?_ (by with_reducible assumption) | with_reducible refine Kt.drew ?_ | with_reducible refine Kt.alloc ?_ _ | with_reducible refine Kt.call ?_ (by with_reducible assumption))); have M6 : Km (w.heap.size + 1) a b c d x y w6 := (by repeat (first | with_reducible assumption | with_reducible refine Km.drew ?_ | with_reducible refine Km.alloc ?_ _ | with_reducible refine Km.call ?_ (by with_reducible assumption) | with_reducible refine Kt.drew ?_ | with_reducible refine Kt.alloc ?_ _ | with_reducible refine Kt.call ?_ (by with_reducible assumption))); have L6l := L6.1; have M6l := M6.1; have B6 : Below w.heap.size w w6 := (by repeat (first | with_reducible assumption | with_reducible refine Below.drew ?_ | with_reducible refine Below.alloc ?_ (by first | omega | (have := B3.size; simp <;> omega)) _ | with_reducible refine bstep ?_ (by with_reducible assumption))))))
    all_goals
      go_wp2
      all_goals
        go_ret
        refine ⟨rfl, ?_⟩
        repeat (first | with_reducible assumption | with_reducible exact Below.refl _ _ | with_reducible refine Below.setCell ?_ (by first | omega | (simp <;> omega)) _ | with_reducible refine Below.alloc ?_ (by first | omega | (simp <;> omega)) _ | with_reducible refine bstep ?_ (by with_reducible assumption) | with_reducible refine Below.drew ?_)
def RdmP (w : World) (A B C a b c d x y r0 r1 r2 r3 r4 r5 rc : Int) (s7 s8 : Value) (wx : World) : Prop :=
  ∃ g0 : Nat, s7 = .pointer (some ⟨g0, 0, none⟩) ∧ s8 = .int .i64 (rc) ∧ KM g0 r0 r1 r2 r3 r4 r5 wx ∧ Kt (w.heap.size) A B C wx ∧ Km (w.heap.size + 1) a b c d x y wx ∧ w.heap.size + 1 + 1 ≤ g0 ∧ Below w.heap.size w wx
def RdmQ (w : World) (g0 : Nat) (A B C a b c d x y r0 r1 r2 r3 r4 r5 rc : Int) (s9 s10 : Value) (wx : World) : Prop :=
  ∃ g1 : Nat, s9 = .pointer (some ⟨g1, 0, none⟩) ∧ s10 = .int .i64 (rc) ∧ KM g1 r0 r1 r2 r3 r4 r5 wx ∧ KM (g0) r0 r1 r2 r3 r4 r5 wx ∧ Kt (w.heap.size) A B C wx ∧ Km (w.heap.size + 1) a b c d x y wx ∧ w.heap.size + 1 + 1 ≤ g1 ∧ Below w.heap.size w wx
set_option maxRecDepth 100000 in
set_option maxRecDepth 100000 in
set_option maxHeartbeats 8000000 in
theorem walkRdm (f A B C a b c d x y : Int) (w : World) :
    Calls Try.prog 4 #[.int .i64 f, .agg #[.int .i64 A, .int .i64 B, .int .i64 C], .agg #[.int .i64 a, .int .i64 b, .int .i64 c, .int .i64 d, .int .i64 x, .int .i64 y]] w fun e w' => e = .returned (.bool true) ∧ Below w.heap.size w w' := by
  have CS := Lib.hid (fun W => specRdm_any f A B C a b c d x y W)
  have CI := Lib.hid (fun W => implRdm_any f A B C a b c d x y W)
  generalize rdR f A B C (a, b, c, d, x, y) = r at CS CI
  obtain ⟨⟨r0, r1, r2, r3, r4, r5⟩, rc⟩ := r
  simp only [rdT] at CS CI
  have L0 : Kt (w.heap.size) A B C ((w.alloc (.cells #[.int .i64 A, .int .i64 B, .int .i64 C] 23)).alloc (.cells #[.int .i64 a, .int .i64 b, .int .i64 c, .int .i64 d, .int .i64 x, .int .i64 y] 29)) := ((Kt.at (w.heap.size) rfl).alloc _)
  have M0 : Km (w.heap.size + 1) a b c d x y ((w.alloc (.cells #[.int .i64 A, .int .i64 B, .int .i64 C] 23)).alloc (.cells #[.int .i64 a, .int .i64 b, .int .i64 c, .int .i64 d, .int .i64 x, .int .i64 y] 29)) := (Km.at (w.heap.size + 1) (by simp))
  have B0 : Below w.heap.size w ((w.alloc (.cells #[.int .i64 A, .int .i64 B, .int .i64 C] 23)).alloc (.cells #[.int .i64 a, .int .i64 b, .int .i64 c, .int .i64 d, .int .i64 x, .int .i64 y] 29)) := (Below.alloc (Below.alloc (Below.refl _ _) (by first | with_reducible exact Nat.le_refl _ | (simp <;> omega)) _) (by first | with_reducible exact Nat.le_refl _ | (simp <;> omega)) _)
  go_enter Try.func4, Try.ntmps4
  have L0lt := L0.1
  have M0lt := M0.1
  go_upto_region 1 with fail
  go_cut [7, 8] (fun s7 s8 wx => RdmP w A B C a b c d x y r0 r1 r2 r3 r4 r5 rc s7 s8 wx)
  case first =>
    go_region_held3 (fun W => (W.cell? ⟨w.heap.size, 0, none⟩ = some (.int .i64 A) ∧ W.cell? ⟨w.heap.size, 1, none⟩ = some (.int .i64 B) ∧ W.cell? ⟨w.heap.size, 2, none⟩ = some (.int .i64 C)) ∧ (W.cell? ⟨w.heap.size + 1, 0, none⟩ = some (.int .i64 a) ∧ W.cell? ⟨w.heap.size + 1, 1, none⟩ = some (.int .i64 b) ∧ W.cell? ⟨w.heap.size + 1, 2, none⟩ = some (.int .i64 c) ∧ W.cell? ⟨w.heap.size + 1, 3, none⟩ = some (.int .i64 d) ∧ W.cell? ⟨w.heap.size + 1, 4, none⟩ = some (.int .i64 x) ∧ W.cell? ⟨w.heap.size + 1, 5, none⟩ = some (.int .i64 y))) ((refine ⟨Kt.cells ?_, Km.cells ?_⟩ <;> repeat (first | with_reducible assumption | with_reducible refine KM.drew ?_ | with_reducible refine KM.alloc ?_ _ | with_reducible refine KM.call ?_ (by with_reducible assumption) | with_reducible refine Km.drew ?_ | with_reducible refine Km.alloc ?_ _ | with_reducible refine Km.call ?_ (by with_reducible assumption) | with_reducible refine Kt.drew ?_ | with_reducible refine Kt.alloc ?_ _ | with_reducible refine Kt.call ?_ (by with_reducible assumption) | ((with_reducible refine KM.put ?_ ?_); (first | omega | (dsimp only; omega))) | ((with_reducible refine Km.put ?_ ?_); (first | omega | (dsimp only; omega))) | ((with_reducible refine Kt.put ?_ ?_); (first | omega | (dsimp only; omega))) | ((with_reducible refine KM.far ?_ ?_); (first | omega | (dsimp only; omega))) | ((with_reducible refine Km.far ?_ ?_); (first | omega | (dsimp only; omega))))))
      (first
        | (go_at_call 6; ((with_reducible refine (toLat_any _ _ _ _).mono ?_); rintro e w1 ⟨rfl, hb1⟩; have L1 : Kt (w.heap.size) A B C w1 := (by repeat (first | with_reducible assumption | with_reducible refine KM.drew ?_ | with_reducible refine KM.alloc ?_ _ | with_reducible refine KM.call ?_ (by with_reducible assumption) | with_reducible refine Km.drew ?_ | with_reducible refine Km.alloc ?_ _ | with_reducible refine Km.call ?_ (by with_reducible assumption) | with_reducible refine Kt.drew ?_ | with_reducible refine Kt.alloc ?_ _ | with_reducible refine Kt.call ?_ (by with_reducible assumption))); have L1l := L1.1; have M1 : Km (w.heap.size + 1) a b c d x y w1 := (by repeat (first | with_reducible assumption | with_reducible refine KM.drew ?_ | with_reducible refine KM.alloc ?_ _ | with_reducible refine KM.call ?_ (by with_reducible assumption) | with_reducible refine Km.drew ?_ | with_reducible refine Km.alloc ?_ _ | with_reducible refine Km.call ?_ (by with_reducible assumption) | with_reducible refine Kt.drew ?_ | with_reducible refine Kt.alloc ?_ _ | with_reducible refine Kt.call ?_ (by with_reducible assumption))); have M1l := M1.1; (try ((refine useIt (P := KM (w.heap.size + 1 + 1) 0 0 0 0 0 0 w1) ?_ ?_); (repeat (first | with_reducible assumption | (with_reducible exact KM.at _ (by first | with_reducible rfl | (simp; done) | fail)) | with_reducible refine KM.drew ?_ | with_reducible refine KM.alloc ?_ _ | with_reducible refine KM.call ?_ (by with_reducible assumption) | with_reducible refine Km.drew ?_ | with_reducible refine Km.alloc ?_ _ | with_reducible refine Km.call ?_ (by with_reducible assumption) | with_reducible refine Kt.drew ?_ | with_reducible refine Kt.alloc ?_ _ | with_reducible refine Kt.call ?_ (by with_reducible assumption))); intro P1_e; have P1_ec0 := P1_e.c0; have P1_ef0 := P1_e.f0; have P1_ec1 := P1_e.c1; have P1_ef1 := P1_e.f1; have P1_ec2 := P1_e.c2; have P1_ef2 := P1_e.f2; have P1_ec3 := P1_e.c3; have P1_ef3 := P1_e.f3; have P1_ec4 := P1_e.c4; have P1_ef4 := P1_e.f4; have P1_ec5 := P1_e.c5; have P1_ef5 := P1_e.f5; have P1_el := P1_e.lt)); (try ((refine useIt (P := KM (w2.heap.size) 0 0 0 0 0 0 w1) ?_ ?_); (repeat (first | with_reducible assumption | (with_reducible exact KM.at _ (by first | with_reducible rfl | (simp; done) | fail)) | with_reducible refine KM.drew ?_ | with_reducible refine KM.alloc ?_ _ | with_reducible refine KM.call ?_ (by with_reducible assumption) | with_reducible refine Km.drew ?_ | with_reducible refine Km.alloc ?_ _ | with_reducible refine Km.call ?_ (by with_reducible assumption) | with_reducible refine Kt.drew ?_ | with_reducible refine Kt.alloc ?_ _ | with_reducible refine Kt.call ?_ (by with_reducible assumption))); intro P1_w2; have P1_w2c0 := P1_w2.c0; have P1_w2f0 := P1_w2.f0; have P1_w2c1 := P1_w2.c1; have P1_w2f1 := P1_w2.f1; have P1_w2c2 := P1_w2.c2; have P1_w2f2 := P1_w2.f2; have P1_w2c3 := P1_w2.c3; have P1_w2f3 := P1_w2.f3; have P1_w2c4 := P1_w2.c4; have P1_w2f4 := P1_w2.f4; have P1_w2c5 := P1_w2.c5; have P1_w2f5 := P1_w2.f5; have P1_w2l := P1_w2.lt)); (try ((refine useIt (P := KM (w3.heap.size) 0 0 0 0 0 0 w1) ?_ ?_); (repeat (first | with_reducible assumption | (with_reducible exact KM.at _ (by first | with_reducible rfl | (simp; done) | fail)) | with_reducible refine KM.drew ?_ | with_reducible refine KM.alloc ?_ _ | with_reducible refine KM.call ?_ (by with_reducible assumption) | with_reducible refine Km.drew ?_ | with_reducible refine Km.alloc ?_ _ | with_reducible refine Km.call ?_ (by with_reducible assumption) | with_reducible refine Kt.drew ?_ | with_reducible refine Kt.alloc ?_ _ | with_reducible refine Kt.call ?_ (by with_reducible assumption))); intro P1_w3; have P1_w3c0 := P1_w3.c0; have P1_w3f0 := P1_w3.f0; have P1_w3c1 := P1_w3.c1; have P1_w3f1 := P1_w3.f1; have P1_w3c2 := P1_w3.c2; have P1_w3f2 := P1_w3.f2; have P1_w3c3 := P1_w3.c3; have P1_w3f3 := P1_w3.f3; have P1_w3c4 := P1_w3.c4; have P1_w3f4 := P1_w3.f4; have P1_w3c5 := P1_w3.c5; have P1_w3f5 := P1_w3.f5; have P1_w3l := P1_w3.lt)); have B1 : Below w.heap.size w w1 := (by repeat (first | with_reducible assumption | with_reducible refine Below.drew ?_ | with_reducible refine Below.alloc ?_ (by first | omega | (simp <;> omega)) _ | with_reducible refine bstep ?_ (by with_reducible assumption)))))
        | (go_at_call 7; ((with_reducible refine (toMo_any _ _ _ _ _ _ _).mono ?_); rintro e w2 ⟨rfl, hb2⟩; have L2 : Kt (w.heap.size) A B C w2 := (by repeat (first | with_reducible assumption | with_reducible refine KM.drew ?_ | with_reducible refine KM.alloc ?_ _ | with_reducible refine KM.call ?_ (by with_reducible assumption) | with_reducible refine Km.drew ?_ | with_reducible refine Km.alloc ?_ _ | with_reducible refine Km.call ?_ (by with_reducible assumption) | with_reducible refine Kt.drew ?_ | with_reducible refine Kt.alloc ?_ _ | with_reducible refine Kt.call ?_ (by with_reducible assumption))); have L2l := L2.1; have M2 : Km (w.heap.size + 1) a b c d x y w2 := (by repeat (first | with_reducible assumption | with_reducible refine KM.drew ?_ | with_reducible refine KM.alloc ?_ _ | with_reducible refine KM.call ?_ (by with_reducible assumption) | with_reducible refine Km.drew ?_ | with_reducible refine Km.alloc ?_ _ | with_reducible refine Km.call ?_ (by with_reducible assumption) | with_reducible refine Kt.drew ?_ | with_reducible refine Kt.alloc ?_ _ | with_reducible refine Kt.call ?_ (by with_reducible assumption))); have M2l := M2.1; (try ((refine useIt (P := KM (w.heap.size + 1 + 1) 0 0 0 0 0 0 w2) ?_ ?_); (repeat (first | with_reducible assumption | (with_reducible exact KM.at _ (by first | with_reducible rfl | (simp; done) | fail)) | with_reducible refine KM.drew ?_ | with_reducible refine KM.alloc ?_ _ | with_reducible refine KM.call ?_ (by with_reducible assumption) | with_reducible refine Km.drew ?_ | with_reducible refine Km.alloc ?_ _ | with_reducible refine Km.call ?_ (by with_reducible assumption) | with_reducible refine Kt.drew ?_ | with_reducible refine Kt.alloc ?_ _ | with_reducible refine Kt.call ?_ (by with_reducible assumption))); intro P2_e; have P2_ec0 := P2_e.c0; have P2_ef0 := P2_e.f0; have P2_ec1 := P2_e.c1; have P2_ef1 := P2_e.f1; have P2_ec2 := P2_e.c2; have P2_ef2 := P2_e.f2; have P2_ec3 := P2_e.c3; have P2_ef3 := P2_e.f3; have P2_ec4 := P2_e.c4; have P2_ef4 := P2_e.f4; have P2_ec5 := P2_e.c5; have P2_ef5 := P2_e.f5; have P2_el := P2_e.lt)); (try ((refine useIt (P := KM (w1.heap.size) 0 0 0 0 0 0 w2) ?_ ?_); (repeat (first | with_reducible assumption | (with_reducible exact KM.at _ (by first | with_reducible rfl | (simp; done) | fail)) | with_reducible refine KM.drew ?_ | with_reducible refine KM.alloc ?_ _ | with_reducible refine KM.call ?_ (by with_reducible assumption) | with_reducible refine Km.drew ?_ | with_reducible refine Km.alloc ?_ _ | with_reducible refine Km.call ?_ (by with_reducible assumption) | with_reducible refine Kt.drew ?_ | with_reducible refine Kt.alloc ?_ _ | with_reducible refine Kt.call ?_ (by with_reducible assumption))); intro P2_w1; have P2_w1c0 := P2_w1.c0; have P2_w1f0 := P2_w1.f0; have P2_w1c1 := P2_w1.c1; have P2_w1f1 := P2_w1.f1; have P2_w1c2 := P2_w1.c2; have P2_w1f2 := P2_w1.f2; have P2_w1c3 := P2_w1.c3; have P2_w1f3 := P2_w1.f3; have P2_w1c4 := P2_w1.c4; have P2_w1f4 := P2_w1.f4; have P2_w1c5 := P2_w1.c5; have P2_w1f5 := P2_w1.f5; have P2_w1l := P2_w1.lt)); (try ((refine useIt (P := KM (w3.heap.size) 0 0 0 0 0 0 w2) ?_ ?_); (repeat (first | with_reducible assumption | (with_reducible exact KM.at _ (by first | with_reducible rfl | (simp; done) | fail)) | with_reducible refine KM.drew ?_ | with_reducible refine KM.alloc ?_ _ | with_reducible refine KM.call ?_ (by with_reducible assumption) | with_reducible refine Km.drew ?_ | with_reducible refine Km.alloc ?_ _ | with_reducible refine Km.call ?_ (by with_reducible assumption) | with_reducible refine Kt.drew ?_ | with_reducible refine Kt.alloc ?_ _ | with_reducible refine Kt.call ?_ (by with_reducible assumption))); intro P2_w3; have P2_w3c0 := P2_w3.c0; have P2_w3f0 := P2_w3.f0; have P2_w3c1 := P2_w3.c1; have P2_w3f1 := P2_w3.f1; have P2_w3c2 := P2_w3.c2; have P2_w3f2 := P2_w3.f2; have P2_w3c3 := P2_w3.c3; have P2_w3f3 := P2_w3.f3; have P2_w3c4 := P2_w3.c4; have P2_w3f4 := P2_w3.f4; have P2_w3c5 := P2_w3.c5; have P2_w3f5 := P2_w3.f5; have P2_w3l := P2_w3.lt)); have B2 : Below w.heap.size w w2 := (by repeat (first | with_reducible assumption | with_reducible refine Below.drew ?_ | with_reducible refine Below.alloc ?_ (by first | omega | (simp <;> omega)) _ | with_reducible refine bstep ?_ (by with_reducible assumption)))))
        | (go_at_call 9; ((with_reducible refine (CS.out _).mono ?_); rintro e w3 ⟨rfl, hb3⟩; have L3 : Kt (w.heap.size) A B C w3 := (by repeat (first | with_reducible assumption | with_reducible refine KM.drew ?_ | with_reducible refine KM.alloc ?_ _ | with_reducible refine KM.call ?_ (by with_reducible assumption) | with_reducible refine Km.drew ?_ | with_reducible refine Km.alloc ?_ _ | with_reducible refine Km.call ?_ (by with_reducible assumption) | with_reducible refine Kt.drew ?_ | with_reducible refine Kt.alloc ?_ _ | with_reducible refine Kt.call ?_ (by with_reducible assumption))); have L3l := L3.1; have M3 : Km (w.heap.size + 1) a b c d x y w3 := (by repeat (first | with_reducible assumption | with_reducible refine KM.drew ?_ | with_reducible refine KM.alloc ?_ _ | with_reducible refine KM.call ?_ (by with_reducible assumption) | with_reducible refine Km.drew ?_ | with_reducible refine Km.alloc ?_ _ | with_reducible refine Km.call ?_ (by with_reducible assumption) | with_reducible refine Kt.drew ?_ | with_reducible refine Kt.alloc ?_ _ | with_reducible refine Kt.call ?_ (by with_reducible assumption))); have M3l := M3.1; (try ((refine useIt (P := KM (w.heap.size + 1 + 1) 0 0 0 0 0 0 w3) ?_ ?_); (repeat (first | with_reducible assumption | (with_reducible exact KM.at _ (by first | with_reducible rfl | (simp; done) | fail)) | with_reducible refine KM.drew ?_ | with_reducible refine KM.alloc ?_ _ | with_reducible refine KM.call ?_ (by with_reducible assumption) | with_reducible refine Km.drew ?_ | with_reducible refine Km.alloc ?_ _ | with_reducible refine Km.call ?_ (by with_reducible assumption) | with_reducible refine Kt.drew ?_ | with_reducible refine Kt.alloc ?_ _ | with_reducible refine Kt.call ?_ (by with_reducible assumption))); intro P3_e; have P3_ec0 := P3_e.c0; have P3_ef0 := P3_e.f0; have P3_ec1 := P3_e.c1; have P3_ef1 := P3_e.f1; have P3_ec2 := P3_e.c2; have P3_ef2 := P3_e.f2; have P3_ec3 := P3_e.c3; have P3_ef3 := P3_e.f3; have P3_ec4 := P3_e.c4; have P3_ef4 := P3_e.f4; have P3_ec5 := P3_e.c5; have P3_ef5 := P3_e.f5; have P3_el := P3_e.lt)); (try ((refine useIt (P := KM (w1.heap.size) 0 0 0 0 0 0 w3) ?_ ?_); (repeat (first | with_reducible assumption | (with_reducible exact KM.at _ (by first | with_reducible rfl | (simp; done) | fail)) | with_reducible refine KM.drew ?_ | with_reducible refine KM.alloc ?_ _ | with_reducible refine KM.call ?_ (by with_reducible assumption) | with_reducible refine Km.drew ?_ | with_reducible refine Km.alloc ?_ _ | with_reducible refine Km.call ?_ (by with_reducible assumption) | with_reducible refine Kt.drew ?_ | with_reducible refine Kt.alloc ?_ _ | with_reducible refine Kt.call ?_ (by with_reducible assumption))); intro P3_w1; have P3_w1c0 := P3_w1.c0; have P3_w1f0 := P3_w1.f0; have P3_w1c1 := P3_w1.c1; have P3_w1f1 := P3_w1.f1; have P3_w1c2 := P3_w1.c2; have P3_w1f2 := P3_w1.f2; have P3_w1c3 := P3_w1.c3; have P3_w1f3 := P3_w1.f3; have P3_w1c4 := P3_w1.c4; have P3_w1f4 := P3_w1.f4; have P3_w1c5 := P3_w1.c5; have P3_w1f5 := P3_w1.f5; have P3_w1l := P3_w1.lt)); (try ((refine useIt (P := KM (w2.heap.size) 0 0 0 0 0 0 w3) ?_ ?_); (repeat (first | with_reducible assumption | (with_reducible exact KM.at _ (by first | with_reducible rfl | (simp; done) | fail)) | with_reducible refine KM.drew ?_ | with_reducible refine KM.alloc ?_ _ | with_reducible refine KM.call ?_ (by with_reducible assumption) | with_reducible refine Km.drew ?_ | with_reducible refine Km.alloc ?_ _ | with_reducible refine Km.call ?_ (by with_reducible assumption) | with_reducible refine Kt.drew ?_ | with_reducible refine Kt.alloc ?_ _ | with_reducible refine Kt.call ?_ (by with_reducible assumption))); intro P3_w2; have P3_w2c0 := P3_w2.c0; have P3_w2f0 := P3_w2.f0; have P3_w2c1 := P3_w2.c1; have P3_w2f1 := P3_w2.f1; have P3_w2c2 := P3_w2.c2; have P3_w2f2 := P3_w2.f2; have P3_w2c3 := P3_w2.c3; have P3_w2f3 := P3_w2.f3; have P3_w2c4 := P3_w2.c4; have P3_w2f4 := P3_w2.f4; have P3_w2c5 := P3_w2.c5; have P3_w2f5 := P3_w2.f5; have P3_w2l := P3_w2.lt)); have B3 : Below w.heap.size w w3 := (by repeat (first | with_reducible assumption | with_reducible refine Below.drew ?_ | with_reducible refine Below.alloc ?_ (by first | omega | (simp <;> omega)) _ | with_reducible refine bstep ?_ (by with_reducible assumption))))))
    all_goals
      go_wp2_with fail
      go_meet
      exact ⟨_, rfl, rfl, (by first | (with_reducible exact KM.at _ (by first | with_reducible rfl | (simp; done) | fail)) | (with_reducible exact KM.store (by repeat (first | with_reducible assumption | (with_reducible exact KM.at _ (by first | with_reducible rfl | (simp; done) | fail)) | with_reducible refine KM.drew ?_ | with_reducible refine KM.alloc ?_ _ | with_reducible refine KM.call ?_ (by with_reducible assumption) | with_reducible refine Km.drew ?_ | with_reducible refine Km.alloc ?_ _ | with_reducible refine Km.call ?_ (by with_reducible assumption) | with_reducible refine Kt.drew ?_ | with_reducible refine Kt.alloc ?_ _ | with_reducible refine Kt.call ?_ (by with_reducible assumption))) _ _ _ _ _ _) | fail), by repeat (first | with_reducible assumption | with_reducible refine KM.drew ?_ | with_reducible refine KM.alloc ?_ _ | with_reducible refine KM.call ?_ (by with_reducible assumption) | with_reducible refine Km.drew ?_ | with_reducible refine Km.alloc ?_ _ | with_reducible refine Km.call ?_ (by with_reducible assumption) | with_reducible refine Kt.drew ?_ | with_reducible refine Kt.alloc ?_ _ | with_reducible refine Kt.call ?_ (by with_reducible assumption) | ((with_reducible refine KM.put ?_ ?_); (first | omega | (dsimp only; omega))) | ((with_reducible refine Km.put ?_ ?_); (first | omega | (dsimp only; omega))) | ((with_reducible refine Kt.put ?_ ?_); (first | omega | (dsimp only; omega))) | ((with_reducible refine KM.far ?_ ?_); (first | omega | (dsimp only; omega))) | ((with_reducible refine Km.far ?_ ?_); (first | omega | (dsimp only; omega)))), by repeat (first | with_reducible assumption | with_reducible refine KM.drew ?_ | with_reducible refine KM.alloc ?_ _ | with_reducible refine KM.call ?_ (by with_reducible assumption) | with_reducible refine Km.drew ?_ | with_reducible refine Km.alloc ?_ _ | with_reducible refine Km.call ?_ (by with_reducible assumption) | with_reducible refine Kt.drew ?_ | with_reducible refine Kt.alloc ?_ _ | with_reducible refine Kt.call ?_ (by with_reducible assumption) | ((with_reducible refine KM.put ?_ ?_); (first | omega | (dsimp only; omega))) | ((with_reducible refine Km.put ?_ ?_); (first | omega | (dsimp only; omega))) | ((with_reducible refine Kt.put ?_ ?_); (first | omega | (dsimp only; omega))) | ((with_reducible refine KM.far ?_ ?_); (first | omega | (dsimp only; omega))) | ((with_reducible refine Km.far ?_ ?_); (first | omega | (dsimp only; omega)))), by first | omega | (simp <;> omega), by repeat (first | with_reducible assumption | with_reducible exact Below.refl _ _ | with_reducible refine Below.setCell ?_ (by first | omega | (simp <;> omega)) _ | with_reducible refine Below.alloc ?_ (by first | omega | (simp <;> omega)) _ | with_reducible refine bstep ?_ (by with_reducible assumption) | with_reducible refine Below.drew ?_)⟩
  case rest =>
    obtain ⟨g0, rfl, rfl, P4, L4, M4, leg0, B4⟩ := hcut
    obtain ⟨w4, hw4⟩ : ∃ z, z = wc := ⟨_, rfl⟩
    subst hw4
    have P4lt := P4.lt
    have L4lt := L4.1
    have M4lt := M4.1
    go_upto_region 1 with fail
    go_cut [9, 10] (fun s9 s10 wx => RdmQ w g0 A B C a b c d x y r0 r1 r2 r3 r4 r5 rc s9 s10 wx)
    case first =>
      go_region_held3 (fun W => (W.cell? ⟨w.heap.size, 0, none⟩ = some (.int .i64 A) ∧ W.cell? ⟨w.heap.size, 1, none⟩ = some (.int .i64 B) ∧ W.cell? ⟨w.heap.size, 2, none⟩ = some (.int .i64 C)) ∧ (W.cell? ⟨w.heap.size + 1, 0, none⟩ = some (.int .i64 a) ∧ W.cell? ⟨w.heap.size + 1, 1, none⟩ = some (.int .i64 b) ∧ W.cell? ⟨w.heap.size + 1, 2, none⟩ = some (.int .i64 c) ∧ W.cell? ⟨w.heap.size + 1, 3, none⟩ = some (.int .i64 d) ∧ W.cell? ⟨w.heap.size + 1, 4, none⟩ = some (.int .i64 x) ∧ W.cell? ⟨w.heap.size + 1, 5, none⟩ = some (.int .i64 y))) ((refine ⟨Kt.cells ?_, Km.cells ?_⟩ <;> repeat (first | with_reducible assumption | with_reducible refine KM.drew ?_ | with_reducible refine KM.alloc ?_ _ | with_reducible refine KM.call ?_ (by with_reducible assumption) | with_reducible refine Km.drew ?_ | with_reducible refine Km.alloc ?_ _ | with_reducible refine Km.call ?_ (by with_reducible assumption) | with_reducible refine Kt.drew ?_ | with_reducible refine Kt.alloc ?_ _ | with_reducible refine Kt.call ?_ (by with_reducible assumption) | ((with_reducible refine KM.put ?_ ?_); (first | omega | (dsimp only; omega))) | ((with_reducible refine Km.put ?_ ?_); (first | omega | (dsimp only; omega))) | ((with_reducible refine Kt.put ?_ ?_); (first | omega | (dsimp only; omega))) | ((with_reducible refine KM.far ?_ ?_); (first | omega | (dsimp only; omega))) | ((with_reducible refine Km.far ?_ ?_); (first | omega | (dsimp only; omega))))))
        (first
          | (go_at_call 6; ((with_reducible refine (toLat_any _ _ _ _).mono ?_); rintro e w5 ⟨rfl, hb5⟩; have P5 : KM (g0) r0 r1 r2 r3 r4 r5 w5 := (by repeat (first | with_reducible assumption | with_reducible refine KM.drew ?_ | with_reducible refine KM.alloc ?_ _ | with_reducible refine KM.call ?_ (by with_reducible assumption) | with_reducible refine Km.drew ?_ | with_reducible refine Km.alloc ?_ _ | with_reducible refine Km.call ?_ (by with_reducible assumption) | with_reducible refine Kt.drew ?_ | with_reducible refine Kt.alloc ?_ _ | with_reducible refine Kt.call ?_ (by with_reducible assumption))); have P5l := P5.lt; have L5 : Kt (w.heap.size) A B C w5 := (by repeat (first | with_reducible assumption | with_reducible refine KM.drew ?_ | with_reducible refine KM.alloc ?_ _ | with_reducible refine KM.call ?_ (by with_reducible assumption) | with_reducible refine Km.drew ?_ | with_reducible refine Km.alloc ?_ _ | with_reducible refine Km.call ?_ (by with_reducible assumption) | with_reducible refine Kt.drew ?_ | with_reducible refine Kt.alloc ?_ _ | with_reducible refine Kt.call ?_ (by with_reducible assumption))); have L5l := L5.1; have M5 : Km (w.heap.size + 1) a b c d x y w5 := (by repeat (first | with_reducible assumption | with_reducible refine KM.drew ?_ | with_reducible refine KM.alloc ?_ _ | with_reducible refine KM.call ?_ (by with_reducible assumption) | with_reducible refine Km.drew ?_ | with_reducible refine Km.alloc ?_ _ | with_reducible refine Km.call ?_ (by with_reducible assumption) | with_reducible refine Kt.drew ?_ | with_reducible refine Kt.alloc ?_ _ | with_reducible refine Kt.call ?_ (by with_reducible assumption))); have M5l := M5.1; (try ((refine useIt (P := KM (w4.heap.size) 0 0 0 0 0 0 w5) ?_ ?_); (repeat (first | with_reducible assumption | (with_reducible exact KM.at _ (by first | with_reducible rfl | (simp; done) | fail)) | with_reducible refine KM.drew ?_ | with_reducible refine KM.alloc ?_ _ | with_reducible refine KM.call ?_ (by with_reducible assumption) | with_reducible refine Km.drew ?_ | with_reducible refine Km.alloc ?_ _ | with_reducible refine Km.call ?_ (by with_reducible assumption) | with_reducible refine Kt.drew ?_ | with_reducible refine Kt.alloc ?_ _ | with_reducible refine Kt.call ?_ (by with_reducible assumption))); intro Q5_e; have Q5_ec0 := Q5_e.c0; have Q5_ef0 := Q5_e.f0; have Q5_ec1 := Q5_e.c1; have Q5_ef1 := Q5_e.f1; have Q5_ec2 := Q5_e.c2; have Q5_ef2 := Q5_e.f2; have Q5_ec3 := Q5_e.c3; have Q5_ef3 := Q5_e.f3; have Q5_ec4 := Q5_e.c4; have Q5_ef4 := Q5_e.f4; have Q5_ec5 := Q5_e.c5; have Q5_ef5 := Q5_e.f5; have Q5_el := Q5_e.lt)); (try ((refine useIt (P := KM (w6.heap.size) 0 0 0 0 0 0 w5) ?_ ?_); (repeat (first | with_reducible assumption | (with_reducible exact KM.at _ (by first | with_reducible rfl | (simp; done) | fail)) | with_reducible refine KM.drew ?_ | with_reducible refine KM.alloc ?_ _ | with_reducible refine KM.call ?_ (by with_reducible assumption) | with_reducible refine Km.drew ?_ | with_reducible refine Km.alloc ?_ _ | with_reducible refine Km.call ?_ (by with_reducible assumption) | with_reducible refine Kt.drew ?_ | with_reducible refine Kt.alloc ?_ _ | with_reducible refine Kt.call ?_ (by with_reducible assumption))); intro Q5_w6; have Q5_w6c0 := Q5_w6.c0; have Q5_w6f0 := Q5_w6.f0; have Q5_w6c1 := Q5_w6.c1; have Q5_w6f1 := Q5_w6.f1; have Q5_w6c2 := Q5_w6.c2; have Q5_w6f2 := Q5_w6.f2; have Q5_w6c3 := Q5_w6.c3; have Q5_w6f3 := Q5_w6.f3; have Q5_w6c4 := Q5_w6.c4; have Q5_w6f4 := Q5_w6.f4; have Q5_w6c5 := Q5_w6.c5; have Q5_w6f5 := Q5_w6.f5; have Q5_w6l := Q5_w6.lt)); (try ((refine useIt (P := KM (w7.heap.size) 0 0 0 0 0 0 w5) ?_ ?_); (repeat (first | with_reducible assumption | (with_reducible exact KM.at _ (by first | with_reducible rfl | (simp; done) | fail)) | with_reducible refine KM.drew ?_ | with_reducible refine KM.alloc ?_ _ | with_reducible refine KM.call ?_ (by with_reducible assumption) | with_reducible refine Km.drew ?_ | with_reducible refine Km.alloc ?_ _ | with_reducible refine Km.call ?_ (by with_reducible assumption) | with_reducible refine Kt.drew ?_ | with_reducible refine Kt.alloc ?_ _ | with_reducible refine Kt.call ?_ (by with_reducible assumption))); intro Q5_w7; have Q5_w7c0 := Q5_w7.c0; have Q5_w7f0 := Q5_w7.f0; have Q5_w7c1 := Q5_w7.c1; have Q5_w7f1 := Q5_w7.f1; have Q5_w7c2 := Q5_w7.c2; have Q5_w7f2 := Q5_w7.f2; have Q5_w7c3 := Q5_w7.c3; have Q5_w7f3 := Q5_w7.f3; have Q5_w7c4 := Q5_w7.c4; have Q5_w7f4 := Q5_w7.f4; have Q5_w7c5 := Q5_w7.c5; have Q5_w7f5 := Q5_w7.f5; have Q5_w7l := Q5_w7.lt)); have B5 : Below w.heap.size w w5 := (by repeat (first | with_reducible assumption | with_reducible refine Below.drew ?_ | with_reducible refine Below.alloc ?_ (by first | omega | (simp <;> omega)) _ | with_reducible refine bstep ?_ (by with_reducible assumption)))))
          | (go_at_call 7; ((with_reducible refine (toMo_any _ _ _ _ _ _ _).mono ?_); rintro e w6 ⟨rfl, hb6⟩; have P6 : KM (g0) r0 r1 r2 r3 r4 r5 w6 := (by repeat (first | with_reducible assumption | with_reducible refine KM.drew ?_ | with_reducible refine KM.alloc ?_ _ | with_reducible refine KM.call ?_ (by with_reducible assumption) | with_reducible refine Km.drew ?_ | with_reducible refine Km.alloc ?_ _ | with_reducible refine Km.call ?_ (by with_reducible assumption) | with_reducible refine Kt.drew ?_ | with_reducible refine Kt.alloc ?_ _ | with_reducible refine Kt.call ?_ (by with_reducible assumption))); have P6l := P6.lt; have L6 : Kt (w.heap.size) A B C w6 := (by repeat (first | with_reducible assumption | with_reducible refine KM.drew ?_ | with_reducible refine KM.alloc ?_ _ | with_reducible refine KM.call ?_ (by with_reducible assumption) | with_reducible refine Km.drew ?_ | with_reducible refine Km.alloc ?_ _ | with_reducible refine Km.call ?_ (by with_reducible assumption) | with_reducible refine Kt.drew ?_ | with_reducible refine Kt.alloc ?_ _ | with_reducible refine Kt.call ?_ (by with_reducible assumption))); have L6l := L6.1; have M6 : Km (w.heap.size + 1) a b c d x y w6 := (by repeat (first | with_reducible assumption | with_reducible refine KM.drew ?_ | with_reducible refine KM.alloc ?_ _ | with_reducible refine KM.call ?_ (by with_reducible assumption) | with_reducible refine Km.drew ?_ | with_reducible refine Km.alloc ?_ _ | with_reducible refine Km.call ?_ (by with_reducible assumption) | with_reducible refine Kt.drew ?_ | with_reducible refine Kt.alloc ?_ _ | with_reducible refine Kt.call ?_ (by with_reducible assumption))); have M6l := M6.1; (try ((refine useIt (P := KM (w4.heap.size) 0 0 0 0 0 0 w6) ?_ ?_); (repeat (first | with_reducible assumption | (with_reducible exact KM.at _ (by first | with_reducible rfl | (simp; done) | fail)) | with_reducible refine KM.drew ?_ | with_reducible refine KM.alloc ?_ _ | with_reducible refine KM.call ?_ (by with_reducible assumption) | with_reducible refine Km.drew ?_ | with_reducible refine Km.alloc ?_ _ | with_reducible refine Km.call ?_ (by with_reducible assumption) | with_reducible refine Kt.drew ?_ | with_reducible refine Kt.alloc ?_ _ | with_reducible refine Kt.call ?_ (by with_reducible assumption))); intro Q6_e; have Q6_ec0 := Q6_e.c0; have Q6_ef0 := Q6_e.f0; have Q6_ec1 := Q6_e.c1; have Q6_ef1 := Q6_e.f1; have Q6_ec2 := Q6_e.c2; have Q6_ef2 := Q6_e.f2; have Q6_ec3 := Q6_e.c3; have Q6_ef3 := Q6_e.f3; have Q6_ec4 := Q6_e.c4; have Q6_ef4 := Q6_e.f4; have Q6_ec5 := Q6_e.c5; have Q6_ef5 := Q6_e.f5; have Q6_el := Q6_e.lt)); (try ((refine useIt (P := KM (w5.heap.size) 0 0 0 0 0 0 w6) ?_ ?_); (repeat (first | with_reducible assumption | (with_reducible exact KM.at _ (by first | with_reducible rfl | (simp; done) | fail)) | with_reducible refine KM.drew ?_ | with_reducible refine KM.alloc ?_ _ | with_reducible refine KM.call ?_ (by with_reducible assumption) | with_reducible refine Km.drew ?_ | with_reducible refine Km.alloc ?_ _ | with_reducible refine Km.call ?_ (by with_reducible assumption) | with_reducible refine Kt.drew ?_ | with_reducible refine Kt.alloc ?_ _ | with_reducible refine Kt.call ?_ (by with_reducible assumption))); intro Q6_w5; have Q6_w5c0 := Q6_w5.c0; have Q6_w5f0 := Q6_w5.f0; have Q6_w5c1 := Q6_w5.c1; have Q6_w5f1 := Q6_w5.f1; have Q6_w5c2 := Q6_w5.c2; have Q6_w5f2 := Q6_w5.f2; have Q6_w5c3 := Q6_w5.c3; have Q6_w5f3 := Q6_w5.f3; have Q6_w5c4 := Q6_w5.c4; have Q6_w5f4 := Q6_w5.f4; have Q6_w5c5 := Q6_w5.c5; have Q6_w5f5 := Q6_w5.f5; have Q6_w5l := Q6_w5.lt)); (try ((refine useIt (P := KM (w7.heap.size) 0 0 0 0 0 0 w6) ?_ ?_); (repeat (first | with_reducible assumption | (with_reducible exact KM.at _ (by first | with_reducible rfl | (simp; done) | fail)) | with_reducible refine KM.drew ?_ | with_reducible refine KM.alloc ?_ _ | with_reducible refine KM.call ?_ (by with_reducible assumption) | with_reducible refine Km.drew ?_ | with_reducible refine Km.alloc ?_ _ | with_reducible refine Km.call ?_ (by with_reducible assumption) | with_reducible refine Kt.drew ?_ | with_reducible refine Kt.alloc ?_ _ | with_reducible refine Kt.call ?_ (by with_reducible assumption))); intro Q6_w7; have Q6_w7c0 := Q6_w7.c0; have Q6_w7f0 := Q6_w7.f0; have Q6_w7c1 := Q6_w7.c1; have Q6_w7f1 := Q6_w7.f1; have Q6_w7c2 := Q6_w7.c2; have Q6_w7f2 := Q6_w7.f2; have Q6_w7c3 := Q6_w7.c3; have Q6_w7f3 := Q6_w7.f3; have Q6_w7c4 := Q6_w7.c4; have Q6_w7f4 := Q6_w7.f4; have Q6_w7c5 := Q6_w7.c5; have Q6_w7f5 := Q6_w7.f5; have Q6_w7l := Q6_w7.lt)); have B6 : Below w.heap.size w w6 := (by repeat (first | with_reducible assumption | with_reducible refine Below.drew ?_ | with_reducible refine Below.alloc ?_ (by first | omega | (simp <;> omega)) _ | with_reducible refine bstep ?_ (by with_reducible assumption)))))
          | (go_at_call 10; ((with_reducible refine (CI.out _).mono ?_); rintro e w7 ⟨rfl, hb7⟩; have P7 : KM (g0) r0 r1 r2 r3 r4 r5 w7 := (by repeat (first | with_reducible assumption | with_reducible refine KM.drew ?_ | with_reducible refine KM.alloc ?_ _ | with_reducible refine KM.call ?_ (by with_reducible assumption) | with_reducible refine Km.drew ?_ | with_reducible refine Km.alloc ?_ _ | with_reducible refine Km.call ?_ (by with_reducible assumption) | with_reducible refine Kt.drew ?_ | with_reducible refine Kt.alloc ?_ _ | with_reducible refine Kt.call ?_ (by with_reducible assumption))); have P7l := P7.lt; have L7 : Kt (w.heap.size) A B C w7 := (by repeat (first | with_reducible assumption | with_reducible refine KM.drew ?_ | with_reducible refine KM.alloc ?_ _ | with_reducible refine KM.call ?_ (by with_reducible assumption) | with_reducible refine Km.drew ?_ | with_reducible refine Km.alloc ?_ _ | with_reducible refine Km.call ?_ (by with_reducible assumption) | with_reducible refine Kt.drew ?_ | with_reducible refine Kt.alloc ?_ _ | with_reducible refine Kt.call ?_ (by with_reducible assumption))); have L7l := L7.1; have M7 : Km (w.heap.size + 1) a b c d x y w7 := (by repeat (first | with_reducible assumption | with_reducible refine KM.drew ?_ | with_reducible refine KM.alloc ?_ _ | with_reducible refine KM.call ?_ (by with_reducible assumption) | with_reducible refine Km.drew ?_ | with_reducible refine Km.alloc ?_ _ | with_reducible refine Km.call ?_ (by with_reducible assumption) | with_reducible refine Kt.drew ?_ | with_reducible refine Kt.alloc ?_ _ | with_reducible refine Kt.call ?_ (by with_reducible assumption))); have M7l := M7.1; (try ((refine useIt (P := KM (w4.heap.size) 0 0 0 0 0 0 w7) ?_ ?_); (repeat (first | with_reducible assumption | (with_reducible exact KM.at _ (by first | with_reducible rfl | (simp; done) | fail)) | with_reducible refine KM.drew ?_ | with_reducible refine KM.alloc ?_ _ | with_reducible refine KM.call ?_ (by with_reducible assumption) | with_reducible refine Km.drew ?_ | with_reducible refine Km.alloc ?_ _ | with_reducible refine Km.call ?_ (by with_reducible assumption) | with_reducible refine Kt.drew ?_ | with_reducible refine Kt.alloc ?_ _ | with_reducible refine Kt.call ?_ (by with_reducible assumption))); intro Q7_e; have Q7_ec0 := Q7_e.c0; have Q7_ef0 := Q7_e.f0; have Q7_ec1 := Q7_e.c1; have Q7_ef1 := Q7_e.f1; have Q7_ec2 := Q7_e.c2; have Q7_ef2 := Q7_e.f2; have Q7_ec3 := Q7_e.c3; have Q7_ef3 := Q7_e.f3; have Q7_ec4 := Q7_e.c4; have Q7_ef4 := Q7_e.f4; have Q7_ec5 := Q7_e.c5; have Q7_ef5 := Q7_e.f5; have Q7_el := Q7_e.lt)); (try ((refine useIt (P := KM (w5.heap.size) 0 0 0 0 0 0 w7) ?_ ?_); (repeat (first | with_reducible assumption | (with_reducible exact KM.at _ (by first | with_reducible rfl | (simp; done) | fail)) | with_reducible refine KM.drew ?_ | with_reducible refine KM.alloc ?_ _ | with_reducible refine KM.call ?_ (by with_reducible assumption) | with_reducible refine Km.drew ?_ | with_reducible refine Km.alloc ?_ _ | with_reducible refine Km.call ?_ (by with_reducible assumption) | with_reducible refine Kt.drew ?_ | with_reducible refine Kt.alloc ?_ _ | with_reducible refine Kt.call ?_ (by with_reducible assumption))); intro Q7_w5; have Q7_w5c0 := Q7_w5.c0; have Q7_w5f0 := Q7_w5.f0; have Q7_w5c1 := Q7_w5.c1; have Q7_w5f1 := Q7_w5.f1; have Q7_w5c2 := Q7_w5.c2; have Q7_w5f2 := Q7_w5.f2; have Q7_w5c3 := Q7_w5.c3; have Q7_w5f3 := Q7_w5.f3; have Q7_w5c4 := Q7_w5.c4; have Q7_w5f4 := Q7_w5.f4; have Q7_w5c5 := Q7_w5.c5; have Q7_w5f5 := Q7_w5.f5; have Q7_w5l := Q7_w5.lt)); (try ((refine useIt (P := KM (w6.heap.size) 0 0 0 0 0 0 w7) ?_ ?_); (repeat (first | with_reducible assumption | (with_reducible exact KM.at _ (by first | with_reducible rfl | (simp; done) | fail)) | with_reducible refine KM.drew ?_ | with_reducible refine KM.alloc ?_ _ | with_reducible refine KM.call ?_ (by with_reducible assumption) | with_reducible refine Km.drew ?_ | with_reducible refine Km.alloc ?_ _ | with_reducible refine Km.call ?_ (by with_reducible assumption) | with_reducible refine Kt.drew ?_ | with_reducible refine Kt.alloc ?_ _ | with_reducible refine Kt.call ?_ (by with_reducible assumption))); intro Q7_w6; have Q7_w6c0 := Q7_w6.c0; have Q7_w6f0 := Q7_w6.f0; have Q7_w6c1 := Q7_w6.c1; have Q7_w6f1 := Q7_w6.f1; have Q7_w6c2 := Q7_w6.c2; have Q7_w6f2 := Q7_w6.f2; have Q7_w6c3 := Q7_w6.c3; have Q7_w6f3 := Q7_w6.f3; have Q7_w6c4 := Q7_w6.c4; have Q7_w6f4 := Q7_w6.f4; have Q7_w6c5 := Q7_w6.c5; have Q7_w6f5 := Q7_w6.f5; have Q7_w6l := Q7_w6.lt)); have B7 : Below w.heap.size w w7 := (by repeat (first | with_reducible assumption | with_reducible refine Below.drew ?_ | with_reducible refine Below.alloc ?_ (by first | omega | (simp <;> omega)) _ | with_reducible refine bstep ?_ (by with_reducible assumption))))))
      all_goals
        go_wp2_with fail
        go_meet
        exact ⟨_, rfl, rfl, (by first | (with_reducible exact KM.at _ (by first | with_reducible rfl | (simp; done) | fail)) | (with_reducible exact KM.store (by repeat (first | with_reducible assumption | (with_reducible exact KM.at _ (by first | with_reducible rfl | (simp; done) | fail)) | with_reducible refine KM.drew ?_ | with_reducible refine KM.alloc ?_ _ | with_reducible refine KM.call ?_ (by with_reducible assumption) | with_reducible refine Km.drew ?_ | with_reducible refine Km.alloc ?_ _ | with_reducible refine Km.call ?_ (by with_reducible assumption) | with_reducible refine Kt.drew ?_ | with_reducible refine Kt.alloc ?_ _ | with_reducible refine Kt.call ?_ (by with_reducible assumption))) _ _ _ _ _ _) | fail), by repeat (first | with_reducible assumption | with_reducible refine KM.drew ?_ | with_reducible refine KM.alloc ?_ _ | with_reducible refine KM.call ?_ (by with_reducible assumption) | with_reducible refine Km.drew ?_ | with_reducible refine Km.alloc ?_ _ | with_reducible refine Km.call ?_ (by with_reducible assumption) | with_reducible refine Kt.drew ?_ | with_reducible refine Kt.alloc ?_ _ | with_reducible refine Kt.call ?_ (by with_reducible assumption) | ((with_reducible refine KM.put ?_ ?_); (first | omega | (dsimp only; omega))) | ((with_reducible refine Km.put ?_ ?_); (first | omega | (dsimp only; omega))) | ((with_reducible refine Kt.put ?_ ?_); (first | omega | (dsimp only; omega))) | ((with_reducible refine KM.far ?_ ?_); (first | omega | (dsimp only; omega))) | ((with_reducible refine Km.far ?_ ?_); (first | omega | (dsimp only; omega)))), by repeat (first | with_reducible assumption | with_reducible refine KM.drew ?_ | with_reducible refine KM.alloc ?_ _ | with_reducible refine KM.call ?_ (by with_reducible assumption) | with_reducible refine Km.drew ?_ | with_reducible refine Km.alloc ?_ _ | with_reducible refine Km.call ?_ (by with_reducible assumption) | with_reducible refine Kt.drew ?_ | with_reducible refine Kt.alloc ?_ _ | with_reducible refine Kt.call ?_ (by with_reducible assumption) | ((with_reducible refine KM.put ?_ ?_); (first | omega | (dsimp only; omega))) | ((with_reducible refine Km.put ?_ ?_); (first | omega | (dsimp only; omega))) | ((with_reducible refine Kt.put ?_ ?_); (first | omega | (dsimp only; omega))) | ((with_reducible refine KM.far ?_ ?_); (first | omega | (dsimp only; omega))) | ((with_reducible refine Km.far ?_ ?_); (first | omega | (dsimp only; omega)))), by repeat (first | with_reducible assumption | with_reducible refine KM.drew ?_ | with_reducible refine KM.alloc ?_ _ | with_reducible refine KM.call ?_ (by with_reducible assumption) | with_reducible refine Km.drew ?_ | with_reducible refine Km.alloc ?_ _ | with_reducible refine Km.call ?_ (by with_reducible assumption) | with_reducible refine Kt.drew ?_ | with_reducible refine Kt.alloc ?_ _ | with_reducible refine Kt.call ?_ (by with_reducible assumption) | ((with_reducible refine KM.put ?_ ?_); (first | omega | (dsimp only; omega))) | ((with_reducible refine Km.put ?_ ?_); (first | omega | (dsimp only; omega))) | ((with_reducible refine Kt.put ?_ ?_); (first | omega | (dsimp only; omega))) | ((with_reducible refine KM.far ?_ ?_); (first | omega | (dsimp only; omega))) | ((with_reducible refine Km.far ?_ ?_); (first | omega | (dsimp only; omega)))), by first | omega | (simp <;> omega), by repeat (first | with_reducible assumption | with_reducible exact Below.refl _ _ | with_reducible refine Below.setCell ?_ (by first | omega | (simp <;> omega)) _ | with_reducible refine Below.alloc ?_ (by first | omega | (simp <;> omega)) _ | with_reducible refine bstep ?_ (by with_reducible assumption) | with_reducible refine Below.drew ?_)⟩
    case rest =>
      obtain ⟨g1, rfl, rfl, Q8, P8, L8, M8, leg1, B8⟩ := hcut
      obtain ⟨w8, hw8⟩ : ∃ z, z = wc := ⟨_, rfl⟩
      subst hw8
      have Q8c0 := Q8.c0
      have Q8c1 := Q8.c1
      have Q8c2 := Q8.c2
      have Q8c3 := Q8.c3
      have Q8c4 := Q8.c4
      have Q8c5 := Q8.c5
      have Q8f0 := Q8.f0
      have Q8f1 := Q8.f1
      have Q8f2 := Q8.f2
      have Q8f3 := Q8.f3
      have Q8f4 := Q8.f4
      have Q8f5 := Q8.f5
      have Q8l := Q8.lt
      have Q8n : ¬ g1 = w8.heap.size := by omega
      have P8c0 := P8.c0
      have P8c1 := P8.c1
      have P8c2 := P8.c2
      have P8c3 := P8.c3
      have P8c4 := P8.c4
      have P8c5 := P8.c5
      have P8f0 := P8.f0
      have P8f1 := P8.f1
      have P8f2 := P8.f2
      have P8f3 := P8.f3
      have P8f4 := P8.f4
      have P8f5 := P8.f5
      have P8l := P8.lt
      have P8n : ¬ g0 = w8.heap.size := by omega
      have L8c0 := L8.c0
      have L8c1 := L8.c1
      have L8c2 := L8.c2
      have L8l := L8.1
      have L8n : ¬ w.heap.size = w8.heap.size := by omega
      have M8c0 := M8.c0
      have M8c1 := M8.c1
      have M8c2 := M8.c2
      have M8c3 := M8.c3
      have M8c4 := M8.c4
      have M8c5 := M8.c5
      have M8l := M8.1
      have M8n : ¬ w.heap.size + 1 = w8.heap.size := by omega
      go_wp2_with fail
      refine (eqMotion_any _ _ _ _ _ _ _).mono ?_
      rintro e w9 ⟨rfl, hb9⟩
      have Q9 : KM (g1) r0 r1 r2 r3 r4 r5 w9 := KM.call Q8 hb9
      have P9 : KM (g0) r0 r1 r2 r3 r4 r5 w9 := KM.call P8 hb9
      have L9 : Kt (w.heap.size) A B C w9 := Kt.call L8 hb9
      have M9 : Km (w.heap.size + 1) a b c d x y w9 := Km.call M8 hb9
      have B9 : Below w.heap.size w w9 := bstep B8 hb9
      clear hb9 B8 Q8 P8 L8 M8
      have Q9c0 := Q9.c0
      have Q9c1 := Q9.c1
      have Q9c2 := Q9.c2
      have Q9c3 := Q9.c3
      have Q9c4 := Q9.c4
      have Q9c5 := Q9.c5
      have Q9f0 := Q9.f0
      have Q9f1 := Q9.f1
      have Q9f2 := Q9.f2
      have Q9f3 := Q9.f3
      have Q9f4 := Q9.f4
      have Q9f5 := Q9.f5
      have Q9l := Q9.lt
      have Q9n : ¬ g1 = w9.heap.size := by omega
      have P9c0 := P9.c0
      have P9c1 := P9.c1
      have P9c2 := P9.c2
      have P9c3 := P9.c3
      have P9c4 := P9.c4
      have P9c5 := P9.c5
      have P9f0 := P9.f0
      have P9f1 := P9.f1
      have P9f2 := P9.f2
      have P9f3 := P9.f3
      have P9f4 := P9.f4
      have P9f5 := P9.f5
      have P9l := P9.lt
      have P9n : ¬ g0 = w9.heap.size := by omega
      have L9c0 := L9.c0
      have L9c1 := L9.c1
      have L9c2 := L9.c2
      have L9l := L9.1
      have L9n : ¬ w.heap.size = w9.heap.size := by omega
      have M9c0 := M9.c0
      have M9c1 := M9.c1
      have M9c2 := M9.c2
      have M9c3 := M9.c3
      have M9c4 := M9.c4
      have M9c5 := M9.c5
      have M9l := M9.1
      have M9n : ¬ w.heap.size + 1 = w9.heap.size := by omega
      go_wp2
      all_goals
        go_ret
        refine ⟨rfl, ?_⟩
        repeat (first | with_reducible assumption | with_reducible exact Below.refl _ _ | with_reducible refine Below.setCell ?_ (by first | omega | (simp <;> omega)) _ | with_reducible refine Below.alloc ?_ (by first | omega | (simp <;> omega)) _ | with_reducible refine bstep ?_ (by with_reducible assumption) | with_reducible refine Below.drew ?_)
end Go.Proofs.Ytpdekopmnchanaa
