/-
  A pattern on another lattice, in the program and in the model. Conditions: the pattern and the lattice are valid; the program's variable unitMatrix holds the unit.
-/
import Derived.Test.YtpejihckepaojaaDoorPtB
import Derived.Test.YtpejihckepaojaaDoorPtJ
import Derived.Test.YtpejihckepaojaaDoorUni
import Derived.Test.YtpejihckepaojaaDoorRgT
namespace Go.Proofs.YtpejihckepaojaaDoor
open Go.RowKit
set_option linter.unusedSimpArgs false
set_option linter.unusedVariables false

/- the colours on another lattice -/
def onG (A B C : Int) (F : Nat → Int) (p q : Nat) : Nat → Int := cpyG A B C F 1 0 0 1 0 0 p q
theorem cpyL_unit (A B C : Int) (F : Nat → Int) (L : List V29) : cpyL A B C F 1 0 0 1 0 0 L = L.map fun v => F (numP A B C v.1 v.2) := by
  unfold cpyL
  congr 1
  funext v
  unfold cpy
  rw [show 1 * v.1 + 0 * v.2 + 0 = v.1 by omega, show 0 * v.1 + 1 * v.2 + 0 = v.2 by omega]
theorem BX.grown {g : Nat} {us : List Value} {W w1 : World} {row : Option Nat} (h : BX g us W) (hg : W.grownBy w1 row) (hr : row ≠ some g) : BX g us w1 := by
  have hh := hg.block g h.lt (fun e => hr e.symm)
  exact ⟨⟨Nat.lt_of_lt_of_le h.lt hg.size, fun i u e => (World.cell?_of_block (w := W) hh).trans (h.bx.cel i u e)⟩, fun i hi => (World.frozen?_of_block (w := W) hh).trans (h.fr i hi)⟩
theorem own_shP {W : World} {base n : Nat} {e : TypeId} {size : Nat} {v : Value} {xs : List Value} (h : W.ownsRow base e size v n xs) : ∃ ao cap, v = .slice ao n cap := by
  rcases h.2 with ⟨rfl, h2, _⟩ | ⟨g, cap, cur, rfl, _⟩
  · exact ⟨none, 0, by simp⟩
  · exact ⟨_, cap, rfl⟩
theorem ownsRow_setP {W : World} {base n : Nat} {e : TypeId} {size : Nat} {v : Value} {xs : List Value} {bx o : Nat} (h : W.ownsRow base e size v n xs) (hb : v.ownBlock ≠ some bx) (u : Value) : (W.setCell ⟨bx, o, none⟩ u).ownsRow base e size v n xs := by
  obtain ⟨h1, h2⟩ := h
  refine ⟨h1, h2.imp id ?_⟩
  rintro ⟨g, cap, cur, rfl, hg, hb9, r⟩
  refine ⟨g, cap, cur, rfl, hg, (Below.heap_setCell W _ _ g (fun e => hb (by simp only [Value.ownBlock]; rw [e]))).trans hb9, r⟩
set_option maxRecDepth 100000 in
set_option maxHeartbeats 16000000 in
theorem spread_any {lo hi p q n p' q' : Nat} {f B B' : Int} {v : Value} {F : Nat → Int} {W : World} (h : PatI f p B q n F) (hl : latI (p' : Int) B' (q' : Int)) (hv : SRow lo hi 1 v n F W) (hU : UnitOK W) :
    Calls Tryd.prog 42 #[.agg #[.int .i64 f, .int .i64 (p : Int), .int .i64 B, .int .i64 (q : Int), v], .agg #[.int .i64 ((p' : Int)), .int .i64 B', .int .i64 ((q' : Int))]] W (fun e w' => ∃ v' : Value, e = .returned (.agg #[.int .i64 f, .int .i64 (p' : Int), .int .i64 B', .int .i64 (q' : Int), v']) ∧ SRow W.heap.size w'.heap.size 1 v' (p' * q') (onG (p : Int) B (q : Int) F p' q') w' ∧ Below W.heap.size W w') := by
  have R := Lib.hid hv
  have HH := Lib.hid h
  obtain ⟨hp1, hp2, hq1, hq2, hn64, hn1⟩ := h.bd
  have hpi' : PatI 0 p' B' q' (p' * q') (fun _ => 0) := ⟨rfl, hl, rfl, fun t _ => by omega⟩
  obtain ⟨hp1', hp2', hq1', hq2', hn64', hn1'⟩ := hpi'.bd
  have HL := Lib.hid hl
  obtain ⟨g, cap, rfl, hg, _, r⟩ := hv.irow hn1
  have hgs := hv.1
  have hgw : g < W.heap.size := by omega
  have P0 : Bx W.heap.size [.int .i64 f, .int .i64 (p : Int), .int .i64 B, .int .i64 (q : Int), .slice (some ⟨g, 0, none⟩) n cap] (((W.alloc (.cells #[.int .i64 f, .int .i64 (p : Int), .int .i64 B, .int .i64 (q : Int), .slice (some ⟨g, 0, none⟩) n cap] 30)).alloc (.cells #[.int .i64 (p' : Int), .int .i64 B', .int .i64 (q' : Int)] 28)).alloc (.cells #[.int .i64 0, .int .i64 0, .int .i64 0, .int .i64 0, .slice none 0 0] 30)) := ((Bx.at _ rfl).alloc _).alloc _
  have L0 : Bx (W.heap.size + 1) [.int .i64 (p' : Int), .int .i64 B', .int .i64 (q' : Int)] (((W.alloc (.cells #[.int .i64 f, .int .i64 (p : Int), .int .i64 B, .int .i64 (q : Int), .slice (some ⟨g, 0, none⟩) n cap] 30)).alloc (.cells #[.int .i64 (p' : Int), .int .i64 B', .int .i64 (q' : Int)] 28)).alloc (.cells #[.int .i64 0, .int .i64 0, .int .i64 0, .int .i64 0, .slice none 0 0] 30)) := (Bx.at _ (by simp)).alloc _
  have R0 : BX (W.heap.size + 1 + 1) [.int .i64 0, .int .i64 0, .int .i64 0, .int .i64 0, .slice none 0 0] (((W.alloc (.cells #[.int .i64 f, .int .i64 (p : Int), .int .i64 B, .int .i64 (q : Int), .slice (some ⟨g, 0, none⟩) n cap] 30)).alloc (.cells #[.int .i64 (p' : Int), .int .i64 B', .int .i64 (q' : Int)] 28)).alloc (.cells #[.int .i64 0, .int .i64 0, .int .i64 0, .int .i64 0, .slice none 0 0] 30)) := BX.at _ (by simp)
  have B0 : Below W.heap.size W (((W.alloc (.cells #[.int .i64 f, .int .i64 (p : Int), .int .i64 B, .int .i64 (q : Int), .slice (some ⟨g, 0, none⟩) n cap] 30)).alloc (.cells #[.int .i64 (p' : Int), .int .i64 B', .int .i64 (q' : Int)] 28)).alloc (.cells #[.int .i64 0, .int .i64 0, .int .i64 0, .int .i64 0, .slice none 0 0] 30)) := by repeat (first | with_reducible exact Below.refl _ _ | with_reducible assumption | with_reducible refine Below.setCell ?_ (by first | omega | (dsimp only; omega) | (simp <;> omega)) _ | with_reducible refine Below.alloc ?_ (by first | omega | (simp <;> omega)) _ | with_reducible refine bstep ?_ (by with_reducible assumption) | with_reducible refine Below.drew ?_ | with_reducible refine below_drewN ?_ _)
  have U0 : UnitOK (((W.alloc (.cells #[.int .i64 f, .int .i64 (p : Int), .int .i64 B, .int .i64 (q : Int), .slice (some ⟨g, 0, none⟩) n cap] 30)).alloc (.cells #[.int .i64 (p' : Int), .int .i64 B', .int .i64 (q' : Int)] 28)).alloc (.cells #[.int .i64 0, .int .i64 0, .int .i64 0, .int .i64 0, .slice none 0 0] 30)) := ((hU.alloc _).alloc _).alloc _
  obtain ⟨ul, u0, u1, u2, u3⟩ := id hU
  have un : ¬ 0 = W.heap.size := by omega
  have un1 : ¬ 0 = W.heap.size + 1 := by omega
  have un2 : ¬ 0 = W.heap.size + 1 + 1 := by omega
  clear hv h hl hpi' hU
  go_enter Tryd.func42, Tryd.ntmps42
  go_wp2_with fail
  with_reducible refine (copied_any HH.out.lat HH.out.nn HL.out (R.out.call B0) 1 0 0 1 0 0 (by decide) (by decide) (by decide)).mono ?_
  rintro e w1 ⟨v1, rfl, r1, hb1⟩
  have P1 := P0.call hb1
  have L1 := L0.call hb1
  have R1 := R0.call hb1
  have B1 := bstep B0 hb1
  have hz1 := hb1.size
  have HR : Hid (SRow (W.heap.size + 3) w1.heap.size 1 v1 (p' * q') (onG (p : Int) B (q : Int) F p' q') w1) := Lib.hid (r1.low (lo' := W.heap.size + 3) (by simp))
  obtain ⟨ao1, cap1, rfl⟩ := r1.slice
  have HB := Lib.hid B1
  clear hb1 P0 L0 R0 B0 U0 r1 B1 u0 u1 u2 u3 un un1 un2 ul
  have p1c0 := P1.c0
  have p1c1 := P1.c1
  have p1c2 := P1.c2
  have p1c3 := P1.c3
  have p1c4 := P1.c4
  have p1l := P1.lt
  have l1c0 := L1.c0
  have l1c1 := L1.c1
  have l1c2 := L1.c2
  have l1l := L1.lt
  have r1c0 := R1.c0
  have r1c1 := R1.c1
  have r1c2 := R1.c2
  have r1c3 := R1.c3
  have r1c4 := R1.c4
  have r1f0 := R1.f0
  have r1f1 := R1.f1
  have r1f2 := R1.f2
  have r1f3 := R1.f3
  have r1f4 := R1.f4
  have r1l := R1.lt
  go_wp2
  refine bodyPost_ret (v := .agg #[.int .i64 f, .int .i64 (p' : Int), .int .i64 B', .int .i64 (q' : Int), .slice ao1 (p' * q') cap1]) (by simp [results, Tryd.results42, go_sem, *]) rfl ⟨_, rfl, ?_, ?_⟩
  · refine SRow.up (hi := w1.heap.size) (SRow.low (lo := W.heap.size + 3) ?_ (by omega))
    repeat (first | with_reducible exact HR.out | with_reducible refine SRow.put (by first | omega | (dsimp only; omega)) _ ?_)
  · have hB := HB.out
    repeat (first | with_reducible exact Below.refl _ _ | with_reducible assumption | with_reducible refine Below.setCell ?_ (by first | omega | (dsimp only; omega) | (simp <;> omega)) _ | with_reducible refine Below.alloc ?_ (by first | omega | (simp <;> omega)) _ | with_reducible refine bstep ?_ (by with_reducible assumption) | with_reducible refine Below.drew ?_ | with_reducible refine below_drewN ?_ _)
set_option maxRecDepth 100000 in
set_option maxHeartbeats 16000000 in
theorem l09On_any {lo hi p q n p' q' : Nat} {f B B' : Int} {v : Value} {F : Nat → Int} {W : World} (h : PatI f p B q n F) (hl : latI (p' : Int) B' (q' : Int)) (hv : SRow lo hi 1 v n F W) :
    Calls Tryd.prog 38 #[.agg #[.int .i64 f, .int .i64 (p : Int), .int .i64 B, .int .i64 (q : Int), v], .agg #[.int .i64 ((p' : Int)), .int .i64 B', .int .i64 ((q' : Int))]] W (fun e w' => ∃ v' : Value, e = .returned (.agg #[.int .i64 f, .int .i64 (p' : Int), .int .i64 B', .int .i64 (q' : Int), v']) ∧ SRow W.heap.size w'.heap.size 1 v' (p' * q') (onG (p : Int) B (q : Int) F p' q') w' ∧ Below W.heap.size W w') := by
  obtain ⟨i0, hinf, hz0, hz1, hz2⟩ := info_parts infoI64
  have R := Lib.hid hv
  have HH := Lib.hid h
  obtain ⟨hp1, hp2, hq1, hq2, hn64, hn1⟩ := h.bd
  have hpi' : PatI 0 p' B' q' (p' * q') (fun _ => 0) := ⟨rfl, hl, rfl, fun t _ => by omega⟩
  obtain ⟨hp1', hp2', hq1', hq2', hn64', hn1'⟩ := hpi'.bd
  have HL := Lib.hid hl
  obtain ⟨g, cap, rfl, hg, _, r⟩ := hv.irow hn1
  have hgs := hv.1
  have hgw : g < W.heap.size := by omega
  have P0 : Bx W.heap.size [.int .i64 f, .int .i64 (p : Int), .int .i64 B, .int .i64 (q : Int), .slice (some ⟨g, 0, none⟩) n cap] (((W.alloc (.cells #[.int .i64 f, .int .i64 (p : Int), .int .i64 B, .int .i64 (q : Int), .slice (some ⟨g, 0, none⟩) n cap] 30)).alloc (.cells #[.int .i64 (p' : Int), .int .i64 B', .int .i64 (q' : Int)] 28)).alloc (.cells #[.int .i64 0, .int .i64 0, .int .i64 0, .int .i64 0, .slice none 0 0] 30)) := ((Bx.at _ rfl).alloc _).alloc _
  have L0 : Bx (W.heap.size + 1) [.int .i64 (p' : Int), .int .i64 B', .int .i64 (q' : Int)] (((W.alloc (.cells #[.int .i64 f, .int .i64 (p : Int), .int .i64 B, .int .i64 (q : Int), .slice (some ⟨g, 0, none⟩) n cap] 30)).alloc (.cells #[.int .i64 (p' : Int), .int .i64 B', .int .i64 (q' : Int)] 28)).alloc (.cells #[.int .i64 0, .int .i64 0, .int .i64 0, .int .i64 0, .slice none 0 0] 30)) := (Bx.at _ (by simp)).alloc _
  have R0 : BX (W.heap.size + 1 + 1) [.int .i64 0, .int .i64 0, .int .i64 0, .int .i64 0, .slice none 0 0] (((W.alloc (.cells #[.int .i64 f, .int .i64 (p : Int), .int .i64 B, .int .i64 (q : Int), .slice (some ⟨g, 0, none⟩) n cap] 30)).alloc (.cells #[.int .i64 (p' : Int), .int .i64 B', .int .i64 (q' : Int)] 28)).alloc (.cells #[.int .i64 0, .int .i64 0, .int .i64 0, .int .i64 0, .slice none 0 0] 30)) := BX.at _ (by simp)
  have B0 : Below W.heap.size W (((W.alloc (.cells #[.int .i64 f, .int .i64 (p : Int), .int .i64 B, .int .i64 (q : Int), .slice (some ⟨g, 0, none⟩) n cap] 30)).alloc (.cells #[.int .i64 (p' : Int), .int .i64 B', .int .i64 (q' : Int)] 28)).alloc (.cells #[.int .i64 0, .int .i64 0, .int .i64 0, .int .i64 0, .slice none 0 0] 30)) := by repeat (first | with_reducible exact Below.refl _ _ | with_reducible assumption | with_reducible refine Below.setCell ?_ (by first | omega | (dsimp only; omega) | (simp <;> omega)) _ | with_reducible refine Below.alloc ?_ (by first | omega | (simp <;> omega)) _ | with_reducible refine bstep ?_ (by with_reducible assumption) | with_reducible refine Below.drew ?_ | with_reducible refine below_drewN ?_ _)
  clear hv h hl hpi'
  go_enter Tryd.func38, Tryd.ntmps38
  go_wp2_with fail
  with_reducible refine (l03Cells_any p' q' B' _ hp2' hq2').mono ?_
  rintro e w1 ⟨vc, rfl, hown, hb1⟩
  have P1 := P0.call hb1
  have L1 := L0.call hb1
  have R1 := R0.call hb1
  have B1 := bstep B0 hb1
  obtain ⟨N, hN⟩ : ∃ N, N = (cellP q' p').length := ⟨_, rfl⟩
  have hNpq : N = p' * q' := by rw [hN, cellP_len]
  have hN64 : N ≤ 64 := by omega
  rw [← hN] at hown
  have HSR := SRow.of hown (cells2_int _) (by omega)
  obtain ⟨gc, capc, rfl, hgc, hgc2, rc⟩ := HSR.irow (by omega)
  rw [hN] at rc
  have hNi : (N : Int) ≤ 64 := by omega
  have HN := Lib.hid hN
  have HNP := Lib.hid hNpq
  clear hown hb1 P0 L0 R0 B0 hNpq hN HSR
  have p1c0 := P1.c0
  have p1c1 := P1.c1
  have p1c2 := P1.c2
  have p1c3 := P1.c3
  have p1c4 := P1.c4
  have p1l := P1.lt
  have l1c0 := L1.c0
  have l1c1 := L1.c1
  have l1c2 := L1.c2
  have l1l := L1.lt
  have hr1 := R1.lt
  go_wp2_with fail
  obtain ⟨w2, hw2⟩ : ∃ w2, w1 = w2 := ⟨_, rfl⟩
  have O2 : ((w1.alloc (.cells #[] 2)).alloc (.cells #[.int .i64 f, .int .i64 (p' : Int), .int .i64 B', .int .i64 (q' : Int), .slice (some ⟨w1.heap.size, 0, none⟩) 0 0] 30)).ownsRow w1.heap.size 2 1 (.slice (some ⟨w1.heap.size, 0, none⟩) 0 0) 0 [] := (World.ownsRow_lit (base := w1.heap.size) (e := 2) (size := 1) w1 #[] 0 (Nat.le_refl _) (by unfold maxLen; omega) rfl).alloc _
  have D2 : BX (w1.heap.size + 1) [.int .i64 f, .int .i64 (p' : Int), .int .i64 B', .int .i64 (q' : Int), .slice (some ⟨w1.heap.size, 0, none⟩) 0 0] ((w1.alloc (.cells #[] 2)).alloc (.cells #[.int .i64 f, .int .i64 (p' : Int), .int .i64 B', .int .i64 (q' : Int), .slice (some ⟨w1.heap.size, 0, none⟩) 0 0] 30)) := BX.at _ (by simp)
  have hnb2 : (Value.slice (some ⟨w1.heap.size, 0, none⟩) 0 0).ownBlock ≠ some (w1.heap.size + 1) := by intro e9; simp only [Value.ownBlock, Option.some.injEq] at e9; omega
  have B2 : Below w1.heap.size w1 ((w1.alloc (.cells #[] 2)).alloc (.cells #[.int .i64 f, .int .i64 (p' : Int), .int .i64 B', .int .i64 (q' : Int), .slice (some ⟨w1.heap.size, 0, none⟩) 0 0] 30)) := by repeat (first | with_reducible exact Below.refl _ _ | with_reducible assumption | with_reducible refine Below.setCell ?_ (by first | omega | (dsimp only; omega) | (simp <;> omega)) _ | with_reducible refine Below.alloc ?_ (by first | omega | (simp <;> omega)) _ | with_reducible refine bstep ?_ (by with_reducible assumption) | with_reducible refine Below.drew ?_ | with_reducible refine below_drewN ?_ _)
  clear p1c0 p1c1 p1c2 p1c3 p1c4 p1l l1c0 l1c1 l1c2 l1l
  subst hw2
  go_loopw [7] (fun s X => ∃ (k : Nat) (v9 : Value), s = .int .i64 (k : Int) ∧ k ≤ N ∧ BX (w1.heap.size + 1) [.int .i64 f, .int .i64 (p' : Int), .int .i64 B', .int .i64 (q' : Int), v9] X ∧ X.ownsRow w1.heap.size 2 1 v9 (cpyL (p : Int) B (q : Int) F 1 0 0 1 0 0 ((cellP q' p').take k)).length (intsV (cpyL (p : Int) B (q : Int) F 1 0 0 1 0 0 ((cellP q' p').take k))) ∧ v9.ownBlock ≠ some (w1.heap.size + 1) ∧ Below w1.heap.size w1 X) (fun s _ => N - (intOf s).toNat)
  case atStart => exact ⟨0, _, rfl, by omega, D2, by simpa [intsV, cpyL] using O2, hnb2, B2⟩
  case round =>
    clear D2 O2 hnb2 B2
    obtain ⟨k, v9, rfl, hk, D2, OO, hnb, hB⟩ := hrel
    have hB2 := bstep B1 hB
    by_cases hk1 : k < N
    · have hk2 : (k : Int) < (N : Int) := by omega
      have hkc : k < (cellP q' p').length := by rw [← HN.out]; exact hk1
      obtain ⟨⟨x0, x1⟩, hxx⟩ : ∃ v, v = (cellP q' p')[k] := ⟨_, rfl⟩
      have KK := (rc.v29 k hkc).call hB
      rw [← hxx] at KK
      dsimp only at KK
      have hmem : ((x0, x1) : V29) ∈ cellP q' p' := by rw [hxx]; exact List.getElem_mem hkc
      have hbd := cellP_mem9 hmem
      dsimp only at hbd
      obtain ⟨z9, hz9⟩ : ∃ z, z = F (numP (p : Int) B (q : Int) x0 x1) := ⟨_, rfl⟩
      have HAT := Lib.hid (fun X (hX : Below wr.heap.size wr X) => (show Calls Tryd.prog 65 #[.agg #[.int .i64 f, .int .i64 (p : Int), .int .i64 B, .int .i64 (q : Int), .slice (some ⟨g, 0, none⟩) n cap], .agg #[.int .i64 x0, .int .i64 x1]] X (fun e w' => e = .returned (.int .i64 z9) ∧ Below X.heap.size X w') from by rw [hz9]; exact l09At_any HH.out (R.out.call (bstep hB2 hX)) _ _ (by unfold midI; omega) (by unfold midI; omega)))
      have HNX := Lib.hid (show (cpyL (p : Int) B (q : Int) F 1 0 0 1 0 0 ((cellP q' p').take (k + 1))) = (cpyL (p : Int) B (q : Int) F 1 0 0 1 0 0 ((cellP q' p').take k)) ++ [z9] from by
        rw [cpyL_unit, cpyL_unit, List.take_succ_eq_append_getElem hkc, List.map_append, ← hxx, hz9]
        rfl)
      have HLN := Lib.hid (show (cpyL (p : Int) B (q : Int) F 1 0 0 1 0 0 ((cellP q' p').take k)).length ≤ 64 from by rw [cpyL, List.length_map]; have := List.length_take_le k (cellP q' p'); omega)
      have P3 := (P1.call hB).drew
      have K3 := KK.drew
      have D3 := D2.drew
      have E3 : Below wr.heap.size wr wr.drew := (Below.refl _ _).drew
      have O3 := ownsRow_callB OO E3
      have hws := hB.size
      have hgdl := D2.lt
      clear hmem hbd hxx KK hz9 hkc
      obtain ⟨CLN, hCLN⟩ : ∃ z, z = (cpyL (p : Int) B (q : Int) F 1 0 0 1 0 0 ((cellP q' p').take k)) := ⟨_, rfl⟩
      rw [← hCLN] at HNX HLN O3 OO
      clear hCLN
      go_wp2_with fail
      refine wp_region_T 9 (fun W9 => (W9.cell? ⟨W.heap.size, 0, none⟩ = some (.int .i64 f) ∧ W9.cell? ⟨W.heap.size, 1, none⟩ = some (.int .i64 (p : Int)) ∧ W9.cell? ⟨W.heap.size, 2, none⟩ = some (.int .i64 B) ∧ W9.cell? ⟨W.heap.size, 3, none⟩ = some (.int .i64 (q : Int)) ∧ W9.cell? ⟨W.heap.size, 4, none⟩ = some (.slice (some ⟨g, 0, none⟩) n cap)) ∧ (W9.cell? ⟨gc, k * 2, none⟩ = some (.int .i64 x0) ∧ W9.cell? ⟨gc, k * 2 + 1, none⟩ = some (.int .i64 x1)) ∧ W9.cell? ⟨w1.heap.size + 1, 4, none⟩ = some v9) (by kernel_rfl) ⟨P3.cells5, K3.cells, D3.c4⟩ (fun hHeld inv => ?_)
      refine wpAnyT_take (i := 0) (v := ?_) (by kernel_rfl) (by kernel_rfl) (by decide) (by kernel_rfl) inv rfl (by decide) (by kernel_rfl) (by kernel_rfl) (fun _ _ _ h => h) (Or.inl ⟨by rfl, ?_⟩) (by assumption) (fun inv => ?_)
      rotate_left
      · (intro w hSw; (try dsimp only at hSw); go_simp; try with_reducible rfl)
      simp only [Act.put, List.setIfInBounds_toArray, List.set_cons_zero, List.set_cons_succ]
      refine wpAnyT_take (i := 1) (v := ?_) (by kernel_rfl) (by kernel_rfl) (by decide) (by kernel_rfl) inv rfl (by decide) (by kernel_rfl) (by kernel_rfl) (fun _ _ _ h => h) (Or.inl ⟨by rfl, ?_⟩) (by assumption) (fun inv => ?_)
      rotate_left
      · (intro w hSw; (try dsimp only at hSw); go_simp; try with_reducible rfl)
      simp only [Act.put, List.setIfInBounds_toArray, List.set_cons_zero, List.set_cons_succ]
      refine wpAnyT_take (i := 2) (v := ?_) (by kernel_rfl) (by kernel_rfl) (by decide) (by kernel_rfl) inv rfl (by decide) (by kernel_rfl) (by kernel_rfl) (fun _ _ _ h => h) (Or.inl ⟨by rfl, ?_⟩) (by assumption) (fun inv => ?_)
      rotate_left
      · (intro w hSw; (try dsimp only at hSw); go_simp; try with_reducible rfl)
      simp only [Act.put, List.setIfInBounds_toArray, List.set_cons_zero, List.set_cons_succ]
      refine wpAnyT_take (i := 3) (v := ?_) (by kernel_rfl) (by kernel_rfl) (by decide) (by kernel_rfl) inv rfl (by decide) (by kernel_rfl) (by kernel_rfl) (fun _ _ _ h => h) (Or.inl ⟨by rfl, ?_⟩) (by assumption) (fun inv => ?_)
      rotate_left
      · (intro w hSw; (try dsimp only at hSw); go_simp; try with_reducible rfl)
      simp only [Act.put, List.setIfInBounds_toArray, List.set_cons_zero, List.set_cons_succ]
      refine wpAnyT_take (i := 4) (v := ?_) (by kernel_rfl) (by kernel_rfl) (by decide) (by kernel_rfl) inv rfl (by decide) (by kernel_rfl) (by kernel_rfl) (fun _ _ _ h => h) (Or.inl ⟨by rfl, ?_⟩) (by assumption) (fun inv => ?_)
      rotate_left
      · (intro w hSw; (try dsimp only at hSw); go_simp; try with_reducible rfl)
      simp only [Act.put, List.setIfInBounds_toArray, List.set_cons_zero, List.set_cons_succ]
      refine wpAnyT_take (i := 5) (v := ?_) (by kernel_rfl) (by kernel_rfl) (by decide) (by kernel_rfl) inv rfl (by decide) (by kernel_rfl) (by kernel_rfl) (fun _ _ _ h => h) (Or.inl ⟨by rfl, ?_⟩) (by assumption) (fun inv => ?_)
      rotate_left
      · (intro w hSw; (try dsimp only at hSw); go_simp; try with_reducible rfl)
      simp only [Act.put, List.setIfInBounds_toArray, List.set_cons_zero, List.set_cons_succ]
      refine wpAnyT_take (i := 6) (v := ?_) (by kernel_rfl) (by kernel_rfl) (by decide) (by kernel_rfl) inv rfl (by decide) (by kernel_rfl) (by kernel_rfl) (fun _ _ _ h => h) (Or.inl ⟨by rfl, ?_⟩) (by assumption) (fun inv => ?_)
      rotate_left
      · (intro w hSw; (try dsimp only at hSw); go_simp; try with_reducible rfl)
      simp only [Act.put, List.setIfInBounds_toArray, List.set_cons_zero, List.set_cons_succ]
      refine wpAnyT_one (i := 7) (by kernel_rfl) rfl (fun K hK => ?_)
      go_simp
      (go_at_call 65; with_reducible refine (HAT.out _ E3).mono ?_; rintro e w4 ⟨rfl, hb4⟩; have P4 := P3.call hb4; have K4 := K3.call hb4; have D4 := D3.call hb4; have E4 := bstep E3 hb4; have O4 := ownsRow_callB O3 hb4)
      refine hK.out _ _ (fun _ => ⟨P4.cells5, K4.cells, D4.c4⟩) ?_
      clear hK K
      try simp only [Act.put, List.setIfInBounds_toArray, List.set_cons_zero, List.set_cons_succ]
      refine wpAnyT_one (i := 8) (by kernel_rfl) rfl (fun K hK => ?_)
      go_simp
      refine hK.out _ _ (fun _ => ⟨(P4.alloc _).cells5, (K4.alloc _).cells, (D4.alloc _).c4⟩) ?_
      clear hK K
      try simp only [Act.put, List.setIfInBounds_toArray, List.set_cons_zero, List.set_cons_succ]
      refine wpAnyT_seq (k := 9) (by decide) rfl rfl (by kernel_rfl) ?_
      clear hHeld inv
      have he4 := E4.size
      refine wpList_append_own_at _ rfl _ _ 24 rfl w1.heap.size 2 i0 (.int .i64 0) 1 8 Tryd.underlying24 hinf hz0 hz1 hz2 rfl (by decide) _ _ _ rfl (O4.alloc _) ⟨w4.heap.size, 0, none⟩ 1 1 [.int .i64 z9] rfl rfl ?c1 ?c2 ?c3 ?c4 ?c5 ?_
      case c1 => exact new_one9 _ _ rfl
      case c2 => intro u hu; simp only [List.mem_cons, List.not_mem_nil, or_false] at hu; rw [hu]; rfl
      case c3 => have := HLN.out; unfold maxLen; omega
      case c4 => have := HLN.out; omega
      case c5 => simp; omega
      intro v' w5 hown5 hgr5 _ hat
      have D5 := (D4.alloc (.cells #[.int .i64 z9] 2)).grown hgr5 hnb
      have E5 : Below w1.heap.size w1 w5 := Below.grown (Below.alloc (hB.trans (E4.mono hB.size)) (by omega) _) hgr5 (by simp; omega) (fun j hj => (O4.lt j hj).1)
      have O5 : w5.ownsRow w1.heap.size 2 1 v' (cpyL (p : Int) B (q : Int) F 1 0 0 1 0 0 ((cellP q' p').take (k + 1))).length (intsV (cpyL (p : Int) B (q : Int) F 1 0 0 1 0 0 ((cellP q' p').take (k + 1)))) := by rw [HNX.out, intsV_snoc, List.length_append]; exact hown5
      have hnb5 : v'.ownBlock ≠ some (w1.heap.size + 1) := by
        rcases hat with e9 | e9 <;> rw [e9]
        · exact hnb
        · intro e7; have := D4.lt; simp at e7; omega
      have D6 := D5.store 4 (by simp) v'
      have OWN9 := Lib.hid O5
      have HLN2 := HNX.out
      have d5c4 := D5.c4
      have d5f4 := D5.f4
      have d5l := D5.lt
      obtain ⟨ao', cap', rfl⟩ := own_shP O5
      clear hown5 hgr5 hat O5 HLN2
      go_wp2
      go_roundw
      case rel => exact ⟨k + 1, _, by go_num, by omega, D6, ownsRow_setP OWN9.out hnb5 _, hnb5, E5.setCell (by dsimp only; omega) _⟩
      case measure => first | (simp [intOf]; done) | (simp [intOf]; omega)
    · obtain rfl : k = N := by omega
      have hlen : (cpyL (p : Int) B (q : Int) F 1 0 0 1 0 0 (cellP q' p')).length = p' * q' := by rw [cpyL, List.length_map, cellP_len]
      have hkk : (cellP q' p').take k = cellP q' p' := by rw [HN.out]; exact List.take_length
      rw [hkk] at OO
      have h9 := SRow.of OO (intsV_int _) (by rw [hlen]; omega)
      rw [hlen] at h9
      obtain ⟨ao9, cap9, rfl⟩ := own_shP OO
      rw [hlen] at D2
      have R2 := R1.call hB
      have HS9 : Hid (SRow w1.heap.size wr.heap.size 1 (.slice ao9 (p' * q') cap9) (p' * q') (onG (p : Int) B (q : Int) F p' q') wr) := Lib.hid (by rw [hlen] at h9; exact h9)
      have HB9 := Lib.hid hB2
      have hws := hB.size
      have d2c0 := D2.c0
      have d2c1 := D2.c1
      have d2c2 := D2.c2
      have d2c3 := D2.c3
      have d2c4 := D2.c4
      have d2l := D2.lt
      have r2c0 := R2.c0
      have r2c1 := R2.c1
      have r2c2 := R2.c2
      have r2c3 := R2.c3
      have r2c4 := R2.c4
      have r2f0 := R2.f0
      have r2f1 := R2.f1
      have r2f2 := R2.f2
      have r2f3 := R2.f3
      have r2f4 := R2.f4
      have r2l := R2.lt
      clear h9 OO hkk hlen D2 R2 R1 hnb hB hB2
      go_wp2
      refine bodyPost_ret (v := .agg #[.int .i64 f, .int .i64 (p' : Int), .int .i64 B', .int .i64 (q' : Int), .slice ao9 (p' * q') cap9]) (by simp [results, Tryd.results38, go_sem, *]) rfl ⟨_, rfl, ?_, ?_⟩
      · refine SRow.up (hi := wr.heap.size) (SRow.low (lo := w1.heap.size) ?_ (by omega))
        repeat (first | with_reducible exact HS9.out | with_reducible refine SRow.put (by first | omega | (dsimp only; omega)) _ ?_)
      · have hB := HB9.out
        repeat (first | with_reducible exact Below.refl _ _ | with_reducible assumption | with_reducible refine Below.setCell ?_ (by first | omega | (dsimp only; omega) | (simp <;> omega)) _ | with_reducible refine Below.alloc ?_ (by first | omega | (simp <;> omega)) _ | with_reducible refine bstep ?_ (by with_reducible assumption) | with_reducible refine Below.drew ?_ | with_reducible refine below_drewN ?_ _)
end Go.Proofs.YtpejihckepaojaaDoor
