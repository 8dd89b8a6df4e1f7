/-
  OrbitColours in the program and in the model. Conditions: slices that lie in blocks of their own, the list's length is below the model's bound; the program's variable unitMatrix holds the unit.
-/
import Derived.Test.YtdgophfembpniaaGreatDoorIk
import Derived.Deep.RegionHeld3
import Derived.IntWalk
namespace Go.Proofs.YtdgophfembpniaaGreatDoor
open Go.RowKit
set_option linter.unusedSimpArgs false
set_option linter.unusedVariables false

def ioC (f A B C : Int) (n : Nat) (F : Nat → Int) (xs : List M6) : Int := bif gdB f A B C n F xs then (bif ikK A B C F xs then 0 else 5) else ikC f A B C n F xs
def ioL (f A B C : Int) (n : Nat) (F : Nat → Int) (xs : List M6) : List Int := bif ikB f A B C n F xs then ocL A.toNat C.toNat B xs F else []
theorem io_bad {f A B C : Int} {n : Nat} {F : Nat → Int} {xs : List M6} (h : gdB f A B C n F xs = false) : ioC f A B C n F xs = ikC f A B C n F xs ∧ ioL f A B C n F xs = [] := by simp [ioC, ioL, ikB, h]
theorem io_no {f : Int} {p q : Nat} {B : Int} {n : Nat} {F : Nat → Int} {xs : List M6} (h : gdB f (p : Int) B (q : Int) n F xs = true) (hk : kpG p B q F xs = false) : ioC f (p : Int) B (q : Int) n F xs = 5 ∧ ioL f (p : Int) B (q : Int) n F xs = [] := by simp [ioC, ioL, ikB, ikK, h, hk]
theorem io_yes {f : Int} {p q : Nat} {B : Int} {n : Nat} {F : Nat → Int} {xs : List M6} (h : gdB f (p : Int) B (q : Int) n F xs = true) (hk : kpG p B q F xs = true) : ioC f (p : Int) B (q : Int) n F xs = 0 ∧ ioL f (p : Int) B (q : Int) n F xs = ocL p q B xs F := by simp [ioC, ioL, ikB, ikK, h, hk]
theorem ioL_len (f A B C : Int) (n : Nat) (F : Nat → Int) (xs : List M6) : (ioL f A B C n F xs).length ≤ 64 := by
  unfold ioL
  rcases h : ikB f A B C n F xs with _ | _
  · simp
  · have h1 : gdB f A B C n F xs = true := by unfold ikB at h; rw [Bool.and_eq_true] at h; exact h.1
    obtain ⟨p, q, rfl, rfl, hp, _, _⟩ := gd_parts h1
    have := hp.bd
    have hn := hp.nn
    simp only [cond_true, Int.toNat_natCast, ocL, List.length_map]
    exact orbF_len64 B xs (by omega)
def IoAns (L : List Int) (c : Int) (W : World) (e : Ending) (w' : World) : Prop := ∃ v : Value, e = .returned (.tuple #[v, .int .i64 c]) ∧ SRow W.heap.size w'.heap.size 1 v L.length (intAt (inV L)) w' ∧ Below W.heap.size W w'
theorem IoAns.nil {c : Int} {W w' : World} (hb : Below W.heap.size W w') : IoAns [] c W (.returned (.tuple #[.slice none 0 0, .int .i64 c])) w' := ⟨_, rfl, SRow.nil _ 1 _ _, hb⟩
set_option maxRecDepth 100000 in
set_option maxHeartbeats 8000000 in
theorem implIo_any {lo hi lo' hi' n : Nat} {v v9 : Value} {F : Nat → Int} {xs : List M6} {w : World} (f A B C : Int) (hv : SRow lo hi 1 v n F w) (hx : SRow lo' hi' 6 v9 xs.length (fm xs) w) (hn : xs.length ≤ 1048576) (hU : UnitOK w) :
    Calls Tryz.prog 19 #[.agg #[.int .i64 f, .int .i64 A, .int .i64 B, .int .i64 C, v], v9] w (IoAns (ioL f A B C n F xs) (ioC f A B C n F xs) w) := by
  have R9 := Lib.hid hv
  have RX := Lib.hid hx
  have HN := Lib.hid hn
  obtain ⟨ao, cap, rfl⟩ := hv.slice
  clear hv hx hn
  have HU := Lib.hid hU
  clear hU
  have P0 : Bx w.heap.size [.int .i64 f, .int .i64 A, .int .i64 B, .int .i64 C, .slice ao n cap] (w.alloc (.cells #[.int .i64 f, .int .i64 A, .int .i64 B, .int .i64 C, .slice ao n cap] 34)) := Bx.at _ rfl
  have B0 : Below w.heap.size w (w.alloc (.cells #[.int .i64 f, .int .i64 A, .int .i64 B, .int .i64 C, .slice ao n cap] 34)) := (Below.refl _ _).alloc (Nat.le_refl _) _
  have CG := Lib.hid (groupOn_any f A B C (R9.out.call B0) (RX.out.call B0) HN.out (Kq.call HU.out B0))
  unfold GoPost at CG
  rcases h1 : gdB f A B C n F xs with _ | _
  · obtain ⟨hc, _⟩ := gd_bad h1
    rw [(io_bad h1).1, (io_bad h1).2]
    generalize ikC f A B C n F xs = cc at CG hc
    clear h1
    go_enter Tryz.func19, Tryz.ntmps19
    have p0c0 := P0.c0
    have p0c1 := P0.c1
    have p0c2 := P0.c2
    have p0c3 := P0.c3
    have p0c4 := P0.c4
    have p0l := P0.lt
    go_wp2_with fail
    refine CG.out.mono ?_
    rintro e w1 ⟨v1, rfl, _, hb1⟩
    have B1 := bstep B0 hb1
    clear hb1
    go_wp2
    go_ret2
    exact IoAns.nil B1
  · obtain ⟨p, q, rfl, rfl, hp, hg, hc⟩ := gd_parts h1
    rw [h1, hc] at CG
    have CO := Lib.hid (fun (X : World) (hX : Below w.heap.size w X) (gm cap9 : Nat) (hr : IRow gm (xs.length * 6) (fm xs) X) => orbitColours_any (capm := cap9) hp (R9.out.call hX) hg hr)
    unfold OcPost at CO
    have HG := Lib.hid hg
    rcases hk : kpG p B q F xs with _ | _
    all_goals
      rw [hk] at CO
      first | rw [(io_no h1 hk).1, (io_no h1 hk).2] | rw [(io_yes h1 hk).1, (io_yes h1 hk).2]
      have HLN := Lib.hid (show (ocL p q B xs F).length ≤ 64 by have h9 := hp.bd; have h8 := hp.nn; simp only [ocL, List.length_map]; exact orbF_len64 B xs (by omega))
      clear h1 hp hg hc hk
      go_enter Tryz.func19, Tryz.ntmps19
      have p0c0 := P0.c0
      have p0c1 := P0.c1
      have p0c2 := P0.c2
      have p0c3 := P0.c3
      have p0c4 := P0.c4
      have p0l := P0.lt
      go_wp2_with fail
      refine CG.out.mono ?_
      rintro e w1 ⟨v1, rfl, hr, hb1⟩
      obtain ⟨g1, cap1, rfl, _, r1⟩ := own_irow (n := 0) (hr (by first | rfl | trivial)) (grp_pos HG.out) HN.out
      have B1 := bstep B0 hb1
      have P1 := P0.call hb1
      clear hb1 P0 B0 p0c0 p0c1 p0c2 p0c3 p0c4 p0l hr
      have p1c0 := P1.c0
      have p1c1 := P1.c1
      have p1c2 := P1.c2
      have p1c3 := P1.c3
      have p1c4 := P1.c4
      have p1l := P1.lt
      have CO2 := Lib.hid (CO.out _ B1 g1 cap1 r1)
      have z1 := B1.size
      go_wp2_with fail
      refine CO2.out.mono ?_
      rintro e w2 ⟨v2, rfl, h2, h3, hb2⟩
      have B2 := bstep B1 hb2
      first
        | (have h5 := h2 (by first | rfl | trivial)
           have H5 := Lib.hid (h5.low (lo' := w.heap.size) z1)
           clear hb2 h2 h3 h5
           go_wp2
           go_ret2
           exact ⟨_, rfl, H5.out, B2⟩)
        | (have h5 := h3 (by first | rfl | trivial)
           subst h5
           clear hb2 h2 h3
           go_wp2
           go_ret2
           exact IoAns.nil B2)
set_option maxRecDepth 100000 in
set_option maxHeartbeats 16000000 in
theorem specIo_any {lo hi lo' hi' n : Nat} {v v9 : Value} {F : Nat → Int} {xs : List M6} {w : World} (f A B C : Int) (hv : SRow lo hi 1 v n F w) (hx : SRow lo' hi' 6 v9 xs.length (fm xs) w) (hn : xs.length ≤ 1048576) :
    Calls Tryz.prog 18 #[.agg #[.int .i64 f, .int .i64 A, .int .i64 B, .int .i64 C, v], v9] w (IoAns (ioL f A B C n F xs) (ioC f A B C n F xs) w) := by
  obtain ⟨i0, hinf, hz0, hz1, hz2⟩ := info_parts infoI64K
  have R9 := Lib.hid hv
  have RX := Lib.hid hx
  have HN := Lib.hid hn
  obtain ⟨ao, cap, rfl⟩ := hv.slice
  clear hv hx hn
  have P0 : Bx w.heap.size [.int .i64 f, .int .i64 A, .int .i64 B, .int .i64 C, .slice ao n cap] (w.alloc (.cells #[.int .i64 f, .int .i64 A, .int .i64 B, .int .i64 C, .slice ao n cap] 34)) := Bx.at _ rfl
  have B0 : Below w.heap.size w (w.alloc (.cells #[.int .i64 f, .int .i64 A, .int .i64 B, .int .i64 C, .slice ao n cap] 34)) := (Below.refl _ _).alloc (Nat.le_refl _) _
  have CC := Lib.hid (l13Code_any f A B C (R9.out.call B0) (RX.out.call B0) HN.out)
  rcases h1 : gdB f A B C n F xs with _ | _
  · obtain ⟨hc, _⟩ := gd_bad h1
    rw [(io_bad h1).1, (io_bad h1).2]
    generalize ikC f A B C n F xs = cc at CC hc
    have hc2 : (cc == 0) = false := by simpa using hc
    clear h1
    go_enter Tryz.func18, Tryz.ntmps18
    have p0c0 := P0.c0
    have p0c1 := P0.c1
    have p0c2 := P0.c2
    have p0c3 := P0.c3
    have p0c4 := P0.c4
    have p0l := P0.lt
    go_wp2_with fail
    refine CC.out.mono ?_
    rintro e w1 ⟨rfl, hb1⟩
    have B1 := bstep B0 hb1
    clear hb1
    go_wp2
    go_ret2
    exact IoAns.nil B1
  · obtain ⟨p, q, rfl, rfl, hp, hg, hc⟩ := gd_parts h1
    rw [hc] at CC
    have CK := Lib.hid (fun (X : World) (hX : Below w.heap.size w X) => l13Kept_any hp hg (R9.out.call hX) (RX.out.call hX))
    rcases hk : kpG p B q F xs with _ | _
    · rw [hk] at CK
      rw [(io_no h1 hk).1, (io_no h1 hk).2]
      clear h1 hp hg hc hk
      go_enter Tryz.func18, Tryz.ntmps18
      have p0c0 := P0.c0
      have p0c1 := P0.c1
      have p0c2 := P0.c2
      have p0c3 := P0.c3
      have p0c4 := P0.c4
      have p0l := P0.lt
      go_wp2_with fail
      refine CC.out.mono ?_
      rintro e w1 ⟨rfl, hb1⟩
      have B1 := bstep B0 hb1
      have P1 := P0.call hb1
      clear hb1 P0 B0 p0c0 p0c1 p0c2 p0c3 p0c4 p0l
      have p1c0 := P1.c0
      have p1c1 := P1.c1
      have p1c2 := P1.c2
      have p1c3 := P1.c3
      have p1c4 := P1.c4
      have p1l := P1.lt
      go_wp2_with fail
      refine (CK.out _ B1).mono ?_
      rintro e w2 ⟨rfl, hb2⟩
      have B2 := bstep B1 hb2
      clear hb2
      go_wp2
      go_ret2
      exact IoAns.nil B2
    · rw [hk] at CK
      rw [(io_yes h1 hk).1, (io_yes h1 hk).2]
      have HP := Lib.hid hp
      have HG := Lib.hid hg
      have HLN := Lib.hid (show (orbF p q B xs).length ≤ 64 by have h9 := hp.bd; have h8 := hp.nn; exact orbF_len64 B xs (by omega))
      have CO := Lib.hid (fun (X : World) (hX : Below w.heap.size w X) => l07Orbits_any hg (RX.out.call hX))
      clear h1 hp hg hc hk
      go_enter Tryz.func18, Tryz.ntmps18
      have p0c0 := P0.c0
      have p0c1 := P0.c1
      have p0c2 := P0.c2
      have p0c3 := P0.c3
      have p0c4 := P0.c4
      have p0l := P0.lt
      go_wp2_with fail
      refine CC.out.mono ?_
      rintro e w1 ⟨rfl, hb1⟩
      have B1 := bstep B0 hb1
      have P1 := P0.call hb1
      clear hb1 P0 B0 p0c0 p0c1 p0c2 p0c3 p0c4 p0l CC
      have p1c0 := P1.c0
      have p1c1 := P1.c1
      have p1c2 := P1.c2
      have p1c3 := P1.c3
      have p1c4 := P1.c4
      have p1l := P1.lt
      go_wp2_with fail
      refine (CK.out _ B1).mono ?_
      rintro e w2 ⟨rfl, hb2⟩
      have B2 := bstep B1 hb2
      have P2 := P1.call hb2
      clear hb2 P1 B1 p1c0 p1c1 p1c2 p1c3 p1c4 p1l CK
      have p2c0 := P2.c0
      have p2c1 := P2.c1
      have p2c2 := P2.c2
      have p2c3 := P2.c3
      have p2c4 := P2.c4
      have p2l := P2.lt
      go_wp2_with fail
      refine (CO.out _ B2).mono ?_
      rintro e w3 ⟨gO, capO, vs, rfl, K3, V3, hb3⟩
      have B3 := bstep B2 hb3
      have P3 := P2.call hb3
      have HVL := Lib.hid V3.1
      have hv64 : vs.length ≤ 64 := by have := V3.1; have := HLN.out; omega
      have hvl : (vs.length : Int) ≤ 64 := by omega
      have HC1 := Lib.hid (show ∀ k (hk : k < (orbF p q B xs).length), ∃ g2 cap3 nn, w3.cell? ⟨gO, k, none⟩ = some (.slice (some ⟨g2, 0, none⟩) nn cap3) ∧ gO < w3.heap.size ∧ 0 < nn ∧ nn ≤ 768 ∧ Ko2 g2 0 (orbF p q B xs)[k].1 (orbF p q B xs)[k].2 w3 from fun k hk => by
        obtain ⟨g2, cap3, e1, e2⟩ := V3.2 k hk
        have hm := List.getElem_mem hk
        obtain ⟨h0, he⟩ := orbF_head HG.out (cellP q p).length (Nat.le_refl _) (orbF p q B xs)[k] (by rw [List.take_length]; exact hm)
        have h9 := e2.vec (by have := Nat.le_trans (orbL_len (p : Int) B (q : Int) xs (orbF p q B xs)[k]) (grp_len HG.out); omega) 0 h0
        rw [he] at h9
        exact ⟨g2, cap3, _, ((show w3.ownsRow w2.heap.size 72 1 (.slice (some ⟨gO, 0, none⟩) vs.length capO) vs.length vs from K3).cellAt k (by have := V3.1; omega)).trans e1, K3.lt.2, h0, Nat.le_trans (orbL_len _ _ _ _ _) (grp_len HG.out), h9⟩)
      have z3 := B3.size
      clear hb3 P2 B2 K3 V3 CO p2c0 p2c1 p2c2 p2c3 p2c4 p2l
      go_wp2_with fail
      have hlit : (w3.alloc (.cells #[] 2)).ownsRow w3.heap.size 2 1 (.slice (some ⟨w3.heap.size, 0, none⟩) 0 0) 0 [] := World.ownsRow_lit (base := w3.heap.size) (e := 2) (size := 1) w3 #[] 0 (Nat.le_refl _) (by unfold maxLen; omega) rfl
      go_loopw [8, 9] (fun u s X => ∃ k : Nat, s = .int .i64 (k : Int) ∧ k ≤ vs.length ∧ X.ownsRow w3.heap.size 2 1 u k (inV ((ocL p q B xs F).take k)) ∧ Below w3.heap.size w3 X) (fun _ s _ => vs.length - (intOf s).toNat)
      case atStart => exact ⟨0, rfl, by omega, hlit, (Below.refl _ _).alloc (Nat.le_refl _) _⟩
      case round =>
        clear hlit
        obtain ⟨k, rfl, hk, OO, hB⟩ := hrel
        have hB2 := B3.trans (hB.mono z3)
        have OO2 := Lib.hid OO
        by_cases hk1 : k < vs.length
        · have hk2 : (k : Int) < (vs.length : Int) := by omega
          have HK := Lib.hid hk1
          have hko : k < (orbF p q B xs).length := by have := HVL.out; omega
          obtain ⟨g2, cap3, nn, c1, hgO, hnn, hnn2, K2⟩ := HC1.out k hko
          have hc2 := (KQ7.call (show KQ7 gO k (.slice (some ⟨g2, 0, none⟩) nn cap3) w3 from ⟨hgO, c1⟩) hB)
          have HQ3 : Hid (KQ7 gO k (.slice (some ⟨g2, 0, none⟩) nn cap3) w3) := Lib.hid ⟨hgO, c1⟩
          have hcl : celB (p : Int) (q : Int) (orbF p q B xs)[k] = true := orbF_cel HG.out hko
          obtain ⟨u, hu⟩ : ∃ u, u = (orbF p q B xs)[k] := ⟨_, rfl⟩
          rw [← hu] at K2 hcl
          have HK3 := Lib.hid K2
          have hoL : k < (ocL p q B xs F).length := by simp only [ocL, List.length_map]; exact hko
          have HNX := Lib.hid (show (ocL p q B xs F).take (k + 1) = (ocL p q B xs F).take k ++ [F (nb (q : Int) u)] by rw [List.take_succ_eq_append_getElem hoL, hu]; simp [ocL])
          have HTL := Lib.hid (show ((ocL p q B xs F).take k).length = k by rw [List.length_take]; omega)
          clear hu hoL hko K2 c1
          obtain ⟨x0, x1⟩ := u
          dsimp only at HK3
          have hk9 := HK3.out.call hB
          have hbd := celB_iff.1 hcl
          dsimp only at hbd
          have hpb := HP.out.bd
          obtain ⟨z9, hz9⟩ : ∃ z, z = F (nb (q : Int) (x0, x1)) := ⟨_, rfl⟩
          have HAT := Lib.hid (fun X (hX : Below w.heap.size w X) => (show Calls Tryz.prog 54 #[.agg #[.int .i64 f, .int .i64 (p : Int), .int .i64 B, .int .i64 (q : Int), (.slice ao n cap)], .agg #[.int .i64 x0, .int .i64 x1]] X (fun e w' => e = .returned (.int .i64 z9) ∧ Below X.heap.size X w') from by
            have h8 := l09At_any HP.out (R9.out.call hX) x0 x1 (by unfold midI; omega) (by unfold midI; omega)
            have h7 := red_cell (A := (p : Int)) (B := B) (C := (q : Int)) hbd.1.1 hbd.1.2 hbd.2.1 hbd.2.2
            have h6 : numP (p : Int) B (q : Int) x0 x1 = nb (q : Int) (x0, x1) := by unfold numP nb; rw [h7.1, h7.2]
            rw [h6, ← hz9] at h8
            exact h8))
          rw [← hz9] at HNX
          have hwg : gO < wr.heap.size := hc2.1
          have hg2 : g2 < wr.heap.size := hk9.1
          have P5 := (P3.call hB)
          have hz := hB.size
          clear hz9 hcl hbd hpb
          have p5c0 := P5.c0
          have p5c1 := P5.c1
          have p5c2 := P5.c2
          have p5c3 := P5.c3
          have p5c4 := P5.c4
          have p5l := P5.lt
          have hc3 := hc2.cells
          have hk9c := hk9.cells
          have hn3 : (0 : Int) < (nn : Int) := by omega
          have hn4 : (nn : Int) ≤ 768 := by omega
          go_wp2_with fail
          go_region_held3 (fun W9 => (W9.cell? ⟨w.heap.size, 0, none⟩ = some (.int .i64 f) ∧ W9.cell? ⟨w.heap.size, 1, none⟩ = some (.int .i64 (p : Int)) ∧ W9.cell? ⟨w.heap.size, 2, none⟩ = some (.int .i64 B) ∧ W9.cell? ⟨w.heap.size, 3, none⟩ = some (.int .i64 (q : Int)) ∧ W9.cell? ⟨w.heap.size, 4, none⟩ = some (.slice ao n cap)) ∧ W9.cell? ⟨gO, k, none⟩ = some (.slice (some ⟨g2, 0, none⟩) nn cap3) ∧ (W9.cell? ⟨g2, 0, none⟩ = some (.int .i64 x0) ∧ W9.cell? ⟨g2, 0 + 1, none⟩ = some (.int .i64 x1))) ((refine (And.intro (Bx.cells5 ?_) (And.intro (KQ7.cells ?_) (Ko2.cells ?_)))) <;> (repeat (first | with_reducible assumption | with_reducible refine Bx.drew ?_ | with_reducible refine Bx.alloc ?_ _ | with_reducible refine Bx.call ?_ (by with_reducible assumption) | with_reducible refine KQ7.drew ?_ | with_reducible refine KQ7.alloc ?_ _ | with_reducible refine KQ7.call ?_ (by with_reducible assumption) | with_reducible refine Ko2.drew ?_ | with_reducible refine Ko2.alloc ?_ _ | with_reducible refine Ko2.call ?_ (by with_reducible assumption))))
            (first
              | (go_at_call 54; with_reducible refine (HAT.out _ (by repeat (first | with_reducible assumption | with_reducible exact Below.refl _ _ | with_reducible refine Below.drew ?_ | with_reducible refine Below.alloc ?_ (by first | omega | (simp <;> omega)) _ | with_reducible refine Below.setCell ?_ (by first | omega | (dsimp only; omega)) _ | with_reducible refine bstep ?_ (by with_reducible assumption)))).mono ?_; rintro e u1 ⟨rfl, hc1⟩; have P6 : Bx w.heap.size [.int .i64 f, .int .i64 (p : Int), .int .i64 B, .int .i64 (q : Int), .slice ao n cap] u1 := (by repeat (first | with_reducible assumption | with_reducible refine Bx.drew ?_ | with_reducible refine Bx.alloc ?_ _ | with_reducible refine Bx.call ?_ (by with_reducible assumption))); have Q6 : KQ7 gO k (.slice (some ⟨g2, 0, none⟩) nn cap3) u1 := (by repeat (first | with_reducible assumption | with_reducible refine KQ7.drew ?_ | with_reducible refine KQ7.call ?_ (by with_reducible assumption))); have K6 : Ko2 g2 0 x0 x1 u1 := (by repeat (first | with_reducible assumption | with_reducible refine Ko2.drew ?_ | with_reducible refine Ko2.call ?_ (by with_reducible assumption))); have O6 : u1.ownsRow w3.heap.size 2 1 u8 k (inV ((ocL p q B xs F).take k)) := (by repeat (first | with_reducible exact OO2.out | with_reducible refine own_callK ?_ (by with_reducible assumption) | with_reducible refine own_callK ?_ (Below.drew (Below.refl _ _)))); have E6 : Below w3.heap.size w3 u1 := (by repeat (first | with_reducible assumption | with_reducible exact Below.refl _ _ | with_reducible refine Below.drew ?_ | with_reducible refine Below.alloc ?_ (by first | omega | (simp <;> omega)) _ | with_reducible refine Below.setCell ?_ (by first | omega | (dsimp only; omega)) _ | with_reducible refine bstep ?_ (by with_reducible assumption))); have z6 := Below.size E6)
              | (rw [if_pos (by rfl)]; refine wp_append_own _ _ _ 24 rfl w3.heap.size 2 i0 (.int .i64 0) 1 8 Tryz.underlying24 hinf hz0 hz1 hz2 rfl (by decide) _ _ _ rfl (O6.alloc _) ⟨u1.heap.size, 0, none⟩ 1 1 [.int .i64 z9] rfl rfl (new_oneK _ _ rfl) (by intro u hu; simp at hu; subst hu; rfl) (by unfold maxLen; omega) (by omega) (by simp; omega) ?_; intro v9 w9 hown9 hgrow _; have E9 : Below w3.heap.size w3 w9 := Below.grown (Below.alloc E6 (by omega) _) hgrow (by simp; omega) (fun j hj => (O6.lt j hj).1); have P9 := P3.call E9; have Q9 := HQ3.out.call E9; have K9 := HK3.out.call E9))
          all_goals
            have O9 : w9.ownsRow w3.heap.size 2 1 v9 (k + 1) (inV ((ocL p q B xs F).take (k + 1))) := by rw [HNX.out, inV_snoc]; exact hown9
            clear OO P5 p5c0 p5c1 p5c2 p5c3 p5c4 p5l hc2 hc3 hk9 hk9c P6 Q6 K6 O6 E6 hgrow hown9
            go_wp2
            go_roundw
            case rel => exact ⟨k + 1, by go_num, by have := HK.out; omega, O9, E9⟩
            case measure => (have := HK.out); first | (simp [intOf]; done) | (simp [intOf]; omega)
        · obtain rfl : k = vs.length := by omega
          have hz := hB.size
          have HL9 : Hid (vs.length = (ocL p q B xs F).length) := Lib.hid (by have := HVL.out; simp only [ocL, List.length_map]; exact this)
          have H9 : Hid (SRow w.heap.size wr.heap.size 1 u8 (ocL p q B xs F).length (intAt (inV (ocL p q B xs F))) wr) := Lib.hid (by
            have h9 := SRow.of OO (inV_int _) (by omega)
            have h8 := SRow.low h9 (lo' := w.heap.size) (by omega)
            rw [HL9.out, List.take_length] at h8
            exact h8)
          clear OO OO2
          go_wp2
          go_ret2
          exact ⟨_, rfl, H9.out, hB2⟩
end Go.Proofs.YtdgophfembpniaaGreatDoor
