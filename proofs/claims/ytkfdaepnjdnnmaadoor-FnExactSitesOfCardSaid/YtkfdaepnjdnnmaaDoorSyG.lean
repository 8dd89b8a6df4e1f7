/-
  The symmetries of a pattern, as a list, in the model. Condition: the pattern is valid.
-/
import Derived.Test.YtkfdaepnjdnnmaaDoorSyS
import Derived.Test.YtkfdaepnjdnnmaaDoorLMj
import Derived.Deep.RegionHeld3
import Derived.IntWalk
namespace Go.Proofs.YtkfdaepnjdnnmaaDoor
open Go.RowKit
set_option linter.unusedSimpArgs false
set_option linter.unusedVariables false

theorem infoMoT : (Tryd.prog.info? 51).map (fun i => (i.zero, i.size, i.bytes)) = some (some (.agg #[.int .i64 0, .int .i64 0, .int .i64 0, .int .i64 0, .int .i64 0, .int .i64 0]), 6, 48) := by kernel_rfl
theorem IRow.m4S {g : Nat} {xs : List M4} {W : World} (h : IRow g (xs.length * 4) (intAt (cells4 xs)) W) (i : Nat) (hi : i < xs.length) : Ko4 g (i * 4) xs[i].1 xs[i].2.1 xs[i].2.2.1 xs[i].2.2.2 W := by
  have k := h.ko4 (i * 4) (by omega)
  have hget := cells4_get xs i hi
  rw [show intAt (cells4 xs) (i * 4) = xs[i].1 by simp [intAt, hget.1], show intAt (cells4 xs) (i * 4 + 1) = xs[i].2.1 by simp [intAt, hget.2.1], show intAt (cells4 xs) (i * 4 + 2) = xs[i].2.2.1 by simp [intAt, hget.2.2.1], show intAt (cells4 xs) (i * 4 + 3) = xs[i].2.2.2 by simp [intAt, hget.2.2.2]] at k
  exact k
theorem rowM_take {m : M4} {C : List (Int × Int)} {k : Nat} (hk : k < C.length) : rowM m (C.take (k + 1)) = rowM m (C.take k) ++ [(m.1, m.2.1, m.2.2.1, m.2.2.2, C[k].1, C[k].2)] := by
  unfold rowM
  rw [List.take_succ_eq_append_getElem hk, List.map_append]
  rfl
theorem flat_take {L : List M4} {C : List (Int × Int)} {i : Nat} (hi : i < L.length) : ((L.take (i + 1)).flatMap fun m => rowM m C) = ((L.take i).flatMap fun m => rowM m C) ++ rowM L[i] C := by
  rw [List.take_succ_eq_append_getElem hi, List.flatMap_append]
  simp
theorem stabL_len (f A B C : Int) : (stabL f A B C).length ≤ 81 := Nat.le_trans (List.length_filter_le _ _) (matsP_len f 81)
theorem stab_kee {f A B C : Int} {m : M4} (h : m ∈ stabL f A B C) : keepB f m.1 m.2.1 m.2.2.1 m.2.2.2 = true ∧ stabB A B C m = true := by
  unfold stabL at h
  obtain ⟨h1, h2⟩ := List.mem_filter.1 h
  exact ⟨matsL_keep h1, h2⟩
set_option maxRecDepth 100000 in
set_option maxHeartbeats 16000000 in
theorem l10Group_any {lo hi p q n : Nat} {f B : Int} {v : Value} {F : Nat → Int} {W : World} (h : PatI f p B q n F) (hv : SRow lo hi 1 v n F W) :
    Calls Tryd.prog 36 #[.agg #[.int .i64 f, .int .i64 (p : Int), .int .i64 B, .int .i64 (q : Int), v]] W fun e w' => ∃ v', e = .returned v' ∧ w'.ownsRow W.heap.size 51 6 v' (symL f p B q F).length (cells6 (symL f p B q F)) ∧ Below W.heap.size W w' := by
  obtain ⟨i0, hinf, hz0, hz1, hz2⟩ := info_parts infoMoT
  have R := Lib.hid hv
  have HH := Lib.hid h
  obtain ⟨hp1, hp2, hq1, hq2, hn64, hn1⟩ := h.bd
  have hpq : p * q ≤ 64 := by rw [← h.nn]; exact hn64
  obtain ⟨g, cap, rfl, hg, _, r⟩ := hv.irow hn1
  have hgs := hv.1
  have hgw : g < W.heap.size := by omega
  have hf := h.fr
  have HL := Lib.hid h.lat
  have P0 : Bx W.heap.size [.int .i64 f, .int .i64 (p : Int), .int .i64 B, .int .i64 (q : Int), .slice (some ⟨g, 0, none⟩) n cap] (W.alloc (.cells #[.int .i64 f, .int .i64 (p : Int), .int .i64 B, .int .i64 (q : Int), .slice (some ⟨g, 0, none⟩) n cap] 33)) := Bx.at _ rfl
  have B0 : Below W.heap.size W (W.alloc (.cells #[.int .i64 f, .int .i64 (p : Int), .int .i64 B, .int .i64 (q : Int), .slice (some ⟨g, 0, none⟩) n cap] 33)) := by repeat (first | with_reducible exact Below.refl _ _ | with_reducible assumption | with_reducible refine Below.setCell ?_ (by first | omega | (dsimp only; omega) | (simp <;> omega)) _ | with_reducible refine Below.alloc ?_ (by first | omega | (simp <;> omega)) _ | with_reducible refine bstep ?_ (by with_reducible assumption) | with_reducible refine Below.drew ?_ | with_reducible refine below_drewN ?_ _)
  have HST := Lib.hid (fun X => l04Stable_any f (p : Int) B (q : Int) X hf HL.out)
  have HCE := Lib.hid (fun X => l03Cells_any p q B X hp2 hq2)
  clear hv h
  go_enter Tryd.func36, Tryd.ntmps36
  have p0c0 := P0.c0
  have p0c1 := P0.c1
  have p0c2 := P0.c2
  have p0c3 := P0.c3
  have p0c4 := P0.c4
  have p0l := P0.lt
  go_wp2_with fail
  go_region_held3 (fun W9 => (W9.cell? ⟨W.heap.size, 0, none⟩ = some (.int .i64 f) ∧ W9.cell? ⟨W.heap.size, 1, none⟩ = some (.int .i64 (p : Int)) ∧ W9.cell? ⟨W.heap.size, 2, none⟩ = some (.int .i64 B) ∧ W9.cell? ⟨W.heap.size, 3, none⟩ = some (.int .i64 (q : Int)) ∧ W9.cell? ⟨W.heap.size, 4, none⟩ = some (.slice (some ⟨g, 0, none⟩) n cap))) ((refine Bx.cells5 ?_) <;> (repeat (first | with_reducible assumption | with_reducible refine Bx.drew ?_ | with_reducible refine Bx.alloc ?_ _ | with_reducible refine Bx.call ?_ (by with_reducible assumption))))
    (first
      | (go_at_call 66; (with_reducible refine (HST.out _).mono ?_); rintro e w1 ⟨v1, rfl, o1, hb1⟩; have S1 := Lib.hid (SRow.of o1 (cells4_int _) (Nat.le_trans (stabL_len f (p : Int) B (q : Int)) (by omega))); obtain ⟨ao1, cap1, rfl⟩ := S1.out.slice; clear o1; have P1 : Bx W.heap.size [.int .i64 f, .int .i64 (p : Int), .int .i64 B, .int .i64 (q : Int), .slice (some ⟨g, 0, none⟩) n cap] w1 := (by repeat (first | with_reducible assumption | with_reducible refine Bx.drew ?_ | with_reducible refine Bx.alloc ?_ _ | with_reducible refine Bx.call ?_ (by with_reducible assumption))); have B1 : Below W.heap.size W w1 := (by repeat (first | with_reducible assumption | with_reducible exact Below.refl _ _ | with_reducible refine Below.drew ?_ | with_reducible refine Below.alloc ?_ (by first | omega | (simp <;> omega)) _ | with_reducible refine Below.setCell ?_ (by first | omega | (dsimp only; omega)) _ | with_reducible refine bstep ?_ (by with_reducible assumption))); have p1c0 := P1.c0; have p1c1 := P1.c1; have p1c2 := P1.c2; have p1c3 := P1.c3; have p1c4 := P1.c4; have p1l := P1.lt)
      | (go_at_call 52; (with_reducible refine (HCE.out _).mono ?_); rintro e w2 ⟨v2, rfl, o2, hb2⟩; have S2 := Lib.hid (SRow.of o2 (cells2_int _) (by rw [cellP_len]; omega)); obtain ⟨ao2, cap2, rfl⟩ := S2.out.slice; clear o2; have P2 : Bx W.heap.size [.int .i64 f, .int .i64 (p : Int), .int .i64 B, .int .i64 (q : Int), .slice (some ⟨g, 0, none⟩) n cap] w2 := (by repeat (first | with_reducible assumption | with_reducible refine Bx.drew ?_ | with_reducible refine Bx.alloc ?_ _ | with_reducible refine Bx.call ?_ (by with_reducible assumption))); have B2 : Below W.heap.size W w2 := (by repeat (first | with_reducible assumption | with_reducible exact Below.refl _ _ | with_reducible refine Below.drew ?_ | with_reducible refine Below.alloc ?_ (by first | omega | (simp <;> omega)) _ | with_reducible refine Below.setCell ?_ (by first | omega | (dsimp only; omega)) _ | with_reducible refine bstep ?_ (by with_reducible assumption))); have C12 : Below w1.heap.size w1 w2 := (by repeat (first | with_reducible assumption | with_reducible exact Below.refl _ _ | with_reducible refine Below.drew ?_ | with_reducible refine Below.alloc ?_ (by first | omega | (simp <;> omega)) _ | with_reducible refine Below.setCell ?_ (by first | omega | (dsimp only; omega)) _ | with_reducible refine bstep ?_ (by with_reducible assumption))); have p2c0 := P2.c0; have p2c1 := P2.c1; have p2c2 := P2.c2; have p2c3 := P2.c3; have p2c4 := P2.c4; have p2l := P2.lt))
  all_goals
    have T1 := Lib.hid (SRow.call S1.out C12)
    obtain ⟨M, hM⟩ : ∃ M, M = (stabL f (p : Int) B (q : Int)).length := ⟨_, rfl⟩
    obtain ⟨N, hN⟩ : ∃ N, N = (cellP q p).length := ⟨_, rfl⟩
    have hM81 : M ≤ 81 := by rw [hM]; exact stabL_len f (p : Int) B (q : Int)
    have hN64 : N ≤ 64 := by rw [hN, cellP_len]; exact hpq
    rw [← hM] at T1
    rw [← hN] at S2
    rw [← hM, ← hN]
    have HM := Lib.hid hM
    have HN := Lib.hid hN
    have zW := B2.size
    have lP := P2.lt
    clear S1 C12 P1 B1 hb1 hb2 P0 B0 p0c0 p0c1 p0c2 p0c3 p0c4 p0l p1c0 p1c1 p1c2 p1c3 p1c4 p1l p2c0 p2c1 p2c2 p2c3 p2c4 p2l hM hN
    go_wp2_with fail
    have hlit : (w2.alloc (.cells #[] 51)).ownsRow w2.heap.size 51 6 (.slice (some ⟨w2.heap.size, 0, none⟩) 0 0) ([] : List M6).length (cells6 []) := by
      have h := World.ownsRow_lit (base := w2.heap.size) (e := 51) (size := 6) w2 #[] 0 (Nat.le_refl _) (by unfold maxLen; omega) rfl
      simpa [cells6] using h
    go_loopw [5, 6] (fun s5 s6 X => ∃ i : Nat, s6 = .int .i64 (i : Int) ∧ i ≤ M ∧ X.ownsRow w2.heap.size 51 6 s5 ((((stabL f (p : Int) B (q : Int)).take i).flatMap fun m => rowM m (cellP q p)).filter (kepB p B q F)).length (cells6 ((((stabL f (p : Int) B (q : Int)).take i).flatMap fun m => rowM m (cellP q p)).filter (kepB p B q F))) ∧ Below w2.heap.size w2 X) (fun _ s6 _ => M - (intOf s6).toNat)
    case atStart => exact ⟨0, rfl, by omega, by simpa using hlit, (Below.refl _ _).alloc (Nat.le_refl _) _⟩
    case round =>
      obtain ⟨wo, hwo⟩ : ∃ z, z = wr := ⟨_, rfl⟩
      subst hwo
      clear hlit
      obtain ⟨i, rfl, hi, hown, hB⟩ := hrel
      by_cases hi1 : i < M
      · have hi2 : (i : Int) < (M : Int) := by omega
        have hi3 : (i : Int) ≤ 81 := by omega
        have hiL : i < (stabL f (p : Int) B (q : Int)).length := by rw [← HM.out]; exact hi1
        have HIL := Lib.hid hiL
        obtain ⟨mm, hmm⟩ : ∃ mm, mm = (stabL f (p : Int) B (q : Int))[i] := ⟨_, rfl⟩
        have HMM := Lib.hid hmm
        have hmem : mm ∈ stabL f (p : Int) B (q : Int) := by rw [hmm]; exact List.getElem_mem hiL
        have HKE := Lib.hid (stab_kee hmem)
        have hO0 : wo.ownsRow w2.heap.size 51 6 u5 (((((stabL f (p : Int) B (q : Int)).take i).flatMap fun m => rowM m (cellP q p)) ++ rowM mm ((cellP q p).take 0)).filter (kepB p B q F)).length (cells6 (((((stabL f (p : Int) B (q : Int)).take i).flatMap fun m => rowM m (cellP q p)) ++ rowM mm ((cellP q p).take 0)).filter (kepB p B q F))) := by simpa [rowM] using hown
        clear hown hmem hmm hiL
        go_wp2_with fail
        go_loopw [5, 7] (fun s5 s7 X => ∃ k : Nat, s7 = .int .i64 (k : Int) ∧ k ≤ N ∧ X.ownsRow w2.heap.size 51 6 s5 (((((stabL f (p : Int) B (q : Int)).take i).flatMap fun m => rowM m (cellP q p)) ++ rowM mm ((cellP q p).take k)).filter (kepB p B q F)).length (cells6 (((((stabL f (p : Int) B (q : Int)).take i).flatMap fun m => rowM m (cellP q p)) ++ rowM mm ((cellP q p).take k)).filter (kepB p B q F))) ∧ Below w2.heap.size w2 X) (fun _ s7 _ => N - (intOf s7).toNat)
        case atStart => exact ⟨0, rfl, by omega, hO0, hB⟩
        case round =>
          obtain ⟨wi, hwi⟩ : ∃ z, z = wr := ⟨_, rfl⟩
          subst hwi
          clear hO0 hB
          obtain ⟨k, rfl, hk, hown, hB⟩ := hrel
          by_cases hk1 : k < N
          · have hk2 : (k : Int) < (N : Int) := by omega
            have hk3 : (k : Int) ≤ 64 := by omega
            have hkL : k < (cellP q p).length := by rw [← HN.out]; exact hk1
            have e1 := T1.out.2.2.resolve_left (fun h => by omega)
            obtain ⟨g1, c1, e1, _, hg1, RA⟩ := e1
            simp only [Value.slice.injEq, true_and] at e1
            obtain ⟨rfl, rfl⟩ := e1
            have e2 := S2.out.2.2.resolve_left (fun h => by omega)
            obtain ⟨g2, c2, e2, _, hg2, RB⟩ := e2
            simp only [Value.slice.injEq, true_and] at e2
            obtain ⟨rfl, rfl⟩ := e2
            have hg1' : g1 < w2.heap.size := RA.1
            have hg2' : g2 < w2.heap.size := RB.1
            have q1 : Ko4 g1 (i * 4) mm.1 mm.2.1 mm.2.2.1 mm.2.2.2 wi := by
              have h9 := (IRow.m4S (xs := stabL f (p : Int) B (q : Int)) (by rw [← HM.out]; exact RA) i HIL.out).call hB
              rw [HMM.out]
              exact h9
            have q2 := (IRow.v29 (xs := cellP q p) (by rw [← HN.out]; exact RB) k hkL).call hB
            have hbd := cellP_mem9 (List.getElem_mem hkL)
            have HTK := Lib.hid (rowM_take (m := mm) hkL)
            have HKK := Lib.hid hk1
            obtain ⟨⟨s, t⟩, hst⟩ : ∃ v, v = (cellP q p)[k] := ⟨_, rfl⟩
            rw [← hst] at q2 hbd HTK
            obtain ⟨a, b, c, d⟩ := mm
            dsimp only at q1 q2 hbd
            have q1c := q1.cells
            have q2c := q2.cells
            have q1l := q1.1
            have q2l := q2.1
            have q1n : ¬ g1 = wi.heap.size := by omega
            have q2n : ¬ g2 = wi.heap.size := by omega
            obtain ⟨q10, q11, q12, q13⟩ := q1c
            obtain ⟨q20, q21⟩ := q2c
            go_wp2_with fail
            go_region
            have P3 : Bx W.heap.size [.int .i64 f, .int .i64 (p : Int), .int .i64 B, .int .i64 (q : Int), .slice (some ⟨g, 0, none⟩) n cap] ((wi.alloc (.cells #[.int .i64 a, .int .i64 b, .int .i64 c, .int .i64 d, .int .i64 s, .int .i64 t] 51)).drew) := ((P2.call hB).alloc _).drew
            have M3 : Bx wi.heap.size [.int .i64 a, .int .i64 b, .int .i64 c, .int .i64 d, .int .i64 s, .int .i64 t] ((wi.alloc (.cells #[.int .i64 a, .int .i64 b, .int .i64 c, .int .i64 d, .int .i64 s, .int .i64 t] 51)).drew) := (Bx.at _ rfl).drew
            have B3 : Below w2.heap.size w2 ((wi.alloc (.cells #[.int .i64 a, .int .i64 b, .int .i64 c, .int .i64 d, .int .i64 s, .int .i64 t] 51)).drew) := (hB.alloc hB.size _).drew
            have C3 : Below wi.heap.size wi ((wi.alloc (.cells #[.int .i64 a, .int .i64 b, .int .i64 c, .int .i64 d, .int .i64 s, .int .i64 t] 51)).drew) := ((Below.refl _ _).alloc (Nat.le_refl _) _).drew
            obtain ⟨w3, hw3⟩ : ∃ w3, (wi.alloc (.cells #[.int .i64 a, .int .i64 b, .int .i64 c, .int .i64 d, .int .i64 s, .int .i64 t] 51)).drew = w3 := ⟨_, rfl⟩
            rw [hw3] at P3 M3 B3 C3
            (try rw [hw3])
            clear hw3 q1 q2 q10 q11 q12 q13 q20 q21 q1l q2l q1n q2n
            have O3 := ownsRow_call9 hown C3
            have hlim := motQ_lim (m := (a, b, c, d, s, t)) hf hp2 hq2 ⟨⟨HKE.out.1, HKE.out.2⟩, hbd.1, hbd.2⟩
            obtain ⟨kb, hkb⟩ : ∃ kb, kb = kepB p B q F (a, b, c, d, s, t) := ⟨_, rfl⟩
            have HKP := Lib.hid (show Calls Tryd.prog 49 #[.agg #[.int .i64 f, .int .i64 (p : Int), .int .i64 B, .int .i64 (q : Int), .slice (some ⟨g, 0, none⟩) n cap], .agg #[.int .i64 a, .int .i64 b, .int .i64 c, .int .i64 d, .int .i64 s, .int .i64 t]] w3 (fun e w' => e = .returned (.bool kb) ∧ Below w3.heap.size w3 w') from by rw [hkb]; exact l09Keeps_any HH.out (R.out.call (B2.trans (B3.mono zW))) a b c d s t hlim.1 hlim.2)
            have HLN := Lib.hid (show (((((stabL f (p : Int) B (q : Int)).take i).flatMap fun m => rowM m (cellP q p)) ++ rowM (a, b, c, d) ((cellP q p).take k)).filter (kepB p B q F)).length ≤ 6000 from by
              refine Nat.le_trans (List.length_filter_le _ _) ?_
              rw [List.length_append, len_flat, cellP_len]
              have h1 : ((stabL f (p : Int) B (q : Int)).take i).length ≤ 81 := by rw [List.length_take]; omega
              have h2 := Nat.mul_le_mul h1 hpq
              have h3 : (rowM (a, b, c, d) ((cellP q p).take k)).length ≤ 64 := by simp only [rowM, List.length_map, List.length_take]; omega
              omega)
            have HF := Lib.hid (show ((((stabL f (p : Int) B (q : Int)).take i).flatMap fun m => rowM m (cellP q p)) ++ rowM (a, b, c, d) ((cellP q p).take (k + 1))).filter (kepB p B q F) = ((((stabL f (p : Int) B (q : Int)).take i).flatMap fun m => rowM m (cellP q p)) ++ rowM (a, b, c, d) ((cellP q p).take k)).filter (kepB p B q F) ++ (if kb = true then [(a, b, c, d, s, t)] else []) from by
              rw [HTK.out, ← List.append_assoc, List.filter_append]
              congr 1
              rw [hkb]
              rcases hk9 : kepB p B q F (a, b, c, d, s, t) with _ | _ <;> simp [hk9])
            generalize ((((stabL f (p : Int) B (q : Int)).take i).flatMap fun m => rowM m (cellP q p)) ++ rowM (a, b, c, d) ((cellP q p).take k)).filter (kepB p B q F) = ys at O3 HLN HF hown
            have z3 := B3.size
            clear hkb hlim hbd hst HTK hown C3
            have p3c0 := P3.c0
            have p3c1 := P3.c1
            have p3c2 := P3.c2
            have p3c3 := P3.c3
            have p3c4 := P3.c4
            have p3l := P3.lt
            have m3c0 := M3.c0
            have m3c1 := M3.c1
            have m3c2 := M3.c2
            have m3c3 := M3.c3
            have m3c4 := M3.c4
            have m3c5 := M3.c5
            have m3l := M3.lt
            go_wp2_with fail
            refine HKP.out.mono ?_
            rintro e w4 ⟨rfl, hb4⟩
            have M4 := M3.call hb4
            have O4 := ownsRow_call9 O3 hb4
            have B4 := bstep B3 hb4
            have z4 := hb4.size
            clear HKP P3 M3 O3 B3 hb4 p3c0 p3c1 p3c2 p3c3 p3c4 p3l m3c0 m3c1 m3c2 m3c3 m3c4 m3c5 m3l
            have m4c0 := M4.c0
            have m4c1 := M4.c1
            have m4c2 := M4.c2
            have m4c3 := M4.c3
            have m4c4 := M4.c4
            have m4c5 := M4.c5
            have m4l := M4.lt
            rcases kb with _ | _
            · go_wp2
              go_roundw
              case rel => exact ⟨k + 1, by go_num, by have := HKK.out; omega, by rw [HF.out]; simpa using O4, B4⟩
              case measure => (have := HKK.out); first | (simp [intOf]; done) | (simp [intOf]; omega)
            · go_wp2_with (at_builtin; refine wpList_append_own _ rfl _ _ 28 rfl w2.heap.size 51 i0 (.agg #[.int .i64 0, .int .i64 0, .int .i64 0, .int .i64 0, .int .i64 0, .int .i64 0]) 6 48 Tryd.underlying28 hinf hz0 hz1 hz2 rfl (by decide) _ _ _ rfl (O4.alloc _) ⟨w4.heap.size, 0, none⟩ 1 1 [.int .i64 a, .int .i64 b, .int .i64 c, .int .i64 d, .int .i64 s, .int .i64 t] rfl rfl (new_six _ _ _ _ _ _ _ rfl) one_six (by have := HLN.out; unfold maxLen; omega) (by have := HLN.out; omega) (by (try simp); omega) ?_; intro v9 w9 hown9 hgrow _)
              have O9 := own_next6 hown9
              have B9 : Below w2.heap.size w2 w9 := Below.grown (Below.alloc B4 (by omega) _) hgrow (by simp; omega) (fun r hr => by have := (O4.lt r hr).1; omega)
              clear hown9 hgrow O4 B4 M4 m4c0 m4c1 m4c2 m4c3 m4c4 m4c5 m4l
              go_wp2
              go_roundw
              case rel =>
                refine ⟨k + 1, by go_num, by have := HKK.out; omega, ?_, B9⟩
                rw [HF.out]
                first | rw [if_pos rfl] | rw [if_pos trivial]
                exact O9
              case measure => (have := HKK.out); first | (simp [intOf]; done) | (simp [intOf]; omega)
          · obtain rfl : k = N := by omega
            have HW := Lib.hid (show wi.ownsRow w2.heap.size 51 6 u5 ((((stabL f (p : Int) B (q : Int)).take (i + 1)).flatMap fun m => rowM m (cellP q p)).filter (kepB p B q F)).length (cells6 ((((stabL f (p : Int) B (q : Int)).take (i + 1)).flatMap fun m => rowM m (cellP q p)).filter (kepB p B q F))) from by
              rw [flat_take HIL.out]
              rw [HN.out, List.take_length, HMM.out] at hown
              exact hown)
            clear hown
            go_wp2
            go_roundw
            case rel => exact ⟨i + 1, by go_num, by omega, HW.out, hB⟩
            case measure => first | (simp [intOf]; done) | (simp [intOf]; omega)
      · obtain rfl : i = M := by omega
        rw [HM.out, List.take_length] at hown
        have HW := Lib.hid hown
        have B9 := B2.trans (hB.mono zW)
        clear hown hB
        go_wp2
        go_ret
        exact ⟨_, rfl, ownsRow_lower HW.out zW, B9⟩
end Go.Proofs.YtkfdaepnjdnnmaaDoor
