/-
  CountCentres in the model and in the program: both tell the number of the classes of centres. Conditions: the list's length is below the model's bound; the program's variable unitMatrix holds the unit.
-/
import Derived.Test.YtodkomaeljbhaaaGreatDoorCc6
import Derived.Deep.RegionHeld3
import Derived.IntWalk
namespace Go.Proofs.YtodkomaeljbhaaaGreatDoor
open Go.RowKit
set_option linter.unusedSimpArgs false
set_option linter.unusedVariables false

def lstN (i : Nat) : Int := match i with | 0 => 2 | 1 => 3 | 2 => 4 | _ => 6
theorem lst_cell {g i : Nat} {W : World} (h : Kq g 2 3 4 6 W) (hi : i < 4) : W.cell? ⟨g, i, none⟩ = some (.int .i64 (lstN i)) := by
  have e : i = 0 ∨ i = 1 ∨ i = 2 ∨ i = 3 := by omega
  rcases e with rfl | rfl | rfl | rfl
  · exact h.c0
  · exact h.c1
  · exact h.c2
  · exact h.c3
theorem nOk_iff {n : Int} : nOk n = true ↔ ∃ i, i < 4 ∧ lstN i = n := by
  unfold nOk
  simp only [Bool.or_eq_true, beq_iff_eq]
  constructor
  · rintro (h | h | h | h)
    · exact ⟨0, by omega, h.symm⟩
    · exact ⟨1, by omega, h.symm⟩
    · exact ⟨2, by omega, h.symm⟩
    · exact ⟨3, by omega, h.symm⟩
  · rintro ⟨i, hi, rfl⟩
    have e : i = 0 ∨ i = 1 ∨ i = 2 ∨ i = 3 := by omega
    rcases e with rfl | rfl | rfl | rfl <;> decide
theorem nOk_no {n : Int} (h : ∀ i, i < 4 → lstN i ≠ n) : nOk n = false := by
  rcases hn : nOk n with _ | _
  · rfl
  · obtain ⟨i, hi, e⟩ := nOk_iff.1 hn
    exact absurd e (h i hi)
theorem own_len2 {W : World} {base : Nat} {T : TypeId} {v : Value} {L : List V2} (h : W.ownsRow base T 2 v L.length (cells2 L)) : ∃ ao cap, v = .slice ao L.length cap := by
  rcases h.2 with ⟨h1, h2⟩ | ⟨g, cap, cur, h', _⟩
  · exact ⟨none, 0, by rw [h1]; rw [h2]⟩
  · exact ⟨_, _, h'⟩
set_option maxRecDepth 100000 in
set_option maxHeartbeats 4000000 in
theorem hasN_any (g : Nat) (n : Int) (w : World) (h : Kq g 2 3 4 6 w) :
    Calls Tryz.prog 36 #[.slice (some ⟨g, 0, none⟩) 4 4, .int .i64 n] w fun e w' => e = .returned (.bool (nOk n)) ∧ Below w.heap.size w w' := by
  have HK := Lib.hid h
  clear h
  go_enter Tryz.func36, Tryz.ntmps36
  go_wp2_with fail
  go_loopw [5] (fun s W => ∃ k : Nat, s = .int .i64 (k : Int) ∧ k ≤ 4 ∧ (∀ i, i < k → lstN i ≠ n) ∧ Below w.heap.size w W) (fun s _ => 4 - (intOf s).toNat)
  case atStart => exact ⟨0, rfl, by omega, fun i h => absurd h (by omega), Below.refl _ _⟩
  case round =>
    obtain ⟨k, rfl, hk, hall, hB⟩ := hrel
    have HALL := Lib.hid hall
    clear hall
    by_cases hk1 : k < 4
    · have hk2 : (k : Int) < 4 := by omega
      have HKK := Lib.hid hk1
      have hc := lst_cell (HK.out.call hB) hk1
      have HL := Lib.hid (show ∃ z, z = lstN k from ⟨_, rfl⟩)
      obtain ⟨z, hz⟩ := HL.out
      rw [← hz] at hc
      have HZ := Lib.hid hz
      clear hz HL
      have hgl : g < wr.heap.size := (kq_ltC (HK.out.call hB))
      by_cases hzn : z = n
      · have he : (z == n) = true := by simp [hzn]
        have HY := Lib.hid (show nOk n = true from nOk_iff.2 ⟨k, HKK.out, by rw [← HZ.out]; exact hzn⟩)
        have HW := Lib.hid hzn
        clear hzn
        go_wp2
        go_ret
        exact ⟨ret_bool HY.out.symm, hB⟩
      · have he : (z == n) = false := by simp [Ne.symm hzn, hzn]
        have HW := Lib.hid hzn
        clear hzn
        go_wp2
        go_roundw
        case rel => exact ⟨k + 1, by go_num, by have := HKK.out; omega, fun i hi => by
          by_cases e : i = k
          · subst e; rw [← HZ.out]; exact HW.out
          · exact HALL.out i (by omega), hB⟩
        case measure => (have := HKK.out); first | (simp [intOf]; done) | (simp [intOf]; omega)
    · obtain rfl : k = 4 := by omega
      have HN := Lib.hid (nOk_no HALL.out)
      go_wp2
      go_ret
      exact ⟨ret_bool HN.out.symm, hB⟩
set_option maxRecDepth 100000 in
set_option maxHeartbeats 4000000 in
theorem indexN_any (g : Nat) (n : Int) (w : World) (h : Kq g 2 3 4 6 w) :
    Calls Tryz.prog 67 #[.slice (some ⟨g, 0, none⟩) 4 4, .int .i64 n] w fun e w' => (∃ i : Int, e = .returned (.int .i64 i) ∧ (0 ≤ i ∧ nOk n = true ∨ i = -1 ∧ nOk n = false)) ∧ Below w.heap.size w w' := by
  have HK := Lib.hid h
  clear h
  go_enter Tryz.func67, Tryz.ntmps67
  go_wp2_with fail
  go_loopw [8] (fun s W => ∃ k : Nat, s = .int .i64 (k : Int) ∧ k ≤ 4 ∧ (∀ i, i < k → lstN i ≠ n) ∧ Below w.heap.size w W) (fun s _ => 4 - (intOf s).toNat)
  case atStart => exact ⟨0, rfl, by omega, fun i h => absurd h (by omega), Below.refl _ _⟩
  case round =>
    obtain ⟨k, rfl, hk, hall, hB⟩ := hrel
    have HALL := Lib.hid hall
    clear hall
    by_cases hk1 : k < 4
    · have hk2 : (k : Int) < 4 := by omega
      have HKK := Lib.hid hk1
      have hc := lst_cell (HK.out.call hB) hk1
      have HL := Lib.hid (show ∃ z, z = lstN k from ⟨_, rfl⟩)
      obtain ⟨z, hz⟩ := HL.out
      rw [← hz] at hc
      have HZ := Lib.hid hz
      clear hz HL
      have hgl : g < wr.heap.size := (kq_ltC (HK.out.call hB))
      by_cases hzn : z = n
      · have he : (n == z) = true := by simp [hzn]
        have HY := Lib.hid (show nOk n = true from nOk_iff.2 ⟨k, HKK.out, by rw [← HZ.out]; exact hzn⟩)
        have HW := Lib.hid hzn
        clear hzn
        go_wp2
        go_ret
        exact ⟨⟨_, rfl, .inl ⟨by omega, HY.out⟩⟩, hB⟩
      · have he : (n == z) = false := by simp [Ne.symm hzn, hzn]
        have HW := Lib.hid hzn
        clear hzn
        go_wp2
        go_roundw
        case rel => exact ⟨k + 1, by go_num, by have := HKK.out; omega, fun i hi => by
          by_cases e : i = k
          · subst e; rw [← HZ.out]; exact HW.out
          · exact HALL.out i (by omega), hB⟩
        case measure => (have := HKK.out); first | (simp [intOf]; done) | (simp [intOf]; omega)
    · obtain rfl : k = 4 := by omega
      have HN := Lib.hid (nOk_no HALL.out)
      go_wp2
      go_ret
      exact ⟨⟨_, rfl, .inr ⟨rfl, HN.out⟩⟩, hB⟩
theorem containsN_any (g : Nat) (n : Int) (w : World) (h : Kq g 2 3 4 6 w) :
    Calls Tryz.prog 38 #[.slice (some ⟨g, 0, none⟩) 4 4, .int .i64 n] w fun e w' => e = .returned (.bool (nOk n)) ∧ Below w.heap.size w w' := by
  go_enter Tryz.func38, Tryz.ntmps38
  go_wp2_with fail
  refine (indexN_any g n _ h).mono ?_
  rintro e w1 ⟨⟨i, rfl, hi⟩, hb1⟩
  rcases hi with ⟨h1, h2⟩ | ⟨rfl, h2⟩
  · go_wp2
    go_ret
    exact ⟨ret_bool (by rw [h2]; try simp [h1]), hb1⟩
  · go_wp2
    go_ret
    exact ⟨ret_bool (by rw [h2]; try rfl), hb1⟩
theorem ordT_back (a b c d : Int) : ordT d (-b) (-c) a = ordT a b c d := by
  have h1 : unitB d (-b) (-c) a = unitB a b c d := by
    rw [Bool.eq_iff_iff]; simp [unitB]; omega
  have h2 : (d == -1 && -b == 0 && -c == 0 && a == -1) = (a == -1 && b == 0 && c == 0 && d == -1) := by
    rw [Bool.eq_iff_iff]; simp; omega
  have h3 : d * a - -b * -c = a * d - b * c := by grind
  have h4 : d + a = a + d := by omega
  unfold ordT
  rw [h1, h2, h3, h4]
theorem ord_same {f A B C : Int} {xs : List M6} (hG : grpB f A B C xs = true) {m m1 : M6} (hm : m ∈ xs) (h1 : m1 ∈ xs) (hd : m.1 * m.2.2.2.1 - m.2.1 * m.2.2.1 = 1) (hd1 : m1.1 * m1.2.2.2.1 - m1.2.1 * m1.2.2.1 = 1) (ht : m.1 + m.2.2.2.1 = m1.1 + m1.2.2.2.1) : ordI m.1 m.2.1 m.2.2.1 m.2.2.2.1 = ordI m1.1 m1.2.1 m1.2.2.1 m1.2.2.2.1 := by
  obtain ⟨a, b, c, d, x, y⟩ := m
  obtain ⟨a', b', c', d', x', y'⟩ := m1
  obtain ⟨k1, _, _, o1⟩ := grp_mot hG hm
  obtain ⟨k2, _, _, o2⟩ := grp_mot hG h1
  rw [ord_eq k1, ord_eq k2]
  obtain ⟨hl, hf, e1, _⟩ := suit_parts o1
  obtain ⟨_, _, e2, _⟩ := suit_parts o2
  simp only at hd hd1 ht ⊢
  rcases rots_same hf e2 e1 hd1 hd ht.symm with ⟨rfl, rfl, rfl, rfl⟩ | ⟨r1, r2, r3, r4⟩
  · rfl
  · rw [r1, r2, r3, r4]; exact ordT_back _ _ _ _
/- the number of the classes -/
theorem cc_len {f A B C n : Int} {xs : List M6} (hG : grpB f A B C xs = true) (hn : nOk n = true) {a b c d x y : Int} (hm : (a, b, c, d, x, y) ∈ xs) (hq : rotQ n (a, b, c, d, x, y) = true) : ((putAllV (cenL A B C n xs)).length : Int) = (2 - (a + d)) * ((shP xs).length : Int) := by
  unfold rotQ at hq
  simp only [Bool.and_eq_true, decide_eq_true_eq] at hq
  obtain ⟨hd, ho⟩ := hq
  obtain ⟨hmm, _, _, hok⟩ := grp_mot hG hm
  obtain ⟨⟨t1, t2⟩, _⟩ := ord_tr hmm hd ho hn
  obtain ⟨hl, hf, hk, hs, _, _⟩ := suit_parts hok
  obtain ⟨D, hD⟩ := Int.eq_ofNat_of_zero_le (show 0 ≤ 2 - (a + d) by omega)
  have hR : Rot A B C a b c d D := ⟨hl, hs, hd, hD, by omega, by omega⟩
  have := centres_len hG hm hR (R := xs.filter (rotQ n)) (fun m => by
    rw [List.mem_filter]
    unfold rotQ
    simp only [Bool.and_eq_true, decide_eq_true_eq]
    constructor
    · rintro ⟨h1, h2, h3⟩
      obtain ⟨k1, _, _, o1⟩ := grp_mot (a := m.1) (b := m.2.1) (c := m.2.2.1) (d := m.2.2.2.1) (x := m.2.2.2.2.1) (y := m.2.2.2.2.2) hG h1
      have e1 := (ord_tr k1 h2 h3 hn).2
      have e2 := (ord_tr hmm hd ho hn).2
      exact ⟨h1, h2, by rw [e1, e2]⟩
    · rintro ⟨h1, h2, h3⟩
      exact ⟨h1, h2, (ord_same hG h1 hm h2 hd h3).trans ho⟩) (X := putAllV (cenL A B C n xs)) (putAllV_up _).nodup (fun z => putAllV_mem _ z)
  rw [this, hD, Int.natCast_mul]
theorem cc_none {A B C n : Int} {xs : List M6} (h : ∀ m ∈ xs, rotQ n m = false) : (putAllV (cenL A B C n xs)).length = 0 := by
  have : xs.filter (rotQ n) = [] := List.filter_eq_nil_iff.2 fun m hm => by rw [h m hm]; simp
  unfold cenL
  rw [this]; rfl
theorem cc_bad {f A B C n : Int} {xs : List M6} (h : (nOk n && grpB f A B C xs) = false) : ccT f A B C n xs = .tuple #[.int .i64 0, .int .i64 (cod6 f A B C false)] := by simp [ccT, ccN, h]
theorem cc_good {f A B C n : Int} {xs : List M6} (h : (nOk n && grpB f A B C xs) = true) : ccT f A B C n xs = .tuple #[.int .i64 ((putAllV (cenL A B C n xs)).length : Nat), .int .i64 0] := by
  have hg : grpB f A B C xs = true := by simp at h; exact h.2
  simp [ccT, ccN, h, cod6_ok hg]
set_option maxRecDepth 100000 in
set_option maxHeartbeats 8000000 in
theorem specCc_any {lo hi : Nat} {v : Value} {xs : List M6} {w : World} (f A B C n : Int) (h : SRow lo hi 6 v xs.length (fm xs) w) (hn : xs.length ≤ 1048576) :
    Calls Tryz.prog 16 #[.int .i64 f, .agg #[.int .i64 A, .int .i64 B, .int .i64 C], v, .int .i64 n] w fun e w' => e = .returned (ccT f A B C n xs) ∧ Below w.heap.size w w' := by
  have HA := Lib.hid h
  have HN := Lib.hid hn
  have L0 : Kt w.heap.size A B C (w.alloc (.cells #[.int .i64 A, .int .i64 B, .int .i64 C] 30)) := Kt.at _ rfl
  have B0 : Below w.heap.size w (w.alloc (.cells #[.int .i64 A, .int .i64 B, .int .i64 C] 30)) := (Below.refl _ _).alloc (Nat.le_refl _) _
  have L0c := L0.cells
  have CC : Hid (∀ W, Below w.heap.size w W → Calls Tryz.prog 24 #[.int .i64 f, .agg #[.int .i64 A, .int .i64 B, .int .i64 C], v, .bool (nOk n)] W fun e w' => e = .returned (.int .i64 (cod6 f A B C (nOk n && grpB f A B C xs))) ∧ Below W.heap.size W w') := Lib.hid (fun W hW => l07Code_any f A B C (nOk n) (HA.out.grow hW HA.out.1) HN.out)
  obtain ⟨ao, cap, rfl⟩ := srow_shape h
  clear h hn
  rcases hg : (nOk n && grpB f A B C xs) with _ | _
  · have HV := Lib.hid (cc_bad hg)
    have hc := cod6_nz f A B C
    obtain ⟨cc, hcc⟩ : ∃ z, z = cod6 f A B C false := ⟨_, rfl⟩
    rw [← hcc] at hc HV
    have HCD := Lib.hid (show cod6 f A B C (nOk n && grpB f A B C xs) = cc from by rw [hg, hcc])
    clear hg hcc
    have EA := Lib.hid (ret_val HV.out.symm)
    go_enter Tryz.func16, Tryz.ntmps16
    go_wp2_with fail
    go_region_held3 (fun W => (W.cell? ⟨w.heap.size, 0, none⟩ = some (.int .i64 A) ∧ W.cell? ⟨w.heap.size, 1, none⟩ = some (.int .i64 B) ∧ W.cell? ⟨w.heap.size, 2, none⟩ = some (.int .i64 C))) ((refine Kt.cells ?_) <;> repeat (first | with_reducible assumption | with_reducible refine Kt.drew ?_ | with_reducible refine Kt.alloc ?_ _ | with_reducible refine Kt.call ?_ (by with_reducible assumption)))
      (first
        | (go_at_call 36; with_reducible refine (hasN_any _ n _ (by repeat (first | with_reducible assumption | (with_reducible exact Kq.at _ (by first | with_reducible rfl | (simp; done) | fail)) | with_reducible refine Kq.drew ?_ | with_reducible refine Kq.alloc ?_ _ | with_reducible refine Kq.call ?_ (by with_reducible assumption)))).mono ?_; rintro e u1 ⟨rfl, hb1⟩; have L1 : Kt w.heap.size A B C u1 := (by repeat (first | with_reducible assumption | with_reducible refine Kt.drew ?_ | with_reducible refine Kt.alloc ?_ _ | with_reducible refine Kt.call ?_ (by with_reducible assumption))); have B1 : Below w.heap.size w u1 := (by repeat (first | with_reducible assumption | with_reducible exact Below.refl _ _ | with_reducible refine Below.alloc ?_ (by first | omega | (simp <;> omega)) _ | with_reducible refine bstep ?_ (by with_reducible assumption) | with_reducible refine Below.drew ?_)))
        | (go_at_call 24; with_reducible refine (CC.out _ (by repeat (first | with_reducible assumption | with_reducible exact Below.refl _ _ | with_reducible refine Below.alloc ?_ (by first | omega | (simp <;> omega)) _ | with_reducible refine bstep ?_ (by with_reducible assumption) | with_reducible refine Below.drew ?_))).mono ?_; rintro e u2 ⟨rfl, hb2⟩; rw [HCD.out]; have L2 : Kt w.heap.size A B C u2 := (by repeat (first | with_reducible assumption | with_reducible refine Kt.drew ?_ | with_reducible refine Kt.alloc ?_ _ | with_reducible refine Kt.call ?_ (by with_reducible assumption))); have B2 : Below w.heap.size w u2 := (by repeat (first | with_reducible assumption | with_reducible exact Below.refl _ _ | with_reducible refine Below.alloc ?_ (by first | omega | (simp <;> omega)) _ | with_reducible refine bstep ?_ (by with_reducible assumption) | with_reducible refine Below.drew ?_))))
    all_goals
      clear L1 B1 hb1 hb2 L0 L0c B0 CC
      have L2c := L2.cells
      go_wp2
      go_ret2
      exact ⟨EA.out, B2⟩
  · have HV := Lib.hid (cc_good hg)
    have hgg : nOk n = true ∧ grpB f A B C xs = true := by simpa using hg
    have HGG := Lib.hid hgg
    have HCD := Lib.hid (show cod6 f A B C (nOk n && grpB f A B C xs) = 0 from by rw [hg]; exact cod6_ok hgg.2)
    clear hg hgg
    have EA := Lib.hid (ret_val HV.out.symm)
    have CE := Lib.hid (fun W (hW : Below w.heap.size w W) => l11Centres_any (w := W) n HGG.out.2 HGG.out.1 (HA.out.grow hW HA.out.1))
    go_enter Tryz.func16, Tryz.ntmps16
    go_wp2_with fail
    go_region_held3 (fun W => (W.cell? ⟨w.heap.size, 0, none⟩ = some (.int .i64 A) ∧ W.cell? ⟨w.heap.size, 1, none⟩ = some (.int .i64 B) ∧ W.cell? ⟨w.heap.size, 2, none⟩ = some (.int .i64 C))) ((refine Kt.cells ?_) <;> repeat (first | with_reducible assumption | with_reducible refine Kt.drew ?_ | with_reducible refine Kt.alloc ?_ _ | with_reducible refine Kt.call ?_ (by with_reducible assumption)))
      (first
        | (go_at_call 36; with_reducible refine (hasN_any _ n _ (by repeat (first | with_reducible assumption | (with_reducible exact Kq.at _ (by first | with_reducible rfl | (simp; done) | fail)) | with_reducible refine Kq.drew ?_ | with_reducible refine Kq.alloc ?_ _ | with_reducible refine Kq.call ?_ (by with_reducible assumption)))).mono ?_; rintro e u1 ⟨rfl, hb1⟩; have L1 : Kt w.heap.size A B C u1 := (by repeat (first | with_reducible assumption | with_reducible refine Kt.drew ?_ | with_reducible refine Kt.alloc ?_ _ | with_reducible refine Kt.call ?_ (by with_reducible assumption))); have B1 : Below w.heap.size w u1 := (by repeat (first | with_reducible assumption | with_reducible exact Below.refl _ _ | with_reducible refine Below.alloc ?_ (by first | omega | (simp <;> omega)) _ | with_reducible refine bstep ?_ (by with_reducible assumption) | with_reducible refine Below.drew ?_)))
        | (go_at_call 24; with_reducible refine (CC.out _ (by repeat (first | with_reducible assumption | with_reducible exact Below.refl _ _ | with_reducible refine Below.alloc ?_ (by first | omega | (simp <;> omega)) _ | with_reducible refine bstep ?_ (by with_reducible assumption) | with_reducible refine Below.drew ?_))).mono ?_; rintro e u2 ⟨rfl, hb2⟩; rw [HCD.out]; have L2 : Kt w.heap.size A B C u2 := (by repeat (first | with_reducible assumption | with_reducible refine Kt.drew ?_ | with_reducible refine Kt.alloc ?_ _ | with_reducible refine Kt.call ?_ (by with_reducible assumption))); have B2 : Below w.heap.size w u2 := (by repeat (first | with_reducible assumption | with_reducible exact Below.refl _ _ | with_reducible refine Below.alloc ?_ (by first | omega | (simp <;> omega)) _ | with_reducible refine bstep ?_ (by with_reducible assumption) | with_reducible refine Below.drew ?_))))
    all_goals
      clear L1 B1 hb1 hb2 L0 L0c B0 CC
      have L2c := L2.cells
      go_wp2_with fail
      refine (CE.out _ B2).mono ?_
      rintro e w3 ⟨g3, c3, rfl, hb3⟩
      have B3 := bstep B2 hb3
      clear hb3 B2 L2 L2c CE
      obtain ⟨N, hN⟩ : ∃ N, N = (putAllV (cenL A B C n xs)).length := ⟨_, rfl⟩
      rw [← hN] at EA ⊢
      clear hN
      go_wp2
      go_ret2
      exact ⟨EA.out, B3⟩
set_option maxRecDepth 100000 in
set_option maxHeartbeats 16000000 in
theorem implCc_any {lo hi : Nat} {v : Value} {xs : List M6} {w : World} (f A B C n : Int) (h : SRow lo hi 6 v xs.length (fm xs) w) (hn : xs.length ≤ 1048576) (hU : UnitOK w) :
    Calls Tryz.prog 17 #[.int .i64 f, .agg #[.int .i64 A, .int .i64 B, .int .i64 C], v, .int .i64 n] w fun e w' => e = .returned (ccT f A B C n xs) ∧ Below w.heap.size w w' := by
  have L0 : Kt w.heap.size A B C (w.alloc (.cells #[.int .i64 A, .int .i64 B, .int .i64 C] 30)) := Kt.at _ rfl
  have B0 : Below w.heap.size w (w.alloc (.cells #[.int .i64 A, .int .i64 B, .int .i64 C] 30)) := (Below.refl _ _).alloc (Nat.le_refl _) _
  have A0 : SRow lo hi 6 v xs.length (fm xs) (w.alloc (.cells #[.int .i64 A, .int .i64 B, .int .i64 C] 30)) := h.grow B0 h.1
  have U0 : UnitOK (w.alloc (.cells #[.int .i64 A, .int .i64 B, .int .i64 C] 30)) := Kq.call hU B0
  have L0c := L0.cells
  have HU := Lib.hid hU
  have CG := Lib.hid (groupOf_any f A B C A0 hn U0)
  have HN := Lib.hid hn
  clear h hn hU A0 U0
  unfold GrpPost at CG
  rcases hg : grpB f A B C xs with _ | _
  · have HV := Lib.hid (cc_bad (n := n) (show (nOk n && grpB f A B C xs) = false by rw [hg, Bool.and_false]))
    have hc := cod6_nz f A B C
    rw [hg] at CG
    clear hg
    generalize cod6 f A B C false = cc at CG hc HV
    have EA := Lib.hid (ret_val HV.out.symm)
    go_enter Tryz.func17, Tryz.ntmps17
    go_wp2_with fail
    refine CG.out.mono ?_
    rintro e w1 ⟨v1, rfl, _, hv, hb1⟩
    have hv1 := hv (by first | rfl | trivial)
    subst hv1
    have B1 := bstep B0 hb1
    clear hv hb1 B0 L0 L0c CG
    go_wp2
    go_ret2
    exact ⟨EA.out, B1⟩
  have HG := Lib.hid hg
  have hck := cod6_ok hg
  have hfl := (grp_ok hg).1
  rw [hg] at CG
  rw [hck] at CG
  have h7 : (xs.length : Int) ≤ 768 := by have := grp_len hg; omega
  rcases hno : nOk n with _ | _
  · have HV := Lib.hid (cc_bad (n := n) (show (nOk n && grpB f A B C xs) = false by rw [hno]; rfl))
    rw [show cod6 f A B C false = 2 from by unfold cod6; rw [hfl]; rfl] at HV
    have EA := Lib.hid (ret_val HV.out.symm)
    have HNO := Lib.hid hno
    clear hg hck hfl hno
    go_enter Tryz.func17, Tryz.ntmps17
    go_wp2_with fail
    refine CG.out.mono ?_
    rintro e w1 ⟨v1, rfl, _, _, hb1⟩
    have B1 := bstep B0 hb1
    clear hb1 B0 L0 L0c CG
    go_wp2_with fail
    refine (containsN_any _ n _ (Kq.at _ (by first | rfl | simp))).mono ?_
    rintro e w2 ⟨rfl, hb2⟩
    rw [HNO.out]
    have B2 : Below w.heap.size w w2 := bstep (Below.alloc B1 B1.size _) hb2
    clear hb2 B1
    go_wp2
    go_ret2
    exact ⟨EA.out, B2⟩
  have HV := Lib.hid (cc_good (n := n) (show (nOk n && grpB f A B C xs) = true by rw [hno, hg]; rfl))
  have EA := Lib.hid (ret_val HV.out.symm)
  have HNO := Lib.hid hno
  clear hg hck hfl hno HV
  go_enter Tryz.func17, Tryz.ntmps17
  go_wp2_with fail
  refine CG.out.mono ?_
  rintro e w1 ⟨v1, rfl, hr, _, hb1⟩
  have O1 := hr (by first | rfl | trivial)
  have S1 : SRow w.heap.size w1.heap.size 6 v1 xs.length (fm xs) w1 := SRow.big6 (ownsRow_lower O1 (by simp)) HN.out
  have B1 := bstep B0 hb1
  have U1 : UnitOK w1 := Kq.call HU.out B1
  have HS1 := Lib.hid S1
  obtain ⟨ao, cap, rfl⟩ := srow_shape S1
  clear hr hb1 B0 L0 L0c CG O1 S1
  go_wp2_with fail
  refine (containsN_any _ n _ (Kq.at _ (by first | rfl | simp))).mono ?_
  rintro e w2 ⟨rfl, hb2⟩
  rw [HNO.out]
  have B12 : Below w1.heap.size w1 w2 := bstep (Below.alloc (Below.refl _ _) (Nat.le_refl _) _) hb2
  clear hb2
  go_wp2_with fail
  go_loopw [30] (fun s30 W => ∃ k : Nat, s30 = .int .i64 (k : Int) ∧ k ≤ xs.length ∧ (∀ m ∈ xs.take k, rotQ n m = false) ∧ Below w1.heap.size w1 W) (fun s30 _ => xs.length - (intOf s30).toNat)
  case atStart => exact ⟨0, rfl, by omega, fun m hm => by simp at hm, B12⟩
  case round =>
    clear B12
    obtain ⟨k, rfl, hk, hall, hB⟩ := hrel
    have HALL := Lib.hid hall
    clear hall
    by_cases hk1 : k < xs.length
    · have HEL := Lib.hid (List.getElem_mem hk1)
      have hk2 : (k : Int) < (xs.length : Int) := by omega
      have hk3 : (k : Int) ≤ 768 := by omega
      have hres := HS1.out.2.2.resolve_left (fun h => by omega)
      have hhi := HS1.out.1
      obtain ⟨g, cap', e9, _, hg, RA⟩ := hres
      simp only [Value.slice.injEq, true_and] at e9
      obtain ⟨rfl, rfl⟩ := e9
      have q1 := (RA.grow hB (by omega)).mo k hk1
      have HT := Lib.hid (show xs.take (k + 1) = xs.take k ++ [xs[k]] from List.take_succ_eq_append_getElem hk1)
      have HTL := Lib.hid (show (xs.take k).length ≤ 768 by rw [List.length_take]; omega)
      have HK := Lib.hid hk1
      clear RA hg hhi hk
      generalize xs[k] = m at q1 HT HEL
      clear hk1
      obtain ⟨a, b, c, d, x, y⟩ := m
      dsimp only at q1
      obtain ⟨hmm, hrr, hdd, hok⟩ := grp_mot HG.out HEL.out
      have HMB := Lib.hid hmm
      have HLI := Lib.hid (matB_lim hmm)
      have U2 : UnitOK wr := Kq.call U1 hB
      have zB := hB.size
      have q1c := q1.cells
      have hgl := ko_lt q1
      have X0 : Km wr.heap.size a b c d x y (wr.alloc (.cells #[.int .i64 a, .int .i64 b, .int .i64 c, .int .i64 d, .int .i64 x, .int .i64 y] 79)) := Km.at _ rfl
      have U3 : UnitOK (wr.alloc (.cells #[.int .i64 a, .int .i64 b, .int .i64 c, .int .i64 d, .int .i64 x, .int .i64 y] 79)) := Kq.alloc U2 _
      have B3 : Below w1.heap.size w1 (wr.alloc (.cells #[.int .i64 a, .int .i64 b, .int .i64 c, .int .i64 d, .int .i64 x, .int .i64 y] 79)) := hB.alloc zB _
      clear hB U2
      rcases hdd with hd | hd
      · have HRB := Lib.hid (show reflB a b c d = false by rw [hrr, hd]; rfl)
        have HOE := ord_eq hmm
        by_cases ho : ordI a b c d = n
        · have HRQ := Lib.hid (show rotQ n (a, b, c, d, x, y) = true by unfold rotQ; simp [hd, ho])
          have HLEN := Lib.hid (cc_len HG.out HNO.out HEL.out HRQ.out)
          have HTR := Lib.hid (ord_tr hmm hd ho HNO.out).1
          have HOQ := Lib.hid (show ordT a b c d = n by rw [← HOE, ho])
          have HPL := Lib.hid (show (shP xs).length ≤ 768 from Nat.le_trans (shP_len xs) (grp_len HG.out))
          clear hmm hrr hd ho hok HOE HT HTL
          have X0c := X0.cells
          go_wp2_with fail
          refine (isReflection_any a b c d _ HLI.out).mono ?_
          rintro e w4 ⟨rfl, hb4⟩
          rw [HRB.out]
          have X4 := Km.call X0 hb4
          have B4 := bstep B3 hb4
          have U4 : UnitOK w4 := Kq.call U3 hb4
          clear hb4 X0 B3 X0c U3
          have X4c := X4.cells
          go_wp2_with fail
          refine (order_any a b c d _ HMB.out U4).mono ?_
          rintro e w5 ⟨rfl, hb5⟩
          rw [HOQ.out]
          have X5 := Km.call X4 hb5
          have B5 := bstep B4 hb5
          have U5 : UnitOK w5 := Kq.call U4 hb5
          clear hb5 X4 B4 X4c U4
          have X5c := X5.cells
          go_wp2_with fail
          refine (trace_any a b c d _ HLI.out).mono ?_
          rintro e w6 ⟨rfl, hb6⟩
          have B6 := bstep B5 hb6
          have U6 : UnitOK w6 := Kq.call U5 hb6
          clear hb6 X5 B5 X5c U5
          have CSH := Lib.hid (shiftsIn_any (HS1.out.grow B6 HS1.out.1) (grp_len HG.out) U6)
          obtain ⟨D, hD⟩ : ∃ D, D = 2 - (a + d) := ⟨_, rfl⟩
          obtain ⟨t, ht⟩ : ∃ t, t = a + d := ⟨_, rfl⟩
          rw [← ht]
          have hwD : IntKind.i64.wrap (2 - t) = D := by rw [ht, ← hD]; exact IntWalk.i64_in _ (by have := HTR.out; omega)
          have HDD := Lib.hid (show 1 ≤ D ∧ D ≤ 4 from by have := HTR.out; omega)
          have HL2 := Lib.hid (show ((putAllV (cenL A B C n xs)).length : Int) = D * ((shP xs).length : Int) from by rw [hD]; exact HLEN.out)
          obtain ⟨sl, hsl⟩ : ∃ z, z = (shP xs).length := ⟨_, rfl⟩
          have HSL := Lib.hid (fun (W : World) (v' : Value) (h : W.ownsRow w6.heap.size 53 2 v' (shP xs).length (cells2 (shP xs))) => (show ∃ (ao : Option Addr) (cap : Nat), v' = Value.slice ao sl cap from by rw [hsl]; exact own_len2 h))
          rw [← hsl] at HL2 HPL
          have hmul : 0 ≤ D * (sl : Int) ∧ D * (sl : Int) ≤ 3072 := by
            have h1 := HDD.out
            have h2 := HPL.out
            have e : D = 1 ∨ D = 2 ∨ D = 3 ∨ D = 4 := by omega
            rcases e with rfl | rfl | rfl | rfl <;> omega
          have hwm : IntKind.i64.wrap (D * (sl : Int)) = D * (sl : Int) := IntWalk.i64_in _ (by omega)
          clear hD ht hsl hmul HLEN HTR
          go_wp2_with fail
          refine CSH.out.mono ?_
          rintro e w7 ⟨v7, rfl, ho7, hb7⟩
          obtain ⟨ao7, cap7, rfl⟩ := HSL.out _ _ ho7
          have B7 := bstep B1 (show Below w1.heap.size w1 w7 from bstep B6 hb7)
          clear hb7 B6 U6 ho7 CSH HSL
          go_wp2
          go_ret2
          have h9 := EA.out
          rw [HL2.out] at h9
          exact ⟨h9, B7⟩
        · have HRQ := Lib.hid (show rotQ n (a, b, c, d, x, y) = false by unfold rotQ; simp [ho])
          obtain ⟨oi, hoi⟩ : ∃ z, z = ordT a b c d := ⟨_, rfl⟩
          have hne : (oi == n) = false := by rw [hoi, ← HOE]; simpa using ho
          have HOQ := Lib.hid hoi
          have HNXT := Lib.hid (show ∀ m ∈ xs.take (k + 1), rotQ n m = false from fun m hm => by
            rw [HT.out, List.mem_append] at hm
            rcases hm with hm | hm
            · exact HALL.out m hm
            · rw [List.mem_singleton] at hm; rw [hm]; exact HRQ.out)
          clear hmm hrr hd ho hok HOE HT HTL hoi
          have X0c := X0.cells
          go_wp2_with fail
          refine (isReflection_any a b c d _ HLI.out).mono ?_
          rintro e w4 ⟨rfl, hb4⟩
          rw [HRB.out]
          have X4 := Km.call X0 hb4
          have B4 := bstep B3 hb4
          have U4 : UnitOK w4 := Kq.call U3 hb4
          clear hb4 X0 B3 X0c U3
          have X4c := X4.cells
          go_wp2_with fail
          refine (order_any a b c d _ HMB.out U4).mono ?_
          rintro e w5 ⟨rfl, hb5⟩
          rw [← HOQ.out]
          have B5 := bstep B4 hb5
          clear hb5 X4 B4 X4c U4
          go_wp2
          go_roundw
          case rel => exact ⟨k + 1, by go_num, by have := HK.out; omega, HNXT.out, B5⟩
          case measure => (have := HK.out); first | (simp [intOf]; done) | (simp [intOf]; omega)
      · have HRB := Lib.hid (show reflB a b c d = true by rw [hrr, hd]; rfl)
        have HRQ := Lib.hid (show rotQ n (a, b, c, d, x, y) = false by unfold rotQ; simp [hd])
        have HNXT := Lib.hid (show ∀ m ∈ xs.take (k + 1), rotQ n m = false from fun m hm => by
          rw [HT.out, List.mem_append] at hm
          rcases hm with hm | hm
          · exact HALL.out m hm
          · rw [List.mem_singleton] at hm; rw [hm]; exact HRQ.out)
        clear hmm hrr hd hok HT HTL
        have X0c := X0.cells
        go_wp2_with fail
        refine (isReflection_any a b c d _ HLI.out).mono ?_
        rintro e w4 ⟨rfl, hb4⟩
        rw [HRB.out]
        have B4 := bstep B3 hb4
        clear hb4 X0 B3 X0c U3
        go_wp2
        go_roundw
        case rel => exact ⟨k + 1, by go_num, by have := HK.out; omega, HNXT.out, B4⟩
        case measure => (have := HK.out); first | (simp [intOf]; done) | (simp [intOf]; omega)
    · obtain rfl : k = xs.length := by omega
      have HZ := Lib.hid (cc_none (A := A) (B := B) (C := C) (n := n) (xs := xs) (fun m hm => HALL.out m (by rw [List.take_length]; exact hm)))
      have B9 := bstep B1 hB
      clear hk hk1 hB
      go_wp2
      go_ret2
      exact ⟨by rw [← EA.out, HZ.out]; rfl, B9⟩
end Go.Proofs.YtodkomaeljbhaaaGreatDoor
