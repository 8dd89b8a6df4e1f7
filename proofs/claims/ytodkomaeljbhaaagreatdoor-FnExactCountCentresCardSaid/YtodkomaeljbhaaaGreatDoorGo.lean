/-
  Several of my texts in one: Sh9, Df8.
-/
import Derived.Test.YtodkomaeljbhaaaGreatDoorGm
import Derived.Test.YtodkomaeljbhaaaGreatDoorMg6
import Derived.Deep.RegionHeld3
import Derived.IntWalk
import Derived.Test.YtodkomaeljbhaaaGreatDoorPl6
import Derived.Laws.IdiomCopy
namespace Go.Proofs.YtodkomaeljbhaaaGreatDoor
section
open Go.RowKit
set_option linter.unusedSimpArgs false
set_option linter.unusedVariables false

theorem own_block {W : World} {base n K : Nat} {T : TypeId} {v : Value} {l : List Value} (h : W.ownsRow base T K v n l) (hn : 0 < n) : ∃ g cap, v = .slice (some ⟨g, 0, none⟩) n cap ∧ base ≤ g ∧ n ≤ cap ∧ cap ≤ maxLen := by
  rcases h.2 with ⟨_, hz⟩ | ⟨g, cap, cur, h', hb, _, hc, hm, _⟩
  · omega
  · exact ⟨g, cap, h', hb, hc, hm⟩
theorem grp_pos {f A B C : Int} {xs : List M6} (h : grpB f A B C xs = true) : 0 < xs.length := List.length_pos_of_mem (grp_mem h).1
def isOne (m : M6) : Bool := eqM m.1 m.2.1 m.2.2.1 m.2.2.2.1 1 0 0 1
def shP (xs : List M6) : List (Int × Int) := (xs.filter isOne).map fun m => (m.2.2.2.2.1, m.2.2.2.2.2)
theorem shP_yes {xs : List M6} {k : Nat} {m : M6} (h : xs.take (k + 1) = xs.take k ++ [m]) (hm : isOne m = true) : shP (xs.take (k + 1)) = shP (xs.take k) ++ [(m.2.2.2.2.1, m.2.2.2.2.2)] := by
  rw [h]; simp [shP, List.filter_append, hm]
theorem shP_no {xs : List M6} {k : Nat} {m : M6} (h : xs.take (k + 1) = xs.take k ++ [m]) (hm : isOne m = false) : shP (xs.take (k + 1)) = shP (xs.take k) := by
  rw [h]; simp [shP, List.filter_append, hm]
theorem shP_len (xs : List M6) : (shP xs).length ≤ xs.length := by unfold shP; rw [List.length_map]; exact List.length_filter_le _ _
def shL (f A B C : Int) (xs : List M6) : List (Int × Int) := bif grpB f A B C xs then shP xs else []
theorem shL_len (f A B C : Int) (xs : List M6) : (shL f A B C xs).length ≤ 768 := by
  unfold shL
  rcases h : grpB f A B C xs with _ | _
  · simp
  · exact Nat.le_trans (shP_len xs) (grp_len h)
theorem isOne_model (a b c d x y : Int) : eqT4 a b c d 1 0 0 1 = isOne (a, b, c, d, x, y) := by
  rw [Bool.eq_iff_iff]
  simp [eqT4, isOne, eqM, and_assoc]
theorem SRow.big2 {lo : Nat} {xs : List (Int × Int)} {e : TypeId} {v : Value} {W : World} (h : W.ownsRow lo e 2 v xs.length (cells2 xs)) (hn : xs.length ≤ 1000000) : SRow lo W.heap.size 2 v xs.length (intAt (cells2 xs)) W := SRow.of h (cells2_int xs) hn
theorem LAns.bad {K n : Nat} {F : Nat → Int} {c c' : Int} {w w' : World} (hn : n = 0) (hc : c' = c) (hb : Below w.heap.size w w') : LAns K n F c w (.returned (.tuple #[.slice none 0 0, .int .i64 c'])) w' := by
  subst hn; exact LAns.nil hc hb
theorem cod6_cases (f A B C : Int) (xs : List M6) : (grpB f A B C xs = true ∧ cod6 f A B C (grpB f A B C xs) = 0) ∨ (grpB f A B C xs = false ∧ (cod6 f A B C (grpB f A B C xs) != 0) = true) := by
  rcases hG : grpB f A B C xs with _ | _
  · right
    refine ⟨rfl, ?_⟩
    rcases hF : flB f A B C with _ | _ <;> simp [cod6, hF]
  · left
    exact ⟨rfl, by simp [cod6, (grp_ok hG).1]⟩
attribute [local go_sem ↓] eqArr eqMa6
set_option maxRecDepth 100000 in
set_option maxHeartbeats 8000000 in
theorem shiftsIn_any {lo hi : Nat} {v : Value} {xs : List M6} {w1 : World} (h : SRow lo hi 6 v xs.length (fm xs) w1) (hn : xs.length ≤ 768) (hU : UnitOK w1) :
    Calls Tryz.prog 29 #[v] w1 fun e w' => ∃ v' : Value, e = .returned v' ∧ w'.ownsRow w1.heap.size 53 2 v' (shP xs).length (cells2 (shP xs)) ∧ Below w1.heap.size w1 w' := by
  obtain ⟨i0, hinf, hz0, hz1, hz2⟩ := info_parts infoVec
  have HS1 := Lib.hid h
  have H768 := Lib.hid hn
  have h7 : (xs.length : Int) ≤ 768 := by omega
  have U1 : UnitOK w1 := hU
  obtain ⟨ao, cap, rfl⟩ := srow_shape h
  clear h hn
  go_enter Tryz.func29, Tryz.ntmps29
  go_wp2_with fail
  go_loopw [3, 8] (fun s3 s8 W => ∃ k : Nat, s8 = .int .i64 (k : Int) ∧ k ≤ xs.length ∧ W.ownsRow w1.heap.size 53 2 s3 (shP (xs.take k)).length (cells2 (shP (xs.take k))) ∧ Below w1.heap.size w1 W) (fun _ s8 _ => xs.length - (intOf s8).toNat)
  case atStart => exact ⟨0, rfl, by omega, World.ownsRow_nil _ _ _ _, Below.refl _ _⟩
  case round =>
    obtain ⟨k, rfl, hk, hown, hB⟩ := hrel
    by_cases hk1 : k < xs.length
    · have HPL := Lib.hid (shP_len (xs.take k))
      have hk2 : (k : Int) < (xs.length : Int) := by omega
      have hk3 : (k : Int) ≤ 768 := by omega
      have hres := HS1.out.2.2.resolve_left (fun h => by omega)
      have hhi := HS1.out.1
      obtain ⟨g, cap', e9, _, hg, RA⟩ := hres
      simp only [Value.slice.injEq, true_and] at e9
      obtain ⟨rfl, rfl⟩ := e9
      have q1 := (RA.grow hB (by omega)).mo k hk1
      have HT := Lib.hid (show xs.take (k + 1) = xs.take k ++ [xs[k]] from List.take_succ_eq_append_getElem hk1)
      have HTL := Lib.hid (show (xs.take k).length ≤ 768 by rw [List.length_take]; omega)
      have HK := Lib.hid hk1
      clear RA hg hhi hk
      generalize xs[k] = m at q1 HT
      clear hk1
      obtain ⟨a, b, c, d, x, y⟩ := m
      dsimp only at q1
      have U2 : UnitOK wr := Kq.call U1 hB
      have HY := Lib.hid (fun h => shP_yes HT.out h)
      have HN2 := Lib.hid (fun h => shP_no HT.out h)
      have HPT : Hid ((shP (xs.take k)).length ≤ 768) := Lib.hid (Nat.le_trans HPL.out HTL.out)
      generalize shP (xs.take k) = ys at hown HY HN2 HPT
      clear HPL HTL
      have zB := hB.size
      have q1c := q1.cells
      have X0 : KM wr.heap.size a b c d x y (wr.alloc (.cells #[.int .i64 a, .int .i64 b, .int .i64 c, .int .i64 d, .int .i64 x, .int .i64 y] 79)) := KM.at _ rfl
      have U3 : UnitOK (wr.alloc (.cells #[.int .i64 a, .int .i64 b, .int .i64 c, .int .i64 d, .int .i64 x, .int .i64 y] 79)) := Kq.alloc U2 _
      have O3 := World.ownsRow.alloc hown (.cells #[.int .i64 a, .int .i64 b, .int .i64 c, .int .i64 d, .int .i64 x, .int .i64 y] 79)
      have B3 : Below w1.heap.size w1 (wr.alloc (.cells #[.int .i64 a, .int .i64 b, .int .i64 c, .int .i64 d, .int .i64 x, .int .i64 y] 79)) := hB.alloc zB _
      have X0c := X0.cells5
      obtain ⟨u0, u1, u2, u3, u4⟩ := id U3
      have un : ¬ 0 = wr.heap.size := by have := U2.1; omega
      have z3 : (wr.alloc (.cells #[.int .i64 a, .int .i64 b, .int .i64 c, .int .i64 d, .int .i64 x, .int .i64 y] 79)).heap.size = wr.heap.size + 1 := by simp
      clear hown hB
      rcases ho : isOne (a, b, c, d, x, y) with _ | _
      · have he : eqM a b c d 1 0 0 1 = false := ho
        have HQ := Lib.hid (HN2.out ho)
        clear HY HN2 ho
        go_wp2_with fail
        go_wp2
        go_roundw
        case rel => exact ⟨k + 1, by go_num, by have := HK.out; omega, by rw [HQ.out]; exact O3, B3⟩
        case measure => (have := HK.out); first | (simp [intOf]; done) | (simp [intOf]; omega)
      · have he : eqM a b c d 1 0 0 1 = true := ho
        have HQ := Lib.hid (HY.out ho)
        clear HY HN2 ho
        go_wp2_with (at_builtin; refine wpList_append_own _ rfl _ _ 41 rfl w1.heap.size 53 i0 (.agg #[.int .i64 0, .int .i64 0]) 2 16 Tryz.underlying41 hinf hz0 hz1 hz2 rfl (by decide) _ _ _ rfl (O3.alloc _) ⟨wr.heap.size + 1, 0, none⟩ 1 1 [.int .i64 x, .int .i64 y] rfl rfl (new_two _ _ _ (by simp)) one_two (by have := HPT.out; unfold maxLen; omega) (by have := HPT.out; omega) (by (try simp); omega) ?_; intro v9 w9 hown9 hgrow _)
        have O9 := own_next2 hown9
        have B9 : Below w1.heap.size w1 w9 := Below.grown (Below.alloc B3 (by simp; omega) _) hgrow (by simp; omega) (fun r hr => by have := (O3.lt r hr).1; omega)
        clear hown9 hgrow O3 B3
        go_wp2
        go_roundw
        case rel => exact ⟨k + 1, by go_num, by have := HK.out; omega, by rw [HQ.out]; exact O9, B9⟩
        case measure => (have := HK.out); first | (simp [intOf]; done) | (simp [intOf]; omega)
    · obtain rfl : k = xs.length := by omega
      rw [List.take_length] at hown
      clear hk hk1
      go_wp2
      go_ret
      exact ⟨_, rfl, hown, hB⟩
set_option maxRecDepth 100000 in
set_option maxHeartbeats 8000000 in
theorem implShifts_any {lo hi : Nat} {v : Value} {xs : List M6} {w : World} (f A B C : Int) (h : SRow lo hi 6 v xs.length (fm xs) w) (hn : xs.length ≤ 1048576) (hU : UnitOK w) :
    Calls Tryz.prog 19 #[.int .i64 f, .agg #[.int .i64 A, .int .i64 B, .int .i64 C], v] w (LAns 2 (shL f A B C xs).length (intAt (cells2 (shL f A B C xs))) (cod6 f A B C (grpB f A B C xs)) w) := by
  have HN := Lib.hid hn
  have L0 : Kt w.heap.size A B C (w.alloc (.cells #[.int .i64 A, .int .i64 B, .int .i64 C] 30)) := Kt.at _ rfl
  have B0 : Below w.heap.size w (w.alloc (.cells #[.int .i64 A, .int .i64 B, .int .i64 C] 30)) := (Below.refl _ _).alloc (Nat.le_refl _) _
  have A0 : SRow lo hi 6 v xs.length (fm xs) (w.alloc (.cells #[.int .i64 A, .int .i64 B, .int .i64 C] 30)) := h.grow ((Below.refl w.heap.size w).alloc (Nat.le_refl _) _) h.1
  have U0 : UnitOK (w.alloc (.cells #[.int .i64 A, .int .i64 B, .int .i64 C] 30)) := Kq.alloc hU _
  have L0c := L0.cells
  have HU := Lib.hid hU
  have CG := Lib.hid (groupOf_any f A B C A0 hn U0)
  clear h hn hU A0 U0
  rcases cod6_cases f A B C xs with ⟨hg, hc⟩ | ⟨hg, hc⟩
  case inr =>
    have HG := Lib.hid hg
    have HZ := Lib.hid (show (shL f A B C xs).length = 0 by simp [shL, hg])
    obtain ⟨cz, hcz⟩ : ∃ cz, cz = cod6 f A B C (grpB f A B C xs) := ⟨_, rfl⟩
    rw [← hcz]
    have HC := Lib.hid hcz.symm
    clear hg hcz
    go_enter Tryz.func19, Tryz.ntmps19
    go_wp2_with fail
    refine CG.out.mono ?_
    rintro e w1 ⟨v1, rfl, _, hv, hb1⟩
    have hv1 := hv HG.out
    subst hv1
    have B1 := bstep B0 hb1
    clear hv hb1 B0 L0 L0c CG
    generalize cod6 f A B C (grpB f A B C xs) = cc at hc HC
    go_wp2
    go_ret2
    exact LAns.bad HZ.out HC.out B1
  have HG := Lib.hid hg
  have HC := Lib.hid hc
  clear hg hc
  go_enter Tryz.func19, Tryz.ntmps19
  go_wp2_with fail
  refine CG.out.mono ?_
  rintro e w1 ⟨v1, rfl, hr, _, hb1⟩
  rw [HC.out]
  have O1 := hr HG.out
  have S1 : SRow w.heap.size w1.heap.size 6 v1 xs.length (fm xs) w1 := SRow.big6 (ownsRow_lower O1 (by simp)) HN.out
  have B1 := bstep B0 hb1
  have U1 : UnitOK w1 := Kq.call HU.out B1
  have L1 := L0.call hb1
  have HS1 := Lib.hid S1
  have H768 := Lib.hid (grp_len HG.out)
  have h7 : (xs.length : Int) ≤ 768 := by have := H768.out; omega
  obtain ⟨ao, cap, rfl⟩ := srow_shape S1
  clear hr hb1 B0 L0 L0c CG O1 S1
  have CS := Lib.hid (shiftsIn_any HS1.out (grp_len HG.out) U1)
  have e : shL f A B C xs = shP xs := by simp [shL, HG.out]
  have HEE := Lib.hid e
  clear e h7 H768
  go_wp2_with fail
  refine CS.out.mono ?_
  rintro e w2 ⟨v2, rfl, ho2, hb2⟩
  have B2 := bstep B1 hb2
  have S9 : SRow w.heap.size w2.heap.size 2 v2 (shL f A B C xs).length (intAt (cells2 (shL f A B C xs))) w2 := by rw [HEE.out]; exact SRow.big2 (ownsRow_lower ho2 B1.size) (by have := shP_len xs; have := grp_len HG.out; omega)
  have HS9 := Lib.hid S9
  clear S9 ho2 hb2 CS HS1 L1 U1
  go_wp2
  go_ret2
  exact ⟨_, ret_pair (by rfl) HC.out.symm, HS9.out, B2⟩
set_option maxRecDepth 100000 in
set_option maxHeartbeats 8000000 in
theorem l06Shifts_any {lo hi : Nat} {v : Value} {xs : List M6} {w : World} (h : SRow lo hi 6 v xs.length (fm xs) w) (hn : xs.length ≤ 768) :
    Calls Tryz.prog 25 #[v] w fun e w' => ∃ v' : Value, e = .returned v' ∧ w'.ownsRow w.heap.size 53 2 v' (shP xs).length (cells2 (shP xs)) ∧ Below w.heap.size w w' := by
  obtain ⟨i0, hinf, hz0, hz1, hz2⟩ := info_parts infoVec
  have HS1 := Lib.hid h
  have H768 := Lib.hid hn
  have h7 : (xs.length : Int) ≤ 768 := by omega
  obtain ⟨ao, cap, rfl⟩ := srow_shape h
  have B0 : Below w.heap.size w (w.alloc (.cells #[] 53)) := (Below.refl _ _).alloc (Nat.le_refl _) _
  have O0 : (w.alloc (.cells #[] 53)).ownsRow w.heap.size 53 2 (.slice (some ⟨w.heap.size, 0, none⟩) 0 0) (shP (xs.take 0)).length (cells2 (shP (xs.take 0))) := World.ownsRow_lit (base := w.heap.size) (e := 53) (size := 2) w #[] 0 (Nat.le_refl _) (by unfold maxLen; omega) rfl
  clear h hn
  go_enter Tryz.func25, Tryz.ntmps25
  go_wp2_with fail
  go_loopw [3, 4] (fun s3 s4 W => ∃ k : Nat, s4 = .int .i64 (k : Int) ∧ k ≤ xs.length ∧ W.ownsRow w.heap.size 53 2 s3 (shP (xs.take k)).length (cells2 (shP (xs.take k))) ∧ Below w.heap.size w W) (fun _ s4 _ => xs.length - (intOf s4).toNat)
  case atStart => exact ⟨0, rfl, by omega, O0, B0⟩
  case round =>
    clear O0 B0
    obtain ⟨k, rfl, hk, hown, hB⟩ := hrel
    by_cases hk1 : k < xs.length
    · have HPL := Lib.hid (shP_len (xs.take k))
      have hk2 : (k : Int) < (xs.length : Int) := by omega
      have hk3 : (k : Int) ≤ 768 := by omega
      have hres := HS1.out.2.2.resolve_left (fun h => by omega)
      have hhi := HS1.out.1
      obtain ⟨g, cap', e9, _, hg, RA⟩ := hres
      simp only [Value.slice.injEq, true_and] at e9
      obtain ⟨rfl, rfl⟩ := e9
      have q1 := (RA.grow hB (by omega)).mo k hk1
      have HT := Lib.hid (show xs.take (k + 1) = xs.take k ++ [xs[k]] from List.take_succ_eq_append_getElem hk1)
      have HTL := Lib.hid (show (xs.take k).length ≤ 768 by rw [List.length_take]; omega)
      have HK := Lib.hid hk1
      clear RA hg hhi hk
      generalize xs[k] = m at q1 HT
      clear hk1
      obtain ⟨a, b, c, d, x, y⟩ := m
      dsimp only at q1
      have HY := Lib.hid (fun h => shP_yes HT.out h)
      have HN2 := Lib.hid (fun h => shP_no HT.out h)
      have HPT : Hid ((shP (xs.take k)).length ≤ 768) := Lib.hid (Nat.le_trans HPL.out HTL.out)
      generalize shP (xs.take k) = ys at hown HY HN2 HPT
      clear HPL HTL
      have zB := hB.size
      have q1c := q1.cells
      have hgl := ko_lt q1
      have HE := isOne_model a b c d x y
      rcases ho : isOne (a, b, c, d, x, y) with _ | _
      · rw [ho] at HE
        have HQ := Lib.hid (HN2.out ho)
        clear HY HN2 ho
        go_wp2_with fail
        go_region_held3 (fun W => (W.cell? ⟨g, k * 6, none⟩ = some (.int .i64 a) ∧ W.cell? ⟨g, k * 6 + 1, none⟩ = some (.int .i64 b) ∧ W.cell? ⟨g, k * 6 + 2, none⟩ = some (.int .i64 c) ∧ W.cell? ⟨g, k * 6 + 3, none⟩ = some (.int .i64 d) ∧ W.cell? ⟨g, k * 6 + 4, none⟩ = some (.int .i64 x) ∧ W.cell? ⟨g, k * 6 + 5, none⟩ = some (.int .i64 y))) ((refine Ko6.cells ?_) <;> repeat (first | with_reducible assumption | with_reducible refine Ko6.drew ?_ | with_reducible refine Ko6.alloc ?_ _ | with_reducible refine Ko6.call ?_ (by with_reducible assumption)))
          (first
            | (go_at_call 45; with_reducible refine (l02Unit_any _).mono ?_; rintro e u1 ⟨rfl, hb1⟩; have X1 : Ko6 g (k * 6) a b c d x y u1 := (by repeat (first | with_reducible assumption | with_reducible refine Ko6.drew ?_ | with_reducible refine Ko6.alloc ?_ _ | with_reducible refine Ko6.call ?_ (by with_reducible assumption))); have O1 : u1.ownsRow w.heap.size 53 2 u3 ys.length (cells2 ys) := (by repeat (first | with_reducible assumption | with_reducible refine ownsRow_call ?_ (by with_reducible assumption) | with_reducible refine ownsRow_call ?_ (Below.drew (Below.refl _ _)) | with_reducible refine ownsRow_call ?_ (Below.alloc (Below.refl _ _) (Nat.le_refl _) _))); have B1 : Below w.heap.size w u1 := (by repeat (first | with_reducible assumption | with_reducible exact Below.refl _ _ | with_reducible refine Below.alloc ?_ (by first | omega | (simp <;> omega)) _ | with_reducible refine bstep ?_ (by with_reducible assumption) | with_reducible refine Below.drew ?_))))
        all_goals
          go_wp2
          go_roundw
          case rel => exact ⟨k + 1, by go_num, by have := HK.out; omega, by rw [HQ.out]; repeat (first | with_reducible assumption | with_reducible refine ownsRow_call ?_ (by with_reducible assumption) | with_reducible refine ownsRow_call ?_ (Below.drew (Below.refl _ _)) | with_reducible refine ownsRow_call ?_ (Below.alloc (Below.refl _ _) (Nat.le_refl _) _)), by repeat (first | with_reducible assumption | with_reducible exact Below.refl _ _ | with_reducible refine Below.alloc ?_ (by first | omega | (simp <;> omega)) _ | with_reducible refine bstep ?_ (by with_reducible assumption) | with_reducible refine Below.drew ?_)⟩
          case measure => (have := HK.out); first | (simp [intOf]; done) | (simp [intOf]; omega)
      · rw [ho] at HE
        have HQ := Lib.hid (HY.out ho)
        clear HY HN2 ho
        go_wp2_with fail
        go_region_held3 (fun W => (W.cell? ⟨g, k * 6, none⟩ = some (.int .i64 a) ∧ W.cell? ⟨g, k * 6 + 1, none⟩ = some (.int .i64 b) ∧ W.cell? ⟨g, k * 6 + 2, none⟩ = some (.int .i64 c) ∧ W.cell? ⟨g, k * 6 + 3, none⟩ = some (.int .i64 d) ∧ W.cell? ⟨g, k * 6 + 4, none⟩ = some (.int .i64 x) ∧ W.cell? ⟨g, k * 6 + 5, none⟩ = some (.int .i64 y))) ((refine Ko6.cells ?_) <;> repeat (first | with_reducible assumption | with_reducible refine Ko6.drew ?_ | with_reducible refine Ko6.alloc ?_ _ | with_reducible refine Ko6.call ?_ (by with_reducible assumption)))
          (first
            | (go_at_call 45; with_reducible refine (l02Unit_any _).mono ?_; rintro e u1 ⟨rfl, hb1⟩; have X1 : Ko6 g (k * 6) a b c d x y u1 := (by repeat (first | with_reducible assumption | with_reducible refine Ko6.drew ?_ | with_reducible refine Ko6.alloc ?_ _ | with_reducible refine Ko6.call ?_ (by with_reducible assumption))); have O1 : u1.ownsRow w.heap.size 53 2 u3 ys.length (cells2 ys) := (by repeat (first | with_reducible assumption | with_reducible refine ownsRow_call ?_ (by with_reducible assumption) | with_reducible refine ownsRow_call ?_ (Below.drew (Below.refl _ _)) | with_reducible refine ownsRow_call ?_ (Below.alloc (Below.refl _ _) (Nat.le_refl _) _))); have B1 : Below w.heap.size w u1 := (by repeat (first | with_reducible assumption | with_reducible exact Below.refl _ _ | with_reducible refine Below.alloc ?_ (by first | omega | (simp <;> omega)) _ | with_reducible refine bstep ?_ (by with_reducible assumption) | with_reducible refine Below.drew ?_))))
        all_goals
          have X2 : Ko6 g (k * 6) a b c d x y u1 := X1
          have O2 := O1
          have B2 := B1
          have X2c := X2.cells
          clear X1 O1 B1 q1 q1c hown hB
          have z2 := B2.size
          go_wp2_with (at_builtin; refine wpList_append_own _ rfl _ _ 41 rfl w.heap.size 53 i0 (.agg #[.int .i64 0, .int .i64 0]) 2 16 Tryz.underlying41 hinf hz0 hz1 hz2 rfl (by decide) _ _ _ rfl (O2.alloc _) ⟨_, 0, none⟩ 1 1 [.int .i64 x, .int .i64 y] rfl rfl (new_two _ _ _ (by first | rfl | simp)) one_two (by have := HPT.out; unfold maxLen; omega) (by have := HPT.out; omega) (by (try simp); omega) ?_; intro v9 w9 hown9 hgrow _)
          have O9 := own_next2 hown9
          have B9 : Below w.heap.size w w9 := Below.grown (Below.alloc B2 (by omega) _) hgrow (by simp; omega) (fun r hr => by have := (O2.lt r hr).1; omega)
          clear hown9 hgrow O2 B2
          go_wp2
          go_roundw
          case rel => exact ⟨k + 1, by go_num, by have := HK.out; omega, by rw [HQ.out]; exact O9, B9⟩
          case measure => (have := HK.out); first | (simp [intOf]; done) | (simp [intOf]; omega)
    · obtain rfl : k = xs.length := by omega
      rw [List.take_length] at hown
      clear hk hk1
      go_wp2
      go_ret
      exact ⟨_, rfl, hown, hB⟩

set_option maxRecDepth 100000 in
set_option maxHeartbeats 8000000 in
theorem specShifts_any {lo hi : Nat} {v : Value} {xs : List M6} {w : World} (f A B C : Int) (h : SRow lo hi 6 v xs.length (fm xs) w) (hn : xs.length ≤ 1048576) :
    Calls Tryz.prog 18 #[.int .i64 f, .agg #[.int .i64 A, .int .i64 B, .int .i64 C], v] w (LAns 2 (shL f A B C xs).length (intAt (cells2 (shL f A B C xs))) (cod6 f A B C (grpB f A B C xs)) w) := by
  have HN := Lib.hid hn
  have HA := Lib.hid h
  have L0 : Kt w.heap.size A B C (w.alloc (.cells #[.int .i64 A, .int .i64 B, .int .i64 C] 30)) := Kt.at _ rfl
  have B0 : Below w.heap.size w (w.alloc (.cells #[.int .i64 A, .int .i64 B, .int .i64 C] 30)) := (Below.refl _ _).alloc (Nat.le_refl _) _
  have L0c := L0.cells
  have CG : Hid (∀ W, Below w.heap.size w W → Calls Tryz.prog 43 #[.int .i64 f, .agg #[.int .i64 A, .int .i64 B, .int .i64 C], v] W fun e w' => e = .returned (.bool (grpB f A B C xs)) ∧ Below W.heap.size W w') := Lib.hid (fun W hW => specIsGroup_any f A B C (HA.out.grow hW HA.out.1) HN.out)
  have CC := Lib.hid (fun W => l06Code_any f A B C (grpB f A B C xs) W)
  clear h hn
  have hcc := cod6_cases f A B C xs
  obtain ⟨cz, hcz⟩ : ∃ cz, cz = cod6 f A B C (grpB f A B C xs) := ⟨_, rfl⟩
  rw [← hcz]
  have HC := Lib.hid hcz.symm
  clear hcz
  rcases hcc with ⟨hg, hc⟩ | ⟨hg, hc⟩
  case inr =>
    have HZ := Lib.hid (show (shL f A B C xs).length = 0 by simp [shL, hg])
    clear hg
    generalize grpB f A B C xs = gb at CG CC HC hc
    generalize cod6 f A B C gb = cc at CC HC hc
    go_enter Tryz.func18, Tryz.ntmps18
    go_wp2_with fail
    go_region_held3 (fun W => (W.cell? ⟨w.heap.size, 0, none⟩ = some (.int .i64 A) ∧ W.cell? ⟨w.heap.size, 1, none⟩ = some (.int .i64 B) ∧ W.cell? ⟨w.heap.size, 2, none⟩ = some (.int .i64 C))) ((refine Kt.cells ?_) <;> repeat (first | with_reducible assumption | with_reducible refine Kt.drew ?_ | with_reducible refine Kt.alloc ?_ _ | with_reducible refine Kt.call ?_ (by with_reducible assumption)))
      (first
        | (go_at_call 43; with_reducible refine (CG.out _ (by repeat (first | with_reducible assumption | with_reducible exact Below.refl _ _ | with_reducible refine Below.alloc ?_ (by first | omega | (simp <;> omega)) _ | with_reducible refine bstep ?_ (by with_reducible assumption) | with_reducible refine Below.drew ?_))).mono ?_; rintro e u1 ⟨rfl, hb1⟩; have L1 : Kt w.heap.size A B C u1 := (by repeat (first | with_reducible assumption | with_reducible refine Kt.drew ?_ | with_reducible refine Kt.alloc ?_ _ | with_reducible refine Kt.call ?_ (by with_reducible assumption))); have B1 : Below w.heap.size w u1 := (by repeat (first | with_reducible assumption | with_reducible exact Below.refl _ _ | with_reducible refine Below.alloc ?_ (by first | omega | (simp <;> omega)) _ | with_reducible refine bstep ?_ (by with_reducible assumption) | with_reducible refine Below.drew ?_)))
        | (go_at_call 42; with_reducible refine (CC.out _).mono ?_; rintro e u2 ⟨rfl, hb2⟩; have L2 : Kt w.heap.size A B C u2 := (by repeat (first | with_reducible assumption | with_reducible refine Kt.drew ?_ | with_reducible refine Kt.alloc ?_ _ | with_reducible refine Kt.call ?_ (by with_reducible assumption))); have B2 : Below w.heap.size w u2 := (by repeat (first | with_reducible assumption | with_reducible exact Below.refl _ _ | with_reducible refine Below.alloc ?_ (by first | omega | (simp <;> omega)) _ | with_reducible refine bstep ?_ (by with_reducible assumption) | with_reducible refine Below.drew ?_))))
    all_goals
      go_wp2
      go_ret2
      exact LAns.bad HZ.out HC.out (by repeat (first | with_reducible assumption | with_reducible exact Below.refl _ _ | with_reducible refine Below.alloc ?_ (by first | omega | (simp <;> omega)) _ | with_reducible refine bstep ?_ (by with_reducible assumption) | with_reducible refine Below.drew ?_))
  have HG := Lib.hid hg
  have HCZ : Hid (cz = 0) := Lib.hid (HC.out.symm.trans hc)
  rw [hc] at CC
  rw [hg] at CG CC
  clear hg hc HC
  go_enter Tryz.func18, Tryz.ntmps18
  go_wp2_with fail
  go_region_held3 (fun W => (W.cell? ⟨w.heap.size, 0, none⟩ = some (.int .i64 A) ∧ W.cell? ⟨w.heap.size, 1, none⟩ = some (.int .i64 B) ∧ W.cell? ⟨w.heap.size, 2, none⟩ = some (.int .i64 C))) ((refine Kt.cells ?_) <;> repeat (first | with_reducible assumption | with_reducible refine Kt.drew ?_ | with_reducible refine Kt.alloc ?_ _ | with_reducible refine Kt.call ?_ (by with_reducible assumption)))
    (first
      | (go_at_call 43; with_reducible refine (CG.out _ (by repeat (first | with_reducible assumption | with_reducible exact Below.refl _ _ | with_reducible refine Below.alloc ?_ (by first | omega | (simp <;> omega)) _ | with_reducible refine bstep ?_ (by with_reducible assumption) | with_reducible refine Below.drew ?_))).mono ?_; rintro e u1 ⟨rfl, hb1⟩; have L1 : Kt w.heap.size A B C u1 := (by repeat (first | with_reducible assumption | with_reducible refine Kt.drew ?_ | with_reducible refine Kt.alloc ?_ _ | with_reducible refine Kt.call ?_ (by with_reducible assumption))); have B1 : Below w.heap.size w u1 := (by repeat (first | with_reducible assumption | with_reducible exact Below.refl _ _ | with_reducible refine Below.alloc ?_ (by first | omega | (simp <;> omega)) _ | with_reducible refine bstep ?_ (by with_reducible assumption) | with_reducible refine Below.drew ?_)))
      | (go_at_call 42; with_reducible refine (CC.out _).mono ?_; rintro e u2 ⟨rfl, hb2⟩; have L2 : Kt w.heap.size A B C u2 := (by repeat (first | with_reducible assumption | with_reducible refine Kt.drew ?_ | with_reducible refine Kt.alloc ?_ _ | with_reducible refine Kt.call ?_ (by with_reducible assumption))); have B2 : Below w.heap.size w u2 := (by repeat (first | with_reducible assumption | with_reducible exact Below.refl _ _ | with_reducible refine Below.alloc ?_ (by first | omega | (simp <;> omega)) _ | with_reducible refine bstep ?_ (by with_reducible assumption) | with_reducible refine Below.drew ?_))))
  all_goals
    have B3 : Below w.heap.size w u2 := B2
    have S3 := HA.out.grow B3 HA.out.1
    clear L1 B1 L2 B2 L0 B0 L0c
    go_wp2_with fail
    refine (l06Shifts_any S3 (grp_len HG.out)).mono ?_
    rintro e w5 ⟨v5, rfl, hr5, hb5⟩
    have z3 := B3.size
    have B5 := bstep B3 hb5
    go_wp2
    go_ret2
    exact ⟨_, ret_pair (by rfl) HCZ.out.symm, (by rw [show shL f A B C xs = shP xs by simp [shL, HG.out]]; exact SRow.big2 (ownsRow_lower hr5 z3) (by have := shP_len xs; have := grp_len HG.out; omega)), B5⟩
end
end Go.Proofs.YtodkomaeljbhaaaGreatDoor

namespace Go.Proofs.YtodkomaeljbhaaaGreatDoor
section
open Go.RowKit
set_option linter.unusedSimpArgs false
set_option linter.unusedVariables false

/- what a closure on motions does: it answers O m in each world that keeps Inv, and leaves what was there -/
def Pred6 (gf : Nat) (lb : Array Value) (O : M6 → Bool) (L : List M6) (Inv : World → Prop) : Prop :=
  ∀ (a b c d x y : Int) (W : World), (a, b, c, d, x, y) ∈ L → Inv W → Calls Tryz.prog gf (#[.agg #[.int .i64 a, .int .i64 b, .int .i64 c, .int .i64 d, .int .i64 x, .int .i64 y]] ++ lb) W fun e w' => e = .returned (.bool (O (a, b, c, d, x, y))) ∧ Below W.heap.size W w'
/- an invariant that only looks at blocks other than g -/
def Stays (g : Nat) (Inv : World → Prop) : Prop := (∀ W w1, Inv W → Below W.heap.size W w1 → Inv w1) ∧ ∀ W p u, p.block = g → Inv W → Inv (W.setCell p u)
def firstOut6 (O : M6 → Bool) (L : List M6) (e : Ending) : Prop :=
  (∃ (k : Nat) (h : k < L.length), e = .returned (.int .i64 (k : Int)) ∧ O L[k] = true ∧ ∀ v ∈ L.take k, O v = false) ∨ (e = .returned (.int .i64 (-1)) ∧ ∀ v ∈ L, O v = false)
structure Cmp6 (O : M6 → Bool) (L N : List M6) (j : Nat) : Prop where
  ij : N.length < j
  pre : N = (L.take j).filter (fun v => !O v)
theorem Cmp6.start {O : M6 → Bool} {L : List M6} {k : Nat} (hk : k < L.length) (ho : O L[k] = true) (hb : ∀ v ∈ L.take k, O v = false) : Cmp6 O L (L.take k) (k + 1) := by
  refine ⟨by rw [List.length_take]; omega, ?_⟩
  rw [List.take_succ_eq_append_getElem hk, List.filter_append, List.filter_eq_self.2 (fun v hv => by rw [hb v hv]; rfl)]
  simp [ho]
theorem Cmp6.skip {O : M6 → Bool} {L N : List M6} {j : Nat} (h : Cmp6 O L N j) (hj : j < L.length) (ho : O L[j] = true) : Cmp6 O L N (j + 1) := by
  refine ⟨by have := h.ij; omega, ?_⟩
  rw [List.take_succ_eq_append_getElem hj, List.filter_append, ← h.pre]
  simp [ho]
theorem Cmp6.keep {O : M6 → Bool} {L N : List M6} {j : Nat} (h : Cmp6 O L N j) (hj : j < L.length) (ho : O L[j] = false) : Cmp6 O L (N ++ [L[j]]) (j + 1) := by
  refine ⟨by have := h.ij; simp; omega, ?_⟩
  rw [List.take_succ_eq_append_getElem hj, List.filter_append, ← h.pre]
  simp [ho]
theorem at6_take {L : List M6} {k c : Nat} (hk : k ≤ L.length) (hc : c < k * 6) : fm (L.take k) c = fm L c := by
  have h1 : c / 6 < (L.take k).length := by rw [List.length_take]; omega
  have h2 : c / 6 < L.length := by omega
  obtain ⟨a0, a1, a2, a3, a4, a5⟩ := fm_get (L.take k) (c / 6) h1
  obtain ⟨b0, b1, b2, b3, b4, b5⟩ := fm_get L (c / 6) h2
  have e : (L.take k)[c / 6] = L[c / 6] := List.getElem_take
  rw [e] at a0 a1 a2 a3 a4 a5
  have hm : c = c / 6 * 6 ∨ c = c / 6 * 6 + 1 ∨ c = c / 6 * 6 + 2 ∨ c = c / 6 * 6 + 3 ∨ c = c / 6 * 6 + 4 ∨ c = c / 6 * 6 + 5 := by omega
  rcases hm with h | h | h | h | h | h <;> rw [h] <;> simp only [a0, a1, a2, a3, a4, a5, b0, b1, b2, b3, b4, b5]
theorem at6_snoc {L : List M6} {m : M6} {c : Nat} (hc : c < L.length * 6) : fm (L ++ [m]) c = fm L c := by
  have h := at6_take (L := L ++ [m]) (k := L.length) (c := c) (by simp) hc
  rw [← h, List.take_left']
  rfl
theorem at6_last {L : List M6} {m : M6} : fm (L ++ [m]) (L.length * 6) = m.1 ∧ fm (L ++ [m]) (L.length * 6 + 1) = m.2.1 ∧ fm (L ++ [m]) (L.length * 6 + 2) = m.2.2.1 ∧ fm (L ++ [m]) (L.length * 6 + 3) = m.2.2.2.1 ∧ fm (L ++ [m]) (L.length * 6 + 4) = m.2.2.2.2.1 ∧ fm (L ++ [m]) (L.length * 6 + 5) = m.2.2.2.2.2 := by
  have h := fm_get (L ++ [m]) L.length (by simp)
  simpa using h
def delF (L N : List M6) (c : Nat) : Int := if c < N.length * 6 then fm N c else fm L c
theorem belowS6 {B : Nat} {a : World} (b : Nat) (hb : B ≤ b) : ∀ (vs : List Value) (o : Nat) {w : World}, Below B a w → Below B a (w.setCells b o vs)
  | [], _, _, h => h
  | v :: r, o, _, h => belowS6 b hb r (o + 1) (h.setCell (p := ⟨b, o, none⟩) hb v)
theorem staysS6 {g : Nat} {Inv : World → Prop} (hS : Stays g Inv) : ∀ (vs : List Value) (o : Nat) {w : World}, Inv w → Inv (w.setCells g o vs)
  | [], _, _, h => h
  | v :: r, o, _, h => staysS6 hS r (o + 1) (hS.2 _ ⟨g, o, none⟩ v rfl h)
theorem sizeS6 (b : Nat) : ∀ (vs : List Value) (o : Nat) (w : World), (w.setCells b o vs).heap.size = w.heap.size
  | [], _, _ => rfl
  | v :: r, o, w => by rw [World.setCells, sizeS6 b r]; simp
theorem zeros6 (n : Nat) : (Builtin.zeroCells (#[.int .i64 0, .int .i64 0, .int .i64 0, .int .i64 0, .int .i64 0, .int .i64 0] : Array Value) n).toList = List.replicate (n * 6) (.int .i64 0) := by
  simp [Builtin.zeroCells]
  apply List.ext_getElem
  · simp
  · intro t h1 h2
    have : t % 6 = 0 ∨ t % 6 = 1 ∨ t % 6 = 2 ∨ t % 6 = 3 ∨ t % 6 = 4 ∨ t % 6 = 5 := by omega
    rcases this with h | h | h | h | h | h <;> simp [h]
set_option maxRecDepth 100000 in
theorem clear6 {g i n c : Nat} {F : Nat → Int} {W : World} (hi : i < n) (h : IRow g (n * 6) F W) :
    Sem.run Tryz.prog (Builtin.clear_ #[61] 0 #[.slice (some ⟨g, i * 6, none⟩) (n - i) c]) W = .ok (.tuple #[]) (W.setCells g (i * 6) (List.replicate ((n - i) * 6) (.int .i64 0))) := by
  have hv : ∀ W, Sem.run Tryz.prog (zeroValue 79) W = .ok (.agg #[.int .i64 0, .int .i64 0, .int .i64 0, .int .i64 0, .int .i64 0, .int .i64 0]) W := fun W => rfl
  have hst := run_storeCells_cells (P := Tryz.prog) g (i * 6) (List.replicate ((n - i) * 6) (.int .i64 0)) 0 W
    (fun j hj => by rw [List.length_replicate] at hj; rw [h.at (i * 6 + 0 + j) (by omega)]; rfl)
    (fun j hj => by rw [List.length_replicate] at hj; exact h.free (i * 6 + 0 + j) (by omega))
    (fun v hv => by rw [List.eq_of_mem_replicate hv]; rfl)
  simp only [Nat.add_zero] at hst
  obtain ⟨m, hm⟩ : ∃ m, n - i = m + 1 := ⟨n - i - 1, by omega⟩
  rw [hm] at hst ⊢
  have hz := zeros6 (m + 1)
  have ht := Tryz.underlying61
  simp [Builtin.clear_, run_underlying ht, hv, Value.cells, hz, hst]
theorem row6_cut {g n : Nat} {L N : List M6} {W : World} (vs : List Value) (hn : N.length ≤ n) (h : IRow g (n * 6) (delF L N) W) : IRow g (N.length * 6) (fm N) (W.setCells g (N.length * 6) vs) := by
  refine ⟨by rw [sizeS6]; exact h.1, fun t ht => ?_⟩
  rw [World.cell?_setCells_out _ _ _ _ _ (fun _ _ => .inl ht), World.frozen?_setCells]
  refine ⟨?_, h.free t (by omega)⟩
  rw [h.at t (by omega), delF, if_pos ht]
theorem del_at {L N : List M6} {j : Nat} (hj : j < L.length) (hN : N.length ≤ j) : delF L N (j * 6) = L[j].1 ∧ delF L N (j * 6 + 1) = L[j].2.1 ∧ delF L N (j * 6 + 2) = L[j].2.2.1 ∧ delF L N (j * 6 + 3) = L[j].2.2.2.1 ∧ delF L N (j * 6 + 4) = L[j].2.2.2.2.1 ∧ delF L N (j * 6 + 5) = L[j].2.2.2.2.2 := by
  have h := fm_get L j hj
  unfold delF
  rw [if_neg (by omega), if_neg (by omega), if_neg (by omega), if_neg (by omega), if_neg (by omega), if_neg (by omega)]
  exact h
theorem Ko6.of {g o : Nat} {F : Nat → Int} {W : World} {N : Nat} {m : M6} (h : IRow g N F W) (ho : o + 5 < N) (e : F o = m.1 ∧ F (o + 1) = m.2.1 ∧ F (o + 2) = m.2.2.1 ∧ F (o + 3) = m.2.2.2.1 ∧ F (o + 4) = m.2.2.2.2.1 ∧ F (o + 5) = m.2.2.2.2.2) : Ko6 g o m.1 m.2.1 m.2.2.1 m.2.2.2.1 m.2.2.2.2.1 m.2.2.2.2.2 W := by
  have k := h.ko6 o ho
  rwa [e.1, e.2.1, e.2.2.1, e.2.2.2.1, e.2.2.2.2.1, e.2.2.2.2.2] at k
theorem del_put {L N : List M6} {a b c d x y : Int} (t : Nat) :
    (if t = N.length * 6 + 5 then y else if t = N.length * 6 + 4 then x else if t = N.length * 6 + 3 then d else if t = N.length * 6 + 2 then c else if t = N.length * 6 + 1 then b else if t = N.length * 6 then a else delF L N t) = delF L (N ++ [(a, b, c, d, x, y)]) t := by
  have hl : (N ++ [((a, b, c, d, x, y) : M6)]).length = N.length + 1 := by simp
  obtain ⟨z0, z1, z2, z3, z4, z5⟩ := at6_last (L := N) (m := (a, b, c, d, x, y))
  unfold delF
  rw [hl]
  by_cases e5 : t = N.length * 6 + 5
  · subst e5; rw [if_pos rfl, if_pos (by omega), z5]
  by_cases e4 : t = N.length * 6 + 4
  · subst e4; rw [if_neg e5, if_pos rfl, if_pos (by omega), z4]
  by_cases e3 : t = N.length * 6 + 3
  · subst e3; rw [if_neg e5, if_neg e4, if_pos rfl, if_pos (by omega), z3]
  by_cases e2 : t = N.length * 6 + 2
  · subst e2; rw [if_neg e5, if_neg e4, if_neg e3, if_pos rfl, if_pos (by omega), z2]
  by_cases e1 : t = N.length * 6 + 1
  · subst e1; rw [if_neg e5, if_neg e4, if_neg e3, if_neg e2, if_pos rfl, if_pos (by omega), z1]
  by_cases e0 : t = N.length * 6
  · subst e0; rw [if_neg e5, if_neg e4, if_neg e3, if_neg e2, if_neg e1, if_pos rfl, if_pos (by omega), z0]
  rw [if_neg e5, if_neg e4, if_neg e3, if_neg e2, if_neg e1, if_neg e0]
  by_cases el : t < N.length * 6
  · rw [if_pos el, if_pos (by omega), at6_snoc el]
  · rw [if_neg el, if_neg (by omega)]
end
end Go.Proofs.YtodkomaeljbhaaaGreatDoor

