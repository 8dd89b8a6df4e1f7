/-
  Several of my texts in one: Sh9, Df8.
-/
import Derived.Test.YtkfeajjpbmbmpaaGreatDoorGm
import Derived.Test.YtkfeajjpbmbmpaaGreatDoorMg6
import Derived.Deep.RegionHeld3
import Derived.IntWalk
import Derived.Test.YtkfeajjpbmbmpaaGreatDoorPl6
import Derived.Laws.IdiomCopy
namespace Go.Proofs.YtkfeajjpbmbmpaaGreatDoor
section
open Go.RowKit
set_option linter.unusedSimpArgs false
set_option linter.unusedVariables false

theorem own_block {W : World} {base n K : Nat} {T : TypeId} {v : Value} {l : List Value} (h : W.ownsRow base T K v n l) (hn : 0 < n) : ∃ g cap, v = .slice (some ⟨g, 0, none⟩) n cap ∧ base ≤ g ∧ n ≤ cap ∧ cap ≤ maxLen := by
  rcases h.2 with ⟨_, hz⟩ | ⟨g, cap, cur, h', hb, _, hc, hm, _⟩
  · omega
  · exact ⟨g, cap, h', hb, hc, hm⟩
theorem grp_pos {f A B C : Int} {xs : List M6} (h : grpB f A B C xs = true) : 0 < xs.length := List.length_pos_of_mem (grp_mem h).1
def isOne (m : M6) : Bool := eqM m.1 m.2.1 m.2.2.1 m.2.2.2.1 1 0 0 1
def shP (xs : List M6) : List (Int × Int) := (xs.filter isOne).map fun m => (m.2.2.2.2.1, m.2.2.2.2.2)
theorem shP_yes {xs : List M6} {k : Nat} {m : M6} (h : xs.take (k + 1) = xs.take k ++ [m]) (hm : isOne m = true) : shP (xs.take (k + 1)) = shP (xs.take k) ++ [(m.2.2.2.2.1, m.2.2.2.2.2)] := by
  rw [h]; simp [shP, List.filter_append, hm]
theorem shP_no {xs : List M6} {k : Nat} {m : M6} (h : xs.take (k + 1) = xs.take k ++ [m]) (hm : isOne m = false) : shP (xs.take (k + 1)) = shP (xs.take k) := by
  rw [h]; simp [shP, List.filter_append, hm]
theorem shP_len (xs : List M6) : (shP xs).length ≤ xs.length := by unfold shP; rw [List.length_map]; exact List.length_filter_le _ _
def shL (f A B C : Int) (xs : List M6) : List (Int × Int) := bif grpB f A B C xs then shP xs else []
theorem shL_len (f A B C : Int) (xs : List M6) : (shL f A B C xs).length ≤ 768 := by
  unfold shL
  rcases h : grpB f A B C xs with _ | _
  · simp
  · exact Nat.le_trans (shP_len xs) (grp_len h)
theorem isOne_model (a b c d x y : Int) : eqT4 a b c d 1 0 0 1 = isOne (a, b, c, d, x, y) := by
  rw [Bool.eq_iff_iff]
  simp [eqT4, isOne, eqM, and_assoc]
theorem SRow.big2 {lo : Nat} {xs : List (Int × Int)} {e : TypeId} {v : Value} {W : World} (h : W.ownsRow lo e 2 v xs.length (cells2 xs)) (hn : xs.length ≤ 1000000) : SRow lo W.heap.size 2 v xs.length (intAt (cells2 xs)) W := SRow.of h (cells2_int xs) hn
theorem LAns.bad {K n : Nat} {F : Nat → Int} {c c' : Int} {w w' : World} (hn : n = 0) (hc : c' = c) (hb : Below w.heap.size w w') : LAns K n F c w (.returned (.tuple #[.slice none 0 0, .int .i64 c'])) w' := by
  subst hn; exact LAns.nil hc hb
theorem cod6_cases (f A B C : Int) (xs : List M6) : (grpB f A B C xs = true ∧ cod6 f A B C (grpB f A B C xs) = 0) ∨ (grpB f A B C xs = false ∧ (cod6 f A B C (grpB f A B C xs) != 0) = true) := by
  rcases hG : grpB f A B C xs with _ | _
  · right
    refine ⟨rfl, ?_⟩
    rcases hF : flB f A B C with _ | _ <;> simp [cod6, hF]
  · left
    exact ⟨rfl, by simp [cod6, (grp_ok hG).1]⟩
attribute [local go_sem ↓] eqArr eqMa6
set_option maxRecDepth 100000 in
set_option maxHeartbeats 8000000 in
theorem shiftsIn_any {lo hi : Nat} {v : Value} {xs : List M6} {w1 : World} (h : SRow lo hi 6 v xs.length (fm xs) w1) (hn : xs.length ≤ 768) (hU : UnitOK w1) :
    Calls Tryz.prog 128 #[v] w1 fun e w' => ∃ v' : Value, e = .returned v' ∧ w'.ownsRow w1.heap.size 31 2 v' (shP xs).length (cells2 (shP xs)) ∧ Below w1.heap.size w1 w' := by
  obtain ⟨i0, hinf, hz0, hz1, hz2⟩ := info_parts infoVec
  have HS1 := Lib.hid h
  have H768 := Lib.hid hn
  have h7 : (xs.length : Int) ≤ 768 := by omega
  have U1 : UnitOK w1 := hU
  obtain ⟨ao, cap, rfl⟩ := srow_shape h
  clear h hn
  go_enter Tryz.func128, Tryz.ntmps128
  go_wp2_with fail
  go_loopw [3, 8] (fun s3 s8 W => ∃ k : Nat, s8 = .int .i64 (k : Int) ∧ k ≤ xs.length ∧ W.ownsRow w1.heap.size 31 2 s3 (shP (xs.take k)).length (cells2 (shP (xs.take k))) ∧ Below w1.heap.size w1 W) (fun _ s8 _ => xs.length - (intOf s8).toNat)
  case atStart => exact ⟨0, rfl, by omega, World.ownsRow_nil _ _ _ _, Below.refl _ _⟩
  case round =>
    obtain ⟨k, rfl, hk, hown, hB⟩ := hrel
    by_cases hk1 : k < xs.length
    · have HPL := Lib.hid (shP_len (xs.take k))
      have hk2 : (k : Int) < (xs.length : Int) := by omega
      have hk3 : (k : Int) ≤ 768 := by omega
      have hres := HS1.out.2.2.resolve_left (fun h => by omega)
      have hhi := HS1.out.1
      obtain ⟨g, cap', e9, _, hg, RA⟩ := hres
      simp only [Value.slice.injEq, true_and] at e9
      obtain ⟨rfl, rfl⟩ := e9
      have q1 := (RA.grow hB (by omega)).mo k hk1
      have HT := Lib.hid (show xs.take (k + 1) = xs.take k ++ [xs[k]] from List.take_succ_eq_append_getElem hk1)
      have HTL := Lib.hid (show (xs.take k).length ≤ 768 by rw [List.length_take]; omega)
      have HK := Lib.hid hk1
      clear RA hg hhi hk
      generalize xs[k] = m at q1 HT
      clear hk1
      obtain ⟨a, b, c, d, x, y⟩ := m
      dsimp only at q1
      have U2 : UnitOK wr := Kq.call U1 hB
      have HY := Lib.hid (fun h => shP_yes HT.out h)
      have HN2 := Lib.hid (fun h => shP_no HT.out h)
      have HPT : Hid ((shP (xs.take k)).length ≤ 768) := Lib.hid (Nat.le_trans HPL.out HTL.out)
      generalize shP (xs.take k) = ys at hown HY HN2 HPT
      clear HPL HTL
      have zB := hB.size
      have q1c := q1.cells
      have X0 : KM wr.heap.size a b c d x y (wr.alloc (.cells #[.int .i64 a, .int .i64 b, .int .i64 c, .int .i64 d, .int .i64 x, .int .i64 y] 126)) := KM.at _ rfl
      have U3 : UnitOK (wr.alloc (.cells #[.int .i64 a, .int .i64 b, .int .i64 c, .int .i64 d, .int .i64 x, .int .i64 y] 126)) := Kq.alloc U2 _
      have O3 := World.ownsRow.alloc hown (.cells #[.int .i64 a, .int .i64 b, .int .i64 c, .int .i64 d, .int .i64 x, .int .i64 y] 126)
      have B3 : Below w1.heap.size w1 (wr.alloc (.cells #[.int .i64 a, .int .i64 b, .int .i64 c, .int .i64 d, .int .i64 x, .int .i64 y] 126)) := hB.alloc zB _
      have X0c := X0.cells5
      obtain ⟨u0, u1, u2, u3, u4⟩ := id U3
      have un : ¬ 0 = wr.heap.size := by have := U2.1; omega
      have z3 : (wr.alloc (.cells #[.int .i64 a, .int .i64 b, .int .i64 c, .int .i64 d, .int .i64 x, .int .i64 y] 126)).heap.size = wr.heap.size + 1 := by simp
      clear hown hB
      rcases ho : isOne (a, b, c, d, x, y) with _ | _
      · have he : eqM a b c d 1 0 0 1 = false := ho
        have HQ := Lib.hid (HN2.out ho)
        clear HY HN2 ho
        go_wp2_with fail
        go_wp2
        go_roundw
        case rel => exact ⟨k + 1, by go_num, by have := HK.out; omega, by rw [HQ.out]; exact O3, B3⟩
        case measure => (have := HK.out); first | (simp [intOf]; done) | (simp [intOf]; omega)
      · have he : eqM a b c d 1 0 0 1 = true := ho
        have HQ := Lib.hid (HY.out ho)
        clear HY HN2 ho
        go_wp2_with (at_builtin; refine wpList_append_own _ rfl _ _ 55 rfl w1.heap.size 31 i0 (.agg #[.int .i64 0, .int .i64 0]) 2 16 Tryz.underlying55 hinf hz0 hz1 hz2 rfl (by decide) _ _ _ rfl (O3.alloc _) ⟨wr.heap.size + 1, 0, none⟩ 1 1 [.int .i64 x, .int .i64 y] rfl rfl (new_two _ _ _ (by simp)) one_two (by have := HPT.out; unfold maxLen; omega) (by have := HPT.out; omega) (by (try simp); omega) ?_; intro v9 w9 hown9 hgrow _)
        have O9 := own_next2 hown9
        have B9 : Below w1.heap.size w1 w9 := Below.grown (Below.alloc B3 (by simp; omega) _) hgrow (by simp; omega) (fun r hr => by have := (O3.lt r hr).1; omega)
        clear hown9 hgrow O3 B3
        go_wp2
        go_roundw
        case rel => exact ⟨k + 1, by go_num, by have := HK.out; omega, by rw [HQ.out]; exact O9, B9⟩
        case measure => (have := HK.out); first | (simp [intOf]; done) | (simp [intOf]; omega)
    · obtain rfl : k = xs.length := by omega
      rw [List.take_length] at hown
      clear hk hk1
      go_wp2
      go_ret
      exact ⟨_, rfl, hown, hB⟩
set_option maxRecDepth 100000 in
set_option maxHeartbeats 8000000 in
theorem implShifts_any {lo hi : Nat} {v : Value} {xs : List M6} {w : World} (f A B C : Int) (h : SRow lo hi 6 v xs.length (fm xs) w) (hn : xs.length ≤ 1048576) (hU : UnitOK w) :
    Calls Tryz.prog 31 #[.int .i64 f, .agg #[.int .i64 A, .int .i64 B, .int .i64 C], v] w (LAns 2 (shL f A B C xs).length (intAt (cells2 (shL f A B C xs))) (cod6 f A B C (grpB f A B C xs)) w) := by
  have HN := Lib.hid hn
  have L0 : Kt w.heap.size A B C (w.alloc (.cells #[.int .i64 A, .int .i64 B, .int .i64 C] 25)) := Kt.at _ rfl
  have B0 : Below w.heap.size w (w.alloc (.cells #[.int .i64 A, .int .i64 B, .int .i64 C] 25)) := (Below.refl _ _).alloc (Nat.le_refl _) _
  have A0 : SRow lo hi 6 v xs.length (fm xs) (w.alloc (.cells #[.int .i64 A, .int .i64 B, .int .i64 C] 25)) := h.grow ((Below.refl w.heap.size w).alloc (Nat.le_refl _) _) h.1
  have U0 : UnitOK (w.alloc (.cells #[.int .i64 A, .int .i64 B, .int .i64 C] 25)) := Kq.alloc hU _
  have L0c := L0.cells
  have HU := Lib.hid hU
  have CG := Lib.hid (groupOf_any f A B C A0 hn U0)
  clear h hn hU A0 U0
  rcases cod6_cases f A B C xs with ⟨hg, hc⟩ | ⟨hg, hc⟩
  case inr =>
    have HG := Lib.hid hg
    have HZ := Lib.hid (show (shL f A B C xs).length = 0 by simp [shL, hg])
    obtain ⟨cz, hcz⟩ : ∃ cz, cz = cod6 f A B C (grpB f A B C xs) := ⟨_, rfl⟩
    rw [← hcz]
    have HC := Lib.hid hcz.symm
    clear hg hcz
    go_enter Tryz.func31, Tryz.ntmps31
    go_wp2_with fail
    refine CG.out.mono ?_
    rintro e w1 ⟨v1, rfl, _, hv, hb1⟩
    have hv1 := hv HG.out
    subst hv1
    have B1 := bstep B0 hb1
    clear hv hb1 B0 L0 L0c CG
    generalize cod6 f A B C (grpB f A B C xs) = cc at hc HC
    go_wp2
    go_ret2
    exact LAns.bad HZ.out HC.out B1
  have HG := Lib.hid hg
  have HC := Lib.hid hc
  clear hg hc
  go_enter Tryz.func31, Tryz.ntmps31
  go_wp2_with fail
  refine CG.out.mono ?_
  rintro e w1 ⟨v1, rfl, hr, _, hb1⟩
  rw [HC.out]
  have O1 := hr HG.out
  have S1 : SRow w.heap.size w1.heap.size 6 v1 xs.length (fm xs) w1 := SRow.big6 (ownsRow_lower O1 (by simp)) HN.out
  have B1 := bstep B0 hb1
  have U1 : UnitOK w1 := Kq.call HU.out B1
  have L1 := L0.call hb1
  have HS1 := Lib.hid S1
  have H768 := Lib.hid (grp_len HG.out)
  have h7 : (xs.length : Int) ≤ 768 := by have := H768.out; omega
  obtain ⟨ao, cap, rfl⟩ := srow_shape S1
  clear hr hb1 B0 L0 L0c CG O1 S1
  have CS := Lib.hid (shiftsIn_any HS1.out (grp_len HG.out) U1)
  have e : shL f A B C xs = shP xs := by simp [shL, HG.out]
  have HEE := Lib.hid e
  clear e h7 H768
  go_wp2_with fail
  refine CS.out.mono ?_
  rintro e w2 ⟨v2, rfl, ho2, hb2⟩
  have B2 := bstep B1 hb2
  have S9 : SRow w.heap.size w2.heap.size 2 v2 (shL f A B C xs).length (intAt (cells2 (shL f A B C xs))) w2 := by rw [HEE.out]; exact SRow.big2 (ownsRow_lower ho2 B1.size) (by have := shP_len xs; have := grp_len HG.out; omega)
  have HS9 := Lib.hid S9
  clear S9 ho2 hb2 CS HS1 L1 U1
  go_wp2
  go_ret2
  exact ⟨_, ret_pair (by rfl) HC.out.symm, HS9.out, B2⟩
set_option maxRecDepth 100000 in
set_option maxHeartbeats 8000000 in
theorem l06Shifts_any {lo hi : Nat} {v : Value} {xs : List M6} {w : World} (h : SRow lo hi 6 v xs.length (fm xs) w) (hn : xs.length ≤ 768) :
    Calls Tryz.prog 138 #[v] w fun e w' => ∃ v' : Value, e = .returned v' ∧ w'.ownsRow w.heap.size 31 2 v' (shP xs).length (cells2 (shP xs)) ∧ Below w.heap.size w w' := by
  obtain ⟨i0, hinf, hz0, hz1, hz2⟩ := info_parts infoVec
  have HS1 := Lib.hid h
  have H768 := Lib.hid hn
  have h7 : (xs.length : Int) ≤ 768 := by omega
  obtain ⟨ao, cap, rfl⟩ := srow_shape h
  have B0 : Below w.heap.size w (w.alloc (.cells #[] 31)) := (Below.refl _ _).alloc (Nat.le_refl _) _
  have O0 : (w.alloc (.cells #[] 31)).ownsRow w.heap.size 31 2 (.slice (some ⟨w.heap.size, 0, none⟩) 0 0) (shP (xs.take 0)).length (cells2 (shP (xs.take 0))) := World.ownsRow_lit (base := w.heap.size) (e := 31) (size := 2) w #[] 0 (Nat.le_refl _) (by unfold maxLen; omega) rfl
  clear h hn
  go_enter Tryz.func138, Tryz.ntmps138
  go_wp2_with fail
  go_loopw [3, 4] (fun s3 s4 W => ∃ k : Nat, s4 = .int .i64 (k : Int) ∧ k ≤ xs.length ∧ W.ownsRow w.heap.size 31 2 s3 (shP (xs.take k)).length (cells2 (shP (xs.take k))) ∧ Below w.heap.size w W) (fun _ s4 _ => xs.length - (intOf s4).toNat)
  case atStart => exact ⟨0, rfl, by omega, O0, B0⟩
  case round =>
    clear O0 B0
    obtain ⟨k, rfl, hk, hown, hB⟩ := hrel
    by_cases hk1 : k < xs.length
    · have HPL := Lib.hid (shP_len (xs.take k))
      have hk2 : (k : Int) < (xs.length : Int) := by omega
      have hk3 : (k : Int) ≤ 768 := by omega
      have hres := HS1.out.2.2.resolve_left (fun h => by omega)
      have hhi := HS1.out.1
      obtain ⟨g, cap', e9, _, hg, RA⟩ := hres
      simp only [Value.slice.injEq, true_and] at e9
      obtain ⟨rfl, rfl⟩ := e9
      have q1 := (RA.grow hB (by omega)).mo k hk1
      have HT := Lib.hid (show xs.take (k + 1) = xs.take k ++ [xs[k]] from List.take_succ_eq_append_getElem hk1)
      have HTL := Lib.hid (show (xs.take k).length ≤ 768 by rw [List.length_take]; omega)
      have HK := Lib.hid hk1
      clear RA hg hhi hk
      generalize xs[k] = m at q1 HT
      clear hk1
      obtain ⟨a, b, c, d, x, y⟩ := m
      dsimp only at q1
      have HY := Lib.hid (fun h => shP_yes HT.out h)
      have HN2 := Lib.hid (fun h => shP_no HT.out h)
      have HPT : Hid ((shP (xs.take k)).length ≤ 768) := Lib.hid (Nat.le_trans HPL.out HTL.out)
      generalize shP (xs.take k) = ys at hown HY HN2 HPT
      clear HPL HTL
      have zB := hB.size
      have q1c := q1.cells
      have hgl := ko_lt q1
      have HE := isOne_model a b c d x y
      rcases ho : isOne (a, b, c, d, x, y) with _ | _
      · rw [ho] at HE
        have HQ := Lib.hid (HN2.out ho)
        clear HY HN2 ho
        go_wp2_with fail
        go_region_held3 (fun W => (W.cell? ⟨g, k * 6, none⟩ = some (.int .i64 a) ∧ W.cell? ⟨g, k * 6 + 1, none⟩ = some (.int .i64 b) ∧ W.cell? ⟨g, k * 6 + 2, none⟩ = some (.int .i64 c) ∧ W.cell? ⟨g, k * 6 + 3, none⟩ = some (.int .i64 d) ∧ W.cell? ⟨g, k * 6 + 4, none⟩ = some (.int .i64 x) ∧ W.cell? ⟨g, k * 6 + 5, none⟩ = some (.int .i64 y))) ((refine Ko6.cells ?_) <;> repeat (first | with_reducible assumption | with_reducible refine Ko6.drew ?_ | with_reducible refine Ko6.alloc ?_ _ | with_reducible refine Ko6.call ?_ (by with_reducible assumption)))
          (first
            | (go_at_call 225; with_reducible refine (l02Unit_any _).mono ?_; rintro e u1 ⟨rfl, hb1⟩; have X1 : Ko6 g (k * 6) a b c d x y u1 := (by repeat (first | with_reducible assumption | with_reducible refine Ko6.drew ?_ | with_reducible refine Ko6.alloc ?_ _ | with_reducible refine Ko6.call ?_ (by with_reducible assumption))); have O1 : u1.ownsRow w.heap.size 31 2 u3 ys.length (cells2 ys) := (by repeat (first | with_reducible assumption | with_reducible refine ownsRow_call ?_ (by with_reducible assumption) | with_reducible refine ownsRow_call ?_ (Below.drew (Below.refl _ _)) | with_reducible refine ownsRow_call ?_ (Below.alloc (Below.refl _ _) (Nat.le_refl _) _))); have B1 : Below w.heap.size w u1 := (by repeat (first | with_reducible assumption | with_reducible exact Below.refl _ _ | with_reducible refine Below.alloc ?_ (by first | omega | (simp <;> omega)) _ | with_reducible refine bstep ?_ (by with_reducible assumption) | with_reducible refine Below.drew ?_))))
        all_goals
          go_wp2
          go_roundw
          case rel => exact ⟨k + 1, by go_num, by have := HK.out; omega, by rw [HQ.out]; repeat (first | with_reducible assumption | with_reducible refine ownsRow_call ?_ (by with_reducible assumption) | with_reducible refine ownsRow_call ?_ (Below.drew (Below.refl _ _)) | with_reducible refine ownsRow_call ?_ (Below.alloc (Below.refl _ _) (Nat.le_refl _) _)), by repeat (first | with_reducible assumption | with_reducible exact Below.refl _ _ | with_reducible refine Below.alloc ?_ (by first | omega | (simp <;> omega)) _ | with_reducible refine bstep ?_ (by with_reducible assumption) | with_reducible refine Below.drew ?_)⟩
          case measure => (have := HK.out); first | (simp [intOf]; done) | (simp [intOf]; omega)
      · rw [ho] at HE
        have HQ := Lib.hid (HY.out ho)
        clear HY HN2 ho
        go_wp2_with fail
        go_region_held3 (fun W => (W.cell? ⟨g, k * 6, none⟩ = some (.int .i64 a) ∧ W.cell? ⟨g, k * 6 + 1, none⟩ = some (.int .i64 b) ∧ W.cell? ⟨g, k * 6 + 2, none⟩ = some (.int .i64 c) ∧ W.cell? ⟨g, k * 6 + 3, none⟩ = some (.int .i64 d) ∧ W.cell? ⟨g, k * 6 + 4, none⟩ = some (.int .i64 x) ∧ W.cell? ⟨g, k * 6 + 5, none⟩ = some (.int .i64 y))) ((refine Ko6.cells ?_) <;> repeat (first | with_reducible assumption | with_reducible refine Ko6.drew ?_ | with_reducible refine Ko6.alloc ?_ _ | with_reducible refine Ko6.call ?_ (by with_reducible assumption)))
          (first
            | (go_at_call 225; with_reducible refine (l02Unit_any _).mono ?_; rintro e u1 ⟨rfl, hb1⟩; have X1 : Ko6 g (k * 6) a b c d x y u1 := (by repeat (first | with_reducible assumption | with_reducible refine Ko6.drew ?_ | with_reducible refine Ko6.alloc ?_ _ | with_reducible refine Ko6.call ?_ (by with_reducible assumption))); have O1 : u1.ownsRow w.heap.size 31 2 u3 ys.length (cells2 ys) := (by repeat (first | with_reducible assumption | with_reducible refine ownsRow_call ?_ (by with_reducible assumption) | with_reducible refine ownsRow_call ?_ (Below.drew (Below.refl _ _)) | with_reducible refine ownsRow_call ?_ (Below.alloc (Below.refl _ _) (Nat.le_refl _) _))); have B1 : Below w.heap.size w u1 := (by repeat (first | with_reducible assumption | with_reducible exact Below.refl _ _ | with_reducible refine Below.alloc ?_ (by first | omega | (simp <;> omega)) _ | with_reducible refine bstep ?_ (by with_reducible assumption) | with_reducible refine Below.drew ?_))))
        all_goals
          have X2 : Ko6 g (k * 6) a b c d x y u1 := X1
          have O2 := O1
          have B2 := B1
          have X2c := X2.cells
          clear X1 O1 B1 q1 q1c hown hB
          have z2 := B2.size
          go_wp2_with (at_builtin; refine wpList_append_own _ rfl _ _ 55 rfl w.heap.size 31 i0 (.agg #[.int .i64 0, .int .i64 0]) 2 16 Tryz.underlying55 hinf hz0 hz1 hz2 rfl (by decide) _ _ _ rfl (O2.alloc _) ⟨_, 0, none⟩ 1 1 [.int .i64 x, .int .i64 y] rfl rfl (new_two _ _ _ (by first | rfl | simp)) one_two (by have := HPT.out; unfold maxLen; omega) (by have := HPT.out; omega) (by (try simp); omega) ?_; intro v9 w9 hown9 hgrow _)
          have O9 := own_next2 hown9
          have B9 : Below w.heap.size w w9 := Below.grown (Below.alloc B2 (by omega) _) hgrow (by simp; omega) (fun r hr => by have := (O2.lt r hr).1; omega)
          clear hown9 hgrow O2 B2
          go_wp2
          go_roundw
          case rel => exact ⟨k + 1, by go_num, by have := HK.out; omega, by rw [HQ.out]; exact O9, B9⟩
          case measure => (have := HK.out); first | (simp [intOf]; done) | (simp [intOf]; omega)
    · obtain rfl : k = xs.length := by omega
      rw [List.take_length] at hown
      clear hk hk1
      go_wp2
      go_ret
      exact ⟨_, rfl, hown, hB⟩

set_option maxRecDepth 100000 in
set_option maxHeartbeats 8000000 in
theorem specShifts_any {lo hi : Nat} {v : Value} {xs : List M6} {w : World} (f A B C : Int) (h : SRow lo hi 6 v xs.length (fm xs) w) (hn : xs.length ≤ 1048576) :
    Calls Tryz.prog 36 #[.int .i64 f, .agg #[.int .i64 A, .int .i64 B, .int .i64 C], v] w (LAns 2 (shL f A B C xs).length (intAt (cells2 (shL f A B C xs))) (cod6 f A B C (grpB f A B C xs)) w) := by
  have HN := Lib.hid hn
  have HA := Lib.hid h
  have L0 : Kt w.heap.size A B C (w.alloc (.cells #[.int .i64 A, .int .i64 B, .int .i64 C] 25)) := Kt.at _ rfl
  have B0 : Below w.heap.size w (w.alloc (.cells #[.int .i64 A, .int .i64 B, .int .i64 C] 25)) := (Below.refl _ _).alloc (Nat.le_refl _) _
  have L0c := L0.cells
  have CG : Hid (∀ W, Below w.heap.size w W → Calls Tryz.prog 61 #[.int .i64 f, .agg #[.int .i64 A, .int .i64 B, .int .i64 C], v] W fun e w' => e = .returned (.bool (grpB f A B C xs)) ∧ Below W.heap.size W w') := Lib.hid (fun W hW => specIsGroup_any f A B C (HA.out.grow hW HA.out.1) HN.out)
  have CC := Lib.hid (fun W => l06Code_any f A B C (grpB f A B C xs) W)
  clear h hn
  have hcc := cod6_cases f A B C xs
  obtain ⟨cz, hcz⟩ : ∃ cz, cz = cod6 f A B C (grpB f A B C xs) := ⟨_, rfl⟩
  rw [← hcz]
  have HC := Lib.hid hcz.symm
  clear hcz
  rcases hcc with ⟨hg, hc⟩ | ⟨hg, hc⟩
  case inr =>
    have HZ := Lib.hid (show (shL f A B C xs).length = 0 by simp [shL, hg])
    clear hg
    generalize grpB f A B C xs = gb at CG CC HC hc
    generalize cod6 f A B C gb = cc at CC HC hc
    go_enter Tryz.func36, Tryz.ntmps36
    go_wp2_with fail
    go_region_held3 (fun W => (W.cell? ⟨w.heap.size, 0, none⟩ = some (.int .i64 A) ∧ W.cell? ⟨w.heap.size, 1, none⟩ = some (.int .i64 B) ∧ W.cell? ⟨w.heap.size, 2, none⟩ = some (.int .i64 C))) ((refine Kt.cells ?_) <;> repeat (first | with_reducible assumption | with_reducible refine Kt.drew ?_ | with_reducible refine Kt.alloc ?_ _ | with_reducible refine Kt.call ?_ (by with_reducible assumption)))
      (first
        | (go_at_call 61; with_reducible refine (CG.out _ (by repeat (first | with_reducible assumption | with_reducible exact Below.refl _ _ | with_reducible refine Below.alloc ?_ (by first | omega | (simp <;> omega)) _ | with_reducible refine bstep ?_ (by with_reducible assumption) | with_reducible refine Below.drew ?_))).mono ?_; rintro e u1 ⟨rfl, hb1⟩; have L1 : Kt w.heap.size A B C u1 := (by repeat (first | with_reducible assumption | with_reducible refine Kt.drew ?_ | with_reducible refine Kt.alloc ?_ _ | with_reducible refine Kt.call ?_ (by with_reducible assumption))); have B1 : Below w.heap.size w u1 := (by repeat (first | with_reducible assumption | with_reducible exact Below.refl _ _ | with_reducible refine Below.alloc ?_ (by first | omega | (simp <;> omega)) _ | with_reducible refine bstep ?_ (by with_reducible assumption) | with_reducible refine Below.drew ?_)))
        | (go_at_call 97; with_reducible refine (CC.out _).mono ?_; rintro e u2 ⟨rfl, hb2⟩; have L2 : Kt w.heap.size A B C u2 := (by repeat (first | with_reducible assumption | with_reducible refine Kt.drew ?_ | with_reducible refine Kt.alloc ?_ _ | with_reducible refine Kt.call ?_ (by with_reducible assumption))); have B2 : Below w.heap.size w u2 := (by repeat (first | with_reducible assumption | with_reducible exact Below.refl _ _ | with_reducible refine Below.alloc ?_ (by first | omega | (simp <;> omega)) _ | with_reducible refine bstep ?_ (by with_reducible assumption) | with_reducible refine Below.drew ?_))))
    all_goals
      go_wp2
      go_ret2
      exact LAns.bad HZ.out HC.out (by repeat (first | with_reducible assumption | with_reducible exact Below.refl _ _ | with_reducible refine Below.alloc ?_ (by first | omega | (simp <;> omega)) _ | with_reducible refine bstep ?_ (by with_reducible assumption) | with_reducible refine Below.drew ?_))
  have HG := Lib.hid hg
  have HCZ : Hid (cz = 0) := Lib.hid (HC.out.symm.trans hc)
  rw [hc] at CC
  rw [hg] at CG CC
  clear hg hc HC
  go_enter Tryz.func36, Tryz.ntmps36
  go_wp2_with fail
  go_region_held3 (fun W => (W.cell? ⟨w.heap.size, 0, none⟩ = some (.int .i64 A) ∧ W.cell? ⟨w.heap.size, 1, none⟩ = some (.int .i64 B) ∧ W.cell? ⟨w.heap.size, 2, none⟩ = some (.int .i64 C))) ((refine Kt.cells ?_) <;> repeat (first | with_reducible assumption | with_reducible refine Kt.drew ?_ | with_reducible refine Kt.alloc ?_ _ | with_reducible refine Kt.call ?_ (by with_reducible assumption)))
    (first
      | (go_at_call 61; with_reducible refine (CG.out _ (by repeat (first | with_reducible assumption | with_reducible exact Below.refl _ _ | with_reducible refine Below.alloc ?_ (by first | omega | (simp <;> omega)) _ | with_reducible refine bstep ?_ (by with_reducible assumption) | with_reducible refine Below.drew ?_))).mono ?_; rintro e u1 ⟨rfl, hb1⟩; have L1 : Kt w.heap.size A B C u1 := (by repeat (first | with_reducible assumption | with_reducible refine Kt.drew ?_ | with_reducible refine Kt.alloc ?_ _ | with_reducible refine Kt.call ?_ (by with_reducible assumption))); have B1 : Below w.heap.size w u1 := (by repeat (first | with_reducible assumption | with_reducible exact Below.refl _ _ | with_reducible refine Below.alloc ?_ (by first | omega | (simp <;> omega)) _ | with_reducible refine bstep ?_ (by with_reducible assumption) | with_reducible refine Below.drew ?_)))
      | (go_at_call 97; with_reducible refine (CC.out _).mono ?_; rintro e u2 ⟨rfl, hb2⟩; have L2 : Kt w.heap.size A B C u2 := (by repeat (first | with_reducible assumption | with_reducible refine Kt.drew ?_ | with_reducible refine Kt.alloc ?_ _ | with_reducible refine Kt.call ?_ (by with_reducible assumption))); have B2 : Below w.heap.size w u2 := (by repeat (first | with_reducible assumption | with_reducible exact Below.refl _ _ | with_reducible refine Below.alloc ?_ (by first | omega | (simp <;> omega)) _ | with_reducible refine bstep ?_ (by with_reducible assumption) | with_reducible refine Below.drew ?_))))
  all_goals
    have B3 : Below w.heap.size w u2 := B2
    have S3 := HA.out.grow B3 HA.out.1
    clear L1 B1 L2 B2 L0 B0 L0c
    go_wp2_with fail
    refine (l06Shifts_any S3 (grp_len HG.out)).mono ?_
    rintro e w5 ⟨v5, rfl, hr5, hb5⟩
    have z3 := B3.size
    have B5 := bstep B3 hb5
    go_wp2
    go_ret2
    exact ⟨_, ret_pair (by rfl) HCZ.out.symm, (by rw [show shL f A B C xs = shP xs by simp [shL, HG.out]]; exact SRow.big2 (ownsRow_lower hr5 z3) (by have := shP_len xs; have := grp_len HG.out; omega)), B5⟩
end
end Go.Proofs.YtkfeajjpbmbmpaaGreatDoor

namespace Go.Proofs.YtkfeajjpbmbmpaaGreatDoor
section
open Go.RowKit
set_option linter.unusedSimpArgs false
set_option linter.unusedVariables false

/- what a closure on motions does: it answers O m in each world that keeps Inv, and leaves what was there -/
/- an invariant that only looks at blocks other than g -/
structure Cmp6 (O : M6 → Bool) (L N : List M6) (j : Nat) : Prop where
  ij : N.length < j
  pre : N = (L.take j).filter (fun v => !O v)
theorem Cmp6.start {O : M6 → Bool} {L : List M6} {k : Nat} (hk : k < L.length) (ho : O L[k] = true) (hb : ∀ v ∈ L.take k, O v = false) : Cmp6 O L (L.take k) (k + 1) := by
  refine ⟨by rw [List.length_take]; omega, ?_⟩
  rw [List.take_succ_eq_append_getElem hk, List.filter_append, List.filter_eq_self.2 (fun v hv => by rw [hb v hv]; rfl)]
  simp [ho]
theorem Cmp6.skip {O : M6 → Bool} {L N : List M6} {j : Nat} (h : Cmp6 O L N j) (hj : j < L.length) (ho : O L[j] = true) : Cmp6 O L N (j + 1) := by
  refine ⟨by have := h.ij; omega, ?_⟩
  rw [List.take_succ_eq_append_getElem hj, List.filter_append, ← h.pre]
  simp [ho]
theorem Cmp6.keep {O : M6 → Bool} {L N : List M6} {j : Nat} (h : Cmp6 O L N j) (hj : j < L.length) (ho : O L[j] = false) : Cmp6 O L (N ++ [L[j]]) (j + 1) := by
  refine ⟨by have := h.ij; simp; omega, ?_⟩
  rw [List.take_succ_eq_append_getElem hj, List.filter_append, ← h.pre]
  simp [ho]
theorem Ko6.of {g o : Nat} {F : Nat → Int} {W : World} {N : Nat} {m : M6} (h : IRow g N F W) (ho : o + 5 < N) (e : F o = m.1 ∧ F (o + 1) = m.2.1 ∧ F (o + 2) = m.2.2.1 ∧ F (o + 3) = m.2.2.2.1 ∧ F (o + 4) = m.2.2.2.2.1 ∧ F (o + 5) = m.2.2.2.2.2) : Ko6 g o m.1 m.2.1 m.2.2.1 m.2.2.2.1 m.2.2.2.2.1 m.2.2.2.2.2 W := by
  have k := h.ko6 o ho
  rwa [e.1, e.2.1, e.2.2.1, e.2.2.2.1, e.2.2.2.2.1, e.2.2.2.2.2] at k
/- what the closure does: it answers O m in each world that keeps Inv, and leaves what was there -/
/- what the closure does: it answers O m in each world that keeps Inv, and leaves what was there -/
end
end Go.Proofs.YtkfeajjpbmbmpaaGreatDoor

