/-
  The contract of the model's ReadVec, and the walk of the law FnExactReadVec. Conditions: the library's table, its two errors and its constant read as they are laid.
-/
import Derived.Test.YtpdekopmnchanabGreatDoorRead2
import Derived.Test.YtpdekopmnchanabGreatDoorNumbers
import Derived.Deep.RegionHeld3
import Derived.BigQuiet
import Derived.Deep.QuietTactic
import Derived.WalkSmall
namespace Go.Proofs.YtpdekopmnchanabGreatDoor
open Go.RowKit
set_option linter.unusedSimpArgs false
set_option linter.unusedVariables false

theorem list_two {ns : List Int} (h : ns.length = 2) : ∃ a b, ns = [a, b] := by
  match ns, h with
  | [a, b], _ => exact ⟨a, b, rfl⟩
theorem Kg.farR {g : Nat} {a b : Int} {W : World} {q : Addr} {u : Value} (hq : ¬ q.block = g) (h : Kg g a b W) : Kg g a b (W.setCell q u) := by
  have hb : Only q.block W (W.setCell q u) := (Only.refl _ _).setCell rfl u
  obtain ⟨h0, h1, h2⟩ := h
  have hn : g ≠ q.block := fun e => hq e.symm
  exact ⟨Nat.lt_of_lt_of_le h0 hb.size, by rw [hb.cell h0 hn]; exact h1, by rw [hb.cell h0 hn]; exact h2⟩
theorem split_two {l : List UInt8} {ws : List (List UInt8)} (h : SplitOf l ws) {x y : Int} (e : l = Lib.itoa x ++ 44 :: Lib.itoa y) : ws = [Lib.itoa x, Lib.itoa y] := by
  apply joinC_inj h.2
  · intro z hz
    rcases List.mem_cons.1 hz with rfl | hz
    · exact itoa_comma x
    · rw [List.mem_singleton.1 hz]; exact itoa_comma y
  · rw [← h.1, e]; simp [joinC]
theorem rdS_word {l : List UInt8} {ws : List (List UInt8)} (h : SplitOf l ws) (hx : ∃ x ∈ ws, NumNo x) : RdNo l := by
  intro x y hv e
  obtain ⟨⟨a1, a2⟩, a3, a4⟩ := vecB_bd hv
  have hw := split_two h e
  obtain ⟨z, hz, hn⟩ := hx
  rw [hw] at hz
  rcases List.mem_cons.1 hz with rfl | hz
  · exact hn x a1 a2 rfl
  · rw [List.mem_singleton.1 hz] at hn; exact hn y a3 a4 rfl
theorem rdS_len {l : List UInt8} {ws : List (List UInt8)} (h : SplitOf l ws) (hn : ws.length ≠ 2) : RdNo l := by
  intro x y hv e
  have hw := split_two h e
  rw [hw] at hn
  exact hn rfl
theorem split_cut {l : List UInt8} {ws : List (List UInt8)} (h : SplitOf l ws) (hn : ws.length = 2) : cutF l (ws[0]'(by omega)) (ws[1]'(by omega)) true := by
  match ws, hn, h with
  | [a, b], _, h =>
    refine .inl ⟨rfl, ?_, h.2 a (by simp)⟩
    have e := h.1
    have e2 : l ++ [44] = (a ++ 44 :: b) ++ [44] := by rw [e]; simp [joinC]
    exact List.append_cancel_right e2
theorem split_ne {l : List UInt8} {ws : List (List UInt8)} (h : SplitOf l ws) : ws.length ≠ 0 := by
  intro h0
  have : ws = [] := List.eq_nil_of_length_eq_zero h0
  subst this
  have := h.1
  simp [joinC] at this
theorem split_word {l : List UInt8} {ws : List (List UInt8)} (h : SplitOf l ws) : ∀ x ∈ ws, x.length ≤ l.length := by
  intro x hx
  obtain ⟨a, b, rfl⟩ := List.append_of_mem hx
  have := congrArg List.length h.1
  simp [joinC] at this
  omega

set_option maxHeartbeats 600000 in
theorem specRead_any (s : ByteArray) (hs : s.size ≤ 1048576) (w : World) :
    Calls Tryz.prog 32 #[.string s] w (RdPost s.data.toList w) := by
  have HZ := Lib.hid (show s.data.toList.length = s.size from Array.length_toList)
  have hA : Below w.heap.size w (w.alloc (.cells #[.int .i64 0, .int .i64 0] 27)) := (Below.refl _ _).alloc (Nat.le_refl _) _
  have SP := Lib.hid (split_any s hs)
  go_enter Tryz.func32, Tryz.ntmps32
  go_wp2_with fail
  refine (SP.out _).mono ?_
  rintro e w1 ⟨v, ws, rfl, hsp, hwl, hown, hb1⟩
  have F1 := KF0 w hb1
  have B1 : Below w.heap.size w w1 := bstep hA hb1
  have HSP := Lib.hid hsp
  have hwz : ws.length ≤ 1048577 := by rw [HZ.out] at hwl; omega
  have HWX : Hid (∀ x ∈ ws, x.length ≤ 1048576) := fun x hx => Nat.le_trans (split_word hsp x hx) (by rw [HZ.out]; exact hs)
  obtain ⟨g, cap, rfl⟩ := own_form hown (split_ne hsp)
  obtain ⟨hg0, hg1, hgc⟩ := own_cell hown
  have HGC : Hid (∀ (i : Nat) (hi : i < ws.length), w1.cell? ⟨g, i, none⟩ = some (strV ws[i])) := fun i hi => by
    have := hgc i (by simpa using hi)
    simpa using this
  clear hsp hwl hown hb1 hgc SP
  go_wp2_with fail
  refine (numbers_any ws g cap w1 hg1 hwz HWX.out HGC.out).mono ?_
  rintro e w2 ⟨v2, b2, ns, rfl, y, z, hb2⟩
  have F2 := F1.call hb2
  have B2 : Below w.heap.size w w2 := bstep B1 hb2
  have r1 := F2.c0
  have r2 := F2.c1
  have r3 := F2.f0
  have r4 := F2.f1
  have r5 : w.heap.size < w2.heap.size := F2.lt
  have r6 : w.heap.size < w1.heap.size := F1.lt
  clear F1 B1 hb2 HGC HWX hg0 hg1
  cases b2
  · obtain ⟨rfl, hx⟩ := z rfl
    have N := Lib.hid (rdS_word HSP.out hx)
    clear y z hx
    go_wp2_with fail
    go_quiet (fail)
    all_goals
      go_wp2
      refine bodyPost_ret (v := .tuple #[.agg #[.int .i64 0, .int .i64 0], .bool false]) (by simp [results, Tryz.results32, go_sem, r1, r2]) rfl ⟨0, 0, false, rfl, (fun h => by cases h), (fun _ => ⟨N.out, rfl, rfl⟩), ?_⟩
      repeat (first | assumption | refine Below.setCell ?_ (by first | omega | (simp <;> omega)) _ | refine Below.drew ?_ | refine below_drewN ?_ _)
  · obtain ⟨hN, hown⟩ := y rfl
    have HN := Lib.hid hN
    have hnl : ns.length = ws.length := hN.1
    clear y z hN
    obtain ⟨g2, cap2, rfl⟩ := own_form hown (by rw [hnl]; exact split_ne HSP.out)
    obtain ⟨k0, k1, hkc⟩ := own_cell hown
    have hgne : ¬ w.heap.size = g2 := by omega
    by_cases h2 : ns.length = 2
    · obtain ⟨n0, n1, rfl⟩ := list_two h2
      have c0 : w2.cell? ⟨g2, 0, none⟩ = some (.int .i64 n0) := hkc 0 (by simp)
      have c1 : w2.cell? ⟨g2, 1, none⟩ = some (.int .i64 n1) := hkc 1 (by simp)
      have HCUT := Lib.hid (split_cut HSP.out (by omega))
      have Y0 : Hid (NumYes (ws[0]'(by omega)) n0) := HN.out.2 0 (by omega) (by omega)
      have Y1 : Hid (NumYes (ws[1]'(by omega)) n1) := HN.out.2 1 (by omega) (by omega)
      have KG : Kg g2 n0 n1 w2 := ⟨k1, c0, c1⟩
      have HNO : Hid (vecB n0 n1 = false → RdNo s.data.toList) := fun hv => rd_no3 HCUT.out Y0.out Y1.out hv
      have HYES : Hid (vecB n0 n1 = true → RdYes s.data.toList n0 n1) := fun hv => rd_yes HCUT.out Y0.out Y1.out hv
      clear hkc hown Y0 Y1 HCUT h2 hnl HN HSP
      rcases hv : vecB n0 n1 with _ | _
      · have N := Lib.hid (HNO.out hv)
        go_wp2_with fail
        go_region_held3 (fun W => W.cell? ⟨g2, 0, none⟩ = some (.int .i64 n0) ∧ W.cell? ⟨g2, 1, none⟩ = some (.int .i64 n1)) ((refine Kg.cells ?_; repeat (first | assumption | with_reducible refine Kg.drew ?_ | with_reducible refine Kg.call ?_ (by assumption) | ((with_reducible refine Kg.farR ?_ ?_); exact hgne))))
          (first | (go_at_call 23; refine (specIsVec_any _ _ _).mono ?_; rintro e w3 ⟨rfl, hb3⟩))
        have F3 := F2.drew.call hb3
        have B3 : Below w.heap.size w w3 := bstep B2.drew hb3
        clear r1 r2 r3 r4
        have r1 := F3.c0
        have r2 := F3.c1
        have r3 := F3.f0
        have r4 := F3.f1
        go_wp2
        refine bodyPost_ret (v := .tuple #[.agg #[.int .i64 0, .int .i64 0], .bool false]) (by simp [results, Tryz.results32, go_sem, r1, r2]) rfl ⟨0, 0, false, rfl, (fun h => by cases h), (fun _ => ⟨N.out, rfl, rfl⟩), ?_⟩
        repeat (first | assumption | refine Below.setCell ?_ (by first | omega | (simp <;> omega)) _ | refine Below.drew ?_ | refine below_drewN ?_ _ | refine bstep ?_ (by assumption))
      · have N := Lib.hid (HYES.out hv)
        go_wp2_with fail
        go_region_held3 (fun W => W.cell? ⟨g2, 0, none⟩ = some (.int .i64 n0) ∧ W.cell? ⟨g2, 1, none⟩ = some (.int .i64 n1)) ((refine Kg.cells ?_; repeat (first | assumption | with_reducible refine Kg.drew ?_ | with_reducible refine Kg.call ?_ (by assumption) | ((with_reducible refine Kg.farR ?_ ?_); exact hgne))))
          (first | (go_at_call 23; refine (specIsVec_any _ _ _).mono ?_; rintro e w3 ⟨rfl, hb3⟩))
        have F3 := F2.drew.call hb3
        have K3 : Kg g2 n0 n1 w3 := Kg.call KG.drew hb3
        have B3 : Below w.heap.size w w3 := bstep B2.drew hb3
        clear r1 r2 r3 r4 c0 c1
        have c0 := K3.c0
        have c1 := K3.c1
        have r1 := F3.c0
        have r2 := F3.c1
        have r3 := F3.f0
        have r4 := F3.f1
        go_wp2_with fail
        go_region_held3 (fun W => W.cell? ⟨g2, 0, none⟩ = some (.int .i64 n0) ∧ W.cell? ⟨g2, 1, none⟩ = some (.int .i64 n1)) ((refine Kg.cells ?_; repeat (first | assumption | with_reducible refine Kg.drew ?_ | with_reducible refine Kg.call ?_ (by assumption) | ((with_reducible refine Kg.farR ?_ ?_); exact hgne)))) (fail)
        go_wp2
        refine bodyPost_ret (v := .tuple #[.agg #[.int .i64 n0, .int .i64 n1], .bool true]) (by simp [results, Tryz.results32, go_sem, r1, r2]) rfl ⟨n0, n1, true, rfl, (fun _ => N.out), (fun h => by cases h), ?_⟩
        repeat (first | assumption | refine Below.setCell ?_ (by first | omega | (simp <;> omega)) _ | refine Below.drew ?_ | refine below_drewN ?_ _ | refine bstep ?_ (by assumption))
    · have N := Lib.hid (rdS_len HSP.out (by omega))
      have h2b : ((ns.length : Int) != 2) = true := by simp; omega
      clear hkc hown h2 hnl HN HSP
      go_wp2_with fail
      go_quiet (fail)
      go_wp2
      refine bodyPost_ret (v := .tuple #[.agg #[.int .i64 0, .int .i64 0], .bool false]) (by simp [results, Tryz.results32, go_sem, r1, r2]) rfl ⟨0, 0, false, rfl, (fun h => by cases h), (fun _ => ⟨N.out, rfl, rfl⟩), ?_⟩
      repeat (first | assumption | refine Below.setCell ?_ (by first | omega | (simp <;> omega)) _ | refine Below.drew ?_ | refine below_drewN ?_ _ | refine bstep ?_ (by assumption))

end Go.Proofs.YtpdekopmnchanabGreatDoor
