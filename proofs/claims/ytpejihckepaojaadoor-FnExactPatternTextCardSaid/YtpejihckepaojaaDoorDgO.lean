/-
  Numbers 0 to 9 written as digits into a row of bytes (digitsOf), and such a row as a string. Condition: a row that is not empty, its numbers 0 to 9.
-/
import Derived.Test.YtpejihckepaojaaDoorPtA
import Derived.Laws.BytesString
import Derived.Laws.Cells
import Derived.OwnWalk
namespace Go.Proofs.YtpejihckepaojaaDoor
open Go.RowKit
set_option linter.unusedSimpArgs false
set_option linter.unusedVariables false

def digN (n : Nat) (F : Nat → Int) : List Int := (List.range n).map fun t => 48 + F t
def digS (n : Nat) (F : Nat → Int) : ByteArray := (digN n F).foldl (fun r n => r.push (UInt8.ofNat n.toNat)) ByteArray.empty
theorem digN_succ (n : Nat) (F : Nat → Int) : digN (n + 1) F = digN n F ++ [48 + F n] := by simp [digN, List.range_succ]
theorem digN_len (n : Nat) (F : Nat → Int) : (digN n F).length = n := by simp [digN]
theorem digS_succ (n : Nat) (F : Nat → Int) : digS (n + 1) F = digS n F ++ ⟨[UInt8.ofNat (48 + F n).toNat].toArray⟩ := by
  unfold digS
  rw [digN_succ, List.foldl_append]
  simp only [List.foldl_cons, List.foldl_nil]
  apply ByteArray.ext
  simp
theorem digS_zero (F : Nat → Int) : digS 0 F = ⟨#[]⟩ := rfl
theorem digS_size (F : Nat → Int) : ∀ n, (digS n F).size = n
  | 0 => rfl
  | n + 1 => by rw [digS_succ, ByteArray.size_append, digS_size F n]; rfl
def digV (n : Nat) (F : Nat → Int) : List Value := (digN n F).map (Value.int .u8)
theorem digV_succ (n : Nat) (F : Nat → Int) : digV (n + 1) F = digV n F ++ [.int .u8 (48 + F n)] := by unfold digV; rw [digN_succ, List.map_append]; rfl
theorem digV_len (n : Nat) (F : Nat → Int) : (digV n F).length = n := by unfold digV; rw [List.length_map, digN_len]
theorem infoU8 : (Tryd.prog.info? 5).map (fun i => (i.zero, i.size, i.bytes)) = some (some (.int .u8 0), 1, 1) := by kernel_rfl
theorem info_partsU {p : Program} {t : TypeId} {z : Value} {s b : Nat} (h : (p.info? t).map (fun i => (i.zero, i.size, i.bytes)) = some (some z, s, b)) : ∃ i, p.info? t = some i ∧ i.zero = some z ∧ i.size = s ∧ i.bytes = b := by
  rcases hi : p.info? t with _ | i
  · rw [hi] at h; cases h
  · rw [hi] at h
    simp only [Option.map_some, Option.some.injEq, Prod.mk.injEq] at h
    exact ⟨i, rfl, h.1, h.2.1, h.2.2⟩
/- a row of digits as a string -/
theorem conv_dig {n cap g base : Nat} {F : Nat → Int} {W : World} (h : W.ownsRow base 5 1 (.slice (some ⟨g, 0, none⟩) n cap) n (digV n F)) :
    (convert 107 9 (.slice (some ⟨g, 0, none⟩) n cap)).run Tryd.prog W = .ok (.string (digS n F)) W := by
  rw [run_convert_bytes_string W 107 9 5 _ n cap Tryd.underlying107 Tryd.underlying5 Tryd.underlying9]
  have hl : (loadCells ⟨g, 0, none⟩ n).run Tryd.prog W = .ok ((digN n F).map (Value.int .u8)).toArray W := by
    have h9 := run_loadCells_list (P := Tryd.prog) W ⟨g, 0, none⟩ (digV n F) (fun j v hj => by
      have hjn : j < n := by
        have := (List.getElem?_eq_some_iff.1 hj).1
        rwa [digV_len] at this
      have e : (⟨g, 0, none⟩ : Addr).add j = ⟨g, j, none⟩ := by
        unfold Addr.add
        split
        · next h0 => rw [h0]
        · simp
      rw [e, h.cellAt j (by omega)]
      exact hj)
    rw [digV_len] at h9
    exact h9
  rw [run_bytesToString W ⟨g, 0, none⟩ n cap (digN n F) hl]
  rfl
set_option maxRecDepth 100000 in
set_option maxHeartbeats 8000000 in
theorem digitsOf_any {lo hi n : Nat} {v : Value} {F : Nat → Int} {w : World} (h : SRow lo hi 1 v n F w) (hn : 1 ≤ n) (hF : ∀ t, t < n → 0 ≤ F t ∧ F t ≤ 9) :
    Calls Tryd.prog 78 #[v] w fun e w' => ∃ (g cap : Nat), e = .returned (.slice (some ⟨g, 0, none⟩) n cap) ∧ w'.ownsRow w.heap.size 5 1 (.slice (some ⟨g, 0, none⟩) n cap) n (digV n F) ∧ Below w.heap.size w w' := by
  obtain ⟨i0, hinf, hz0, hz1, hz2⟩ := info_partsU infoU8
  have HM := Lib.hid h.2.1
  obtain ⟨g, cap, rfl, hg, _, r⟩ := h.irow hn
  have hgw : g < w.heap.size := Nat.lt_of_lt_of_le hg h.1
  have R := Lib.hid r
  have HF := Lib.hid hF
  have HN := Lib.hid hn
  clear h r hF hn hg
  go_enter Tryd.func78, Tryd.ntmps78
  go_wp2_with (refine wpList_make_own _ rfl _ _ 107 rfl w.heap.size 5 i0 (.int .u8 0) 1 Tryd.underlying107 hinf hz0 hz1 .i64 .i64 _ n rfl rfl rfl (by have := HM.out; rw [hz2]; omega) (by have := HM.out; unfold maxLen; omega) (Nat.le_refl _) ?_; intro w1 hown hgrow; have B1 : Below w.heap.size w w1 := Below.grown (Below.refl _ _) hgrow (Nat.le_refl _) (fun r hr => by cases hr))
  have O1 : w1.ownsRow w.heap.size 5 1 (.slice (some ⟨w.heap.size, 0, none⟩) 0 n) 0 (digV 0 F) := hown
  go_loopw [3, 11] (fun u s W => ∃ k : Nat, s = .int .i64 (k : Int) ∧ k ≤ n ∧ W.ownsRow w.heap.size 5 1 u k (digV k F) ∧ Below w.heap.size w W) (fun _ s _ => n - (intOf s).toNat)
  case atStart => exact ⟨0, rfl, by omega, O1, B1⟩
  case round =>
    clear O1 B1 hown hgrow
    obtain ⟨k, rfl, hk, hown, hB⟩ := hrel
    by_cases hk1 : k < n
    · have hk2 : (k : Int) < (n : Int) := by omega
      have hmx := HM.out
      have s1 := (R.out.grow hB hgw).at k (by omega)
      obtain ⟨hz9, hz10⟩ := HF.out k hk1
      have HNX := Lib.hid (digV_succ k F)
      generalize F k = x at *
      have HL := Lib.hid (digV_len k F)
      go_wp2_with (at_builtin; refine wpList_append_own _ rfl _ _ 107 rfl w.heap.size 5 i0 (.int .u8 0) 1 1 Tryd.underlying107 hinf hz0 hz1 hz2 rfl (by decide) _ _ _ rfl (hown.alloc _) ⟨wr.heap.size, 0, none⟩ 1 1 [.int .u8 (48 + x)] rfl rfl ?c1 ?c2 ?c3 ?c4 ?c5 ?_)
      case c1 =>
        intro j u hj
        match j, hj with
        | 0, hj => simp at hj; subst hj; simp [Addr.add]
      case c2 => intro u hu; simp at hu; subst hu; rfl
      case c3 => unfold maxLen; omega
      case c4 => omega
      case c5 => have := hB.size; simp; omega
      intro v' w2 hown' hgrow _
      have B2 : Below w.heap.size w w2 := Below.grown (Below.alloc hB hB.size _) hgrow (by have := hB.size; simp; omega) (fun j hj => by have := (hown.lt j hj).1; omega)
      have hown2 : w2.ownsRow w.heap.size 5 1 v' (k + 1) (digV (k + 1) F) := by rw [HNX.out]; exact hown'
      clear hown hgrow hown'
      go_wp2
      go_roundw
      case rel => exact ⟨k + 1, by go_num, by omega, hown2, B2⟩
      case measure => first | (simp [intOf]; done) | (simp [intOf]; omega)
    · obtain rfl : k = n := by omega
      have HN1 := HN.out
      obtain ⟨hx, ⟨_, h0⟩ | ⟨g', cap', cur, rfl, _⟩⟩ := id hown
      · omega
      have HO := Lib.hid hown
      clear hown hx
      go_wp2
      refine bodyPost_ret (v := .slice (some ⟨g', 0, none⟩) k cap') (by simp [results, Tryd.results78, go_sem, *]) rfl ⟨_, _, rfl, HO.out, hB⟩
end Go.Proofs.YtpejihckepaojaaDoor
