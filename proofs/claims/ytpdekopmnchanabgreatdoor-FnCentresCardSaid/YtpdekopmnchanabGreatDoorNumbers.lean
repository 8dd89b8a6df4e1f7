/-
  The contract of the model's l01Numbers: the numbers whose numerals the words are, and that there is a word without one otherwise. Condition: at most 2^20 + 1 words of at most 2^20 bytes.
-/
import Derived.Test.YtpdekopmnchanabGreatDoorSplit
namespace Go.Proofs.YtpdekopmnchanabGreatDoor
open Go.RowKit
set_option linter.unusedSimpArgs false
set_option linter.unusedVariables false

theorem own_cell {w : World} {base : Nat} {e : TypeId} {g n cap : Nat} {xs : List Value} (h : w.ownsRow base e 1 (.slice (some ⟨g, 0, none⟩) n cap) n xs) : base ≤ g ∧ g < w.heap.size ∧ ∀ (i : Nat) (hi : i < xs.length), w.cell? ⟨g, i, none⟩ = some xs[i] := by
  obtain ⟨hl, ⟨hv, _⟩ | ⟨g', cap', cur, hv, hb, hh, hn, hm, hs, ht⟩⟩ := h
  · cases hv
  · simp only [Value.slice.injEq, Option.some.injEq, Addr.mk.injEq] at hv
    obtain ⟨⟨rfl, _⟩, _, rfl⟩ := hv
    refine ⟨hb, ?_, fun i hi => ?_⟩
    · rcases Nat.lt_or_ge g w.heap.size with h1 | h1
      · exact h1
      · rw [Array.getElem?_eq_none h1] at hh; cases hh
    · have hi2 : i < cur.size := by
        have : xs.length ≤ cur.size := by
          rw [← ht, List.length_take]
          have := Nat.min_le_right (n * 1) cur.toList.length
          simpa using this
        omega
      have e1 : cur[i] = xs[i] := by
        have : (cur.toList.take (n * 1))[i]'(by rw [ht]; exact hi) = xs[i] := by simp only [ht]
        rw [List.getElem_take] at this
        simpa using this
      simp [World.cell?, hh, hi2, e1]
theorem own_form {w : World} {base : Nat} {e : TypeId} {v : Value} {n : Nat} {xs : List Value} (h : w.ownsRow base e 1 v n xs) (hn : n ≠ 0) : ∃ g cap, v = .slice (some ⟨g, 0, none⟩) n cap := by
  obtain ⟨_, ⟨_, h0⟩ | ⟨g, cap, _, hv, _⟩⟩ := h
  · exact absurd h0 hn
  · exact ⟨g, cap, hv⟩

theorem own_call {W w1 : World} {base : Nat} {e : TypeId} {v : Value} {n : Nat} {xs : List Value} (h : W.ownsRow base e 1 v n xs) (hb : Below W.heap.size W w1) : w1.ownsRow base e 1 v n xs := by
  obtain ⟨hl, h0 | ⟨g, cap, cur, hv, hB, hh, r⟩⟩ := h
  · exact ⟨hl, .inl h0⟩
  · have hg : g < W.heap.size := by
      rcases Nat.lt_or_ge g W.heap.size with h1 | h1
      · exact h1
      · rw [Array.getElem?_eq_none h1] at hh; cases hh
    exact ⟨hl, .inr ⟨g, cap, cur, hv, hB, (hb.block g hg).trans hh, r⟩⟩

theorem info2 : (Tryz.prog.info? 2).map (fun i => (i.zero, i.size, i.bytes)) = some (some (.int .i64 0), 1, 8) := by kernel_rfl

def NumsK (ws : List (List UInt8)) (ns : List Int) (k : Nat) : Prop := ns.length = k ∧ ∀ (i : Nat) (h : i < ws.length), i < k → NumYes ws[i] (ns.getD i 0)
theorem numsK_next {ws : List (List UInt8)} {ns : List Int} {k : Nat} {n : Int} (h : NumsK ws ns k) (hk : k < ws.length) (hn : NumYes ws[k] n) : NumsK ws (ns ++ [n]) (k + 1) := by
  obtain ⟨h1, h2⟩ := h
  refine ⟨by simp [h1], fun i hi hik => ?_⟩
  by_cases e : i = k
  · subst e
    have : (ns ++ [n]).getD i 0 = n := by simp [List.getD, ← h1]
    rw [this]; exact hn
  · have hlt : i < k := by omega
    have : (ns ++ [n]).getD i 0 = ns.getD i 0 := by
      simp [List.getD, List.getElem?_append_left (show i < ns.length by omega)]
    rw [this]; exact h2 i hi hlt
theorem ints_next {w1 : World} {base : Nat} {e : TypeId} {v : Value} {ns : List Int} {n : Int} (h : w1.ownsRow base e 1 v (ns.length + 1) (ns.map (Value.int .i64) ++ [.int .i64 n])) : w1.ownsRow base e 1 v (ns ++ [n]).length ((ns ++ [n]).map (Value.int .i64)) := by
  simpa using h

def NumbersPost (ws : List (List UInt8)) (w : World) (e : Ending) (w' : World) : Prop :=
  ∃ (v : Value) (b : Bool) (ns : List Int), e = .returned (.tuple #[v, .bool b]) ∧ (b = true → NumsK ws ns ws.length ∧ w'.ownsRow w.heap.size 2 1 v ns.length (ns.map (Value.int .i64))) ∧ (b = false → v = .slice none 0 0 ∧ ∃ x ∈ ws, NumNo x) ∧ Below w.heap.size w w'

set_option maxHeartbeats 2000000 in
theorem numbers_any (ws : List (List UInt8)) (g cap : Nat) (w : World) (hg : g < w.heap.size) (hw : ws.length ≤ 1048577) (hx : ∀ x ∈ ws, x.length ≤ 1048576)
    (hc : ∀ (i : Nat) (hi : i < ws.length), w.cell? ⟨g, i, none⟩ = some (strV ws[i])) :
    Calls Tryz.prog 62 #[.slice (some ⟨g, 0, none⟩) ws.length cap] w (NumbersPost ws w) := by
  obtain ⟨i0, hi, hz0, hz1, hz2⟩ := info_parts info2
  have HC := Lib.hid hc
  have HX := Lib.hid hx
  clear hc hx
  go_enter Tryz.func62, Tryz.ntmps62
  go_wp2_with fail
  go_loopw [4, 5] (fun v i wr => ∃ (k : Nat) (ns : List Int), i = .int .i64 k ∧ k ≤ ws.length ∧ ns.length ≤ k ∧ Hid (NumsK ws ns k) ∧ wr.ownsRow w.heap.size 2 1 v ns.length (ns.map (Value.int .i64)) ∧ Below w.heap.size w wr) (fun _ i _ => ws.length - (intOf i).toNat)
  case atStart => exact ⟨0, [], rfl, by omega, by simp, ⟨rfl, fun i h h2 => by omega⟩, own_start w _, (Below.refl _ _).alloc (Nat.le_refl _) _⟩
  case round =>
    obtain ⟨k, ns, rfl, hk, hnk, hN, hown, hB⟩ := hrel
    by_cases h1 : k < ws.length
    · have hBs := hB.size
      have hcell : wr.cell? ⟨g, k, none⟩ = some (.string ⟨ws[k].toArray⟩) := (hB.cell (by exact hg)).trans (HC.out k h1)
      have S := Lib.hid (fun W => signed_any ⟨ws[k].toArray⟩ (by show ws[k].toArray.size ≤ _; simpa using HX.out ws[k] (List.getElem_mem h1)) W)
      have hk0 : (0 : Int) ≤ (k : Int) := by omega
      have hk1 : (k : Int) < (ws.length : Int) := by omega
      go_wp2_with fail
      refine (S.out _).mono ?_
      rintro e w1 ⟨n, b, rfl, y, z, hb1⟩
      have y' : b = true → NumYes ws[k] n := y
      have z' : b = false → NumNo ws[k] := z
      have B1 : Below w.heap.size w w1 := bstep hB hb1
      have hBs1 := B1.size
      have hown1 := own_call hown hb1
      clear y z hcell hown hB hb1 hBs
      cases b
      · have N := Lib.hid (z' rfl)
        clear y' z'
        go_wp2
        go_ret2
        exact ⟨.slice none 0 0, false, ns, rfl, (fun h => by cases h), (fun _ => ⟨rfl, ws[k], List.getElem_mem h1, N.out⟩), B1⟩
      · have N := Lib.hid (numsK_next hN.out h1 (y' rfl))
        clear y' z' hN
        go_wp2_with (first | (at_builtin; refine wpList_append_own _ rfl _ _ 84 rfl w.heap.size 2 i0 (.int .i64 0) 1 8 Tryz.underlying84 hi hz0 hz1 hz2 rfl (by decide) _ _ _ rfl (hown1.alloc _) ⟨w1.heap.size, 0, none⟩ 1 1 [.int .i64 n] rfl rfl ?c1 ?c2 ?c3 ?c4 ?c5 ?_))
        case c1 =>
          intro j u hj
          match j, hj with
          | 0, hj => simp at hj; subst hj; simp [Addr.add]
        case c2 => intro u hu; simp at hu; subst hu; rfl
        case c3 => unfold maxLen; omega
        case c4 => omega
        case c5 => simp; omega
        intro v' w2 hown' hgrow _
        have O := Lib.hid (ints_next hown')
        have B2 : Below w.heap.size w w2 := (B1.alloc hBs1 _).grown hgrow (by simp; omega) (own_base hown1)
        clear hown' hgrow hown1
        go_wp2
        go_roundw
        case rel => exact ⟨k + 1, ns ++ [n], by go_num, by omega, by simp; omega, N.out, O.out, B2⟩
        case measure => first | (simp [intOf]; done) | (simp [intOf]; omega)
    · obtain rfl : k = ws.length := by omega
      go_wp2
      go_ret2
      exact ⟨_, true, ns, rfl, (fun _ => ⟨hN.out, hown⟩), (fun h => by cases h), hB⟩

end Go.Proofs.YtpdekopmnchanabGreatDoor
