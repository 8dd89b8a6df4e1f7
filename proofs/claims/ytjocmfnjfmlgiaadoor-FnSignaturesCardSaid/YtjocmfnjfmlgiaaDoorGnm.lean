/-
  GroupNames in the program, the law's helpers on []string, and the walk of its exact law: the law returns true and writes nothing that was there. Condition: the program's variable namedGroups holds its seventeen entries.
-/
import Derived.Test.YtjocmfnjfmlgiaaDoorNm4
import Derived.IntWalk
import Derived.OwnWalk
import Derived.LoopTactic
import Derived.BigQuiet
import Derived.Deep.QuietTactic
import Derived.Deep.RegionHeld3
import Derived.Laws.BytesString
namespace Go.Proofs.YtjocmfnjfmlgiaaDoor
open Go.RowKit
set_option linter.unusedSimpArgs false
set_option linter.unusedVariables false

theorem infoStr : (Tryd.prog.info? 9).map (fun i => (i.zero, i.size, i.bytes)) = some (some (.string ⟨#[]⟩), 1, 16) := by kernel_rfl
theorem one_oneS {a : ByteArray} : ∀ u ∈ [Value.string a], u.oneCell' = true := by
  intro u hu
  rw [List.mem_singleton.1 hu]; rfl
theorem new_oneS {W : World} {g : Nat} (T : TypeId) (a : Value) (hg : g = W.heap.size) : ∀ (j : Nat) (u : Value), [a][j]? = some u → (W.alloc (.cells #[a] T)).cell? ((⟨g, 0, none⟩ : Addr).add j) = some u
  | 0, u, h => by simp at h; subst h hg; simp [Addr.add, go_sem]
  | j + 1, u, h => by simp at h
theorem below_drewS {g : Nat} {w W : World} (h : Below g w W) (n : Nat) : Below g w (W.drewN n) := by
  induction n with
  | zero => exact h
  | succ n ih => exact ih.drew
def strL (nm : Nat → ByteArray) (k : Nat) : List Value := (List.range k).map fun j => Value.string (nm j)
theorem strL_len (nm : Nat → ByteArray) (k : Nat) : (strL nm k).length = k := by simp [strL]
theorem strL_next (nm : Nat → ByteArray) (k : Nat) : strL nm (k + 1) = strL nm k ++ [.string (nm k)] := by simp [strL, List.range_succ]
set_option maxRecDepth 100000 in
set_option maxHeartbeats 8000000 in
theorem implGN_any (w : World) (hN : NamesOK w) :
    Calls Tryd.prog 10 #[] w fun z w' => ∃ v, z = .returned v ∧ w'.ownsRow w.heap.size 9 1 v 17 (strL naB 17) ∧ Below w.heap.size w w' := by
  obtain ⟨i0, hinf, hz0, hz1, hz2⟩ := info_parts infoStr
  go_enter Tryd.func10, Tryd.ntmps10
  go_wp2_with (refine wpList_load_mid rfl 43 (.global 0) rfl 0 0 rfl nmC (.array 17 42) hN.rng Tryd.underlying43 rfl (by kernel_rfl) ?_)
  go_loopw [1, 5] (fun s1 s5 W => ∃ k : Nat, s5 = .int .i64 (k : Int) ∧ k ≤ 17 ∧ W.ownsRow w.heap.size 9 1 s1 k (strL naB k) ∧ Below w.heap.size w W) (fun _ s5 _ => 17 - (intOf s5).toNat)
  case atStart => exact ⟨0, rfl, by omega, World.ownsRow_nil _ _ _ _, Below.refl _ _⟩
  case round =>
    obtain ⟨k, rfl, hk, hown, hB⟩ := hrel
    clear hN
    by_cases hk1 : k < 17
    · have hk2 : (k : Int) < 17 := by omega
      have hx := ixN k hk1
      have zB := hB.size
      have O3 := World.ownsRow.alloc hown (.cells #[.string (naB k), .string (sgB k), .int .i64 (poI k)] 42)
      have B3 := hB.alloc zB (.cells #[.string (naB k), .string (sgB k), .int .i64 (poI k)] 42)
      have z3 : (wr.alloc (.cells #[.string (naB k), .string (sgB k), .int .i64 (poI k)] 42)).heap.size = wr.heap.size + 1 := by simp
      have HS := Lib.hid (strL_next naB k)
      have HL := Lib.hid (strL_len naB k)
      clear hown hB
      go_wp2_with (at_builtin; refine wpList_append_own _ rfl _ _ 22 rfl w.heap.size 9 i0 (.string ⟨#[]⟩) 1 16 Tryd.underlying22 hinf hz0 hz1 hz2 rfl (by decide) _ _ _ rfl (O3.alloc _) ⟨wr.heap.size + 1, 0, none⟩ 1 1 [.string (naB k)] rfl rfl (new_oneS _ _ (by simp)) one_oneS (by unfold maxLen; omega) (by omega) (by (try simp); omega) ?_; intro v9 w9 hown9 hgrow _)
      have B9 : Below w.heap.size w w9 := Below.grown (Below.alloc B3 (by simp; omega) _) hgrow (by simp; omega) (fun r hr => by have := (O3.lt r hr).1; omega)
      clear hgrow O3 B3
      go_wp2
      go_roundw
      case rel => exact ⟨k + 1, by go_num, by omega, by rw [HS.out]; exact hown9, B9⟩
      case measure => first | (simp [intOf]; done) | (simp [intOf]; omega)
    · obtain rfl : k = 17 := by omega
      go_wp2
      go_ret
      exact ⟨_, rfl, hown, hB⟩
theorem own_BX {W : World} {base n : Nat} {e : TypeId} {v : Value} {l : List Value} (h : W.ownsRow base e 1 v n l) (hn : 0 < n) : ∃ g cap, v = .slice (some ⟨g, 0, none⟩) n cap ∧ base ≤ g ∧ BX g l W := by
  rcases h.2 with ⟨_, hz⟩ | ⟨g, cap, cur, rfl, _⟩
  · omega
  · have hl := h.lt g rfl
    have hlen := h.1
    refine ⟨g, cap, rfl, hl.1, ⟨hl.2, fun t u ht => ?_⟩, fun t ht => h.frozenAt t⟩
    have : t < l.length := by
      rw [List.getElem?_eq_some_iff] at ht
      exact ht.1
    rw [h.cellAt t (by omega)]
    exact ht
theorem BX.str {g : Nat} {nm : Nat → ByteArray} {W : World} (h : BX g (strL nm 17) W) {k : Nat} (hk : k < 17) : W.cell? ⟨g, k, none⟩ = some (.string (nm k)) ∧ W.frozen? ⟨g, k, none⟩ = false := ⟨h.bx.cel k _ (by simp [strL, hk]), h.fr k (by rw [strL_len]; exact hk)⟩
theorem strL_set (nm : Nat → ByteArray) (k : Nat) (a : ByteArray) : (strL nm 17).set k (.string a) = strL (fun j => if j = k then a else nm j) 17 := by
  apply List.ext_getElem
  · simp [strL]
  · intro i h1 h2
    rw [List.getElem_set]
    simp only [strL, List.getElem_map, List.getElem_range]
    by_cases hi : k = i
    · subst hi; simp
    · rw [if_neg hi, if_neg (fun e => hi e.symm)]
/- the marks -/
def dgI (z : Int) : ByteArray := [48 + z].foldl (fun r n => r.push (UInt8.ofNat n.toNat)) ByteArray.empty
theorem dgI_size (z : Int) : (dgI z).size = 1 := rfl
def dgB (k : Nat) : ByteArray := dgI (k : Int)
def dg2 (n : Nat) (a : ByteArray) : ByteArray := if n = 0 then a else if n < 10 then dgB n ++ a else dgB (n / 10) ++ (dgB (n % 10) ++ a)
theorem dg2_step {n : Nat} {a : ByteArray} (h0 : 0 < n) (h : n ≤ 17) : dg2 (n / 10) (dgB (n % 10) ++ a) = dg2 n a := by
  unfold dg2
  by_cases h1 : n < 10
  · rw [if_pos (by omega), if_neg (by omega), if_pos h1, show n % 10 = n by omega]
  · rw [if_neg (by omega), if_pos (by omega), if_neg (by omega), if_neg h1]
def mkT (n : Nat) : ByteArray := ⟨#[109]⟩ ++ dg2 n ⟨#[]⟩
theorem conv1 (W : World) (z : Int) : (convert 38 9 (.slice (some ⟨W.heap.size, 0, none⟩) 1 1)).run Tryd.prog (W.alloc (.cells #[.int .u8 (48 + z)] 5)) = .ok (.string (dgI z)) (W.alloc (.cells #[.int .u8 (48 + z)] 5)) := by
  rw [run_convert_bytes_string _ 38 9 5 _ 1 1 Tryd.underlying38 Tryd.underlying5 Tryd.underlying9]
  have hl : (loadCells ⟨W.heap.size, 0, none⟩ 1).run Tryd.prog (W.alloc (.cells #[.int .u8 (48 + z)] 5)) = .ok (([48 + z] : List Int).map (Value.int .u8)).toArray (W.alloc (.cells #[.int .u8 (48 + z)] 5)) := by
    have h9 := run_loadCells_list (P := Tryd.prog) (W.alloc (.cells #[.int .u8 (48 + z)] 5)) ⟨W.heap.size, 0, none⟩ [.int .u8 (48 + z)] (fun j v hj => new_oneS 5 _ rfl j v hj)
    exact h9
  rw [run_bytesToString _ ⟨W.heap.size, 0, none⟩ 1 1 [48 + z] hl]
  rfl
set_option maxRecDepth 100000 in
set_option maxHeartbeats 8000000 in
theorem markText_any (n : Nat) (w : World) (h0 : 0 < n) (h : n ≤ 17) :
    Calls Tryd.prog 29 #[.int .i64 (n : Int)] w fun z w' => z = .returned (.string (mkT n)) ∧ Below w.heap.size w w' := by
  have hn0 : ¬ (n : Int) ≤ 0 := by omega
  go_enter Tryd.func29, Tryd.ntmps29
  go_wp2_with fail
  go_loopw [0, 3] (fun s0 s3 W => ∃ (m : Nat) (a : ByteArray), s0 = .int .i64 (m : Int) ∧ s3 = .string a ∧ m ≤ 17 ∧ a.size + m ≤ 17 ∧ dg2 m a = dg2 n ⟨#[]⟩ ∧ Below w.heap.size w W) (fun s0 _ _ => (intOf s0).toNat)
  case atStart => exact ⟨n, ⟨#[]⟩, rfl, rfl, h, by show 0 + n ≤ 17; omega, rfl, Below.refl _ _⟩
  case round =>
    obtain ⟨m, a, rfl, rfl, hm, hsz, hd, hB⟩ := hrel
    have hz1 : (dgI ((m : Int) % 10)).size = 1 := dgI_size _
    have hz2 : a.size ≤ 17 := by omega
    have hz3 : (⟨#[109]⟩ : ByteArray).size = 1 := rfl
    by_cases hm0 : 0 < m
    · have hm1 : (0 : Int) < (m : Int) := by omega
      have hcv := conv1 wr ((m : Int) % 10)
      have hd2 := (dg2_step (a := a) hm0 hm).trans hd
      rw [show dgB (m % 10) = dgI ((m : Int) % 10) from by unfold dgB; rw [show ((m % 10 : Nat) : Int) = (m : Int) % 10 from by omega]] at hd2
      have HD := Lib.hid hd2
      have A1 := hB.alloc hB.size (.cells #[.int .u8 (48 + (m : Int) % 10)] 5)
      clear hd2
      have hm17 : (m : Int) ≤ 17 := by omega
      clear hd
      go_wp2
      go_roundw
      case rel => exact ⟨m / 10, _, by go_num, rfl, by omega, by rw [ByteArray.size_append, hz1]; omega, HD.out, A1⟩
      case measure => first | (simp [intOf]; done) | (simp [intOf]; omega)
    · obtain rfl : m = 0 := by omega
      have HD := Lib.hid hd
      clear hd
      go_wp2
      go_ret
      exact ⟨ret_str (by unfold mkT; rw [← HD.out]; rfl), hB⟩
theorem markK_any (k : Nat) (w : World) (h : k ≤ 16) :
    Calls Tryd.prog 29 #[.int .i64 ((k : Int) + 1)] w fun z w' => z = .returned (.string (mkT (k + 1))) ∧ Below w.heap.size w w' := by
  have := markText_any (k + 1) w (by omega) (by omega)
  rwa [show ((k + 1 : Nat) : Int) = (k : Int) + 1 from by omega] at this
set_option maxRecDepth 100000 in
set_option maxHeartbeats 8000000 in
theorem eqSS_any (nm : Nat → ByteArray) (g g' c c' : Nat) (w : World) (h1 : Bx g (strL nm 17) w) (h2 : Bx g' (strL nm 17) w) :
    Calls Tryd.prog 11 #[.slice (some ⟨g, 0, none⟩) 17 c, .slice (some ⟨g', 0, none⟩) 17 c'] w fun z w' => z = .returned (.bool true) ∧ Below w.heap.size w w' := by
  have H1 := Lib.hid h1
  have H2 := Lib.hid h2
  clear h1 h2
  go_enter Tryd.func11, Tryd.ntmps11
  go_wp2_with fail
  go_loopw [5] (fun i W => ∃ k : Nat, i = .int .i64 (k : Int) ∧ k ≤ 17 ∧ Below w.heap.size w W) (fun i _ => 17 - (intOf i).toNat)
  case atStart => exact ⟨0, rfl, by omega, Below.refl _ _⟩
  case round =>
    obtain ⟨k, rfl, hk, hB⟩ := hrel
    by_cases hk1 : k < 17
    · have hk2 : (k : Int) < 17 := by omega
      have x1 := (H1.out.grow hB H1.out.lt).str hk1
      have x2 := (H2.out.grow hB H2.out.lt).str hk1
      generalize nm k = a at x1 x2
      have he : (a.toList == a.toList) = true := by simp
      have he2 : (a.toList != a.toList) = false := by simp
      go_wp2_with fail
      go_quiet (fail)
      go_wp2
      go_roundw
      case rel => exact ⟨k + 1, by go_num, by omega, below_drewS hB _⟩
      case measure => first | (simp [intOf]; done) | (simp [intOf]; omega)
    · obtain rfl : k = 17 := by omega
      go_wp2
      go_ret
      exact ⟨rfl, hB⟩
def mkN (nm : Nat → ByteArray) (k : Nat) : Nat → ByteArray := fun j => if j < k then mkT (j + 1) else nm j
theorem mkN_next (nm : Nat → ByteArray) (k : Nat) : (fun j => if j = k then mkT (k + 1) else mkN nm k j) = mkN nm (k + 1) := by
  funext j
  unfold mkN
  by_cases h1 : j = k
  · subst h1; rw [if_pos rfl, if_pos (by omega)]
  · by_cases h2 : j < k
    · rw [if_neg h1, if_pos h2, if_pos (by omega)]
    · rw [if_neg h1, if_neg h2, if_neg (by omega)]
set_option maxRecDepth 100000 in
set_option maxHeartbeats 8000000 in
theorem mkSS_any (nm : Nat → ByteArray) (g c : Nat) (w : World) (base : Nat) (hb : base ≤ g) (hbw : base ≤ w.heap.size) (h1 : BX g (strL nm 17) w) :
    Calls Tryd.prog 12 #[.slice (some ⟨g, 0, none⟩) 17 c, .int .i64 1] w fun z w' => z = .returned (.int .i64 18) ∧ BX g (strL (fun j => mkT (j + 1)) 17) w' ∧ Below base w w' := by
  have H1 := Lib.hid h1
  clear h1
  go_enter Tryd.func12, Tryd.ntmps12
  go_wp2_with fail
  go_loopw [1, 5] (fun n i W => ∃ k : Nat, n = .int .i64 ((k : Int) + 1) ∧ i = .int .i64 (k : Int) ∧ k ≤ 17 ∧ BX g (strL (mkN nm k) 17) W ∧ Below base w W) (fun _ i _ => 17 - (intOf i).toNat)
  case atStart => exact ⟨0, rfl, rfl, by omega, by rw [show mkN nm 0 = nm from by funext j; simp [mkN]]; exact H1.out, Below.refl _ _⟩
  case round =>
    obtain ⟨k, rfl, rfl, hk, X, hB⟩ := hrel
    by_cases hk1 : k < 17
    · have hk2 : (k : Int) < 17 := by omega
      have zB := hB.size
      have HX := Lib.hid X
      have hxl := X.lt
      clear X
      go_wp2_with (go_at_call 29; with_reducible refine (markK_any k _ (by omega)).mono ?_; rintro z9 w9 ⟨rfl, hb9⟩; have X9 := HX.out.call hb9; have x9 := (X9.str hk1).1; have f9 := (X9.str hk1).2; have l9 := X9.lt; have B9 := hB.trans (hb9.mono (by omega)); have HS9 := Lib.hid (X9.store k (by rw [strL_len]; exact hk1) (.string (mkT (k + 1)))); clear hb9)
      have HS := Lib.hid (show BX g (strL (mkN nm (k + 1)) 17) _ by have h9 := HS9.out; rw [strL_set, mkN_next] at h9; exact h9)
      go_wp2
      go_roundw
      case rel => exact ⟨k + 1, by go_num, by go_num, by omega, HS.out, B9.setCell (by omega) _⟩
      case measure => first | (simp [intOf]; done) | (simp [intOf]; omega)
    · obtain rfl : k = 17 := by omega
      have HX := Lib.hid X
      clear X
      go_wp2
      go_ret
      refine ⟨rfl, ?_, hB⟩
      have e : strL (mkN nm 17) 17 = strL (fun j => mkT (j + 1)) 17 := by
        refine List.map_congr_left fun j hj => ?_
        have := List.mem_range.1 hj
        simp [mkN, this]
      rw [← e]
      exact HX.out
set_option maxRecDepth 100000 in
set_option maxHeartbeats 8000000 in
theorem hdSS_any (g c : Nat) (w : World) (h1 : Bx g (strL (fun j => mkT (j + 1)) 17) w) :
    Calls Tryd.prog 13 #[.slice (some ⟨g, 0, none⟩) 17 c, .int .i64 1] w fun z w' => z = .returned (.int .i64 18) ∧ Below w.heap.size w w' := by
  have H1 := Lib.hid h1
  clear h1
  go_enter Tryd.func13, Tryd.ntmps13
  go_wp2_with fail
  go_loopw [1, 5] (fun n i W => ∃ k : Nat, n = .int .i64 ((k : Int) + 1) ∧ i = .int .i64 (k : Int) ∧ k ≤ 17 ∧ Below w.heap.size w W) (fun _ i _ => 17 - (intOf i).toNat)
  case atStart => exact ⟨0, rfl, rfl, by omega, Below.refl _ _⟩
  case round =>
    obtain ⟨k, rfl, rfl, hk, hB⟩ := hrel
    by_cases hk1 : k < 17
    · have hk2 : (k : Int) < 17 := by omega
      have X := H1.out.grow hB H1.out.lt
      have x1 : wr.cell? ⟨g, k, none⟩ = some (.string (mkT (k + 1))) := X.cel k _ (by simp [strL, hk1])
      have hxl := X.lt
      have zB := hB.size
      obtain ⟨a, ha⟩ : ∃ a, a = mkT (k + 1) := ⟨_, rfl⟩
      rw [← ha] at x1
      have HM := Lib.hid (fun (X : World) => (show Calls Tryd.prog 29 #[.int .i64 ((k : Int) + 1)] X fun z w' => z = .returned (.string a) ∧ Below X.heap.size X w' from by rw [ha]; exact markK_any k X (by omega)))
      clear ha
      have he2 : (a.toList != a.toList) = false := by simp
      have he : (a.toList == a.toList) = true := by simp
      go_wp2_with fail
      go_region_held3 (fun W9 => W9.cell? ⟨g, k, none⟩ = some (.string a)) (first | assumption | (simp; assumption))
        (first
          | (go_at_call 29; refine (HM.out _).mono ?_; rintro z9 w9 ⟨rfl, hb9⟩; have c9 : Below wr.heap.size wr w9 := (bstep (by repeat (first | with_reducible exact Below.refl _ _ | with_reducible refine Below.drew ?_)) hb9); have y9 : w9.cell? ⟨g, k, none⟩ = some (.string a) := (by rw [c9.cell (p := ⟨g, k, none⟩) hxl]; exact x1)))
      all_goals
        have B9 := bstep hB c9
        go_wp2
        go_roundw
        case rel => exact ⟨k + 1, by go_num, by go_num, by omega, B9⟩
        case measure => first | (simp [intOf]; done) | (simp [intOf]; omega)
    · obtain rfl : k = 17 := by omega
      go_wp2
      go_ret
      exact ⟨rfl, hB⟩
set_option maxRecDepth 100000 in
set_option maxHeartbeats 8000000 in
theorem walkGN (w : World) (hN : NamesOK w) :
    Calls Tryd.prog 3 #[] w fun z w' => z = .returned (.bool true) ∧ Below w.heap.size w w' := by
  have HN := Lib.hid hN
  clear hN
  go_enter Tryd.func3, Tryd.ntmps3
  go_wp2_with fail
  with_reducible refine (specGN_any _).mono ?_
  rintro z1 w1 ⟨rfl, X1, B1⟩
  have X1 : Bx w.heap.size (strL naB 17) w1 := X1
  go_wp2_with fail
  with_reducible refine (implGN_any _ (HN.out.call B1)).mono ?_
  rintro z2 w2 ⟨v2, rfl, o2, hb2⟩
  obtain ⟨g2, c2, rfl, hg2, Y2⟩ := own_BX o2 (by omega)
  have X2 := X1.call hb2
  have B2 := bstep B1 hb2
  have z2 := hb2.size
  have z1 := X1.lt
  clear o2 hb2 B1
  go_wp2_with fail
  with_reducible refine (eqSS_any naB g2 w.heap.size c2 17 _ Y2.bx X2).mono ?_
  rintro z3 w3 ⟨rfl, hb3⟩
  have X3 := X2.call hb3
  have Y3 := Y2.call hb3
  have B3 := bstep B2 hb3
  have z3 := hb3.size
  clear X2 Y2 B2 hb3
  go_wp2_with fail
  with_reducible refine (mkSS_any naB g2 c2 _ w1.heap.size hg2 (by omega) Y3).mono ?_
  rintro z4 w4 ⟨rfl, Y4, hb4⟩
  have X4 := X3.grow hb4 z1
  have B4 := B3.trans (hb4.mono (by omega))
  have z4 := hb4.size
  clear X3 Y3 B3 hb4
  go_wp2_with fail
  with_reducible refine (hdSS_any g2 c2 _ Y4.bx).mono ?_
  rintro z5 w5 ⟨rfl, hb5⟩
  have X5 := X4.call hb5
  have Y5 := Y4.call hb5
  have B5 := bstep B4 hb5
  clear X4 Y4 B4 hb5
  go_wp2_with fail
  with_reducible refine (implGN_any _ (HN.out.call B5)).mono ?_
  rintro z6 w6 ⟨v6, rfl, o6, hb6⟩
  obtain ⟨g6, c6, rfl, hg6, Y6⟩ := own_BX o6 (by omega)
  have X6 := X5.call hb6
  have M6 := Y5.call hb6
  have B6 := bstep B5 hb6
  clear o6 hb6 B5 X5 Y5
  go_wp2_with fail
  with_reducible refine (eqSS_any naB g6 w.heap.size c6 17 _ Y6.bx X6).mono ?_
  rintro z7 w7 ⟨rfl, hb7⟩
  have M7 := M6.call hb7
  have B7 := bstep B6 hb7
  clear X6 Y6 M6 B6 hb7
  go_wp2_with fail
  with_reducible refine (hdSS_any g2 c2 _ M7.bx).mono ?_
  rintro z8 w8 ⟨rfl, hb8⟩
  have B8 := bstep B7 hb8
  clear M7 B7 hb8
  go_wp2
  go_ret
  exact ⟨rfl, B8⟩
end Go.Proofs.YtjocmfnjfmlgiaaDoor
