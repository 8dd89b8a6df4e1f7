/-
  The names, signatures and point orders by their places; groupNamed, SignatureOf, PointOrder and NameOfSignature in the program and in the model (chapter 12). Condition: the program's variable namedGroups holds its seventeen entries.
-/
import Derived.Test.YtjocmfnjfmlgiaaDoorNmI
import Derived.Test.YtjocmfnjfmlgiaaDoorBx
import Derived.Deep.MidRow
import Derived.LoopTactic
import Derived.IntWalk
namespace Go.Proofs.YtjocmfnjfmlgiaaDoor
open Go.RowKit
set_option linter.unusedSimpArgs false
set_option linter.unusedVariables false

def naB (k : Nat) : ByteArray := nmB (k + 1)
def sgB (k : Nat) : ByteArray := [⟨#[111]⟩, ⟨#[50, 50, 50, 50]⟩, ⟨#[42, 42]⟩, ⟨#[120, 120]⟩, ⟨#[42, 120]⟩, ⟨#[42, 50, 50, 50, 50]⟩, ⟨#[50, 50, 42]⟩, ⟨#[50, 50, 120]⟩, ⟨#[50, 42, 50, 50]⟩, ⟨#[52, 52, 50]⟩, ⟨#[42, 52, 52, 50]⟩, ⟨#[52, 42, 50]⟩, ⟨#[51, 51, 51]⟩, ⟨#[42, 51, 51, 51]⟩, ⟨#[51, 42, 51]⟩, ⟨#[54, 51, 50]⟩, ⟨#[42, 54, 51, 50]⟩].getD k ⟨#[]⟩
def poI (k : Nat) : Int := [1, 2, 2, 2, 2, 4, 4, 4, 4, 4, 8, 8, 3, 6, 6, 6, 12].getD k 0
def nmC : List Value := ((List.range 17).map fun k => [Value.string (naB k), .string (sgB k), .int .i64 (poI k)]).flatten
def nmA : Array Value := nmC.toArray
theorem abN (w : World) (o : Obj) : Below w.heap.size w (w.alloc o) := (Below.refl _ _).alloc (Nat.le_refl _) _
structure NamesOK (W : World) : Prop where
  lt : 0 < W.heap.size
  rng : W.rangeAt 0 0 nmC
theorem NamesOK.call {W W' : World} (h : NamesOK W) (hb : Below W.heap.size W W') : NamesOK W' :=
  ⟨Nat.lt_of_lt_of_le h.lt hb.size, fun j v hj => by rw [hb.cell (p := ⟨0, 0 + j, none⟩) h.lt]; exact h.rng j v hj⟩
theorem NamesOK.load {W : World} (h : NamesOK W) : (Instr.loadAt 43 (.pointer (some ⟨0, 0, none⟩))).run Tryd.prog W = .ok (.agg nmC.toArray) W :=
  run_loadAt_mid W 0 0 43 nmC (.array 17 42) h.rng Tryd.underlying43 rfl (by kernel_rfl)
theorem ixN : ∀ (k : Nat), k < 17 → ∀ W : World, (Instr.index 43 (.agg nmC.toArray) (.int .i64 (k : Int))).run Tryd.prog W = .ok (.agg #[.string (naB k), .string (sgB k), .int .i64 (poI k)]) W
  | 0, _, W => by kernel_rfl
  | 1, _, W => by kernel_rfl
  | 2, _, W => by kernel_rfl
  | 3, _, W => by kernel_rfl
  | 4, _, W => by kernel_rfl
  | 5, _, W => by kernel_rfl
  | 6, _, W => by kernel_rfl
  | 7, _, W => by kernel_rfl
  | 8, _, W => by kernel_rfl
  | 9, _, W => by kernel_rfl
  | 10, _, W => by kernel_rfl
  | 11, _, W => by kernel_rfl
  | 12, _, W => by kernel_rfl
  | 13, _, W => by kernel_rfl
  | 14, _, W => by kernel_rfl
  | 15, _, W => by kernel_rfl
  | 16, _, W => by kernel_rfl
  | k + 17, h, _ => absurd h (by omega)
/- the place of a word among seventeen -/
def ixF (nm : Nat → ByteArray) (s : ByteArray) : Option Nat := (List.range 17).find? fun k => (nm k).toList == s.toList
theorem ixF_yes {nm : Nat → ByteArray} {s : ByteArray} {k : Nat} (hk : k < 17) (h : ((nm k).toList == s.toList) = true) (hj : ∀ j, j < k → ((nm j).toList == s.toList) = false) : ixF nm s = some k := by
  unfold ixF
  rw [List.find?_range_eq_some]
  exact ⟨h, by simpa using hk, fun j hjk => by rw [hj j hjk]; rfl⟩
theorem ixF_no {nm : Nat → ByteArray} {s : ByteArray} (hj : ∀ j, j < 17 → ((nm j).toList == s.toList) = false) : ixF nm s = none := by
  unfold ixF
  rw [List.find?_eq_none]
  intro j h
  rw [hj j (List.mem_range.1 h)]
  decide
theorem ixF_lt {nm : Nat → ByteArray} {s : ByteArray} {k : Nat} (h : ixF nm s = some k) : k < 17 := List.mem_range.1 (List.mem_of_find?_eq_some h)
def gnT (s : ByteArray) : Value := match ixF naB s with
  | some k => .tuple #[.agg #[.string (naB k), .string (sgB k), .int .i64 (poI k)], .int .i64 0]
  | none => .tuple #[.agg #[.string ⟨#[]⟩, .string ⟨#[]⟩, .int .i64 0], .int .i64 4]
set_option maxRecDepth 100000 in
set_option maxHeartbeats 8000000 in
theorem gn_any (s : ByteArray) (w : World) (hN : NamesOK w) :
    Calls Tryd.prog 34 #[.string s] w fun z w' => z = .returned (gnT s) ∧ Below w.heap.size w w' := by
  have X0 : BX w.heap.size [.string ⟨#[]⟩, .string ⟨#[]⟩, .int .i64 0] (w.alloc (.cells #[.string ⟨#[]⟩, .string ⟨#[]⟩, .int .i64 0] 42)) := BX.at _ rfl
  have hL := hN.call (abN w (.cells #[.string ⟨#[]⟩, .string ⟨#[]⟩, .int .i64 0] 42))
  have HN := Lib.hid hN
  clear hN
  go_enter Tryd.func34, Tryd.ntmps34
  go_wp2_with (refine wpList_load_mid rfl 43 (.global 0) rfl 0 0 rfl nmC (.array 17 42) hL.rng Tryd.underlying43 rfl (by kernel_rfl) ?_)
  go_loopw [7] (fun s7 W => ∃ k : Nat, s7 = .int .i64 (k : Int) ∧ k ≤ 17 ∧ (∀ j, j < k → ((naB j).toList == s.toList) = false) ∧ BX w.heap.size [.string ⟨#[]⟩, .string ⟨#[]⟩, .int .i64 0] W ∧ Below w.heap.size w W) (fun s7 _ => 17 - (intOf s7).toNat)
  case atStart => exact ⟨0, rfl, by omega, fun j h => absurd h (by omega), X0, abN _ _⟩
  case round =>
    obtain ⟨k, rfl, hk, hj, X, hB⟩ := hrel
    clear hL X0
    by_cases hk1 : k < 17
    · have hk2 : (k : Int) < 17 := by omega
      have hx := ixN k hk1
      have HJ := Lib.hid hj
      have X1 := X.alloc (.cells #[.string (naB k), .string (sgB k), .int .i64 (poI k)] 42)
      have c0 := X.c0
      have c1 := X.c1
      have c2 := X.c2
      have f0 := X.f0
      have f1 := X.f1
      have f2 := X.f2
      have xl := X.lt
      have zB := hB.size
      rcases hq : ((naB k).toList == s.toList) with _ | _
      · have HQ := Lib.hid hq
        clear hj
        go_wp2
        go_roundw
        case rel => exact ⟨k + 1, by go_num, by omega, fun j h => by rcases Nat.lt_succ_iff_lt_or_eq.1 h with h | rfl; exact HJ.out j h; exact HQ.out, X1, by repeat (first | with_reducible assumption | with_reducible exact Below.refl _ _ | with_reducible refine Below.setCell ?_ (by first | omega | (simp <;> omega)) _ | with_reducible refine Below.alloc ?_ (by first | omega | (simp <;> omega)) _ | with_reducible refine bstep ?_ (by with_reducible assumption) | with_reducible refine Below.drew ?_)⟩
        case measure => first | (simp [intOf]; done) | (simp [intOf]; omega)
      · have HI := Lib.hid (ixF_yes hk1 hq hj)
        clear hj HJ
        go_wp2
        refine bodyPost_ret (v := gnT s) (by simp [results, Tryd.results34, go_sem, gnT, HI.out, *]) rfl ⟨rfl, ?_⟩
        repeat (first | with_reducible assumption | with_reducible exact Below.refl _ _ | with_reducible refine Below.setCell ?_ (by first | omega | (simp <;> omega)) _ | with_reducible refine Below.alloc ?_ (by first | omega | (simp <;> omega)) _ | with_reducible refine bstep ?_ (by with_reducible assumption) | with_reducible refine Below.drew ?_)
    · obtain rfl : k = 17 := by omega
      have HI := Lib.hid (ixF_no hj)
      have c0 := X.c0
      have c1 := X.c1
      have c2 := X.c2
      have f0 := X.f0
      have f1 := X.f1
      have f2 := X.f2
      have xl := X.lt
      clear hj
      go_wp2
      refine bodyPost_ret (v := gnT s) (by simp [results, Tryd.results34, go_sem, gnT, HI.out, *]) rfl ⟨rfl, ?_⟩
      repeat (first | with_reducible assumption | with_reducible exact Below.refl _ _ | with_reducible refine Below.setCell ?_ (by first | omega | (simp <;> omega)) _ | with_reducible refine Below.alloc ?_ (by first | omega | (simp <;> omega)) _ | with_reducible refine bstep ?_ (by with_reducible assumption) | with_reducible refine Below.drew ?_)
def sgT (s : ByteArray) : Value := match ixF naB s with
  | some k => .tuple #[.string (sgB k), .int .i64 0]
  | none => .tuple #[.string ⟨#[]⟩, .int .i64 4]
def poT (s : ByteArray) : Value := match ixF naB s with
  | some k => .tuple #[.int .i64 (poI k), .int .i64 0]
  | none => .tuple #[.int .i64 0, .int .i64 4]
def nsT (s : ByteArray) : Value := match ixF sgB s with
  | some k => .tuple #[.string (naB k), .int .i64 0]
  | none => .tuple #[.string ⟨#[]⟩, .int .i64 4]
set_option maxRecDepth 100000 in
set_option maxHeartbeats 8000000 in
theorem implSg_any (s : ByteArray) (w : World) (hN : NamesOK w) :
    Calls Tryd.prog 18 #[.string s] w fun z w' => z = .returned (sgT s) ∧ Below w.heap.size w w' := by
  rcases hi : ixF naB s with _ | k
  · have hG : gnT s = .tuple #[.agg #[.string ⟨#[]⟩, .string ⟨#[]⟩, .int .i64 0], .int .i64 4] := by simp only [gnT, hi]
    have HT := Lib.hid (show sgT s = _ by simp only [sgT, hi]; rfl)
    go_enter Tryd.func18, Tryd.ntmps18
    go_wp2_with fail
    with_reducible refine (gn_any s _ hN).mono ?_
    rintro z1 w1 ⟨rfl, hb1⟩
    rw [hG]
    go_wp2
    all_goals go_ret2
    all_goals exact ⟨ret_val HT.out.symm, hb1.alloc hb1.size _⟩
  · have hG : gnT s = .tuple #[.agg #[.string (naB k), .string (sgB k), .int .i64 (poI k)], .int .i64 0] := by simp only [gnT, hi]
    have HT := Lib.hid (show sgT s = _ by simp only [sgT, hi]; rfl)
    go_enter Tryd.func18, Tryd.ntmps18
    go_wp2_with fail
    with_reducible refine (gn_any s _ hN).mono ?_
    rintro z1 w1 ⟨rfl, hb1⟩
    rw [hG]
    go_wp2
    all_goals go_ret2
    all_goals exact ⟨ret_val HT.out.symm, hb1.alloc hb1.size _⟩
set_option maxRecDepth 100000 in
set_option maxHeartbeats 8000000 in
theorem implPo_any (s : ByteArray) (w : World) (hN : NamesOK w) :
    Calls Tryd.prog 20 #[.string s] w fun z w' => z = .returned (poT s) ∧ Below w.heap.size w w' := by
  rcases hi : ixF naB s with _ | k
  · have hG : gnT s = .tuple #[.agg #[.string ⟨#[]⟩, .string ⟨#[]⟩, .int .i64 0], .int .i64 4] := by simp only [gnT, hi]
    have HT := Lib.hid (show poT s = _ by simp only [poT, hi]; rfl)
    go_enter Tryd.func20, Tryd.ntmps20
    go_wp2_with fail
    with_reducible refine (gn_any s _ hN).mono ?_
    rintro z1 w1 ⟨rfl, hb1⟩
    rw [hG]
    go_wp2
    all_goals go_ret2
    all_goals exact ⟨ret_val HT.out.symm, hb1.alloc hb1.size _⟩
  · have hG : gnT s = .tuple #[.agg #[.string (naB k), .string (sgB k), .int .i64 (poI k)], .int .i64 0] := by simp only [gnT, hi]
    have HT := Lib.hid (show poT s = _ by simp only [poT, hi]; rfl)
    go_enter Tryd.func20, Tryd.ntmps20
    go_wp2_with fail
    with_reducible refine (gn_any s _ hN).mono ?_
    rintro z1 w1 ⟨rfl, hb1⟩
    rw [hG]
    go_wp2
    all_goals go_ret2
    all_goals exact ⟨ret_val HT.out.symm, hb1.alloc hb1.size _⟩
set_option maxRecDepth 100000 in
set_option maxHeartbeats 8000000 in
theorem implNs_any (s : ByteArray) (w : World) (hN : NamesOK w) :
    Calls Tryd.prog 22 #[.string s] w fun z w' => z = .returned (nsT s) ∧ Below w.heap.size w w' := by
  go_enter Tryd.func22, Tryd.ntmps22
  go_wp2_with (refine wpList_load_mid rfl 43 (.global 0) rfl 0 0 rfl nmC (.array 17 42) hN.rng Tryd.underlying43 rfl (by kernel_rfl) ?_)
  go_loopw [7] (fun s7 W => ∃ k : Nat, s7 = .int .i64 (k : Int) ∧ k ≤ 17 ∧ (∀ j, j < k → ((sgB j).toList == s.toList) = false) ∧ Below w.heap.size w W) (fun s7 _ => 17 - (intOf s7).toNat)
  case atStart => exact ⟨0, rfl, by omega, fun j h => absurd h (by omega), Below.refl _ _⟩
  case round =>
    obtain ⟨k, rfl, hk, hj, hB⟩ := hrel
    clear hN
    by_cases hk1 : k < 17
    · have hk2 : (k : Int) < 17 := by omega
      have hx := ixN k hk1
      have HJ := Lib.hid hj
      have zB := hB.size
      rcases hq : ((sgB k).toList == s.toList) with _ | _
      · have HQ := Lib.hid hq
        clear hj
        go_wp2
        go_roundw
        case rel => exact ⟨k + 1, by go_num, by omega, fun j h => by rcases Nat.lt_succ_iff_lt_or_eq.1 h with h | rfl; exact HJ.out j h; exact HQ.out, by repeat (first | with_reducible assumption | with_reducible exact Below.refl _ _ | with_reducible refine Below.setCell ?_ (by first | omega | (simp <;> omega)) _ | with_reducible refine Below.alloc ?_ (by first | omega | (simp <;> omega)) _ | with_reducible refine bstep ?_ (by with_reducible assumption) | with_reducible refine Below.drew ?_)⟩
        case measure => first | (simp [intOf]; done) | (simp [intOf]; omega)
      · have HI := Lib.hid (ixF_yes hk1 hq hj)
        have HT := Lib.hid (show nsT s = _ by simp only [nsT, HI.out]; rfl)
        clear hj HJ
        go_wp2
        all_goals go_ret2
        all_goals exact ⟨ret_val HT.out.symm, by repeat (first | with_reducible assumption | with_reducible exact Below.refl _ _ | with_reducible refine Below.setCell ?_ (by first | omega | (simp <;> omega)) _ | with_reducible refine Below.alloc ?_ (by first | omega | (simp <;> omega)) _ | with_reducible refine bstep ?_ (by with_reducible assumption) | with_reducible refine Below.drew ?_)⟩
    · obtain rfl : k = 17 := by omega
      have HI := Lib.hid (ixF_no hj)
      have HT := Lib.hid (show nsT s = _ by simp only [nsT, HI.out]; rfl)
      clear hj
      go_wp2
      all_goals go_ret2
      all_goals exact ⟨ret_val HT.out.symm, by repeat (first | with_reducible assumption | with_reducible exact Below.refl _ _ | with_reducible refine Below.setCell ?_ (by first | omega | (simp <;> omega)) _ | with_reducible refine Below.alloc ?_ (by first | omega | (simp <;> omega)) _ | with_reducible refine bstep ?_ (by with_reducible assumption) | with_reducible refine Below.drew ?_)⟩
set_option maxRecDepth 100000 in
set_option maxHeartbeats 8000000 in
theorem specGN_any (w : World) :
    Calls Tryd.prog 9 #[] w fun z w' => z = .returned (.slice (some ⟨w.heap.size, 0, none⟩) 17 17) ∧ Bx w.heap.size ((List.range 17).map fun k => Value.string (naB k)) w' ∧ Below w.heap.size w w' := by
  go_enter Tryd.func9, Tryd.ntmps9
  go_wp2
  go_ret
  exact ⟨rfl, Bx.at (us := (List.range 17).map fun k => Value.string (naB k)) _ rfl, abN _ _⟩
set_option maxRecDepth 100000 in
set_option maxHeartbeats 8000000 in
theorem specSgs_any (w : World) :
    Calls Tryd.prog 33 #[] w fun z w' => z = .returned (.slice (some ⟨w.heap.size, 0, none⟩) 17 17) ∧ Bx w.heap.size ((List.range 17).map fun k => Value.string (sgB k)) w' ∧ Below w.heap.size w w' := by
  go_enter Tryd.func33, Tryd.ntmps33
  go_wp2
  go_ret
  exact ⟨rfl, Bx.at (us := (List.range 17).map fun k => Value.string (sgB k)) _ rfl, abN _ _⟩
theorem Bx.str {g : Nat} {nm : Nat → ByteArray} {W : World} (h : Bx g ((List.range 17).map fun k => Value.string (nm k)) W) {k : Nat} (hk : k < 17) : W.cell? ⟨g, k, none⟩ = some (.string (nm k)) := h.cel k _ (by simp [hk])
def ixI (nm : Nat → ByteArray) (s : ByteArray) : Int := match ixF nm s with
  | some k => (k : Int)
  | none => -1
set_option maxRecDepth 100000 in
set_option maxHeartbeats 8000000 in
theorem l12Ix_any (nm : Nat → ByteArray) (s : ByteArray) (g : Nat) (w : World) (hX : Bx g ((List.range 17).map fun k => Value.string (nm k)) w) :
    Calls Tryd.prog 32 #[.slice (some ⟨g, 0, none⟩) 17 17, .string s] w fun z w' => z = .returned (.int .i64 (ixI nm s)) ∧ Below w.heap.size w w' := by
  have HX := Lib.hid hX
  clear hX
  go_enter Tryd.func32, Tryd.ntmps32
  go_wp2_with fail
  go_loopw [5] (fun s5 W => ∃ k : Nat, s5 = .int .i64 (k : Int) ∧ k ≤ 17 ∧ (∀ j, j < k → ((nm j).toList == s.toList) = false) ∧ Below w.heap.size w W) (fun s5 _ => 17 - (intOf s5).toNat)
  case atStart => exact ⟨0, rfl, by omega, fun j h => absurd h (by omega), Below.refl _ _⟩
  case round =>
    obtain ⟨k, rfl, hk, hj, hB⟩ := hrel
    by_cases hk1 : k < 17
    · have hk2 : (k : Int) < 17 := by omega
      have hx := (HX.out.grow hB HX.out.lt).str hk1
      have HJ := Lib.hid hj
      rcases hq : ((nm k).toList == s.toList) with _ | _
      · have HQ := Lib.hid hq
        clear hj
        go_wp2
        go_roundw
        case rel => exact ⟨k + 1, by go_num, by omega, fun j h => by rcases Nat.lt_succ_iff_lt_or_eq.1 h with h | rfl; exact HJ.out j h; exact HQ.out, by repeat (first | with_reducible assumption | with_reducible exact Below.refl _ _ | with_reducible refine Below.setCell ?_ (by first | omega | (simp <;> omega)) _ | with_reducible refine Below.alloc ?_ (by first | omega | (simp <;> omega)) _ | with_reducible refine bstep ?_ (by with_reducible assumption) | with_reducible refine Below.drew ?_)⟩
        case measure => first | (simp [intOf]; done) | (simp [intOf]; omega)
      · have HT := Lib.hid (show ixI nm s = (k : Int) by unfold ixI; rw [ixF_yes hk1 hq hj])
        clear hj HJ
        go_wp2
        go_ret
        exact ⟨ret_int HT.out.symm, by repeat (first | with_reducible assumption | with_reducible exact Below.refl _ _ | with_reducible refine Below.setCell ?_ (by first | omega | (simp <;> omega)) _ | with_reducible refine Below.alloc ?_ (by first | omega | (simp <;> omega)) _ | with_reducible refine bstep ?_ (by with_reducible assumption) | with_reducible refine Below.drew ?_)⟩
    · obtain rfl : k = 17 := by omega
      have HT := Lib.hid (show ixI nm s = -1 by unfold ixI; rw [ixF_no hj])
      clear hj
      go_wp2
      go_ret
      exact ⟨ret_int HT.out.symm, by repeat (first | with_reducible assumption | with_reducible exact Below.refl _ _ | with_reducible refine Below.setCell ?_ (by first | omega | (simp <;> omega)) _ | with_reducible refine Below.alloc ?_ (by first | omega | (simp <;> omega)) _ | with_reducible refine bstep ?_ (by with_reducible assumption) | with_reducible refine Below.drew ?_)⟩
theorem po_at : ∀ k, k < 17 → ([Value.int .i64 1, Value.int .i64 2, Value.int .i64 2, Value.int .i64 2, Value.int .i64 2, Value.int .i64 4, Value.int .i64 4, Value.int .i64 4, Value.int .i64 4, Value.int .i64 4, Value.int .i64 8, Value.int .i64 8, Value.int .i64 3, Value.int .i64 6, Value.int .i64 6, Value.int .i64 6, Value.int .i64 12] : List Value)[k]? = some (.int .i64 (poI k))
  | 0, _ => rfl
  | 1, _ => rfl
  | 2, _ => rfl
  | 3, _ => rfl
  | 4, _ => rfl
  | 5, _ => rfl
  | 6, _ => rfl
  | 7, _ => rfl
  | 8, _ => rfl
  | 9, _ => rfl
  | 10, _ => rfl
  | 11, _ => rfl
  | 12, _ => rfl
  | 13, _ => rfl
  | 14, _ => rfl
  | 15, _ => rfl
  | 16, _ => rfl
  | k + 17, h => absurd h (by omega)
set_option maxRecDepth 100000 in
set_option maxHeartbeats 8000000 in
theorem specSg_any (s : ByteArray) (w : World) :
    Calls Tryd.prog 17 #[.string s] w fun z w' => z = .returned (sgT s) ∧ Below w.heap.size w w' := by
  rcases hi : ixF naB s with _ | k
  · have HI := Lib.hid (show ixI naB s = -1 by simp only [ixI, hi])
    have HT := Lib.hid (show sgT s = _ by simp only [sgT, hi]; rfl)
    go_enter Tryd.func17, Tryd.ntmps17
    go_wp2_with fail
    with_reducible refine (specGN_any _).mono ?_
    rintro z1 w1 ⟨rfl, X1, B1⟩
    go_wp2_with fail
    with_reducible refine (l12Ix_any naB s _ _ X1).mono ?_
    rintro z2 w2 ⟨rfl, hb2⟩
    rw [HI.out]
    have B2 := bstep B1 hb2
    clear hi
    go_wp2
    all_goals go_ret2
    all_goals exact ⟨ret_val HT.out.symm, B2⟩
  · have hk1 := ixF_lt hi
    have hk2 : (k : Int) < 17 := by omega
    have HI := Lib.hid (show ixI naB s = (k : Int) by simp only [ixI, hi])
    have HT := Lib.hid (show sgT s = _ by simp only [sgT, hi]; rfl)
    go_enter Tryd.func17, Tryd.ntmps17
    go_wp2_with fail
    with_reducible refine (specGN_any _).mono ?_
    rintro z1 w1 ⟨rfl, X1, B1⟩
    go_wp2_with fail
    with_reducible refine (l12Ix_any naB s _ _ X1).mono ?_
    rintro z2 w2 ⟨rfl, hb2⟩
    rw [HI.out]
    have B2 := bstep B1 hb2
    clear hb2 hi X1 B1
    have hk0 : ¬ ((k : Int) < 0) := by omega
    go_wp2_with (go_at_call 33; with_reducible refine (specSgs_any _).mono ?_; rintro z3 w3 ⟨rfl, X3, hb3⟩; have hx := X3.str hk1; have B3 := bstep B2 hb3; clear hb3)
    go_wp2
    all_goals go_ret2
    all_goals exact ⟨ret_val HT.out.symm, B3⟩
set_option maxRecDepth 100000 in
set_option maxHeartbeats 8000000 in
theorem specPo_any (s : ByteArray) (w : World) :
    Calls Tryd.prog 19 #[.string s] w fun z w' => z = .returned (poT s) ∧ Below w.heap.size w w' := by
  rcases hi : ixF naB s with _ | k
  · have HI := Lib.hid (show ixI naB s = -1 by simp only [ixI, hi])
    have HT := Lib.hid (show poT s = _ by simp only [poT, hi]; rfl)
    go_enter Tryd.func19, Tryd.ntmps19
    go_wp2_with fail
    with_reducible refine (specGN_any _).mono ?_
    rintro z1 w1 ⟨rfl, X1, B1⟩
    go_wp2_with fail
    with_reducible refine (l12Ix_any naB s _ _ X1).mono ?_
    rintro z2 w2 ⟨rfl, hb2⟩
    rw [HI.out]
    have B2 := bstep B1 hb2
    clear hi
    go_wp2
    all_goals go_ret2
    all_goals exact ⟨ret_val HT.out.symm, B2⟩
  · have hk1 := ixF_lt hi
    have hk2 : (k : Int) < 17 := by omega
    have HI := Lib.hid (show ixI naB s = (k : Int) by simp only [ixI, hi])
    have HT := Lib.hid (show poT s = _ by simp only [poT, hi]; rfl)
    go_enter Tryd.func19, Tryd.ntmps19
    go_wp2_with fail
    with_reducible refine (specGN_any _).mono ?_
    rintro z1 w1 ⟨rfl, X1, B1⟩
    go_wp2_with fail
    with_reducible refine (l12Ix_any naB s _ _ X1).mono ?_
    rintro z2 w2 ⟨rfl, hb2⟩
    rw [HI.out]
    have B2 := bstep B1 hb2
    clear hb2 hi X1 B1
    have hk0 : ¬ ((k : Int) < 0) := by omega
    have hx : (w2.alloc (.cells #[.int .i64 1, .int .i64 2, .int .i64 2, .int .i64 2, .int .i64 2, .int .i64 4, .int .i64 4, .int .i64 4, .int .i64 4, .int .i64 4, .int .i64 8, .int .i64 8, .int .i64 3, .int .i64 6, .int .i64 6, .int .i64 6, .int .i64 12] 2)).cell? ⟨w2.heap.size, k, none⟩ = some (.int .i64 (poI k)) := (Bx.at (us := [.int .i64 1, .int .i64 2, .int .i64 2, .int .i64 2, .int .i64 2, .int .i64 4, .int .i64 4, .int .i64 4, .int .i64 4, .int .i64 4, .int .i64 8, .int .i64 8, .int .i64 3, .int .i64 6, .int .i64 6, .int .i64 6, .int .i64 12]) _ rfl).cel k _ (po_at k hk1)
    have B3 := B2.alloc B2.size (.cells #[.int .i64 1, .int .i64 2, .int .i64 2, .int .i64 2, .int .i64 2, .int .i64 4, .int .i64 4, .int .i64 4, .int .i64 4, .int .i64 4, .int .i64 8, .int .i64 8, .int .i64 3, .int .i64 6, .int .i64 6, .int .i64 6, .int .i64 12] 2)
    go_wp2_with fail
    go_wp2
    all_goals go_ret2
    all_goals exact ⟨ret_val HT.out.symm, B3⟩
set_option maxRecDepth 100000 in
set_option maxHeartbeats 8000000 in
theorem specNs_any (s : ByteArray) (w : World) :
    Calls Tryd.prog 21 #[.string s] w fun z w' => z = .returned (nsT s) ∧ Below w.heap.size w w' := by
  rcases hi : ixF sgB s with _ | k
  · have HI := Lib.hid (show ixI sgB s = -1 by simp only [ixI, hi])
    have HT := Lib.hid (show nsT s = _ by simp only [nsT, hi]; rfl)
    go_enter Tryd.func21, Tryd.ntmps21
    go_wp2_with fail
    with_reducible refine (specSgs_any _).mono ?_
    rintro z1 w1 ⟨rfl, X1, B1⟩
    go_wp2_with fail
    with_reducible refine (l12Ix_any sgB s _ _ X1).mono ?_
    rintro z2 w2 ⟨rfl, hb2⟩
    rw [HI.out]
    have B2 := bstep B1 hb2
    clear hi
    go_wp2
    all_goals go_ret2
    all_goals exact ⟨ret_val HT.out.symm, B2⟩
  · have hk1 := ixF_lt hi
    have hk2 : (k : Int) < 17 := by omega
    have HI := Lib.hid (show ixI sgB s = (k : Int) by simp only [ixI, hi])
    have HT := Lib.hid (show nsT s = _ by simp only [nsT, hi]; rfl)
    go_enter Tryd.func21, Tryd.ntmps21
    go_wp2_with fail
    with_reducible refine (specSgs_any _).mono ?_
    rintro z1 w1 ⟨rfl, X1, B1⟩
    go_wp2_with fail
    with_reducible refine (l12Ix_any sgB s _ _ X1).mono ?_
    rintro z2 w2 ⟨rfl, hb2⟩
    rw [HI.out]
    have B2 := bstep B1 hb2
    clear hb2 hi X1 B1
    have hk0 : ¬ ((k : Int) < 0) := by omega
    go_wp2_with (go_at_call 9; with_reducible refine (specGN_any _).mono ?_; rintro z3 w3 ⟨rfl, X3, hb3⟩; have hx := X3.str hk1; have B3 := bstep B2 hb3; clear hb3)
    go_wp2
    all_goals go_ret2
    all_goals exact ⟨ret_val HT.out.symm, B3⟩
end Go.Proofs.YtjocmfnjfmlgiaaDoor
