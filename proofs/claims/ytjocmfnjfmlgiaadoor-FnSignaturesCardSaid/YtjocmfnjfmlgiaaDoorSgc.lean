/-
  The cost of a signature in the program and in the model, and the walk of the exact law of SignatureCost: the law returns true and writes nothing that was there. Condition: the string's length is one that a string can have.
-/
import Derived.Test.YtjocmfnjfmlgiaaDoorBase
import Derived.Test.YtjocmfnjfmlgiaaDoorShelf
import Derived.LoopTactic
import Derived.IntWalk
import Derived.Lib.Bytealg
namespace Go.Proofs.YtjocmfnjfmlgiaaDoor
open Go.RowKit Go.Shelf
set_option linter.unusedSimpArgs false
set_option linter.unusedVariables false

/- the cost of a sign, -1 for what is none -/
def cst (b : Int) (st : Bool) : Int := if b = 111 then 48 else if b = 42 then 24 else if b = 120 then 24 else if b = 50 then (bif st then 6 else 12) else if b = 51 then (bif st then 8 else 16) else if b = 52 then (bif st then 9 else 18) else if b = 54 then (bif st then 10 else 20) else -1
theorem cst_le (b : Int) (st : Bool) : -1 ≤ cst b st ∧ cst b st ≤ 48 := by
  unfold cst
  cases st
  all_goals
    simp only [cond_true, cond_false]
    repeat' split
    all_goals omega
theorem cst_no {b : Int} {st : Bool} (h : cst b st < 0) : ¬ b = 111 ∧ ¬ b = 42 ∧ ¬ b = 120 ∧ ¬ b = 50 ∧ ¬ b = 51 ∧ ¬ b = 52 ∧ ¬ b = 54 := by
  refine ⟨?_, ?_, ?_, ?_, ?_, ?_, ?_⟩ <;> (rintro rfl; cases st <;> simp [cst] at h)
theorem cst_yes {b : Int} {st : Bool} (h : 0 ≤ cst b st) : b = 111 ∨ b = 42 ∨ b = 120 ∨ b = 50 ∨ b = 51 ∨ b = 52 ∨ b = 54 := by
  refine Decidable.byContradiction fun hn => ?_
  have : cst b st = -1 := by
    unfold cst
    rw [if_neg (by omega), if_neg (by omega), if_neg (by omega), if_neg (by omega), if_neg (by omega), if_neg (by omega), if_neg (by omega)]
  omega
def stK (l : List UInt8) (k : Nat) : Bool := (l.take k).contains 42
def csK (l : List UInt8) : Nat → Int
  | 0 => 0
  | k + 1 => csK l k + cst ((l.getD k 0).toNat : Int) (stK l k)
def okK (l : List UInt8) (k : Nat) : Prop := ∀ j, j < k → 0 ≤ cst ((l.getD j 0).toNat : Int) (stK l j)
theorem okK_next {l : List UInt8} {k : Nat} (h : okK l k) (hc : 0 ≤ cst ((l.getD k 0).toNat : Int) (stK l k)) : okK l (k + 1) := fun j hj => by
  rcases Nat.lt_succ_iff_lt_or_eq.1 hj with h1 | rfl
  · exact h j h1
  · exact hc
theorem csK_bd {l : List UInt8} : ∀ {k : Nat}, okK l k → 0 ≤ csK l k ∧ csK l k ≤ 48 * (k : Int)
  | 0, _ => by simp [csK]
  | k + 1, h => by
    have h1 := csK_bd (k := k) fun j hj => h j (by omega)
    have h2 := h k (by omega)
    have h3 := cst_le ((l.getD k 0).toNat : Int) (stK l k)
    unfold csK
    omega
theorem stK_next {l : List UInt8} {k : Nat} (hk : k < l.length) : stK l (k + 1) = (stK l k || l.getD k 0 == 42) := by
  unfold stK
  rw [List.take_succ_eq_append_getElem hk]
  rw [Bool.eq_iff_iff]
  simp only [List.contains_iff_mem, List.mem_append, List.mem_singleton, Bool.or_eq_true, beq_iff_eq]
  rw [List.getD_eq_getElem?_getD, List.getElem?_eq_getElem hk, Option.getD_some]
  exact ⟨fun h => h.imp id Eq.symm, fun h => h.imp id Eq.symm⟩
theorem ib_take (c : UInt8) : ∀ (l : List UInt8) (i : Nat), (decide (0 ≤ Lib.indexByte l c) && decide (Lib.indexByte l c < (i : Int))) = (l.take i).contains c
  | [], i => by simp [Lib.indexByte]
  | b :: l, 0 => by
    rw [Bool.eq_iff_iff]
    simp only [Bool.and_eq_true, decide_eq_true_eq, List.take_zero]
    constructor
    · intro h
      omega
    · intro h
      simp at h
  | b :: l, i + 1 => by
    have ih := ib_take c l i
    have hg := Lib.indexByte_ge l c
    rw [List.take_succ_cons]
    unfold Lib.indexByte
    by_cases hb : (b == c) = true
    · rw [if_pos hb]
      have : b = c := by simpa using hb
      subst this
      simp
    · rw [if_neg hb]
      have hne : ¬ c = b := fun e => hb (by simp [e])
      rw [show (b :: l.take i).contains c = (l.take i).contains c by simp [List.contains_cons, hne], ← ih]
      by_cases h1 : (Lib.indexByte l c == -1) = true
      · rw [if_pos h1]
        have : Lib.indexByte l c = -1 := by simpa using h1
        rw [this]; simp
      · rw [if_neg h1]
        have : Lib.indexByte l c ≠ -1 := by simpa using h1
        rw [Bool.eq_iff_iff]
        simp only [Bool.and_eq_true, decide_eq_true_eq]
        omega
def scV (b : Int) (st : Bool) : Value := .tuple #[.int .i64 (if cst b st < 0 then 0 else cst b st), .bool (decide (0 ≤ cst b st))]
theorem scV_yes {b : Int} {st : Bool} (h : 0 ≤ cst b st) : scV b st = .tuple #[.int .i64 (cst b st), .bool true] := by
  unfold scV
  rw [if_neg (by omega), decide_eq_true h]
theorem scV_no {b : Int} {st : Bool} (h : ¬ 0 ≤ cst b st) : scV b st = .tuple #[.int .i64 0, .bool false] := by
  unfold scV
  rw [if_pos (by omega), decide_eq_false h]
def scR (l : List UInt8) : Int × Int := if l.length ≤ 20 ∧ (∀ j, j < l.length → 0 ≤ cst ((l.getD j 0).toNat : Int) (stK l j)) then (csK l l.length, 0) else (0, 6)
theorem scR_yes {l : List UInt8} (h : l.length ≤ 20) (hk : okK l l.length) : scR l = (csK l l.length, 0) := if_pos ⟨h, hk⟩
theorem scR_long {l : List UInt8} (h : ¬ l.length ≤ 20) : scR l = (0, 6) := if_neg fun h9 => h h9.1
theorem scR_no {l : List UInt8} {k : Nat} (hk : k < l.length) (hc : ¬ 0 ≤ cst ((l.getD k 0).toNat : Int) (stK l k)) : scR l = (0, 6) := if_neg fun h9 => hc (h9.2 k hk)
theorem get_byte (s : ByteArray) (k : Nat) (h : k < s.size) : s.data.toList.getD k 0 = s[k] := by
  have : k < s.data.toList.length := by simpa using h
  rw [List.getD_eq_getElem?_getD, List.getElem?_eq_getElem this]
  rfl
theorem len_list (s : ByteArray) : s.data.toList.length = s.size := Array.length_toList
set_option maxRecDepth 100000 in
set_option maxHeartbeats 8000000 in
theorem signCost_any (b : Int) (st : Bool) (w : World) (h0 : 0 ≤ b) (h1 : b ≤ 255) :
    Calls Tryd.prog 39 #[.int .u8 b, .bool st] w fun z w' => z = .returned (scV b st) ∧ w = w' := by
  by_cases h111 : b = 111
  · subst h111
    cases st
    all_goals
      go_enter Tryd.func39, Tryd.ntmps39
      go_wp2
      go_ret2
      exact ⟨rfl, rfl⟩
  have b111 : (b == 111) = false := by simpa using h111
  by_cases h42 : b = 42
  · subst h42
    cases st
    all_goals
      go_enter Tryd.func39, Tryd.ntmps39
      go_wp2
      go_ret2
      exact ⟨rfl, rfl⟩
  have b42 : (b == 42) = false := by simpa using h42
  by_cases h120 : b = 120
  · subst h120
    cases st
    all_goals
      go_enter Tryd.func39, Tryd.ntmps39
      go_wp2
      go_ret2
      exact ⟨rfl, rfl⟩
  have b120 : (b == 120) = false := by simpa using h120
  by_cases h50 : b = 50
  · subst h50
    cases st
    all_goals
      go_enter Tryd.func39, Tryd.ntmps39
      go_wp2
      go_ret2
      exact ⟨rfl, rfl⟩
  have b50 : (b == 50) = false := by simpa using h50
  by_cases h51 : b = 51
  · subst h51
    cases st
    all_goals
      go_enter Tryd.func39, Tryd.ntmps39
      go_wp2
      go_ret2
      exact ⟨rfl, rfl⟩
  have b51 : (b == 51) = false := by simpa using h51
  by_cases h52 : b = 52
  · subst h52
    cases st
    all_goals
      go_enter Tryd.func39, Tryd.ntmps39
      go_wp2
      go_ret2
      exact ⟨rfl, rfl⟩
  have b52 : (b == 52) = false := by simpa using h52
  by_cases h54 : b = 54
  · subst h54
    cases st
    all_goals
      go_enter Tryd.func39, Tryd.ntmps39
      go_wp2
      go_ret2
      exact ⟨rfl, rfl⟩
  have b54 : (b == 54) = false := by simpa using h54
  have hc : cst b st = -1 := by
    unfold cst
    rw [if_neg h111, if_neg h42, if_neg h120, if_neg h50, if_neg h51, if_neg h52, if_neg h54]
  have HC := Lib.hid hc
  clear hc
  go_enter Tryd.func39, Tryd.ntmps39
  go_wp2
  go_ret2
  exact ⟨ret_val (by rw [scV, HC.out]; rfl), rfl⟩
theorem ibS_any (s : ByteArray) (w : World) : Calls Tryd.prog 38 #[.string s, .int .u8 42] w fun e w' => e = .returned (.int .i64 (Lib.indexByte s.data.toList 42)) ∧ w' = w := Any.strings_IndexByte Tryd.lays137 s 42 w
set_option maxRecDepth 100000 in
set_option maxHeartbeats 8000000 in
theorem implSc_any (s : ByteArray) (w : World) (hs : s.size ≤ 1048576) :
    Calls Tryd.prog 26 #[.string s] w fun z w' => z = .returned (.tuple #[.int .i64 (scR s.data.toList).1, .int .i64 (scR s.data.toList).2]) ∧ Below w.heap.size w w' := by
  have HZ := Lib.hid (len_list s)
  by_cases h20 : s.size ≤ 20
  · have hz2 : (s.size : Int) ≤ 20 := by omega
    obtain ⟨ix, hix⟩ : ∃ ix, ix = Lib.indexByte s.data.toList 42 := ⟨_, rfl⟩
    have HIX := Lib.hid hix
    have hig := Lib.indexByte_ge s.data.toList 42
    rw [← hix] at hig
    clear hix
    go_enter Tryd.func26, Tryd.ntmps26
    go_wp2_with fail
    with_reducible refine (ibS_any s _).mono ?_
    rintro z1 w1 ⟨rfl, rfl⟩
    rw [← HIX.out]
    go_wp2_with fail
    go_loopw [4, 16] (fun s4 s16 W => ∃ k : Nat, s4 = .int .i64 (csK s.data.toList k) ∧ s16 = .int .i64 (k : Int) ∧ k ≤ s.size ∧ okK s.data.toList k ∧ W = w1) (fun _ s16 _ => s.size - (intOf s16).toNat)
    case atStart => exact ⟨0, rfl, rfl, by omega, fun j h => absurd h (by omega), rfl⟩
    case round =>
      obtain ⟨k, rfl, rfl, hk, hok, rfl⟩ := hrel
      by_cases hlt : k < s.size
      · have hb := csK_bd hok
        have hk2 : (k : Int) < (s.size : Int) := by omega
        have hst : (decide (0 ≤ ix) && decide (ix < (k : Int))) = stK s.data.toList k := by rw [HIX.out]; exact ib_take 42 s.data.toList k
        have hgb := get_byte s k hlt
        have hc2 := cst_le (s[k].toNat : Int) (stK s.data.toList k)
        have hcs : csK s.data.toList (k + 1) = csK s.data.toList k + cst (s[k].toNat : Int) (stK s.data.toList k) := by
          rw [← hgb]; rfl
        have h0 : (0 : Int) ≤ (s[k].toNat : Int) := by omega
        have h1 : (s[k].toNat : Int) ≤ 255 := by have := s[k].toNat_lt; omega
        have HNX := Lib.hid (fun h => okK_next hok (by rw [hgb]; exact h))
        have HNO := Lib.hid (fun h => scR_no (l := s.data.toList) (k := k) (by rw [HZ.out]; exact hlt) (by rw [hgb]; exact h))
        have HCS := Lib.hid hcs
        have HST := Lib.hid hst
        clear hok hcs hgb
        obtain ⟨st, hse⟩ : ∃ st, st = stK s.data.toList k := ⟨_, rfl⟩
        rw [← hse] at HNX HNO HCS hc2 hst
        clear HST hse
        rcases hd : decide (0 ≤ ix) with _ | _
        · rw [hd, Bool.false_and] at hst
          subst hst
          have hd2 : ¬ 0 ≤ ix := of_decide_eq_false hd
          clear hd
          go_wp2_with fail
          with_reducible refine (signCost_any _ _ _ h0 h1).mono ?_
          rintro z9 w9 ⟨rfl, rfl⟩
          by_cases hcy : 0 ≤ cst (s[k].toNat : Int) false
          · rw [scV_yes hcy]
            have HOK := Lib.hid (HNX.out hcy)
            generalize hcc : cst (s[k].toNat : Int) false = cc at *
            go_wp2
            go_roundw
            case rel => exact ⟨k + 1, by rw [HCS.out], by go_num, by omega, HOK.out, trivial⟩
            case measure => first | (simp [intOf]; done) | (simp [intOf]; omega)
          · rw [scV_no hcy]
            have HT := Lib.hid (HNO.out (by omega))
            clear hcy
            go_wp2
            go_ret2
            exact ⟨ret_val (by rw [HT.out]; rfl), Below.refl _ _⟩
        · rw [hd, Bool.true_and] at hst
          have hd2 : 0 ≤ ix := of_decide_eq_true hd
          clear hd
          go_wp2_with fail
          with_reducible refine (signCost_any _ _ _ h0 h1).mono ?_
          rintro z9 w9 ⟨rfl, rfl⟩
          by_cases hcy : 0 ≤ cst (s[k].toNat : Int) st
          · rw [scV_yes hcy]
            have HOK := Lib.hid (HNX.out hcy)
            generalize hcc : cst (s[k].toNat : Int) st = cc at *
            go_wp2
            go_roundw
            case rel => exact ⟨k + 1, by rw [HCS.out], by go_num, by omega, HOK.out, trivial⟩
            case measure => first | (simp [intOf]; done) | (simp [intOf]; omega)
          · rw [scV_no hcy]
            have HT := Lib.hid (HNO.out (by omega))
            clear hcy
            go_wp2
            go_ret2
            exact ⟨ret_val (by rw [HT.out]; rfl), Below.refl _ _⟩
      · obtain rfl : k = s.size := by omega
        have HT := Lib.hid (scR_yes (l := s.data.toList) (by rw [HZ.out]; exact h20) (by rw [HZ.out]; exact hok))
        clear hok
        go_wp2
        go_ret2
        exact ⟨ret_val (by rw [HT.out, HZ.out]; rfl), Below.refl _ _⟩
  · have hz2 : (20 : Int) < (s.size : Int) := by omega
    have HT := Lib.hid (scR_long (l := s.data.toList) (by rw [HZ.out]; exact h20))
    go_enter Tryd.func26, Tryd.ntmps26
    go_wp2
    go_ret2
    exact ⟨ret_val (by rw [HT.out]; rfl), Below.refl _ _⟩
def hasD (n : Int) : Bool := n == 2 || n == 3 || n == 4 || n == 6
set_option maxRecDepth 100000 in
set_option maxHeartbeats 8000000 in
theorem has4_any (n : Int) (g : Nat) (w : World) (h0 : w.cell? ⟨g, 0, none⟩ = some (.int .i64 2)) (h1 : w.cell? ⟨g, 1, none⟩ = some (.int .i64 3)) (h2 : w.cell? ⟨g, 2, none⟩ = some (.int .i64 4)) (h3 : w.cell? ⟨g, 3, none⟩ = some (.int .i64 6)) :
    Calls Tryd.prog 40 #[.slice (some ⟨g, 0, none⟩) 4 4, .int .i64 n] w fun z w' => z = .returned (.bool (hasD n)) ∧ w = w' := by
  go_enter Tryd.func40, Tryd.ntmps40
  go_wp2_with fail
  go_loopw [5] (fun s5 W => ∃ k : Nat, s5 = .int .i64 (k : Int) ∧ k ≤ 4 ∧ (0 < k → (2 == n) = false) ∧ (1 < k → (3 == n) = false) ∧ (2 < k → (4 == n) = false) ∧ (3 < k → (6 == n) = false) ∧ W = w) (fun s5 _ => 4 - (intOf s5).toNat)
  case atStart => exact ⟨0, rfl, by omega, fun h => by omega, fun h => by omega, fun h => by omega, fun h => by omega, rfl⟩
  case round =>
    obtain ⟨k, rfl, hk, a0, a1, a2, a3, rfl⟩ := hrel
    have hkk : k = 0 ∨ k = 1 ∨ k = 2 ∨ k = 3 ∨ k = 4 := by omega
    rcases hkk with rfl | rfl | rfl | rfl | rfl
    · rcases hq : ((2 : Int) == n) with _ | _
      · have HH := Lib.hid hq
        go_wp2
        go_roundw
        case rel => exact ⟨1, rfl, by omega, fun _ => by first | exact HH.out | trivial, fun h => absurd h (by omega), fun h => absurd h (by omega), fun h => absurd h (by omega), trivial⟩
        case measure => first | (simp [intOf]; done) | (simp [intOf]; omega)
      · have hf : hasD n = true := by
          obtain rfl := beq_iff_eq.1 hq
          rfl
        have HF := Lib.hid hf
        clear hf
        go_wp2
        go_ret
        exact ⟨ret_bool HF.out.symm, rfl⟩
    · rcases hq : ((3 : Int) == n) with _ | _
      · have HH := Lib.hid hq
        go_wp2
        go_roundw
        case rel => exact ⟨2, rfl, by omega, fun _ => a0 (by omega), fun _ => by first | exact HH.out | trivial, fun h => absurd h (by omega), fun h => absurd h (by omega), trivial⟩
        case measure => first | (simp [intOf]; done) | (simp [intOf]; omega)
      · have hf : hasD n = true := by
          obtain rfl := beq_iff_eq.1 hq
          rfl
        have HF := Lib.hid hf
        clear hf
        go_wp2
        go_ret
        exact ⟨ret_bool HF.out.symm, rfl⟩
    · rcases hq : ((4 : Int) == n) with _ | _
      · have HH := Lib.hid hq
        go_wp2
        go_roundw
        case rel => exact ⟨3, rfl, by omega, fun _ => a0 (by omega), fun _ => a1 (by omega), fun _ => by first | exact HH.out | trivial, fun h => absurd h (by omega), trivial⟩
        case measure => first | (simp [intOf]; done) | (simp [intOf]; omega)
      · have hf : hasD n = true := by
          obtain rfl := beq_iff_eq.1 hq
          rfl
        have HF := Lib.hid hf
        clear hf
        go_wp2
        go_ret
        exact ⟨ret_bool HF.out.symm, rfl⟩
    · rcases hq : ((6 : Int) == n) with _ | _
      · have HH := Lib.hid hq
        go_wp2
        go_roundw
        case rel => exact ⟨4, rfl, by omega, fun _ => a0 (by omega), fun _ => a1 (by omega), fun _ => a2 (by omega), fun _ => by first | exact HH.out | trivial, trivial⟩
        case measure => first | (simp [intOf]; done) | (simp [intOf]; omega)
      · have hf : hasD n = true := by
          obtain rfl := beq_iff_eq.1 hq
          rfl
        have HF := Lib.hid hf
        clear hf
        go_wp2
        go_ret
        exact ⟨ret_bool HF.out.symm, rfl⟩
    · have e0 := a0 (by omega)
      have e1 := a1 (by omega)
      have e2 := a2 (by omega)
      have e3 := a3 (by omega)
      have hf : hasD n = false := by
        simp only [beq_eq_false_iff_ne] at e0 e1 e2 e3
        unfold hasD
        simp only [Bool.or_eq_false_iff, beq_eq_false_iff_ne]
        omega
      have HF := Lib.hid hf
      clear hf a0 a1 a2 a3 e0 e1 e2 e3
      go_wp2
      go_ret
      exact ⟨ret_bool HF.out.symm, rfl⟩
set_option maxRecDepth 100000 in
set_option maxHeartbeats 16000000 in
theorem specSc_any (s : ByteArray) (w : World) (hs : s.size ≤ 1048576) :
    Calls Tryd.prog 27 #[.string s] w fun z w' => z = .returned (.tuple #[.int .i64 (scR s.data.toList).1, .int .i64 (scR s.data.toList).2]) ∧ Below w.heap.size w w' := by
  have HZ := Lib.hid (len_list s)
  go_enter Tryd.func27, Tryd.ntmps27
  go_wp2_with fail
  go_loopw [4, 5, 6] (fun s4 s5 s6 W => ∃ k : Nat, s4 = .int .i64 (csK s.data.toList k) ∧ s5 = .bool (stK s.data.toList k) ∧ s6 = .int .i64 (k : Int) ∧ k ≤ s.size ∧ okK s.data.toList k ∧ Below w.heap.size w W) (fun _ _ s6 _ => s.size - (intOf s6).toNat)
  case atStart => exact ⟨0, rfl, rfl, rfl, by omega, fun j h => absurd h (by omega), Below.refl _ _⟩
  case round =>
    obtain ⟨k, rfl, rfl, rfl, hk, hok, hB⟩ := hrel
    by_cases hlt : k < s.size
    · have hb := csK_bd hok
      have hk2 : (k : Int) < (s.size : Int) := by omega
      have hks : (k : Int) ≤ 1048576 := by omega
      have hgb := get_byte s k hlt
      have hcs : csK s.data.toList (k + 1) = csK s.data.toList k + cst (s[k].toNat : Int) (stK s.data.toList k) := by
        rw [← hgb]; rfl
      have hsn : stK s.data.toList (k + 1) = (stK s.data.toList k || s[k] == 42) := by
        rw [stK_next (by rw [HZ.out]; exact hlt), hgb]
      have h0 : (0 : Int) ≤ (s[k].toNat : Int) := by omega
      have h1 : (s[k].toNat : Int) ≤ 255 := by have := s[k].toNat_lt; omega
      have hs42 : (s[k] == 42) = decide ((s[k].toNat : Int) = 42) := by
        rw [Bool.eq_iff_iff]
        simp only [beq_iff_eq, decide_eq_true_eq]
        constructor
        · intro h; rw [h]; rfl
        · intro h
          have h9 : s[k].toNat = 42 := by omega
          exact UInt8.toNat_inj.1 h9
      rw [hs42] at hsn
      have HNX := Lib.hid (fun h => okK_next hok (by rw [hgb]; exact h))
      have HNO := Lib.hid (fun h => scR_no (l := s.data.toList) (k := k) (by rw [HZ.out]; exact hlt) (by rw [hgb]; exact h))
      have HCS := Lib.hid hcs
      have HSN := Lib.hid hsn
      have A1 := hB.alloc hB.size (.cells #[.int .i64 2, .int .i64 3, .int .i64 4, .int .i64 6] 2)
      have x0 : (wr.alloc (.cells #[.int .i64 2, .int .i64 3, .int .i64 4, .int .i64 6] 2)).cell? ⟨wr.heap.size, 0, none⟩ = some (.int .i64 2) := by simp [go_sem]
      have x1 : (wr.alloc (.cells #[.int .i64 2, .int .i64 3, .int .i64 4, .int .i64 6] 2)).cell? ⟨wr.heap.size, 1, none⟩ = some (.int .i64 3) := by simp [go_sem]
      have x2 : (wr.alloc (.cells #[.int .i64 2, .int .i64 3, .int .i64 4, .int .i64 6] 2)).cell? ⟨wr.heap.size, 2, none⟩ = some (.int .i64 4) := by simp [go_sem]
      have x3 : (wr.alloc (.cells #[.int .i64 2, .int .i64 3, .int .i64 4, .int .i64 6] 2)).cell? ⟨wr.heap.size, 3, none⟩ = some (.int .i64 6) := by simp [go_sem]
      clear hok hcs hgb hsn hs42
      generalize hbb : (s[k].toNat : Int) = b at *
      obtain ⟨st, hse⟩ : ∃ st, st = stK s.data.toList k := ⟨_, rfl⟩
      rw [← hse] at HNX HNO HCS HSN ⊢
      clear hse
      have hidx : ∀ W : World, (Instr.index 9 (.string s) (.int .i64 (k : Int))).run Tryd.prog W = .ok (.int .u8 b) W := by
        intro W
        rw [← hbb]
        go_simp
      by_cases hcy : 0 ≤ cst b st
      · have HOK := Lib.hid (HNX.out hcy)
        have hyy := cst_yes hcy
        clear HNX HNO hcy
        rcases hyy with hy | hy | hy | hy | hy | hy | hy
        · subst hy
          clear h0 h1
          go_wp2
          go_roundw
          case rel => exact ⟨k + 1, by rw [HCS.out]; rfl, by rw [HSN.out]; simp, by go_num, by omega, HOK.out, hB⟩
          case measure => first | (simp [intOf]; done) | (simp [intOf]; omega)
        · subst hy
          clear h0 h1
          go_wp2
          go_roundw
          case rel => exact ⟨k + 1, by rw [HCS.out]; rfl, by rw [HSN.out]; simp, by go_num, by omega, HOK.out, hB⟩
          case measure => first | (simp [intOf]; done) | (simp [intOf]; omega)
        · subst hy
          clear h0 h1
          go_wp2
          go_roundw
          case rel => exact ⟨k + 1, by rw [HCS.out]; rfl, by rw [HSN.out]; simp, by go_num, by omega, HOK.out, hB⟩
          case measure => first | (simp [intOf]; done) | (simp [intOf]; omega)
        · subst hy
          clear h0 h1
          cases st
          all_goals
            go_wp2_with fail
            with_reducible refine (has4_any _ _ _ x0 x1 x2 x3).mono ?_
            rintro z9 w9 ⟨rfl, rfl⟩
            rw [show hasD 2 = true from rfl]
            go_wp2
            go_roundw
            case rel => exact ⟨k + 1, by rw [HCS.out]; rfl, by rw [HSN.out]; simp, by go_num, by omega, HOK.out, A1⟩
            case measure => first | (simp [intOf]; done) | (simp [intOf]; omega)
        · subst hy
          clear h0 h1
          cases st
          all_goals
            go_wp2_with fail
            with_reducible refine (has4_any _ _ _ x0 x1 x2 x3).mono ?_
            rintro z9 w9 ⟨rfl, rfl⟩
            rw [show hasD 3 = true from rfl]
            go_wp2
            go_roundw
            case rel => exact ⟨k + 1, by rw [HCS.out]; rfl, by rw [HSN.out]; simp, by go_num, by omega, HOK.out, A1⟩
            case measure => first | (simp [intOf]; done) | (simp [intOf]; omega)
        · subst hy
          clear h0 h1
          cases st
          all_goals
            go_wp2_with fail
            with_reducible refine (has4_any _ _ _ x0 x1 x2 x3).mono ?_
            rintro z9 w9 ⟨rfl, rfl⟩
            rw [show hasD 4 = true from rfl]
            go_wp2
            go_roundw
            case rel => exact ⟨k + 1, by rw [HCS.out]; rfl, by rw [HSN.out]; simp, by go_num, by omega, HOK.out, A1⟩
            case measure => first | (simp [intOf]; done) | (simp [intOf]; omega)
        · subst hy
          clear h0 h1
          cases st
          all_goals
            go_wp2_with fail
            with_reducible refine (has4_any _ _ _ x0 x1 x2 x3).mono ?_
            rintro z9 w9 ⟨rfl, rfl⟩
            rw [show hasD 6 = true from rfl]
            go_wp2
            go_roundw
            case rel => exact ⟨k + 1, by rw [HCS.out]; rfl, by rw [HSN.out]; simp, by go_num, by omega, HOK.out, A1⟩
            case measure => first | (simp [intOf]; done) | (simp [intOf]; omega)
      · have HT := Lib.hid (HNO.out hcy)
        obtain ⟨n1, n2, n3, n4, n5, n6, n7⟩ := cst_no (by omega : cst b st < 0)
        have hh : hasD (b - 48) = false := by
          unfold hasD
          simp only [Bool.or_eq_false_iff, beq_eq_false_iff_ne]
          omega
        have q1 : (b == 111) = false := by simpa using n1
        have q2 : (b == 42) = false := by simpa using n2
        have q3 : (b == 120) = false := by simpa using n3
        clear HNX HNO hcy n1 n2 n3 n4 n5 n6 n7
        go_wp2_with fail
        with_reducible refine (has4_any _ _ _ x0 x1 x2 x3).mono ?_
        rintro z9 w9 ⟨rfl, rfl⟩
        rw [hh]
        go_wp2
        go_ret2
        exact ⟨ret_val (by rw [HT.out]; rfl), A1⟩
    · obtain rfl : k = s.size := by omega
      by_cases h20 : s.size ≤ 20
      · have hz2 : (s.size : Int) ≤ 20 := by omega
        have HT := Lib.hid (scR_yes (l := s.data.toList) (by rw [HZ.out]; exact h20) (by rw [HZ.out]; exact hok))
        clear hok
        go_wp2
        go_ret2
        exact ⟨ret_val (by rw [HT.out, HZ.out]; rfl), hB⟩
      · have hz2 : (20 : Int) < (s.size : Int) := by omega
        have HT := Lib.hid (scR_long (l := s.data.toList) (by rw [HZ.out]; exact h20))
        clear hok
        go_wp2
        go_ret2
        exact ⟨ret_val (by rw [HT.out]; rfl), hB⟩
end Go.Proofs.YtjocmfnjfmlgiaaDoor
