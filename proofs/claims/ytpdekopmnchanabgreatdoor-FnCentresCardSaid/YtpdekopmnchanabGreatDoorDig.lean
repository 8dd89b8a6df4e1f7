/-
  Contracts of the model's reading of numbers: l01Digits and l01Signed answer a number exactly if it has that numeral. Condition: none beyond the text's length.
-/
import Derived.Test.YtpdekopmnchanabGreatDoorRead1
import Derived.LoopTactic
namespace Go.Proofs.YtpdekopmnchanabGreatDoor
open Go.RowKit
set_option linter.unusedSimpArgs false
set_option linter.unusedVariables false

def valK (l : List UInt8) (k : Nat) : Nat := (l.take k).foldl stepD 0
def digK (l : List UInt8) (k : Nat) : Prop := ∀ c ∈ l.take k, isDig c

theorem take_next (s : ByteArray) (k : Nat) (h : k < s.size) : s.data.toList.take (k + 1) = s.data.toList.take k ++ [s[k]] := by
  rw [List.take_succ_eq_append_getElem (by simpa using h)]; rfl
theorem valK_next (s : ByteArray) (k : Nat) (h : k < s.size) : valK s.data.toList (k + 1) = stepD (valK s.data.toList k) s[k] := by
  unfold valK; rw [take_next s k h, List.foldl_append]; rfl
theorem digK_next (s : ByteArray) (k : Nat) (h : k < s.size) (hd : digK s.data.toList k) (hc : isDig s[k]) : digK s.data.toList (k + 1) := by
  unfold digK; rw [take_next s k h]
  intro c hc'
  rcases List.mem_append.1 hc' with h' | h'
  · exact hd c h'
  · rw [List.mem_singleton.1 h']; exact hc
theorem fold_lt : ∀ (l : List UInt8) (a : Nat), (∀ c ∈ l, isDig c) → l.foldl stepD a < (a + 1) * 10 ^ l.length
  | [], a, _ => by simp
  | c :: r, a, h => by
    have hc := h c (by simp)
    unfold isDig at hc
    have := fold_lt r (stepD a c) (fun x hx => h x (by simp [hx]))
    simp only [List.foldl_cons, List.length_cons]
    have e : stepD a c + 1 ≤ (a + 1) * 10 := by unfold stepD; omega
    have := Nat.mul_le_mul_right (10 ^ r.length) e
    rw [Nat.pow_succ, Nat.mul_comm (10 ^ r.length) 10, ← Nat.mul_assoc]
    omega
theorem valK_bd (l : List UInt8) (k : Nat) (hk : k ≤ 10) (hd : digK l k) : valK l k < 10000000000 := by
  have h := fold_lt (l.take k) 0 hd
  have h2 : (l.take k).length ≤ 10 := Nat.le_trans (List.length_take_le _ _) hk
  have h3 : 10 ^ (l.take k).length ≤ 10 ^ 10 := Nat.pow_le_pow_right (by omega) h2
  unfold valK
  omega
theorem nDig4 (m : Nat) (h : m ≤ 1000) : 1 ≤ (Lib.decDigits m).length ∧ (Lib.decDigits m).length ≤ 4 := by
  rw [Lib.decDigits]
  split
  · simp
  · rw [Lib.decDigits]
    split
    · simp
    · rw [Lib.decDigits]
      split
      · simp
      · rw [Lib.decDigits, dif_pos (by omega)]
        simp

def DecYes (l : List UInt8) (n : Int) : Prop := Lib.decDigits n.toNat = l
def DecNo (l : List UInt8) : Prop := ∀ m : Nat, m ≤ 1000 → Lib.decDigits m ≠ l
def DigPost (l : List UInt8) (w : World) (e : Ending) (w' : World) : Prop :=
  ∃ (n : Int) (b : Bool), e = .returned (.tuple #[.int .i64 n, .bool b]) ∧ 0 ≤ n ∧ n < 10000000000 ∧ (b = true → DecYes l n) ∧ (b = false → DecNo l) ∧ Below w.heap.size w w'

theorem decNo_len {l : List UInt8} (h : l.length < 1 ∨ 10 < l.length) : DecNo l := by
  intro m hm e
  have := nDig4 m hm
  rw [e] at this
  omega
theorem decNo_dig {s : ByteArray} {k : Nat} (h : k < s.size) (hc : ¬ isDig s[k]) : DecNo s.data.toList := by
  intro m hm e
  apply hc
  apply dec_digits m
  rw [e]
  exact List.getElem_mem (by simpa using h)
theorem decNo_val {l : List UInt8} (hn : Lib.decDigits (valK l l.length) ≠ l) : DecNo l := by
  intro m hm e
  apply hn
  have : valK l l.length = m := by
    unfold valK; rw [List.take_length, ← e]; exact dec_val m
  rw [this, e]

theorem step_int {v : Nat} {c : UInt8} (h : isDig c) : (10 * (v : Int) + ((c.toNat : Int) - 48)) = ((stepD v c : Nat) : Int) := by
  unfold isDig at h; unfold stepD; omega
theorem int_eq {a b : Int} (h : a = b) : Value.int .i64 a = .int .i64 b := by rw [h]

set_option maxHeartbeats 1000000 in
theorem digits_any (s : ByteArray) (hs : s.size ≤ 1048576) (w : World) :
    Calls Tryz.prog 98 #[.string s] w (DigPost s.data.toList w) := by
  have hz : s.data.toList.length = s.size := Array.length_toList
  by_cases h1 : s.size < 1
  · have N := Lib.hid (decNo_len (l := s.data.toList) (.inl (by omega)))
    clear hz
    go_enter Tryz.func98, Tryz.ntmps98
    go_wp2
    go_ret2
    exact ⟨0, false, rfl, by omega, by omega, (fun h => by cases h), (fun _ => N.out), Below.refl _ _⟩
  by_cases h2 : 10 < s.size
  · have N := Lib.hid (decNo_len (l := s.data.toList) (.inr (by omega)))
    clear hz
    go_enter Tryz.func98, Tryz.ntmps98
    go_wp2
    go_ret2
    exact ⟨0, false, rfl, by omega, by omega, (fun h => by cases h), (fun _ => N.out), Below.refl _ _⟩
  have HZ := Lib.hid hz
  clear hz
  go_enter Tryz.func98, Tryz.ntmps98
  go_wp2_with fail
  go_loop [4, 5] (fun n i => ∃ k : Nat, k ≤ s.size ∧ i = .int .i64 k ∧ n = .int .i64 (valK s.data.toList k) ∧ digK s.data.toList k) (fun _ i => s.size - (intOf i).toNat)
  case atStart => exact ⟨0, Nat.zero_le _, rfl, rfl, by intro c hc; simp at hc⟩
  case round =>
    obtain ⟨k, hk, rfl, rfl, hd⟩ := hrel
    have hvb := valK_bd s.data.toList k (by omega) hd
    by_cases hlt : k < s.size
    · by_cases hc : isDig s[k]
      · have HV := Lib.hid (valK_next s k hlt)
        have HD := Lib.hid (digK_next s k hlt hd hc)
        have HC := Lib.hid hc
        obtain ⟨c1, c2⟩ := hc
        have c3 : (48 : Int) ≤ (s[k].toNat : Int) := by omega
        have c4 : (s[k].toNat : Int) ≤ 57 := by omega
        clear hd
        go_wp2
        go_round
        case rel => exact ⟨k + 1, by omega, by go_num, int_eq (by rw [HV.out]; exact step_int HC.out), HD.out⟩
        case measure => simp [intOf]; omega
      · have N := Lib.hid (decNo_dig hlt hc)
        have hc' : s[k].toNat < 48 ∨ 57 < s[k].toNat := by unfold isDig at hc; omega
        clear hc hd
        rcases hc' with hc | hc
        · have c3 : (s[k].toNat : Int) < 48 := by omega
          go_wp2
          go_ret2
          exact ⟨0, false, rfl, by omega, by omega, (fun h => by cases h), (fun _ => N.out), Below.refl _ _⟩
        · have c3 : (57 : Int) < (s[k].toNat : Int) := by omega
          have c4 : (48 : Int) ≤ (s[k].toNat : Int) := by omega
          go_wp2
          go_ret2
          exact ⟨0, false, rfl, by omega, by omega, (fun h => by cases h), (fun _ => N.out), Below.refl _ _⟩
    · obtain rfl : k = s.size := by omega
      clear hlt
      go_wp2_with fail
      refine (dec_any _ _ _ (Nat.lt_succ_self _) (by omega) (by omega)).mono ?_
      rintro e w1 ⟨rfl, hb1⟩
      by_cases hq : Lib.decDigits (valK s.data.toList s.size) = s.data.toList
      · have hqb : ((decS (valK s.data.toList s.size)).toList == s.toList) = true := by
          rw [ByteArray.toList_eq, ByteArray.toList_eq]; simp [decS, hq]
        have HQ := Lib.hid hq
        clear hq
        go_wp2
        go_ret2
        exact ⟨_, true, rfl, by omega, by omega, (fun _ => by unfold DecYes; rw [Int.toNat_natCast]; exact HQ.out), (fun h => by cases h), hb1⟩
      · have hqb : ((decS (valK s.data.toList s.size)).toList == s.toList) = false := by
          rw [ByteArray.toList_eq, ByteArray.toList_eq]; simp [decS, hq]
        have N := Lib.hid (decNo_val (l := s.data.toList) (by rw [HZ.out]; exact hq))
        clear hq
        go_wp2
        go_ret2
        exact ⟨_, false, rfl, by omega, by omega, (fun h => by cases h), (fun _ => N.out), hb1⟩

theorem tail_list (s : ByteArray) (c : UInt8) (r : List UInt8) (h : s.data.toList = c :: r) : (s.extract 1 s.size).data.toList = r := by
  have hz : s.data.toList.length = s.size := Array.length_toList
  rw [ByteArray.data_extract, Array.toList_extract]
  rw [h] at *
  simp at hz
  simp [List.extract, ← hz]

def SigPost (l : List UInt8) (w : World) (e : Ending) (w' : World) : Prop :=
  ∃ (n : Int) (b : Bool), e = .returned (.tuple #[.int .i64 n, .bool b]) ∧ (b = true → NumYes l n) ∧ (b = false → NumNo l) ∧ Below w.heap.size w w'

theorem sig_plain_yes {l : List UInt8} {n : Int} (h0 : 0 ≤ n) (h : DecYes l n) : NumYes l n := by
  unfold NumYes Lib.itoa; rw [if_neg (by omega)]; exact h
theorem sig_plain_no {l : List UInt8} (hm : ∀ r, l ≠ 45 :: r) (h : DecNo l) : NumNo l := by
  intro m m0 m1 e
  unfold Lib.itoa at e
  by_cases hn : m < 0
  · rw [if_pos hn] at e; exact hm _ e.symm
  · rw [if_neg hn] at e; exact h _ (by omega) e
theorem sig_minus_yes {r : List UInt8} {n : Int} (h0 : 0 < n) (h : DecYes r n) : NumYes (45 :: r) (-n) := by
  unfold NumYes Lib.itoa
  rw [if_pos (by omega), show (-n).natAbs = n.toNat from by omega, h]
theorem sig_minus_no1 {r : List UInt8} (h : DecNo r) : NumNo (45 :: r) := by
  intro m m0 m1 e
  unfold Lib.itoa at e
  by_cases hn : m < 0
  · rw [if_pos hn] at e
    exact h _ (by omega) (List.cons.inj e).2
  · rw [if_neg hn] at e; exact dec_minus _ _ e
theorem sig_minus_no2 {r : List UInt8} {n : Int} (h0 : 0 ≤ n) (h1 : n ≤ 0) (h : DecYes r n) : NumNo (45 :: r) := by
  intro m m0 m1 e
  unfold Lib.itoa at e
  by_cases hn : m < 0
  · rw [if_pos hn] at e
    have := (List.cons.inj e).2
    rw [← h] at this
    have := dec_inj this
    omega
  · rw [if_neg hn] at e; exact dec_minus _ _ e

set_option maxHeartbeats 1000000 in
theorem signed_any (s : ByteArray) (hs : s.size ≤ 1048576) (w : World) :
    Calls Tryz.prog 86 #[.string s] w (SigPost s.data.toList w) := by
  have hz : s.data.toList.length = s.size := Array.length_toList
  by_cases h0 : 0 < s.size
  · by_cases hm : s[0] = 45
    · have hl : ∃ r, s.data.toList = 45 :: r := by
        cases he : s.data.toList with
        | nil => rw [he] at hz; simp at hz; omega
        | cons c r =>
          have : c = s[0] := by
            have e2 : s.data.toList[0]'(by omega) = s[0] := rfl
            simp only [he] at e2
            exact e2
          exact ⟨r, by rw [this, hm]⟩
      obtain ⟨r, hr⟩ := hl
      have ht := tail_list s 45 r hr
      have HR := Lib.hid hr
      have h1 : ((s[0].toNat : Int) == 45) = true := by rw [hm]; rfl
      have h2 : (0 : Int) < (s.size : Int) := by omega
      have h3 : (1 : Int) ≤ (s.size : Int) := by omega
      have D := Lib.hid (fun W => digits_any (s.extract 1 s.size) (by simp [ByteArray.size_extract]; omega) W)
      rw [ht] at D
      clear ht hr hz hm
      go_enter Tryz.func86, Tryz.ntmps86
      go_wp2_with fail
      refine (D.out _).mono ?_
      rintro e w1 ⟨n, b, rfl, n0, n1, y, z, hb1⟩
      cases b
      · have N := Lib.hid (sig_minus_no1 (z rfl))
        clear y z
        go_wp2
        go_ret2
        exact ⟨-n, false, rfl, (fun h => by cases h), (fun _ => by rw [HR.out]; exact N.out), hb1⟩
      · have Y := Lib.hid (y rfl)
        clear y z
        by_cases hn : 0 < n
        · have N := Lib.hid (sig_minus_yes hn Y.out)
          go_wp2
          go_ret2
          exact ⟨-n, true, rfl, (fun _ => by rw [HR.out]; exact N.out), (fun h => by cases h), hb1⟩
        · have N := Lib.hid (sig_minus_no2 n0 (by omega) Y.out)
          have hn' : decide (0 < n) = false := decide_eq_false hn
          clear hn
          go_wp2
          go_ret2
          exact ⟨-n, false, rfl, (fun h => by cases h), (fun _ => by rw [HR.out]; exact N.out), hb1⟩
    · have hl : ∀ r, s.data.toList ≠ 45 :: r := by
        intro r he
        apply hm
        have e2 : s.data.toList[0]'(by omega) = s[0] := rfl
        simp only [he] at e2
        exact e2.symm
      have HL := Lib.hid hl
      have h1 : ((s[0].toNat : Int) == 45) = false := by
        have : s[0].toNat ≠ 45 := fun h => hm (UInt8.toNat_inj.1 h)
        simp; omega
      have h2 : (0 : Int) < (s.size : Int) := by omega
      have D := Lib.hid (fun W => digits_any s hs W)
      clear hl hz hm
      go_enter Tryz.func86, Tryz.ntmps86
      go_wp2_with fail
      refine (D.out _).mono ?_
      rintro e w1 ⟨n, b, rfl, n0, n1, y, z, hb1⟩
      have Y := Lib.hid y
      have Z := Lib.hid z
      clear y z
      go_wp2
      go_ret2
      exact ⟨n, b, rfl, (fun h => sig_plain_yes n0 (Y.out h)), (fun h => sig_plain_no HL.out (Z.out h)), hb1⟩
  · have HL : Hid (∀ r, s.data.toList ≠ 45 :: r) := by
      intro r he
      rw [he] at hz
      simp at hz
      omega
    have h2 : ¬ (0 : Int) < (s.size : Int) := by omega
    have h3 : decide ((0 : Int) < (s.size : Int)) = false := decide_eq_false h2
    have D := Lib.hid (fun W => digits_any s hs W)
    clear hz
    go_enter Tryz.func86, Tryz.ntmps86
    go_wp2_with fail
    refine (D.out _).mono ?_
    rintro e w1 ⟨n, b, rfl, n0, n1, y, z, hb1⟩
    have Y := Lib.hid y
    have Z := Lib.hid z
    clear y z
    go_wp2
    go_ret2
    exact ⟨n, b, rfl, (fun h => sig_plain_yes n0 (Y.out h)), (fun h => sig_plain_no HL.out (Z.out h)), hb1⟩

end Go.Proofs.YtpdekopmnchanabGreatDoor
