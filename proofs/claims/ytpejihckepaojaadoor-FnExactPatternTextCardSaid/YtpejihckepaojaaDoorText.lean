/-
  Contracts of chapter 1's texts: the program's text of a vector (strconv.FormatInt) and the model's (digit by digit) are one and the same. Condition: the library's table of powers of ten reads as its initialiser lays it.
-/
import Derived.Test.YtpejihckepaojaaDoorKeep
import Derived.Test.YtpejihckepaojaaDoorShelf
import Derived.Deep.RegionHeld3
import Derived.Deep.RegionWith
import Derived.Laws.BytesString
import Derived.Laws.Concat
import Derived.IntWalk
import Derived.Lib.ItoaLen
import Derived.Lib.AppendIntMem
namespace Go.Proofs.YtpejihckepaojaaDoor
open Go.RowKit
set_option linter.unusedSimpArgs false
set_option linter.unusedVariables false

def decS (n : Int) : ByteArray := ⟨(Lib.decDigits n.toNat).toArray⟩
def numS (n : Int) : ByteArray := ⟨(Lib.itoa n).toArray⟩
def oneS (d : Int) : ByteArray := ⟨[UInt8.ofNat d.toNat].toArray⟩

theorem conv1 (W : World) (b : Nat) (d : Int) (h : W.cell? ⟨b, 0, none⟩ = some (.int .u8 d)) :
    (convert 107 9 (.slice (some ⟨b, 0, none⟩) 1 1)).run Tryd.prog W = .ok (.string (oneS d)) W := by
  rw [run_convert_bytes_string W 107 9 5 _ 1 1 Tryd.underlying107 Tryd.underlying5 Tryd.underlying9]
  rw [run_bytesToString W ⟨b, 0, none⟩ 1 1 [d] (by simp [loadCells, h, go_sem])]
  rfl

theorem decS_small (n : Int) (h0 : 0 ≤ n) (h : n < 10) : decS n = oneS (48 + n) := by
  unfold decS oneS
  rw [Lib.decDigits_one (by omega), show (48 + n).toNat = 48 + n.toNat from by omega]
theorem decS_step (n : Int) (h0 : 0 ≤ n) (h : ¬ n < 10) : decS n = decS (n / 10) ++ oneS (48 + n % 10) := by
  unfold decS oneS
  rw [ByteArray.mk_append_mk, Lib.decDigits, dif_neg (by omega)]
  rw [show (n / 10).toNat = n.toNat / 10 from by omega, show (48 + n % 10).toNat = 48 + n.toNat % 10 from by omega]
theorem decS_size (n : Int) (h0 : 0 ≤ n) (h1 : n ≤ 9223372036854775807) : (decS n).size ≤ 20 := by
  show (Lib.decDigits n.toNat).toArray.size ≤ 20
  rw [List.size_toArray, Lib.decDigits_length]
  exact Lib.nDigits_le20 _ (by omega)

set_option maxHeartbeats 1000000 in
theorem dec_any : ∀ (m : Nat) (n : Int) (w : World), n.toNat < m → 0 ≤ n → n ≤ 1000000000000 →
    Calls Tryd.prog 108 #[.int .i64 n] w fun e w' => e = .returned (.string (decS n)) ∧ Below w.heap.size w w' := by
  intro m
  induction m with
  | zero => intro n w h; omega
  | succ m ih =>
    intro n w h h0 h1
    by_cases hs : n < 10
    · have EA := Lib.hid (decS_small n h0 hs)
      have hcv := conv1 (w.alloc (.cells #[.int .u8 (48 + n)] 5)) w.heap.size (48 + n) (by simp [go_sem])
      clear ih
      go_enter Tryd.func108, Tryd.ntmps108
      go_wp2
      go_ret
      exact ⟨ret_str EA.out.symm, (Below.refl _ _).alloc (Nat.le_refl _) _⟩
    · have EA := Lib.hid (decS_step n h0 hs)
      have hz := decS_size (n / 10) (by omega) (by omega)
      have hadd : ∀ W, (Op.stringOp .add (decS (n / 10)) (oneS (48 + n % 10))).run Tryd.prog W = .ok (.string (decS n)) W := by
        intro W
        rw [EA.out]
        exact run_string_add_sum W _ _ (by show _ + 1 ≤ _; omega)
      clear hz
      have IH := Lib.hid (fun W => ih (n / 10) W (by omega) (by omega) (by omega))
      have hd1 : 48 + n % 10 ≤ 57 := by omega
      have hd0 : 48 ≤ 48 + n % 10 := by omega
      have hcv := fun W b => conv1 W b (48 + n % 10)
      have q1 : n.tdiv 10 = n / 10 := Int.tdiv_eq_ediv_of_nonneg h0
      have q2 : n.tmod 10 = n % 10 := Int.tmod_eq_emod_of_nonneg h0
      have q3 : IntKind.i64.wrap (n / 10) = n / 10 := IntWalk.i64_in _ (by omega)
      have q4 : IntKind.i64.wrap (n % 10) = n % 10 := IntWalk.i64_in _ (by omega)
      have q5 : IntKind.i64.wrap (48 + n % 10) = 48 + n % 10 := IntWalk.i64_in _ (by omega)
      have q6 : IntKind.u8.wrap (48 + n % 10) = 48 + n % 10 := IntWalk.u8_in _ (by omega)
      clear ih h
      go_enter Tryd.func108, Tryd.ntmps108
      go_wp2_with fail
      go_region_with
        (first | (go_at_call 108; refine (IH.out _).mono ?_; rintro e w1 ⟨rfl, hb1⟩; obtain ⟨hc1, hf1⟩ := bcell hb1; have z1 := hb1.size; (try simp at z1)))
      all_goals
        go_wp2
        go_ret
        refine ⟨ret_str rfl, ?_⟩
        clear q1 q2 q3 q4 q5 q6 hadd hcv hc1 hf1
        repeat (first | exact Below.refl _ _ | refine Below.setCell ?_ (by first | omega | (simp <;> omega)) _ | refine Below.alloc ?_ (by first | omega | (simp <;> omega)) _ | refine bstep ?_ (by assumption) | refine Below.drew ?_)

/- MARK -/
def TabOK (w : World) : Prop := Lib.TabIs Tryd.prog w "internal/strconv.uint64pow10" .u64 Lib.pow10Tab
theorem TabOK.on {w W : World} (h : TabOK w) (hb : Below w.heap.size w W) : TabOK W := Lib.tabBelow_of_tabIs h W hb

theorem fmt_any (n : Int) (w W : World) (hT : TabOK w) (h0 : -1000000000000 ≤ n) (h1 : n ≤ 1000000000000) (hb : Below w.heap.size w W) :
    Calls Tryd.prog 109 #[.int .i64 n, .int .i64 10] W fun e w' => e = .returned (.string (numS n)) ∧ Below W.heap.size W w' :=
  (Any.strconv_FormatInt_10 Tryd.laysM173 n (by omega) (by omega) W (hT.on hb)).mono fun _ _ ⟨he, k, os, hw⟩ => ⟨he, hw ▸ Lib.below_grow _ W (Nat.le_refl _) k os⟩

theorem numS_pos (n : Int) (h : ¬ n < 0) : numS n = decS n := by
  unfold numS decS
  rw [Lib.itoa, if_neg h]
theorem numS_neg (n : Int) (h : n < 0) : numS n = ⟨#[45]⟩ ++ decS (-n) := by
  unfold numS decS
  rw [Lib.itoa, if_pos h, show (-n).toNat = n.natAbs from by omega]
  rw [show (⟨#[45]⟩ : ByteArray) = ⟨[45].toArray⟩ from rfl, ByteArray.mk_append_mk]
  rfl
theorem numS_size (n : Int) (h0 : -1000000000000 ≤ n) (h1 : n ≤ 1000000000000) : (numS n).size ≤ 21 := by
  show (Lib.itoa n).toArray.size ≤ 21
  rw [List.size_toArray]
  exact Lib.itoa_length_le n (by omega) (by omega)

set_option maxHeartbeats 1000000 in
theorem number_any (n : Int) (w : World) (h0 : -1000000000000 ≤ n) (h1 : n ≤ 1000000000000) :
    Calls Tryd.prog 99 #[.int .i64 n] w fun e w' => e = .returned (.string (numS n)) ∧ Below w.heap.size w w' := by
  by_cases hs : n < 0
  · have EA := Lib.hid (numS_neg n hs)
    have hz := decS_size (-n) (by omega) (by omega)
    have hadd : ∀ W, (Op.stringOp .add ⟨#[45]⟩ (decS (-n))).run Tryd.prog W = .ok (.string (numS n)) W := by
      intro W
      rw [EA.out]
      exact run_string_add_sum W _ _ (by show 1 + _ ≤ _; omega)
    clear hz
    go_enter Tryd.func99, Tryd.ntmps99
    go_wp2_with fail
    refine (dec_any _ _ _ (Nat.lt_succ_self _) (by omega) (by omega)).mono ?_
    rintro e w1 ⟨rfl, hb1⟩
    go_wp2
    go_ret
    exact ⟨ret_str rfl, hb1⟩
  · have EA := Lib.hid (numS_pos n hs)
    go_enter Tryd.func99, Tryd.ntmps99
    go_wp2_with fail
    refine (dec_any _ _ _ (Nat.lt_succ_self _) (by omega) (by omega)).mono ?_
    rintro e w1 ⟨rfl, hb1⟩
    go_wp2
    go_ret
    exact ⟨ret_str EA.out.symm, hb1⟩

end Go.Proofs.YtpejihckepaojaaDoor
