/-
  A text cut or split at the semicolon: strings.Cut and the model's l01Split. Condition: the text has at most 2^20 bytes.
-/
import Derived.Test.YtpdekopmnchanabGreatDoorSplit
import Derived.Test.YtpdekopmnchanabGreatDoorRead1
import Derived.LoopTactic
import Derived.OwnWalk
namespace Go.Proofs.YtpdekopmnchanabGreatDoor
open Go.RowKit
set_option linter.unusedSimpArgs false
set_option linter.unusedVariables false

theorem comma_dig9s {c : UInt8} (h : isDig c) : c ≠ 59 := by
  rintro rfl
  unfold isDig at h
  revert h
  decide
theorem itoa_comma9s (n : Int) : (59 : UInt8) ∉ Lib.itoa n := by
  unfold Lib.itoa
  by_cases hn : n < 0
  · rw [if_pos hn]
    intro h
    rcases List.mem_cons.1 h with h | h
    · revert h; decide
    · exact comma_dig9s (dec_digits _ _ h) rfl
  · rw [if_neg hn]
    intro h
    exact comma_dig9s (dec_digits _ _ h) rfl

theorem comma_inj9s : ∀ {l l' r r' : List UInt8}, (59 : UInt8) ∉ l → (59 : UInt8) ∉ l' → l ++ 59 :: r = l' ++ 59 :: r' → l = l' ∧ r = r'
  | [], [], r, r', _, _, h => by simpa using h
  | [], b :: l', r, r', _, h', h => by
    simp at h
    exact absurd (by simp [h.1]) h'
  | a :: l, [], r, r', h', _, h => by
    simp at h
    exact absurd (by simp [h.1]) h'
  | a :: l, b :: l', r, r', h1, h2, h => by
    simp at h
    obtain ⟨e1, e2⟩ := comma_inj9s (l := l) (l' := l') (fun x => h1 (by simp [x])) (fun x => h2 (by simp [x])) h.2
    exact ⟨by rw [h.1, e1], e2⟩

theorem index_comma9s : ∀ s : List UInt8, (Lib.index s [59] = -1 ∧ (59 : UInt8) ∉ s) ∨ ∃ l r, s = l ++ 59 :: r ∧ (59 : UInt8) ∉ l ∧ Lib.index s [59] = (l.length : Int)
  | [] => .inl ⟨rfl, by simp⟩
  | b :: s => by
    by_cases hb : b = 59
    · subst hb
      exact .inr ⟨[], s, rfl, by simp, by simp [Lib.index]⟩
    · have hp : ([59] : List UInt8).isPrefixOf (b :: s) = false := by
        simp [List.isPrefixOf]; exact fun h => hb h.symm
      rcases index_comma9s s with ⟨h1, h2⟩ | ⟨l, r, h1, h2, h3⟩
      · refine .inl ⟨by simp [Lib.index, hp, h1], ?_⟩
        intro h
        rcases List.mem_cons.1 h with h | h
        · exact hb h.symm
        · exact h2 h
      · refine .inr ⟨b :: l, r, by simp [h1], ?_, ?_⟩
        · intro h
          rcases List.mem_cons.1 h with h | h
          · exact hb h.symm
          · exact h2 h
        · rw [Lib.index, hp, h3]
          simp

theorem cut_comma9s (s : List UInt8) : (Lib.cut s [59] = (s, [], false) ∧ (59 : UInt8) ∉ s) ∨ ∃ l r, s = l ++ 59 :: r ∧ (59 : UInt8) ∉ l ∧ Lib.cut s [59] = (l, r, true) := by
  rcases index_comma9s s with ⟨h1, h2⟩ | ⟨l, r, h1, h2, h3⟩
  · exact .inl ⟨by unfold Lib.cut; rw [if_neg (by omega)], h2⟩
  · refine .inr ⟨l, r, h1, h2, ?_⟩
    unfold Lib.cut
    rw [if_pos (by omega), h3]
    subst h1
    simp


def cutF9s (l left right : List UInt8) (b : Bool) : Prop :=
  (b = true ∧ l = left ++ 59 :: right ∧ (59 : UInt8) ∉ left) ∨ (b = false ∧ left = l ∧ right = [] ∧ (59 : UInt8) ∉ l)
def CutPost9s (l : List UInt8) (w : World) (e : Ending) (w' : World) : Prop :=
  ∃ (left right : List UInt8) (b : Bool), e = .returned (.tuple #[.string ⟨left.toArray⟩, .string ⟨right.toArray⟩, .bool b]) ∧ cutF9s l left right b ∧ left.length ≤ l.length ∧ right.length ≤ l.length ∧ Below w.heap.size w w'

theorem cut_any9s (s : ByteArray) (hs : s.size ≤ 1048576) (w : World) (hM : MaxOK w) :
    Calls Tryz.prog 25 #[.string s, .string ⟨#[59]⟩] w (CutPost9s s.data.toList w) := by
  obtain ⟨m, hm⟩ := hM
  refine (Any.strings_Cut { Tryz.laysM145 with } s ⟨#[59]⟩ m w (by omega) hm).mono fun e w' ⟨he, n, hw⟩ => ?_
  have hb : Below w.heap.size w w' := hw ▸ below_drewN (Below.refl _ _) n
  rcases cut_comma9s s.data.toList with ⟨h1, h2⟩ | ⟨l, r, h1, h2, h3⟩
  · exact ⟨s.data.toList, [], false, by rw [he]; show Ending.returned (.tuple #[.string ⟨(Lib.cut s.data.toList [59]).1.toArray⟩, .string ⟨(Lib.cut s.data.toList [59]).2.1.toArray⟩, .bool (Lib.cut s.data.toList [59]).2.2]) = _; rw [h1], .inr ⟨rfl, rfl, rfl, h2⟩, Nat.le_refl _, by simp, hb⟩
  · exact ⟨l, r, true, by rw [he]; show Ending.returned (.tuple #[.string ⟨(Lib.cut s.data.toList [59]).1.toArray⟩, .string ⟨(Lib.cut s.data.toList [59]).2.1.toArray⟩, .bool (Lib.cut s.data.toList [59]).2.2]) = _; rw [h3], .inl ⟨rfl, h1, h2⟩, by rw [h1]; simp, by rw [h1]; simp; omega, hb⟩


def joinC9s (ws : List (List UInt8)) : List UInt8 := ws.flatMap (· ++ [59])
def SplitOf9s (l : List UInt8) (ws : List (List UInt8)) : Prop := l ++ [59] = joinC9s ws ∧ ∀ x ∈ ws, (59 : UInt8) ∉ x
def SplK9s (l : List UInt8) (k fr : Nat) (ws : List (List UInt8)) : Prop :=
  (k ≤ l.length ∧ fr ≤ k ∧ l.take k = joinC9s ws ++ (l.take k).drop fr ∧ (59 : UInt8) ∉ (l.take k).drop fr ∧ ∀ x ∈ ws, (59 : UInt8) ∉ x) ∨ (k = l.length + 1 ∧ SplitOf9s l ws)

theorem joinC_snoc9s (ws : List (List UInt8)) (x : List UInt8) : joinC9s (ws ++ [x]) = joinC9s ws ++ x ++ [59] := by
  unfold joinC9s; simp [List.flatMap_append]
theorem splK_start9s (l : List UInt8) : SplK9s l 0 0 [] := .inl ⟨by omega, by omega, by simp [joinC9s], by simp, by simp⟩
theorem splK_pass9s {l : List UInt8} {k fr : Nat} {ws : List (List UInt8)} (h : SplK9s l k fr ws) (hk : k < l.length) (hc : l[k] ≠ 59) : SplK9s l (k + 1) fr ws := by
  rcases h with ⟨h1, h2, h3, h4, h5⟩ | ⟨h1, _⟩
  · have ht : l.take (k + 1) = l.take k ++ [l[k]] := List.take_succ_eq_append_getElem hk
    have hd : (l.take (k + 1)).drop fr = (l.take k).drop fr ++ [l[k]] := by
      rw [ht, List.drop_append_of_le_length (by rw [List.length_take]; omega)]
    refine .inl ⟨hk, by omega, ?_, ?_, h5⟩
    · rw [hd, ← List.append_assoc, ← h3, ht]
    · rw [hd]
      intro hm
      rcases List.mem_append.1 hm with hm | hm
      · exact h4 hm
      · exact hc (List.mem_singleton.1 hm).symm
  · omega
theorem splK_comma9s {l : List UInt8} {k fr : Nat} {ws : List (List UInt8)} (h : SplK9s l k fr ws) (hk : k < l.length) (hc : l[k] = 59) : SplK9s l (k + 1) (k + 1) (ws ++ [(l.take k).drop fr]) := by
  rcases h with ⟨h1, h2, h3, h4, h5⟩ | ⟨h1, _⟩
  · have ht : l.take (k + 1) = l.take k ++ [l[k]] := List.take_succ_eq_append_getElem hk
    have hd : (l.take (k + 1)).drop (k + 1) = [] := by simp
    refine .inl ⟨hk, Nat.le_refl _, ?_, by rw [hd]; simp, ?_⟩
    · rw [hd, joinC_snoc9s, List.append_nil, ← h3, ht, hc]
    · intro x hx
      rcases List.mem_append.1 hx with hx | hx
      · exact h5 x hx
      · rw [List.mem_singleton.1 hx]; exact h4
  · omega
theorem splK_end9s {l : List UInt8} {fr : Nat} {ws : List (List UInt8)} (h : SplK9s l l.length fr ws) (fr' : Nat) : SplK9s l (l.length + 1) fr' (ws ++ [(l.take l.length).drop fr]) := by
  rcases h with ⟨h1, h2, h3, h4, h5⟩ | ⟨h1, _⟩
  · refine .inr ⟨rfl, ?_, ?_⟩
    · rw [joinC_snoc9s, ← h3, List.take_length]
    · intro x hx
      rcases List.mem_append.1 hx with hx | hx
      · exact h5 x hx
      · rw [List.mem_singleton.1 hx]; exact h4
  · omega
theorem splK_fr9s {l : List UInt8} {k fr : Nat} {ws : List (List UInt8)} (h : SplK9s l k fr ws) (hk : k ≤ l.length) : fr ≤ k := by
  rcases h with ⟨_, h, _⟩ | ⟨h1, _⟩
  · exact h
  · omega
theorem splK_done9s {l : List UInt8} {k fr : Nat} {ws : List (List UInt8)} (h : SplK9s l k fr ws) (hk : l.length < k) : SplitOf9s l ws := by
  rcases h with ⟨h, _⟩ | ⟨_, h⟩
  · omega
  · exact h
theorem joinC_inj9s : ∀ {a b : List (List UInt8)}, (∀ x ∈ a, (59 : UInt8) ∉ x) → (∀ x ∈ b, (59 : UInt8) ∉ x) → joinC9s a = joinC9s b → a = b
  | [], [], _, _, _ => rfl
  | [], y :: b, _, _, h => by simp [joinC9s] at h
  | x :: a, [], _, _, h => by simp [joinC9s] at h
  | x :: a, y :: b, h1, h2, h => by
    have e : x ++ 59 :: joinC9s a = y ++ 59 :: joinC9s b := by simpa [joinC9s] using h
    obtain ⟨e1, e2⟩ := comma_inj9s (h1 x (by simp)) (h2 y (by simp)) e
    rw [e1, joinC_inj9s (fun z hz => h1 z (by simp [hz])) (fun z hz => h2 z (by simp [hz])) e2]

def SplitPost9s (l : List UInt8) (w : World) (e : Ending) (w' : World) : Prop :=
  ∃ (v : Value) (ws : List (List UInt8)), e = .returned v ∧ SplitOf9s l ws ∧ ws.length ≤ l.length + 1 ∧ w'.ownsRow w.heap.size 9 1 v ws.length (ws.map strV) ∧ Below w.heap.size w w'

set_option maxHeartbeats 2000000 in
theorem split_any9s (s : ByteArray) (hs : s.size ≤ 1048576) (w : World) :
    Calls Tryz.prog 30 #[.string s, .int .u8 59] w (SplitPost9s s.data.toList w) := by
  have HZ := Lib.hid (show s.data.toList.length = s.size from Array.length_toList)
  obtain ⟨i0, hi, hz0, hz1, hz2⟩ := info_parts info9
  go_enter Tryz.func30, Tryz.ntmps30
  go_wp2_with fail
  go_loopw [5, 6, 7] (fun v f i wr => ∃ (k fr : Nat) (ws : List (List UInt8)), i = .int .i64 k ∧ f = .int .i64 fr ∧ k ≤ s.size + 1 ∧ ws.length ≤ k ∧ Hid (SplK9s s.data.toList k fr ws) ∧ wr.ownsRow w.heap.size 9 1 v ws.length (ws.map strV) ∧ Below w.heap.size w wr) (fun _ _ i _ => s.size + 1 - (intOf i).toNat)
  case atStart => exact ⟨0, 0, [], rfl, rfl, by omega, by simp, splK_start9s _, own_start w _, (Below.refl _ _).alloc (Nat.le_refl _) _⟩
  case round =>
    obtain ⟨k, fr, ws, rfl, rfl, hk, hwk, hS, hown, hB⟩ := hrel
    by_cases h1 : k ≤ s.size
    · have hfr : fr ≤ k := splK_fr9s hS.out (by rw [HZ.out]; exact h1)
      have hBs := hB.size
      have hfk : (fr : Int) ≤ (k : Int) := by omega
      have hfk0 : (0 : Int) ≤ (fr : Int) := by omega
      by_cases h2 : k = s.size
      · subst h2
        have N : Hid (SplK9s s.data.toList (s.size + 1) (s.size + 1) (ws ++ [(s.data.toList.take s.size).drop fr])) := by
          have := hS.out
          have e := HZ.out
          rw [← e] at this ⊢
          exact splK_end9s this _
        go_wp2_with (first | (at_builtin; refine wpList_append_own _ rfl _ _ 62 rfl w.heap.size 9 i0 (.string ⟨#[]⟩) 1 16 Tryz.underlying62 hi hz0 hz1 hz2 rfl (by decide) _ _ _ rfl (hown.alloc _) ⟨wr.heap.size, 0, none⟩ 1 1 [.string (s.extract fr s.size)] rfl rfl ?c1 ?c2 ?c3 ?c4 ?c5 ?_))
        case c1 =>
          intro j u hj
          match j, hj with
          | 0, hj => simp at hj; subst hj; simp [Addr.add]
        case c2 => intro u hu; simp at hu; subst hu; rfl
        case c3 => unfold maxLen; omega
        case c4 => omega
        case c5 => simp; omega
        intro v' w1 hown' hgrow _
        have O := Lib.hid (own_next (ext_str s fr s.size (by omega)) hown')
        have B1 : Below w.heap.size w w1 := (hB.alloc hBs _).grown hgrow (by simp; omega) (own_base hown)
        clear hown' hgrow hown hB
        go_wp2
        go_roundw
        case rel => exact ⟨s.size + 1, s.size + 1, ws ++ [(s.data.toList.take s.size).drop fr], by go_num, by go_num, by omega, by simp; omega, N.out, O.out, B1⟩
        case measure => first | (simp [intOf]; done) | (simp [intOf]; omega)
      · have h3 : k < s.size := by omega
        have h4 : ((k : Int) == (s.size : Int)) = false := by simp; omega
        have hkl : k < s.data.toList.length := by rw [HZ.out]; exact h3
        by_cases hc : s[k] = 59
        · have N := Lib.hid (splK_comma9s hS.out hkl (show s.data.toList[k] = 59 from hc))
          have hcb : ((s[k].toNat : Int) == 59) = true := by rw [hc]; rfl
          clear hc hS
          go_wp2_with (first | (at_builtin; refine wpList_append_own _ rfl _ _ 62 rfl w.heap.size 9 i0 (.string ⟨#[]⟩) 1 16 Tryz.underlying62 hi hz0 hz1 hz2 rfl (by decide) _ _ _ rfl (hown.alloc _) ⟨wr.heap.size, 0, none⟩ 1 1 [.string (s.extract fr k)] rfl rfl ?c1 ?c2 ?c3 ?c4 ?c5 ?_))
          case c1 =>
            intro j u hj
            match j, hj with
            | 0, hj => simp at hj; subst hj; simp [Addr.add]
          case c2 => intro u hu; simp at hu; subst hu; rfl
          case c3 => unfold maxLen; omega
          case c4 => omega
          case c5 => simp; omega
          intro v' w1 hown' hgrow _
          have O := Lib.hid (own_next (ext_str s fr k (by omega)) hown')
          have B1 : Below w.heap.size w w1 := (hB.alloc hBs _).grown hgrow (by simp; omega) (own_base hown)
          clear hown' hgrow hown hB
          go_wp2
          go_roundw
          case rel => exact ⟨k + 1, k + 1, ws ++ [(s.data.toList.take k).drop fr], by go_num, by go_num, by omega, by simp; omega, N.out, O.out, B1⟩
          case measure => first | (simp [intOf]; done) | (simp [intOf]; omega)
        · have N := Lib.hid (splK_pass9s hS.out hkl (show s.data.toList[k] ≠ 59 from hc))
          have hcb : ((s[k].toNat : Int) == 59) = false := by
            have : s[k].toNat ≠ 59 := fun h => hc (UInt8.toNat_inj.1 h)
            simp; omega
          clear hc hS
          go_wp2
          go_roundw
          case rel => exact ⟨k + 1, fr, ws, by go_num, rfl, by omega, by omega, N.out, hown, hB⟩
          case measure => first | (simp [intOf]; done) | (simp [intOf]; omega)
    · have h1b : ¬ (k : Int) ≤ (s.size : Int) := by omega
      have D := Lib.hid (splK_done9s hS.out (by rw [HZ.out]; omega))
      go_wp2
      go_ret
      exact ⟨_, ws, rfl, D.out, by rw [HZ.out]; omega, hown, hB⟩


end Go.Proofs.YtpdekopmnchanabGreatDoor
