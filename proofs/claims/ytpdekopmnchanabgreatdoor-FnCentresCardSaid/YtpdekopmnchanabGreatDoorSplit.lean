/-
  The contract of the model's l01Split at the comma: the words of a text, none with a comma, which joined by commas are the text. Condition: the text has at most 2^20 bytes.
-/
import Derived.Test.YtpdekopmnchanabGreatDoorDig
import Derived.LoopTactic
import Derived.OwnWalk
namespace Go.Proofs.YtpdekopmnchanabGreatDoor
open Go.RowKit
set_option linter.unusedSimpArgs false
set_option linter.unusedVariables false

def strV (x : List UInt8) : Value := .string ⟨x.toArray⟩
def joinC (ws : List (List UInt8)) : List UInt8 := ws.flatMap (· ++ [44])
def SplitOf (l : List UInt8) (ws : List (List UInt8)) : Prop := l ++ [44] = joinC ws ∧ ∀ x ∈ ws, (44 : UInt8) ∉ x
def SplK (l : List UInt8) (k fr : Nat) (ws : List (List UInt8)) : Prop :=
  (k ≤ l.length ∧ fr ≤ k ∧ l.take k = joinC ws ++ (l.take k).drop fr ∧ (44 : UInt8) ∉ (l.take k).drop fr ∧ ∀ x ∈ ws, (44 : UInt8) ∉ x) ∨ (k = l.length + 1 ∧ SplitOf l ws)

theorem joinC_snoc (ws : List (List UInt8)) (x : List UInt8) : joinC (ws ++ [x]) = joinC ws ++ x ++ [44] := by
  unfold joinC; simp [List.flatMap_append]
theorem splK_start (l : List UInt8) : SplK l 0 0 [] := .inl ⟨by omega, by omega, by simp [joinC], by simp, by simp⟩
theorem splK_pass {l : List UInt8} {k fr : Nat} {ws : List (List UInt8)} (h : SplK l k fr ws) (hk : k < l.length) (hc : l[k] ≠ 44) : SplK l (k + 1) fr ws := by
  rcases h with ⟨h1, h2, h3, h4, h5⟩ | ⟨h1, _⟩
  · have ht : l.take (k + 1) = l.take k ++ [l[k]] := List.take_succ_eq_append_getElem hk
    have hd : (l.take (k + 1)).drop fr = (l.take k).drop fr ++ [l[k]] := by
      rw [ht, List.drop_append_of_le_length (by rw [List.length_take]; omega)]
    refine .inl ⟨hk, by omega, ?_, ?_, h5⟩
    · rw [hd, ← List.append_assoc, ← h3, ht]
    · rw [hd]
      intro hm
      rcases List.mem_append.1 hm with hm | hm
      · exact h4 hm
      · exact hc (List.mem_singleton.1 hm).symm
  · omega
theorem splK_comma {l : List UInt8} {k fr : Nat} {ws : List (List UInt8)} (h : SplK l k fr ws) (hk : k < l.length) (hc : l[k] = 44) : SplK l (k + 1) (k + 1) (ws ++ [(l.take k).drop fr]) := by
  rcases h with ⟨h1, h2, h3, h4, h5⟩ | ⟨h1, _⟩
  · have ht : l.take (k + 1) = l.take k ++ [l[k]] := List.take_succ_eq_append_getElem hk
    have hd : (l.take (k + 1)).drop (k + 1) = [] := by simp
    refine .inl ⟨hk, Nat.le_refl _, ?_, by rw [hd]; simp, ?_⟩
    · rw [hd, joinC_snoc, List.append_nil, ← h3, ht, hc]
    · intro x hx
      rcases List.mem_append.1 hx with hx | hx
      · exact h5 x hx
      · rw [List.mem_singleton.1 hx]; exact h4
  · omega
theorem splK_end {l : List UInt8} {fr : Nat} {ws : List (List UInt8)} (h : SplK l l.length fr ws) (fr' : Nat) : SplK l (l.length + 1) fr' (ws ++ [(l.take l.length).drop fr]) := by
  rcases h with ⟨h1, h2, h3, h4, h5⟩ | ⟨h1, _⟩
  · refine .inr ⟨rfl, ?_, ?_⟩
    · rw [joinC_snoc, ← h3, List.take_length]
    · intro x hx
      rcases List.mem_append.1 hx with hx | hx
      · exact h5 x hx
      · rw [List.mem_singleton.1 hx]; exact h4
  · omega
theorem splK_fr {l : List UInt8} {k fr : Nat} {ws : List (List UInt8)} (h : SplK l k fr ws) (hk : k ≤ l.length) : fr ≤ k := by
  rcases h with ⟨_, h, _⟩ | ⟨h1, _⟩
  · exact h
  · omega
theorem splK_done {l : List UInt8} {k fr : Nat} {ws : List (List UInt8)} (h : SplK l k fr ws) (hk : l.length < k) : SplitOf l ws := by
  rcases h with ⟨h, _⟩ | ⟨_, h⟩
  · omega
  · exact h
theorem ext_str (s : ByteArray) (fr k : Nat) (hk : k ≤ s.size) : Value.string (s.extract fr k) = strV ((s.data.toList.take k).drop fr) := by
  unfold strV
  congr 1
  apply ByteArray.ext
  rw [ByteArray.data_extract]
  apply Array.ext'
  rw [Array.toList_extract]
  simp [List.extract, List.drop_take]

theorem joinC_inj : ∀ {a b : List (List UInt8)}, (∀ x ∈ a, (44 : UInt8) ∉ x) → (∀ x ∈ b, (44 : UInt8) ∉ x) → joinC a = joinC b → a = b
  | [], [], _, _, _ => rfl
  | [], y :: b, _, _, h => by simp [joinC] at h
  | x :: a, [], _, _, h => by simp [joinC] at h
  | x :: a, y :: b, h1, h2, h => by
    have e : x ++ 44 :: joinC a = y ++ 44 :: joinC b := by simpa [joinC] using h
    obtain ⟨e1, e2⟩ := comma_inj (h1 x (by simp)) (h2 y (by simp)) e
    rw [e1, joinC_inj (fun z hz => h1 z (by simp [hz])) (fun z hz => h2 z (by simp [hz])) e2]

theorem info9 : (Tryz.prog.info? 9).map (fun i => (i.zero, i.size, i.bytes)) = some (some (.string ⟨#[]⟩), 1, 16) := by kernel_rfl

theorem own_base {w : World} {base : Nat} {e : TypeId} {size : Nat} {v : Value} {n : Nat} {xs : List Value} (h : w.ownsRow base e size v n xs) : ∀ k, v.ownBlock = some k → base ≤ k := by
  obtain ⟨_, ⟨rfl, _⟩ | ⟨g, cap, cur, rfl, hb, _⟩⟩ := h
  · intro k hk; simp [Value.ownBlock] at hk
  · intro k hk; simp [Value.ownBlock] at hk; omega
theorem own_start (w : World) (e : TypeId) : (w.alloc (.cells #[] e)).ownsRow w.heap.size e 1 (.slice (some ⟨w.heap.size, 0, none⟩) 0 0) 0 [] :=
  ⟨by simp, .inr ⟨w.heap.size, 0, #[], rfl, Nat.le_refl _, (MapKept.heap_alloc w _).1, Nat.le_refl _, by unfold maxLen; omega, by simp, by simp⟩⟩
theorem own_next {w1 : World} {base : Nat} {e : TypeId} {v : Value} {ws : List (List UInt8)} {x : List UInt8} {u : Value} (hu : u = strV x) (h : w1.ownsRow base e 1 v (ws.length + 1) (ws.map strV ++ [u])) : w1.ownsRow base e 1 v (ws ++ [x]).length ((ws ++ [x]).map strV) := by
  subst hu; simpa using h

def SplitPost (l : List UInt8) (w : World) (e : Ending) (w' : World) : Prop :=
  ∃ (v : Value) (ws : List (List UInt8)), e = .returned v ∧ SplitOf l ws ∧ ws.length ≤ l.length + 1 ∧ w'.ownsRow w.heap.size 9 1 v ws.length (ws.map strV) ∧ Below w.heap.size w w'

set_option maxHeartbeats 2000000 in
theorem split_any (s : ByteArray) (hs : s.size ≤ 1048576) (w : World) :
    Calls Tryz.prog 30 #[.string s, .int .u8 44] w (SplitPost s.data.toList w) := by
  have HZ := Lib.hid (show s.data.toList.length = s.size from Array.length_toList)
  obtain ⟨i0, hi, hz0, hz1, hz2⟩ := info_parts info9
  go_enter Tryz.func30, Tryz.ntmps30
  go_wp2_with fail
  go_loopw [5, 6, 7] (fun v f i wr => ∃ (k fr : Nat) (ws : List (List UInt8)), i = .int .i64 k ∧ f = .int .i64 fr ∧ k ≤ s.size + 1 ∧ ws.length ≤ k ∧ Hid (SplK s.data.toList k fr ws) ∧ wr.ownsRow w.heap.size 9 1 v ws.length (ws.map strV) ∧ Below w.heap.size w wr) (fun _ _ i _ => s.size + 1 - (intOf i).toNat)
  case atStart => exact ⟨0, 0, [], rfl, rfl, by omega, by simp, splK_start _, own_start w _, (Below.refl _ _).alloc (Nat.le_refl _) _⟩
  case round =>
    obtain ⟨k, fr, ws, rfl, rfl, hk, hwk, hS, hown, hB⟩ := hrel
    by_cases h1 : k ≤ s.size
    · have hfr : fr ≤ k := splK_fr hS.out (by rw [HZ.out]; exact h1)
      have hBs := hB.size
      have hfk : (fr : Int) ≤ (k : Int) := by omega
      have hfk0 : (0 : Int) ≤ (fr : Int) := by omega
      by_cases h2 : k = s.size
      · subst h2
        have N : Hid (SplK s.data.toList (s.size + 1) (s.size + 1) (ws ++ [(s.data.toList.take s.size).drop fr])) := by
          have := hS.out
          have e := HZ.out
          rw [← e] at this ⊢
          exact splK_end this _
        go_wp2_with (first | (at_builtin; refine wpList_append_own _ rfl _ _ 62 rfl w.heap.size 9 i0 (.string ⟨#[]⟩) 1 16 Tryz.underlying62 hi hz0 hz1 hz2 rfl (by decide) _ _ _ rfl (hown.alloc _) ⟨wr.heap.size, 0, none⟩ 1 1 [.string (s.extract fr s.size)] rfl rfl ?c1 ?c2 ?c3 ?c4 ?c5 ?_))
        case c1 =>
          intro j u hj
          match j, hj with
          | 0, hj => simp at hj; subst hj; simp [Addr.add]
        case c2 => intro u hu; simp at hu; subst hu; rfl
        case c3 => unfold maxLen; omega
        case c4 => omega
        case c5 => simp; omega
        intro v' w1 hown' hgrow _
        have O := Lib.hid (own_next (ext_str s fr s.size (by omega)) hown')
        have B1 : Below w.heap.size w w1 := (hB.alloc hBs _).grown hgrow (by simp; omega) (own_base hown)
        clear hown' hgrow hown hB
        go_wp2
        go_roundw
        case rel => exact ⟨s.size + 1, s.size + 1, ws ++ [(s.data.toList.take s.size).drop fr], by go_num, by go_num, by omega, by simp; omega, N.out, O.out, B1⟩
        case measure => first | (simp [intOf]; done) | (simp [intOf]; omega)
      · have h3 : k < s.size := by omega
        have h4 : ((k : Int) == (s.size : Int)) = false := by simp; omega
        have hkl : k < s.data.toList.length := by rw [HZ.out]; exact h3
        by_cases hc : s[k] = 44
        · have N := Lib.hid (splK_comma hS.out hkl (show s.data.toList[k] = 44 from hc))
          have hcb : ((s[k].toNat : Int) == 44) = true := by rw [hc]; rfl
          clear hc hS
          go_wp2_with (first | (at_builtin; refine wpList_append_own _ rfl _ _ 62 rfl w.heap.size 9 i0 (.string ⟨#[]⟩) 1 16 Tryz.underlying62 hi hz0 hz1 hz2 rfl (by decide) _ _ _ rfl (hown.alloc _) ⟨wr.heap.size, 0, none⟩ 1 1 [.string (s.extract fr k)] rfl rfl ?c1 ?c2 ?c3 ?c4 ?c5 ?_))
          case c1 =>
            intro j u hj
            match j, hj with
            | 0, hj => simp at hj; subst hj; simp [Addr.add]
          case c2 => intro u hu; simp at hu; subst hu; rfl
          case c3 => unfold maxLen; omega
          case c4 => omega
          case c5 => simp; omega
          intro v' w1 hown' hgrow _
          have O := Lib.hid (own_next (ext_str s fr k (by omega)) hown')
          have B1 : Below w.heap.size w w1 := (hB.alloc hBs _).grown hgrow (by simp; omega) (own_base hown)
          clear hown' hgrow hown hB
          go_wp2
          go_roundw
          case rel => exact ⟨k + 1, k + 1, ws ++ [(s.data.toList.take k).drop fr], by go_num, by go_num, by omega, by simp; omega, N.out, O.out, B1⟩
          case measure => first | (simp [intOf]; done) | (simp [intOf]; omega)
        · have N := Lib.hid (splK_pass hS.out hkl (show s.data.toList[k] ≠ 44 from hc))
          have hcb : ((s[k].toNat : Int) == 44) = false := by
            have : s[k].toNat ≠ 44 := fun h => hc (UInt8.toNat_inj.1 h)
            simp; omega
          clear hc hS
          go_wp2
          go_roundw
          case rel => exact ⟨k + 1, fr, ws, by go_num, rfl, by omega, by omega, N.out, hown, hB⟩
          case measure => first | (simp [intOf]; done) | (simp [intOf]; omega)
    · have h1b : ¬ (k : Int) ≤ (s.size : Int) := by omega
      have D := Lib.hid (splK_done hS.out (by rw [HZ.out]; omega))
      go_wp2
      go_ret
      exact ⟨_, ws, rfl, D.out, by rw [HZ.out]; omega, hown, hB⟩

end Go.Proofs.YtpdekopmnchanabGreatDoor
