/-
  The walks of the exact laws of SignatureOf, PointOrder and NameOfSignature: the law returns true and writes nothing that was there. Conditions: the string's length is one that a string can have; the program's variable namedGroups holds its seventeen entries.
-/
import Derived.Test.YtjocmfnjfmlgiaaDoorNm4
namespace Go.Proofs.YtjocmfnjfmlgiaaDoor
open Go.RowKit
set_option linter.unusedSimpArgs false
set_option linter.unusedVariables false

set_option maxRecDepth 100000 in
set_option maxHeartbeats 8000000 in
theorem walkSg (s : ByteArray) (w : World) (hs : s.size ≤ maxLen) (hN : NamesOK w) :
    Calls Tryd.prog 5 #[.string s] w fun z w' => z = .returned (.bool true) ∧ Below w.heap.size w w' := by
  have HN := Lib.hid hN
  have hs2 : (s.size : Int) ≤ 9223372036854775807 := by unfold maxLen at hs; omega
  clear hN hs
  by_cases hb : (s.size : Int) ≤ 1048576
  · obtain ⟨a, k, hR⟩ : ∃ a k, sgT s = .tuple #[a, .int .i64 k] ∧ ((∃ u, a = .string u)) := by
      unfold sgT
      split
      · exact ⟨_, _, rfl, _, rfl⟩
      · exact ⟨_, _, rfl, _, rfl⟩
    obtain ⟨hR, u, rfl⟩ := hR
    have HR := Lib.hid hR
    clear hR
    go_enter Tryd.func5, Tryd.ntmps5
    go_wp2_with fail
    with_reducible refine (specSg_any s _).mono ?_
    rintro z1 w1 ⟨rfl, B1⟩
    rw [HR.out]
    go_wp2_with fail
    with_reducible refine (implSg_any s _ (HN.out.call B1)).mono ?_
    rintro z2 w2 ⟨rfl, hb2⟩
    rw [HR.out]
    have B2 := bstep B1 hb2
    clear B1 hb2 HR
    go_wp2
    all_goals
      first
      | (go_ret; exact ⟨rfl, B2⟩)
      | (exfalso; simp_all)
  · go_enter Tryd.func5, Tryd.ntmps5
    go_wp2
    go_ret
    exact ⟨rfl, Below.refl _ _⟩
set_option maxRecDepth 100000 in
set_option maxHeartbeats 8000000 in
theorem walkPo (s : ByteArray) (w : World) (hs : s.size ≤ maxLen) (hN : NamesOK w) :
    Calls Tryd.prog 6 #[.string s] w fun z w' => z = .returned (.bool true) ∧ Below w.heap.size w w' := by
  have HN := Lib.hid hN
  have hs2 : (s.size : Int) ≤ 9223372036854775807 := by unfold maxLen at hs; omega
  clear hN hs
  by_cases hb : (s.size : Int) ≤ 1048576
  · obtain ⟨a, k, hR⟩ : ∃ a k, poT s = .tuple #[a, .int .i64 k] ∧ ((∃ u, a = .int .i64 u)) := by
      unfold poT
      split
      · exact ⟨_, _, rfl, _, rfl⟩
      · exact ⟨_, _, rfl, _, rfl⟩
    obtain ⟨hR, u, rfl⟩ := hR
    have HR := Lib.hid hR
    clear hR
    go_enter Tryd.func6, Tryd.ntmps6
    go_wp2_with fail
    with_reducible refine (specPo_any s _).mono ?_
    rintro z1 w1 ⟨rfl, B1⟩
    rw [HR.out]
    go_wp2_with fail
    with_reducible refine (implPo_any s _ (HN.out.call B1)).mono ?_
    rintro z2 w2 ⟨rfl, hb2⟩
    rw [HR.out]
    have B2 := bstep B1 hb2
    clear B1 hb2 HR
    go_wp2
    all_goals
      first
      | (go_ret; exact ⟨rfl, B2⟩)
      | (exfalso; simp_all)
  · go_enter Tryd.func6, Tryd.ntmps6
    go_wp2
    go_ret
    exact ⟨rfl, Below.refl _ _⟩
set_option maxRecDepth 100000 in
set_option maxHeartbeats 8000000 in
theorem walkNs (s : ByteArray) (w : World) (hs : s.size ≤ maxLen) (hN : NamesOK w) :
    Calls Tryd.prog 7 #[.string s] w fun z w' => z = .returned (.bool true) ∧ Below w.heap.size w w' := by
  have HN := Lib.hid hN
  have hs2 : (s.size : Int) ≤ 9223372036854775807 := by unfold maxLen at hs; omega
  clear hN hs
  by_cases hb : (s.size : Int) ≤ 1048576
  · obtain ⟨a, k, hR⟩ : ∃ a k, nsT s = .tuple #[a, .int .i64 k] ∧ ((∃ u, a = .string u)) := by
      unfold nsT
      split
      · exact ⟨_, _, rfl, _, rfl⟩
      · exact ⟨_, _, rfl, _, rfl⟩
    obtain ⟨hR, u, rfl⟩ := hR
    have HR := Lib.hid hR
    clear hR
    go_enter Tryd.func7, Tryd.ntmps7
    go_wp2_with fail
    with_reducible refine (specNs_any s _).mono ?_
    rintro z1 w1 ⟨rfl, B1⟩
    rw [HR.out]
    go_wp2_with fail
    with_reducible refine (implNs_any s _ (HN.out.call B1)).mono ?_
    rintro z2 w2 ⟨rfl, hb2⟩
    rw [HR.out]
    have B2 := bstep B1 hb2
    clear B1 hb2 HR
    go_wp2
    all_goals
      first
      | (go_ret; exact ⟨rfl, B2⟩)
      | (exfalso; simp_all)
  · go_enter Tryd.func7, Tryd.ntmps7
    go_wp2
    go_ret
    exact ⟨rfl, Below.refl _ _⟩
end Go.Proofs.YtjocmfnjfmlgiaaDoor
