/-
  Plain: the place of the name of a group's facts, and the names by their places (chapter 12). No condition.
-/
import Derived.Test.YtjocmfnjfmlgiaaDoorBase
namespace Go.Proofs.YtjocmfnjfmlgiaaDoor
open Go.RowKit
set_option linter.unusedSimpArgs false
set_option linter.unusedVariables false

/- the place of the name of facts, 0 for none -/
def nmI (r n e c : Int) (al : Bool) : Nat :=
  if n = 0 then (if e = 0 ∧ c = 0 ∧ al = false then (if r = 1 then 1 else if r = 2 then 2 else if r = 3 then 13 else if r = 4 then 10 else if r = 6 then 16 else 0) else 0)
  else if r = 1 then (if n = 1 then (if e = 0 then 4 else if e = 1 then (if c = 0 then 3 else if c = 1 then 5 else 0) else 0) else 0)
  else if r = 2 then (if n = 2 then (if c = 2 then (if e = 2 then 9 else 0) else if c = 0 then (if e = 0 then 8 else if e = 1 then 7 else if e = 2 then 6 else 0) else 0) else 0)
  else if r = 4 then (if n = 4 then (if c = 2 then (if e = 4 then 11 else if e = 2 then 12 else 0) else 0) else 0)
  else if r = 3 then (if n = 3 ∧ e = 3 ∧ c = 3 then (if al = true then 15 else 14) else 0)
  else if r = 6 then (if n = 6 ∧ e = 6 ∧ c = 6 then 17 else 0) else 0

def nmB (n : Nat) : ByteArray := [⟨#[]⟩, ⟨#[112, 49]⟩, ⟨#[112, 50]⟩, ⟨#[112, 109]⟩, ⟨#[112, 103]⟩, ⟨#[99, 109]⟩, ⟨#[112, 109, 109]⟩, ⟨#[112, 109, 103]⟩, ⟨#[112, 103, 103]⟩, ⟨#[99, 109, 109]⟩, ⟨#[112, 52]⟩, ⟨#[112, 52, 109]⟩, ⟨#[112, 52, 103]⟩, ⟨#[112, 51]⟩, ⟨#[112, 51, 109, 49]⟩, ⟨#[112, 51, 49, 109]⟩, ⟨#[112, 54]⟩, ⟨#[112, 54, 109]⟩].getD n ⟨#[]⟩
theorem nmI_le (r n e c : Int) (al : Bool) : nmI r n e c al ≤ 17 := by
  unfold nmI
  repeat' split
  all_goals omega
theorem nmB_ne {k : Nat} (h : k ≤ 17) (h0 : k ≠ 0) : (nmB k).toList.isEmpty = false := by
  have : ((List.range 18).all fun k => k == 0 || !(nmB k).toList.isEmpty) = true := by decide +kernel
  rw [List.all_eq_true] at this
  have := this k (List.mem_range.2 (by omega))
  simpa [h0] using this
end Go.Proofs.YtjocmfnjfmlgiaaDoor
