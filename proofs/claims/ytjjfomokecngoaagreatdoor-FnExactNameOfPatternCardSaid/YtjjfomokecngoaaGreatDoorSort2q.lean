/-
 slices.SortFunc at eight vectors by the order of vectors. Conditions: the row holds eight different vectors in a block of its own.
-/
import Derived.Test.YtjjfomokecngoaaGreatDoorSortq
namespace Go.Proofs.YtjjfomokecngoaaGreatDoor
open Go.RowKit
set_option linter.unusedSimpArgs false
set_option linter.unusedVariables false
set_option maxRecDepth 100000 in
set_option maxHeartbeats 4000000 in
theorem len64_any (w : World) : Calls Tryz.prog 273 #[.int .u64 8] w fun e w' => (∃ l : Int, e = .returned (.int .i64 l)) ∧ w = w' := by
 go_enter Tryz.func273, Tryz.ntmps273
 go_wp2
 go_ret
 exact ⟨⟨_, rfl⟩, rfl⟩
set_option maxRecDepth 100000 in
set_option maxHeartbeats 4000000 in
theorem len_any (w : World) : Calls Tryz.prog 268 #[.int .u64 8] w fun e w' => (∃ l : Int, e = .returned (.int .i64 l)) ∧ w = w' := by
 go_enter Tryz.func268, Tryz.ntmps268
 go_wp2_with fail
 refine (len64_any _).mono ?_
 rintro e w1 ⟨⟨l, rfl⟩, rfl⟩
 go_wp2
 go_ret
 exact ⟨⟨_, rfl⟩, rfl⟩
set_option maxRecDepth 100000 in
set_option maxHeartbeats 4000000 in
theorem pdq_any (l : Int) (g cap : Nat) (E0 : Nat → Int × Int) (w : World) (hR : IRow g 16 (rowE E0) w) (hS : SameE E0 E0) :
  Calls Tryz.prog 267 #[.slice (some ⟨g, 0, none⟩) 8 cap, .int .i64 0, .int .i64 8, .int .i64 l, cmpV] w (SortPost g E0 w) := by
 have HR := Lib.hid hR
 have HS0 := Lib.hid hS
 clear hR hS
 go_enter Tryz.func267, Tryz.ntmps267
 go_wp2_with fail
 go_loopw [1, 2] (fun a b W => a = .int .i64 0 ∧ b = .int .i64 8 ∧ W = w) (fun _ _ _ => 0)
 case atStart => exact ⟨rfl, rfl, rfl⟩
 case round =>
  obtain ⟨rfl, rfl, rfl⟩ := hrel
  go_wp2_with fail
  refine (insertion_any g cap E0 _ HR.out HS0.out).mono ?_
  rintro e w1 ⟨rfl, E, h1, h2, h3, h4⟩
  go_wp2
  go_end0
  exact ⟨rfl, E, h1, h2, h3, h4⟩
set_option maxRecDepth 100000 in
set_option maxHeartbeats 4000000 in
theorem sortFunc_any (g cap : Nat) (E0 : Nat → Int × Int) (w : World) (hR : IRow g 16 (rowE E0) w) (hS : SameE E0 E0) :
  Calls Tryz.prog 248 #[.slice (some ⟨g, 0, none⟩) 8 cap, cmpV] w (SortPost g E0 w) := by
 have HR := Lib.hid hR
 have HS0 := Lib.hid hS
 clear hR hS
 go_enter Tryz.func248, Tryz.ntmps248
 go_wp2_with fail
 refine (len_any _).mono ?_
 rintro e w1 ⟨⟨l, rfl⟩, rfl⟩
 go_wp2_with fail
 refine (pdq_any l g cap E0 _ HR.out HS0.out).mono ?_
 rintro e w1 ⟨rfl, E, h1, h2, h3, h4⟩
 go_wp2
 go_end0
 exact ⟨rfl, E, h1, h2, h3, h4⟩
end Go.Proofs.YtjjfomokecngoaaGreatDoor
