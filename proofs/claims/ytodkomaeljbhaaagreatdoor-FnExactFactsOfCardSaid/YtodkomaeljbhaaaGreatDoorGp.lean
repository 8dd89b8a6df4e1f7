/-
 Several of my texts in one: OrF, Tk7.
-/
import Derived.Test.YtodkomaeljbhaaaGreatDoorGh
import Derived.Test.YtodkomaeljbhaaaGreatDoorGg
import Derived.Test.YtodkomaeljbhaaaGreatDoorSu
import Derived.Test.YtodkomaeljbhaaaGreatDoorMo1
import Derived.Test.YtodkomaeljbhaaaGreatDoorMo3
import Derived.Test.YtodkomaeljbhaaaGreatDoorGe
import Derived.Deep.RegionHeld3
import Derived.IntWalk
namespace Go.Proofs.YtodkomaeljbhaaaGreatDoor
section
set_option linter.unusedVariables false
set_option linter.unusedSimpArgs false

abbrev V2 := Int × Int
def mv (A B C : Int) (m : M6) (v : V2) : V2 := (redX A B C (m.1 * v.1 + m.2.1 * v.2 + m.2.2.2.2.1) (m.2.2.1 * v.1 + m.2.2.2.1 * v.2 + m.2.2.2.2.2), redY C (m.2.2.1 * v.1 + m.2.2.2.1 * v.2 + m.2.2.2.2.2))
/- a function of a finite list into itself that is one to one meets all -/
theorem grp_good {f A B C : Int} {G : List M6} (h : grpB f A B C G = true) : latI A B C ∧ frB f = true ∧ GoodR f A B C G := by
 obtain ⟨h1, h2, _⟩ := grp_ok h
 have h5 := h1
 simp only [flB, Bool.and_eq_true] at h5
 exact ⟨latB_iff.1 h5.2, h5.1, fun m hm => ⟨(okM_iff.1 (h2 m hm).1).2.1, (h2 m hm).2⟩⟩
/- which cells the group takes to which -/
def Orb (A B C : Int) (G : List M6) (u v : V2) : Prop := ∃ g ∈ G, mv A B C g u = v
instance (A B C : Int) (G : List M6) (u v : V2) : Decidable (Orb A B C G u v) := inferInstanceAs (Decidable (∃ g ∈ G, mv A B C g u = v))
end
end Go.Proofs.YtodkomaeljbhaaaGreatDoor

namespace Go.Proofs.YtodkomaeljbhaaaGreatDoor
section
open Go.RowKit
set_option linter.unusedSimpArgs false
set_option linter.unusedVariables false

def eqV2 (a b a' b' : Int) : Bool := a == a' && b == b'
set_option maxHeartbeats 4000000 in
theorem eqVe7 (a b a' b' : Int) (w : World) : (Op.equalIn 10000 53 (.agg #[.int .i64 a, .int .i64 b]) (.agg #[.int .i64 a', .int .i64 b'])).run Tryz.prog w = .ok (eqV2 a b a' b') w := by
 have hu := Tryz.underlying53
 rw [show (10000 : Nat) = 9999 + 1 from rfl, run_equalIn_struct _ _ _ _ _ (by simp only [Program.fieldsOf, hu]) (by kernel_rfl)]
 simp only [Program.fieldsOf, hu]
 have u3 := Tryz.underlying2
 have a3 := Tryz.isAgg2
 have z3 := Tryz.sizeOf2
 unfold eqV2
 rcases h1 : (a == a') with _ | _ <;> rcases h2 : (b == b') with _ | _ <;> go_simp <;> simp_all
attribute [local go_sem ↓] eqVe7
end
end Go.Proofs.YtodkomaeljbhaaaGreatDoor

