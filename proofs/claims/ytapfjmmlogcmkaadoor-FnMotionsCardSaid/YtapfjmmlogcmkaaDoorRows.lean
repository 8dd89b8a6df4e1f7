/-
  NARROWER THAN 'FOR EVERY INPUT', by the rows' own cells (each row's printed sentence says how): FnMotions: laid · FnKinds: laid · FnExactIsMotion: laid · FnExactComposeMotions: laid · FnExactInverseMotion: laid · FnExactApplyMotion: laid · FnExactKindOfMotion: laid · FnExactOrderOfMotion: laid · FnExactCentreOf: laid · FnExactTwiceGlide: laid.
  DERIVED. THE GIVEN ROWS OF THIS SEAT. 10 by the template 'for every input the law returns true; each argument reads behind the call as it read before'; 0 by the template 'total and deterministic' (their statements: YtapfjmmlogcmkaaDoorTotals.lean).
  GIVEN WITH THE SEED: the statements are not yours to turn. If you find one false, say at which input.
  Laid BY PROGRAM, IN A SANDBOX (cutbox-rows.mjs): the forced cells as the released guide's own fill.sh prints them over the translation 019a02422f518cdc… (all of the seat's roots in one cut). By AI agents, Wed Nov 11 2026. No macro, syntax, notation, axiom, sorry.
-/
import Derived.Test.YtapfjmmlogcmkaaDoorChecked
import GoSem.Claim
import GoSem.ClaimJoined
import GoSem.ClaimMapViews
import Derived.JoinedTies
import Derived.KernelRfl
namespace Go.Proofs.YtapfjmmlogcmkaaDoor
/- THE CELL 'sum', in the pinned program and in every row, IS THE sha256 OF THE DUMP (.gsa) THAT YtapfjmmlogcmkaaDoorProg.lean LOADS. Nothing in Lean hashes anything: it is a label: what it is worth is what the hold of that sum in a sandbox is worth. -/
noncomputable def Tryd.pinned : Pinned := { name := "ytapfjmmlogcmkaadoor", sum := "019a02422f518cdc66e4ed2171c8997d89b7b123fe2dc8173d4bd4f5a23478f5", checked := Tryd.checked }
namespace Rows
def none {H : Type} : Left H := { results := [], args := [] }

/- WHAT THE LISTED PACKAGE-LEVEL VARIABLES READ AS WHEN THE CALL BEGINS. Each datum BY PROGRAM (the guide's laid-datum.mjs) off the statement by which the dump's own 'gosem.cut.vars' lays the variable. In a bare row this is a premise. The card (YtapfjmmlogcmkaaDoorCards.lean) ties it to the program's text. -/
def laid_loop_example_g00943_impl_unitMatrix {H : Type} : DataW H := .agg [.lit (.int .i64 1), .lit (.int .i64 0), .lit (.int .i64 0), .lit (.int .i64 1)]

/-- 'laws.FnMotions': WHATEVER THE INPUT: true; the input reads as it did. -/
def fnMotionsSpec : ChangeSpec := { name := "fnMotions", vars := ["loop.example/g00943/impl.unitMatrix"], fn := fun _ => fun
  | [d, g1] => { results := [.lit (.bool true)], args := [d], vars := [g1] }
  | _ => none }
def fnMotionsRow : OpenClaim := { program := "ytapfjmmlogcmkaadoor", sum := "019a02422f518cdc66e4ed2171c8997d89b7b123fe2dc8173d4bd4f5a23478f5", func := "loop.example/g00943/laws.FnMotions", spec := "fnMotions", named := ["loop.example/g00943/impl.unitMatrix"], apart := false, laid := [("loop.example/g00943/impl.unitMatrix", laid_loop_example_g00943_impl_unitMatrix)] }
def FnMotionsSaid : Prop := fnMotionsRow.holds Tryd.pinned (OpenSpec.ofChange fnMotionsSpec)

/-- ITS FALSE NEIGHBOUR: 'it returns false'. Refute it at one input. -/
def fnMotionsWrong : ChangeSpec := { name := "fnMotions", vars := ["loop.example/g00943/impl.unitMatrix"], fn := fun _ => fun
  | [d, g1] => { results := [.lit (.bool false)], args := [d], vars := [g1] }
  | _ => none }
def FnMotionsWrongFalsely : Prop := fnMotionsRow.holds Tryd.pinned (OpenSpec.ofChange fnMotionsWrong)

/-- 'laws.FnKinds': WHATEVER THE INPUT: true; the input reads as it did. -/
def fnKindsSpec : ChangeSpec := { name := "fnKinds", vars := ["loop.example/g00943/impl.unitMatrix"], fn := fun _ => fun
  | [d, g1] => { results := [.lit (.bool true)], args := [d], vars := [g1] }
  | _ => none }
def fnKindsRow : OpenClaim := { program := "ytapfjmmlogcmkaadoor", sum := "019a02422f518cdc66e4ed2171c8997d89b7b123fe2dc8173d4bd4f5a23478f5", func := "loop.example/g00943/laws.FnKinds", spec := "fnKinds", named := ["loop.example/g00943/impl.unitMatrix"], apart := false, laid := [("loop.example/g00943/impl.unitMatrix", laid_loop_example_g00943_impl_unitMatrix)] }
def FnKindsSaid : Prop := fnKindsRow.holds Tryd.pinned (OpenSpec.ofChange fnKindsSpec)

/-- ITS FALSE NEIGHBOUR: 'it returns false'. Refute it at one input. -/
def fnKindsWrong : ChangeSpec := { name := "fnKinds", vars := ["loop.example/g00943/impl.unitMatrix"], fn := fun _ => fun
  | [d, g1] => { results := [.lit (.bool false)], args := [d], vars := [g1] }
  | _ => none }
def FnKindsWrongFalsely : Prop := fnKindsRow.holds Tryd.pinned (OpenSpec.ofChange fnKindsWrong)

/-- 'laws.FnExactIsMotion': WHATEVER THE INPUT: true; the input reads as it did. -/
def fnExactIsMotionSpec : ChangeSpec := { name := "fnExactIsMotion", vars := ["loop.example/g00943/impl.unitMatrix"], fn := fun _ => fun
  | [d, g1] => { results := [.lit (.bool true)], args := [d], vars := [g1] }
  | _ => none }
def fnExactIsMotionRow : OpenClaim := { program := "ytapfjmmlogcmkaadoor", sum := "019a02422f518cdc66e4ed2171c8997d89b7b123fe2dc8173d4bd4f5a23478f5", func := "loop.example/g00943/laws.FnExactIsMotion", spec := "fnExactIsMotion", named := ["loop.example/g00943/impl.unitMatrix"], apart := false, laid := [("loop.example/g00943/impl.unitMatrix", laid_loop_example_g00943_impl_unitMatrix)] }
def FnExactIsMotionSaid : Prop := fnExactIsMotionRow.holds Tryd.pinned (OpenSpec.ofChange fnExactIsMotionSpec)

/-- ITS FALSE NEIGHBOUR: 'it returns false'. Refute it at one input. -/
def fnExactIsMotionWrong : ChangeSpec := { name := "fnExactIsMotion", vars := ["loop.example/g00943/impl.unitMatrix"], fn := fun _ => fun
  | [d, g1] => { results := [.lit (.bool false)], args := [d], vars := [g1] }
  | _ => none }
def FnExactIsMotionWrongFalsely : Prop := fnExactIsMotionRow.holds Tryd.pinned (OpenSpec.ofChange fnExactIsMotionWrong)

/-- 'laws.FnExactComposeMotions': WHATEVER THE INPUT: true; the input reads as it did. -/
def fnExactComposeMotionsSpec : ChangeSpec := { name := "fnExactComposeMotions", vars := ["loop.example/g00943/impl.unitMatrix"], fn := fun _ => fun
  | [d1, d2, g1] => { results := [.lit (.bool true)], args := [d1, d2], vars := [g1] }
  | _ => none }
def fnExactComposeMotionsRow : OpenClaim := { program := "ytapfjmmlogcmkaadoor", sum := "019a02422f518cdc66e4ed2171c8997d89b7b123fe2dc8173d4bd4f5a23478f5", func := "loop.example/g00943/laws.FnExactComposeMotions", spec := "fnExactComposeMotions", named := ["loop.example/g00943/impl.unitMatrix"], apart := false, laid := [("loop.example/g00943/impl.unitMatrix", laid_loop_example_g00943_impl_unitMatrix)] }
def FnExactComposeMotionsSaid : Prop := fnExactComposeMotionsRow.holds Tryd.pinned (OpenSpec.ofChange fnExactComposeMotionsSpec)

/-- ITS FALSE NEIGHBOUR: 'it returns false'. Refute it at one input. -/
def fnExactComposeMotionsWrong : ChangeSpec := { name := "fnExactComposeMotions", vars := ["loop.example/g00943/impl.unitMatrix"], fn := fun _ => fun
  | [d1, d2, g1] => { results := [.lit (.bool false)], args := [d1, d2], vars := [g1] }
  | _ => none }
def FnExactComposeMotionsWrongFalsely : Prop := fnExactComposeMotionsRow.holds Tryd.pinned (OpenSpec.ofChange fnExactComposeMotionsWrong)

/-- 'laws.FnExactInverseMotion': WHATEVER THE INPUT: true; the input reads as it did. -/
def fnExactInverseMotionSpec : ChangeSpec := { name := "fnExactInverseMotion", vars := ["loop.example/g00943/impl.unitMatrix"], fn := fun _ => fun
  | [d, g1] => { results := [.lit (.bool true)], args := [d], vars := [g1] }
  | _ => none }
def fnExactInverseMotionRow : OpenClaim := { program := "ytapfjmmlogcmkaadoor", sum := "019a02422f518cdc66e4ed2171c8997d89b7b123fe2dc8173d4bd4f5a23478f5", func := "loop.example/g00943/laws.FnExactInverseMotion", spec := "fnExactInverseMotion", named := ["loop.example/g00943/impl.unitMatrix"], apart := false, laid := [("loop.example/g00943/impl.unitMatrix", laid_loop_example_g00943_impl_unitMatrix)] }
def FnExactInverseMotionSaid : Prop := fnExactInverseMotionRow.holds Tryd.pinned (OpenSpec.ofChange fnExactInverseMotionSpec)

/-- ITS FALSE NEIGHBOUR: 'it returns false'. Refute it at one input. -/
def fnExactInverseMotionWrong : ChangeSpec := { name := "fnExactInverseMotion", vars := ["loop.example/g00943/impl.unitMatrix"], fn := fun _ => fun
  | [d, g1] => { results := [.lit (.bool false)], args := [d], vars := [g1] }
  | _ => none }
def FnExactInverseMotionWrongFalsely : Prop := fnExactInverseMotionRow.holds Tryd.pinned (OpenSpec.ofChange fnExactInverseMotionWrong)

/-- 'laws.FnExactApplyMotion': WHATEVER THE INPUT: true; the input reads as it did. -/
def fnExactApplyMotionSpec : ChangeSpec := { name := "fnExactApplyMotion", vars := ["loop.example/g00943/impl.unitMatrix"], fn := fun _ => fun
  | [d1, d2, g1] => { results := [.lit (.bool true)], args := [d1, d2], vars := [g1] }
  | _ => none }
def fnExactApplyMotionRow : OpenClaim := { program := "ytapfjmmlogcmkaadoor", sum := "019a02422f518cdc66e4ed2171c8997d89b7b123fe2dc8173d4bd4f5a23478f5", func := "loop.example/g00943/laws.FnExactApplyMotion", spec := "fnExactApplyMotion", named := ["loop.example/g00943/impl.unitMatrix"], apart := false, laid := [("loop.example/g00943/impl.unitMatrix", laid_loop_example_g00943_impl_unitMatrix)] }
def FnExactApplyMotionSaid : Prop := fnExactApplyMotionRow.holds Tryd.pinned (OpenSpec.ofChange fnExactApplyMotionSpec)

/-- ITS FALSE NEIGHBOUR: 'it returns false'. Refute it at one input. -/
def fnExactApplyMotionWrong : ChangeSpec := { name := "fnExactApplyMotion", vars := ["loop.example/g00943/impl.unitMatrix"], fn := fun _ => fun
  | [d1, d2, g1] => { results := [.lit (.bool false)], args := [d1, d2], vars := [g1] }
  | _ => none }
def FnExactApplyMotionWrongFalsely : Prop := fnExactApplyMotionRow.holds Tryd.pinned (OpenSpec.ofChange fnExactApplyMotionWrong)

/-- 'laws.FnExactKindOfMotion': WHATEVER THE INPUT: true; the input reads as it did. -/
def fnExactKindOfMotionSpec : ChangeSpec := { name := "fnExactKindOfMotion", vars := ["loop.example/g00943/impl.unitMatrix"], fn := fun _ => fun
  | [d, g1] => { results := [.lit (.bool true)], args := [d], vars := [g1] }
  | _ => none }
def fnExactKindOfMotionRow : OpenClaim := { program := "ytapfjmmlogcmkaadoor", sum := "019a02422f518cdc66e4ed2171c8997d89b7b123fe2dc8173d4bd4f5a23478f5", func := "loop.example/g00943/laws.FnExactKindOfMotion", spec := "fnExactKindOfMotion", named := ["loop.example/g00943/impl.unitMatrix"], apart := false, laid := [("loop.example/g00943/impl.unitMatrix", laid_loop_example_g00943_impl_unitMatrix)] }
def FnExactKindOfMotionSaid : Prop := fnExactKindOfMotionRow.holds Tryd.pinned (OpenSpec.ofChange fnExactKindOfMotionSpec)

/-- ITS FALSE NEIGHBOUR: 'it returns false'. Refute it at one input. -/
def fnExactKindOfMotionWrong : ChangeSpec := { name := "fnExactKindOfMotion", vars := ["loop.example/g00943/impl.unitMatrix"], fn := fun _ => fun
  | [d, g1] => { results := [.lit (.bool false)], args := [d], vars := [g1] }
  | _ => none }
def FnExactKindOfMotionWrongFalsely : Prop := fnExactKindOfMotionRow.holds Tryd.pinned (OpenSpec.ofChange fnExactKindOfMotionWrong)

/-- 'laws.FnExactOrderOfMotion': WHATEVER THE INPUT: true; the input reads as it did. -/
def fnExactOrderOfMotionSpec : ChangeSpec := { name := "fnExactOrderOfMotion", vars := ["loop.example/g00943/impl.unitMatrix"], fn := fun _ => fun
  | [d, g1] => { results := [.lit (.bool true)], args := [d], vars := [g1] }
  | _ => none }
def fnExactOrderOfMotionRow : OpenClaim := { program := "ytapfjmmlogcmkaadoor", sum := "019a02422f518cdc66e4ed2171c8997d89b7b123fe2dc8173d4bd4f5a23478f5", func := "loop.example/g00943/laws.FnExactOrderOfMotion", spec := "fnExactOrderOfMotion", named := ["loop.example/g00943/impl.unitMatrix"], apart := false, laid := [("loop.example/g00943/impl.unitMatrix", laid_loop_example_g00943_impl_unitMatrix)] }
def FnExactOrderOfMotionSaid : Prop := fnExactOrderOfMotionRow.holds Tryd.pinned (OpenSpec.ofChange fnExactOrderOfMotionSpec)

/-- ITS FALSE NEIGHBOUR: 'it returns false'. Refute it at one input. -/
def fnExactOrderOfMotionWrong : ChangeSpec := { name := "fnExactOrderOfMotion", vars := ["loop.example/g00943/impl.unitMatrix"], fn := fun _ => fun
  | [d, g1] => { results := [.lit (.bool false)], args := [d], vars := [g1] }
  | _ => none }
def FnExactOrderOfMotionWrongFalsely : Prop := fnExactOrderOfMotionRow.holds Tryd.pinned (OpenSpec.ofChange fnExactOrderOfMotionWrong)

/-- 'laws.FnExactCentreOf': WHATEVER THE INPUT: true; the input reads as it did. -/
def fnExactCentreOfSpec : ChangeSpec := { name := "fnExactCentreOf", vars := ["loop.example/g00943/impl.unitMatrix"], fn := fun _ => fun
  | [d, g1] => { results := [.lit (.bool true)], args := [d], vars := [g1] }
  | _ => none }
def fnExactCentreOfRow : OpenClaim := { program := "ytapfjmmlogcmkaadoor", sum := "019a02422f518cdc66e4ed2171c8997d89b7b123fe2dc8173d4bd4f5a23478f5", func := "loop.example/g00943/laws.FnExactCentreOf", spec := "fnExactCentreOf", recurses := true, named := ["loop.example/g00943/impl.unitMatrix"], apart := false, laid := [("loop.example/g00943/impl.unitMatrix", laid_loop_example_g00943_impl_unitMatrix)] }
def FnExactCentreOfSaid : Prop := fnExactCentreOfRow.holds Tryd.pinned (OpenSpec.ofChange fnExactCentreOfSpec)

/-- ITS FALSE NEIGHBOUR: 'it returns false'. Refute it at one input. -/
def fnExactCentreOfWrong : ChangeSpec := { name := "fnExactCentreOf", vars := ["loop.example/g00943/impl.unitMatrix"], fn := fun _ => fun
  | [d, g1] => { results := [.lit (.bool false)], args := [d], vars := [g1] }
  | _ => none }
def FnExactCentreOfWrongFalsely : Prop := fnExactCentreOfRow.holds Tryd.pinned (OpenSpec.ofChange fnExactCentreOfWrong)

/-- 'laws.FnExactTwiceGlide': WHATEVER THE INPUT: true; the input reads as it did. -/
def fnExactTwiceGlideSpec : ChangeSpec := { name := "fnExactTwiceGlide", vars := ["loop.example/g00943/impl.unitMatrix"], fn := fun _ => fun
  | [d, g1] => { results := [.lit (.bool true)], args := [d], vars := [g1] }
  | _ => none }
def fnExactTwiceGlideRow : OpenClaim := { program := "ytapfjmmlogcmkaadoor", sum := "019a02422f518cdc66e4ed2171c8997d89b7b123fe2dc8173d4bd4f5a23478f5", func := "loop.example/g00943/laws.FnExactTwiceGlide", spec := "fnExactTwiceGlide", named := ["loop.example/g00943/impl.unitMatrix"], apart := false, laid := [("loop.example/g00943/impl.unitMatrix", laid_loop_example_g00943_impl_unitMatrix)] }
def FnExactTwiceGlideSaid : Prop := fnExactTwiceGlideRow.holds Tryd.pinned (OpenSpec.ofChange fnExactTwiceGlideSpec)

/-- ITS FALSE NEIGHBOUR: 'it returns false'. Refute it at one input. -/
def fnExactTwiceGlideWrong : ChangeSpec := { name := "fnExactTwiceGlide", vars := ["loop.example/g00943/impl.unitMatrix"], fn := fun _ => fun
  | [d, g1] => { results := [.lit (.bool false)], args := [d], vars := [g1] }
  | _ => none }
def FnExactTwiceGlideWrongFalsely : Prop := fnExactTwiceGlideRow.holds Tryd.pinned (OpenSpec.ofChange fnExactTwiceGlideWrong)

/- THE SECOND FORM. 'bulk': how many values and letters a reading holds, each counted each time it is reached (what is shared counts as often as it is met; a slice's spare places count too). A statement '..UptoSaid' is the law's where the arguments, and the package variables that the reading takes, are together of bulk at most 1048576: NARROWER than '..Said'. Prove '..Said' where nothing that the law and all that it calls make is longer than what came in: it says more and counts as full. Else prove '..UptoSaid'. A law counts once. -/
mutual
def uptoBulk {H : Type} : DataW H → Nat
  | .lit (.string bytes) => bytes.length + 1
  | .lit _ => 1
  | .nil => 1
  | .ptr d => uptoBulk d + 1
  | .slice elems spare => uptoBulkAll elems + uptoBulkAll spare + 1
  | .agg parts => uptoBulkAll parts + 1
  | .iface _ d => uptoBulk d + 1
  | .map entries => uptoBulkEntries entries + 1
  | .held _ => 1
def uptoBulkAll {H : Type} : List (DataW H) → Nat
  | [] => 0
  | d :: r => uptoBulk d + uptoBulkAll r
def uptoBulkEntries {H : Type} : List (Lit × DataW H) → Nat
  | [] => 0
  | x :: r => uptoBulkEntry x + uptoBulkEntries r
def uptoBulkEntry {H : Type} : Lit × DataW H → Nat
  | (.string bytes, d) => bytes.length + uptoBulk d + 1
  | (_, d) => uptoBulk d + 1
 end
def uptoSmall : (H : Type) → List (DataW H) → Bool := fun _ ds => decide (uptoBulkAll ds ≤ 1048576)
def OpenSpec.upto (s : _root_.Go.ChangeSpec) : _root_.Go.OpenSpec := { _root_.Go.OpenSpec.ofChange s with cond := some uptoSmall }

/-- 'laws.FnMotions', WHERE WHAT IT READS IS OF BULK AT MOST 1048576: true; the input reads as it did. -/
def fnMotionsUptoRow : OpenClaim := { program := "ytapfjmmlogcmkaadoor", sum := "019a02422f518cdc66e4ed2171c8997d89b7b123fe2dc8173d4bd4f5a23478f5", func := "loop.example/g00943/laws.FnMotions", spec := "fnMotions", named := ["loop.example/g00943/impl.unitMatrix"], apart := false, laid := [("loop.example/g00943/impl.unitMatrix", laid_loop_example_g00943_impl_unitMatrix)], narrowed := true }
def FnMotionsUptoSaid : Prop := fnMotionsUptoRow.holds Tryd.pinned (OpenSpec.upto fnMotionsSpec)

/-- 'laws.FnKinds', WHERE WHAT IT READS IS OF BULK AT MOST 1048576: true; the input reads as it did. -/
def fnKindsUptoRow : OpenClaim := { program := "ytapfjmmlogcmkaadoor", sum := "019a02422f518cdc66e4ed2171c8997d89b7b123fe2dc8173d4bd4f5a23478f5", func := "loop.example/g00943/laws.FnKinds", spec := "fnKinds", named := ["loop.example/g00943/impl.unitMatrix"], apart := false, laid := [("loop.example/g00943/impl.unitMatrix", laid_loop_example_g00943_impl_unitMatrix)], narrowed := true }
def FnKindsUptoSaid : Prop := fnKindsUptoRow.holds Tryd.pinned (OpenSpec.upto fnKindsSpec)

/-- 'laws.FnExactIsMotion', WHERE WHAT IT READS IS OF BULK AT MOST 1048576: true; the input reads as it did. -/
def fnExactIsMotionUptoRow : OpenClaim := { program := "ytapfjmmlogcmkaadoor", sum := "019a02422f518cdc66e4ed2171c8997d89b7b123fe2dc8173d4bd4f5a23478f5", func := "loop.example/g00943/laws.FnExactIsMotion", spec := "fnExactIsMotion", named := ["loop.example/g00943/impl.unitMatrix"], apart := false, laid := [("loop.example/g00943/impl.unitMatrix", laid_loop_example_g00943_impl_unitMatrix)], narrowed := true }
def FnExactIsMotionUptoSaid : Prop := fnExactIsMotionUptoRow.holds Tryd.pinned (OpenSpec.upto fnExactIsMotionSpec)

/-- 'laws.FnExactComposeMotions', WHERE WHAT IT READS IS OF BULK AT MOST 1048576: true; the input reads as it did. -/
def fnExactComposeMotionsUptoRow : OpenClaim := { program := "ytapfjmmlogcmkaadoor", sum := "019a02422f518cdc66e4ed2171c8997d89b7b123fe2dc8173d4bd4f5a23478f5", func := "loop.example/g00943/laws.FnExactComposeMotions", spec := "fnExactComposeMotions", named := ["loop.example/g00943/impl.unitMatrix"], apart := false, laid := [("loop.example/g00943/impl.unitMatrix", laid_loop_example_g00943_impl_unitMatrix)], narrowed := true }
def FnExactComposeMotionsUptoSaid : Prop := fnExactComposeMotionsUptoRow.holds Tryd.pinned (OpenSpec.upto fnExactComposeMotionsSpec)

/-- 'laws.FnExactInverseMotion', WHERE WHAT IT READS IS OF BULK AT MOST 1048576: true; the input reads as it did. -/
def fnExactInverseMotionUptoRow : OpenClaim := { program := "ytapfjmmlogcmkaadoor", sum := "019a02422f518cdc66e4ed2171c8997d89b7b123fe2dc8173d4bd4f5a23478f5", func := "loop.example/g00943/laws.FnExactInverseMotion", spec := "fnExactInverseMotion", named := ["loop.example/g00943/impl.unitMatrix"], apart := false, laid := [("loop.example/g00943/impl.unitMatrix", laid_loop_example_g00943_impl_unitMatrix)], narrowed := true }
def FnExactInverseMotionUptoSaid : Prop := fnExactInverseMotionUptoRow.holds Tryd.pinned (OpenSpec.upto fnExactInverseMotionSpec)

/-- 'laws.FnExactApplyMotion', WHERE WHAT IT READS IS OF BULK AT MOST 1048576: true; the input reads as it did. -/
def fnExactApplyMotionUptoRow : OpenClaim := { program := "ytapfjmmlogcmkaadoor", sum := "019a02422f518cdc66e4ed2171c8997d89b7b123fe2dc8173d4bd4f5a23478f5", func := "loop.example/g00943/laws.FnExactApplyMotion", spec := "fnExactApplyMotion", named := ["loop.example/g00943/impl.unitMatrix"], apart := false, laid := [("loop.example/g00943/impl.unitMatrix", laid_loop_example_g00943_impl_unitMatrix)], narrowed := true }
def FnExactApplyMotionUptoSaid : Prop := fnExactApplyMotionUptoRow.holds Tryd.pinned (OpenSpec.upto fnExactApplyMotionSpec)

/-- 'laws.FnExactKindOfMotion', WHERE WHAT IT READS IS OF BULK AT MOST 1048576: true; the input reads as it did. -/
def fnExactKindOfMotionUptoRow : OpenClaim := { program := "ytapfjmmlogcmkaadoor", sum := "019a02422f518cdc66e4ed2171c8997d89b7b123fe2dc8173d4bd4f5a23478f5", func := "loop.example/g00943/laws.FnExactKindOfMotion", spec := "fnExactKindOfMotion", named := ["loop.example/g00943/impl.unitMatrix"], apart := false, laid := [("loop.example/g00943/impl.unitMatrix", laid_loop_example_g00943_impl_unitMatrix)], narrowed := true }
def FnExactKindOfMotionUptoSaid : Prop := fnExactKindOfMotionUptoRow.holds Tryd.pinned (OpenSpec.upto fnExactKindOfMotionSpec)

/-- 'laws.FnExactOrderOfMotion', WHERE WHAT IT READS IS OF BULK AT MOST 1048576: true; the input reads as it did. -/
def fnExactOrderOfMotionUptoRow : OpenClaim := { program := "ytapfjmmlogcmkaadoor", sum := "019a02422f518cdc66e4ed2171c8997d89b7b123fe2dc8173d4bd4f5a23478f5", func := "loop.example/g00943/laws.FnExactOrderOfMotion", spec := "fnExactOrderOfMotion", named := ["loop.example/g00943/impl.unitMatrix"], apart := false, laid := [("loop.example/g00943/impl.unitMatrix", laid_loop_example_g00943_impl_unitMatrix)], narrowed := true }
def FnExactOrderOfMotionUptoSaid : Prop := fnExactOrderOfMotionUptoRow.holds Tryd.pinned (OpenSpec.upto fnExactOrderOfMotionSpec)

/-- 'laws.FnExactCentreOf', WHERE WHAT IT READS IS OF BULK AT MOST 1048576: true; the input reads as it did. -/
def fnExactCentreOfUptoRow : OpenClaim := { program := "ytapfjmmlogcmkaadoor", sum := "019a02422f518cdc66e4ed2171c8997d89b7b123fe2dc8173d4bd4f5a23478f5", func := "loop.example/g00943/laws.FnExactCentreOf", spec := "fnExactCentreOf", recurses := true, named := ["loop.example/g00943/impl.unitMatrix"], apart := false, laid := [("loop.example/g00943/impl.unitMatrix", laid_loop_example_g00943_impl_unitMatrix)], narrowed := true }
def FnExactCentreOfUptoSaid : Prop := fnExactCentreOfUptoRow.holds Tryd.pinned (OpenSpec.upto fnExactCentreOfSpec)

/-- 'laws.FnExactTwiceGlide', WHERE WHAT IT READS IS OF BULK AT MOST 1048576: true; the input reads as it did. -/
def fnExactTwiceGlideUptoRow : OpenClaim := { program := "ytapfjmmlogcmkaadoor", sum := "019a02422f518cdc66e4ed2171c8997d89b7b123fe2dc8173d4bd4f5a23478f5", func := "loop.example/g00943/laws.FnExactTwiceGlide", spec := "fnExactTwiceGlide", named := ["loop.example/g00943/impl.unitMatrix"], apart := false, laid := [("loop.example/g00943/impl.unitMatrix", laid_loop_example_g00943_impl_unitMatrix)], narrowed := true }
def FnExactTwiceGlideUptoSaid : Prop := fnExactTwiceGlideUptoRow.holds Tryd.pinned (OpenSpec.upto fnExactTwiceGlideSpec)

end Rows
end Go.Proofs.YtapfjmmlogcmkaaDoor
