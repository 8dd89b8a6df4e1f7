/-
  NARROWER THAN 'FOR EVERY INPUT', by the rows' own cells (each row's printed sentence says how): FnExactFactsOf: laid · FnExactRotationOrder: laid · FnExactCountCentres: laid · FnExactShiftsOf: laid.
  DERIVED. THE GIVEN ROWS OF THIS SEAT. 4 by the template 'for every input the law returns true; each argument reads behind the call as it read before'; 0 by the template 'total and deterministic' (their statements: YtodkomaeljbhaaaGreatDoorTotals.lean).
  GIVEN WITH THE SEED: the statements are not yours to turn. If you find one false, say at which input.
  Laid BY PROGRAM, IN A SANDBOX (cutbox-rows.mjs): the forced cells as the released guide's own fill.sh prints them over the translation 294b77fdbe43680c… (all of the seat's roots in one cut). By AI agents, Wed Nov 11 2026. No macro, syntax, notation, axiom, sorry.
-/
import Derived.Test.YtodkomaeljbhaaaGreatDoorChecked
import GoSem.Claim
import GoSem.ClaimJoined
import GoSem.ClaimMapViews
import Derived.JoinedTies
import Derived.KernelRfl
namespace Go.Proofs.YtodkomaeljbhaaaGreatDoor
/- THE CELL 'sum', in the pinned program and in every row, IS THE sha256 OF THE DUMP (.gsa) THAT YtodkomaeljbhaaaGreatDoorProg.lean LOADS. Nothing in Lean hashes anything: it is a label: what it is worth is what the hold of that sum in a sandbox is worth. -/
noncomputable def Tryz.pinned : Pinned := { name := "ytodkomaeljbhaaagreatdoor", sum := "294b77fdbe43680c60e449bb45f34e3c8be399c410fd1fd43754181f10107cca", checked := Tryz.checked }
namespace Rows
def none {H : Type} : Left H := { results := [], args := [] }

/- WHAT THE LISTED PACKAGE-LEVEL VARIABLES READ AS WHEN THE CALL BEGINS. Each datum BY PROGRAM (the guide's laid-datum.mjs) off the statement by which the dump's own 'gosem.cut.vars' lays the variable. In a bare row this is a premise. The card (YtodkomaeljbhaaaGreatDoorCards.lean) ties it to the program's text. -/
def laid_loop_example_g00943_impl_unitMatrix {H : Type} : DataW H := .agg [.lit (.int .i64 1), .lit (.int .i64 0), .lit (.int .i64 0), .lit (.int .i64 1)]

/-- 'laws.FnExactFactsOf': WHATEVER THE INPUT: true; the input reads as it did. -/
def fnExactFactsOfSpec : ChangeSpec := { name := "fnExactFactsOf", vars := ["loop.example/g00943/impl.unitMatrix"], fn := fun _ => fun
  | [d1, d2, d3, g1] => { results := [.lit (.bool true)], args := [d1, d2, d3], vars := [g1] }
  | _ => none }
def fnExactFactsOfRow : OpenClaim := { program := "ytodkomaeljbhaaagreatdoor", sum := "294b77fdbe43680c60e449bb45f34e3c8be399c410fd1fd43754181f10107cca", func := "loop.example/g00943/laws.FnExactFactsOf", spec := "fnExactFactsOf", unfollowed := true, recurses := true, named := ["loop.example/g00943/impl.unitMatrix"], plainKeys := false, apart := false, laid := [("loop.example/g00943/impl.unitMatrix", laid_loop_example_g00943_impl_unitMatrix)] }
def FnExactFactsOfSaid : Prop := fnExactFactsOfRow.holds Tryz.pinned (OpenSpec.ofChange fnExactFactsOfSpec)

/-- ITS FALSE NEIGHBOUR: 'it returns false'. Refute it at one input. -/
def fnExactFactsOfWrong : ChangeSpec := { name := "fnExactFactsOf", vars := ["loop.example/g00943/impl.unitMatrix"], fn := fun _ => fun
  | [d1, d2, d3, g1] => { results := [.lit (.bool false)], args := [d1, d2, d3], vars := [g1] }
  | _ => none }
def FnExactFactsOfWrongFalsely : Prop := fnExactFactsOfRow.holds Tryz.pinned (OpenSpec.ofChange fnExactFactsOfWrong)

/-- 'laws.FnExactRotationOrder': WHATEVER THE INPUT: true; the input reads as it did. -/
def fnExactRotationOrderSpec : ChangeSpec := { name := "fnExactRotationOrder", vars := ["loop.example/g00943/impl.unitMatrix"], fn := fun _ => fun
  | [d1, d2, d3, g1] => { results := [.lit (.bool true)], args := [d1, d2, d3], vars := [g1] }
  | _ => none }
def fnExactRotationOrderRow : OpenClaim := { program := "ytodkomaeljbhaaagreatdoor", sum := "294b77fdbe43680c60e449bb45f34e3c8be399c410fd1fd43754181f10107cca", func := "loop.example/g00943/laws.FnExactRotationOrder", spec := "fnExactRotationOrder", unfollowed := true, recurses := true, named := ["loop.example/g00943/impl.unitMatrix"], plainKeys := false, apart := false, laid := [("loop.example/g00943/impl.unitMatrix", laid_loop_example_g00943_impl_unitMatrix)] }
def FnExactRotationOrderSaid : Prop := fnExactRotationOrderRow.holds Tryz.pinned (OpenSpec.ofChange fnExactRotationOrderSpec)

/-- ITS FALSE NEIGHBOUR: 'it returns false'. Refute it at one input. -/
def fnExactRotationOrderWrong : ChangeSpec := { name := "fnExactRotationOrder", vars := ["loop.example/g00943/impl.unitMatrix"], fn := fun _ => fun
  | [d1, d2, d3, g1] => { results := [.lit (.bool false)], args := [d1, d2, d3], vars := [g1] }
  | _ => none }
def FnExactRotationOrderWrongFalsely : Prop := fnExactRotationOrderRow.holds Tryz.pinned (OpenSpec.ofChange fnExactRotationOrderWrong)

/-- 'laws.FnExactCountCentres': WHATEVER THE INPUT: true; the input reads as it did. -/
def fnExactCountCentresSpec : ChangeSpec := { name := "fnExactCountCentres", vars := ["loop.example/g00943/impl.unitMatrix"], fn := fun _ => fun
  | [d1, d2, d3, d4, g1] => { results := [.lit (.bool true)], args := [d1, d2, d3, d4], vars := [g1] }
  | _ => none }
def fnExactCountCentresRow : OpenClaim := { program := "ytodkomaeljbhaaagreatdoor", sum := "294b77fdbe43680c60e449bb45f34e3c8be399c410fd1fd43754181f10107cca", func := "loop.example/g00943/laws.FnExactCountCentres", spec := "fnExactCountCentres", unfollowed := true, recurses := true, named := ["loop.example/g00943/impl.unitMatrix"], plainKeys := false, apart := false, laid := [("loop.example/g00943/impl.unitMatrix", laid_loop_example_g00943_impl_unitMatrix)] }
def FnExactCountCentresSaid : Prop := fnExactCountCentresRow.holds Tryz.pinned (OpenSpec.ofChange fnExactCountCentresSpec)

/-- ITS FALSE NEIGHBOUR: 'it returns false'. Refute it at one input. -/
def fnExactCountCentresWrong : ChangeSpec := { name := "fnExactCountCentres", vars := ["loop.example/g00943/impl.unitMatrix"], fn := fun _ => fun
  | [d1, d2, d3, d4, g1] => { results := [.lit (.bool false)], args := [d1, d2, d3, d4], vars := [g1] }
  | _ => none }
def FnExactCountCentresWrongFalsely : Prop := fnExactCountCentresRow.holds Tryz.pinned (OpenSpec.ofChange fnExactCountCentresWrong)

/-- 'laws.FnExactShiftsOf': WHATEVER THE INPUT: true; the input reads as it did. -/
def fnExactShiftsOfSpec : ChangeSpec := { name := "fnExactShiftsOf", vars := ["loop.example/g00943/impl.unitMatrix"], fn := fun _ => fun
  | [d1, d2, d3, g1] => { results := [.lit (.bool true)], args := [d1, d2, d3], vars := [g1] }
  | _ => none }
def fnExactShiftsOfRow : OpenClaim := { program := "ytodkomaeljbhaaagreatdoor", sum := "294b77fdbe43680c60e449bb45f34e3c8be399c410fd1fd43754181f10107cca", func := "loop.example/g00943/laws.FnExactShiftsOf", spec := "fnExactShiftsOf", unfollowed := true, recurses := true, named := ["loop.example/g00943/impl.unitMatrix"], plainKeys := false, apart := false, laid := [("loop.example/g00943/impl.unitMatrix", laid_loop_example_g00943_impl_unitMatrix)] }
def FnExactShiftsOfSaid : Prop := fnExactShiftsOfRow.holds Tryz.pinned (OpenSpec.ofChange fnExactShiftsOfSpec)

/-- ITS FALSE NEIGHBOUR: 'it returns false'. Refute it at one input. -/
def fnExactShiftsOfWrong : ChangeSpec := { name := "fnExactShiftsOf", vars := ["loop.example/g00943/impl.unitMatrix"], fn := fun _ => fun
  | [d1, d2, d3, g1] => { results := [.lit (.bool false)], args := [d1, d2, d3], vars := [g1] }
  | _ => none }
def FnExactShiftsOfWrongFalsely : Prop := fnExactShiftsOfRow.holds Tryz.pinned (OpenSpec.ofChange fnExactShiftsOfWrong)

/- THE SECOND FORM. 'bulk': how many values and letters a reading holds, each counted each time it is reached (what is shared counts as often as it is met; a slice's spare places count too). A statement '..UptoSaid' is the law's where the arguments, and the package variables that the reading takes, are together of bulk at most 1048576: NARROWER than '..Said'. Prove '..Said' where nothing that the law and all that it calls make is longer than what came in: it says more and counts as full. Else prove '..UptoSaid'. A law counts once. -/
mutual
def uptoBulk {H : Type} : DataW H → Nat
  | .lit (.string bytes) => bytes.length + 1
  | .lit _ => 1
  | .nil => 1
  | .ptr d => uptoBulk d + 1
  | .slice elems spare => uptoBulkAll elems + uptoBulkAll spare + 1
  | .agg parts => uptoBulkAll parts + 1
  | .iface _ d => uptoBulk d + 1
  | .map entries => uptoBulkEntries entries + 1
  | .held _ => 1
def uptoBulkAll {H : Type} : List (DataW H) → Nat
  | [] => 0
  | d :: r => uptoBulk d + uptoBulkAll r
def uptoBulkEntries {H : Type} : List (Lit × DataW H) → Nat
  | [] => 0
  | x :: r => uptoBulkEntry x + uptoBulkEntries r
def uptoBulkEntry {H : Type} : Lit × DataW H → Nat
  | (.string bytes, d) => bytes.length + uptoBulk d + 1
  | (_, d) => uptoBulk d + 1
 end
def uptoSmall : (H : Type) → List (DataW H) → Bool := fun _ ds => decide (uptoBulkAll ds ≤ 1048576)
def OpenSpec.upto (s : _root_.Go.ChangeSpec) : _root_.Go.OpenSpec := { _root_.Go.OpenSpec.ofChange s with cond := some uptoSmall }

/-- 'laws.FnExactFactsOf', WHERE WHAT IT READS IS OF BULK AT MOST 1048576: true; the input reads as it did. -/
def fnExactFactsOfUptoRow : OpenClaim := { program := "ytodkomaeljbhaaagreatdoor", sum := "294b77fdbe43680c60e449bb45f34e3c8be399c410fd1fd43754181f10107cca", func := "loop.example/g00943/laws.FnExactFactsOf", spec := "fnExactFactsOf", unfollowed := true, recurses := true, named := ["loop.example/g00943/impl.unitMatrix"], plainKeys := false, apart := false, laid := [("loop.example/g00943/impl.unitMatrix", laid_loop_example_g00943_impl_unitMatrix)], narrowed := true }
def FnExactFactsOfUptoSaid : Prop := fnExactFactsOfUptoRow.holds Tryz.pinned (OpenSpec.upto fnExactFactsOfSpec)

/-- 'laws.FnExactRotationOrder', WHERE WHAT IT READS IS OF BULK AT MOST 1048576: true; the input reads as it did. -/
def fnExactRotationOrderUptoRow : OpenClaim := { program := "ytodkomaeljbhaaagreatdoor", sum := "294b77fdbe43680c60e449bb45f34e3c8be399c410fd1fd43754181f10107cca", func := "loop.example/g00943/laws.FnExactRotationOrder", spec := "fnExactRotationOrder", unfollowed := true, recurses := true, named := ["loop.example/g00943/impl.unitMatrix"], plainKeys := false, apart := false, laid := [("loop.example/g00943/impl.unitMatrix", laid_loop_example_g00943_impl_unitMatrix)], narrowed := true }
def FnExactRotationOrderUptoSaid : Prop := fnExactRotationOrderUptoRow.holds Tryz.pinned (OpenSpec.upto fnExactRotationOrderSpec)

/-- 'laws.FnExactCountCentres', WHERE WHAT IT READS IS OF BULK AT MOST 1048576: true; the input reads as it did. -/
def fnExactCountCentresUptoRow : OpenClaim := { program := "ytodkomaeljbhaaagreatdoor", sum := "294b77fdbe43680c60e449bb45f34e3c8be399c410fd1fd43754181f10107cca", func := "loop.example/g00943/laws.FnExactCountCentres", spec := "fnExactCountCentres", unfollowed := true, recurses := true, named := ["loop.example/g00943/impl.unitMatrix"], plainKeys := false, apart := false, laid := [("loop.example/g00943/impl.unitMatrix", laid_loop_example_g00943_impl_unitMatrix)], narrowed := true }
def FnExactCountCentresUptoSaid : Prop := fnExactCountCentresUptoRow.holds Tryz.pinned (OpenSpec.upto fnExactCountCentresSpec)

/-- 'laws.FnExactShiftsOf', WHERE WHAT IT READS IS OF BULK AT MOST 1048576: true; the input reads as it did. -/
def fnExactShiftsOfUptoRow : OpenClaim := { program := "ytodkomaeljbhaaagreatdoor", sum := "294b77fdbe43680c60e449bb45f34e3c8be399c410fd1fd43754181f10107cca", func := "loop.example/g00943/laws.FnExactShiftsOf", spec := "fnExactShiftsOf", unfollowed := true, recurses := true, named := ["loop.example/g00943/impl.unitMatrix"], plainKeys := false, apart := false, laid := [("loop.example/g00943/impl.unitMatrix", laid_loop_example_g00943_impl_unitMatrix)], narrowed := true }
def FnExactShiftsOfUptoSaid : Prop := fnExactShiftsOfUptoRow.holds Tryz.pinned (OpenSpec.upto fnExactShiftsOfSpec)

end Rows
end Go.Proofs.YtodkomaeljbhaaaGreatDoor
