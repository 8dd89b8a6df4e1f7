/-
  NARROWER THAN 'FOR EVERY INPUT', by the rows' own cells (each row's printed sentence says how): FnExactStabiliserOf: laid · FnExactMoverOf: laid · FnExactShiftedGroup: laid · FnExactOrbitOf: laid · FnExactOrbitsOf: laid · FnExactOrbitNumbers: laid · FnExactCountOrbits: laid.
  DERIVED. THE GIVEN ROWS OF THIS SEAT. 7 by the template 'for every input the law returns true; each argument reads behind the call as it read before'; 0 by the template 'total and deterministic' (their statements: YtngpoaglildbnaaGreatDoorTotals.lean).
  GIVEN WITH THE SEED: the statements are not yours to turn. If you find one false, say at which input.
  Laid BY PROGRAM, IN A SANDBOX (cutbox-rows.mjs): the forced cells as the released guide's own fill.sh prints them over the translation 4e719b91a73600d4… (all of the seat's roots in one cut). By AI agents, Wed Nov 11 2026. No macro, syntax, notation, axiom, sorry.
-/
import Derived.Test.YtngpoaglildbnaaGreatDoorChecked
import GoSem.Claim
import GoSem.ClaimJoined
import GoSem.ClaimMapViews
import Derived.JoinedTies
import Derived.KernelRfl
namespace Go.Proofs.YtngpoaglildbnaaGreatDoor
/- THE CELL 'sum', in the pinned program and in every row, IS THE sha256 OF THE DUMP (.gsa) THAT YtngpoaglildbnaaGreatDoorProg.lean LOADS. Nothing in Lean hashes anything: it is a label: what it is worth is what the hold of that sum in a sandbox is worth. -/
noncomputable def Tryz.pinned : Pinned := { name := "ytngpoaglildbnaagreatdoor", sum := "4e719b91a73600d4bf79bdb5a77f5f60de4c2ef4f2ec202208a1460308c98705", checked := Tryz.checked }
namespace Rows
def none {H : Type} : Left H := { results := [], args := [] }

/- WHAT THE LISTED PACKAGE-LEVEL VARIABLES READ AS WHEN THE CALL BEGINS. Each datum BY PROGRAM (the guide's laid-datum.mjs) off the statement by which the dump's own 'gosem.cut.vars' lays the variable. In a bare row this is a premise. The card (YtngpoaglildbnaaGreatDoorCards.lean) ties it to the program's text. -/
def laid_loop_example_g00943_impl_unitMatrix {H : Type} : DataW H := .agg [.lit (.int .i64 1), .lit (.int .i64 0), .lit (.int .i64 0), .lit (.int .i64 1)]

/-- 'laws.FnExactStabiliserOf': WHATEVER THE INPUT: true; the input reads as it did. -/
def fnExactStabiliserOfSpec : ChangeSpec := { name := "fnExactStabiliserOf", vars := ["loop.example/g00943/impl.unitMatrix"], fn := fun _ => fun
  | [d1, d2, d3, d4, g1] => { results := [.lit (.bool true)], args := [d1, d2, d3, d4], vars := [g1] }
  | _ => none }
def fnExactStabiliserOfRow : OpenClaim := { program := "ytngpoaglildbnaagreatdoor", sum := "4e719b91a73600d4bf79bdb5a77f5f60de4c2ef4f2ec202208a1460308c98705", func := "loop.example/g00943/laws.FnExactStabiliserOf", spec := "fnExactStabiliserOf", unfollowed := true, recurses := true, named := ["loop.example/g00943/impl.unitMatrix"], plainKeys := false, apart := false, laid := [("loop.example/g00943/impl.unitMatrix", laid_loop_example_g00943_impl_unitMatrix)] }
def FnExactStabiliserOfSaid : Prop := fnExactStabiliserOfRow.holds Tryz.pinned (OpenSpec.ofChange fnExactStabiliserOfSpec)

/-- ITS FALSE NEIGHBOUR: 'it returns false'. Refute it at one input. -/
def fnExactStabiliserOfWrong : ChangeSpec := { name := "fnExactStabiliserOf", vars := ["loop.example/g00943/impl.unitMatrix"], fn := fun _ => fun
  | [d1, d2, d3, d4, g1] => { results := [.lit (.bool false)], args := [d1, d2, d3, d4], vars := [g1] }
  | _ => none }
def FnExactStabiliserOfWrongFalsely : Prop := fnExactStabiliserOfRow.holds Tryz.pinned (OpenSpec.ofChange fnExactStabiliserOfWrong)

/-- 'laws.FnExactMoverOf': WHATEVER THE INPUT: true; the input reads as it did. -/
def fnExactMoverOfSpec : ChangeSpec := { name := "fnExactMoverOf", vars := ["loop.example/g00943/impl.unitMatrix"], fn := fun _ => fun
  | [d1, d2, d3, d4, d5, g1] => { results := [.lit (.bool true)], args := [d1, d2, d3, d4, d5], vars := [g1] }
  | _ => none }
def fnExactMoverOfRow : OpenClaim := { program := "ytngpoaglildbnaagreatdoor", sum := "4e719b91a73600d4bf79bdb5a77f5f60de4c2ef4f2ec202208a1460308c98705", func := "loop.example/g00943/laws.FnExactMoverOf", spec := "fnExactMoverOf", unfollowed := true, recurses := true, named := ["loop.example/g00943/impl.unitMatrix"], plainKeys := false, apart := false, laid := [("loop.example/g00943/impl.unitMatrix", laid_loop_example_g00943_impl_unitMatrix)] }
def FnExactMoverOfSaid : Prop := fnExactMoverOfRow.holds Tryz.pinned (OpenSpec.ofChange fnExactMoverOfSpec)

/-- ITS FALSE NEIGHBOUR: 'it returns false'. Refute it at one input. -/
def fnExactMoverOfWrong : ChangeSpec := { name := "fnExactMoverOf", vars := ["loop.example/g00943/impl.unitMatrix"], fn := fun _ => fun
  | [d1, d2, d3, d4, d5, g1] => { results := [.lit (.bool false)], args := [d1, d2, d3, d4, d5], vars := [g1] }
  | _ => none }
def FnExactMoverOfWrongFalsely : Prop := fnExactMoverOfRow.holds Tryz.pinned (OpenSpec.ofChange fnExactMoverOfWrong)

/-- 'laws.FnExactShiftedGroup': WHATEVER THE INPUT: true; the input reads as it did. -/
def fnExactShiftedGroupSpec : ChangeSpec := { name := "fnExactShiftedGroup", vars := ["loop.example/g00943/impl.unitMatrix"], fn := fun _ => fun
  | [d1, d2, d3, d4, g1] => { results := [.lit (.bool true)], args := [d1, d2, d3, d4], vars := [g1] }
  | _ => none }
def fnExactShiftedGroupRow : OpenClaim := { program := "ytngpoaglildbnaagreatdoor", sum := "4e719b91a73600d4bf79bdb5a77f5f60de4c2ef4f2ec202208a1460308c98705", func := "loop.example/g00943/laws.FnExactShiftedGroup", spec := "fnExactShiftedGroup", unfollowed := true, recurses := true, named := ["loop.example/g00943/impl.unitMatrix"], plainKeys := false, apart := false, laid := [("loop.example/g00943/impl.unitMatrix", laid_loop_example_g00943_impl_unitMatrix)] }
def FnExactShiftedGroupSaid : Prop := fnExactShiftedGroupRow.holds Tryz.pinned (OpenSpec.ofChange fnExactShiftedGroupSpec)

/-- ITS FALSE NEIGHBOUR: 'it returns false'. Refute it at one input. -/
def fnExactShiftedGroupWrong : ChangeSpec := { name := "fnExactShiftedGroup", vars := ["loop.example/g00943/impl.unitMatrix"], fn := fun _ => fun
  | [d1, d2, d3, d4, g1] => { results := [.lit (.bool false)], args := [d1, d2, d3, d4], vars := [g1] }
  | _ => none }
def FnExactShiftedGroupWrongFalsely : Prop := fnExactShiftedGroupRow.holds Tryz.pinned (OpenSpec.ofChange fnExactShiftedGroupWrong)

/-- 'laws.FnExactOrbitOf': WHATEVER THE INPUT: true; the input reads as it did. -/
def fnExactOrbitOfSpec : ChangeSpec := { name := "fnExactOrbitOf", vars := ["loop.example/g00943/impl.unitMatrix"], fn := fun _ => fun
  | [d1, d2, d3, d4, g1] => { results := [.lit (.bool true)], args := [d1, d2, d3, d4], vars := [g1] }
  | _ => none }
def fnExactOrbitOfRow : OpenClaim := { program := "ytngpoaglildbnaagreatdoor", sum := "4e719b91a73600d4bf79bdb5a77f5f60de4c2ef4f2ec202208a1460308c98705", func := "loop.example/g00943/laws.FnExactOrbitOf", spec := "fnExactOrbitOf", unfollowed := true, recurses := true, named := ["loop.example/g00943/impl.unitMatrix"], plainKeys := false, apart := false, laid := [("loop.example/g00943/impl.unitMatrix", laid_loop_example_g00943_impl_unitMatrix)] }
def FnExactOrbitOfSaid : Prop := fnExactOrbitOfRow.holds Tryz.pinned (OpenSpec.ofChange fnExactOrbitOfSpec)

/-- ITS FALSE NEIGHBOUR: 'it returns false'. Refute it at one input. -/
def fnExactOrbitOfWrong : ChangeSpec := { name := "fnExactOrbitOf", vars := ["loop.example/g00943/impl.unitMatrix"], fn := fun _ => fun
  | [d1, d2, d3, d4, g1] => { results := [.lit (.bool false)], args := [d1, d2, d3, d4], vars := [g1] }
  | _ => none }
def FnExactOrbitOfWrongFalsely : Prop := fnExactOrbitOfRow.holds Tryz.pinned (OpenSpec.ofChange fnExactOrbitOfWrong)

/-- 'laws.FnExactOrbitsOf': WHATEVER THE INPUT: true; the input reads as it did. -/
def fnExactOrbitsOfSpec : ChangeSpec := { name := "fnExactOrbitsOf", vars := ["loop.example/g00943/impl.unitMatrix"], fn := fun _ => fun
  | [d1, d2, d3, g1] => { results := [.lit (.bool true)], args := [d1, d2, d3], vars := [g1] }
  | _ => none }
def fnExactOrbitsOfRow : OpenClaim := { program := "ytngpoaglildbnaagreatdoor", sum := "4e719b91a73600d4bf79bdb5a77f5f60de4c2ef4f2ec202208a1460308c98705", func := "loop.example/g00943/laws.FnExactOrbitsOf", spec := "fnExactOrbitsOf", unfollowed := true, recurses := true, named := ["loop.example/g00943/impl.unitMatrix"], plainKeys := false, apart := false, laid := [("loop.example/g00943/impl.unitMatrix", laid_loop_example_g00943_impl_unitMatrix)] }
def FnExactOrbitsOfSaid : Prop := fnExactOrbitsOfRow.holds Tryz.pinned (OpenSpec.ofChange fnExactOrbitsOfSpec)

/-- ITS FALSE NEIGHBOUR: 'it returns false'. Refute it at one input. -/
def fnExactOrbitsOfWrong : ChangeSpec := { name := "fnExactOrbitsOf", vars := ["loop.example/g00943/impl.unitMatrix"], fn := fun _ => fun
  | [d1, d2, d3, g1] => { results := [.lit (.bool false)], args := [d1, d2, d3], vars := [g1] }
  | _ => none }
def FnExactOrbitsOfWrongFalsely : Prop := fnExactOrbitsOfRow.holds Tryz.pinned (OpenSpec.ofChange fnExactOrbitsOfWrong)

/-- 'laws.FnExactOrbitNumbers': WHATEVER THE INPUT: true; the input reads as it did. -/
def fnExactOrbitNumbersSpec : ChangeSpec := { name := "fnExactOrbitNumbers", vars := ["loop.example/g00943/impl.unitMatrix"], fn := fun _ => fun
  | [d1, d2, d3, g1] => { results := [.lit (.bool true)], args := [d1, d2, d3], vars := [g1] }
  | _ => none }
def fnExactOrbitNumbersRow : OpenClaim := { program := "ytngpoaglildbnaagreatdoor", sum := "4e719b91a73600d4bf79bdb5a77f5f60de4c2ef4f2ec202208a1460308c98705", func := "loop.example/g00943/laws.FnExactOrbitNumbers", spec := "fnExactOrbitNumbers", unfollowed := true, recurses := true, named := ["loop.example/g00943/impl.unitMatrix"], plainKeys := false, apart := false, laid := [("loop.example/g00943/impl.unitMatrix", laid_loop_example_g00943_impl_unitMatrix)] }
def FnExactOrbitNumbersSaid : Prop := fnExactOrbitNumbersRow.holds Tryz.pinned (OpenSpec.ofChange fnExactOrbitNumbersSpec)

/-- ITS FALSE NEIGHBOUR: 'it returns false'. Refute it at one input. -/
def fnExactOrbitNumbersWrong : ChangeSpec := { name := "fnExactOrbitNumbers", vars := ["loop.example/g00943/impl.unitMatrix"], fn := fun _ => fun
  | [d1, d2, d3, g1] => { results := [.lit (.bool false)], args := [d1, d2, d3], vars := [g1] }
  | _ => none }
def FnExactOrbitNumbersWrongFalsely : Prop := fnExactOrbitNumbersRow.holds Tryz.pinned (OpenSpec.ofChange fnExactOrbitNumbersWrong)

/-- 'laws.FnExactCountOrbits': WHATEVER THE INPUT: true; the input reads as it did. -/
def fnExactCountOrbitsSpec : ChangeSpec := { name := "fnExactCountOrbits", vars := ["loop.example/g00943/impl.unitMatrix"], fn := fun _ => fun
  | [d1, d2, d3, g1] => { results := [.lit (.bool true)], args := [d1, d2, d3], vars := [g1] }
  | _ => none }
def fnExactCountOrbitsRow : OpenClaim := { program := "ytngpoaglildbnaagreatdoor", sum := "4e719b91a73600d4bf79bdb5a77f5f60de4c2ef4f2ec202208a1460308c98705", func := "loop.example/g00943/laws.FnExactCountOrbits", spec := "fnExactCountOrbits", unfollowed := true, recurses := true, named := ["loop.example/g00943/impl.unitMatrix"], plainKeys := false, apart := false, laid := [("loop.example/g00943/impl.unitMatrix", laid_loop_example_g00943_impl_unitMatrix)] }
def FnExactCountOrbitsSaid : Prop := fnExactCountOrbitsRow.holds Tryz.pinned (OpenSpec.ofChange fnExactCountOrbitsSpec)

/-- ITS FALSE NEIGHBOUR: 'it returns false'. Refute it at one input. -/
def fnExactCountOrbitsWrong : ChangeSpec := { name := "fnExactCountOrbits", vars := ["loop.example/g00943/impl.unitMatrix"], fn := fun _ => fun
  | [d1, d2, d3, g1] => { results := [.lit (.bool false)], args := [d1, d2, d3], vars := [g1] }
  | _ => none }
def FnExactCountOrbitsWrongFalsely : Prop := fnExactCountOrbitsRow.holds Tryz.pinned (OpenSpec.ofChange fnExactCountOrbitsWrong)

/- THE SECOND FORM. 'bulk': how many values and letters a reading holds, each counted each time it is reached (what is shared counts as often as it is met; a slice's spare places count too). A statement '..UptoSaid' is the law's where the arguments, and the package variables that the reading takes, are together of bulk at most 1048576: NARROWER than '..Said'. Prove '..Said' where nothing that the law and all that it calls make is longer than what came in: it says more and counts as full. Else prove '..UptoSaid'. A law counts once. -/
mutual
def uptoBulk {H : Type} : DataW H → Nat
  | .lit (.string bytes) => bytes.length + 1
  | .lit _ => 1
  | .nil => 1
  | .ptr d => uptoBulk d + 1
  | .slice elems spare => uptoBulkAll elems + uptoBulkAll spare + 1
  | .agg parts => uptoBulkAll parts + 1
  | .iface _ d => uptoBulk d + 1
  | .map entries => uptoBulkEntries entries + 1
  | .held _ => 1
def uptoBulkAll {H : Type} : List (DataW H) → Nat
  | [] => 0
  | d :: r => uptoBulk d + uptoBulkAll r
def uptoBulkEntries {H : Type} : List (Lit × DataW H) → Nat
  | [] => 0
  | x :: r => uptoBulkEntry x + uptoBulkEntries r
def uptoBulkEntry {H : Type} : Lit × DataW H → Nat
  | (.string bytes, d) => bytes.length + uptoBulk d + 1
  | (_, d) => uptoBulk d + 1
 end
def uptoSmall : (H : Type) → List (DataW H) → Bool := fun _ ds => decide (uptoBulkAll ds ≤ 1048576)
def OpenSpec.upto (s : _root_.Go.ChangeSpec) : _root_.Go.OpenSpec := { _root_.Go.OpenSpec.ofChange s with cond := some uptoSmall }

/-- 'laws.FnExactStabiliserOf', WHERE WHAT IT READS IS OF BULK AT MOST 1048576: true; the input reads as it did. -/
def fnExactStabiliserOfUptoRow : OpenClaim := { program := "ytngpoaglildbnaagreatdoor", sum := "4e719b91a73600d4bf79bdb5a77f5f60de4c2ef4f2ec202208a1460308c98705", func := "loop.example/g00943/laws.FnExactStabiliserOf", spec := "fnExactStabiliserOf", unfollowed := true, recurses := true, named := ["loop.example/g00943/impl.unitMatrix"], plainKeys := false, apart := false, laid := [("loop.example/g00943/impl.unitMatrix", laid_loop_example_g00943_impl_unitMatrix)], narrowed := true }
def FnExactStabiliserOfUptoSaid : Prop := fnExactStabiliserOfUptoRow.holds Tryz.pinned (OpenSpec.upto fnExactStabiliserOfSpec)

/-- 'laws.FnExactMoverOf', WHERE WHAT IT READS IS OF BULK AT MOST 1048576: true; the input reads as it did. -/
def fnExactMoverOfUptoRow : OpenClaim := { program := "ytngpoaglildbnaagreatdoor", sum := "4e719b91a73600d4bf79bdb5a77f5f60de4c2ef4f2ec202208a1460308c98705", func := "loop.example/g00943/laws.FnExactMoverOf", spec := "fnExactMoverOf", unfollowed := true, recurses := true, named := ["loop.example/g00943/impl.unitMatrix"], plainKeys := false, apart := false, laid := [("loop.example/g00943/impl.unitMatrix", laid_loop_example_g00943_impl_unitMatrix)], narrowed := true }
def FnExactMoverOfUptoSaid : Prop := fnExactMoverOfUptoRow.holds Tryz.pinned (OpenSpec.upto fnExactMoverOfSpec)

/-- 'laws.FnExactShiftedGroup', WHERE WHAT IT READS IS OF BULK AT MOST 1048576: true; the input reads as it did. -/
def fnExactShiftedGroupUptoRow : OpenClaim := { program := "ytngpoaglildbnaagreatdoor", sum := "4e719b91a73600d4bf79bdb5a77f5f60de4c2ef4f2ec202208a1460308c98705", func := "loop.example/g00943/laws.FnExactShiftedGroup", spec := "fnExactShiftedGroup", unfollowed := true, recurses := true, named := ["loop.example/g00943/impl.unitMatrix"], plainKeys := false, apart := false, laid := [("loop.example/g00943/impl.unitMatrix", laid_loop_example_g00943_impl_unitMatrix)], narrowed := true }
def FnExactShiftedGroupUptoSaid : Prop := fnExactShiftedGroupUptoRow.holds Tryz.pinned (OpenSpec.upto fnExactShiftedGroupSpec)

/-- 'laws.FnExactOrbitOf', WHERE WHAT IT READS IS OF BULK AT MOST 1048576: true; the input reads as it did. -/
def fnExactOrbitOfUptoRow : OpenClaim := { program := "ytngpoaglildbnaagreatdoor", sum := "4e719b91a73600d4bf79bdb5a77f5f60de4c2ef4f2ec202208a1460308c98705", func := "loop.example/g00943/laws.FnExactOrbitOf", spec := "fnExactOrbitOf", unfollowed := true, recurses := true, named := ["loop.example/g00943/impl.unitMatrix"], plainKeys := false, apart := false, laid := [("loop.example/g00943/impl.unitMatrix", laid_loop_example_g00943_impl_unitMatrix)], narrowed := true }
def FnExactOrbitOfUptoSaid : Prop := fnExactOrbitOfUptoRow.holds Tryz.pinned (OpenSpec.upto fnExactOrbitOfSpec)

/-- 'laws.FnExactOrbitsOf', WHERE WHAT IT READS IS OF BULK AT MOST 1048576: true; the input reads as it did. -/
def fnExactOrbitsOfUptoRow : OpenClaim := { program := "ytngpoaglildbnaagreatdoor", sum := "4e719b91a73600d4bf79bdb5a77f5f60de4c2ef4f2ec202208a1460308c98705", func := "loop.example/g00943/laws.FnExactOrbitsOf", spec := "fnExactOrbitsOf", unfollowed := true, recurses := true, named := ["loop.example/g00943/impl.unitMatrix"], plainKeys := false, apart := false, laid := [("loop.example/g00943/impl.unitMatrix", laid_loop_example_g00943_impl_unitMatrix)], narrowed := true }
def FnExactOrbitsOfUptoSaid : Prop := fnExactOrbitsOfUptoRow.holds Tryz.pinned (OpenSpec.upto fnExactOrbitsOfSpec)

/-- 'laws.FnExactOrbitNumbers', WHERE WHAT IT READS IS OF BULK AT MOST 1048576: true; the input reads as it did. -/
def fnExactOrbitNumbersUptoRow : OpenClaim := { program := "ytngpoaglildbnaagreatdoor", sum := "4e719b91a73600d4bf79bdb5a77f5f60de4c2ef4f2ec202208a1460308c98705", func := "loop.example/g00943/laws.FnExactOrbitNumbers", spec := "fnExactOrbitNumbers", unfollowed := true, recurses := true, named := ["loop.example/g00943/impl.unitMatrix"], plainKeys := false, apart := false, laid := [("loop.example/g00943/impl.unitMatrix", laid_loop_example_g00943_impl_unitMatrix)], narrowed := true }
def FnExactOrbitNumbersUptoSaid : Prop := fnExactOrbitNumbersUptoRow.holds Tryz.pinned (OpenSpec.upto fnExactOrbitNumbersSpec)

/-- 'laws.FnExactCountOrbits', WHERE WHAT IT READS IS OF BULK AT MOST 1048576: true; the input reads as it did. -/
def fnExactCountOrbitsUptoRow : OpenClaim := { program := "ytngpoaglildbnaagreatdoor", sum := "4e719b91a73600d4bf79bdb5a77f5f60de4c2ef4f2ec202208a1460308c98705", func := "loop.example/g00943/laws.FnExactCountOrbits", spec := "fnExactCountOrbits", unfollowed := true, recurses := true, named := ["loop.example/g00943/impl.unitMatrix"], plainKeys := false, apart := false, laid := [("loop.example/g00943/impl.unitMatrix", laid_loop_example_g00943_impl_unitMatrix)], narrowed := true }
def FnExactCountOrbitsUptoSaid : Prop := fnExactCountOrbitsUptoRow.holds Tryz.pinned (OpenSpec.upto fnExactCountOrbitsSpec)

end Rows
end Go.Proofs.YtngpoaglildbnaaGreatDoor
