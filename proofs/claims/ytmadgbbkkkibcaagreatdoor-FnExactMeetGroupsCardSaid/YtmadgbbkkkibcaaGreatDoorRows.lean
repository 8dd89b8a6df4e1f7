/-
  NARROWER THAN 'FOR EVERY INPUT', by the rows' own cells (each row's printed sentence says how): FnClosures: laid · FnMeets: laid · FnExactIsGroup: laid · FnExactCloseGroup: laid · FnExactPointPart: laid · FnExactShiftsOf: laid · FnExactMeetGroups: laid · FnExactShiftedGroup: laid · FnOrbits: laid · FnStabilisers: laid · FnExactOrbitOf: laid · FnExactOrbitsOf: laid · FnExactOrbitNumbers: laid · FnExactCountOrbits: laid · FnExactStabiliserOf: laid · FnExactMoverOf: laid.
  DERIVED. THE GIVEN ROWS OF THIS SEAT. 16 by the template 'for every input the law returns true; each argument reads behind the call as it read before'; 0 by the template 'total and deterministic' (their statements: YtmadgbbkkkibcaaGreatDoorTotals.lean).
  GIVEN WITH THE SEED: the statements are not yours to turn. If you find one false, say at which input.
  Laid BY PROGRAM, IN A SANDBOX (cutbox-rows.mjs): the forced cells as the released guide's own fill.sh prints them over the translation ac20f27f9a9bd2f2… (all of the seat's roots in one cut). By AI agents, Wed Nov 11 2026. No macro, syntax, notation, axiom, sorry.
-/
import Derived.Test.YtmadgbbkkkibcaaGreatDoorChecked
import GoSem.Claim
import GoSem.ClaimJoined
import GoSem.ClaimMapViews
import Derived.JoinedTies
import Derived.KernelRfl
namespace Go.Proofs.YtmadgbbkkkibcaaGreatDoor
/- THE CELL 'sum', in the pinned program and in every row, IS THE sha256 OF THE DUMP (.gsa) THAT YtmadgbbkkkibcaaGreatDoorProg.lean LOADS. Nothing in Lean hashes anything: it is a label: what it is worth is what the hold of that sum in a sandbox is worth. -/
noncomputable def Tryz.pinned : Pinned := { name := "ytmadgbbkkkibcaagreatdoor", sum := "ac20f27f9a9bd2f2086ff1914257e714e643f409896f37581ed7a0237dc29b41", checked := Tryz.checked }
namespace Rows
def none {H : Type} : Left H := { results := [], args := [] }

/- WHAT THE LISTED PACKAGE-LEVEL VARIABLES READ AS WHEN THE CALL BEGINS. Each datum BY PROGRAM (the guide's laid-datum.mjs) off the statement by which the dump's own 'gosem.cut.vars' lays the variable. In a bare row this is a premise. The card (YtmadgbbkkkibcaaGreatDoorCards.lean) ties it to the program's text. -/
def laid_loop_example_g00943_impl_unitMatrix {H : Type} : DataW H := .agg [.lit (.int .i64 1), .lit (.int .i64 0), .lit (.int .i64 0), .lit (.int .i64 1)]

/-- 'laws.FnClosures': WHATEVER THE INPUT: true; the input reads as it did. -/
def fnClosuresSpec : ChangeSpec := { name := "fnClosures", vars := ["loop.example/g00943/impl.unitMatrix"], fn := fun _ => fun
  | [d, g1] => { results := [.lit (.bool true)], args := [d], vars := [g1] }
  | _ => none }
def fnClosuresRow : OpenClaim := { program := "ytmadgbbkkkibcaagreatdoor", sum := "ac20f27f9a9bd2f2086ff1914257e714e643f409896f37581ed7a0237dc29b41", func := "loop.example/g00943/laws.FnClosures", spec := "fnClosures", unfollowed := true, recurses := true, named := ["loop.example/g00943/impl.unitMatrix"], plainKeys := false, apart := false, laid := [("loop.example/g00943/impl.unitMatrix", laid_loop_example_g00943_impl_unitMatrix)] }
def FnClosuresSaid : Prop := fnClosuresRow.holds Tryz.pinned (OpenSpec.ofChange fnClosuresSpec)

/-- ITS FALSE NEIGHBOUR: 'it returns false'. Refute it at one input. -/
def fnClosuresWrong : ChangeSpec := { name := "fnClosures", vars := ["loop.example/g00943/impl.unitMatrix"], fn := fun _ => fun
  | [d, g1] => { results := [.lit (.bool false)], args := [d], vars := [g1] }
  | _ => none }
def FnClosuresWrongFalsely : Prop := fnClosuresRow.holds Tryz.pinned (OpenSpec.ofChange fnClosuresWrong)

/-- 'laws.FnMeets': WHATEVER THE INPUT: true; the input reads as it did. -/
def fnMeetsSpec : ChangeSpec := { name := "fnMeets", vars := ["loop.example/g00943/impl.unitMatrix"], fn := fun _ => fun
  | [d, g1] => { results := [.lit (.bool true)], args := [d], vars := [g1] }
  | _ => none }
def fnMeetsRow : OpenClaim := { program := "ytmadgbbkkkibcaagreatdoor", sum := "ac20f27f9a9bd2f2086ff1914257e714e643f409896f37581ed7a0237dc29b41", func := "loop.example/g00943/laws.FnMeets", spec := "fnMeets", unfollowed := true, recurses := true, named := ["loop.example/g00943/impl.unitMatrix"], plainKeys := false, apart := false, laid := [("loop.example/g00943/impl.unitMatrix", laid_loop_example_g00943_impl_unitMatrix)] }
def FnMeetsSaid : Prop := fnMeetsRow.holds Tryz.pinned (OpenSpec.ofChange fnMeetsSpec)

/-- ITS FALSE NEIGHBOUR: 'it returns false'. Refute it at one input. -/
def fnMeetsWrong : ChangeSpec := { name := "fnMeets", vars := ["loop.example/g00943/impl.unitMatrix"], fn := fun _ => fun
  | [d, g1] => { results := [.lit (.bool false)], args := [d], vars := [g1] }
  | _ => none }
def FnMeetsWrongFalsely : Prop := fnMeetsRow.holds Tryz.pinned (OpenSpec.ofChange fnMeetsWrong)

/-- 'laws.FnExactIsGroup': WHATEVER THE INPUT: true; the input reads as it did. -/
def fnExactIsGroupSpec : ChangeSpec := { name := "fnExactIsGroup", vars := ["loop.example/g00943/impl.unitMatrix"], fn := fun _ => fun
  | [d1, d2, d3, g1] => { results := [.lit (.bool true)], args := [d1, d2, d3], vars := [g1] }
  | _ => none }
def fnExactIsGroupRow : OpenClaim := { program := "ytmadgbbkkkibcaagreatdoor", sum := "ac20f27f9a9bd2f2086ff1914257e714e643f409896f37581ed7a0237dc29b41", func := "loop.example/g00943/laws.FnExactIsGroup", spec := "fnExactIsGroup", unfollowed := true, recurses := true, named := ["loop.example/g00943/impl.unitMatrix"], plainKeys := false, apart := false, laid := [("loop.example/g00943/impl.unitMatrix", laid_loop_example_g00943_impl_unitMatrix)] }
def FnExactIsGroupSaid : Prop := fnExactIsGroupRow.holds Tryz.pinned (OpenSpec.ofChange fnExactIsGroupSpec)

/-- ITS FALSE NEIGHBOUR: 'it returns false'. Refute it at one input. -/
def fnExactIsGroupWrong : ChangeSpec := { name := "fnExactIsGroup", vars := ["loop.example/g00943/impl.unitMatrix"], fn := fun _ => fun
  | [d1, d2, d3, g1] => { results := [.lit (.bool false)], args := [d1, d2, d3], vars := [g1] }
  | _ => none }
def FnExactIsGroupWrongFalsely : Prop := fnExactIsGroupRow.holds Tryz.pinned (OpenSpec.ofChange fnExactIsGroupWrong)

/-- 'laws.FnExactCloseGroup': WHATEVER THE INPUT: true; the input reads as it did. -/
def fnExactCloseGroupSpec : ChangeSpec := { name := "fnExactCloseGroup", vars := ["loop.example/g00943/impl.unitMatrix"], fn := fun _ => fun
  | [d1, d2, d3, g1] => { results := [.lit (.bool true)], args := [d1, d2, d3], vars := [g1] }
  | _ => none }
def fnExactCloseGroupRow : OpenClaim := { program := "ytmadgbbkkkibcaagreatdoor", sum := "ac20f27f9a9bd2f2086ff1914257e714e643f409896f37581ed7a0237dc29b41", func := "loop.example/g00943/laws.FnExactCloseGroup", spec := "fnExactCloseGroup", unfollowed := true, recurses := true, named := ["loop.example/g00943/impl.unitMatrix"], plainKeys := false, apart := false, laid := [("loop.example/g00943/impl.unitMatrix", laid_loop_example_g00943_impl_unitMatrix)] }
def FnExactCloseGroupSaid : Prop := fnExactCloseGroupRow.holds Tryz.pinned (OpenSpec.ofChange fnExactCloseGroupSpec)

/-- ITS FALSE NEIGHBOUR: 'it returns false'. Refute it at one input. -/
def fnExactCloseGroupWrong : ChangeSpec := { name := "fnExactCloseGroup", vars := ["loop.example/g00943/impl.unitMatrix"], fn := fun _ => fun
  | [d1, d2, d3, g1] => { results := [.lit (.bool false)], args := [d1, d2, d3], vars := [g1] }
  | _ => none }
def FnExactCloseGroupWrongFalsely : Prop := fnExactCloseGroupRow.holds Tryz.pinned (OpenSpec.ofChange fnExactCloseGroupWrong)

/-- 'laws.FnExactPointPart': WHATEVER THE INPUT: true; the input reads as it did. -/
def fnExactPointPartSpec : ChangeSpec := { name := "fnExactPointPart", vars := ["loop.example/g00943/impl.unitMatrix"], fn := fun _ => fun
  | [d1, d2, d3, g1] => { results := [.lit (.bool true)], args := [d1, d2, d3], vars := [g1] }
  | _ => none }
def fnExactPointPartRow : OpenClaim := { program := "ytmadgbbkkkibcaagreatdoor", sum := "ac20f27f9a9bd2f2086ff1914257e714e643f409896f37581ed7a0237dc29b41", func := "loop.example/g00943/laws.FnExactPointPart", spec := "fnExactPointPart", unfollowed := true, recurses := true, named := ["loop.example/g00943/impl.unitMatrix"], plainKeys := false, apart := false, laid := [("loop.example/g00943/impl.unitMatrix", laid_loop_example_g00943_impl_unitMatrix)] }
def FnExactPointPartSaid : Prop := fnExactPointPartRow.holds Tryz.pinned (OpenSpec.ofChange fnExactPointPartSpec)

/-- ITS FALSE NEIGHBOUR: 'it returns false'. Refute it at one input. -/
def fnExactPointPartWrong : ChangeSpec := { name := "fnExactPointPart", vars := ["loop.example/g00943/impl.unitMatrix"], fn := fun _ => fun
  | [d1, d2, d3, g1] => { results := [.lit (.bool false)], args := [d1, d2, d3], vars := [g1] }
  | _ => none }
def FnExactPointPartWrongFalsely : Prop := fnExactPointPartRow.holds Tryz.pinned (OpenSpec.ofChange fnExactPointPartWrong)

/-- 'laws.FnExactShiftsOf': WHATEVER THE INPUT: true; the input reads as it did. -/
def fnExactShiftsOfSpec : ChangeSpec := { name := "fnExactShiftsOf", vars := ["loop.example/g00943/impl.unitMatrix"], fn := fun _ => fun
  | [d1, d2, d3, g1] => { results := [.lit (.bool true)], args := [d1, d2, d3], vars := [g1] }
  | _ => none }
def fnExactShiftsOfRow : OpenClaim := { program := "ytmadgbbkkkibcaagreatdoor", sum := "ac20f27f9a9bd2f2086ff1914257e714e643f409896f37581ed7a0237dc29b41", func := "loop.example/g00943/laws.FnExactShiftsOf", spec := "fnExactShiftsOf", unfollowed := true, recurses := true, named := ["loop.example/g00943/impl.unitMatrix"], plainKeys := false, apart := false, laid := [("loop.example/g00943/impl.unitMatrix", laid_loop_example_g00943_impl_unitMatrix)] }
def FnExactShiftsOfSaid : Prop := fnExactShiftsOfRow.holds Tryz.pinned (OpenSpec.ofChange fnExactShiftsOfSpec)

/-- ITS FALSE NEIGHBOUR: 'it returns false'. Refute it at one input. -/
def fnExactShiftsOfWrong : ChangeSpec := { name := "fnExactShiftsOf", vars := ["loop.example/g00943/impl.unitMatrix"], fn := fun _ => fun
  | [d1, d2, d3, g1] => { results := [.lit (.bool false)], args := [d1, d2, d3], vars := [g1] }
  | _ => none }
def FnExactShiftsOfWrongFalsely : Prop := fnExactShiftsOfRow.holds Tryz.pinned (OpenSpec.ofChange fnExactShiftsOfWrong)

/-- 'laws.FnExactMeetGroups': WHATEVER THE INPUT: true; the input reads as it did. -/
def fnExactMeetGroupsSpec : ChangeSpec := { name := "fnExactMeetGroups", vars := ["loop.example/g00943/impl.unitMatrix"], fn := fun _ => fun
  | [d1, d2, d3, d4, g1] => { results := [.lit (.bool true)], args := [d1, d2, d3, d4], vars := [g1] }
  | _ => none }
def fnExactMeetGroupsRow : OpenClaim := { program := "ytmadgbbkkkibcaagreatdoor", sum := "ac20f27f9a9bd2f2086ff1914257e714e643f409896f37581ed7a0237dc29b41", func := "loop.example/g00943/laws.FnExactMeetGroups", spec := "fnExactMeetGroups", unfollowed := true, recurses := true, named := ["loop.example/g00943/impl.unitMatrix"], plainKeys := false, apart := false, laid := [("loop.example/g00943/impl.unitMatrix", laid_loop_example_g00943_impl_unitMatrix)] }
def FnExactMeetGroupsSaid : Prop := fnExactMeetGroupsRow.holds Tryz.pinned (OpenSpec.ofChange fnExactMeetGroupsSpec)

/-- ITS FALSE NEIGHBOUR: 'it returns false'. Refute it at one input. -/
def fnExactMeetGroupsWrong : ChangeSpec := { name := "fnExactMeetGroups", vars := ["loop.example/g00943/impl.unitMatrix"], fn := fun _ => fun
  | [d1, d2, d3, d4, g1] => { results := [.lit (.bool false)], args := [d1, d2, d3, d4], vars := [g1] }
  | _ => none }
def FnExactMeetGroupsWrongFalsely : Prop := fnExactMeetGroupsRow.holds Tryz.pinned (OpenSpec.ofChange fnExactMeetGroupsWrong)

/-- 'laws.FnExactShiftedGroup': WHATEVER THE INPUT: true; the input reads as it did. -/
def fnExactShiftedGroupSpec : ChangeSpec := { name := "fnExactShiftedGroup", vars := ["loop.example/g00943/impl.unitMatrix"], fn := fun _ => fun
  | [d1, d2, d3, d4, g1] => { results := [.lit (.bool true)], args := [d1, d2, d3, d4], vars := [g1] }
  | _ => none }
def fnExactShiftedGroupRow : OpenClaim := { program := "ytmadgbbkkkibcaagreatdoor", sum := "ac20f27f9a9bd2f2086ff1914257e714e643f409896f37581ed7a0237dc29b41", func := "loop.example/g00943/laws.FnExactShiftedGroup", spec := "fnExactShiftedGroup", unfollowed := true, recurses := true, named := ["loop.example/g00943/impl.unitMatrix"], plainKeys := false, apart := false, laid := [("loop.example/g00943/impl.unitMatrix", laid_loop_example_g00943_impl_unitMatrix)] }
def FnExactShiftedGroupSaid : Prop := fnExactShiftedGroupRow.holds Tryz.pinned (OpenSpec.ofChange fnExactShiftedGroupSpec)

/-- ITS FALSE NEIGHBOUR: 'it returns false'. Refute it at one input. -/
def fnExactShiftedGroupWrong : ChangeSpec := { name := "fnExactShiftedGroup", vars := ["loop.example/g00943/impl.unitMatrix"], fn := fun _ => fun
  | [d1, d2, d3, d4, g1] => { results := [.lit (.bool false)], args := [d1, d2, d3, d4], vars := [g1] }
  | _ => none }
def FnExactShiftedGroupWrongFalsely : Prop := fnExactShiftedGroupRow.holds Tryz.pinned (OpenSpec.ofChange fnExactShiftedGroupWrong)

/-- 'laws.FnOrbits': WHATEVER THE INPUT: true; the input reads as it did. -/
def fnOrbitsSpec : ChangeSpec := { name := "fnOrbits", vars := ["loop.example/g00943/impl.unitMatrix"], fn := fun _ => fun
  | [d, g1] => { results := [.lit (.bool true)], args := [d], vars := [g1] }
  | _ => none }
def fnOrbitsRow : OpenClaim := { program := "ytmadgbbkkkibcaagreatdoor", sum := "ac20f27f9a9bd2f2086ff1914257e714e643f409896f37581ed7a0237dc29b41", func := "loop.example/g00943/laws.FnOrbits", spec := "fnOrbits", unfollowed := true, recurses := true, named := ["loop.example/g00943/impl.unitMatrix"], plainKeys := false, apart := false, laid := [("loop.example/g00943/impl.unitMatrix", laid_loop_example_g00943_impl_unitMatrix)] }
def FnOrbitsSaid : Prop := fnOrbitsRow.holds Tryz.pinned (OpenSpec.ofChange fnOrbitsSpec)

/-- ITS FALSE NEIGHBOUR: 'it returns false'. Refute it at one input. -/
def fnOrbitsWrong : ChangeSpec := { name := "fnOrbits", vars := ["loop.example/g00943/impl.unitMatrix"], fn := fun _ => fun
  | [d, g1] => { results := [.lit (.bool false)], args := [d], vars := [g1] }
  | _ => none }
def FnOrbitsWrongFalsely : Prop := fnOrbitsRow.holds Tryz.pinned (OpenSpec.ofChange fnOrbitsWrong)

/-- 'laws.FnStabilisers': WHATEVER THE INPUT: true; the input reads as it did. -/
def fnStabilisersSpec : ChangeSpec := { name := "fnStabilisers", vars := ["loop.example/g00943/impl.unitMatrix"], fn := fun _ => fun
  | [d, g1] => { results := [.lit (.bool true)], args := [d], vars := [g1] }
  | _ => none }
def fnStabilisersRow : OpenClaim := { program := "ytmadgbbkkkibcaagreatdoor", sum := "ac20f27f9a9bd2f2086ff1914257e714e643f409896f37581ed7a0237dc29b41", func := "loop.example/g00943/laws.FnStabilisers", spec := "fnStabilisers", unfollowed := true, recurses := true, named := ["loop.example/g00943/impl.unitMatrix"], plainKeys := false, apart := false, laid := [("loop.example/g00943/impl.unitMatrix", laid_loop_example_g00943_impl_unitMatrix)] }
def FnStabilisersSaid : Prop := fnStabilisersRow.holds Tryz.pinned (OpenSpec.ofChange fnStabilisersSpec)

/-- ITS FALSE NEIGHBOUR: 'it returns false'. Refute it at one input. -/
def fnStabilisersWrong : ChangeSpec := { name := "fnStabilisers", vars := ["loop.example/g00943/impl.unitMatrix"], fn := fun _ => fun
  | [d, g1] => { results := [.lit (.bool false)], args := [d], vars := [g1] }
  | _ => none }
def FnStabilisersWrongFalsely : Prop := fnStabilisersRow.holds Tryz.pinned (OpenSpec.ofChange fnStabilisersWrong)

/-- 'laws.FnExactOrbitOf': WHATEVER THE INPUT: true; the input reads as it did. -/
def fnExactOrbitOfSpec : ChangeSpec := { name := "fnExactOrbitOf", vars := ["loop.example/g00943/impl.unitMatrix"], fn := fun _ => fun
  | [d1, d2, d3, d4, g1] => { results := [.lit (.bool true)], args := [d1, d2, d3, d4], vars := [g1] }
  | _ => none }
def fnExactOrbitOfRow : OpenClaim := { program := "ytmadgbbkkkibcaagreatdoor", sum := "ac20f27f9a9bd2f2086ff1914257e714e643f409896f37581ed7a0237dc29b41", func := "loop.example/g00943/laws.FnExactOrbitOf", spec := "fnExactOrbitOf", unfollowed := true, recurses := true, named := ["loop.example/g00943/impl.unitMatrix"], plainKeys := false, apart := false, laid := [("loop.example/g00943/impl.unitMatrix", laid_loop_example_g00943_impl_unitMatrix)] }
def FnExactOrbitOfSaid : Prop := fnExactOrbitOfRow.holds Tryz.pinned (OpenSpec.ofChange fnExactOrbitOfSpec)

/-- ITS FALSE NEIGHBOUR: 'it returns false'. Refute it at one input. -/
def fnExactOrbitOfWrong : ChangeSpec := { name := "fnExactOrbitOf", vars := ["loop.example/g00943/impl.unitMatrix"], fn := fun _ => fun
  | [d1, d2, d3, d4, g1] => { results := [.lit (.bool false)], args := [d1, d2, d3, d4], vars := [g1] }
  | _ => none }
def FnExactOrbitOfWrongFalsely : Prop := fnExactOrbitOfRow.holds Tryz.pinned (OpenSpec.ofChange fnExactOrbitOfWrong)

/-- 'laws.FnExactOrbitsOf': WHATEVER THE INPUT: true; the input reads as it did. -/
def fnExactOrbitsOfSpec : ChangeSpec := { name := "fnExactOrbitsOf", vars := ["loop.example/g00943/impl.unitMatrix"], fn := fun _ => fun
  | [d1, d2, d3, g1] => { results := [.lit (.bool true)], args := [d1, d2, d3], vars := [g1] }
  | _ => none }
def fnExactOrbitsOfRow : OpenClaim := { program := "ytmadgbbkkkibcaagreatdoor", sum := "ac20f27f9a9bd2f2086ff1914257e714e643f409896f37581ed7a0237dc29b41", func := "loop.example/g00943/laws.FnExactOrbitsOf", spec := "fnExactOrbitsOf", unfollowed := true, recurses := true, named := ["loop.example/g00943/impl.unitMatrix"], plainKeys := false, apart := false, laid := [("loop.example/g00943/impl.unitMatrix", laid_loop_example_g00943_impl_unitMatrix)] }
def FnExactOrbitsOfSaid : Prop := fnExactOrbitsOfRow.holds Tryz.pinned (OpenSpec.ofChange fnExactOrbitsOfSpec)

/-- ITS FALSE NEIGHBOUR: 'it returns false'. Refute it at one input. -/
def fnExactOrbitsOfWrong : ChangeSpec := { name := "fnExactOrbitsOf", vars := ["loop.example/g00943/impl.unitMatrix"], fn := fun _ => fun
  | [d1, d2, d3, g1] => { results := [.lit (.bool false)], args := [d1, d2, d3], vars := [g1] }
  | _ => none }
def FnExactOrbitsOfWrongFalsely : Prop := fnExactOrbitsOfRow.holds Tryz.pinned (OpenSpec.ofChange fnExactOrbitsOfWrong)

/-- 'laws.FnExactOrbitNumbers': WHATEVER THE INPUT: true; the input reads as it did. -/
def fnExactOrbitNumbersSpec : ChangeSpec := { name := "fnExactOrbitNumbers", vars := ["loop.example/g00943/impl.unitMatrix"], fn := fun _ => fun
  | [d1, d2, d3, g1] => { results := [.lit (.bool true)], args := [d1, d2, d3], vars := [g1] }
  | _ => none }
def fnExactOrbitNumbersRow : OpenClaim := { program := "ytmadgbbkkkibcaagreatdoor", sum := "ac20f27f9a9bd2f2086ff1914257e714e643f409896f37581ed7a0237dc29b41", func := "loop.example/g00943/laws.FnExactOrbitNumbers", spec := "fnExactOrbitNumbers", unfollowed := true, recurses := true, named := ["loop.example/g00943/impl.unitMatrix"], plainKeys := false, apart := false, laid := [("loop.example/g00943/impl.unitMatrix", laid_loop_example_g00943_impl_unitMatrix)] }
def FnExactOrbitNumbersSaid : Prop := fnExactOrbitNumbersRow.holds Tryz.pinned (OpenSpec.ofChange fnExactOrbitNumbersSpec)

/-- ITS FALSE NEIGHBOUR: 'it returns false'. Refute it at one input. -/
def fnExactOrbitNumbersWrong : ChangeSpec := { name := "fnExactOrbitNumbers", vars := ["loop.example/g00943/impl.unitMatrix"], fn := fun _ => fun
  | [d1, d2, d3, g1] => { results := [.lit (.bool false)], args := [d1, d2, d3], vars := [g1] }
  | _ => none }
def FnExactOrbitNumbersWrongFalsely : Prop := fnExactOrbitNumbersRow.holds Tryz.pinned (OpenSpec.ofChange fnExactOrbitNumbersWrong)

/-- 'laws.FnExactCountOrbits': WHATEVER THE INPUT: true; the input reads as it did. -/
def fnExactCountOrbitsSpec : ChangeSpec := { name := "fnExactCountOrbits", vars := ["loop.example/g00943/impl.unitMatrix"], fn := fun _ => fun
  | [d1, d2, d3, g1] => { results := [.lit (.bool true)], args := [d1, d2, d3], vars := [g1] }
  | _ => none }
def fnExactCountOrbitsRow : OpenClaim := { program := "ytmadgbbkkkibcaagreatdoor", sum := "ac20f27f9a9bd2f2086ff1914257e714e643f409896f37581ed7a0237dc29b41", func := "loop.example/g00943/laws.FnExactCountOrbits", spec := "fnExactCountOrbits", unfollowed := true, recurses := true, named := ["loop.example/g00943/impl.unitMatrix"], plainKeys := false, apart := false, laid := [("loop.example/g00943/impl.unitMatrix", laid_loop_example_g00943_impl_unitMatrix)] }
def FnExactCountOrbitsSaid : Prop := fnExactCountOrbitsRow.holds Tryz.pinned (OpenSpec.ofChange fnExactCountOrbitsSpec)

/-- ITS FALSE NEIGHBOUR: 'it returns false'. Refute it at one input. -/
def fnExactCountOrbitsWrong : ChangeSpec := { name := "fnExactCountOrbits", vars := ["loop.example/g00943/impl.unitMatrix"], fn := fun _ => fun
  | [d1, d2, d3, g1] => { results := [.lit (.bool false)], args := [d1, d2, d3], vars := [g1] }
  | _ => none }
def FnExactCountOrbitsWrongFalsely : Prop := fnExactCountOrbitsRow.holds Tryz.pinned (OpenSpec.ofChange fnExactCountOrbitsWrong)

/-- 'laws.FnExactStabiliserOf': WHATEVER THE INPUT: true; the input reads as it did. -/
def fnExactStabiliserOfSpec : ChangeSpec := { name := "fnExactStabiliserOf", vars := ["loop.example/g00943/impl.unitMatrix"], fn := fun _ => fun
  | [d1, d2, d3, d4, g1] => { results := [.lit (.bool true)], args := [d1, d2, d3, d4], vars := [g1] }
  | _ => none }
def fnExactStabiliserOfRow : OpenClaim := { program := "ytmadgbbkkkibcaagreatdoor", sum := "ac20f27f9a9bd2f2086ff1914257e714e643f409896f37581ed7a0237dc29b41", func := "loop.example/g00943/laws.FnExactStabiliserOf", spec := "fnExactStabiliserOf", unfollowed := true, recurses := true, named := ["loop.example/g00943/impl.unitMatrix"], plainKeys := false, apart := false, laid := [("loop.example/g00943/impl.unitMatrix", laid_loop_example_g00943_impl_unitMatrix)] }
def FnExactStabiliserOfSaid : Prop := fnExactStabiliserOfRow.holds Tryz.pinned (OpenSpec.ofChange fnExactStabiliserOfSpec)

/-- ITS FALSE NEIGHBOUR: 'it returns false'. Refute it at one input. -/
def fnExactStabiliserOfWrong : ChangeSpec := { name := "fnExactStabiliserOf", vars := ["loop.example/g00943/impl.unitMatrix"], fn := fun _ => fun
  | [d1, d2, d3, d4, g1] => { results := [.lit (.bool false)], args := [d1, d2, d3, d4], vars := [g1] }
  | _ => none }
def FnExactStabiliserOfWrongFalsely : Prop := fnExactStabiliserOfRow.holds Tryz.pinned (OpenSpec.ofChange fnExactStabiliserOfWrong)

/-- 'laws.FnExactMoverOf': WHATEVER THE INPUT: true; the input reads as it did. -/
def fnExactMoverOfSpec : ChangeSpec := { name := "fnExactMoverOf", vars := ["loop.example/g00943/impl.unitMatrix"], fn := fun _ => fun
  | [d1, d2, d3, d4, d5, g1] => { results := [.lit (.bool true)], args := [d1, d2, d3, d4, d5], vars := [g1] }
  | _ => none }
def fnExactMoverOfRow : OpenClaim := { program := "ytmadgbbkkkibcaagreatdoor", sum := "ac20f27f9a9bd2f2086ff1914257e714e643f409896f37581ed7a0237dc29b41", func := "loop.example/g00943/laws.FnExactMoverOf", spec := "fnExactMoverOf", unfollowed := true, recurses := true, named := ["loop.example/g00943/impl.unitMatrix"], plainKeys := false, apart := false, laid := [("loop.example/g00943/impl.unitMatrix", laid_loop_example_g00943_impl_unitMatrix)] }
def FnExactMoverOfSaid : Prop := fnExactMoverOfRow.holds Tryz.pinned (OpenSpec.ofChange fnExactMoverOfSpec)

/-- ITS FALSE NEIGHBOUR: 'it returns false'. Refute it at one input. -/
def fnExactMoverOfWrong : ChangeSpec := { name := "fnExactMoverOf", vars := ["loop.example/g00943/impl.unitMatrix"], fn := fun _ => fun
  | [d1, d2, d3, d4, d5, g1] => { results := [.lit (.bool false)], args := [d1, d2, d3, d4, d5], vars := [g1] }
  | _ => none }
def FnExactMoverOfWrongFalsely : Prop := fnExactMoverOfRow.holds Tryz.pinned (OpenSpec.ofChange fnExactMoverOfWrong)

/- THE SECOND FORM. 'bulk': how many values and letters a reading holds, each counted each time it is reached (what is shared counts as often as it is met; a slice's spare places count too). A statement '..UptoSaid' is the law's where the arguments, and the package variables that the reading takes, are together of bulk at most 1048576: NARROWER than '..Said'. Prove '..Said' where nothing that the law and all that it calls make is longer than what came in: it says more and counts as full. Else prove '..UptoSaid'. A law counts once. -/
mutual
def uptoBulk {H : Type} : DataW H → Nat
  | .lit (.string bytes) => bytes.length + 1
  | .lit _ => 1
  | .nil => 1
  | .ptr d => uptoBulk d + 1
  | .slice elems spare => uptoBulkAll elems + uptoBulkAll spare + 1
  | .agg parts => uptoBulkAll parts + 1
  | .iface _ d => uptoBulk d + 1
  | .map entries => uptoBulkEntries entries + 1
  | .held _ => 1
def uptoBulkAll {H : Type} : List (DataW H) → Nat
  | [] => 0
  | d :: r => uptoBulk d + uptoBulkAll r
def uptoBulkEntries {H : Type} : List (Lit × DataW H) → Nat
  | [] => 0
  | x :: r => uptoBulkEntry x + uptoBulkEntries r
def uptoBulkEntry {H : Type} : Lit × DataW H → Nat
  | (.string bytes, d) => bytes.length + uptoBulk d + 1
  | (_, d) => uptoBulk d + 1
 end
def uptoSmall : (H : Type) → List (DataW H) → Bool := fun _ ds => decide (uptoBulkAll ds ≤ 1048576)
def OpenSpec.upto (s : _root_.Go.ChangeSpec) : _root_.Go.OpenSpec := { _root_.Go.OpenSpec.ofChange s with cond := some uptoSmall }

/-- 'laws.FnClosures', WHERE WHAT IT READS IS OF BULK AT MOST 1048576: true; the input reads as it did. -/
def fnClosuresUptoRow : OpenClaim := { program := "ytmadgbbkkkibcaagreatdoor", sum := "ac20f27f9a9bd2f2086ff1914257e714e643f409896f37581ed7a0237dc29b41", func := "loop.example/g00943/laws.FnClosures", spec := "fnClosures", unfollowed := true, recurses := true, named := ["loop.example/g00943/impl.unitMatrix"], plainKeys := false, apart := false, laid := [("loop.example/g00943/impl.unitMatrix", laid_loop_example_g00943_impl_unitMatrix)], narrowed := true }
def FnClosuresUptoSaid : Prop := fnClosuresUptoRow.holds Tryz.pinned (OpenSpec.upto fnClosuresSpec)

/-- 'laws.FnMeets', WHERE WHAT IT READS IS OF BULK AT MOST 1048576: true; the input reads as it did. -/
def fnMeetsUptoRow : OpenClaim := { program := "ytmadgbbkkkibcaagreatdoor", sum := "ac20f27f9a9bd2f2086ff1914257e714e643f409896f37581ed7a0237dc29b41", func := "loop.example/g00943/laws.FnMeets", spec := "fnMeets", unfollowed := true, recurses := true, named := ["loop.example/g00943/impl.unitMatrix"], plainKeys := false, apart := false, laid := [("loop.example/g00943/impl.unitMatrix", laid_loop_example_g00943_impl_unitMatrix)], narrowed := true }
def FnMeetsUptoSaid : Prop := fnMeetsUptoRow.holds Tryz.pinned (OpenSpec.upto fnMeetsSpec)

/-- 'laws.FnExactIsGroup', WHERE WHAT IT READS IS OF BULK AT MOST 1048576: true; the input reads as it did. -/
def fnExactIsGroupUptoRow : OpenClaim := { program := "ytmadgbbkkkibcaagreatdoor", sum := "ac20f27f9a9bd2f2086ff1914257e714e643f409896f37581ed7a0237dc29b41", func := "loop.example/g00943/laws.FnExactIsGroup", spec := "fnExactIsGroup", unfollowed := true, recurses := true, named := ["loop.example/g00943/impl.unitMatrix"], plainKeys := false, apart := false, laid := [("loop.example/g00943/impl.unitMatrix", laid_loop_example_g00943_impl_unitMatrix)], narrowed := true }
def FnExactIsGroupUptoSaid : Prop := fnExactIsGroupUptoRow.holds Tryz.pinned (OpenSpec.upto fnExactIsGroupSpec)

/-- 'laws.FnExactCloseGroup', WHERE WHAT IT READS IS OF BULK AT MOST 1048576: true; the input reads as it did. -/
def fnExactCloseGroupUptoRow : OpenClaim := { program := "ytmadgbbkkkibcaagreatdoor", sum := "ac20f27f9a9bd2f2086ff1914257e714e643f409896f37581ed7a0237dc29b41", func := "loop.example/g00943/laws.FnExactCloseGroup", spec := "fnExactCloseGroup", unfollowed := true, recurses := true, named := ["loop.example/g00943/impl.unitMatrix"], plainKeys := false, apart := false, laid := [("loop.example/g00943/impl.unitMatrix", laid_loop_example_g00943_impl_unitMatrix)], narrowed := true }
def FnExactCloseGroupUptoSaid : Prop := fnExactCloseGroupUptoRow.holds Tryz.pinned (OpenSpec.upto fnExactCloseGroupSpec)

/-- 'laws.FnExactPointPart', WHERE WHAT IT READS IS OF BULK AT MOST 1048576: true; the input reads as it did. -/
def fnExactPointPartUptoRow : OpenClaim := { program := "ytmadgbbkkkibcaagreatdoor", sum := "ac20f27f9a9bd2f2086ff1914257e714e643f409896f37581ed7a0237dc29b41", func := "loop.example/g00943/laws.FnExactPointPart", spec := "fnExactPointPart", unfollowed := true, recurses := true, named := ["loop.example/g00943/impl.unitMatrix"], plainKeys := false, apart := false, laid := [("loop.example/g00943/impl.unitMatrix", laid_loop_example_g00943_impl_unitMatrix)], narrowed := true }
def FnExactPointPartUptoSaid : Prop := fnExactPointPartUptoRow.holds Tryz.pinned (OpenSpec.upto fnExactPointPartSpec)

/-- 'laws.FnExactShiftsOf', WHERE WHAT IT READS IS OF BULK AT MOST 1048576: true; the input reads as it did. -/
def fnExactShiftsOfUptoRow : OpenClaim := { program := "ytmadgbbkkkibcaagreatdoor", sum := "ac20f27f9a9bd2f2086ff1914257e714e643f409896f37581ed7a0237dc29b41", func := "loop.example/g00943/laws.FnExactShiftsOf", spec := "fnExactShiftsOf", unfollowed := true, recurses := true, named := ["loop.example/g00943/impl.unitMatrix"], plainKeys := false, apart := false, laid := [("loop.example/g00943/impl.unitMatrix", laid_loop_example_g00943_impl_unitMatrix)], narrowed := true }
def FnExactShiftsOfUptoSaid : Prop := fnExactShiftsOfUptoRow.holds Tryz.pinned (OpenSpec.upto fnExactShiftsOfSpec)

/-- 'laws.FnExactMeetGroups', WHERE WHAT IT READS IS OF BULK AT MOST 1048576: true; the input reads as it did. -/
def fnExactMeetGroupsUptoRow : OpenClaim := { program := "ytmadgbbkkkibcaagreatdoor", sum := "ac20f27f9a9bd2f2086ff1914257e714e643f409896f37581ed7a0237dc29b41", func := "loop.example/g00943/laws.FnExactMeetGroups", spec := "fnExactMeetGroups", unfollowed := true, recurses := true, named := ["loop.example/g00943/impl.unitMatrix"], plainKeys := false, apart := false, laid := [("loop.example/g00943/impl.unitMatrix", laid_loop_example_g00943_impl_unitMatrix)], narrowed := true }
def FnExactMeetGroupsUptoSaid : Prop := fnExactMeetGroupsUptoRow.holds Tryz.pinned (OpenSpec.upto fnExactMeetGroupsSpec)

/-- 'laws.FnExactShiftedGroup', WHERE WHAT IT READS IS OF BULK AT MOST 1048576: true; the input reads as it did. -/
def fnExactShiftedGroupUptoRow : OpenClaim := { program := "ytmadgbbkkkibcaagreatdoor", sum := "ac20f27f9a9bd2f2086ff1914257e714e643f409896f37581ed7a0237dc29b41", func := "loop.example/g00943/laws.FnExactShiftedGroup", spec := "fnExactShiftedGroup", unfollowed := true, recurses := true, named := ["loop.example/g00943/impl.unitMatrix"], plainKeys := false, apart := false, laid := [("loop.example/g00943/impl.unitMatrix", laid_loop_example_g00943_impl_unitMatrix)], narrowed := true }
def FnExactShiftedGroupUptoSaid : Prop := fnExactShiftedGroupUptoRow.holds Tryz.pinned (OpenSpec.upto fnExactShiftedGroupSpec)

/-- 'laws.FnOrbits', WHERE WHAT IT READS IS OF BULK AT MOST 1048576: true; the input reads as it did. -/
def fnOrbitsUptoRow : OpenClaim := { program := "ytmadgbbkkkibcaagreatdoor", sum := "ac20f27f9a9bd2f2086ff1914257e714e643f409896f37581ed7a0237dc29b41", func := "loop.example/g00943/laws.FnOrbits", spec := "fnOrbits", unfollowed := true, recurses := true, named := ["loop.example/g00943/impl.unitMatrix"], plainKeys := false, apart := false, laid := [("loop.example/g00943/impl.unitMatrix", laid_loop_example_g00943_impl_unitMatrix)], narrowed := true }
def FnOrbitsUptoSaid : Prop := fnOrbitsUptoRow.holds Tryz.pinned (OpenSpec.upto fnOrbitsSpec)

/-- 'laws.FnStabilisers', WHERE WHAT IT READS IS OF BULK AT MOST 1048576: true; the input reads as it did. -/
def fnStabilisersUptoRow : OpenClaim := { program := "ytmadgbbkkkibcaagreatdoor", sum := "ac20f27f9a9bd2f2086ff1914257e714e643f409896f37581ed7a0237dc29b41", func := "loop.example/g00943/laws.FnStabilisers", spec := "fnStabilisers", unfollowed := true, recurses := true, named := ["loop.example/g00943/impl.unitMatrix"], plainKeys := false, apart := false, laid := [("loop.example/g00943/impl.unitMatrix", laid_loop_example_g00943_impl_unitMatrix)], narrowed := true }
def FnStabilisersUptoSaid : Prop := fnStabilisersUptoRow.holds Tryz.pinned (OpenSpec.upto fnStabilisersSpec)

/-- 'laws.FnExactOrbitOf', WHERE WHAT IT READS IS OF BULK AT MOST 1048576: true; the input reads as it did. -/
def fnExactOrbitOfUptoRow : OpenClaim := { program := "ytmadgbbkkkibcaagreatdoor", sum := "ac20f27f9a9bd2f2086ff1914257e714e643f409896f37581ed7a0237dc29b41", func := "loop.example/g00943/laws.FnExactOrbitOf", spec := "fnExactOrbitOf", unfollowed := true, recurses := true, named := ["loop.example/g00943/impl.unitMatrix"], plainKeys := false, apart := false, laid := [("loop.example/g00943/impl.unitMatrix", laid_loop_example_g00943_impl_unitMatrix)], narrowed := true }
def FnExactOrbitOfUptoSaid : Prop := fnExactOrbitOfUptoRow.holds Tryz.pinned (OpenSpec.upto fnExactOrbitOfSpec)

/-- 'laws.FnExactOrbitsOf', WHERE WHAT IT READS IS OF BULK AT MOST 1048576: true; the input reads as it did. -/
def fnExactOrbitsOfUptoRow : OpenClaim := { program := "ytmadgbbkkkibcaagreatdoor", sum := "ac20f27f9a9bd2f2086ff1914257e714e643f409896f37581ed7a0237dc29b41", func := "loop.example/g00943/laws.FnExactOrbitsOf", spec := "fnExactOrbitsOf", unfollowed := true, recurses := true, named := ["loop.example/g00943/impl.unitMatrix"], plainKeys := false, apart := false, laid := [("loop.example/g00943/impl.unitMatrix", laid_loop_example_g00943_impl_unitMatrix)], narrowed := true }
def FnExactOrbitsOfUptoSaid : Prop := fnExactOrbitsOfUptoRow.holds Tryz.pinned (OpenSpec.upto fnExactOrbitsOfSpec)

/-- 'laws.FnExactOrbitNumbers', WHERE WHAT IT READS IS OF BULK AT MOST 1048576: true; the input reads as it did. -/
def fnExactOrbitNumbersUptoRow : OpenClaim := { program := "ytmadgbbkkkibcaagreatdoor", sum := "ac20f27f9a9bd2f2086ff1914257e714e643f409896f37581ed7a0237dc29b41", func := "loop.example/g00943/laws.FnExactOrbitNumbers", spec := "fnExactOrbitNumbers", unfollowed := true, recurses := true, named := ["loop.example/g00943/impl.unitMatrix"], plainKeys := false, apart := false, laid := [("loop.example/g00943/impl.unitMatrix", laid_loop_example_g00943_impl_unitMatrix)], narrowed := true }
def FnExactOrbitNumbersUptoSaid : Prop := fnExactOrbitNumbersUptoRow.holds Tryz.pinned (OpenSpec.upto fnExactOrbitNumbersSpec)

/-- 'laws.FnExactCountOrbits', WHERE WHAT IT READS IS OF BULK AT MOST 1048576: true; the input reads as it did. -/
def fnExactCountOrbitsUptoRow : OpenClaim := { program := "ytmadgbbkkkibcaagreatdoor", sum := "ac20f27f9a9bd2f2086ff1914257e714e643f409896f37581ed7a0237dc29b41", func := "loop.example/g00943/laws.FnExactCountOrbits", spec := "fnExactCountOrbits", unfollowed := true, recurses := true, named := ["loop.example/g00943/impl.unitMatrix"], plainKeys := false, apart := false, laid := [("loop.example/g00943/impl.unitMatrix", laid_loop_example_g00943_impl_unitMatrix)], narrowed := true }
def FnExactCountOrbitsUptoSaid : Prop := fnExactCountOrbitsUptoRow.holds Tryz.pinned (OpenSpec.upto fnExactCountOrbitsSpec)

/-- 'laws.FnExactStabiliserOf', WHERE WHAT IT READS IS OF BULK AT MOST 1048576: true; the input reads as it did. -/
def fnExactStabiliserOfUptoRow : OpenClaim := { program := "ytmadgbbkkkibcaagreatdoor", sum := "ac20f27f9a9bd2f2086ff1914257e714e643f409896f37581ed7a0237dc29b41", func := "loop.example/g00943/laws.FnExactStabiliserOf", spec := "fnExactStabiliserOf", unfollowed := true, recurses := true, named := ["loop.example/g00943/impl.unitMatrix"], plainKeys := false, apart := false, laid := [("loop.example/g00943/impl.unitMatrix", laid_loop_example_g00943_impl_unitMatrix)], narrowed := true }
def FnExactStabiliserOfUptoSaid : Prop := fnExactStabiliserOfUptoRow.holds Tryz.pinned (OpenSpec.upto fnExactStabiliserOfSpec)

/-- 'laws.FnExactMoverOf', WHERE WHAT IT READS IS OF BULK AT MOST 1048576: true; the input reads as it did. -/
def fnExactMoverOfUptoRow : OpenClaim := { program := "ytmadgbbkkkibcaagreatdoor", sum := "ac20f27f9a9bd2f2086ff1914257e714e643f409896f37581ed7a0237dc29b41", func := "loop.example/g00943/laws.FnExactMoverOf", spec := "fnExactMoverOf", unfollowed := true, recurses := true, named := ["loop.example/g00943/impl.unitMatrix"], plainKeys := false, apart := false, laid := [("loop.example/g00943/impl.unitMatrix", laid_loop_example_g00943_impl_unitMatrix)], narrowed := true }
def FnExactMoverOfUptoSaid : Prop := fnExactMoverOfUptoRow.holds Tryz.pinned (OpenSpec.upto fnExactMoverOfSpec)

end Rows
end Go.Proofs.YtmadgbbkkkibcaaGreatDoor
