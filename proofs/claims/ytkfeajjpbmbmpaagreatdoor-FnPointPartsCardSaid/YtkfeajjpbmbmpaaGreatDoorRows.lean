/-
  NARROWER THAN 'FOR EVERY INPUT', by the rows' own cells (each row's printed sentence says how): FnCentred: laid · FnCentreCounts: laid · FnPointParts: laid · FnNames: laid · FnClosures: laid · FnMeets: laid · FnOrbits: laid · FnStabilisers: laid.
  DERIVED. THE GIVEN ROWS OF THIS SEAT. 8 by the template 'for every input the law returns true; each argument reads behind the call as it read before'; 0 by the template 'total and deterministic' (their statements: YtkfeajjpbmbmpaaGreatDoorTotals.lean).
  GIVEN WITH THE SEED: the statements are not yours to turn. If you find one false, say at which input.
  Laid BY PROGRAM, IN A SANDBOX (cutbox-rows.mjs): the forced cells as the released guide's own fill.sh prints them over the translation 02b9a86fa902ba6e… (all of the seat's roots in one cut). By AI agents, Wed Nov 11 2026. No macro, syntax, notation, axiom, sorry.
-/
import Derived.Test.YtkfeajjpbmbmpaaGreatDoorChecked
import GoSem.Claim
import GoSem.ClaimJoined
import GoSem.ClaimMapViews
import Derived.JoinedTies
import Derived.KernelRfl
namespace Go.Proofs.YtkfeajjpbmbmpaaGreatDoor
/- THE CELL 'sum', in the pinned program and in every row, IS THE sha256 OF THE DUMP (.gsa) THAT YtkfeajjpbmbmpaaGreatDoorProg.lean LOADS. Nothing in Lean hashes anything: it is a label: what it is worth is what the hold of that sum in a sandbox is worth. -/
noncomputable def Tryz.pinned : Pinned := { name := "ytkfeajjpbmbmpaagreatdoor", sum := "02b9a86fa902ba6edbffe5962dd83b87ffb709c70b0983bfa437baac1672d8dd", checked := Tryz.checked }
namespace Rows
def none {H : Type} : Left H := { results := [], args := [] }

/- WHAT THE LISTED PACKAGE-LEVEL VARIABLES READ AS WHEN THE CALL BEGINS. Each datum BY PROGRAM (the guide's laid-datum.mjs) off the statement by which the dump's own 'gosem.cut.vars' lays the variable. In a bare row this is a premise. The card (YtkfeajjpbmbmpaaGreatDoorCards.lean) ties it to the program's text. -/
def laid_loop_example_g00943_impl_unitMatrix {H : Type} : DataW H := .agg [.lit (.int .i64 1), .lit (.int .i64 0), .lit (.int .i64 0), .lit (.int .i64 1)]
def laid_math_bits_deBruijn32tab {H : Type} : DataW H := .agg [.lit (.int .u8 0), .lit (.int .u8 1), .lit (.int .u8 28), .lit (.int .u8 2), .lit (.int .u8 29), .lit (.int .u8 14), .lit (.int .u8 24), .lit (.int .u8 3), .lit (.int .u8 30), .lit (.int .u8 22), .lit (.int .u8 20), .lit (.int .u8 15), .lit (.int .u8 25), .lit (.int .u8 17), .lit (.int .u8 4), .lit (.int .u8 8), .lit (.int .u8 31), .lit (.int .u8 27), .lit (.int .u8 13), .lit (.int .u8 23), .lit (.int .u8 21), .lit (.int .u8 19), .lit (.int .u8 16), .lit (.int .u8 7), .lit (.int .u8 26), .lit (.int .u8 12), .lit (.int .u8 18), .lit (.int .u8 6), .lit (.int .u8 11), .lit (.int .u8 5), .lit (.int .u8 10), .lit (.int .u8 9)]
def laid_math_bits_deBruijn64tab {H : Type} : DataW H := .agg [.lit (.int .u8 0), .lit (.int .u8 1), .lit (.int .u8 56), .lit (.int .u8 2), .lit (.int .u8 57), .lit (.int .u8 49), .lit (.int .u8 28), .lit (.int .u8 3), .lit (.int .u8 61), .lit (.int .u8 58), .lit (.int .u8 42), .lit (.int .u8 50), .lit (.int .u8 38), .lit (.int .u8 29), .lit (.int .u8 17), .lit (.int .u8 4), .lit (.int .u8 62), .lit (.int .u8 47), .lit (.int .u8 59), .lit (.int .u8 36), .lit (.int .u8 45), .lit (.int .u8 43), .lit (.int .u8 51), .lit (.int .u8 22), .lit (.int .u8 53), .lit (.int .u8 39), .lit (.int .u8 33), .lit (.int .u8 30), .lit (.int .u8 24), .lit (.int .u8 18), .lit (.int .u8 12), .lit (.int .u8 5), .lit (.int .u8 63), .lit (.int .u8 55), .lit (.int .u8 48), .lit (.int .u8 27), .lit (.int .u8 60), .lit (.int .u8 41), .lit (.int .u8 37), .lit (.int .u8 16), .lit (.int .u8 46), .lit (.int .u8 35), .lit (.int .u8 44), .lit (.int .u8 21), .lit (.int .u8 52), .lit (.int .u8 32), .lit (.int .u8 23), .lit (.int .u8 11), .lit (.int .u8 54), .lit (.int .u8 26), .lit (.int .u8 40), .lit (.int .u8 15), .lit (.int .u8 34), .lit (.int .u8 20), .lit (.int .u8 31), .lit (.int .u8 10), .lit (.int .u8 25), .lit (.int .u8 14), .lit (.int .u8 19), .lit (.int .u8 9), .lit (.int .u8 13), .lit (.int .u8 8), .lit (.int .u8 7), .lit (.int .u8 6)]
def laid_internal_strconv_uint64pow10 {H : Type} : DataW H := .agg [.lit (.int .u64 1), .lit (.int .u64 10), .lit (.int .u64 100), .lit (.int .u64 1000), .lit (.int .u64 10000), .lit (.int .u64 100000), .lit (.int .u64 1000000), .lit (.int .u64 10000000), .lit (.int .u64 100000000), .lit (.int .u64 1000000000), .lit (.int .u64 10000000000), .lit (.int .u64 100000000000), .lit (.int .u64 1000000000000), .lit (.int .u64 10000000000000), .lit (.int .u64 100000000000000), .lit (.int .u64 1000000000000000), .lit (.int .u64 10000000000000000), .lit (.int .u64 100000000000000000), .lit (.int .u64 1000000000000000000), .lit (.int .u64 10000000000000000000)]
def laid_loop_example_g00943_impl_namedGroups {H : Type} : DataW H := .agg [.agg [.lit (.string [112, 49]), .lit (.string [111]), .lit (.int .i64 1)], .agg [.lit (.string [112, 50]), .lit (.string [50, 50, 50, 50]), .lit (.int .i64 2)], .agg [.lit (.string [112, 109]), .lit (.string [42, 42]), .lit (.int .i64 2)], .agg [.lit (.string [112, 103]), .lit (.string [120, 120]), .lit (.int .i64 2)], .agg [.lit (.string [99, 109]), .lit (.string [42, 120]), .lit (.int .i64 2)], .agg [.lit (.string [112, 109, 109]), .lit (.string [42, 50, 50, 50, 50]), .lit (.int .i64 4)], .agg [.lit (.string [112, 109, 103]), .lit (.string [50, 50, 42]), .lit (.int .i64 4)], .agg [.lit (.string [112, 103, 103]), .lit (.string [50, 50, 120]), .lit (.int .i64 4)], .agg [.lit (.string [99, 109, 109]), .lit (.string [50, 42, 50, 50]), .lit (.int .i64 4)], .agg [.lit (.string [112, 52]), .lit (.string [52, 52, 50]), .lit (.int .i64 4)], .agg [.lit (.string [112, 52, 109]), .lit (.string [42, 52, 52, 50]), .lit (.int .i64 8)], .agg [.lit (.string [112, 52, 103]), .lit (.string [52, 42, 50]), .lit (.int .i64 8)], .agg [.lit (.string [112, 51]), .lit (.string [51, 51, 51]), .lit (.int .i64 3)], .agg [.lit (.string [112, 51, 109, 49]), .lit (.string [42, 51, 51, 51]), .lit (.int .i64 6)], .agg [.lit (.string [112, 51, 49, 109]), .lit (.string [51, 42, 51]), .lit (.int .i64 6)], .agg [.lit (.string [112, 54]), .lit (.string [54, 51, 50]), .lit (.int .i64 6)], .agg [.lit (.string [112, 54, 109]), .lit (.string [42, 54, 51, 50]), .lit (.int .i64 12)]]

/-- 'laws.FnCentred': WHATEVER THE INPUT: true; the input reads as it did. -/
def fnCentredSpec : ChangeSpec := { name := "fnCentred", vars := ["loop.example/g00943/impl.unitMatrix"], fn := fun _ => fun
  | [d, g1] => { results := [.lit (.bool true)], args := [d], vars := [g1] }
  | _ => none }
def fnCentredRow : OpenClaim := { program := "ytkfeajjpbmbmpaagreatdoor", sum := "02b9a86fa902ba6edbffe5962dd83b87ffb709c70b0983bfa437baac1672d8dd", func := "loop.example/g00943/laws.FnCentred", spec := "fnCentred", unfollowed := true, recurses := true, named := ["loop.example/g00943/impl.unitMatrix"], plainKeys := false, apart := false, laid := [("loop.example/g00943/impl.unitMatrix", laid_loop_example_g00943_impl_unitMatrix)] }
def FnCentredSaid : Prop := fnCentredRow.holds Tryz.pinned (OpenSpec.ofChange fnCentredSpec)

/-- ITS FALSE NEIGHBOUR: 'it returns false'. Refute it at one input. -/
def fnCentredWrong : ChangeSpec := { name := "fnCentred", vars := ["loop.example/g00943/impl.unitMatrix"], fn := fun _ => fun
  | [d, g1] => { results := [.lit (.bool false)], args := [d], vars := [g1] }
  | _ => none }
def FnCentredWrongFalsely : Prop := fnCentredRow.holds Tryz.pinned (OpenSpec.ofChange fnCentredWrong)

/-- 'laws.FnCentreCounts': WHATEVER THE INPUT: true; the input reads as it did. -/
def fnCentreCountsSpec : ChangeSpec := { name := "fnCentreCounts", vars := ["loop.example/g00943/impl.unitMatrix"], fn := fun _ => fun
  | [d, g1] => { results := [.lit (.bool true)], args := [d], vars := [g1] }
  | _ => none }
def fnCentreCountsRow : OpenClaim := { program := "ytkfeajjpbmbmpaagreatdoor", sum := "02b9a86fa902ba6edbffe5962dd83b87ffb709c70b0983bfa437baac1672d8dd", func := "loop.example/g00943/laws.FnCentreCounts", spec := "fnCentreCounts", unfollowed := true, recurses := true, named := ["loop.example/g00943/impl.unitMatrix"], plainKeys := false, apart := false, laid := [("loop.example/g00943/impl.unitMatrix", laid_loop_example_g00943_impl_unitMatrix)] }
def FnCentreCountsSaid : Prop := fnCentreCountsRow.holds Tryz.pinned (OpenSpec.ofChange fnCentreCountsSpec)

/-- ITS FALSE NEIGHBOUR: 'it returns false'. Refute it at one input. -/
def fnCentreCountsWrong : ChangeSpec := { name := "fnCentreCounts", vars := ["loop.example/g00943/impl.unitMatrix"], fn := fun _ => fun
  | [d, g1] => { results := [.lit (.bool false)], args := [d], vars := [g1] }
  | _ => none }
def FnCentreCountsWrongFalsely : Prop := fnCentreCountsRow.holds Tryz.pinned (OpenSpec.ofChange fnCentreCountsWrong)

/-- 'laws.FnPointParts': WHATEVER THE INPUT: true; the input reads as it did. -/
def fnPointPartsSpec : ChangeSpec := { name := "fnPointParts", vars := ["loop.example/g00943/impl.unitMatrix"], fn := fun _ => fun
  | [d, g1] => { results := [.lit (.bool true)], args := [d], vars := [g1] }
  | _ => none }
def fnPointPartsRow : OpenClaim := { program := "ytkfeajjpbmbmpaagreatdoor", sum := "02b9a86fa902ba6edbffe5962dd83b87ffb709c70b0983bfa437baac1672d8dd", func := "loop.example/g00943/laws.FnPointParts", spec := "fnPointParts", unfollowed := true, recurses := true, named := ["loop.example/g00943/impl.unitMatrix"], plainKeys := false, apart := false, laid := [("loop.example/g00943/impl.unitMatrix", laid_loop_example_g00943_impl_unitMatrix)] }
def FnPointPartsSaid : Prop := fnPointPartsRow.holds Tryz.pinned (OpenSpec.ofChange fnPointPartsSpec)

/-- ITS FALSE NEIGHBOUR: 'it returns false'. Refute it at one input. -/
def fnPointPartsWrong : ChangeSpec := { name := "fnPointParts", vars := ["loop.example/g00943/impl.unitMatrix"], fn := fun _ => fun
  | [d, g1] => { results := [.lit (.bool false)], args := [d], vars := [g1] }
  | _ => none }
def FnPointPartsWrongFalsely : Prop := fnPointPartsRow.holds Tryz.pinned (OpenSpec.ofChange fnPointPartsWrong)

/-- 'laws.FnNames': WHATEVER THE INPUT: true; the input reads as it did. -/
def fnNamesSpec : ChangeSpec := { name := "fnNames", vars := ["loop.example/g00943/impl.unitMatrix", "loop.example/g00943/impl.namedGroups"], fn := fun _ => fun
  | [d, g1, g2] => { results := [.lit (.bool true)], args := [d], vars := [g1, g2] }
  | _ => none }
def fnNamesRow : OpenClaim := { program := "ytkfeajjpbmbmpaagreatdoor", sum := "02b9a86fa902ba6edbffe5962dd83b87ffb709c70b0983bfa437baac1672d8dd", func := "loop.example/g00943/laws.FnNames", spec := "fnNames", unfollowed := true, recurses := true, named := ["loop.example/g00943/impl.unitMatrix", "internal/strconv.uint64pow10", "math/bits.deBruijn32tab", "math/bits.deBruijn64tab", "loop.example/g00943/impl.namedGroups"], plainKeys := false, apart := false, laid := [("math/bits.deBruijn32tab", laid_math_bits_deBruijn32tab), ("math/bits.deBruijn64tab", laid_math_bits_deBruijn64tab), ("internal/strconv.uint64pow10", laid_internal_strconv_uint64pow10), ("loop.example/g00943/impl.unitMatrix", laid_loop_example_g00943_impl_unitMatrix), ("loop.example/g00943/impl.namedGroups", laid_loop_example_g00943_impl_namedGroups)] }
def FnNamesSaid : Prop := fnNamesRow.holds Tryz.pinned (OpenSpec.ofChange fnNamesSpec)

/-- ITS FALSE NEIGHBOUR: 'it returns false'. Refute it at one input. -/
def fnNamesWrong : ChangeSpec := { name := "fnNames", vars := ["loop.example/g00943/impl.unitMatrix", "loop.example/g00943/impl.namedGroups"], fn := fun _ => fun
  | [d, g1, g2] => { results := [.lit (.bool false)], args := [d], vars := [g1, g2] }
  | _ => none }
def FnNamesWrongFalsely : Prop := fnNamesRow.holds Tryz.pinned (OpenSpec.ofChange fnNamesWrong)

/-- 'laws.FnClosures': WHATEVER THE INPUT: true; the input reads as it did. -/
def fnClosuresSpec : ChangeSpec := { name := "fnClosures", vars := ["loop.example/g00943/impl.unitMatrix"], fn := fun _ => fun
  | [d, g1] => { results := [.lit (.bool true)], args := [d], vars := [g1] }
  | _ => none }
def fnClosuresRow : OpenClaim := { program := "ytkfeajjpbmbmpaagreatdoor", sum := "02b9a86fa902ba6edbffe5962dd83b87ffb709c70b0983bfa437baac1672d8dd", func := "loop.example/g00943/laws.FnClosures", spec := "fnClosures", unfollowed := true, recurses := true, named := ["loop.example/g00943/impl.unitMatrix"], plainKeys := false, apart := false, laid := [("loop.example/g00943/impl.unitMatrix", laid_loop_example_g00943_impl_unitMatrix)] }
def FnClosuresSaid : Prop := fnClosuresRow.holds Tryz.pinned (OpenSpec.ofChange fnClosuresSpec)

/-- ITS FALSE NEIGHBOUR: 'it returns false'. Refute it at one input. -/
def fnClosuresWrong : ChangeSpec := { name := "fnClosures", vars := ["loop.example/g00943/impl.unitMatrix"], fn := fun _ => fun
  | [d, g1] => { results := [.lit (.bool false)], args := [d], vars := [g1] }
  | _ => none }
def FnClosuresWrongFalsely : Prop := fnClosuresRow.holds Tryz.pinned (OpenSpec.ofChange fnClosuresWrong)

/-- 'laws.FnMeets': WHATEVER THE INPUT: true; the input reads as it did. -/
def fnMeetsSpec : ChangeSpec := { name := "fnMeets", vars := ["loop.example/g00943/impl.unitMatrix"], fn := fun _ => fun
  | [d, g1] => { results := [.lit (.bool true)], args := [d], vars := [g1] }
  | _ => none }
def fnMeetsRow : OpenClaim := { program := "ytkfeajjpbmbmpaagreatdoor", sum := "02b9a86fa902ba6edbffe5962dd83b87ffb709c70b0983bfa437baac1672d8dd", func := "loop.example/g00943/laws.FnMeets", spec := "fnMeets", unfollowed := true, recurses := true, named := ["loop.example/g00943/impl.unitMatrix"], plainKeys := false, apart := false, laid := [("loop.example/g00943/impl.unitMatrix", laid_loop_example_g00943_impl_unitMatrix)] }
def FnMeetsSaid : Prop := fnMeetsRow.holds Tryz.pinned (OpenSpec.ofChange fnMeetsSpec)

/-- ITS FALSE NEIGHBOUR: 'it returns false'. Refute it at one input. -/
def fnMeetsWrong : ChangeSpec := { name := "fnMeets", vars := ["loop.example/g00943/impl.unitMatrix"], fn := fun _ => fun
  | [d, g1] => { results := [.lit (.bool false)], args := [d], vars := [g1] }
  | _ => none }
def FnMeetsWrongFalsely : Prop := fnMeetsRow.holds Tryz.pinned (OpenSpec.ofChange fnMeetsWrong)

/-- 'laws.FnOrbits': WHATEVER THE INPUT: true; the input reads as it did. -/
def fnOrbitsSpec : ChangeSpec := { name := "fnOrbits", vars := ["loop.example/g00943/impl.unitMatrix"], fn := fun _ => fun
  | [d, g1] => { results := [.lit (.bool true)], args := [d], vars := [g1] }
  | _ => none }
def fnOrbitsRow : OpenClaim := { program := "ytkfeajjpbmbmpaagreatdoor", sum := "02b9a86fa902ba6edbffe5962dd83b87ffb709c70b0983bfa437baac1672d8dd", func := "loop.example/g00943/laws.FnOrbits", spec := "fnOrbits", unfollowed := true, recurses := true, named := ["loop.example/g00943/impl.unitMatrix"], plainKeys := false, apart := false, laid := [("loop.example/g00943/impl.unitMatrix", laid_loop_example_g00943_impl_unitMatrix)] }
def FnOrbitsSaid : Prop := fnOrbitsRow.holds Tryz.pinned (OpenSpec.ofChange fnOrbitsSpec)

/-- ITS FALSE NEIGHBOUR: 'it returns false'. Refute it at one input. -/
def fnOrbitsWrong : ChangeSpec := { name := "fnOrbits", vars := ["loop.example/g00943/impl.unitMatrix"], fn := fun _ => fun
  | [d, g1] => { results := [.lit (.bool false)], args := [d], vars := [g1] }
  | _ => none }
def FnOrbitsWrongFalsely : Prop := fnOrbitsRow.holds Tryz.pinned (OpenSpec.ofChange fnOrbitsWrong)

/-- 'laws.FnStabilisers': WHATEVER THE INPUT: true; the input reads as it did. -/
def fnStabilisersSpec : ChangeSpec := { name := "fnStabilisers", vars := ["loop.example/g00943/impl.unitMatrix"], fn := fun _ => fun
  | [d, g1] => { results := [.lit (.bool true)], args := [d], vars := [g1] }
  | _ => none }
def fnStabilisersRow : OpenClaim := { program := "ytkfeajjpbmbmpaagreatdoor", sum := "02b9a86fa902ba6edbffe5962dd83b87ffb709c70b0983bfa437baac1672d8dd", func := "loop.example/g00943/laws.FnStabilisers", spec := "fnStabilisers", unfollowed := true, recurses := true, named := ["loop.example/g00943/impl.unitMatrix"], plainKeys := false, apart := false, laid := [("loop.example/g00943/impl.unitMatrix", laid_loop_example_g00943_impl_unitMatrix)] }
def FnStabilisersSaid : Prop := fnStabilisersRow.holds Tryz.pinned (OpenSpec.ofChange fnStabilisersSpec)

/-- ITS FALSE NEIGHBOUR: 'it returns false'. Refute it at one input. -/
def fnStabilisersWrong : ChangeSpec := { name := "fnStabilisers", vars := ["loop.example/g00943/impl.unitMatrix"], fn := fun _ => fun
  | [d, g1] => { results := [.lit (.bool false)], args := [d], vars := [g1] }
  | _ => none }
def FnStabilisersWrongFalsely : Prop := fnStabilisersRow.holds Tryz.pinned (OpenSpec.ofChange fnStabilisersWrong)

/- THE SECOND FORM. 'bulk': how many values and letters a reading holds, each counted each time it is reached (what is shared counts as often as it is met; a slice's spare places count too). A statement '..UptoSaid' is the law's where the arguments, and the package variables that the reading takes, are together of bulk at most 1048576: NARROWER than '..Said'. Prove '..Said' where nothing that the law and all that it calls make is longer than what came in: it says more and counts as full. Else prove '..UptoSaid'. A law counts once. -/
mutual
def uptoBulk {H : Type} : DataW H → Nat
  | .lit (.string bytes) => bytes.length + 1
  | .lit _ => 1
  | .nil => 1
  | .ptr d => uptoBulk d + 1
  | .slice elems spare => uptoBulkAll elems + uptoBulkAll spare + 1
  | .agg parts => uptoBulkAll parts + 1
  | .iface _ d => uptoBulk d + 1
  | .map entries => uptoBulkEntries entries + 1
  | .held _ => 1
def uptoBulkAll {H : Type} : List (DataW H) → Nat
  | [] => 0
  | d :: r => uptoBulk d + uptoBulkAll r
def uptoBulkEntries {H : Type} : List (Lit × DataW H) → Nat
  | [] => 0
  | x :: r => uptoBulkEntry x + uptoBulkEntries r
def uptoBulkEntry {H : Type} : Lit × DataW H → Nat
  | (.string bytes, d) => bytes.length + uptoBulk d + 1
  | (_, d) => uptoBulk d + 1
 end
def uptoSmall : (H : Type) → List (DataW H) → Bool := fun _ ds => decide (uptoBulkAll ds ≤ 1048576)
def OpenSpec.upto (s : _root_.Go.ChangeSpec) : _root_.Go.OpenSpec := { _root_.Go.OpenSpec.ofChange s with cond := some uptoSmall }

/-- 'laws.FnCentred', WHERE WHAT IT READS IS OF BULK AT MOST 1048576: true; the input reads as it did. -/
def fnCentredUptoRow : OpenClaim := { program := "ytkfeajjpbmbmpaagreatdoor", sum := "02b9a86fa902ba6edbffe5962dd83b87ffb709c70b0983bfa437baac1672d8dd", func := "loop.example/g00943/laws.FnCentred", spec := "fnCentred", unfollowed := true, recurses := true, named := ["loop.example/g00943/impl.unitMatrix"], plainKeys := false, apart := false, laid := [("loop.example/g00943/impl.unitMatrix", laid_loop_example_g00943_impl_unitMatrix)], narrowed := true }
def FnCentredUptoSaid : Prop := fnCentredUptoRow.holds Tryz.pinned (OpenSpec.upto fnCentredSpec)

/-- 'laws.FnCentreCounts', WHERE WHAT IT READS IS OF BULK AT MOST 1048576: true; the input reads as it did. -/
def fnCentreCountsUptoRow : OpenClaim := { program := "ytkfeajjpbmbmpaagreatdoor", sum := "02b9a86fa902ba6edbffe5962dd83b87ffb709c70b0983bfa437baac1672d8dd", func := "loop.example/g00943/laws.FnCentreCounts", spec := "fnCentreCounts", unfollowed := true, recurses := true, named := ["loop.example/g00943/impl.unitMatrix"], plainKeys := false, apart := false, laid := [("loop.example/g00943/impl.unitMatrix", laid_loop_example_g00943_impl_unitMatrix)], narrowed := true }
def FnCentreCountsUptoSaid : Prop := fnCentreCountsUptoRow.holds Tryz.pinned (OpenSpec.upto fnCentreCountsSpec)

/-- 'laws.FnPointParts', WHERE WHAT IT READS IS OF BULK AT MOST 1048576: true; the input reads as it did. -/
def fnPointPartsUptoRow : OpenClaim := { program := "ytkfeajjpbmbmpaagreatdoor", sum := "02b9a86fa902ba6edbffe5962dd83b87ffb709c70b0983bfa437baac1672d8dd", func := "loop.example/g00943/laws.FnPointParts", spec := "fnPointParts", unfollowed := true, recurses := true, named := ["loop.example/g00943/impl.unitMatrix"], plainKeys := false, apart := false, laid := [("loop.example/g00943/impl.unitMatrix", laid_loop_example_g00943_impl_unitMatrix)], narrowed := true }
def FnPointPartsUptoSaid : Prop := fnPointPartsUptoRow.holds Tryz.pinned (OpenSpec.upto fnPointPartsSpec)

/-- 'laws.FnNames', WHERE WHAT IT READS IS OF BULK AT MOST 1048576: true; the input reads as it did. -/
def fnNamesUptoRow : OpenClaim := { program := "ytkfeajjpbmbmpaagreatdoor", sum := "02b9a86fa902ba6edbffe5962dd83b87ffb709c70b0983bfa437baac1672d8dd", func := "loop.example/g00943/laws.FnNames", spec := "fnNames", unfollowed := true, recurses := true, named := ["loop.example/g00943/impl.unitMatrix", "internal/strconv.uint64pow10", "math/bits.deBruijn32tab", "math/bits.deBruijn64tab", "loop.example/g00943/impl.namedGroups"], plainKeys := false, apart := false, laid := [("math/bits.deBruijn32tab", laid_math_bits_deBruijn32tab), ("math/bits.deBruijn64tab", laid_math_bits_deBruijn64tab), ("internal/strconv.uint64pow10", laid_internal_strconv_uint64pow10), ("loop.example/g00943/impl.unitMatrix", laid_loop_example_g00943_impl_unitMatrix), ("loop.example/g00943/impl.namedGroups", laid_loop_example_g00943_impl_namedGroups)], narrowed := true }
def FnNamesUptoSaid : Prop := fnNamesUptoRow.holds Tryz.pinned (OpenSpec.upto fnNamesSpec)

/-- 'laws.FnClosures', WHERE WHAT IT READS IS OF BULK AT MOST 1048576: true; the input reads as it did. -/
def fnClosuresUptoRow : OpenClaim := { program := "ytkfeajjpbmbmpaagreatdoor", sum := "02b9a86fa902ba6edbffe5962dd83b87ffb709c70b0983bfa437baac1672d8dd", func := "loop.example/g00943/laws.FnClosures", spec := "fnClosures", unfollowed := true, recurses := true, named := ["loop.example/g00943/impl.unitMatrix"], plainKeys := false, apart := false, laid := [("loop.example/g00943/impl.unitMatrix", laid_loop_example_g00943_impl_unitMatrix)], narrowed := true }
def FnClosuresUptoSaid : Prop := fnClosuresUptoRow.holds Tryz.pinned (OpenSpec.upto fnClosuresSpec)

/-- 'laws.FnMeets', WHERE WHAT IT READS IS OF BULK AT MOST 1048576: true; the input reads as it did. -/
def fnMeetsUptoRow : OpenClaim := { program := "ytkfeajjpbmbmpaagreatdoor", sum := "02b9a86fa902ba6edbffe5962dd83b87ffb709c70b0983bfa437baac1672d8dd", func := "loop.example/g00943/laws.FnMeets", spec := "fnMeets", unfollowed := true, recurses := true, named := ["loop.example/g00943/impl.unitMatrix"], plainKeys := false, apart := false, laid := [("loop.example/g00943/impl.unitMatrix", laid_loop_example_g00943_impl_unitMatrix)], narrowed := true }
def FnMeetsUptoSaid : Prop := fnMeetsUptoRow.holds Tryz.pinned (OpenSpec.upto fnMeetsSpec)

/-- 'laws.FnOrbits', WHERE WHAT IT READS IS OF BULK AT MOST 1048576: true; the input reads as it did. -/
def fnOrbitsUptoRow : OpenClaim := { program := "ytkfeajjpbmbmpaagreatdoor", sum := "02b9a86fa902ba6edbffe5962dd83b87ffb709c70b0983bfa437baac1672d8dd", func := "loop.example/g00943/laws.FnOrbits", spec := "fnOrbits", unfollowed := true, recurses := true, named := ["loop.example/g00943/impl.unitMatrix"], plainKeys := false, apart := false, laid := [("loop.example/g00943/impl.unitMatrix", laid_loop_example_g00943_impl_unitMatrix)], narrowed := true }
def FnOrbitsUptoSaid : Prop := fnOrbitsUptoRow.holds Tryz.pinned (OpenSpec.upto fnOrbitsSpec)

/-- 'laws.FnStabilisers', WHERE WHAT IT READS IS OF BULK AT MOST 1048576: true; the input reads as it did. -/
def fnStabilisersUptoRow : OpenClaim := { program := "ytkfeajjpbmbmpaagreatdoor", sum := "02b9a86fa902ba6edbffe5962dd83b87ffb709c70b0983bfa437baac1672d8dd", func := "loop.example/g00943/laws.FnStabilisers", spec := "fnStabilisers", unfollowed := true, recurses := true, named := ["loop.example/g00943/impl.unitMatrix"], plainKeys := false, apart := false, laid := [("loop.example/g00943/impl.unitMatrix", laid_loop_example_g00943_impl_unitMatrix)], narrowed := true }
def FnStabilisersUptoSaid : Prop := fnStabilisersUptoRow.holds Tryz.pinned (OpenSpec.upto fnStabilisersSpec)

end Rows
end Go.Proofs.YtkfeajjpbmbmpaaGreatDoor
