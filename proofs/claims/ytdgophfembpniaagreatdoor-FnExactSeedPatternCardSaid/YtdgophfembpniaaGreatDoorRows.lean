/-
  NARROWER THAN 'FOR EVERY INPUT', by the rows' own cells (each row's printed sentence says how): FnExactIsKept: laid · FnExactOrbitColours: laid · FnExactPaintOrbits: laid · FnExactSeedPattern: laid · FnExactCountKept: laid · FnPainted: laid · FnSeeds: laid.
  DERIVED. THE GIVEN ROWS OF THIS SEAT. 7 by the template 'for every input the law returns true; each argument reads behind the call as it read before'; 0 by the template 'total and deterministic' (their statements: YtdgophfembpniaaGreatDoorTotals.lean).
  GIVEN WITH THE SEED: the statements are not yours to turn. If you find one false, say at which input.
  Laid BY PROGRAM, IN A SANDBOX (cutbox-rows.mjs): the forced cells as the released guide's own fill.sh prints them over the translation 4ef7b02a519ee80b… (all of the seat's roots in one cut). By AI agents, Wed Nov 11 2026. No macro, syntax, notation, axiom, sorry.
-/
import Derived.Test.YtdgophfembpniaaGreatDoorChecked
import GoSem.Claim
import GoSem.ClaimJoined
import GoSem.ClaimMapViews
import Derived.JoinedTies
import Derived.KernelRfl
namespace Go.Proofs.YtdgophfembpniaaGreatDoor
/- THE CELL 'sum', in the pinned program and in every row, IS THE sha256 OF THE DUMP (.gsa) THAT YtdgophfembpniaaGreatDoorProg.lean LOADS. Nothing in Lean hashes anything: it is a label: what it is worth is what the hold of that sum in a sandbox is worth. -/
noncomputable def Tryz.pinned : Pinned := { name := "ytdgophfembpniaagreatdoor", sum := "4ef7b02a519ee80b962644c615ea8e7e9ca2966daf756b5abc6fd2b563bf494e", checked := Tryz.checked }
namespace Rows
def none {H : Type} : Left H := { results := [], args := [] }

/- WHAT THE LISTED PACKAGE-LEVEL VARIABLES READ AS WHEN THE CALL BEGINS. Each datum BY PROGRAM (the guide's laid-datum.mjs) off the statement by which the dump's own 'gosem.cut.vars' lays the variable. In a bare row this is a premise. The card (YtdgophfembpniaaGreatDoorCards.lean) ties it to the program's text. -/
def laid_loop_example_g00943_impl_unitMatrix {H : Type} : DataW H := .agg [.lit (.int .i64 1), .lit (.int .i64 0), .lit (.int .i64 0), .lit (.int .i64 1)]

/-- 'laws.FnExactIsKept': WHATEVER THE INPUT: true; the input reads as it did. -/
def fnExactIsKeptSpec : ChangeSpec := { name := "fnExactIsKept", vars := ["loop.example/g00943/impl.unitMatrix"], fn := fun _ => fun
  | [d1, d2, g1] => { results := [.lit (.bool true)], args := [d1, d2], vars := [g1] }
  | _ => none }
def fnExactIsKeptRow : OpenClaim := { program := "ytdgophfembpniaagreatdoor", sum := "4ef7b02a519ee80b962644c615ea8e7e9ca2966daf756b5abc6fd2b563bf494e", func := "loop.example/g00943/laws.FnExactIsKept", spec := "fnExactIsKept", unfollowed := true, recurses := true, named := ["loop.example/g00943/impl.unitMatrix"], plainKeys := false, apart := false, laid := [("loop.example/g00943/impl.unitMatrix", laid_loop_example_g00943_impl_unitMatrix)] }
def FnExactIsKeptSaid : Prop := fnExactIsKeptRow.holds Tryz.pinned (OpenSpec.ofChange fnExactIsKeptSpec)

/-- ITS FALSE NEIGHBOUR: 'it returns false'. Refute it at one input. -/
def fnExactIsKeptWrong : ChangeSpec := { name := "fnExactIsKept", vars := ["loop.example/g00943/impl.unitMatrix"], fn := fun _ => fun
  | [d1, d2, g1] => { results := [.lit (.bool false)], args := [d1, d2], vars := [g1] }
  | _ => none }
def FnExactIsKeptWrongFalsely : Prop := fnExactIsKeptRow.holds Tryz.pinned (OpenSpec.ofChange fnExactIsKeptWrong)

/-- 'laws.FnExactOrbitColours': WHATEVER THE INPUT: true; the input reads as it did. -/
def fnExactOrbitColoursSpec : ChangeSpec := { name := "fnExactOrbitColours", vars := ["loop.example/g00943/impl.unitMatrix"], fn := fun _ => fun
  | [d1, d2, g1] => { results := [.lit (.bool true)], args := [d1, d2], vars := [g1] }
  | _ => none }
def fnExactOrbitColoursRow : OpenClaim := { program := "ytdgophfembpniaagreatdoor", sum := "4ef7b02a519ee80b962644c615ea8e7e9ca2966daf756b5abc6fd2b563bf494e", func := "loop.example/g00943/laws.FnExactOrbitColours", spec := "fnExactOrbitColours", unfollowed := true, recurses := true, named := ["loop.example/g00943/impl.unitMatrix"], plainKeys := false, apart := false, laid := [("loop.example/g00943/impl.unitMatrix", laid_loop_example_g00943_impl_unitMatrix)] }
def FnExactOrbitColoursSaid : Prop := fnExactOrbitColoursRow.holds Tryz.pinned (OpenSpec.ofChange fnExactOrbitColoursSpec)

/-- ITS FALSE NEIGHBOUR: 'it returns false'. Refute it at one input. -/
def fnExactOrbitColoursWrong : ChangeSpec := { name := "fnExactOrbitColours", vars := ["loop.example/g00943/impl.unitMatrix"], fn := fun _ => fun
  | [d1, d2, g1] => { results := [.lit (.bool false)], args := [d1, d2], vars := [g1] }
  | _ => none }
def FnExactOrbitColoursWrongFalsely : Prop := fnExactOrbitColoursRow.holds Tryz.pinned (OpenSpec.ofChange fnExactOrbitColoursWrong)

/-- 'laws.FnExactPaintOrbits': WHATEVER THE INPUT: true; the input reads as it did. -/
def fnExactPaintOrbitsSpec : ChangeSpec := { name := "fnExactPaintOrbits", vars := ["loop.example/g00943/impl.unitMatrix"], fn := fun _ => fun
  | [d1, d2, d3, d4, g1] => { results := [.lit (.bool true)], args := [d1, d2, d3, d4], vars := [g1] }
  | _ => none }
def fnExactPaintOrbitsRow : OpenClaim := { program := "ytdgophfembpniaagreatdoor", sum := "4ef7b02a519ee80b962644c615ea8e7e9ca2966daf756b5abc6fd2b563bf494e", func := "loop.example/g00943/laws.FnExactPaintOrbits", spec := "fnExactPaintOrbits", unfollowed := true, recurses := true, named := ["loop.example/g00943/impl.unitMatrix"], plainKeys := false, apart := false, laid := [("loop.example/g00943/impl.unitMatrix", laid_loop_example_g00943_impl_unitMatrix)] }
def FnExactPaintOrbitsSaid : Prop := fnExactPaintOrbitsRow.holds Tryz.pinned (OpenSpec.ofChange fnExactPaintOrbitsSpec)

/-- ITS FALSE NEIGHBOUR: 'it returns false'. Refute it at one input. -/
def fnExactPaintOrbitsWrong : ChangeSpec := { name := "fnExactPaintOrbits", vars := ["loop.example/g00943/impl.unitMatrix"], fn := fun _ => fun
  | [d1, d2, d3, d4, g1] => { results := [.lit (.bool false)], args := [d1, d2, d3, d4], vars := [g1] }
  | _ => none }
def FnExactPaintOrbitsWrongFalsely : Prop := fnExactPaintOrbitsRow.holds Tryz.pinned (OpenSpec.ofChange fnExactPaintOrbitsWrong)

/-- 'laws.FnExactSeedPattern': WHATEVER THE INPUT: true; the input reads as it did. -/
def fnExactSeedPatternSpec : ChangeSpec := { name := "fnExactSeedPattern", vars := ["loop.example/g00943/impl.unitMatrix"], fn := fun _ => fun
  | [d1, d2, d3, d4, g1] => { results := [.lit (.bool true)], args := [d1, d2, d3, d4], vars := [g1] }
  | _ => none }
def fnExactSeedPatternRow : OpenClaim := { program := "ytdgophfembpniaagreatdoor", sum := "4ef7b02a519ee80b962644c615ea8e7e9ca2966daf756b5abc6fd2b563bf494e", func := "loop.example/g00943/laws.FnExactSeedPattern", spec := "fnExactSeedPattern", unfollowed := true, recurses := true, named := ["loop.example/g00943/impl.unitMatrix"], plainKeys := false, apart := false, laid := [("loop.example/g00943/impl.unitMatrix", laid_loop_example_g00943_impl_unitMatrix)] }
def FnExactSeedPatternSaid : Prop := fnExactSeedPatternRow.holds Tryz.pinned (OpenSpec.ofChange fnExactSeedPatternSpec)

/-- ITS FALSE NEIGHBOUR: 'it returns false'. Refute it at one input. -/
def fnExactSeedPatternWrong : ChangeSpec := { name := "fnExactSeedPattern", vars := ["loop.example/g00943/impl.unitMatrix"], fn := fun _ => fun
  | [d1, d2, d3, d4, g1] => { results := [.lit (.bool false)], args := [d1, d2, d3, d4], vars := [g1] }
  | _ => none }
def FnExactSeedPatternWrongFalsely : Prop := fnExactSeedPatternRow.holds Tryz.pinned (OpenSpec.ofChange fnExactSeedPatternWrong)

/-- 'laws.FnExactCountKept': WHATEVER THE INPUT: true; the input reads as it did. -/
def fnExactCountKeptSpec : ChangeSpec := { name := "fnExactCountKept", vars := ["loop.example/g00943/impl.unitMatrix"], fn := fun _ => fun
  | [d1, d2, d3, d4, g1] => { results := [.lit (.bool true)], args := [d1, d2, d3, d4], vars := [g1] }
  | _ => none }
def fnExactCountKeptRow : OpenClaim := { program := "ytdgophfembpniaagreatdoor", sum := "4ef7b02a519ee80b962644c615ea8e7e9ca2966daf756b5abc6fd2b563bf494e", func := "loop.example/g00943/laws.FnExactCountKept", spec := "fnExactCountKept", unfollowed := true, recurses := true, named := ["loop.example/g00943/impl.unitMatrix"], plainKeys := false, apart := false, laid := [("loop.example/g00943/impl.unitMatrix", laid_loop_example_g00943_impl_unitMatrix)] }
def FnExactCountKeptSaid : Prop := fnExactCountKeptRow.holds Tryz.pinned (OpenSpec.ofChange fnExactCountKeptSpec)

/-- ITS FALSE NEIGHBOUR: 'it returns false'. Refute it at one input. -/
def fnExactCountKeptWrong : ChangeSpec := { name := "fnExactCountKept", vars := ["loop.example/g00943/impl.unitMatrix"], fn := fun _ => fun
  | [d1, d2, d3, d4, g1] => { results := [.lit (.bool false)], args := [d1, d2, d3, d4], vars := [g1] }
  | _ => none }
def FnExactCountKeptWrongFalsely : Prop := fnExactCountKeptRow.holds Tryz.pinned (OpenSpec.ofChange fnExactCountKeptWrong)

/-- 'laws.FnPainted': WHATEVER THE INPUT: true; the input reads as it did. -/
def fnPaintedSpec : ChangeSpec := { name := "fnPainted", vars := ["loop.example/g00943/impl.unitMatrix"], fn := fun _ => fun
  | [d, g1] => { results := [.lit (.bool true)], args := [d], vars := [g1] }
  | _ => none }
def fnPaintedRow : OpenClaim := { program := "ytdgophfembpniaagreatdoor", sum := "4ef7b02a519ee80b962644c615ea8e7e9ca2966daf756b5abc6fd2b563bf494e", func := "loop.example/g00943/laws.FnPainted", spec := "fnPainted", unfollowed := true, recurses := true, named := ["loop.example/g00943/impl.unitMatrix"], plainKeys := false, apart := false, laid := [("loop.example/g00943/impl.unitMatrix", laid_loop_example_g00943_impl_unitMatrix)] }
def FnPaintedSaid : Prop := fnPaintedRow.holds Tryz.pinned (OpenSpec.ofChange fnPaintedSpec)

/-- ITS FALSE NEIGHBOUR: 'it returns false'. Refute it at one input. -/
def fnPaintedWrong : ChangeSpec := { name := "fnPainted", vars := ["loop.example/g00943/impl.unitMatrix"], fn := fun _ => fun
  | [d, g1] => { results := [.lit (.bool false)], args := [d], vars := [g1] }
  | _ => none }
def FnPaintedWrongFalsely : Prop := fnPaintedRow.holds Tryz.pinned (OpenSpec.ofChange fnPaintedWrong)

/-- 'laws.FnSeeds': WHATEVER THE INPUT: true; the input reads as it did. -/
def fnSeedsSpec : ChangeSpec := { name := "fnSeeds", vars := ["loop.example/g00943/impl.unitMatrix"], fn := fun _ => fun
  | [d, g1] => { results := [.lit (.bool true)], args := [d], vars := [g1] }
  | _ => none }
def fnSeedsRow : OpenClaim := { program := "ytdgophfembpniaagreatdoor", sum := "4ef7b02a519ee80b962644c615ea8e7e9ca2966daf756b5abc6fd2b563bf494e", func := "loop.example/g00943/laws.FnSeeds", spec := "fnSeeds", unfollowed := true, recurses := true, named := ["loop.example/g00943/impl.unitMatrix"], plainKeys := false, apart := false, laid := [("loop.example/g00943/impl.unitMatrix", laid_loop_example_g00943_impl_unitMatrix)] }
def FnSeedsSaid : Prop := fnSeedsRow.holds Tryz.pinned (OpenSpec.ofChange fnSeedsSpec)

/-- ITS FALSE NEIGHBOUR: 'it returns false'. Refute it at one input. -/
def fnSeedsWrong : ChangeSpec := { name := "fnSeeds", vars := ["loop.example/g00943/impl.unitMatrix"], fn := fun _ => fun
  | [d, g1] => { results := [.lit (.bool false)], args := [d], vars := [g1] }
  | _ => none }
def FnSeedsWrongFalsely : Prop := fnSeedsRow.holds Tryz.pinned (OpenSpec.ofChange fnSeedsWrong)

/- THE SECOND FORM. 'bulk': how many values and letters a reading holds, each counted each time it is reached (what is shared counts as often as it is met; a slice's spare places count too). A statement '..UptoSaid' is the law's where the arguments, and the package variables that the reading takes, are together of bulk at most 1048576: NARROWER than '..Said'. Prove '..Said' where nothing that the law and all that it calls make is longer than what came in: it says more and counts as full. Else prove '..UptoSaid'. A law counts once. -/
mutual
def uptoBulk {H : Type} : DataW H → Nat
  | .lit (.string bytes) => bytes.length + 1
  | .lit _ => 1
  | .nil => 1
  | .ptr d => uptoBulk d + 1
  | .slice elems spare => uptoBulkAll elems + uptoBulkAll spare + 1
  | .agg parts => uptoBulkAll parts + 1
  | .iface _ d => uptoBulk d + 1
  | .map entries => uptoBulkEntries entries + 1
  | .held _ => 1
def uptoBulkAll {H : Type} : List (DataW H) → Nat
  | [] => 0
  | d :: r => uptoBulk d + uptoBulkAll r
def uptoBulkEntries {H : Type} : List (Lit × DataW H) → Nat
  | [] => 0
  | x :: r => uptoBulkEntry x + uptoBulkEntries r
def uptoBulkEntry {H : Type} : Lit × DataW H → Nat
  | (.string bytes, d) => bytes.length + uptoBulk d + 1
  | (_, d) => uptoBulk d + 1
 end
def uptoSmall : (H : Type) → List (DataW H) → Bool := fun _ ds => decide (uptoBulkAll ds ≤ 1048576)
def OpenSpec.upto (s : _root_.Go.ChangeSpec) : _root_.Go.OpenSpec := { _root_.Go.OpenSpec.ofChange s with cond := some uptoSmall }

/-- 'laws.FnExactIsKept', WHERE WHAT IT READS IS OF BULK AT MOST 1048576: true; the input reads as it did. -/
def fnExactIsKeptUptoRow : OpenClaim := { program := "ytdgophfembpniaagreatdoor", sum := "4ef7b02a519ee80b962644c615ea8e7e9ca2966daf756b5abc6fd2b563bf494e", func := "loop.example/g00943/laws.FnExactIsKept", spec := "fnExactIsKept", unfollowed := true, recurses := true, named := ["loop.example/g00943/impl.unitMatrix"], plainKeys := false, apart := false, laid := [("loop.example/g00943/impl.unitMatrix", laid_loop_example_g00943_impl_unitMatrix)], narrowed := true }
def FnExactIsKeptUptoSaid : Prop := fnExactIsKeptUptoRow.holds Tryz.pinned (OpenSpec.upto fnExactIsKeptSpec)

/-- 'laws.FnExactOrbitColours', WHERE WHAT IT READS IS OF BULK AT MOST 1048576: true; the input reads as it did. -/
def fnExactOrbitColoursUptoRow : OpenClaim := { program := "ytdgophfembpniaagreatdoor", sum := "4ef7b02a519ee80b962644c615ea8e7e9ca2966daf756b5abc6fd2b563bf494e", func := "loop.example/g00943/laws.FnExactOrbitColours", spec := "fnExactOrbitColours", unfollowed := true, recurses := true, named := ["loop.example/g00943/impl.unitMatrix"], plainKeys := false, apart := false, laid := [("loop.example/g00943/impl.unitMatrix", laid_loop_example_g00943_impl_unitMatrix)], narrowed := true }
def FnExactOrbitColoursUptoSaid : Prop := fnExactOrbitColoursUptoRow.holds Tryz.pinned (OpenSpec.upto fnExactOrbitColoursSpec)

/-- 'laws.FnExactPaintOrbits', WHERE WHAT IT READS IS OF BULK AT MOST 1048576: true; the input reads as it did. -/
def fnExactPaintOrbitsUptoRow : OpenClaim := { program := "ytdgophfembpniaagreatdoor", sum := "4ef7b02a519ee80b962644c615ea8e7e9ca2966daf756b5abc6fd2b563bf494e", func := "loop.example/g00943/laws.FnExactPaintOrbits", spec := "fnExactPaintOrbits", unfollowed := true, recurses := true, named := ["loop.example/g00943/impl.unitMatrix"], plainKeys := false, apart := false, laid := [("loop.example/g00943/impl.unitMatrix", laid_loop_example_g00943_impl_unitMatrix)], narrowed := true }
def FnExactPaintOrbitsUptoSaid : Prop := fnExactPaintOrbitsUptoRow.holds Tryz.pinned (OpenSpec.upto fnExactPaintOrbitsSpec)

/-- 'laws.FnExactSeedPattern', WHERE WHAT IT READS IS OF BULK AT MOST 1048576: true; the input reads as it did. -/
def fnExactSeedPatternUptoRow : OpenClaim := { program := "ytdgophfembpniaagreatdoor", sum := "4ef7b02a519ee80b962644c615ea8e7e9ca2966daf756b5abc6fd2b563bf494e", func := "loop.example/g00943/laws.FnExactSeedPattern", spec := "fnExactSeedPattern", unfollowed := true, recurses := true, named := ["loop.example/g00943/impl.unitMatrix"], plainKeys := false, apart := false, laid := [("loop.example/g00943/impl.unitMatrix", laid_loop_example_g00943_impl_unitMatrix)], narrowed := true }
def FnExactSeedPatternUptoSaid : Prop := fnExactSeedPatternUptoRow.holds Tryz.pinned (OpenSpec.upto fnExactSeedPatternSpec)

/-- 'laws.FnExactCountKept', WHERE WHAT IT READS IS OF BULK AT MOST 1048576: true; the input reads as it did. -/
def fnExactCountKeptUptoRow : OpenClaim := { program := "ytdgophfembpniaagreatdoor", sum := "4ef7b02a519ee80b962644c615ea8e7e9ca2966daf756b5abc6fd2b563bf494e", func := "loop.example/g00943/laws.FnExactCountKept", spec := "fnExactCountKept", unfollowed := true, recurses := true, named := ["loop.example/g00943/impl.unitMatrix"], plainKeys := false, apart := false, laid := [("loop.example/g00943/impl.unitMatrix", laid_loop_example_g00943_impl_unitMatrix)], narrowed := true }
def FnExactCountKeptUptoSaid : Prop := fnExactCountKeptUptoRow.holds Tryz.pinned (OpenSpec.upto fnExactCountKeptSpec)

/-- 'laws.FnPainted', WHERE WHAT IT READS IS OF BULK AT MOST 1048576: true; the input reads as it did. -/
def fnPaintedUptoRow : OpenClaim := { program := "ytdgophfembpniaagreatdoor", sum := "4ef7b02a519ee80b962644c615ea8e7e9ca2966daf756b5abc6fd2b563bf494e", func := "loop.example/g00943/laws.FnPainted", spec := "fnPainted", unfollowed := true, recurses := true, named := ["loop.example/g00943/impl.unitMatrix"], plainKeys := false, apart := false, laid := [("loop.example/g00943/impl.unitMatrix", laid_loop_example_g00943_impl_unitMatrix)], narrowed := true }
def FnPaintedUptoSaid : Prop := fnPaintedUptoRow.holds Tryz.pinned (OpenSpec.upto fnPaintedSpec)

/-- 'laws.FnSeeds', WHERE WHAT IT READS IS OF BULK AT MOST 1048576: true; the input reads as it did. -/
def fnSeedsUptoRow : OpenClaim := { program := "ytdgophfembpniaagreatdoor", sum := "4ef7b02a519ee80b962644c615ea8e7e9ca2966daf756b5abc6fd2b563bf494e", func := "loop.example/g00943/laws.FnSeeds", spec := "fnSeeds", unfollowed := true, recurses := true, named := ["loop.example/g00943/impl.unitMatrix"], plainKeys := false, apart := false, laid := [("loop.example/g00943/impl.unitMatrix", laid_loop_example_g00943_impl_unitMatrix)], narrowed := true }
def FnSeedsUptoSaid : Prop := fnSeedsUptoRow.holds Tryz.pinned (OpenSpec.upto fnSeedsSpec)

end Rows
end Go.Proofs.YtdgophfembpniaaGreatDoor
