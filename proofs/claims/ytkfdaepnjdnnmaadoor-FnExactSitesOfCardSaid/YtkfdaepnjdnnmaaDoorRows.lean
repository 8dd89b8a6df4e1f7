/-
  NARROWER THAN 'FOR EVERY INPUT', by the rows' own cells (each row's printed sentence says how): FnExactGroupOfPattern: laid · FnExactIsSymmetry: laid · FnExactWitnessAgainst: laid · FnExactCountSymmetries: laid · FnExactSiteSymmetries: laid · FnExactSitesOf: laid.
  DERIVED. THE GIVEN ROWS OF THIS SEAT. 6 by the template 'for every input the law returns true; each argument reads behind the call as it read before'; 0 by the template 'total and deterministic' (their statements: YtkfdaepnjdnnmaaDoorTotals.lean).
  GIVEN WITH THE SEED: the statements are not yours to turn. If you find one false, say at which input.
  Laid BY PROGRAM, IN A SANDBOX (cutbox-rows.mjs): the forced cells as the released guide's own fill.sh prints them over the translation f7f9dbc6e9b8d8ba… (all of the seat's roots in one cut). By AI agents, Wed Nov 11 2026. No macro, syntax, notation, axiom, sorry.
-/
import Derived.Test.YtkfdaepnjdnnmaaDoorChecked
import GoSem.Claim
import GoSem.ClaimJoined
import GoSem.ClaimMapViews
import Derived.JoinedTies
import Derived.KernelRfl
namespace Go.Proofs.YtkfdaepnjdnnmaaDoor
/- THE CELL 'sum', in the pinned program and in every row, IS THE sha256 OF THE DUMP (.gsa) THAT YtkfdaepnjdnnmaaDoorProg.lean LOADS. Nothing in Lean hashes anything: it is a label: what it is worth is what the hold of that sum in a sandbox is worth. -/
noncomputable def Tryd.pinned : Pinned := { name := "ytkfdaepnjdnnmaadoor", sum := "f7f9dbc6e9b8d8baf57a28bc8b0a9673c823661b81497fca26d51768b8accf28", checked := Tryd.checked }
namespace Rows
def none {H : Type} : Left H := { results := [], args := [] }

/- WHAT THE LISTED PACKAGE-LEVEL VARIABLES READ AS WHEN THE CALL BEGINS. Each datum BY PROGRAM (the guide's laid-datum.mjs) off the statement by which the dump's own 'gosem.cut.vars' lays the variable. In a bare row this is a premise. The card (YtkfdaepnjdnnmaaDoorCards.lean) ties it to the program's text. -/
def laid_loop_example_g00943_impl_unitMatrix {H : Type} : DataW H := .agg [.lit (.int .i64 1), .lit (.int .i64 0), .lit (.int .i64 0), .lit (.int .i64 1)]

/-- 'laws.FnExactGroupOfPattern': WHATEVER THE INPUT: true; the input reads as it did. -/
def fnExactGroupOfPatternSpec : ChangeSpec := { name := "fnExactGroupOfPattern", vars := ["loop.example/g00943/impl.unitMatrix"], fn := fun _ => fun
  | [d, g1] => { results := [.lit (.bool true)], args := [d], vars := [g1] }
  | _ => none }
def fnExactGroupOfPatternRow : OpenClaim := { program := "ytkfdaepnjdnnmaadoor", sum := "f7f9dbc6e9b8d8baf57a28bc8b0a9673c823661b81497fca26d51768b8accf28", func := "loop.example/g00943/laws.FnExactGroupOfPattern", spec := "fnExactGroupOfPattern", unfollowed := true, recurses := true, named := ["loop.example/g00943/impl.unitMatrix"], apart := false, laid := [("loop.example/g00943/impl.unitMatrix", laid_loop_example_g00943_impl_unitMatrix)] }
def FnExactGroupOfPatternSaid : Prop := fnExactGroupOfPatternRow.holds Tryd.pinned (OpenSpec.ofChange fnExactGroupOfPatternSpec)

/-- ITS FALSE NEIGHBOUR: 'it returns false'. Refute it at one input. -/
def fnExactGroupOfPatternWrong : ChangeSpec := { name := "fnExactGroupOfPattern", vars := ["loop.example/g00943/impl.unitMatrix"], fn := fun _ => fun
  | [d, g1] => { results := [.lit (.bool false)], args := [d], vars := [g1] }
  | _ => none }
def FnExactGroupOfPatternWrongFalsely : Prop := fnExactGroupOfPatternRow.holds Tryd.pinned (OpenSpec.ofChange fnExactGroupOfPatternWrong)

/-- 'laws.FnExactIsSymmetry': WHATEVER THE INPUT: true; the input reads as it did. -/
def fnExactIsSymmetrySpec : ChangeSpec := { name := "fnExactIsSymmetry", vars := ["loop.example/g00943/impl.unitMatrix"], fn := fun _ => fun
  | [d1, d2, g1] => { results := [.lit (.bool true)], args := [d1, d2], vars := [g1] }
  | _ => none }
def fnExactIsSymmetryRow : OpenClaim := { program := "ytkfdaepnjdnnmaadoor", sum := "f7f9dbc6e9b8d8baf57a28bc8b0a9673c823661b81497fca26d51768b8accf28", func := "loop.example/g00943/laws.FnExactIsSymmetry", spec := "fnExactIsSymmetry", unfollowed := true, recurses := true, named := ["loop.example/g00943/impl.unitMatrix"], apart := false, laid := [("loop.example/g00943/impl.unitMatrix", laid_loop_example_g00943_impl_unitMatrix)] }
def FnExactIsSymmetrySaid : Prop := fnExactIsSymmetryRow.holds Tryd.pinned (OpenSpec.ofChange fnExactIsSymmetrySpec)

/-- ITS FALSE NEIGHBOUR: 'it returns false'. Refute it at one input. -/
def fnExactIsSymmetryWrong : ChangeSpec := { name := "fnExactIsSymmetry", vars := ["loop.example/g00943/impl.unitMatrix"], fn := fun _ => fun
  | [d1, d2, g1] => { results := [.lit (.bool false)], args := [d1, d2], vars := [g1] }
  | _ => none }
def FnExactIsSymmetryWrongFalsely : Prop := fnExactIsSymmetryRow.holds Tryd.pinned (OpenSpec.ofChange fnExactIsSymmetryWrong)

/-- 'laws.FnExactWitnessAgainst': WHATEVER THE INPUT: true; the input reads as it did. -/
def fnExactWitnessAgainstSpec : ChangeSpec := { name := "fnExactWitnessAgainst", vars := ["loop.example/g00943/impl.unitMatrix"], fn := fun _ => fun
  | [d1, d2, g1] => { results := [.lit (.bool true)], args := [d1, d2], vars := [g1] }
  | _ => none }
def fnExactWitnessAgainstRow : OpenClaim := { program := "ytkfdaepnjdnnmaadoor", sum := "f7f9dbc6e9b8d8baf57a28bc8b0a9673c823661b81497fca26d51768b8accf28", func := "loop.example/g00943/laws.FnExactWitnessAgainst", spec := "fnExactWitnessAgainst", unfollowed := true, recurses := true, named := ["loop.example/g00943/impl.unitMatrix"], apart := false, laid := [("loop.example/g00943/impl.unitMatrix", laid_loop_example_g00943_impl_unitMatrix)] }
def FnExactWitnessAgainstSaid : Prop := fnExactWitnessAgainstRow.holds Tryd.pinned (OpenSpec.ofChange fnExactWitnessAgainstSpec)

/-- ITS FALSE NEIGHBOUR: 'it returns false'. Refute it at one input. -/
def fnExactWitnessAgainstWrong : ChangeSpec := { name := "fnExactWitnessAgainst", vars := ["loop.example/g00943/impl.unitMatrix"], fn := fun _ => fun
  | [d1, d2, g1] => { results := [.lit (.bool false)], args := [d1, d2], vars := [g1] }
  | _ => none }
def FnExactWitnessAgainstWrongFalsely : Prop := fnExactWitnessAgainstRow.holds Tryd.pinned (OpenSpec.ofChange fnExactWitnessAgainstWrong)

/-- 'laws.FnExactCountSymmetries': WHATEVER THE INPUT: true; the input reads as it did. -/
def fnExactCountSymmetriesSpec : ChangeSpec := { name := "fnExactCountSymmetries", vars := ["loop.example/g00943/impl.unitMatrix"], fn := fun _ => fun
  | [d, g1] => { results := [.lit (.bool true)], args := [d], vars := [g1] }
  | _ => none }
def fnExactCountSymmetriesRow : OpenClaim := { program := "ytkfdaepnjdnnmaadoor", sum := "f7f9dbc6e9b8d8baf57a28bc8b0a9673c823661b81497fca26d51768b8accf28", func := "loop.example/g00943/laws.FnExactCountSymmetries", spec := "fnExactCountSymmetries", unfollowed := true, recurses := true, named := ["loop.example/g00943/impl.unitMatrix"], apart := false, laid := [("loop.example/g00943/impl.unitMatrix", laid_loop_example_g00943_impl_unitMatrix)] }
def FnExactCountSymmetriesSaid : Prop := fnExactCountSymmetriesRow.holds Tryd.pinned (OpenSpec.ofChange fnExactCountSymmetriesSpec)

/-- ITS FALSE NEIGHBOUR: 'it returns false'. Refute it at one input. -/
def fnExactCountSymmetriesWrong : ChangeSpec := { name := "fnExactCountSymmetries", vars := ["loop.example/g00943/impl.unitMatrix"], fn := fun _ => fun
  | [d, g1] => { results := [.lit (.bool false)], args := [d], vars := [g1] }
  | _ => none }
def FnExactCountSymmetriesWrongFalsely : Prop := fnExactCountSymmetriesRow.holds Tryd.pinned (OpenSpec.ofChange fnExactCountSymmetriesWrong)

/-- 'laws.FnExactSiteSymmetries': WHATEVER THE INPUT: true; the input reads as it did. -/
def fnExactSiteSymmetriesSpec : ChangeSpec := { name := "fnExactSiteSymmetries", vars := ["loop.example/g00943/impl.unitMatrix"], fn := fun _ => fun
  | [d1, d2, g1] => { results := [.lit (.bool true)], args := [d1, d2], vars := [g1] }
  | _ => none }
def fnExactSiteSymmetriesRow : OpenClaim := { program := "ytkfdaepnjdnnmaadoor", sum := "f7f9dbc6e9b8d8baf57a28bc8b0a9673c823661b81497fca26d51768b8accf28", func := "loop.example/g00943/laws.FnExactSiteSymmetries", spec := "fnExactSiteSymmetries", unfollowed := true, recurses := true, named := ["loop.example/g00943/impl.unitMatrix"], apart := false, laid := [("loop.example/g00943/impl.unitMatrix", laid_loop_example_g00943_impl_unitMatrix)] }
def FnExactSiteSymmetriesSaid : Prop := fnExactSiteSymmetriesRow.holds Tryd.pinned (OpenSpec.ofChange fnExactSiteSymmetriesSpec)

/-- ITS FALSE NEIGHBOUR: 'it returns false'. Refute it at one input. -/
def fnExactSiteSymmetriesWrong : ChangeSpec := { name := "fnExactSiteSymmetries", vars := ["loop.example/g00943/impl.unitMatrix"], fn := fun _ => fun
  | [d1, d2, g1] => { results := [.lit (.bool false)], args := [d1, d2], vars := [g1] }
  | _ => none }
def FnExactSiteSymmetriesWrongFalsely : Prop := fnExactSiteSymmetriesRow.holds Tryd.pinned (OpenSpec.ofChange fnExactSiteSymmetriesWrong)

/-- 'laws.FnExactSitesOf': WHATEVER THE INPUT: true; the input reads as it did. -/
def fnExactSitesOfSpec : ChangeSpec := { name := "fnExactSitesOf", vars := ["loop.example/g00943/impl.unitMatrix"], fn := fun _ => fun
  | [d, g1] => { results := [.lit (.bool true)], args := [d], vars := [g1] }
  | _ => none }
def fnExactSitesOfRow : OpenClaim := { program := "ytkfdaepnjdnnmaadoor", sum := "f7f9dbc6e9b8d8baf57a28bc8b0a9673c823661b81497fca26d51768b8accf28", func := "loop.example/g00943/laws.FnExactSitesOf", spec := "fnExactSitesOf", unfollowed := true, recurses := true, named := ["loop.example/g00943/impl.unitMatrix"], apart := false, laid := [("loop.example/g00943/impl.unitMatrix", laid_loop_example_g00943_impl_unitMatrix)] }
def FnExactSitesOfSaid : Prop := fnExactSitesOfRow.holds Tryd.pinned (OpenSpec.ofChange fnExactSitesOfSpec)

/-- ITS FALSE NEIGHBOUR: 'it returns false'. Refute it at one input. -/
def fnExactSitesOfWrong : ChangeSpec := { name := "fnExactSitesOf", vars := ["loop.example/g00943/impl.unitMatrix"], fn := fun _ => fun
  | [d, g1] => { results := [.lit (.bool false)], args := [d], vars := [g1] }
  | _ => none }
def FnExactSitesOfWrongFalsely : Prop := fnExactSitesOfRow.holds Tryd.pinned (OpenSpec.ofChange fnExactSitesOfWrong)

/- THE SECOND FORM. 'bulk': how many values and letters a reading holds, each counted each time it is reached (what is shared counts as often as it is met; a slice's spare places count too). A statement '..UptoSaid' is the law's where the arguments, and the package variables that the reading takes, are together of bulk at most 1048576: NARROWER than '..Said'. Prove '..Said' where nothing that the law and all that it calls make is longer than what came in: it says more and counts as full. Else prove '..UptoSaid'. A law counts once. -/
mutual
def uptoBulk {H : Type} : DataW H → Nat
  | .lit (.string bytes) => bytes.length + 1
  | .lit _ => 1
  | .nil => 1
  | .ptr d => uptoBulk d + 1
  | .slice elems spare => uptoBulkAll elems + uptoBulkAll spare + 1
  | .agg parts => uptoBulkAll parts + 1
  | .iface _ d => uptoBulk d + 1
  | .map entries => uptoBulkEntries entries + 1
  | .held _ => 1
def uptoBulkAll {H : Type} : List (DataW H) → Nat
  | [] => 0
  | d :: r => uptoBulk d + uptoBulkAll r
def uptoBulkEntries {H : Type} : List (Lit × DataW H) → Nat
  | [] => 0
  | x :: r => uptoBulkEntry x + uptoBulkEntries r
def uptoBulkEntry {H : Type} : Lit × DataW H → Nat
  | (.string bytes, d) => bytes.length + uptoBulk d + 1
  | (_, d) => uptoBulk d + 1
 end
def uptoSmall : (H : Type) → List (DataW H) → Bool := fun _ ds => decide (uptoBulkAll ds ≤ 1048576)
def OpenSpec.upto (s : _root_.Go.ChangeSpec) : _root_.Go.OpenSpec := { _root_.Go.OpenSpec.ofChange s with cond := some uptoSmall }

/-- 'laws.FnExactGroupOfPattern', WHERE WHAT IT READS IS OF BULK AT MOST 1048576: true; the input reads as it did. -/
def fnExactGroupOfPatternUptoRow : OpenClaim := { program := "ytkfdaepnjdnnmaadoor", sum := "f7f9dbc6e9b8d8baf57a28bc8b0a9673c823661b81497fca26d51768b8accf28", func := "loop.example/g00943/laws.FnExactGroupOfPattern", spec := "fnExactGroupOfPattern", unfollowed := true, recurses := true, named := ["loop.example/g00943/impl.unitMatrix"], apart := false, laid := [("loop.example/g00943/impl.unitMatrix", laid_loop_example_g00943_impl_unitMatrix)], narrowed := true }
def FnExactGroupOfPatternUptoSaid : Prop := fnExactGroupOfPatternUptoRow.holds Tryd.pinned (OpenSpec.upto fnExactGroupOfPatternSpec)

/-- 'laws.FnExactIsSymmetry', WHERE WHAT IT READS IS OF BULK AT MOST 1048576: true; the input reads as it did. -/
def fnExactIsSymmetryUptoRow : OpenClaim := { program := "ytkfdaepnjdnnmaadoor", sum := "f7f9dbc6e9b8d8baf57a28bc8b0a9673c823661b81497fca26d51768b8accf28", func := "loop.example/g00943/laws.FnExactIsSymmetry", spec := "fnExactIsSymmetry", unfollowed := true, recurses := true, named := ["loop.example/g00943/impl.unitMatrix"], apart := false, laid := [("loop.example/g00943/impl.unitMatrix", laid_loop_example_g00943_impl_unitMatrix)], narrowed := true }
def FnExactIsSymmetryUptoSaid : Prop := fnExactIsSymmetryUptoRow.holds Tryd.pinned (OpenSpec.upto fnExactIsSymmetrySpec)

/-- 'laws.FnExactWitnessAgainst', WHERE WHAT IT READS IS OF BULK AT MOST 1048576: true; the input reads as it did. -/
def fnExactWitnessAgainstUptoRow : OpenClaim := { program := "ytkfdaepnjdnnmaadoor", sum := "f7f9dbc6e9b8d8baf57a28bc8b0a9673c823661b81497fca26d51768b8accf28", func := "loop.example/g00943/laws.FnExactWitnessAgainst", spec := "fnExactWitnessAgainst", unfollowed := true, recurses := true, named := ["loop.example/g00943/impl.unitMatrix"], apart := false, laid := [("loop.example/g00943/impl.unitMatrix", laid_loop_example_g00943_impl_unitMatrix)], narrowed := true }
def FnExactWitnessAgainstUptoSaid : Prop := fnExactWitnessAgainstUptoRow.holds Tryd.pinned (OpenSpec.upto fnExactWitnessAgainstSpec)

/-- 'laws.FnExactCountSymmetries', WHERE WHAT IT READS IS OF BULK AT MOST 1048576: true; the input reads as it did. -/
def fnExactCountSymmetriesUptoRow : OpenClaim := { program := "ytkfdaepnjdnnmaadoor", sum := "f7f9dbc6e9b8d8baf57a28bc8b0a9673c823661b81497fca26d51768b8accf28", func := "loop.example/g00943/laws.FnExactCountSymmetries", spec := "fnExactCountSymmetries", unfollowed := true, recurses := true, named := ["loop.example/g00943/impl.unitMatrix"], apart := false, laid := [("loop.example/g00943/impl.unitMatrix", laid_loop_example_g00943_impl_unitMatrix)], narrowed := true }
def FnExactCountSymmetriesUptoSaid : Prop := fnExactCountSymmetriesUptoRow.holds Tryd.pinned (OpenSpec.upto fnExactCountSymmetriesSpec)

/-- 'laws.FnExactSiteSymmetries', WHERE WHAT IT READS IS OF BULK AT MOST 1048576: true; the input reads as it did. -/
def fnExactSiteSymmetriesUptoRow : OpenClaim := { program := "ytkfdaepnjdnnmaadoor", sum := "f7f9dbc6e9b8d8baf57a28bc8b0a9673c823661b81497fca26d51768b8accf28", func := "loop.example/g00943/laws.FnExactSiteSymmetries", spec := "fnExactSiteSymmetries", unfollowed := true, recurses := true, named := ["loop.example/g00943/impl.unitMatrix"], apart := false, laid := [("loop.example/g00943/impl.unitMatrix", laid_loop_example_g00943_impl_unitMatrix)], narrowed := true }
def FnExactSiteSymmetriesUptoSaid : Prop := fnExactSiteSymmetriesUptoRow.holds Tryd.pinned (OpenSpec.upto fnExactSiteSymmetriesSpec)

/-- 'laws.FnExactSitesOf', WHERE WHAT IT READS IS OF BULK AT MOST 1048576: true; the input reads as it did. -/
def fnExactSitesOfUptoRow : OpenClaim := { program := "ytkfdaepnjdnnmaadoor", sum := "f7f9dbc6e9b8d8baf57a28bc8b0a9673c823661b81497fca26d51768b8accf28", func := "loop.example/g00943/laws.FnExactSitesOf", spec := "fnExactSitesOf", unfollowed := true, recurses := true, named := ["loop.example/g00943/impl.unitMatrix"], apart := false, laid := [("loop.example/g00943/impl.unitMatrix", laid_loop_example_g00943_impl_unitMatrix)], narrowed := true }
def FnExactSitesOfUptoSaid : Prop := fnExactSitesOfUptoRow.holds Tryd.pinned (OpenSpec.upto fnExactSitesOfSpec)

end Rows
end Go.Proofs.YtkfdaepnjdnnmaaDoor
